import Derived.Test.YtgmlkfgfjjggnaaGreatDoorSAK
import Derived.Deep.RegionLaw
import Derived.Stop.RegionWithIn
import Derived.Below
import Derived.ProofKit
import Derived.OpenShut
import Derived.ShutString
import Derived.ChangeOld
import Derived.Test.YtgmlkfgfjjggnaaGreatDoorSAA
import Derived.Test.YtgmlkfgfjjggnaaGreatDoorSAB
import Derived.BigRegion
import Derived.Test.YtgmlkfgfjjggnaaGreatDoorSAJ
set_option linter.unusedVariables false
set_option linter.unusedSimpArgs false
set_option maxHeartbeats 40000000
set_option maxRecDepth 100000
namespace Go.Proofs.YtgmlkfgfjjggnaaGreatDoor
section
open Go.RowKit Go.Shelf
attribute [local go_sem] run_store_float run_equalIn_float Oper.semAt_some
structure KpB (p n0:Nat) (A B:World):Prop where
 size:A.heap.size<=B.heap.size
 block:∀b,b<n0->b≠p->B.heap[b]?=A.heap[b]?
theorem KpB.refl(p n0:Nat)(A:World):KpB p n0 A A:=⟨Nat.le_refl _,fun _ _ _=>rfl⟩
theorem KpB.trans{p n0:Nat}{A B C:World}(h:KpB p n0 A B)(k:KpB p n0 B C):KpB p n0 A C:=⟨Nat.le_trans h.size k.size,fun b h1 h2=>(k.block b h1 h2).trans (h.block b h1 h2)⟩
theorem KpB.put{p n0:Nat}{w:World}(hn:n0<=w.heap.size)(W:World)(l:Nat)(o o':Obj)(hl:w.heap.size<=l)(h:W.heap[l]?=some o)(_:o.isCells=false)(_:o.isWalk=false):KpB p n0 W (W.putObj l o'):=by
 have hb:=(Below.refl n0 W).grown (grownBy_putObj' W l o') (by have:=(Array.getElem?_eq_some_iff.1 h).1;omega) (fun k e=>by cases e;omega)
 exact⟨hb.size,fun b h1 _=>hb.block b h1⟩
theorem kept_cells{A B:World}{row:Option Nat}{b:Nat}{c:Array Value}{t:TypeId}{fz:Nat×Nat}{D:Nat}(h:A.heap[b]?=some (.cells c t fz))(hg:A.grownBy B row)(hr:∀r,row=some r->D<=r/\∃o:Obj,A.heap[r]?=some o/\o.isCells=false):B.heap[b]?=A.heap[b]?:=
 hg.block b (Array.getElem?_eq_some_iff.1 h).1 (fun e=>by
  obtain⟨_,o,ho,hc⟩:=hr b e.symm
  rw[h]at ho
  cases ho
  cases hc)
theorem own_keptO{A B:World}{row:Option Nat}{D base e size:Nat}{v:Value}{n:Nat}{xs:List Value}(h:A.ownsRow base e size v n xs)(hg:A.grownBy B row)(hr:∀r,row=some r->D<=r/\∃o:Obj,A.heap[r]?=some o/\o.isCells=false):B.ownsRow base e size v n xs:=by
 obtain⟨hl,h|⟨g,cap,cur,h1,h2,h3,h4⟩⟩:=h
 ·exact⟨hl,.inl h⟩
 ·exact⟨hl,.inr ⟨g,cap,cur,h1,h2,(kept_cells h3 hg hr).trans h3,h4⟩⟩
section
variable {P:Program}
end
theorem living_stopsP(n:Nat)(hn:1<=n)(bk R0 R1 R2 mb p n0:Nat)(E S:Nat->Nat)(d:Dc)(w:World)(hB:Book w bk R0 R1 R2 E S d)(hS:Small d)(hR:0<d.n->R0<n0/\R0≠p)(hE:∀i,i<d.n->E i<n0/\E i≠p)
  (m0:w.cell? ⟨mb,0,none⟩=some (.pointer (some ⟨bk,0,none⟩))):
  SeqStopsK Fence.wide n Tryz.prog 248 #[.pointer (some ⟨mb,0,none⟩)] (fun a:Liv d=>#[.pointer (some ⟨E a.1,0,none⟩)]) (KpB p n0)
   (LvAll d) (LvPre d) d.n w:=fun l J Jx W hW hJ hJx hY h0=>by
 have lm:=World.block_lt_of_cell? _ _ m0
 have m0:=(hW.cell (p:=⟨mb,0,none⟩) lm).trans m0
 have hBk:=hB.below hW
 obtain⟨a0,k0,c0,ha0⟩:=hBk.c0
 have HA0:=uy ha0
 clear ha0
 have lb:=hBk.lt
 have hnn:=hS.n
 have HY:=uy hY
 have H0:=uy h0
 have HBk:=uy hBk
 have HE:=uy hE
 clear hJx hJ hY hW h0 hBk hB hS hE
 refine callsIn_of_wp Tryz.func248 rfl trivial ?_ rfl
 simp only[Tryz.ntmps248,List.size_toArray,List.length_cons,List.length_nil,Nat.reduceAdd,Nat.reduceSub,Array.replicate_succ,Array.replicate_zero,List.push_toArray,List.append_toArray,List.nil_append,List.cons_append]
 gi_wp2
 gi_loopw [10] (fun i wr=>∃(k:Nat) (pre:List (Liv d)),k<=d.n/\i=.int .i64 (k:Int)/\LvTo d k pre/\J pre wr/\KpB p n0 W wr) (fun i _=>d.n-(intOf i).toNat)
 case atStart=>exact⟨0,[],by omega,rfl,rfl,uh H0,KpB.refl _ _ _⟩
 case round=>
  obtain⟨k,pre,hk,rfl,hlv,hJp,hbw⟩:=hrel
  by_cases hkn:k<d.n
  ·obtain rfl:=uh HA0 (by omega)
   have p0:=(World.cell?_of_block (a:=⟨R0,k,none⟩) (hbw.block _ (hR (by omega)).1 (hR (by omega)).2)).trans ((uh HBk).r0 k hkn)
   have t0:=(World.cell?_of_block (a:=⟨E k,10,none⟩) (hbw.block _ (uh HE k hkn).1 (uh HE k hkn).2)).trans ((uh HBk).ent k hkn).tn
   have HLV:=uy hlv
   have HBW:=uy hbw
   clear hlv hbw
   by_cases ht:(d.L k).turn=0
   ·have HN:Hid (LvTo d (k+1) pre):=uy (by unfold LvTo;rw[livL_dead ht];exact uh HLV)
    rw[ht]at t0
    clear ht
    gi_wp2
    refine⟨fun _ h=>(by cases h),?_⟩
    gi_wp2
    go_roundw
    case rel=>exact⟨k+1,pre,by omega,by go_num,uh HN,hJp,uh HBW⟩
    case measure=>simp[intOf];omega
   ·have ht':((d.L k).turn !=0)=true:=by simp[ht]
    obtain⟨fn,tmps,assign,body,hy,hRR⟩:=uh HY pre ⟨k,hkn,ht⟩ wr hJp (by
     have h1:(pre.map (·.1)).length=(livL d k).length:=congrArg List.length (uh HLV)
     rw[List.length_map]at h1
     have:=livL_le d k
     omega)
    have HN:Hid (LvTo d (k+1) (pre++[⟨k,hkn,ht⟩])):=uy (by
     unfold LvTo
     rw[livL_live ht,List.map_append,show pre.map (·.1)=livL d k from uh HLV]
     rfl)
    have HR:=uy hRR
    clear hRR hJp
    dsimp only at hy
    gi_wp2
    refine(uh HR).mono ?_
    rintro e W3 (⟨rfl,hJ3,hk3⟩|⟨rfl,hJx3⟩)
    ·clear HR hy
     gi_wp2
     go_roundw
     case rel=>exact⟨k+1,_,by omega,by go_num,uh HN,hJ3,(uh HBW).trans hk3⟩
     case measure=>simp[intOf];omega
    ·clear HR hy
     gi_wp2
     refine bodyPost_ret (results_none rfl _ _ _) rfl ?_
     exact⟨⟨_,rfl⟩,.inr ⟨_,(uh HN).pre (by omega),hJx3⟩⟩
  ·have hkn':k=d.n:=by omega
   subst hkn'
   have HS:=uy hlv
   clear hlv
   gi_wp2
   go_end0
   exact⟨⟨_,rfl⟩,.inl ⟨pre,uh HS,hJp⟩⟩
end
section
open Go.RowKit
attribute [local go_sem] run_store_float run_equalIn_float
theorem textValueP(s:ByteArray)(w:World):
  Calls Tryz.prog 211 #[.string s] w fun e w'=>e=.returned (V 4 0 0 s 0)/\Below w.heap.size w w':=by
 go_enter Tryz.func211,Tryz.ntmps211
 go_wp2
 exact bodyPost_ret (v:=V 4 0 0 s 0) (by simp[results,Tryz.results211,go_sem]) rfl ⟨rfl,(Below.refl _ _).alloc (Nat.le_refl _) _⟩
def tabF(s:Sto)(j:Nat)(t:Tb)(i:Nat):Pr:=⟨⟨4,0,0,fld s.F j i,0⟩,t.V i,(i:Int)+1⟩
theorem shapedPairs_nd(s:Sto)(b0:Nat)(B N:Nat->Nat)(M:Nat->Option Nat)(A:Ad)(t:Tb)(j:Nat)(w:World)(hN:NodesP w s.F b0 s.nf B N M)(hid:∀i,i<s.nf->N i=i)(h0:forestOk s.nf s.F=0)(hj:j<s.nf)(hV:VAt w A.va t.nv t.V)(hnv:t.nv=nf s.F j):
  Calls Tryz.prog 157 #[ShdA (B j) A t] w fun e w'=>(∃v,e=.returned v/\POwn w' w.heap.size v (nf s.F j) (tabF s j t))/\Below w.heap.size w w':=by
 obtain⟨h1,h2,h3,h4,h5⟩:=forestOk_zero h0
 have hn12:nf s.F j<=12:=by have:=(count_bound (k:=s.nf) h2 (fun q h1 h2=>h3 q h1 h2) j hj).2;unfold nf;omega
 obtain⟨i0,hi,hz0,hzs,hzb⟩:=info_parts infoPair
 obtain⟨W,hW⟩:∃W,W=w.alloc (.cells #[.slice A.va t.nv A.vc,.slice A.la t.d.n A.lc,.slice A.ia t.d.m A.ic,.slice A.xa t.d.x A.xc,.int .i64 t.d.used,.int .i64 t.d.live,.int .i64 t.d.turns,.pointer (some ⟨B j,0,none⟩)] 236):=⟨_,rfl⟩
 have hbW:Below w.heap.size w W:=by rw[hW];exact(Below.refl _ _).alloc (Nat.le_refl _) _
 have lw:w.heap.size<W.heap.size:=by rw[hW];simp
 have x0:W.cell? ⟨w.heap.size,0,none⟩=some (.slice A.va t.nv A.vc):=by rw[hW];simp[go_sem]
 have x7:W.cell? ⟨w.heap.size,7,none⟩=some (.pointer (some ⟨B j,0,none⟩)):=by rw[hW];simp[go_sem]
 have HNW:=uy (And.intro (hN.below hbW) hid)
 have HVW:=uy (hV.below hbW rfl)
 have HBW:=uy hbW
 have H2:=uy h2
 have H3:=uy h3
 have HNV:=uy hnv
 clear hbW hV hN hid h0 h1 h2 h3 h4 h5 hnv
 obtain⟨n,hn⟩:∃n,n=nf s.F j:=⟨_,rfl⟩
 rw[<-hn]at hn12 HNV ⊢
 have HNN:=uy hn
 go_enter Tryz.func157,Tryz.ntmps157
 go_wp2_with fail
 rw[<-hW]
 clear hW
 refine(fields_any _ s.F b0 s.nf B N M (uh HNW).1 (uh HNW).2 (uh H2) (uh H3) j hj).mono ?_
 rintro e w1 ⟨⟨m,rfl,hm,hrow⟩,hb1⟩
 rw[<-hn]at hrow ⊢
 clear hn
 have y0:=(hb1.cell (p:=⟨w.heap.size,0,none⟩) lw).trans x0
 have lw1:w.heap.size<w1.heap.size:=Nat.lt_of_lt_of_le lw hb1.size
 have lm1:=World.rowIs.lt hrow
 have HV1:=uy ((uh HVW).below hb1 rfl)
 have HB1:=uy ((uh HBW).trans (hb1.mono (uh HBW).size))
 have HR1:=uy hrow
 clear hb1 x0 x7 hrow HVW HNW
 go_wp2
 go_loopw [3,10] (fun v i wr=>∃(k:Nat),k<=n/\i=.int .i64 k/\POwn wr w1.heap.size v k (tabF s j t)/\Below w1.heap.size w1 wr) (fun _ i _=>n-(intOf i).toNat)
 case atStart=>exact⟨0,by omega,rfl,World.ownsRow_nil _ _ _ _,Below.refl _ _⟩
 case round=>
  obtain⟨k,hk,rfl,ho,hb⟩:=hrel
  by_cases hkn:k<n
  case neg=>
   have hke:k=n:=by omega
   have HB2:=uy ((uh HB1).trans (hb.mono (uh HB1).size))
   have HO:=uy ho
   clear hb ho hkn
   subst hke
   go_wp2
   go_ret
   exact⟨⟨_,rfl,own_mono (uh HO) (uh HB1).size⟩,uh HB2⟩
  obtain⟨b,off,hva,hbl,hcs⟩:=(uh HV1).resolve_left (by have:=uh HNV;omega)
  have hkv:k<t.nv:=by have:=uh HNV;omega
  obtain⟨e0,e1,e2,e3,e4⟩:=(hcs k hkv).keep (fun q=>hb.cell (p:=⟨b,q,none⟩) hbl)
  have p0:wr.cell? ⟨w.heap.size,0,none⟩=some (.slice (some ⟨b,off,none⟩) t.nv A.vc):=by rw[<-hva];exact(hb.cell (p:=⟨w.heap.size,0,none⟩) lw1).trans y0
  have q0:wr.cell? ⟨m,k,none⟩=some (.string (fld s.F j k)):=(hb.cell (p:=⟨m,k,none⟩) lm1).trans (World.rowIs.cell (uh HR1) hkn)
  have hbz:=hb.size
  have lwr:w.heap.size<wr.heap.size:=by omega
  have lbr:b<wr.heap.size:=by omega
  have HB2:=uy hb
  have HOW:Hid (POwn wr.drew w1.heap.size u3 k (tabF s j t)):=uy ho.drew
  have hltv:=uy ho.lt
  clear hb ho hcs hva
  go_wp2_with fail
  have hwk:IntKind.i64.wrap ((k:Int)+1)=(k:Int)+1:=by rw[IntKind.wrap_i64];omega
  go_region_law (first
   |(go_simp;go_at_call 211;refine(textValueP (fld s.F j k) _).mono ?_;rintro e w2 ⟨rfl,hb2⟩;have hz2:wr.heap.size<=w2.heap.size:=hb2.size;have p02:=(hb2.cell (p:=⟨w.heap.size,0,none⟩) lwr).trans p0;have e02:=(hb2.cell (p:=⟨b,off+k*5,none⟩) lbr).trans e0;have e12:=(hb2.cell (p:=⟨b,off+k*5+1,none⟩) lbr).trans e1;have e22:=(hb2.cell (p:=⟨b,off+k*5+2,none⟩) lbr).trans e2;have e32:=(hb2.cell (p:=⟨b,off+k*5+3,none⟩) lbr).trans e3;have e42:=(hb2.cell (p:=⟨b,off+k*5+4,none⟩) lbr).trans e4;have l2:w.heap.size<w2.heap.size:=(by omega);have lb2:b<w2.heap.size:=(by omega);have HO2:=uy (own_belowK (uh HOW) hb2);have HB3:=uy ((uh HB2).trans (show Below w1.heap.size wr w2 from⟨hb2.os,hb2.tape,hb2.output,hb2.size,fun k hk=>hb2.block k (by show k<wr.heap.size;omega)⟩));clear hb2)
   |(refine step_append_lies _ rfl (.tmp 15) (.tmp 27) 85 rfl w1.heap.size 96 i0 PZ 11 104 Tryz.underlying85 hi hz0 hzs hzb rfl (by decide) u3 k (pL (tabF s j t) k) (by simp[Act.eval]) ((uh HO2).alloc _) ⟨w2.heap.size,0,none⟩ 1 1 (prL (tabF s j t k)) (by simp[Act.eval]) rfl (World.news_of_block (Deep.blk_alloc_new _ _)) (prL_one _) (by decide) (by unfold maxLen;omega) (by omega) (by simp;omega) _ rfl ?_;intro g3 cp3 w3 hown3 hgr3 hloc3 hlt3;have HB4:=uy (((uh HB3).alloc (by omega) _).trans (grown_below hgr3 (fun q e=>(uh hltv q e).1) (by simp;omega)));have HO3:=uy hown3;clear hown3 hgr3))
  all_goals
   clear e0 e1 e2 e3 e4 p0 q0 e02 e12 e22 e32 e42 p02
   go_wp2
   go_roundw
   case rel=>exact⟨k+1,by omega,by go_num,uh HO3,uh HB4⟩
   case measure=>simp[intOf];omega
end
section
open Go.RowKit
attribute [local go_sem] run_store_float run_equalIn_float
open Classical in
noncomputable def tnN(s:Sto)(t:Tb):Nat:=if t.shape=-1 then lvN t.d else nf s.F t.shape.toNat
open Classical in
noncomputable def tnF(s:Sto)(t:Tb):Nat->Pr:=if t.shape=-1 then lvF t.d else tabF s t.shape.toNat t
theorem ta1(v:Value)(W:World):Sem.run Tryz.prog (Instr.typeAssert (.iface 236 v) 162 236 true) W=.ok (.tuple #[v,.bool true]) W:=by
 kernel_rfl
theorem ta2(v:Value)(W:World):Sem.run Tryz.prog (Instr.typeAssert (.iface 239 v) 162 239 true) W=.ok (.tuple #[v,.bool true]) W:=by
 kernel_rfl
theorem ta3(v:Value)(W:World):Sem.run Tryz.prog (Instr.typeAssert (.iface 239 v) 162 236 true) W=.ok (.tuple #[.agg #[.slice none 0 0,.slice none 0 0,.slice none 0 0,.slice none 0 0,.int .i64 0,.int .i64 0,.int .i64 0,.pointer none],.bool false]) W:=by
 kernel_rfl
end
section
open Go.RowKit
attribute [local go_sem] run_store_float run_equalIn_float
structure Ac where
 op:Int
 t:Int
 site:Int
 n:Int
 k:Vl
 v:Vl
abbrev AcV(a:Ac):Value:=.agg #[.int .i64 a.op,.int .i64 a.t,.int .i64 a.site,.int .i64 a.n,.int .i64 a.k.kind,.int .i64 a.k.num,.float .f64 a.k.flt,.string a.k.str,.int .i64 a.k.ref,.int .i64 a.v.kind,.int .i64 a.v.num,.float .f64 a.v.flt,.string a.v.str,.int .i64 a.v.ref]
def nonB(v:Vl):Bool:=(v.kind==0)&&v.ok
def bareB(a:Ac)(t s n k v:Bool):Bool:=(t||a.t==0)&&(s||a.site==0)&&(n||a.n==0)&&(k||nonB a.k)&&(v||nonB a.v)
def rngB(a:Ac):Bool:=!decide (a.t<0)&&!decide (100<=a.t)&&!decide (a.site<0)&&!decide (50<=a.site)&&!decide (a.n<0)&&!decide (1000000000000<a.n)&&a.k.ok&&a.v.ok
def actB(a:Ac):Bool:=
 rngB a&&(if a.op=1 then bareB a false false false false false
  else if a.op=2 then bareB a true false false true true
  else if a.op=3 then bareB a true false false true false
  else if a.op=4 then bareB a true false true false false
  else if a.op=5 then bareB a true false false false false
  else if a.op=6 then bareB a true false false false false
  else if a.op=7 then bareB a false false false true false&&a.k.kind==4
  else if a.op=8 then bareB a true true false false false
  else if a.op=9 then bareB a true true false false true
  else false)
end
section
open Go.RowKit
def nmI(op:Int):Int:=if op=2 then 25 else if op=3 then 9 else if op=4 then 5 else if op=5 then 1 else if op=6 then 1 else if op=7 then 8 else if op=8 then 3 else if op=9 then 19 else 0
def belowB(n lim nm:Int):Bool:=decide (0<=n)&&decide (n<if nm=0 then 1 else lim)
def operB(v:Vl)(nm:Int):Bool:=v.ok&&(nm !=0||v.kind==0)
abbrev bt(op m:Int):Int:=bits .and .i64 (nmI op) m
def implB(a:Ac):Bool:=belowB a.t 100 (bt a.op 1)&&belowB a.site 50 (bt a.op 2)&&belowB a.n 1000000000001 (bt a.op 4)&&operB a.k (bt a.op 8)&&operB a.v (bt a.op 16)&&(a.op !=7||a.k.kind==4)
theorem bt1:bt 1 1=0/\bt 1 2=0/\bt 1 4=0/\bt 1 8=0/\bt 1 16=0:=by decide
theorem bt2:bt 2 1=1/\bt 2 2=0/\bt 2 4=0/\bt 2 8=8/\bt 2 16=16:=by decide
theorem bt3:bt 3 1=1/\bt 3 2=0/\bt 3 4=0/\bt 3 8=8/\bt 3 16=0:=by decide
theorem bt4:bt 4 1=1/\bt 4 2=0/\bt 4 4=4/\bt 4 8=0/\bt 4 16=0:=by decide
theorem bt5:bt 5 1=1/\bt 5 2=0/\bt 5 4=0/\bt 5 8=0/\bt 5 16=0:=by decide
theorem bt6:bt 6 1=1/\bt 6 2=0/\bt 6 4=0/\bt 6 8=0/\bt 6 16=0:=by decide
theorem bt7:bt 7 1=0/\bt 7 2=0/\bt 7 4=0/\bt 7 8=8/\bt 7 16=0:=by decide
theorem bt8:bt 8 1=1/\bt 8 2=2/\bt 8 4=0/\bt 8 8=0/\bt 8 16=0:=by decide
theorem bt9:bt 9 1=1/\bt 9 2=2/\bt 9 4=0/\bt 9 8=0/\bt 9 16=16:=by decide
theorem implB1(t s n:Int)(k v:Vl):implB ⟨1,t,s,n,k,v⟩=actB ⟨1,t,s,n,k,v⟩:=by
 obtain⟨e1,e2,e3,e4,e5⟩:=bt1
 unfold implB actB rngB bareB belowB operB nonB
 simp only[e1,e2,e3,e4,e5]
 cases hk:k.ok<;>cases hv:v.ok<;>simp
 rw[Bool.eq_iff_iff]
 simp
 omega
theorem implB2(t s n:Int)(k v:Vl):implB ⟨2,t,s,n,k,v⟩=actB ⟨2,t,s,n,k,v⟩:=by
 obtain⟨e1,e2,e3,e4,e5⟩:=bt2
 unfold implB actB rngB bareB belowB operB nonB
 simp only[e1,e2,e3,e4,e5]
 cases hk:k.ok<;>cases hv:v.ok<;>simp
 rw[Bool.eq_iff_iff]
 simp
 omega
theorem implB3(t s n:Int)(k v:Vl):implB ⟨3,t,s,n,k,v⟩=actB ⟨3,t,s,n,k,v⟩:=by
 obtain⟨e1,e2,e3,e4,e5⟩:=bt3
 unfold implB actB rngB bareB belowB operB nonB
 simp only[e1,e2,e3,e4,e5]
 cases hk:k.ok<;>cases hv:v.ok<;>simp
 rw[Bool.eq_iff_iff]
 simp
 omega
theorem implB4(t s n:Int)(k v:Vl):implB ⟨4,t,s,n,k,v⟩=actB ⟨4,t,s,n,k,v⟩:=by
 obtain⟨e1,e2,e3,e4,e5⟩:=bt4
 unfold implB actB rngB bareB belowB operB nonB
 simp only[e1,e2,e3,e4,e5]
 cases hk:k.ok<;>cases hv:v.ok<;>simp
 rw[Bool.eq_iff_iff]
 simp
 omega
theorem implB5(t s n:Int)(k v:Vl):implB ⟨5,t,s,n,k,v⟩=actB ⟨5,t,s,n,k,v⟩:=by
 obtain⟨e1,e2,e3,e4,e5⟩:=bt5
 unfold implB actB rngB bareB belowB operB nonB
 simp only[e1,e2,e3,e4,e5]
 cases hk:k.ok<;>cases hv:v.ok<;>simp
 rw[Bool.eq_iff_iff]
 simp
 omega
theorem implB6(t s n:Int)(k v:Vl):implB ⟨6,t,s,n,k,v⟩=actB ⟨6,t,s,n,k,v⟩:=by
 obtain⟨e1,e2,e3,e4,e5⟩:=bt6
 unfold implB actB rngB bareB belowB operB nonB
 simp only[e1,e2,e3,e4,e5]
 cases hk:k.ok<;>cases hv:v.ok<;>simp
 rw[Bool.eq_iff_iff]
 simp
 omega
theorem implB7(t s n:Int)(k v:Vl):implB ⟨7,t,s,n,k,v⟩=actB ⟨7,t,s,n,k,v⟩:=by
 obtain⟨e1,e2,e3,e4,e5⟩:=bt7
 unfold implB actB rngB bareB belowB operB nonB
 simp only[e1,e2,e3,e4,e5]
 cases hk:k.ok<;>cases hv:v.ok<;>simp
 rw[Bool.eq_iff_iff]
 simp
 omega
theorem implB8(t s n:Int)(k v:Vl):implB ⟨8,t,s,n,k,v⟩=actB ⟨8,t,s,n,k,v⟩:=by
 obtain⟨e1,e2,e3,e4,e5⟩:=bt8
 unfold implB actB rngB bareB belowB operB nonB
 simp only[e1,e2,e3,e4,e5]
 cases hk:k.ok<;>cases hv:v.ok<;>simp
 rw[Bool.eq_iff_iff]
 simp
 omega
theorem implB9(t s n:Int)(k v:Vl):implB ⟨9,t,s,n,k,v⟩=actB ⟨9,t,s,n,k,v⟩:=by
 obtain⟨e1,e2,e3,e4,e5⟩:=bt9
 unfold implB actB rngB bareB belowB operB nonB
 simp only[e1,e2,e3,e4,e5]
 cases hk:k.ok<;>cases hv:v.ok<;>simp
 rw[Bool.eq_iff_iff]
 simp
 omega
theorem implB_eq(a:Ac)(h1:1<=a.op)(h9:a.op<=9):implB a=actB a:=by
 obtain⟨op,t,s,n,k,v⟩:=a
 have h1:1<=op:=h1
 have h9:op<=9:=h9
 rcases(by omega:op=1\/op=2\/op=3\/op=4\/op=5\/op=6\/op=7\/op=8\/op=9)with rfl|rfl|rfl|rfl|rfl|rfl|rfl|rfl|rfl
 ·exact implB1 t s n k v
 ·exact implB2 t s n k v
 ·exact implB3 t s n k v
 ·exact implB4 t s n k v
 ·exact implB5 t s n k v
 ·exact implB6 t s n k v
 ·exact implB7 t s n k v
 ·exact implB8 t s n k v
 ·exact implB9 t s n k v
end
section
open Go.RowKit
def up1{α:Type}(f:Nat->α)(i:Nat)(a:α):Nat->α:=fun j=>if j=i then a else f j
theorem up1_self{α:Type}(f:Nat->α)(i:Nat)(a:α):up1 f i a i=a:=by simp[up1]
theorem up1_other{α:Type}(f:Nat->α){i j:Nat}(a:α)(h:j≠i):up1 f i a j=f j:=by simp[up1,h]
def atF(p:Nat->Bool):Nat->Nat->Int
 |0,_=>-1
 |k+1,i=>if p i then(i:Int)else atF p k (i+1)
abbrev at1(p:Nat->Bool)(n:Nat):Int:=atF p n 0
theorem atF_rng(p:Nat->Bool):∀k i,atF p k i=-1\/∃j:Nat,atF p k i=(j:Int)/\i<=j/\j<i+k/\p j=true/\∀q,i<=q->q<j->p q=false
 |0,i=>.inl rfl
 |k+1,i=>by
  rw[atF]
  cases hp:p i
  ·rw[if_neg (by simp)]
   rcases atF_rng p k (i+1)with h|⟨j,h1,h2,h3,h4,h5⟩
   ·exact .inl h
   ·refine .inr ⟨j,h1,by omega,by omega,h4,fun q h6 h7=>?_⟩
    rcases(by omega:q=i\/i+1<=q)with rfl|h
    ·exact hp
    ·exact h5 q h h7
  ·rw[if_pos rfl]
   exact .inr ⟨i,rfl,Nat.le_refl _,by omega,hp,fun q h1 h2=>by omega⟩
theorem atF_none{p:Nat->Bool}:∀{k i},atF p k i=-1->∀j,i<=j->j<i+k->p j=false
 |0,i,h,j,h1,h2=>by omega
 |k+1,i,h,j,h1,h2=>by
  rw[atF]at h
  cases hp:p i
  ·rw[if_neg (by rw[hp];simp)]at h
   rcases(by omega:j=i\/i+1<=j)with rfl|h3
   ·exact hp
   ·exact atF_none h j h3 (by omega)
  ·rw[if_pos hp]at h;omega
structure Pl where
 n:Nat
 P:Nat->Pr
 turns:Int
instance:Inhabited Pl:=⟨⟨0,fun _=>default,0⟩⟩
structure Ds where
 nt:Nat
 T:Nat->Pl
 ns:Nat
 S:Nat->ByteArray
structure An where
 code:Int
 num:Int
 key:Vl
 val:Vl
instance:Inhabited An:=⟨⟨0,0,default,default⟩⟩
abbrev nov:Vl:=⟨0,0,0,⟨#[]⟩,0⟩
abbrev AnV(a:An):Value:=.agg #[.int .i64 a.code,.int .i64 a.num,.int .i64 a.key.kind,.int .i64 a.key.num,.float .f64 a.key.flt,.string a.key.str,.int .i64 a.key.ref,.int .i64 a.val.kind,.int .i64 a.val.num,.float .f64 a.val.flt,.string a.val.str,.int .i64 a.val.ref]
def anL(a:An):List Value:=[.int .i64 a.code,.int .i64 a.num,.int .i64 a.key.kind,.int .i64 a.key.num,.float .f64 a.key.flt,.string a.key.str,.int .i64 a.key.ref,.int .i64 a.val.kind,.int .i64 a.val.num,.float .f64 a.val.flt,.string a.val.str,.int .i64 a.val.ref]
def ansC(c:Int):An:=⟨c,0,nov,nov⟩
def ansN(n:Int):An:=⟨0,n,nov,nov⟩
def ansV(v:Vl):An:=⟨0,0,nov,v⟩
def kcode(v:Vl):Int:=if v.ok=true then(if v.kind=0 then 1 else if v.kind=3 then(if fnan v.flt=true then 1 else 0)else 0)else 2
def kval(v:Vl):Vl:=if v.ok=true then(if v.kind=0 then nov else if v.kind=3 then(if fnan v.flt=true then nov else if wholeB v.flt=true then⟨2,fint v.flt,0,⟨#[]⟩,0⟩else v)else v)else nov
theorem keyV_parts(v:Vl):keyV v.kind v.num v.flt v.str v.ref=KV (kcode v) (kval v).kind (kval v).num (kval v).flt (kval v).str (kval v).ref:=by
 unfold keyV kcode kval
 show(if v.ok=true then _ else _)=_
 split
 ·split
  ·rfl
  ·split
   ·split
    ·rfl
    ·split<;>rfl
   ·rfl
 ·rfl
def strV(s:ByteArray):Vl:=⟨4,0,0,s,0⟩
def Pl.nextI(t:Pl)(n:Int):Int:=at1 (fun j=>decide (n<(t.P j).turn)) t.n
def Pl.next(t:Pl)(n:Int):Pr:=if t.nextI n<0 then⟨nov,nov,0⟩else t.P (t.nextI n).toNat
def Pl.has(t:Pl)(m:Int):Bool:=decide (0<=at1 (fun j=>(t.P j).key.kind==2&&(t.P j).key.num==m) t.n)
def lenF(t:Pl):Nat->Nat->Nat
 |0,m=>m
 |k+1,m=>if t.has ((m:Int)+1)then lenF t k (m+1)else m
def Pl.len(t:Pl):Nat:=lenF t (t.n+1) 0
def tabB(op:Int):Bool:=op !=1&&op !=7
def sitB(op:Int):Bool:=op==8||op==9
def chk(a:Ac)(nt ns:Nat):Int:=
 if actB a=false then 1 else if tabB a.op=true/\(nt:Int)<=a.t then 2 else if sitB a.op=true/\(ns:Int)<=a.site then 3
 else if(a.op=2\/a.op=3)/\kcode a.k≠0 then 4 else 0
theorem actB_rng{a:Ac}(h:actB a=true):0<=a.t/\0<=a.site/\a.k.ok=true/\a.v.ok=true/\0<=a.n/\1<=a.op/\a.op<=9:=by
 have h1:rngB a=true/\1<=a.op/\a.op<=9:=by
  unfold actB at h
  cases hr:rngB a
  ·simp[hr]at h
  ·refine⟨rfl,?_⟩
   simp only[hr]at h
   by_cases e1:a.op=1;· omega
   by_cases e2:a.op=2;· omega
   by_cases e3:a.op=3;· omega
   by_cases e4:a.op=4;· omega
   by_cases e5:a.op=5;· omega
   by_cases e6:a.op=6;· omega
   by_cases e7:a.op=7;· omega
   by_cases e8:a.op=8;· omega
   by_cases e9:a.op=9;· omega
   simp[e1,e2,e3,e4,e5,e6,e7,e8,e9]at h
 obtain⟨h0,h1,h2⟩:=h1
 unfold rngB at h0
 simp only[Bool.and_eq_true,Bool.not_eq_true',decide_eq_false_iff_not]at h0
 obtain⟨⟨⟨⟨⟨⟨⟨g1,g2⟩,g3⟩,g4⟩,g5⟩,g6⟩,g7⟩,g8⟩:=h0
 exact⟨by omega,by omega,g7,g8,by omega,h1,h2⟩
theorem strV_ok{s:ByteArray}(h:s.size<=4000):(strV s).ok=true:=by
 have h0:fz 0=true:=by decide
 unfold Vl.ok strV validB
 simp[h0];omega
theorem str_le{v:Vl}(h:v.ok=true)(hk:v.kind=4):v.str.size<=4000:=by
 unfold Vl.ok validB at h
 simp[hk]at h
 omega
theorem actB_site{a:Ac}(h:actB a=true)(h7:a.op=7):a.k.kind=4:=by
 unfold actB at h
 simp[h7]at h
 exact h.2.2
theorem chk_ok{a:Ac}{nt ns:Nat}(h:chk a nt ns=0):actB a=true/\(tabB a.op=true->a.t<nt)/\(sitB a.op=true->a.site<ns)/\((a.op=2\/a.op=3)->kcode a.k=0):=by
 unfold chk at h
 split at h
 ·cases h
 ·rename_i h1
  split at h
  ·cases h
  ·rename_i h2
   split at h
   ·cases h
   ·rename_i h3
    split at h
    ·cases h
    ·rename_i h4
     refine⟨by simpa using h1,fun e=>?_,fun e=>?_,fun e=>?_⟩
     ·rcases Int.lt_or_le a.t nt with h|h
      ·exact h
      ·exact absurd ⟨e,h⟩ h2
     ·rcases Int.lt_or_le a.site ns with h|h
      ·exact h
      ·exact absurd ⟨e,h⟩ h3
     ·rcases Decidable.em (kcode a.k=0)with h|h
      ·exact h
      ·exact absurd ⟨e,h⟩ h4
end
section
open Go.RowKit
attribute [local go_sem] run_store_float run_equalIn_float
abbrev ActBx(a:Ac):Array Value:=#[.int .i64 a.op,.int .i64 a.t,.int .i64 a.site,.int .i64 a.n,.int .i64 a.k.kind,.int .i64 a.k.num,.float .f64 a.k.flt,.string a.k.str,.int .i64 a.k.ref,.int .i64 a.v.kind,.int .i64 a.v.num,.float .f64 a.v.flt,.string a.v.str,.int .i64 a.v.ref]
abbrev An0:Array Value:=#[.int .i64 0,.int .i64 0,.int .i64 0,.int .i64 0,.float .f64 0,.string ⟨#[]⟩,.int .i64 0,.int .i64 0,.int .i64 0,.float .f64 0,.string ⟨#[]⟩,.int .i64 0]
end
section
open Go.RowKit
attribute [local go_sem] run_store_float run_equalIn_float
def Pl.ask(t:Pl)(a:Ac):An:=
 if a.op=4 then⟨0,(t.next a.n).turn,(t.next a.n).key,(t.next a.n).val⟩
 else if a.op=6 then ansN t.n else ansN t.len
end
section
open Go.RowKit
def shL(f:Nat->Shp)(n:Nat):List Value:=(List.range (n*3)).map (cellOf f)
theorem shL_get{f:Nat->Shp}{n j:Nat}(h:j<n*3):(shL f n)[j]?=some (cellOf f j):=by simp[shL,h]
theorem shL_snoc(f:Nat->Shp)(n:Nat)(s:Shp)(hs:f n=s):shL f n++[.int .i64 s.parent,.string s.key,.int .i64 s.count]=shL f (n+1):=by
 subst hs
 unfold shL
 rw[show(n+1)*3=n*3+1+1+1 by omega,List.range_succ,List.range_succ,List.range_succ]
 simp only[List.map_append,List.map_cons,List.map_nil,List.append_assoc,List.cons_append,List.nil_append]
 rw[cellOf0,cellOf1,cellOf2]
abbrev ShOwn(w:World)(base:Nat)(v:Value)(n:Nat)(f:Nat->Shp):Prop:=w.ownsRow base 205 3 v n (shL f n)
end
section
open Go.RowKit
def Kid(n:Nat)(f:Nat->Shp)(i:Nat)(key:ByteArray)(j:Nat):Prop:=0<j/\j<n/\(f j).parent=i/\(f j).key.toList=key.toList
theorem Kid.unique{n:Nat}{f:Nat->Shp}{i:Nat}{key:ByteArray}{j k:Nat}(h4:Rule4 n f)(hj:Kid n f i key j)(hk:Kid n f i key k):j=k:=by
 obtain⟨a1,a2,a3,a4⟩:=hj
 obtain⟨b1,b2,b3,b4⟩:=hk
 rcases Nat.lt_trichotomy j k with h|h|h
 ·exact absurd ⟨a3.trans b3.symm,a4.trans b4.symm⟩ (h4 k j a1 h b2)
 ·exact h
 ·exact absurd ⟨b3.trans a3.symm,b4.trans a4.symm⟩ (h4 j k b1 h a2)
def grown(f:Nat->Shp)(n i:Nat)(key:ByteArray)(j:Nat):Shp:=if j=n then⟨i,key,(f i).count+1⟩else f j
def GRes(n:Nat)(f:Nat->Shp)(i:Nat)(key:ByteArray)(n':Nat)(f':Nat->Shp)(r:Int):Prop:=
 (∃j,Kid n f i key j/\r=j/\n'=n/\f'=f)\/
 ((∀j,¬Kid n f i key j)/\((f i).count=12\/n=200)/\r=-1/\n'=n/\f'=f)\/
 ((∀j,¬Kid n f i key j)/\(f i).count≠12/\n≠200/\r=n/\n'=n+1/\f'=grown f n i key)
theorem GRes.unique{n:Nat}{f:Nat->Shp}{i:Nat}{key:ByteArray}{n1 n2:Nat}{f1 f2:Nat->Shp}{r1 r2:Int}(h4:Rule4 n f)(h:GRes n f i key n1 f1 r1)(h':GRes n f i key n2 f2 r2):n1=n2/\f1=f2/\r1=r2:=by
 rcases h with⟨j,a1,a2,a3,a4⟩|⟨a1,a2,a3,a4,a5⟩|⟨a1,a2,a3,a4,a5,a6⟩
 ·rcases h' with⟨k,b1,b2,b3,b4⟩|⟨b1,_⟩|⟨b1,_⟩
  ·have:=a1.unique h4 b1
   subst this
   exact⟨a3.trans b3.symm,a4.trans b4.symm,a2.trans b2.symm⟩
  ·exact absurd a1 (b1 j)
  ·exact absurd a1 (b1 j)
 ·rcases h' with⟨k,b1,b2,b3,b4⟩|⟨b1,b2,b3,b4,b5⟩|⟨b1,b2,b3,b4,b5,b6⟩
  ·exact absurd b1 (a1 k)
  ·exact⟨a4.trans b4.symm,a5.trans b5.symm,a3.trans b3.symm⟩
  ·rcases a2 with h|h
   ·exact absurd h b2
   ·exact absurd h b3
 ·rcases h' with⟨k,b1,b2,b3,b4⟩|⟨b1,b2,b3,b4,b5⟩|⟨b1,b2,b3,b4,b5,b6⟩
  ·exact absurd b1 (a1 k)
  ·rcases b2 with h|h
   ·exact absurd h a2
   ·exact absurd h a3
  ·exact⟨a5.trans b5.symm,a6.trans b6.symm,a4.trans b4.symm⟩
theorem cell_alloc{w:World}{o:Obj}{a:Addr}{v:Value}(h:w.cell? a=some v):(w.alloc o).cell? a=some v:=by rw[World.cell?_alloc_lt _ _ _ (World.block_lt_of_cell? w a h)];exact h
end
section
open Go.RowKit
abbrev ShIn(w:World)(b n:Nat)(f:Nat->Shp):Prop:=ShRow w b n f
theorem ShIn.lt{w:World}{b n:Nat}{f:Nat->Shp}(h:ShIn w b n f):b<w.heap.size:=ShRow.lt h
theorem ShIn.of_block{w w':World}{b n:Nat}{f:Nat->Shp}(h:ShIn w b n f)(e:w'.heap[b]?=w.heap[b]?):ShIn w' b n f:=ShRow.of_block h e
theorem ShOwn.in{w:World}{base b n cp:Nat}{f:Nat->Shp}(h:ShOwn w base (.slice (some ⟨b,0,none⟩) n cp) n f):base<=b/\ShIn w b n f:=by
 obtain⟨hl,⟨hv,_⟩|⟨g',cap,cur,hv,hb,hblk,h1,h2,h3,h4⟩⟩:=h
 ·cases hv
 ·cases hv
  refine⟨hb,cp*3,fun j=>(cur[j]?).getD undef,by omega,⟨cur,hblk,h3,fun i hi=>by simp[Array.getElem?_eq_getElem (show i<cur.size by omega)]⟩,fun j hj=>?_⟩
  have h5:=shL_get (f:=f) hj
  rw[<-h4,List.getElem?_take,if_pos hj]at h5
  show(cur[j]?).getD undef=_
  rw[<-Array.getElem?_toList,h5]
  rfl
def mk(i:Nat):Shp:=⟨1+3*(i:Int),mark (2+3*i),3+3*(i:Int)⟩
def GV(f:Nat->Shp)(n:Nat)(w:World)(v:Value)(lo hi:Nat):Prop:=
 (n=0/\v=.slice none 0 0)\/(0<n/\∃b cp,v=.slice (some ⟨b,0,none⟩) n cp/\lo<=b/\b<hi/\ShIn w b n f)
theorem GV.form{f:Nat->Shp}{n:Nat}{w:World}{v:Value}{lo hi:Nat}(h:GV f n w v lo hi):∃a cp,v=.slice a n cp:=by
 rcases h with⟨rfl,rfl⟩|⟨_,b,cp,rfl,_⟩
 ·exact⟨_,_,rfl⟩
 ·exact⟨_,_,rfl⟩
end
section
open Go.RowKit
theorem anc_all{n:Nat}{f:Nat->Shp}(h2:Rule2 f)(h3:Rule3 n f){i:Nat}(hi:i<n):∀t,anc f i t<n:=by
 intro t
 induction t with
 |zero=>exact hi
 |succ t ih=>
  show(f (anc f i t)).parent.toNat<n
  rcases Nat.eq_zero_or_pos (anc f i t)with e|e
  ·rw[e,h2.1];exact Nat.lt_of_le_of_lt (Nat.zero_le _) hi
  ·have:=(h3 _ e ih).2.1;omega
theorem anc_congr{n:Nat}{f g:Nat->Shp}(h2:Rule2 f)(h3:Rule3 n f)(hg:∀j,j<n->g j=f j){i:Nat}(hi:i<n):∀t,anc g i t=anc f i t:=by
 intro t
 induction t with
 |zero=>rfl
 |succ t ih=>
  show(g (anc g i t)).parent.toNat=(f (anc f i t)).parent.toNat
  rw[ih,hg _ (anc_all h2 h3 hi t)]
theorem plcI_congr{n:Nat}{f g:Nat->Shp}(h2:Rule2 f)(h3:Rule3 n f)(hg:∀j,j<n->g j=f j){i:Nat}(hi:i<n)(key:ByteArray):plcI g i key=plcI f i key:=by
 refine Plc.eq ?_
 have ha:=anc_congr h2 h3 hg hi
 have hf:∀t,g (anc g i t)=f (anc f i t):=fun t=>by rw[ha t,hg _ (anc_all h2 h3 hi t)]
 rcases plc_holds f i key with⟨t,a,b,c,d⟩|⟨a,b⟩
 ·exact .inl ⟨t,fun s hs=>by rw[ha s];exact a s hs,by rw[hf t];exact b,fun s hs=>by rw[hf s];exact c s hs,by rw[hf t];exact d⟩
 ·exact .inr ⟨a,fun t ht=>by rw[hf t];exact b t (fun s hs=>by rw[<-ha s];exact ht s hs)⟩
theorem grown_lt{f:Nat->Shp}{n k:Nat}{key:ByteArray}:∀j,j<n->grown f n k key j=f j:=fun j hj=>by unfold grown;rw[if_neg (by omega)]
theorem grown_new{f:Nat->Shp}{n k:Nat}{key:ByteArray}:grown f n k key n=⟨k,key,(f k).count+1⟩:=by simp[grown]
theorem grow_sound{n:Nat}{f:Nat->Shp}(h:forestOk n f=0){k:Nat}(hk:k<n){key:ByteArray}(hs:key.size<=4000)(hp:plcI f k key<0)(hno:∀j,¬Kid n f k key j)(hc:(f k).count≠12)(hn:n≠200):forestOk (n+1) (grown f n k key)=0:=by
 obtain⟨h1,h2,h3,h4,h5⟩:=forestOk_zero h
 have hcb:=count_bound (k:=n) h2 (fun j a b=>h3 j a b) k hk
 have hn0:0<n:=by omega
 have H1:Rule1 (n+1):=⟨by omega,by have:=h1.2;omega⟩
 have H2:Rule2 (grown f n k key):=by
  unfold Rule2
  rw[grown_lt 0 hn0]
  exact h2
 have H3:Rule3 (n+1) (grown f n k key):=by
  intro i hi1 hi
  unfold Ok3
  by_cases e:i=n
  ·subst e
   rw[grown_new]
   refine⟨by show(0:Int)<=k;omega,by show(k:Int)<i;omega,?_,by show(f k).count+1<=12;omega,hs⟩
   show(f k).count+1=(grown f i k key ((k:Int).toNat)).count+1
   rw[Int.toNat_natCast,grown_lt k hk]
  ·have hi':i<n:=by omega
   obtain⟨a,b,c,d,e⟩:=h3 i hi1 hi'
   rw[grown_lt i hi',grown_lt _ (by omega)]
   exact⟨a,b,c,d,e⟩
 have H4:Rule4 (n+1) (grown f n k key):=by
  intro i j hj1 hji hi ht
  unfold Twin at ht
  by_cases e:i=n
  ·subst e
   rw[grown_lt j hji,grown_new]at ht
   exact hno j ⟨by omega,hji,ht.1,ht.2⟩
  ·rw[grown_lt i (by omega),grown_lt j (by omega)]at ht
   exact h4 i j hj1 hji (by omega) ht
 refine forestOk0 H1 H2 H3 H4 (Classical.byContradiction fun h5'=>?_)
 obtain⟨i,hi0,hi,hpp⟩:=(repeats_iff H2 H3).2 h5'
 by_cases e:i=n
 ·subst e
  have hsp:shPar (grown f i k key) i=k:=by unfold shPar;rw[grown_new];rfl
  rw[hsp,plcI_congr h2 h3 (fun j hj=>grown_lt j hj) hk,grown_new]at hpp
  have hpp:0<=plcI f k key:=hpp
  omega
 ·have hi':i<n:=by omega
  have hsp:shPar (grown f n k key) i=shPar f i:=by unfold shPar;rw[grown_lt i hi']
  have hpn:shPar f i<n:=by have:=(h3 i hi0 hi').2.1;unfold shPar;omega
  rw[hsp,plcI_congr h2 h3 (fun j hj=>grown_lt j hj) hpn,grown_lt i hi']at hpp
  exact(repeats_iff h2 h3).1 ⟨i,hi0,hi',hpp⟩ h5
theorem nf_kid{n:Nat}{f:Nat->Shp}(h2:Rule2 f)(h3:Rule3 n f){k r:Nat}{key:ByteArray}(hK:Kid n f k key r):nf f r=nf f k+1:=by
 obtain⟨a,b,c,d⟩:=hK
 have h:=(h3 r a b).2.2.1
 have hp:=(h3 r a b).2.1
 rw[c]at h hp
 have hk:k<n:=by omega
 have:=(count_bound (k:=n) h2 (fun j a b=>h3 j a b) k hk).1
 unfold nf
 rw[h]
 show((f k).count+1).toNat=_
 omega
theorem nf_congr{n:Nat}{f g:Nat->Shp}(hg:∀j,j<n->g j=f j){i:Nat}(hi:i<n):nf g i=nf f i:=by unfold nf;rw[hg i hi]
end
end Go.Proofs.YtgmlkfgfjjggnaaGreatDoor
