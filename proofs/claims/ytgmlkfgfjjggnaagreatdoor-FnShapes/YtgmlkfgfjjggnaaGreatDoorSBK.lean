import Derived.Test.YtgmlkfgfjjggnaaGreatDoorSAL
import Derived.Test.YtgmlkfgfjjggnaaGreatDoorSBI
import Derived.Test.YtgmlkfgfjjggnaaGreatDoorSBJ
import Derived.Test.YtgmlkfgfjjggnaaGreatDoorSAJ
import Derived.Test.YtgmlkfgfjjggnaaGreatDoorSAO
import Derived.Test.YtgmlkfgfjjggnaaGreatDoorChecked
import GoSem.Claim
import GoSem.ClaimJoined
import GoSem.ClaimMapViews
import Derived.JoinedTies
import Derived.KernelRfl
import Derived.RowKit
import Derived.WalkKit
import Derived.WalkSpells
import Derived.WalkLawsBesides
import Derived.Deep.QuietTactic
import Derived.BigQuiet
import Derived.Laws.BitsAllLaws
import Derived.Test.YtgmlkfgfjjggnaaGreatDoorSAI
set_option linter.unusedVariables false
set_option linter.unusedSimpArgs false
set_option maxHeartbeats 40000000
set_option maxRecDepth 100000
namespace Go.Proofs.YtgmlkfgfjjggnaaGreatDoor
section
open Go.RowKit
abbrev f1:Nat->Shp:=fun _=>⟨-1,⟨#[]⟩,0⟩
abbrev ES(v:Value):Value:=.agg #[v,.slice none 0 0,.slice none 0 0]
abbrev SB(b:Nat):Value:=.slice (some ⟨b,0,none⟩) 1 1
theorem gv1{w:World}{b lo hi:Nat}(h:w.rowIs b 205 3 (cellOf f1))(h1:lo<=b)(h2:b<hi):GV f1 1 w (SB b) lo hi:=
 .inr ⟨by omega,b,1,rfl,h1,h2,3,cellOf f1,by omega,h,fun _ _=>rfl⟩
theorem row1(w:World):(w.alloc (.cells #[.int .i64 (-1),.string ⟨#[]⟩,.int .i64 0] 205)).rowIs w.heap.size 205 3 (cellOf f1):=
 World.rowIs_alloc w #[.int .i64 (-1),.string ⟨#[]⟩,.int .i64 0] 205 (cellOf f1) (fun i hi=>by
  have:i<3:=hi
  match i,this with
  |0,_=>rfl
  |1,_=>rfl
  |2,_=>rfl)
theorem root_any(w:World):Calls Tryz.prog 127 #[] w fun e w'=>e=.returned (.agg #[.int .i64 (-1),.string ⟨#[]⟩,.int .i64 0])/\Below w.heap.size w w':=by
 go_enter Tryz.func127,Tryz.ntmps127
 go_wp2
 exact bodyPost_ret (v:=.agg #[.int .i64 (-1),.string ⟨#[]⟩,.int .i64 0]) (by simp[results,Tryz.results127,go_sem]) rfl ⟨rfl,(Below.refl _ _).alloc (Nat.le_refl _) _⟩
theorem implEmpty1(w:World):Calls Tryz.prog 68 #[] w fun e w'=>(∃b,e=.returned (ES (SB b))/\GV f1 1 w' (SB b) w.heap.size w'.heap.size)/\Below w.heap.size w w':=by
 have HB0:Hid (Below w.heap.size w (w.alloc (.cells #[.slice none 0 0,.slice none 0 0,.slice none 0 0] 42))):=uy ((Below.refl _ _).alloc (Nat.le_refl _) _)
 go_enter Tryz.func68,Tryz.ntmps68
 go_wp2_with fail
 refine(root_any _).mono ?_
 rintro e w1 ⟨rfl,hb1⟩
 obtain⟨hc1,hf1⟩:=bcell hb1
 have hz1:=hb1.size
 simp at hz1
 have y1:w.heap.size<w1.heap.size:=by omega
 have c0:w1.cell? ⟨w.heap.size,0,none⟩=some (.slice none 0 0):=by rw[hc1 _ _ (by simp)];simp[go_sem]
 have c1:w1.cell? ⟨w.heap.size,1,none⟩=some (.slice none 0 0):=by rw[hc1 _ _ (by simp)];simp[go_sem]
 have c2:w1.cell? ⟨w.heap.size,2,none⟩=some (.slice none 0 0):=by rw[hc1 _ _ (by simp)];simp[go_sem]
 have fr:∀o,w1.frozen? ⟨w.heap.size,o,none⟩=false:=fun o=>by rw[hf1 _ _ (by simp)];simp[go_sem]
 have HB1:=uy ((uh HB0).trans (hb1.mono (by simp)))
 clear hb1 hc1 hf1
 go_wp2
 have h:=row1 (((w1.setCell ⟨w.heap.size,0,none⟩ (SB w1.heap.size)).setCell ⟨w.heap.size,1,none⟩ (.slice none 0 0)).setCell ⟨w.heap.size,2,none⟩ (.slice none 0 0))
 simp only[World.size_setCell]at h
 refine bodyPost_ret (v:=ES (SB w1.heap.size)) (by simp[results,Tryz.results68,go_sem,World.cell?_alloc_lt,y1,c0,c1,c2]) rfl ⟨⟨w1.heap.size,rfl,gv1 h (by omega) (by simp)⟩,?_⟩
 refine Below.alloc ?_ (by simp;omega) _
 iterate 3 (refine Below.setCell ?_ (by show w.heap.size<=w.heap.size;omega) _)
 exact uh HB1
end
section
open Go.RowKit
attribute [local go_sem] run_store_float run_equalIn_float run_store_func
def E0:Sto:=⟨1,f1,0,fun _=>tb0,0,fun _=>default⟩
theorem e0_sound:forestOk 1 (fun _=>⟨-1,⟨#[]⟩,0⟩)=0:=forestOk0 ⟨by decide,by decide⟩ ⟨rfl,by kernel_rfl,rfl⟩ (fun i h1 h2=>by omega) (fun i k h1 h2 h3=>by omega) (fun i t h1 h2=>by omega)
theorem E0_good:SGm 0 E0:=⟨e0_sound,Nat.zero_le _,Nat.zero_le _,fun i hi=>absurd hi (Nat.not_lt_zero _),fun i hi=>absurd hi (Nat.not_lt_zero _)⟩
theorem sz_played(w:World):(sizeOf 62).run Tryz.prog w=.ok 5 w:=by kernel_rfl
abbrev Pd0:Array Value:=#[.bool false,.slice none 0 0,.slice none 0 0,.slice none 0 0,.slice none 0 0]
theorem emptyRow{w:World}{b lo hi:Nat}(h:GV f1 1 w (SB b) lo hi):ShRow w b E0.nf E0.F/\lo<=b:=by
 rcases h with⟨h,_⟩|⟨_,b',cp,e,h1,h2,h3⟩
 ·cases h
 ·cases e
  exact⟨h3,h1⟩
theorem judgeE0(b:Nat)(w:World)(hF:ShRow w b E0.nf E0.F)(hT:Tabs w):
  Calls Tryz.prog 55 #[ES (SB b)] w fun e w'=>(∃g cp B v,e=.returned (.tuple #[.agg #[.slice (some ⟨g,0,none⟩) 1 cp,v],.int .i64 0])/\NdOwn w' w.heap.size (.slice (some ⟨g,0,none⟩) 1 cp) 1 B/\NdS w' E0 w.heap.size B/\TbOwn w' w.heap.size v 0 B (fun _=>default) E0)/\Below w.heap.size w w':=by
 have hml:=hF.lt
 obtain⟨i0,hi,hz0,hzs,hzb⟩:=info_parts infoKept
 obtain⟨W,hW⟩:∃W,W=(w.alloc (.cells #[.slice (some ⟨b,0,none⟩) 1 1,.slice none 0 0,.slice none 0 0] 42)).alloc (.cells #[.slice none 0 0,.slice none 0 0] 118):=⟨_,rfl⟩
 have hbW:Below w.heap.size w W:=by rw[hW];exact((Below.refl _ _).alloc (Nat.le_refl _) _).alloc (by simp) _
 have x0:W.cell? ⟨w.heap.size,0,none⟩=some (.slice (some ⟨b,0,none⟩) 1 1):=by rw[hW];simp[go_sem]
 have x1:W.cell? ⟨w.heap.size,1,none⟩=some (.slice none 0 0):=by rw[hW];simp[go_sem]
 have x2:W.cell? ⟨w.heap.size,2,none⟩=some (.slice none 0 0):=by rw[hW];simp[go_sem]
 have r0:W.cell? ⟨w.heap.size+1,0,none⟩=some (.slice none 0 0):=by rw[hW];simp[go_sem]
 have r1:W.cell? ⟨w.heap.size+1,1,none⟩=some (.slice none 0 0):=by rw[hW];simp[go_sem]
 have f0:W.frozen? ⟨w.heap.size+1,0,none⟩=false:=by rw[hW];simp[go_sem]
 have f1':W.frozen? ⟨w.heap.size+1,1,none⟩=false:=by rw[hW];simp[go_sem]
 have lw:w.heap.size<W.heap.size:=by rw[hW];simp;omega
 have lr:w.heap.size+1<W.heap.size:=by rw[hW];simp
 have HF:=uy (hF.below hbW hml)
 have HBW:=uy hbW
 clear hbW hF hT
 go_enter Tryz.func55,Tryz.ntmps55
 go_wp2_with fail
 rw[<-hW]
 clear hW
 refine(judge_any b 1 1 f1 _ (uh HF) (by decide)).mono ?_
 rintro e w1 ⟨hj,hb1⟩
 have y1:=(hb1.cell (p:=⟨w.heap.size,1,none⟩) lw).trans x1
 have y2:=(hb1.cell (p:=⟨w.heap.size,2,none⟩) lw).trans x2
 have s0:=(hb1.cell (p:=⟨w.heap.size+1,0,none⟩) lr).trans r0
 have s1:=(hb1.cell (p:=⟨w.heap.size+1,1,none⟩) lr).trans r1
 have g0:=(hb1.frozen (p:=⟨w.heap.size+1,0,none⟩) lr).trans f0
 have g1:=(hb1.frozen (p:=⟨w.heap.size+1,1,none⟩) lr).trans f1'
 have lw1:w.heap.size<w1.heap.size:=Nat.lt_of_lt_of_le lw hb1.size
 have lr1:w.heap.size+1<w1.heap.size:=Nat.lt_of_lt_of_le lr hb1.size
 have HB1:=uy ((uh HBW).trans (hb1.mono (uh HBW).size))
 rcases hj with⟨r,rfl,hr,hr0⟩|⟨g,cp,B,N,M,rfl,h1,hN,hid,⟨hgl,hgo⟩,hgc⟩
 ·exact absurd (hr.trans e0_sound) hr0
 have HJ:=uy (And.intro hN (And.intro hid (And.intro hgl (And.intro hgo hgc))))
 clear h1 hN hid hgl hgo hgc hb1 x0 x1 x2 r0 r1 f0 f1'
 go_wp2_with fail
 go_loopw [6,35] (fun v i wr=>v=.slice none 0 0/\i=.int .i64 0/\wr=w1) (fun _ _ _=>0)
 case atStart=>exact⟨rfl,rfl,rfl⟩
 case round=>
  obtain⟨rfl,rfl,hw⟩:=hrel
  have hw:=hw.symm
  subst hw
  go_wp2_with fail
  go_loopw [58] (fun i wr=>i=.int .i64 0/\wr=w1) (fun _ _=>0)
  case atStart=>exact⟨rfl,rfl⟩
  case round=>
   obtain⟨rfl,hw⟩:=hrel
   have hw:=hw.symm
   subst hw
   go_wp2_with fail
   obtain⟨hN,hid,hgl,hgo,hgc⟩:=uh HJ
   refine bodyPost_ret (v:=.tuple #[.agg #[.slice (some ⟨g,0,none⟩) 1 cp,.slice none 0 0],.int .i64 0]) (by simp[results,Tryz.results55,go_sem,s0,s1]) rfl ?_
   have hgne:g≠w.heap.size+1:=fun e=>by
    have h00:=hgc 0 (by decide)
    rw[e,s0]at h00
    cases h00
   have hkg:((w1.setCell ⟨w.heap.size+1,0,none⟩ (.slice (some ⟨g,0,none⟩) 1 cp)).setCell ⟨w.heap.size+1,1,none⟩ (.slice none 0 0)).heap[g]?=w1.heap[g]?:=(Deep.blk_setCell_other _ _ _ _ (by exact hgne)).trans (Deep.blk_setCell_other _ _ _ _ (by exact hgne))
   have hNd:Nd w1 E0 W.heap.size g B N M:=⟨hN,hid,hgl,hgc⟩
   have hNX:=Nd.rebase (hNd.keepFrom (fun b hb _=>(Deep.blk_setCell_other _ _ _ _ (by show b≠w.heap.size+1;omega)).trans (Deep.blk_setCell_other _ _ _ _ (by show b≠w.heap.size+1;omega))) hkg) (Nat.le_of_lt lw)
   refine⟨⟨g,cp,B,_,rfl,own_keep (own_lo hgo (Nat.le_of_lt lw)) (fun q e=>by cases e;exact hkg),⟨N,M,hNX.ns,hNX.id⟩,World.ownsRow_nil _ _ _ _⟩,?_⟩
   repeat(refine Below.setCell ?_ (by show w.heap.size<=w.heap.size+1;omega) _)
   exact uh HB1
theorem openE0(g cp:Nat)(B:Nat->Nat)(ta:Option Addr)(tc B0:Nat)(w:World)(hB:B0<=w.heap.size)(hn:NdOwn w B0 (.slice (some ⟨g,0,none⟩) 1 cp) 1 B)(hnd:NdS w E0 B0 B)(ht:TbOwn w B0 (.slice ta 0 tc) 0 B (fun _=>default) E0):
  Calls Tryz.prog 56 #[.agg #[.slice (some ⟨g,0,none⟩) 1 cp,.slice ta 0 tc],.slice none 0 0] w fun e w'=>(∃c vS,e=.returned (.pointer (some ⟨c,0,none⟩))/\WkM (fun _=>False) w' c B0 (.slice (some ⟨g,0,none⟩) 1 cp) (.slice ta 0 tc) vS (.slice none 0 0) B (fun _=>default) E0)/\Below w.heap.size w w':=
 openWork_any B0 _ _ _ _ _ _ none 0 B (fun _=>default) E0 w hB (Nat.zero_le _) hn hnd ht (.inl rfl) (fun w' O h1 h2 i hi=>absurd hi (Nat.not_lt_zero _))
theorem SOw.forms{lo hi:Nat}{w:World}{vF vT vS:Value}{s:Sto}{H:Nat->Hs}(h:SOw lo hi w vF vT vS s H):∃fa fc ta tc sa sc,vF=.slice fa s.nf fc/\vT=.slice ta s.nt tc/\vS=.slice sa s.ns sc:=by
 obtain⟨fa,fc,hf⟩:=h.f.form
 have ht:∃ta tc,vT=.slice ta s.nt tc:=by
  rcases h.t with⟨h0,hv⟩|⟨b,cp,N,g,hv,_⟩
  ·exact⟨none,0,by rw[hv,h0]⟩
  ·exact⟨_,_,hv⟩
 have hs:∃ta tc,vS=.slice ta s.ns tc:=by
  rcases h.si with⟨h0,hv⟩|⟨b,cp,N,g,hv,_⟩
  ·exact⟨none,0,by rw[hv,h0]⟩
  ·exact⟨_,_,hv⟩
 obtain⟨ta,tc,ht⟩:=ht
 obtain⟨sa,sc,hs⟩:=hs
 exact⟨_,_,_,_,_,_,hf,ht,hs⟩
structure PlEnd (w w':World) (n:Nat) (f:Nat->Ac) (va vF vT vS:Value) (H:Nat->Hs) (lo:Nat):Prop where
 row:w'.ownsRow w.heap.size 45 12 va n (anR (ansQ E0 f) n)
 st:SOw lo w'.heap.size w' vF vT vS (aftS E0 f n) H
 lt:∀k,va.ownBlock=some k->k<lo
 ge:w.heap.size<=lo
 below:Below w.heap.size w w'
theorem implPlay_any(v:Value)(n:Nat)(f:Nat->Ac)(w:World)(hA:AcAt w v n f)(hn:n<=1000)(hwf:∀i,i<n->Wf (f i).k/\Wf (f i).v)(hT:Tabs w)(hE:ErrG w)(hD:∀i,i<n->DeedOf (f i)):
  Calls Tryz.prog 23 #[v] w fun e w'=>∃va vF vT vS H lo,e=.returned (.agg #[.bool true,va,vF,vT,vS])/\PlEnd w w' n f va vF vT vS H lo:=by
 have HDD:=uy hD
 clear hD
 obtain⟨ab,acp,rfl,habl,hcs⟩:=hA
 obtain⟨W,hW⟩:∃W,W=w.alloc (.cells Pd0 62):=⟨_,rfl⟩
 have hb0:Below w.heap.size w W:=by rw[hW];exact(Below.refl _ _).alloc (Nat.le_refl _) _
 have hrb:W.heap[w.heap.size]?=some (.cells Pd0 62 (0,0)):=by rw[hW];exact Deep.blk_alloc_new _ _
 have hz0:W.heap.size=w.heap.size+1:=by rw[hW];simp
 have hEl:=hE.lt
 have hTl:=hT.sz
 have d0:decide ((1000:Int)<(n:Int))=false:=by simp;omega
 have HB:=uy hb0
 have HRB:=uy hrb
 have HCS:=uy hcs
 have HT:=uy hT
 have HE:=uy hE
 have HWF:=uy hwf
 have hzz:w.heap.size<W.heap.size:=by omega
 clear hcs hb0 hrb hT hE hwf hz0
 go_enter Tryz.func23,Tryz.ntmps23
 go_upto_region 1 with fail
 rw[<-hW]
 clear hW
 go_wp2_with fail
 refine(implEmpty1 _).mono ?_
 rintro e w1 ⟨⟨b,rfl,hgv⟩,hb1⟩
 obtain⟨hsr,hlb⟩:=emptyRow hgv
 have HB1:=uy ((uh HB).trans (hb1.mono (uh HB).size))
 have HRB1:=uy ((hb1.block _ hzz).trans (uh HRB))
 have z1:=hb1.size
 have HJ:=uy (judgeE0 b w1 hsr (lastsT _ _ (uh HT) (uh HB1)))
 clear hgv hsr hlb hb1
 go_wp2_with fail
 refine(uh HJ).mono ?_
 rintro e w2 ⟨⟨g,cp,Bk,vt,rfl,hno,hnd,hto⟩,hb2⟩
 obtain⟨ta,tc,rfl⟩:=own_slice hto
 have z2:=hb2.size
 have hbX:Below w2.heap.size w2 (w2.alloc (.cells #[.slice (some ⟨g,0,none⟩) 1 cp,.slice ta 0 tc] 118)):=(Below.refl _ _).alloc (Nat.le_refl _) _
 obtain⟨X,hX⟩:∃X,X=w2.alloc (.cells #[.slice (some ⟨g,0,none⟩) 1 cp,.slice ta 0 tc] 118):=⟨_,rfl⟩
 have x0:X.cell? ⟨w2.heap.size,0,none⟩=some (.slice (some ⟨g,0,none⟩) 1 cp):=by rw[hX];simp[go_sem]
 have x1:X.cell? ⟨w2.heap.size,1,none⟩=some (.slice ta 0 tc):=by rw[hX];simp[go_sem]
 have lX:w2.heap.size<X.heap.size:=by rw[hX];simp
 rw[<-hX]at hbX
 have HBX:=uy ((uh HB1).trans ((hb2.trans (hbX.mono hb2.size)).mono (uh HB1).size))
 have HRBX:=uy ((hbX.block _ (by omega)).trans ((hb2.block _ (by omega)).trans (uh HRB1)))
 have HO:=uy (openE0 g cp Bk ta tc w1.heap.size X (by omega) (own_belowK hno hbX) (NdS.below hnd hbX) (own_belowK hto hbX))
 clear hno hnd hto hb2 hbX HJ
 go_upto_region 4 with fail
 rw[<-hX]
 clear hX
 go_wp2_with fail
 refine(uh HO).mono ?_
 rintro e w3 ⟨⟨c,vS,rfl,hM3⟩,hb3⟩
 have z3:=hb3.size
 have hb3':=(uh HBX).trans (hb3.mono (uh HBX).size)
 have HB3:=uy hb3'
 have HRB3:=uy ((hb3.block _ (by omega)).trans (uh HRBX))
 have HAN:=uy (answersW_any c w1.heap.size ab acp _ _ _ _ _ _ E0 n f w3 hn (by omega) (fun i hi j u hu=>(hb3'.cell (p:=⟨ab,i*14+j,none⟩) habl).trans (uh HCS i hi j u hu)) hM3 (fun q hq=>aftS_gd E0_good rfl (uh HWF) hn hq) (fun i hi=>(uh HWF i hi).1) (lastsT _ _ (uh HT) hb3') (by omega) ((uh HE).below hb3' hEl) (by omega) (uh HDD))
 clear hM3 hb3 hb3' x0 x1 HO
 go_wp2_with fail
 refine(uh HAN).mono ?_
 rintro e w4 ⟨rfl,hR⟩
 obtain⟨vN4,vT4,vS4,vU4,Bk4,A4,hM4,hn4⟩:=hR.wk
 have z4:=hR.below.size
 have HS:=uy (wStore_any _ c _ _ _ _ _ _ _ (aftS E0 f n) w4 hM4 (aftS_gd E0_good rfl (uh HWF) hn (Nat.le_refl _)))
 have HR:=uy hR
 have hrw:=(hR.row.lt _ rfl)
 have HRB4:=uy ((hR.below.block w.heap.size (by omega)).trans (uh HRB3))
 have HB4:=uy ((uh HB3).trans (hR.below.mono (by omega)))
 clear hR hM4 hn4 HAN
 go_wp2_with fail
 refine(uh HS).mono ?_
 rintro e w5 ⟨⟨vF,vT,vS5,H,rfl,hS5⟩,hb5⟩
 obtain⟨fa,fc,ta5,tc5,sa,sc,rfl,rfl,rfl⟩:=hS5.forms
 have z5:=hb5.size
 obtain⟨w6,hst6,hS6⟩:=storeAt_any (v:=.agg #[.bool true,.slice (some ⟨w3.heap.size,0,none⟩) n n,.slice fa (aftS E0 f n).nf fc,.slice ta5 (aftS E0 f n).nt tc5,.slice sa (aftS E0 f n).ns sc]) (old:=Pd0.toList) (vs:=[.bool true,.slice (some ⟨w3.heap.size,0,none⟩) n n,.slice fa (aftS E0 f n).nf fc,.slice ta5 (aftS E0 f n).nt tc5,.slice sa (aftS E0 f n).ns sc]) sz_played ((hb5.block _ (by omega)).trans (uh HRB4)) rfl rfl (by simp[Value.oneCell']) rfl
 have HFN:Hid (PlEnd w w6 n f (.slice (some ⟨w3.heap.size,0,none⟩) n n) (.slice fa (aftS E0 f n).nf fc) (.slice ta5 (aftS E0 f n).nt tc5) (.slice sa (aftS E0 f n).ns sc) H w4.heap.size):=uy (by
  have hb5':=(uh HB4).trans (hb5.mono (uh HB4).size)
  refine⟨own_mono1 (own_keep (uh HR).row (fun k e=>?_)) (by omega),?_,fun k e=>by cases e;exact hrw.2,by omega,hS6.below hb5' (Nat.le_refl _)⟩
  ·cases e
   exact(hS6.other w3.heap.size (by omega)).trans (hb5.block _ hrw.2)
  ·rw[hS6.size]
   exact hS5.keep (fun q h1 _ _=>hS6.other q (by omega)))
 have HST:=uy hst6
 have r0:=st_cells (vs:=[.bool true,.slice (some ⟨w3.heap.size,0,none⟩) n n,.slice fa (aftS E0 f n).nf fc,.slice ta5 (aftS E0 f n).nt tc5,.slice sa (aftS E0 f n).ns sc]) hS6 0 _ rfl
 have r1:=st_cells (vs:=[.bool true,.slice (some ⟨w3.heap.size,0,none⟩) n n,.slice fa (aftS E0 f n).nf fc,.slice ta5 (aftS E0 f n).nt tc5,.slice sa (aftS E0 f n).ns sc]) hS6 1 _ rfl
 have r2:=st_cells (vs:=[.bool true,.slice (some ⟨w3.heap.size,0,none⟩) n n,.slice fa (aftS E0 f n).nf fc,.slice ta5 (aftS E0 f n).nt tc5,.slice sa (aftS E0 f n).ns sc]) hS6 2 _ rfl
 have r3:=st_cells (vs:=[.bool true,.slice (some ⟨w3.heap.size,0,none⟩) n n,.slice fa (aftS E0 f n).nf fc,.slice ta5 (aftS E0 f n).nt tc5,.slice sa (aftS E0 f n).ns sc]) hS6 3 _ rfl
 have r4:=st_cells (vs:=[.bool true,.slice (some ⟨w3.heap.size,0,none⟩) n n,.slice fa (aftS E0 f n).nf fc,.slice ta5 (aftS E0 f n).nt tc5,.slice sa (aftS E0 f n).ns sc]) hS6 4 _ rfl
 clear hS5 hb5 hst6 hS6 HS
 go_wp2_with (refine wpList_store rfl rfl _ (uh HST) ?_)
 refine bodyPost_ret (v:=.agg #[.bool true,.slice (some ⟨w3.heap.size,0,none⟩) n n,.slice fa (aftS E0 f n).nf fc,.slice ta5 (aftS E0 f n).nt tc5,.slice sa (aftS E0 f n).ns sc]) (by simp[results,Tryz.results23,go_sem,r0,r1,r2,r3,r4]) rfl ⟨_,_,_,_,_,_,rfl,uh HFN⟩
end
section
open Go.RowKit
theorem plc_root(f:Nat->Shp)(key:ByteArray):plcI f 0 key=-1:=Plc.eq (.inr ⟨rfl,fun t h=>absurd (h 0 (Nat.zero_le _)) (by show¬0<0;decide)⟩)
theorem plc_self{f:Nat->Shp}{i:Nat}{key:ByteArray}(hi:0<i)(h:(f i).key.toList=key.toList):plcI f i key=(f i).count-1:=
 Plc.eq (.inl ⟨0,fun s hs=>by rw[show s=0 by omega];exact hi,h,fun s hs=>absurd hs (Nat.not_lt_zero _),rfl⟩)
theorem anc_up(f:Nat->Shp)(i:Nat):∀t,anc f i (t+1)=anc f (f i).parent.toNat t
 |0=>rfl
 |t+1=>by show(f (anc f i (t+1))).parent.toNat=_;rw[anc_up f i t];rfl
theorem plc_up{f:Nat->Shp}{i:Nat}{key:ByteArray}{r:Int}(hi:0<i)(hne:(f i).key.toList≠key.toList)(h:Plc f (f i).parent.toNat key r):Plc f i key r:=by
 rcases h with⟨t,h1,h2,h3,h4⟩|⟨h1,h2⟩
 ·refine .inl ⟨t+1,fun s hs=>?_,by rw[anc_up];exact h2,fun s hs=>?_,by rw[anc_up];exact h4⟩
  ·cases s with
   |zero=>exact hi
   |succ s=>rw[anc_up];exact h1 s (by omega)
  ·cases s with
   |zero=>exact hne
   |succ s=>rw[anc_up];exact h3 s (by omega)
 ·refine .inr ⟨h1,fun t ht=>?_⟩
  cases t with
  |zero=>exact hne
  |succ t=>
   rw[anc_up]
   exact h2 t (fun s hs=>by have:=ht (s+1) (by omega);rwa [anc_up]at this)
theorem plc_root'(f:Nat->Shp)(key:ByteArray):Plc f 0 key (-1):=.inr ⟨rfl,fun t h=>absurd (h 0 (Nat.zero_le _)) (by show¬0<0;decide)⟩
theorem tget_none{F:Nat->Shp}{x:Tb}{k:Vl}{j:Nat}(hj:x.shape=j)(hp:plcI F j k.str=-1):tget F x k=nov:=by
 unfold tget
 rw[hj,if_neg (by omega),if_neg (by intro h;have:=h.2;simp only[Int.toNat_natCast]at this;omega)]
theorem way_grow{s:Sto}{x:Tb}{k v:Vl}{j:Nat}(hj:x.shape=j)(hk:k.kind=4)(hv:v.kind≠0)(hp:plcI s.F j k.str=-1)(hr:0<=growR s.nf s.F j k.str):wayOf s x k v=.grow:=by
 unfold wayOf
 rw[if_neg (fun h=>hv h.1),hj,if_pos (by omega),if_pos ⟨hk,hv⟩]
 simp only[Int.toNat_natCast]
 rw[hp,if_neg (by decide),if_pos hr]
theorem put_old{s:Sto}{t:Nat}{k v:Vl}{j r:Nat}(hj:(s.T t).shape=j)(hk:k.kind=4)(hv:v.kind≠0)(hp:plcI s.F j k.str=-1)(hr:kidI s.nf s.F j k.str=r):putS s t k v=setT s t (growT (s.T t) r v):=by
 have h0:(0:Int)<=kidI s.nf s.F j k.str:=by omega
 have e1:growR s.nf s.F j k.str=r:=by unfold growR;rw[if_pos h0,hr]
 have e2:growN s.nf s.F j k.str=s.nf:=by unfold growN;rw[if_pos h0]
 have e3:growF s.nf s.F j k.str=s.F:=by unfold growF;rw[if_pos h0]
 unfold putS
 rw[way_grow hj hk hv hp (by omega)]
 simp only[hj,Int.toNat_natCast,e1,e2,e3]
 rfl
theorem put_new{s:Sto}{t:Nat}{k v:Vl}{j:Nat}(hj:(s.T t).shape=j)(hk:k.kind=4)(hv:v.kind≠0)(hp:plcI s.F j k.str=-1)(hr:kidI s.nf s.F j k.str=-1)(hc:¬((s.F j).count=12\/s.nf=200)):putS s t k v={setT s t (growT (s.T t) s.nf v)with nf:=s.nf+1,F:=grown s.F s.nf j k.str}:=by
 have h0:¬(0:Int)<=kidI s.nf s.F j k.str:=by omega
 have e1:growR s.nf s.F j k.str=s.nf:=by unfold growR;rw[if_neg h0,if_neg hc]
 have e2:growN s.nf s.F j k.str=s.nf+1:=by unfold growN;rw[if_neg h0,if_neg hc]
 have e3:growF s.nf s.F j k.str=grown s.F s.nf j k.str:=by unfold growF;rw[if_neg h0,if_neg hc]
 unfold putS
 rw[way_grow hj hk hv hp (by omega)]
 simp only[hj,Int.toNat_natCast,e1,e2,e3]
section
variable (ka kb:ByteArray)
def G1:Nat->Shp:=grown f1 1 0 ka
def G2:Nat->Shp:=grown (G1 ka) 2 1 kb
def G3:Nat->Shp:=grown (G2 ka kb) 3 0 kb
variable {ka kb} (hne:ka.toList≠kb.toList)
theorem kid_f1(key:ByteArray):kidI 1 f1 0 key=-1:=by simp[kidI,atF]
theorem kid_G1:kidI 2 (G1 ka) 1 kb=-1:=by simp[kidI,atF,G1,grown]
theorem kid_G2a:kidI 3 (G2 ka kb) 0 ka=1:=by simp[kidI,atF,G1,G2,grown]
theorem kid_G2b:kidI 3 (G2 ka kb) 1 kb=2:=by simp[kidI,atF,G1,G2,grown]
include hne in
theorem kid_G2c:kidI 3 (G2 ka kb) 0 kb=-1:=by simp[kidI,atF,G1,G2,grown,hne]
include hne in
theorem plc_G1:plcI (G1 ka) 1 kb=-1:=Plc.eq (plc_up (by decide) (by simpa[G1,grown]using hne) (by simpa[G1,grown]using plc_root' _ _))
include hne in
theorem plc_G2a:plcI (G2 ka kb) 1 kb=-1:=Plc.eq (plc_up (by decide) (by simpa[G2,G1,grown]using hne) (by simpa[G2,G1,grown]using plc_root' _ _))
theorem plc_G2b:plcI (G2 ka kb) 2 kb=1:=by rw[plc_self (by decide) (by simp[G2,grown])];simp[G2,G1,grown]
theorem plc_G3b:plcI (G3 ka kb) 2 kb=1:=by rw[plc_self (by decide) (by simp[G3,G2,grown])];simp[G3,G2,G1,grown]
theorem plc_G3c:plcI (G3 ka kb) 3 kb=0:=by rw[plc_self (by decide) (by simp[G3,grown])];simp[G3,G2,G1,grown]
end
end
section
open Go.RowKit
abbrev aNew:Ac:=⟨1,0,0,0,nov,nov⟩
abbrev aSite(k:ByteArray):Ac:=⟨7,0,0,0,strV k,nov⟩
abbrev aPut(t:Nat)(k v:Vl):Ac:=⟨2,(t:Int),0,0,k,v⟩
abbrev aFld(t:Nat):Ac:=⟨8,(t:Int),0,0,nov,nov⟩
theorem fnov_ok:nov.ok=true:=by unfold Vl.ok validB;simp[fz_nil]
theorem fstr_ok{s:ByteArray}(h:s.size<=4000):(strV s).ok=true:=by
 have:=(ky_str h).1
 unfold keyB at this
 simp at this
 exact this.1.1
theorem fint_ok(n:Int):(intV n).ok=true:=by unfold Vl.ok validB intV;simp[fz_nil]
theorem fstr_kcode{s:ByteArray}(h:s.size<=4000):kcode (strV s)=0:=by unfold kcode;rw[if_pos (fstr_ok h)];simp[strV]
theorem fstr_kval{s:ByteArray}(h:s.size<=4000):kval (strV s)=strV s:=by unfold kval;rw[if_pos (fstr_ok h)];simp[strV]
theorem fint_kcode(n:Int):kcode (intV n)=0:=by unfold kcode;rw[if_pos (fint_ok n)];simp[intV]
theorem fint_kval(n:Int):kval (intV n)=intV n:=by unfold kval;rw[if_pos (fint_ok n)];simp[intV]
theorem chk_new(nt ns:Nat):chk aNew nt ns=0:=by
 have h:actB aNew=true:=by simp[actB,rngB,bareB,nonB,fnov_ok]
 simp[chk,h,tabB,sitB]
theorem chk_site{k:ByteArray}(h:k.size<=4000)(nt ns:Nat):chk (aSite k) nt ns=0:=by
 have h:actB (aSite k)=true:=by have:=fstr_ok h;simp[actB,rngB,bareB,nonB,fnov_ok,this];rfl
 simp[chk,h,tabB,sitB]
theorem chk_put{t nt ns:Nat}{k v:Vl}(ht:t<nt)(hn:nt<=100)(hk:k.ok=true)(hc:kcode k=0)(hv:v.ok=true):chk (aPut t k v) nt ns=0:=by
 have h:actB (aPut t k v)=true:=by simp[actB,rngB,bareB,nonB,hk,hv];omega
 have h2:¬(nt:Int)<=(t:Int):=by omega
 simp[chk,h,tabB,sitB,hc]
 omega
theorem chk_fld{t nt ns:Nat}(ht:t<nt)(hn:nt<=100)(hs:0<ns):chk (aFld t) nt ns=0:=by
 have h:actB (aFld t)=true:=by simp[actB,rngB,bareB,nonB,fnov_ok];omega
 simp[chk,h,tabB,sitB]
 omega
theorem step_new{s:Sto}(h:s.nt≠100):stepS s aNew={s with nt:=s.nt+1,T:=up1 s.T s.nt tb0}:=by
 unfold stepS
 rw[if_pos (chk_new _ _)]
 unfold stepC
 rw[if_pos rfl,if_neg h]
theorem step_site{s:Sto}{k:ByteArray}(h:s.ns≠50)(hk:k.size<=4000):stepS s (aSite k)={s with ns:=s.ns+1,S:=up1 s.S s.ns ⟨k,-1,0,0,0⟩}:=by
 unfold stepS
 rw[if_pos (chk_site hk _ _)]
 unfold stepC
 rw[if_neg (show¬(7:Int)=1 by decide),if_pos rfl,if_neg h]
 rfl
theorem step_put{s:Sto}{t:Nat}{k v:Vl}(ht:t<s.nt)(hn:s.nt<=100)(hk:k.ok=true)(hc:kcode k=0)(hv:v.ok=true):stepS s (aPut t k v)=putS s t (kval k) v:=by
 unfold stepS
 rw[if_pos (chk_put ht hn hk hc hv)]
 unfold stepC
 rw[if_neg (show¬(2:Int)=1 by decide),if_neg (show¬(2:Int)=7 by decide),if_pos rfl]
 simp only[Int.toNat_natCast]
theorem step_fld{s:Sto}{t:Nat}(ht:t<s.nt)(hn:s.nt<=100)(hs:0<s.ns):stepS s (aFld t)=findS s 0 t/\ansD s (aFld t)=ansV (if 0<=findI s 0 t then(s.T t).V (findI s 0 t).toNat else tget s.F (s.T t) (strV (s.S 0).key)):=by
 unfold stepS ansD
 rw[if_pos (chk_fld ht hn hs),if_pos (chk_fld ht hn hs)]
 unfold stepC ansS
 constructor
 ·rw[if_neg (show¬(8:Int)=1 by decide),if_neg (show¬(8:Int)=7 by decide),if_neg (show¬(8:Int)=2 by decide),if_pos rfl]
  simp only[Int.toNat_natCast]
  rfl
 ·rw[if_neg (show¬(8:Int)=1 by decide),if_neg (show¬(8:Int)=7 by decide),if_neg (show¬(8:Int)=2 by decide),if_neg (show¬(8:Int)=9 by decide),if_neg (show¬(8:Int)=3 by decide),if_pos rfl]
  simp only[Int.toNat_natCast]
  rfl
noncomputable def runS(s:Sto)(L:List Ac):Sto:=L.foldl stepS s
theorem runS_append(s:Sto)(L M:List Ac):runS s (L++M)=runS (runS s L) M:=List.foldl_append
abbrev acF(L:List Ac)(i:Nat):Ac:=L.getD i aNew
theorem aftS_run(s:Sto)(L:List Ac):∀q,q<=L.length->aftS s (acF L) q=runS s (L.take q)
 |0,_=>by simp[aftS,runS]
 |q+1,h=>by
  have hq:q<L.length:=h
  show stepS (aftS s (acF L) q) (acF L q)=_
  rw[aftS_run s L q (by omega),List.take_succ_eq_append_getElem hq,runS_append]
  show _=stepS _ _
  simp[acF,List.getD,hq]
theorem ansQ_run(s:Sto)(L:List Ac){q:Nat}(h:q<=L.length):ansQ s (acF L) q=ansD (runS s (L.take q)) (acF L q):=by
 unfold ansQ
 rw[aftS_run s L q h]
section
variable (ka kb:ByteArray) (vA:Vl)
abbrev T2(j:Nat):Tb:=growT (growT tb0 1 vA) 2 (intV j)
def TTs:Nat->Nat->Tb
 |0=>fun _=>tb0
 |j+1=>up1 (up1 (up1 (TTs j) j tb0) j (growT tb0 1 vA)) j (T2 vA j)
def tblA(j:Nat):List Ac:=[aNew,aPut j (strV ka) vA,aPut j (strV kb) (intV j)]
def tabsA:Nat->List Ac
 |0=>[]
 |j+1=>tabsA j++tblA ka kb vA j
def stN(j:Nat):Sto:=⟨if j=0 then 1 else 3,if j=0 then f1 else G2 ka kb,j,TTs vA j,1,up1 (fun _=>default) 0 ⟨kb,-1,0,0,0⟩⟩
variable {ka kb vA} (hne:ka.toList≠kb.toList) (h1:ka.size<=4000) (h2:kb.size<=4000) (hA:vA.ok=true) (hA0:vA.kind≠0)
theorem TTs_get:∀{j i:Nat},i<j->TTs vA j i=T2 vA i
 |j+1,i,h=>by
  show up1 _ j (T2 vA j) i=_
  by_cases e:i=j
  ·rw[e,up1_self]
  ·rw[up1_other _ _ e,up1_other _ _ e,up1_other _ _ e]
   exact TTs_get (by omega)
theorem stN_zero(h2:kb.size<=4000):runS E0 [aSite kb]=stN ka kb vA 0:=by
 show stepS E0 (aSite kb)=_
 rw[step_site (by decide) h2]
 rfl
include hne h1 h2 hA hA0 in
theorem stN_step{j:Nat}(hj:j<99):runS (stN ka kb vA j) (tblA ka kb vA j)=stN ka kb vA (j+1):=by
 show stepS (stepS (stepS (stN ka kb vA j) aNew) (aPut j (strV ka) vA)) (aPut j (strV kb) (intV j))=_
 rw[step_new (show j≠100 by omega)]
 have e0:(up1 (TTs vA j) j tb0 j).shape=((0:Nat):Int):=by rw[up1_self];rfl
 by_cases hj0:j=0
 ·subst hj0
  rw[step_put (show 0<0+1 by omega) (show 0+1<=100 by omega) (fstr_ok h1) (fstr_kcode h1) hA,fstr_kval h1]
  rw[put_new (j:=0) e0 rfl hA0 (plc_root _ _) (kid_f1 _) (by show¬((f1 0).count=12\/1=200);decide)]
  rw[step_put (show 0<0+1 by omega) (show 0+1<=100 by omega) (fstr_ok h2) (fstr_kcode h2) (fint_ok _),fstr_kval h2]
  rw[put_new (j:=1) (by simp[setT,up1,growT,stN]) rfl (by show(2:Int)≠0;decide) (plc_G1 hne) kid_G1 (by show¬((G1 ka 1).count=12\/2=200);simp[G1,grown])]
  show(⟨_,_,_,up1 (up1 _ 0 _) 0 _,_,_⟩:Sto)=⟨_,_,_,up1 _ 0 _,_,_⟩
  simp only[setT,stN,up1_self]
  rfl
 ·have f3:stN ka kb vA j=⟨3,G2 ka kb,j,TTs vA j,1,up1 (fun _=>default) 0 ⟨kb,-1,0,0,0⟩⟩:=by unfold stN;rw[if_neg hj0,if_neg hj0]
  have f4:stN ka kb vA (j+1)=⟨3,G2 ka kb,j+1,TTs vA (j+1),1,up1 (fun _=>default) 0 ⟨kb,-1,0,0,0⟩⟩:=by unfold stN;rw[if_neg (by omega),if_neg (by omega)]
  rw[f3,f4]
  rw[step_put (show j<j+1 by omega) (show j+1<=100 by omega) (fstr_ok h1) (fstr_kcode h1) hA,fstr_kval h1]
  rw[put_old (j:=0) (r:=1) e0 rfl hA0 (plc_root _ _) kid_G2a]
  rw[step_put (show j<j+1 by omega) (show j+1<=100 by omega) (fstr_ok h2) (fstr_kcode h2) (fint_ok _),fstr_kval h2]
  rw[put_old (j:=1) (r:=2) (by simp[setT,up1,growT]) rfl (by show(2:Int)≠0;decide) (plc_G2a hne) kid_G2b]
  simp only[setT,up1_self]
  rfl
include hne h1 h2 hA hA0 in
theorem stN_run:∀n,n<=99->runS (stN ka kb vA 0) (tabsA ka kb vA n)=stN ka kb vA n
 |0,_=>rfl
 |n+1,h=>by
  show runS _ (tabsA ka kb vA n++tblA ka kb vA n)=_
  rw[runS_append,stN_run n (by omega),stN_step hne h1 h2 hA hA0 (by omega)]
end
end
section
open Go.RowKit
theorem get_has{d:Dc}{k:Vl}(h:Inv Ky hN d)(hk:Ky k){p:Pr}(hp:Has d p)(hl:likeB p.key k=true):atPlace d (placeI d k (hN k))=p.val:=by
 obtain⟨i,a1,a2,rfl⟩:=hp
 rcases h.i0.place keyLaw hk with⟨j,h1,h2,h3,h4⟩|⟨h1,h2⟩
 ·have e:i=j:=by
   by_cases e:i=j
   ·exact e
   ·have:=(like_iff keyLaw h.i0 hk h1 h2 h3 a1 a2).2 e
    rw[this]at hl
    cases hl
  subst e
  have h4:placeI d k (hN k)=i:=h4
  rw[h4]
  unfold atPlace
  rw[if_pos (by omega)]
  simp
 ·rw[h1 i a1 a2]at hl
  cases hl
structure Ready (s:Sto) (n:Nat) (kb:ByteArray) (odd:Nat) (last:Vl):Prop where
 nt:s.nt=n+1
 le:n<=90
 n0:0<n
 ns:s.ns=1
 si:s.S 0=⟨kb,-1,0,0,0⟩
 tab:∀t,t<n->(s.T t).shape=2/\(s.T t).V 1=intV t
 plc2:plcI s.F 2 kb=1
 odd:(odd=0/\(s.T n).shape=0/\last=nov)\/(odd=1/\(s.T n).shape=3/\plcI s.F 3 kb=0/\(s.T n).V 0=last)\/(odd=2/\(s.T n).shape=-1/\atPlace (s.T n).d (placeI (s.T n).d (strV kb) (hN (strV kb)))=last)
def siS(s:Sto)(x:Si):Sto:={s with S:=up1 s.S 0 x}
theorem siS_0(s:Sto)(x:Si):(siS s x).S 0=x:=by show up1 s.S 0 x 0=x;exact up1_self _ _ _
theorem find_si(s:Sto)(x:Si)(t:Nat):findS (siS s x) 0 t=siS s (findX (siS s x) 0 t):=by
 unfold findS siS
 simp only
 congr 1
 funext j
 unfold up1
 split<;>rfl
def fldsA:Nat->List Ac
 |0=>[]
 |q+1=>fldsA q++[aFld q]
theorem fldsA_length:∀q,(fldsA q).length=q
 |0=>rfl
 |q+1=>by simp[fldsA,fldsA_length q]
section
variable {s:Sto} {n odd:Nat} {kb:ByteArray} {last:Vl} (h:Ready s n kb odd last)
def siQ(kb:ByteArray)(q:Nat):Si:=if q=0 then⟨kb,-1,0,0,0⟩else⟨kb,2,1,(q:Int)-1,1⟩
def siO(kb:ByteArray)(n odd:Nat):Si:=if odd=1 then⟨kb,3,0,(n:Int)-1,2⟩else⟨kb,2,1,(n:Int)-1,2⟩
def siE(kb:ByteArray)(n odd:Nat):Si:=if odd=1 then⟨kb,2,1,(n:Int)-1,3⟩else⟨kb,2,1,(n:Int),2⟩
include h
theorem rd_start:siS s (siQ kb 0)=s:=by
 unfold siS siQ
 rw[if_pos rfl,<-h.si]
 have:up1 s.S 0 (s.S 0)=s.S:=by funext j;unfold up1;split<;>simp_all
 rw[this]
theorem rd_step{q:Nat}(hq:q<n):runS (siS s (siQ kb q)) [aFld q]=siS s (siQ kb (q+1))/\(ansD (siS s (siQ kb q)) (aFld q)).val=intV q:=by
 obtain⟨e1,e2⟩:=step_fld (s:=siS s (siQ kb q)) (t:=q) (by show q<s.nt;rw[h.nt];omega) (by show s.nt<=100;have:=h.nt;have:=h.le;omega) (by show 0<s.ns;rw[h.ns];omega)
 obtain⟨t1,t2⟩:=h.tab q hq
 have hs0:(siS s (siQ kb q)).S 0=siQ kb q:=siS_0 _ _
 have hT:(siS s (siQ kb q)).T=s.T:=rfl
 have hF:(siS s (siQ kb q)).F=s.F:=rfl
 have hp:=h.plc2
 have hle:=h.le
 rw[e2]
 show stepS _ _=_/\_
 rw[e1,find_si]
 by_cases h0:q=0
 ·subst h0
  have hh:hitB (siS s (siQ kb 0)) 0 0=false:=by unfold hitB;rw[hs0,hT,t1];simp[siQ]
  have hx:findX (siS s (siQ kb 0)) 0 0=siQ kb 1:=by
   unfold findX
   rw[hh,if_neg (by decide),hs0,hT,hF,t1]
   show(if(0:Int)<=2/\0<=plcI s.F 2 kb then _ else _)=_
   rw[hp,if_pos (by decide)]
   show(⟨kb,2,plcI s.F 2 kb,0,oneM 0⟩:Si)=_
   rw[hp]
   rfl
  have hi:findI (siS s (siQ kb 0)) 0 0=1:=by
   unfold findI
   rw[hh,if_neg (by decide),hs0,hT,hF,t1,if_pos (by decide)]
   exact hp
  rw[hx,hi]
  exact⟨rfl,by rw[if_pos (by decide)];exact t2⟩
 ·have hsq:siQ kb q=⟨kb,2,1,(q:Int)-1,1⟩:=if_neg h0
  have hsq1:siQ kb (q+1)=⟨kb,2,1,((q+1:Nat):Int)-1,1⟩:=if_neg (by omega)
  have hh:hitB (siS s (siQ kb q)) 0 q=true:=by unfold hitB;rw[hs0,hT,t1,hsq];rfl
  have hx:findX (siS s (siQ kb q)) 0 q=siQ kb (q+1):=by
   unfold findX
   rw[hh,if_pos rfl,hs0,hsq,hsq1]
   show(⟨kb,2,1,oneM ((q:Int)-1),1⟩:Si)=_
   unfold oneM
   rw[if_pos (by omega)]
   congr 1
   omega
  have hi:findI (siS s (siQ kb q)) 0 q=1:=by
   unfold findI
   rw[hh,if_pos rfl,hs0,hsq]
  rw[hx,hi]
  exact⟨rfl,by rw[if_pos (by decide)];exact t2⟩
theorem rd_run:∀q,q<=n->runS s (fldsA q)=siS s (siQ kb q)
 |0,_=>(rd_start h).symm
 |q+1,hq=>by
  show runS s (fldsA q++[aFld q])=_
  rw[runS_append,rd_run q (by omega),(rd_step h (by omega)).1]
theorem rd_odd:runS (siS s (siQ kb n)) [aFld n]=siS s (siO kb n odd)/\(ansD (siS s (siQ kb n)) (aFld n)).val=last:=by
 obtain⟨e1,e2⟩:=step_fld (s:=siS s (siQ kb n)) (t:=n) (by show n<s.nt;rw[h.nt];omega) (by show s.nt<=100;have:=h.nt;have:=h.le;omega) (by show 0<s.ns;rw[h.ns];omega)
 have hs0:(siS s (siQ kb n)).S 0=siQ kb n:=siS_0 _ _
 have hT:(siS s (siQ kb n)).T=s.T:=rfl
 have hF:(siS s (siQ kb n)).F=s.F:=rfl
 have hsq:siQ kb n=⟨kb,2,1,(n:Int)-1,1⟩:=if_neg (by have:=h.n0;omega)
 rw[e2]
 show stepS _ _=_/\_
 rw[e1,find_si]
 rcases h.odd with⟨ho,t1,hl⟩|⟨ho,t1,hp,hl⟩|⟨ho,t1,hl⟩
 ·have hh:hitB (siS s (siQ kb n)) 0 n=false:=by unfold hitB;rw[hs0,hT,t1,hsq];simp
  have hp:plcI s.F 0 kb=-1:=plc_root _ _
  have hx:findX (siS s (siQ kb n)) 0 n=siO kb n odd:=by
   unfold findX
   rw[hh,if_neg (by decide),hs0,hT,hF,t1,hsq,if_neg (by show¬((0:Int)<=0/\0<=plcI s.F 0 kb);rw[hp];decide)]
   subst ho
   rfl
  have hi:findI (siS s (siQ kb n)) 0 n=-1:=by
   unfold findI
   rw[hh,if_neg (by decide),hs0,hT,hF,t1,hsq,if_pos (by decide)]
   exact hp
  rw[hx,hi]
  refine⟨rfl,?_⟩
  rw[if_neg (by decide),hs0,hT,hF,hsq,hl]
  show tget s.F (s.T n) (strV kb)=nov
  exact tget_none (j:=0) t1 hp
 ·have hh:hitB (siS s (siQ kb n)) 0 n=false:=by unfold hitB;rw[hs0,hT,t1,hsq];simp
  have hx:findX (siS s (siQ kb n)) 0 n=siO kb n odd:=by
   unfold findX
   rw[hh,if_neg (by decide),hs0,hT,hF,t1,hsq]
   show(if(0:Int)<=3/\0<=plcI s.F 3 kb then _ else _)=_
   rw[hp,if_pos (by decide)]
   show(⟨kb,3,plcI s.F 3 kb,(n:Int)-1,oneM 1⟩:Si)=_
   rw[hp]
   subst ho
   rfl
  have hi:findI (siS s (siQ kb n)) 0 n=0:=by
   unfold findI
   rw[hh,if_neg (by decide),hs0,hT,hF,t1,hsq,if_pos (by decide)]
   exact hp
  rw[hx,hi]
  exact⟨rfl,by rw[if_pos (by decide)];exact hl⟩
 ·have hh:hitB (siS s (siQ kb n)) 0 n=false:=by unfold hitB;rw[hs0,hT,t1,hsq];simp
  have hx:findX (siS s (siQ kb n)) 0 n=siO kb n odd:=by
   unfold findX
   rw[hh,if_neg (by decide),hs0,hT,hF,t1,hsq,if_neg (by intro h;have:=h.1;omega)]
   subst ho
   rfl
  have hi:findI (siS s (siQ kb n)) 0 n=-1:=by
   unfold findI
   rw[hh,if_neg (by decide),hs0,hT,hF,t1,hsq,if_neg (by decide)]
  rw[hx,hi]
  refine⟨rfl,?_⟩
  rw[if_neg (by decide),hs0,hT,hF,hsq]
  show tget s.F (s.T n) (strV kb)=last
  unfold tget
  rw[if_pos (by rw[t1];decide)]
  exact hl
theorem rd_end:runS (siS s (siO kb n odd)) [aFld 0]=siS s (siE kb n odd):=by
 obtain⟨e1,_⟩:=step_fld (s:=siS s (siO kb n odd)) (t:=0) (by show 0<s.nt;rw[h.nt];omega) (by show s.nt<=100;have:=h.nt;have:=h.le;omega) (by show 0<s.ns;rw[h.ns];omega)
 have hs0:(siS s (siO kb n odd)).S 0=siO kb n odd:=siS_0 _ _
 have hT:(siS s (siO kb n odd)).T=s.T:=rfl
 have hF:(siS s (siO kb n odd)).F=s.F:=rfl
 obtain⟨t1,t2⟩:=h.tab 0 h.n0
 have hp:=h.plc2
 have hle:=h.le
 show stepS _ _=_
 rw[e1,find_si]
 congr 1
 by_cases ho:odd=1
 ·subst ho
  have hh:hitB (siS s (siO kb n 1)) 0 0=false:=by unfold hitB;rw[hs0,hT,t1];simp[siO]
  unfold findX
  rw[hh,if_neg (by decide),hs0,hT,hF,t1]
  show(if(0:Int)<=2/\0<=plcI s.F 2 kb then _ else _)=_
  rw[hp,if_pos (by decide)]
  show(⟨kb,2,plcI s.F 2 kb,(n:Int)-1,oneM 2⟩:Si)=_
  rw[hp]
  rfl
 ·have hso:siO kb n odd=⟨kb,2,1,(n:Int)-1,2⟩:=if_neg ho
  have hh:hitB (siS s (siO kb n odd)) 0 0=true:=by unfold hitB;rw[hs0,hT,t1,hso];rfl
  unfold findX
  rw[hh,if_pos rfl,hs0,hso]
  show(⟨kb,2,1,oneM ((n:Int)-1),2⟩:Si)=if odd=1 then _ else _
  rw[if_neg ho]
  unfold oneM
  rw[if_pos (by omega)]
  congr 1
  omega
end
end
section
open Go.RowKit
def tailA(kb:ByteArray)(n odd:Nat):List Ac:=[aNew]++(if 0<odd then[aPut n (strV kb) (strV kb)]else[])++(if 1<odd then[aPut n (intV 0) (strV kb)]else[])
def lastV(kb:ByteArray)(odd:Nat):Vl:=if 0<odd then strV kb else nov
theorem put_loose{s:Sto}{t:Nat}{k v:Vl}{j:Nat}(hj:(s.T t).shape=j)(hk:k.kind≠4)(hv:v.kind≠0):putS s t k v=setT s t (dictT (s.T t) (looseD s.F j (s.T t).V (s.T t).nv) k v):=by
 have e:wayOf s (s.T t) k v=.loose:=by
  unfold wayOf
  rw[if_neg (fun h=>hv h.1),hj,if_pos (by omega),if_neg (fun h=>hk h.1)]
 unfold putS
 rw[e]
 simp only[hj,Int.toNat_natCast]
theorem loose_get{kb:ByteArray}(hk:kb.size<=4000):atPlace (putD hN (putD hN noD (strV kb) (strV kb)) (intV 0) (strV kb)) (placeI (putD hN (putD hN noD (strV kb) (strV kb)) (intV 0) (strV kb)) (strV kb) (hN (strV kb)))=strV kb:=by
 have hK:=ky_str hk
 have hI:Ky (intV 0):=⟨by unfold keyB Vl.ok validB intV;simp[fz_nil],⟨by show(0:Nat)<_;decide,Nat.zero_le _⟩⟩
 have i0:Inv Ky hN noD:=noD_inv
 have i1:=putD_inv keyLaw i0 hK hK.1 (fstr_ok hk)
 have i2:=putD_inv keyLaw i1 hI hI.1 (fstr_ok hk)
 have hno:∀p,¬Has noD p:=fun p ⟨i,h,_⟩=>absurd h (Nat.not_lt_zero _)
 obtain⟨tn,hs⟩:∃tn,∀p,Has (putD hN noD (strV kb) (strV kb)) p↔p=⟨strV kb,strV kb,tn⟩:=by
  rcases put_says keyLaw i0 hK hK.1 (fstr_ok hk)with⟨q,a,_⟩|⟨q,a,_⟩|⟨_,_,a3,_,_⟩|⟨_,a2,_⟩
  ·exact absurd a (hno q)
  ·exact absurd a (hno q)
  ·exact⟨_,fun p=>⟨fun h=>((a3 p).1 h).resolve_left (hno p),fun h=>(a3 p).2 (.inr h)⟩⟩
  ·exact absurd ⟨by show(4:Int)≠0;decide,by show(0:Int)<500;decide,by show(0:Int)<1000000000000;decide⟩ a2
 have hlk:∀q,Has (putD hN noD (strV kb) (strV kb)) q->likeB q.key (intV 0)=true->False:=fun q h1 h2=>by
  rw[(hs q).1 h1]at h2
  have:(strV kb).kind=(intV 0).kind:=like_kind h2
  cases this
 have h2:Has (putD hN (putD hN noD (strV kb) (strV kb)) (intV 0) (strV kb)) ⟨strV kb,strV kb,tn⟩:=by
  rcases put_says keyLaw i1 hI hI.1 (fstr_ok hk)with⟨q,a,b,_⟩|⟨q,a,b,_⟩|⟨_,_,a3,_,_⟩|⟨_,_,a3⟩
  ·exact(hlk q a b).elim
  ·exact(hlk q a b).elim
  ·exact(a3 _).2 (.inl ((hs _).2 rfl))
  ·rw[a3];exact(hs _).2 rfl
 exact get_has i2 hK h2 (keyLaw.refl _ hK)
section
variable {ka kb:ByteArray} {vA:Vl} (hne:ka.toList≠kb.toList) (h1:ka.size<=4000) (h2:kb.size<=4000) (hA:vA.ok=true) (hA0:vA.kind≠0)
include hne h2 in
theorem ready{n odd:Nat}(hn:n<=90)(hn0:0<n)(ho:odd<3):Ready (runS (stN ka kb vA n) (tailA kb n odd)) n kb odd (lastV kb odd):=by
 have f3:stN ka kb vA n=⟨3,G2 ka kb,n,TTs vA n,1,up1 (fun _=>default) 0 ⟨kb,-1,0,0,0⟩⟩:=by unfold stN;rw[if_neg (by omega),if_neg (by omega)]
 have s1:stepS (stN ka kb vA n) aNew=⟨3,G2 ka kb,n+1,up1 (TTs vA n) n tb0,1,up1 (fun _=>default) 0 ⟨kb,-1,0,0,0⟩⟩:=by rw[f3,step_new (show n≠100 by omega)]
 have hV:∀t,(T2 vA t).shape=2/\(T2 vA t).V 1=intV t:=fun t=>⟨rfl,by simp[growT,up1,tb0]⟩
 have s2:stepS ⟨3,G2 ka kb,n+1,up1 (TTs vA n) n tb0,1,up1 (fun _=>default) 0 ⟨kb,-1,0,0,0⟩⟩ (aPut n (strV kb) (strV kb))=⟨4,G3 ka kb,n+1,up1 (up1 (TTs vA n) n tb0) n (growT tb0 3 (strV kb)),1,up1 (fun _=>default) 0 ⟨kb,-1,0,0,0⟩⟩:=by
  rw[step_put (show n<n+1 by omega) (show n+1<=100 by omega) (fstr_ok h2) (fstr_kcode h2) (fstr_ok h2),fstr_kval h2]
  rw[put_new (j:=0) (by show Tb.shape (up1 (TTs vA n) n tb0 n)=_;rw[up1_self];rfl) rfl (by show(4:Int)≠0;decide) (plc_root _ _) (kid_G2c hne) (by show¬((G2 ka kb 0).count=12\/3=200);simp[G2,G1,grown])]
  simp only[setT,up1_self]
  rfl
 rcases(show odd=0\/odd=1\/odd=2 by omega)with rfl|rfl|rfl
 ·show Ready (stepS (stN ka kb vA n) aNew) n kb 0 nov
  rw[s1]
  refine⟨rfl,hn,hn0,rfl,rfl,fun t ht=>?_,plc_G2b,.inl ⟨rfl,?_,rfl⟩⟩
  ·show(up1 (TTs vA n) n tb0 t).shape=2/\(up1 (TTs vA n) n tb0 t).V 1=intV t
   rw[up1_other _ _ (by omega),TTs_get ht]
   exact hV t
  ·show(up1 (TTs vA n) n tb0 n).shape=0
   rw[up1_self]
   rfl
 ·show Ready (stepS (stepS (stN ka kb vA n) aNew) (aPut n (strV kb) (strV kb))) n kb 1 (strV kb)
  rw[s1,s2]
  refine⟨rfl,hn,hn0,rfl,rfl,fun t ht=>?_,plc_G3b,.inr (.inl ⟨rfl,?_,plc_G3c,?_⟩)⟩
  ·show(up1 (up1 (TTs vA n) n tb0) n (growT tb0 3 (strV kb)) t).shape=2/\(up1 (up1 (TTs vA n) n tb0) n (growT tb0 3 (strV kb)) t).V 1=intV t
   rw[up1_other _ _ (by omega),up1_other _ _ (by omega),TTs_get ht]
   exact hV t
  ·show(up1 (up1 (TTs vA n) n tb0) n (growT tb0 3 (strV kb)) n).shape=3
   rw[up1_self]
   rfl
  ·show(up1 (up1 (TTs vA n) n tb0) n (growT tb0 3 (strV kb)) n).V 0=strV kb
   rw[up1_self]
   simp[growT,up1,tb0]
 ·show Ready (stepS (stepS (stepS (stN ka kb vA n) aNew) (aPut n (strV kb) (strV kb))) (aPut n (intV 0) (strV kb))) n kb 2 (strV kb)
  rw[s1,s2,step_put (show n<n+1 by omega) (show n+1<=100 by omega) (fint_ok 0) (fint_kcode 0) (fstr_ok h2),fint_kval]
  rw[put_loose (j:=3) (by show Tb.shape (up1 _ n (growT tb0 3 (strV kb)) n)=_;rw[up1_self];rfl) (by show(2:Int)≠4;decide) (by show(4:Int)≠0;decide)]
  have hd:looseD (G3 ka kb) 3 (growT tb0 3 (strV kb)).V (growT tb0 3 (strV kb)).nv=putD hN noD (strV kb) (strV kb):=by
   have e1:fld (G3 ka kb) 3 0=kb:=by simp[fld,nf,anc,G3,G2,G1,grown]
   have e2:(growT tb0 3 (strV kb)).V 0=strV kb:=by simp[growT,up1,tb0]
   show putD hN noD (strV (fld (G3 ka kb) 3 0)) ((growT tb0 3 (strV kb)).V 0)=_
   rw[e1,e2]
  simp only[setT,up1_self,hd]
  refine⟨rfl,hn,hn0,rfl,rfl,fun t ht=>?_,plc_G3b,.inr (.inr ⟨rfl,?_,?_⟩)⟩
  ·simp only[up1_other _ _ (show t≠n by omega),TTs_get ht]
   exact hV t
  ·simp only[up1_self]
   rfl
  ·simp only[up1_self]
   exact loose_get h2
end
end
section
open Go.RowKit
structure Keys (κ:Nat->Vl) (D:Nat->Prop):Prop where
 ky:∀i,D i->Ky (κ i)
 inj:∀i j,D i->D j->likeB (κ i) (κ j)=true->i=j
section
variable {κ:Nat->Vl} {D S:Nat->Prop} {d:Dc} {v:Vl} {i:Nat}
end
end
section
open Go.RowKit
def CodeAt(w:World)(b:Nat)(a:Option Addr)(len:Nat):Prop:=
 len<9007199254740992/\(len=0\/∃k off,a=some ⟨k,off,none⟩/\k<b/\∀i,i<len->∃z:Int,w.cell? ⟨k,off+i,none⟩=some (.int .u8 z)/\0<=z/\z<256)
end
end Go.Proofs.YtgmlkfgfjjggnaaGreatDoor
