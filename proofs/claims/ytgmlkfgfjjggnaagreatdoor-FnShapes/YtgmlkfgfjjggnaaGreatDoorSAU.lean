import Derived.Test.YtgmlkfgfjjggnaaGreatDoorProg
import Derived.Deep.AppendLies
import Derived.Deep.OwnRows
import Derived.Deep.Cut
import Derived.Test.YtgmlkfgfjjggnaaGreatDoorSAK
import Derived.Test.YtgmlkfgfjjggnaaGreatDoorSAS
import Derived.Test.YtgmlkfgfjjggnaaGreatDoorSAP
import Derived.Deep.QuietTactic
import Derived.BigQuiet
import Derived.Test.YtgmlkfgfjjggnaaGreatDoorSAR
import Derived.Test.YtgmlkfgfjjggnaaGreatDoorSAT
set_option linter.unusedVariables false
set_option linter.unusedSimpArgs false
set_option maxHeartbeats 40000000
set_option maxRecDepth 100000
namespace Go.Proofs.YtgmlkfgfjjggnaaGreatDoor
section
theorem run_append_none{P:Program}(w:World)(t ty e:TypeId)(i:TypeInfo)(ht:P.underlying t=some (.slice e))(hi:P.info? e=some i)(ao:Option Addr)(c:Nat):
  (Builtin.append_ #[t,t] ty #[.slice none 0 0,.slice ao 0 c]).run P w=.ok (.slice none 0 0) w:=by
 cases ao<;>simp[Builtin.append_,run_underlying ht,sizeOf,typeInfo,hi,Builtin.lenOf,Builtin.firstCells,loadCells,loadCellsFrom]
theorem grown_none(w:World):w.grownBy w none:=⟨rfl,rfl,rfl,Nat.le_refl _,fun _ _ _=>rfl⟩
theorem run_append_copy{P:Program}(w:World)(t ty:TypeId)(base:Nat)(e:TypeId)(i:TypeInfo)(z:Value)(size bytes:Nat)(ht:P.underlying t=some (.slice e))(hi:P.info? e=some i)(hz:i.zero=some z)
  (hsize:i.size=size) (hby:i.bytes=bytes) (hzs:z.cells.size=size) (hsz:0<size)
  (ao:Option Addr) (m c:Nat) (news:List Value) (hl:news.length=m*size) (hnews:m=0\/∃ad,ao=some ad/\∀j u,news[j]?=some u->w.cell? (ad.add j)=some u) (h1:∀u∈news,u.oneCell'=true)
  (h63:m<=maxLen) (hbytes:m*bytes<=140737488355328) (hbase:base<=w.heap.size) (H:Nat) (hH:w.heap.size=H):
  ∃a' cap w',(Builtin.append_ #[t,t] ty #[.slice none 0 0,.slice ao m c]).run P w=.ok (.slice a' m cap) w'/\
   w'.ownsRow base e size (.slice a' m cap) m news/\w.grownBy w' none/\(∀q,(Value.slice a' m cap).ownBlock=some q->q=H):=by
 rcases Nat.eq_zero_or_pos m with h0|h0
 ·subst h0
  have hn:news=[]:=List.eq_nil_of_length_eq_zero (by rw[hl];simp)
  subst hn
  exact⟨none,0,w,run_append_none w t ty e i ht hi ao c,World.ownsRow_nil _ _ _ _,grown_none w,fun q e=>by cases e⟩
 ·obtain⟨ad,rfl,hn⟩:=hnews.resolve_left (by omega)
  obtain⟨g,cap,w',hr,h2,h3,h4,h5⟩:=run_append_lies (P:=P) w t ty base e i z size bytes ht hi hz hsize hby hzs hsz (.slice none 0 0) 0 [] (World.ownsRow_nil _ _ _ _) ad m c news hl hn h1 h0 (by omega) (by simpa using hbytes) hbase H hH
  simp only[Nat.zero_add,List.nil_append]at hr h2
  exact⟨some ⟨g,0,none⟩,cap,w',hr,h2,h3,fun q e=>by cases e;exact h4.resolve_left (by simp[Value.ownBlock])⟩
theorem wp_append_copy{P:Program}(w:World){o:Oper}{a:Act}{K:Act->World->Prop}{Q:Exit->Act->World->Prop}(s x:Operand)(t:TypeId)
  (ho:o.op=.call {callee:=.builtin .append,args:=#[s,x],argTypes:=#[t,t]})
  (base:Nat) (e:TypeId) (i:TypeInfo) (z:Value) (size bytes:Nat) (ht:P.underlying t=some (.slice e)) (hi:P.info? e=some i) (hz:i.zero=some z)
  (hsize:i.size=size) (hby:i.bytes=bytes) (hzs:z.cells.size=size) (hsz:0<size) (hs:a.eval s=.slice none 0 0)
  (ao:Option Addr) (m c:Nat) (news:List Value) (hx:a.eval x=.slice ao m c) (hl:news.length=m*size) (hnews:m=0\/∃ad,ao=some ad/\∀j u,news[j]?=some u->w.cell? (ad.add j)=some u) (h1:∀u∈news,u.oneCell'=true)
  (h63:m<=maxLen) (hbytes:m*bytes<=140737488355328) (hbase:base<=w.heap.size) (H:Nat) (hH:w.heap.size=H)
  (h:∀a' cap w',w'.ownsRow base e size (.slice a' m cap) m news->w.grownBy w' none->(∀q,(Value.slice a' m cap).ownBlock=some q->q=H)->K (a.put o.dst (.slice a' m cap)) w'):o.wp P a w K Q:=by
 obtain⟨a',cap,w',hr,h2,h3,h4⟩:=run_append_copy (P:=P) w t o.type base e i z size bytes ht hi hz hsize hby hzs hsz ao m c news hl hnews h1 h63 hbytes hbase H hH
 unfold Oper.wp execOp
 simp only[ho,resolve,invoke,builtin,Sem.run_bind,Sem.run_pure,Result.andThen_ok,List.map_toArray,List.map_cons,List.map_nil,hs,hx,hr]
 exact h a' cap w' h2 h3 h4
theorem wpList_append_copy{P:Program}{w:World}{ops:Array Oper}{rest:List Oper}{o:Oper}{a:Act}{Q:Exit->Act->World->Prop}(hgd:o.guard=none)(s x:Operand)(t:TypeId)
  (ho:o.op=.call {callee:=.builtin .append,args:=#[s,x],argTypes:=#[t,t]})
  (base:Nat) (e:TypeId) (i:TypeInfo) (z:Value) (size bytes:Nat) (ht:P.underlying t=some (.slice e)) (hi:P.info? e=some i) (hz:i.zero=some z)
  (hsize:i.size=size) (hby:i.bytes=bytes) (hzs:z.cells.size=size) (hsz:0<size) (hs:a.eval s=.slice none 0 0)
  (ao:Option Addr) (m c:Nat) (news:List Value) (hx:a.eval x=.slice ao m c) (hl:news.length=m*size) (hnews:m=0\/∃ad,ao=some ad/\∀j u,news[j]?=some u->w.cell? (ad.add j)=some u) (h1:∀u∈news,u.oneCell'=true)
  (h63:m<=maxLen) (hbytes:m*bytes<=140737488355328) (hbase:base<=w.heap.size) (H:Nat) (hH:w.heap.size=H)
  (h:∀a' cap w',w'.ownsRow base e size (.slice a' m cap) m news->w.grownBy w' none->(∀q,(Value.slice a' m cap).ownBlock=some q->q=H)->wpList P ops Q rest (a.put o.dst (.slice a' m cap)) w'):wpList P ops Q (o::rest) a w:=
 wpList_plain hgd fun _ hK=>wp_append_copy w s x t ho base e i z size bytes ht hi hz hsize hby hzs hsz hs ao m c news hx hl hnews h1 h63 hbytes hbase H hH fun a' cap w' h2 h3 h4=>hK _ _ (h a' cap w' h2 h3 h4)
theorem step_append_copy{P:Program}(w:World){ops:Array Oper}{o:Oper}{a:Act}{K:Act->World->Prop}{Q:Exit->Act->World->Prop}{E:Prop}(hgd:o.guard=none)(s x:Operand)(t:TypeId)
  (ho:o.op=.call {callee:=.builtin .append,args:=#[s,x],argTypes:=#[t,t]})
  (base:Nat) (e:TypeId) (i:TypeInfo) (z:Value) (size bytes:Nat) (ht:P.underlying t=some (.slice e)) (hi:P.info? e=some i) (hz:i.zero=some z)
  (hsize:i.size=size) (hby:i.bytes=bytes) (hzs:z.cells.size=size) (hsz:0<size) (hs:a.eval s=.slice none 0 0)
  (ao:Option Addr) (m c:Nat) (news:List Value) (hx:a.eval x=.slice ao m c) (hl:news.length=m*size) (hnews:m=0\/∃ad,ao=some ad/\∀j u,news[j]?=some u->w.cell? (ad.add j)=some u) (h1:∀u∈news,u.oneCell'=true)
  (h63:m<=maxLen) (hbytes:m*bytes<=140737488355328) (hbase:base<=w.heap.size) (H:Nat) (hH:w.heap.size=H)
  (h:∀a' cap w',w'.ownsRow base e size (.slice a' m cap) m news->w.grownBy w' none->(∀q,(Value.slice a' m cap).ownBlock=some q->q=H)->K (a.put o.dst (.slice a' m cap)) w'):
  if Region.wanted o (yielded ops a.tmps)=true then Oper.wp P o a w K Q else E:=by
 have hw:Region.wanted o (yielded ops a.tmps)=true:=by simp[Region.wanted,hgd]
 rw[if_pos hw]
 exact wp_append_copy w s x t ho base e i z size bytes ht hi hz hsize hby hzs hsz hs ao m c news hx hl hnews h1 h63 hbytes hbase H hH h
end
section
open Go.RowKit
attribute [local go_sem] run_store_float run_equalIn_float
abbrev vAd(g cp:Nat):Ad:=⟨some ⟨g,0,none⟩,cp,none,0,none,0,none,0⟩
theorem grown_val{t:Tb}(hb:bare t.d)(kid g cp:Nat)(r:Int)(v:Vl):ShdA kid (vAd g cp) (growT t r v)=.agg #[.slice (some ⟨g,0,none⟩) (t.nv+1) cp,.slice none 0 0,.slice none 0 0,.slice none 0 0,.int .i64 0,.int .i64 0,.int .i64 0,.pointer (some ⟨kid,0,none⟩)]:=by
 obtain⟨h1,h2,h3,h4,h5,h6⟩:=hb
 show Value.agg #[.slice (some ⟨g,0,none⟩) (t.nv+1) cp,.slice none t.d.n 0,.slice none t.d.m 0,.slice none t.d.x 0,.int .i64 t.d.used,.int .i64 t.d.live,.int .i64 t.d.turns,.pointer (some ⟨kid,0,none⟩)]=_
 rw[h1,h2,h3,h4,h5,h6]
theorem grown_any(p kid:Nat)(A:Ad)(t:Tb)(r:Int)(v:Vl)(w:World)(hV:VAt w A.va t.nv t.V)(hn:t.nv<=12)(hb:bare t.d):
  Calls Tryz.prog 260 #[ShdA p A t,.pointer (some ⟨kid,0,none⟩),VVa v] w fun e w'=>(∃g cp,w.heap.size<=g/\e=.returned (ShdA kid (vAd g cp) (growT t r v))/\VlOwn w' w.heap.size (.slice (some ⟨g,0,none⟩) (t.nv+1) cp) (t.nv+1) (up1 t.V t.nv v))/\Below w.heap.size w w':=by
 obtain⟨i0,hi0,hz0,hz1,hz2⟩:=info_parts infoValue
 obtain⟨W,hW⟩:∃W,W=((w.alloc (.cells #[.slice A.va t.nv A.vc,.slice A.la t.d.n A.lc,.slice A.ia t.d.m A.ic,.slice A.xa t.d.x A.xc,.int .i64 t.d.used,.int .i64 t.d.live,.int .i64 t.d.turns,.pointer (some ⟨p,0,none⟩)] 236)).alloc (.cells #[.int .i64 v.kind,.int .i64 v.num,.float .f64 v.flt,.string v.str,.int .i64 v.ref] 43)).alloc (.cells Sh0 236):=⟨_,rfl⟩
 have hbW:Below w.heap.size w W:=by rw[hW];exact(((Below.refl _ _).alloc (Nat.le_refl _) _).alloc (by simp) _).alloc (by simp;omega) _
 have hzW:W.heap.size=w.heap.size+1+1+1:=by rw[hW];simp
 have x0:W.cell? ⟨w.heap.size,0,none⟩=some (.slice A.va t.nv A.vc):=by rw[hW];simp[go_sem]
 have b1:W.heap[w.heap.size+1]?=some (.cells #[.int .i64 v.kind,.int .i64 v.num,.float .f64 v.flt,.string v.str,.int .i64 v.ref] 43 (0,0)):=by
  rw[hW]
  refine(Deep.blk_alloc_lt _ _ _ (by simp)).trans ?_
  have h1:=Deep.blk_alloc_new (w.alloc (.cells #[.slice A.va t.nv A.vc,.slice A.la t.d.n A.lc,.slice A.ia t.d.m A.ic,.slice A.xa t.d.x A.xc,.int .i64 t.d.used,.int .i64 t.d.live,.int .i64 t.d.turns,.pointer (some ⟨p,0,none⟩)] 236)) (.cells #[.int .i64 v.kind,.int .i64 v.num,.float .f64 v.flt,.string v.str,.int .i64 v.ref] 43)
  simpa using h1
 have b2:W.heap[w.heap.size+1+1]?=some (.cells Sh0 236 (0,0)):=by
  rw[hW]
  have h1:=Deep.blk_alloc_new ((w.alloc (.cells #[.slice A.va t.nv A.vc,.slice A.la t.d.n A.lc,.slice A.ia t.d.m A.ic,.slice A.xa t.d.x A.xc,.int .i64 t.d.used,.int .i64 t.d.live,.int .i64 t.d.turns,.pointer (some ⟨p,0,none⟩)] 236)).alloc (.cells #[.int .i64 v.kind,.int .i64 v.num,.float .f64 v.flt,.string v.str,.int .i64 v.ref] 43)) (.cells Sh0 236)
  simpa using h1
 have HNW:Hid (t.nv=0\/∃ad,A.va=some ad/\∀j u,(vlR t.V t.nv)[j]?=some u->W.cell? (ad.add j)=some u):=uy (by
  rcases hV with h|⟨vb,off,eva,hvl,hvc⟩
  ·exact .inl h
  ·exact .inr ⟨_,eva,VAt.news (w:=W) (fun i hi=>(hvc i hi).keep (fun q=>hbW.cell (p:=⟨vb,q,none⟩) hvl))⟩)
 have HBB:=uy (And.intro b1 b2)
 have HBW:=uy hbW
 have HBR:=uy hb
 clear b1 b2 hbW hV hb
 go_enter Tryz.func260,Tryz.ntmps260
 go_upto_region 2 with(at_builtin;rw[<-hW];refine wpList_append_copy rfl _ _ 89 rfl w.heap.size 43 i0 (V 0 0 0 ⟨#[]⟩ 0) 5 48 Tryz.underlying89 hi0 hz0 hz1 hz2 rfl (by decide) rfl A.va t.nv A.vc (vlR t.V t.nv) rfl (vlR_length _ _) (uh HNW) (vlR_one _ _) (by unfold maxLen;omega) (by omega) (by omega) (w.heap.size+1+1+1) hzW ?_;intro a3 cp3 w3 hown3 hgr3 hloc3)
 have hb:=uh HBW
 have hb3:Below w.heap.size w w3:=⟨hgr3.os.trans hb.os,hgr3.tape.trans hb.tape,hgr3.output.trans hb.output,Nat.le_trans hb.size hgr3.size,fun k hk=>(hgr3.block k (Nat.lt_of_lt_of_le hk hb.size) (by simp)).trans (hb.block k hk)⟩
 have z3:=hgr3.size
 have c1:=(hgr3.block (w.heap.size+1) (by omega) (by simp)).trans (uh HBB).1
 have c2:=(hgr3.block (w.heap.size+1+1) (by omega) (by simp)).trans (uh HBB).2
 have l1:=blk_lt c1
 have l2:=blk_lt c2
 have y0:w3.cell? ⟨w.heap.size+1,0,none⟩=some (.int .i64 v.kind):=by simp[World.cell?,c1]
 have y1:w3.cell? ⟨w.heap.size+1,1,none⟩=some (.int .i64 v.num):=by simp[World.cell?,c1]
 have y2:w3.cell? ⟨w.heap.size+1,2,none⟩=some (.float .f64 v.flt):=by simp[World.cell?,c1]
 have y3:w3.cell? ⟨w.heap.size+1,3,none⟩=some (.string v.str):=by simp[World.cell?,c1]
 have y4:w3.cell? ⟨w.heap.size+1,4,none⟩=some (.int .i64 v.ref):=by simp[World.cell?,c1]
 have hno:∀q,(Value.slice a3 t.nv cp3).ownBlock=some q->w.heap.size+1+1<q:=fun q e=>by rw[hloc3 q e];omega
 have HB3:=uy hb3
 have HO3:=uy hown3
 have HC2:=uy c2
 have HNO:=uy hno
 have hzl:w.heap.size<=w3.heap.size:=by omega
 clear hgr3 hown3 hloc3 hb hb3 c1 c2 hno z3 hzW
 have HFin:Hid (∀g4 cp4 w4,w4.ownsRow w.heap.size 43 5 (.slice (some ⟨g4,0,none⟩) (t.nv+1) cp4) (t.nv+1) (vlR t.V t.nv++vlL v)->(w3.alloc (.cells (vlL v).toArray 43)).grownBy w4 (Value.ownBlock (.slice a3 t.nv cp3))->(Value.ownBlock (.slice a3 t.nv cp3)=some g4\/g4=w3.heap.size+1)->
   (∃w5,(Instr.storeAt 236 (.pointer (some ⟨w.heap.size+1+1,0,none⟩)) (.agg #[.slice (some ⟨g4,0,none⟩) (t.nv+1) cp4,.slice none 0 0,.slice none 0 0,.slice none 0 0,.int .i64 0,.int .i64 0,.int .i64 0,.pointer (some ⟨kid,0,none⟩)])).run Tryz.prog w4=.ok () w5/\Stored w4 w5 (w.heap.size+1+1) #[.slice (some ⟨g4,0,none⟩) (t.nv+1) cp4,.slice none 0 0,.slice none 0 0,.slice none 0 0,.int .i64 0,.int .i64 0,.int .i64 0,.pointer (some ⟨kid,0,none⟩)] 236/\
   w.heap.size<=g4/\VlOwn w5 w.heap.size (.slice (some ⟨g4,0,none⟩) (t.nv+1) cp4) (t.nv+1) (up1 t.V t.nv v)/\Below w.heap.size w w5)):=uy (by
  intro g4 cp4 w4 h1 h2 h3
  have hg4:w.heap.size+1+1<g4:=h3.elim (fun e=>uh HNO g4 e) (fun e=>by omega)
  have c2:w4.heap[w.heap.size+1+1]?=some (.cells Sh0 236 (0,0)):=(h2.block _ (by simp;omega) (fun e=>by have:=uh HNO _ e.symm;omega)).trans ((Deep.blk_alloc_lt _ _ _ l2).trans (uh HC2))
  obtain⟨w5,k1,k2⟩:=storeAt_any (t:=236) (v:=.agg #[.slice (some ⟨g4,0,none⟩) (t.nv+1) cp4,.slice none 0 0,.slice none 0 0,.slice none 0 0,.int .i64 0,.int .i64 0,.int .i64 0,.pointer (some ⟨kid,0,none⟩)]) (vs:=[.slice (some ⟨g4,0,none⟩) (t.nv+1) cp4,.slice none 0 0,.slice none 0 0,.slice none 0 0,.int .i64 0,.int .i64 0,.int .i64 0,.pointer (some ⟨kid,0,none⟩)]) (old:=Sh0.toList) sz_shaped c2 rfl rfl (by simp[Value.oneCell']) rfl
  refine⟨w5,k1,k2,by omega,?_,?_⟩
  ·rw[vlR_snoc]at h1
   exact own_keep h1 (fun q e=>k2.other q (by cases e;show g4≠_;omega))
  ·have hb3:=uh HB3
   refine k2.below (B:=w.heap.size) ⟨h2.os.trans hb3.os,h2.tape.trans hb3.tape,h2.output.trans hb3.output,Nat.le_trans hb3.size (Nat.le_trans (by simp) h2.size),fun k hk=>?_⟩ (by omega)
   exact(h2.block k (by simp;omega) (fun e=>by have:=uh HNO _ e.symm;omega)).trans ((Deep.blk_alloc_lt _ _ _ (by omega)).trans (hb3.block k hk)))
 go_wp2_with (first|(at_builtin;refine wpList_append_lies _ rfl _ _ 89 rfl w.heap.size 43 i0 (V 0 0 0 ⟨#[]⟩ 0) 5 48 Tryz.underlying89 hi0 hz0 hz1 hz2 rfl (by decide) (.slice a3 t.nv cp3) t.nv (vlR t.V t.nv) rfl (World.ownsRow.alloc (uh HO3) _) ⟨w3.heap.size,0,none⟩ 1 1 (vlL v) rfl rfl (World.news_of_block (Deep.blk_alloc_new w3 _)) (by simp[vlL,Value.oneCell']) (by decide) (by unfold maxLen;omega) (by omega) (by simp;omega) (w3.heap.size+1) (by simp) ?_;intro g4 cp4 w4 hown4 hgr4 hloc4 hlt4;obtain⟨w5,hst5,hS5,hg4,hV5,hB5⟩:=uh HFin g4 cp4 w4 hown4 hgr4 hloc4;have HST:=uy hst5;have HS5:=uy hS5;have HV5:=uy hV5;have HB5:=uy hB5;clear hown4 hgr4 hloc4 hst5 hS5 hV5 hB5)|(refine wpList_store rfl rfl _ (uh HST) ?_)|go_in)
 have e0:=st_cells (uh HS5) 0 _ rfl
 have e1:=st_cells (uh HS5) 1 _ rfl
 have e2:=st_cells (uh HS5) 2 _ rfl
 have e3:=st_cells (uh HS5) 3 _ rfl
 have e4:=st_cells (uh HS5) 4 _ rfl
 have e5:=st_cells (uh HS5) 5 _ rfl
 have e6:=st_cells (uh HS5) 6 _ rfl
 have e7:=st_cells (uh HS5) 7 _ rfl
 refine bodyPost_ret (v:=.agg #[.slice (some ⟨g4,0,none⟩) (t.nv+1) cp4,.slice none 0 0,.slice none 0 0,.slice none 0 0,.int .i64 0,.int .i64 0,.int .i64 0,.pointer (some ⟨kid,0,none⟩)]) (by simp[results,Tryz.results260,go_sem,e0,e1,e2,e3,e4,e5,e6,e7]) rfl ⟨⟨g4,cp4,hg4,by rw[grown_val (uh HBR)],uh HV5⟩,uh HB5⟩
end
section
open Go.RowKit
theorem WkM.growN{Z:Nat->Prop}{w w1 X w3:World}{c B0:Nat}{vN vT vS vU:Value}{Bk B':Nat->Nat}{A:Nat->Ad}{s:Sto}{F':Nat->Shp}{r g3 cp3:Nat}(h:WkM Z w c B0 vN vT vS vU Bk A s)
  (hG:GrownP B0 w w1) (hN1:∃N M,NodesP w1 F' B0 (s.nf+1) B' N M/\∀i,i<s.nf+1->N i=i) (hr:B' s.nf=r) (hB:∀i,i<s.nf->B' i=Bk i) (hX:Below w1.heap.size w1 X) (hgr:X.grownBy w3 vN.ownBlock)
  (hown:w3.ownsRow B0 163 1 (.slice (some ⟨g3,0,none⟩) (s.nf+1) cp3) (s.nf+1) (ptrs Bk s.nf++[.pointer (some ⟨r,0,none⟩)])) (hloc:vN.ownBlock=some g3\/w.heap.size<=g3) (hsh:∀i,i<s.nt->(s.T i).shape=-1\/∃j:Nat,(s.T i).shape=j/\j<s.nf):
  w3.heap[c]?=some (.cells #[vN,vT,vS,vU] 198 (0,0))/\WkM Z (w3.setCell ⟨c,0,none⟩ (.slice (some ⟨g3,0,none⟩) (s.nf+1) cp3)) c B0 (.slice (some ⟨g3,0,none⟩) (s.nf+1) cp3) vT vS vU B' A {s with nf:=s.nf+1,F:=F'}/\Dst (OwnW B0 c vN vT vS w) w (OwnW B0 c (.slice (some ⟨g3,0,none⟩) (s.nf+1) cp3) vT vS (w3.setCell ⟨c,0,none⟩ (.slice (some ⟨g3,0,none⟩) (s.nf+1) cp3))) (w3.setCell ⟨c,0,none⟩ (.slice (some ⟨g3,0,none⟩) (s.nf+1) cp3)):=by
 obtain⟨N,M,hN,hid⟩:=hN1
 have k1:∀q,q<w.heap.size->(q<B0\/¬Nodal 208 w q)->w1.heap[q]?=w.heap[q]?:=fun q hq hn=>hG.block q hq hn
 have k3:∀q,q<w1.heap.size->vN.ownBlock≠some q->w3.heap[q]?=w1.heap[q]?:=fun q hq hn=>(hgr.block q (Nat.lt_of_lt_of_le hq hX.size) (fun e=>hn e.symm)).trans (hX.block q hq)
 have k13:∀q,q<w.heap.size->(q<B0\/¬Nodal 208 w q)->vN.ownBlock≠some q->w3.heap[q]?=w.heap[q]?:=fun q hq hn hv=>(k3 q (Nat.lt_of_lt_of_le hq hG.size) hv).trans (k1 q hq hn)
 have hc3:=(k13 c h.lt (.inr h.notnode) (h.notrow h.n (by decide))).trans h.blk
 have hc1:=(k1 c h.lt (.inr h.notnode)).trans h.blk
 have ho:∀k,k≠c->(w3.setCell ⟨c,0,none⟩ (.slice (some ⟨g3,0,none⟩) (s.nf+1) cp3)).heap[k]?=w3.heap[k]?:=fun k hk=>Deep.blk_setCell_other _ _ _ _ (by exact hk)
 have hgc:g3≠c:=fun e=>by
  rcases hloc with h1|h1
  ·exact h.notrow h.n (by decide) (e▸h1)
  ·have:=h.lt;omega
 refine⟨hc3,h.next ⟨hgr.os.trans (hX.os.trans hG.os),hgr.tape.trans (hX.tape.trans hG.tape),hgr.output.trans (hX.output.trans hG.output)⟩ (by have:=hX.size;have:=hgr.size;have:=hG.size;simp;omega)
  (fun k hk1 hk=>(ho k (fun e=>hk (.inl e))).trans (k13 k hk1 ?_ (fun e=>hk (.inr (.inl e))))) (fun k e=>by cases e;exact hloc) (fun _ e=>.inl e) (fun _ e=>.inl e) ((heap_setCell_same _ _ _ _ _ _ hc3).trans (by simp)) ?_ ⟨N,M,hN.keep (fun b hn=>?_),hid⟩ ?_
  (own_keep h.si (fun q e=>(ho q (fun e'=>h.notrow h.si (by decide) (e'▸e))).trans (k13 q (h.si.lt q e).2 (.inr (own_nodal h.si (by decide) e)) (own_ne h.si h.n (by decide) e)))) h.u (fun i hi=>.inl (h.rd i hi))⟩
 ·by_cases hb:k<B0
  ·exact .inl hb
  ·exact .inr (fun hn=>hk (.inr (.inr (.inr (.inr ⟨by omega,hn⟩)))))
 ·rw[ptrs_snoc hB hr]at hown
  exact own_keep hown (fun q e=>ho q (by cases e;exact hgc))
 ·have hbc:b≠c:=fun e=>by
   subst e
   rcases hn with⟨x,hx⟩|⟨es,x,hx⟩
   ·rw[hc1]at hx;cases hx
   ·rw[hc1]at hx;cases hx
  refine(ho b hbc).trans (k3 b (nodal_lt hn) (fun e=>?_))
  have hnn:=own_nodal h.n (by decide) e
  have e1:=k1 b (h.n.lt b e).2 (.inr hnn)
  unfold Nodal at hn hnn
  rw[e1]at hn
  exact hnn hn
 ·have e:kL B' A {s with nf:=s.nf+1,F:=F'} s.nt=kL Bk A s s.nt:=kL_congr (fun i hi=>by
   show kindV B' (A i) (s.T i)=kindV Bk (A i) (s.T i)
   unfold kindV
   rcases hsh i hi with e|⟨j,e,hj⟩
   ·rw[if_pos e,if_pos e]
   ·rw[if_neg (by omega),if_neg (by omega),e,show((j:Int)).toNat=j by omega,hB j hj])
  show World.ownsRow _ _ _ _ _ _ (kL B' A {s with nf:=s.nf+1,F:=F'} s.nt)
  rw[e]
  exact own_keep h.t (fun q e=>(ho q (fun e'=>h.notrow h.t (by decide) (e'▸e))).trans (k13 q (h.t.lt q e).2 (.inr (own_nodal h.t (by decide) e)) (own_ne h.t h.n (by decide) e)))
end
section
open Go.RowKit
attribute [local go_sem] run_store_float run_equalIn_float run_store_func
def GrowS(Z:Nat->Prop)(c B0:Nat)(vN vT vS vU:Value)(Bk:Nat->Nat)(A:Nat->Ad)(s:Sto)(k:Nat)(key:ByteArray)(w:World)(e:Ending)(w':World):Prop:=
 (growR s.nf s.F k key=-1/\e=.returned (.pointer none)/\WkM Z w' c B0 vN vT vS vU Bk A s/\Dst (OwnW B0 c vN vT vS w) w (OwnW B0 c vN vT vS w') w')\/
 (∃r:Nat,growR s.nf s.F k key=r/\∃vN' B',e=.returned (.pointer (some ⟨B' r,0,none⟩))/\WkM Z w' c B0 vN' vT vS vU B' A {s with nf:=growN s.nf s.F k key,F:=growF s.nf s.F k key}/\Dst (OwnW B0 c vN vT vS w) w (OwnW B0 c vN' vT vS w') w')
theorem wGrow_any(Z:Nat->Prop)(c B0:Nat)(vN vT vS vU:Value)(Bk:Nat->Nat)(A:Nat->Ad)(s:Sto)(k:Nat)(key:ByteArray)(w:World)(hM:WkM Z w c B0 vN vT vS vU Bk A s)(hf:forestOk s.nf s.F=0)(hk:k<s.nf)(hks:key.size<=4000)(hsh:∀i,i<s.nt->(s.T i).shape=-1\/∃j:Nat,(s.T i).shape=j/\j<s.nf):
  Calls Tryz.prog 259 #[.pointer (some ⟨c,0,none⟩),.pointer (some ⟨Bk k,0,none⟩),.string key] w fun e w'=>GrowS Z c B0 vN vT vS vU Bk A s k key w e w':=by
 obtain⟨h1,h2,h3,h4,h5⟩:=forestOk_zero hf
 obtain⟨na,nc,rfl⟩:=own_slice hM.n
 obtain⟨N,M,hN,hid⟩:=hM.nd
 have hcl:=hM.lt
 have c0:=hM.cells.1
 have hnf:s.nf<=200:=h1.2
 have HC:=uy (nodeGrow_any w s.F B0 s.nf Bk N M hN hid h1 h2 h3 h4 k hk key hks)
 have HM:=uy hM
 have HSH:=uy hsh
 have HR4:=uy h4
 clear hM hN hid h1 h2 h3 h4 h5 hf hsh
 go_enter Tryz.func259,Tryz.ntmps259
 go_wp2_with fail
 refine(uh HC).mono ?_
 rintro e w1 (⟨j,hj,rfl,hb⟩|⟨hno,hfull,rfl,hb⟩|⟨hno,hc12,hn2,r,B',N',M',rfl,hN',hid',hBr,hBe,hG⟩)
 ·have HE:Hid (∀q,GrowS Z c B0 (.slice na s.nf nc) vT vS vU Bk A s k key w (.returned (.pointer (some ⟨Bk j,0,none⟩))) (w1.drewN q)):=uy (fun q=>by
   obtain⟨e1,e2,e3⟩:=grow_eq (uh HR4) (.inl ⟨j,hj,rfl,rfl,rfl⟩)
   obtain⟨m1,d1⟩:=(uh HM).below (w':=w1.drewN q) ⟨hb.os,hb.tape,hb.output,hb.size,hb.block⟩
   refine .inr ⟨j,e3.symm,_,Bk,rfl,?_,d1⟩
   rw[<-e1,<-e2]
   exact m1)
  have hjn:j<s.nf:=hj.2.1
  obtain⟨m1,d1⟩:=(uh HM).below hb
  obtain⟨l1,n1,_⟩:=NdS.cell m1.nd hjn
  have y0:=m1.cells.1
  have lc:=m1.lt
  have d0:((j:Int)==(s.nf:Int))=false:=by simp;omega
  clear m1 d1 hb hj HC
  go_wp2_with fail
  go_quiet (fail)
  go_wp2
  exact bodyPost_ret (v:=.pointer (some ⟨Bk j,0,none⟩)) (by simp[results,Tryz.results259,go_sem]) rfl (uh HE _)
 ·have HE:Hid (∀q,GrowS Z c B0 (.slice na s.nf nc) vT vS vU Bk A s k key w (.returned (.pointer none)) (w1.drewN q)):=uy (fun q=>by
   obtain⟨e1,e2,e3⟩:=grow_eq (uh HR4) (.inr (.inl ⟨hno,hfull,rfl,rfl,rfl⟩))
   obtain⟨m1,d1⟩:=(uh HM).below (w':=w1.drewN q) ⟨hb.os,hb.tape,hb.output,hb.size,hb.block⟩
   exact .inl ⟨e3.symm,rfl,m1,d1⟩)
  clear hb hno hfull HC
  go_wp2_with fail
  go_quiet (fail)
  go_wp2
  exact bodyPost_ret (v:=.pointer none) (by simp[results,Tryz.results259,go_sem]) rfl (uh HE _)
 ·obtain⟨i0,hi0,hz0,hz1,hz2⟩:=info_parts infoPtr
  have hMw:=uh HM
  have hc1:w1.heap[c]?=w.heap[c]?:=hG.block c hcl (.inr hMw.notnode)
  have hblk:=hc1.trans hMw.blk
  have y0:w1.cell? ⟨c,0,none⟩=some (.slice na s.nf nc):=by simp[World.cell?,hblk]
  have yf:w1.frozen? ⟨c,0,none⟩=false:=by simp[World.frozen?,hblk]
  have lc:=blk_lt hblk
  obtain⟨l1,n1,_,_⟩:=node_cells hN' hid' (show s.nf<s.nf+1 by omega)
  rw[hBr]at l1 n1
  have hrl:r<w1.heap.size:=World.block_lt_of_cell? _ _ l1
  have d0:((s.nf:Int)==(s.nf:Int))=true:=by simp
  have hB0:B0<=w1.heap.size:=Nat.le_trans hMw.base hG.size
  have HOW:Hid (∀q o,((w1.drewN q).alloc o).ownsRow B0 163 1 (.slice na s.nf nc) s.nf (ptrs Bk s.nf)):=uy (fun q o=>by
   have h1:w1.ownsRow B0 163 1 (.slice na s.nf nc) s.nf (ptrs Bk s.nf):=own_keep hMw.n (fun g e=>hG.block g (hMw.n.lt g e).2 (.inr (own_nodal hMw.n (by decide) e)))
   exact World.ownsRow.alloc (own_keep h1 (w':=w1.drewN q) (fun _ _=>rfl)) o)
  have HF:Hid (∀q g3 cp3 w3,w3.ownsRow B0 163 1 (.slice (some ⟨g3,0,none⟩) (s.nf+1) cp3) (s.nf+1) (ptrs Bk s.nf++[.pointer (some ⟨r,0,none⟩)])->((w1.drewN q).alloc (.cells #[.pointer (some ⟨r,0,none⟩)] 163)).grownBy w3 (Value.ownBlock (.slice na s.nf nc))->(Value.ownBlock (.slice na s.nf nc)=some g3\/g3=w1.heap.size+1)->
    w3.cell? ⟨c,0,none⟩=some (.slice na s.nf nc)/\w3.frozen? ⟨c,0,none⟩=false/\c<w3.heap.size/\GrowS Z c B0 (.slice na s.nf nc) vT vS vU Bk A s k key w (.returned (.pointer (some ⟨r,0,none⟩))) (w3.setCell ⟨c,0,none⟩ (.slice (some ⟨g3,0,none⟩) (s.nf+1) cp3))):=uy (by
   intro q g3 cp3 w3 a1 a2 a3
   have hX:Below w1.heap.size w1 ((w1.drewN q).alloc (.cells #[.pointer (some ⟨r,0,none⟩)] 163)):=Below.alloc (a:=w1) (w:=w1.drewN q) ⟨rfl,rfl,rfl,Nat.le_refl _,fun _ _=>rfl⟩ (Nat.le_refl _) _
   obtain⟨b1,b2,b3⟩:=hMw.growN hG ⟨N',M',hN',hid'⟩ hBr hBe hX a2 a1 (a3.imp id (fun e=>by have:=hG.size;omega)) (uh HSH)
   refine⟨by simp[World.cell?,b1],by simp[World.frozen?,b1],blk_lt b1,.inr ⟨s.nf,?_,_,B',by rw[hBr],?_,b3⟩⟩
   ·obtain⟨e1,e2,e3⟩:=grow_eq (uh HR4) (.inr (.inr ⟨hno,hc12,hn2,rfl,rfl,rfl⟩))
    exact e3.symm
   ·obtain⟨e1,e2,e3⟩:=grow_eq (uh HR4) (.inr (.inr ⟨hno,hc12,hn2,rfl,rfl,rfl⟩))
    rw[<-e1,<-e2]
    exact b2)
  clear hno hc12 hn2 hN' hid' hBr hBe hG hMw hc1 hblk HC n1
  go_wp2_with fail
  go_quiet (fail)
  go_wp2_with (at_builtin;refine wpList_append_lies _ rfl _ _ 115 rfl B0 163 i0 (.pointer none) 1 8 Tryz.underlying115 hi0 hz0 hz1 hz2 rfl (by decide) (.slice na s.nf nc) s.nf (ptrs Bk s.nf) rfl (uh HOW _ _) ⟨w1.heap.size,0,none⟩ 1 1 [.pointer (some ⟨r,0,none⟩)] rfl rfl (World.news_of_block (Deep.blk_alloc_new _ _)) (by simp[Value.oneCell']) (by decide) (by unfold maxLen;omega) (by omega) (by simp;omega) (w1.heap.size+1) (by simp) ?_;intro g3 cp3 w3 hown3 hgr3 hloc3 hlt3;obtain⟨x3,f3,l3,hE3⟩:=uh HF _ g3 cp3 w3 hown3 hgr3 hloc3;have HE3:=uy hE3;clear hown3 hgr3 hloc3 hE3)
  exact bodyPost_ret (v:=.pointer (some ⟨r,0,none⟩)) (by simp[results,Tryz.results259,go_sem]) rfl (uh HE3)
end
section
open Go.RowKit
attribute [local go_sem] run_store_float run_equalIn_float run_store_func
def WrF(Z:Nat->Prop)(c B0:Nat)(vN vT vS vU:Value)(Bk:Nat->Nat)(A:Nat->Ad)(s:Sto)(t:Nat)(k v:Vl)(w:World)(e:Ending)(w':World):Prop:=
 (e=.returned (.tuple #[.agg Sh0,.bool false])/\wayOf s (s.T t) k v=.loose/\WkM Z w' c B0 vN vT vS vU Bk A s/\Dst (OwnW B0 c vN vT vS w) w (OwnW B0 c vN vT vS w') w')\/
 (∃vN' B' p a' x' s',e=.returned (.tuple #[.agg (shdL p a' x').toArray,.bool true])/\kindV B' a' x'=.iface 236 (.agg (shdL p a' x').toArray)/\setT s' t x'=putS s t k v/\wayOf s (s.T t) k v≠.full/\s'.nt=s.nt/\WkM Z w' c B0 vN' vT vS vU B' A s'/\Dst (OwnW B0 c vN vT vS w) w (OwnW B0 c vN' vT vS w') w'/\Rd (OZ Z B0 c vN' vT vS w') w' a' x')
theorem WkM.novals{Z:Nat->Prop}{w w0:World}{c B0:Nat}{vN vT vS vU:Value}{Bk:Nat->Nat}{A:Nat->Ad}{s:Sto}(h:WkM Z w c B0 vN vT vS vU Bk A s)(hz:∀k,Z k->k<w0.heap.size){B n cp g:Nat}{f:Nat->Vl}(hv:VlOwn w B (.slice (some ⟨g,0,none⟩) n cp) n f)(hg:w0.heap.size<=g):¬OZ Z B0 c vN vT vS w g:=by
 obtain⟨cur,hb,_⟩:=own_blk hv rfl
 rintro(e|e)
 ·exact h.notbox hb (by decide) (by decide) (by decide) (by decide) (by decide) e
 ·have:=hz g e;omega
theorem WkM.finR{Z:Nat->Prop}{w w1 w'':World}{c B0:Nat}{vN' vT' vS' vU':Value}{Bk':Nat->Nat}{A':Nat->Ad}{s':Sto}{rb z1:Nat}{cs cs':Array Value}{a:Ad}{x:Tb}(h:WkM (ZB Z w.heap.size z1) w1 c B0 vN' vT' vS' vU' Bk' A' s')(hcw:B0<=w.heap.size)(hwb:w.heap.size<=rb)(hz:rb<z1)(hr:w1.heap[rb]?=some (.cells cs' 236 (0,0)))(hst:Stored w1 w'' rb cs 236)(hR:Rd (OZ (ZB Z w.heap.size z1) B0 c vN' vT' vS' w1) w1 a x):Rd (OZ Z B0 c vN' vT' vS' w'') w'' a x:=fun w3 hs hk=>by
 have ho:=(h.box (.inr ⟨hwb,hz⟩) (Nat.le_trans hcw hwb) (h.notbox hr (by decide) (by decide) (by decide) (by decide) (by decide)) ⟨hst.os,hst.tape,hst.output,hst.size⟩ hst.other hst.blk (by decide)).2
 refine hR w3 (by rw[<-hst.size];exact hs) (fun k k1 k2=>(hk k (by rw[hst.size];exact k1) (fun e=>k2 (e.imp (ho k) .inl))).trans (hst.other k (fun e=>k2 (.inr (.inr (by rw[e];exact⟨hwb,hz⟩))))))
theorem wWriteField_any(Z:Nat->Prop)(c B0:Nat)(vN vT vS vU:Value)(Bk:Nat->Nat)(A:Nat->Ad)(s:Sto)(t j:Nat)(k v:Vl)(w:World)(hM:WkM Z w c B0 vN vT vS vU Bk A s)(hf:forestOk s.nf s.F=0)(ht:t<s.nt)(hx:(s.T t).shape=j)(hj:j<s.nf)(hnv:(s.T t).nv=nf s.F j)(hbr:bare (s.T t).d)(hk:Ky k)(hno:¬(v.kind=0/\(tget s.F (s.T t) k).kind=0))(hsh:∀i,i<s.nt->(s.T i).shape=-1\/∃j:Nat,(s.T i).shape=j/\j<s.nf):
  Calls Tryz.prog 233 #[.pointer (some ⟨c,0,none⟩),ShdA (Bk j) (A t) (s.T t),VVa k,VVa v] w fun e w'=>WrF Z c B0 vN vT vS vU Bk A s t k v w e w':=by
 obtain⟨W,hW⟩:∃W,W=(((w.alloc (.cells #[.slice (A t).va (s.T t).nv (A t).vc,.slice (A t).la (s.T t).d.n (A t).lc,.slice (A t).ia (s.T t).d.m (A t).ic,.slice (A t).xa (s.T t).d.x (A t).xc,.int .i64 (s.T t).d.used,.int .i64 (s.T t).d.live,.int .i64 (s.T t).d.turns,.pointer (some ⟨Bk j,0,none⟩)] 236)).alloc (.cells #[.int .i64 k.kind,.int .i64 k.num,.float .f64 k.flt,.string k.str,.int .i64 k.ref] 43)).alloc (.cells #[.int .i64 v.kind,.int .i64 v.num,.float .f64 v.flt,.string v.str,.int .i64 v.ref] 43)).alloc (.cells Sh0 236):=⟨_,rfl⟩
 have hbW:Below w.heap.size w W:=by rw[hW];exact((((Below.refl _ _).alloc (Nat.le_refl _) _).alloc (by simp) _).alloc (by simp;omega) _).alloc (by simp;omega) _
 have hzW:W.heap.size=w.heap.size+1+1+1+1:=by rw[hW];simp
 have b0:W.heap[w.heap.size]?=some (.cells (shdL (Bk j) (A t) (s.T t)).toArray 236 (0,0)):=by
  rw[hW]
  iterate 3 (refine(Deep.blk_alloc_lt _ _ _ (by simp;try omega)).trans ?_)
  exact Deep.blk_alloc_new _ _
 have b1:W.heap[w.heap.size+1]?=some (.cells #[.int .i64 k.kind,.int .i64 k.num,.float .f64 k.flt,.string k.str,.int .i64 k.ref] 43 (0,0)):=by
  rw[hW]
  iterate 2 (refine(Deep.blk_alloc_lt _ _ _ (by simp;try omega)).trans ?_)
  have h1:=Deep.blk_alloc_new (w.alloc (.cells #[.slice (A t).va (s.T t).nv (A t).vc,.slice (A t).la (s.T t).d.n (A t).lc,.slice (A t).ia (s.T t).d.m (A t).ic,.slice (A t).xa (s.T t).d.x (A t).xc,.int .i64 (s.T t).d.used,.int .i64 (s.T t).d.live,.int .i64 (s.T t).d.turns,.pointer (some ⟨Bk j,0,none⟩)] 236)) (.cells #[.int .i64 k.kind,.int .i64 k.num,.float .f64 k.flt,.string k.str,.int .i64 k.ref] 43)
  simpa using h1
 have b2:W.heap[w.heap.size+1+1]?=some (.cells #[.int .i64 v.kind,.int .i64 v.num,.float .f64 v.flt,.string v.str,.int .i64 v.ref] 43 (0,0)):=by
  rw[hW]
  refine(Deep.blk_alloc_lt _ _ _ (by simp)).trans ?_
  have h1:=Deep.blk_alloc_new ((w.alloc (.cells #[.slice (A t).va (s.T t).nv (A t).vc,.slice (A t).la (s.T t).d.n (A t).lc,.slice (A t).ia (s.T t).d.m (A t).ic,.slice (A t).xa (s.T t).d.x (A t).xc,.int .i64 (s.T t).d.used,.int .i64 (s.T t).d.live,.int .i64 (s.T t).d.turns,.pointer (some ⟨Bk j,0,none⟩)] 236)).alloc (.cells #[.int .i64 k.kind,.int .i64 k.num,.float .f64 k.flt,.string k.str,.int .i64 k.ref] 43)) (.cells #[.int .i64 v.kind,.int .i64 v.num,.float .f64 v.flt,.string v.str,.int .i64 v.ref] 43)
  simpa using h1
 have b3:W.heap[w.heap.size+1+1+1]?=some (.cells Sh0 236 (0,0)):=by
  rw[hW]
  have h1:=Deep.blk_alloc_new (((w.alloc (.cells #[.slice (A t).va (s.T t).nv (A t).vc,.slice (A t).la (s.T t).d.n (A t).lc,.slice (A t).ia (s.T t).d.m (A t).ic,.slice (A t).xa (s.T t).d.x (A t).xc,.int .i64 (s.T t).d.used,.int .i64 (s.T t).d.live,.int .i64 (s.T t).d.turns,.pointer (some ⟨Bk j,0,none⟩)] 236)).alloc (.cells #[.int .i64 k.kind,.int .i64 k.num,.float .f64 k.flt,.string k.str,.int .i64 k.ref] 43)).alloc (.cells #[.int .i64 v.kind,.int .i64 v.num,.float .f64 v.flt,.string v.str,.int .i64 v.ref] 43)) (.cells Sh0 236)
  simpa using h1
 have hn12:(s.T t).nv<=12:=by rw[hnv];exact nf_le hf hj
 obtain⟨hE,hDE⟩:=hM.enter hbW
 have hbase:=hM.base
 have hzz:=hM.z
 have k0:W.cell? ⟨w.heap.size+1,0,none⟩=some (.int .i64 k.kind):=by simp[World.cell?,b1]
 have k3:W.cell? ⟨w.heap.size+1,3,none⟩=some (.string k.str):=by simp[World.cell?,b1]
 have v0:W.cell? ⟨w.heap.size+1+1,0,none⟩=some (.int .i64 v.kind):=by simp[World.cell?,b2]
 have x7:=sh_cells b0 7 _ rfl
 have l0:w.heap.size<W.heap.size:=by omega
 have l1:w.heap.size+1<W.heap.size:=by omega
 have l2:w.heap.size+1+1<W.heap.size:=by omega
 have hRd:VAt W (A t).va (s.T t).nv (s.T t).V:=((hM.rd t ht).now.1).below hbW rfl
 have hNW:NdS W s B0 Bk:=hE.nd
 have hks:k.kind=4->k.str.size<=4000:=fun h=>by
  have h1:=hk.1
  unfold keyB Vl.ok validB at h1
  simp[h]at h1
  omega
 have HE:=uy hE
 have HDE:=uy hDE
 have HZZ:=uy hzz
 have HB:=uy (And.intro b0 (And.intro b1 (And.intro b2 b3)))
 have HX:=uy (And.intro hx (And.intro hnv hbr))
 have HF:=uy hf
 have HSH:=uy hsh
 have HRd:=uy hRd
 have HNW:=uy hNW
 have HKS:=uy hks
 have HNO:=uy hno
 have HNOE:Hid (∀w1,WkM (ZB Z w.heap.size W.heap.size) w1 c B0 vN vT vS vU Bk A s->Dst (OwnW B0 c vN vT vS w) w (OwnW B0 c vN vT vS w1) w1->w1.heap[w.heap.size+1+1+1]?=some (.cells Sh0 236 (0,0))->wayOf s (s.T t) k v=.loose->∃w2,(Instr.storeAt 236 (.pointer (some ⟨w.heap.size+1+1+1,0,none⟩)) (.agg Sh0)).run Tryz.prog w1=.ok () w2/\Stored w1 w2 (w.heap.size+1+1+1) Sh0 236/\WrF Z c B0 vN vT vS vU Bk A s t k v w (.returned (.tuple #[.agg Sh0,.bool false])) w2):=uy (fun w1 m1 d1 hb hw=>by
  obtain⟨w2,h1,h2⟩:=st_sh0 hb
  obtain⟨f1,f2⟩:=WkM.finS m1 d1 hbase (by omega) (by omega) hb h2
  exact⟨w2,h1,h2,.inl ⟨rfl,hw,f1,f2⟩⟩)
 have HYE:Hid (∀w1 vN' B' p a' x' s',WkM (ZB Z w.heap.size W.heap.size) w1 c B0 vN' vT vS vU B' A s'->Dst (OwnW B0 c vN vT vS w) w (OwnW B0 c vN' vT vS w1) w1->w1.heap[w.heap.size+1+1+1]?=some (.cells Sh0 236 (0,0))->Rd (OZ (ZB Z w.heap.size W.heap.size) B0 c vN' vT vS w1) w1 a' x'->kindV B' a' x'=.iface 236 (.agg (shdL p a' x').toArray)->setT s' t x'=putS s t k v->wayOf s (s.T t) k v≠.full->s'.nt=s.nt->
   ∃w2,(Instr.storeAt 236 (.pointer (some ⟨w.heap.size+1+1+1,0,none⟩)) (.agg (shdL p a' x').toArray)).run Tryz.prog w1=.ok () w2/\Stored w1 w2 (w.heap.size+1+1+1) (shdL p a' x').toArray 236/\WrF Z c B0 vN vT vS vU Bk A s t k v w (.returned (.tuple #[.agg (shdL p a' x').toArray,.bool true])) w2):=uy (fun w1 vN' B' p a' x' s' m1 d1 hb hR e1 e2 e3 e4=>by
  obtain⟨w2,h1,h2⟩:=st_shA hb p a' x'
  obtain⟨f1,f2⟩:=WkM.finS m1 d1 hbase (by omega) (by omega) hb h2
  exact⟨w2,h1,h2,.inr ⟨vN',B',p,a',x',s',rfl,e1,e2,e3,e4,f1,f2,m1.finR hbase (by omega) (by omega) hb h2 hR⟩⟩)
 have hway:∀(P:Way),(¬(k.kind=4/\v.kind≠0)->P=.loose)->(k.kind=4->v.kind≠0->0<=plcI s.F j k.str->P=.fld)->(k.kind=4->v.kind≠0->¬0<=plcI s.F j k.str->0<=growR s.nf s.F j k.str->P=.grow)->(k.kind=4->v.kind≠0->¬0<=plcI s.F j k.str->¬0<=growR s.nf s.F j k.str->P=.loose)->wayOf s (s.T t) k v=P:=by
  intro P p1 p2 p3 p4
  unfold wayOf
  rw[if_neg hno,if_pos (by omega),hx,show((j:Int)).toNat=j by omega]
  by_cases h1:k.kind=4/\v.kind≠0
  ·rw[if_pos h1]
   by_cases h2:0<=plcI s.F j k.str
   ·rw[if_pos h2,p2 h1.1 h1.2 h2]
   ·rw[if_neg h2]
    by_cases h3:0<=growR s.nf s.F j k.str
    ·rw[if_pos h3,p3 h1.1 h1.2 h2 h3]
    ·rw[if_neg h3,p4 h1.1 h1.2 h2 h3]
  ·rw[if_neg h1,p1 h1]
 have HWAY:=uy hway
 clear hM hE hDE hzz b0 b1 b2 b3 hx hnv hbr hf hsh hRd hNW hks hno hbW hk hway
 by_cases hk4:k.kind=4
 case neg=>
  have d1:(k.kind !=4)=true:=by simp[hk4]
  have HW:Hid (wayOf s (s.T t) k v=.loose):=uy (uh HWAY .loose (fun _=>rfl) (fun h=>absurd h hk4) (fun h=>absurd h hk4) (fun h=>absurd h hk4))
  clear hk4
  go_enter Tryz.func233,Tryz.ntmps233
  go_upto_region 1 with fail
  rw[<-hW]
  clear hW
  obtain⟨w2,hst,hS2,hE2⟩:=uh HNOE W (uh HE) (uh HDE) (uh HB).2.2.2 (uh HW)
  have HST:=uy hst
  have HS2:=uy hS2
  have HE2:=uy hE2
  have r0:w2.cell? ⟨w.heap.size+1+1+1,0,none⟩=some (.slice none 0 0):=st_cells (vs:=Sh0.toList) (uh HS2) 0 _ rfl
  have r1:w2.cell? ⟨w.heap.size+1+1+1,1,none⟩=some (.slice none 0 0):=st_cells (vs:=Sh0.toList) (uh HS2) 1 _ rfl
  have r2:w2.cell? ⟨w.heap.size+1+1+1,2,none⟩=some (.slice none 0 0):=st_cells (vs:=Sh0.toList) (uh HS2) 2 _ rfl
  have r3:w2.cell? ⟨w.heap.size+1+1+1,3,none⟩=some (.slice none 0 0):=st_cells (vs:=Sh0.toList) (uh HS2) 3 _ rfl
  have r4:w2.cell? ⟨w.heap.size+1+1+1,4,none⟩=some (.int .i64 0):=st_cells (vs:=Sh0.toList) (uh HS2) 4 _ rfl
  have r5:w2.cell? ⟨w.heap.size+1+1+1,5,none⟩=some (.int .i64 0):=st_cells (vs:=Sh0.toList) (uh HS2) 5 _ rfl
  have r6:w2.cell? ⟨w.heap.size+1+1+1,6,none⟩=some (.int .i64 0):=st_cells (vs:=Sh0.toList) (uh HS2) 6 _ rfl
  have r7:w2.cell? ⟨w.heap.size+1+1+1,7,none⟩=some (.pointer none):=st_cells (vs:=Sh0.toList) (uh HS2) 7 _ rfl
  clear hst hS2 hE2
  go_wp2_with (refine wpList_store rfl rfl _ (uh HST) ?_)
  refine bodyPost_ret (v:=.tuple #[.agg Sh0,.bool false]) (by simp[results,Tryz.results233,go_sem,r0,r1,r2,r3,r4,r5,r6,r7]) rfl (uh HE2)
 have d1:(k.kind !=4)=false:=by simp[hk4]
 have HK4:=uy hk4
 clear hk4
 by_cases hv0:v.kind=0
 case pos=>
  have d2:(v.kind==0)=true:=by simp[hv0]
  have HW:Hid (wayOf s (s.T t) k v=.loose):=uy (uh HWAY .loose (fun _=>rfl) (fun _ h=>absurd hv0 h) (fun _ h=>absurd hv0 h) (fun _ h=>absurd hv0 h))
  clear hv0
  go_enter Tryz.func233,Tryz.ntmps233
  go_upto_region 1 with fail
  rw[<-hW]
  clear hW
  obtain⟨w2,hst,hS2,hE2⟩:=uh HNOE W (uh HE) (uh HDE) (uh HB).2.2.2 (uh HW)
  have HST:=uy hst
  have HS2:=uy hS2
  have HE2:=uy hE2
  have r0:w2.cell? ⟨w.heap.size+1+1+1,0,none⟩=some (.slice none 0 0):=st_cells (vs:=Sh0.toList) (uh HS2) 0 _ rfl
  have r1:w2.cell? ⟨w.heap.size+1+1+1,1,none⟩=some (.slice none 0 0):=st_cells (vs:=Sh0.toList) (uh HS2) 1 _ rfl
  have r2:w2.cell? ⟨w.heap.size+1+1+1,2,none⟩=some (.slice none 0 0):=st_cells (vs:=Sh0.toList) (uh HS2) 2 _ rfl
  have r3:w2.cell? ⟨w.heap.size+1+1+1,3,none⟩=some (.slice none 0 0):=st_cells (vs:=Sh0.toList) (uh HS2) 3 _ rfl
  have r4:w2.cell? ⟨w.heap.size+1+1+1,4,none⟩=some (.int .i64 0):=st_cells (vs:=Sh0.toList) (uh HS2) 4 _ rfl
  have r5:w2.cell? ⟨w.heap.size+1+1+1,5,none⟩=some (.int .i64 0):=st_cells (vs:=Sh0.toList) (uh HS2) 5 _ rfl
  have r6:w2.cell? ⟨w.heap.size+1+1+1,6,none⟩=some (.int .i64 0):=st_cells (vs:=Sh0.toList) (uh HS2) 6 _ rfl
  have r7:w2.cell? ⟨w.heap.size+1+1+1,7,none⟩=some (.pointer none):=st_cells (vs:=Sh0.toList) (uh HS2) 7 _ rfl
  clear hst hS2 hE2
  go_wp2_with (refine wpList_store rfl rfl _ (uh HST) ?_)
  refine bodyPost_ret (v:=.tuple #[.agg Sh0,.bool false]) (by simp[results,Tryz.results233,go_sem,r0,r1,r2,r3,r4,r5,r6,r7]) rfl (uh HE2)
 have d2:(v.kind==0)=false:=by simp[hv0]
 have HV0:=uy hv0
 clear hv0
 have y0:W.cell? ⟨w.heap.size+1+1,0,none⟩=some (.int .i64 v.kind):=by have b:=(uh HB).2.2.1;simp[World.cell?,b]
 have y1:W.cell? ⟨w.heap.size+1+1,1,none⟩=some (.int .i64 v.num):=by have b:=(uh HB).2.2.1;simp[World.cell?,b]
 have y2:W.cell? ⟨w.heap.size+1+1,2,none⟩=some (.float .f64 v.flt):=by have b:=(uh HB).2.2.1;simp[World.cell?,b]
 have y3:W.cell? ⟨w.heap.size+1+1,3,none⟩=some (.string v.str):=by have b:=(uh HB).2.2.1;simp[World.cell?,b]
 have y4:W.cell? ⟨w.heap.size+1+1,4,none⟩=some (.int .i64 v.ref):=by have b:=(uh HB).2.2.1;simp[World.cell?,b]
 obtain⟨pl,hpl⟩:∃pl,pl=plcI s.F j k.str:=⟨_,rfl⟩
 have HPC:Hid (Calls Tryz.prog 181 #[.pointer (some ⟨Bk j,0,none⟩),.string k.str] W fun e w'=>e=.returned (.int .i64 pl)/\w'=W):=uy (by rw[hpl];exact(uh HNW).placeE (uh HF) hj _)
 have HX5:Hid (W.heap[w.heap.size]?=some (.cells #[.slice (A t).va (s.T t).nv (A t).vc,.slice (A t).la (s.T t).d.n (A t).lc,.slice (A t).ia (s.T t).d.m (A t).ic,.slice (A t).xa (s.T t).d.x (A t).xc,.int .i64 (s.T t).d.used,.int .i64 (s.T t).d.live,.int .i64 (s.T t).d.turns,.pointer (some ⟨Bk j,0,none⟩)] 236 (0,0))):=uy (uh HB).1
 by_cases h0:0<=pl
 case pos=>
  have hd0:decide (0<=pl)=true:=by simp[h0]
  obtain⟨i,hi⟩:∃i:Nat,pl=i:=⟨pl.toNat,by omega⟩
  have hin:i<(s.T t).nv:=by
   rcases plc_rng (uh HF) hj k.str with h|⟨q,h1,h2⟩
   ·omega
   ·rw[(uh HX).2.1];omega
  have HW:Hid (wayOf s (s.T t) k v=.fld/\putS s t k v=setT s t (valT (s.T t) i v)):=uy (by
   have h1:=uh HWAY .fld (fun h=>absurd ⟨uh HK4,uh HV0⟩ h) (fun _ _ _=>rfl) (fun _ _ h=>absurd (by rw[<-hpl];exact h0) h) (fun _ _ h=>absurd (by rw[<-hpl];exact h0) h)
   refine⟨h1,?_⟩
   unfold putS
   rw[h1]
   show setT s t (valT (s.T t) (plcI s.F (s.T t).shape.toNat k.str).toNat v)=_
   rw[(uh HX).1,show((j:Int)).toNat=j by omega,<-hpl,hi]
   rfl)
  have HWT:=uy (with_any (Bk j) (A t) (s.T t) i v W (uh HRd) hin hn12)
  rw[hi]at HPC hd0
  clear hpl h0 hi
  go_enter Tryz.func233,Tryz.ntmps233
  go_upto_region 1 with fail
  rw[<-hW]
  clear hW
  go_wp2_with fail
  refine(uh HPC).mono ?_
  rintro e w1 ⟨rfl,rfl⟩
  go_wp2_with (first|(refine wpList_load_row rfl 236 _ rfl w.heap.size rfl _ _ _ _ (uh HX5) Tryz.underlying236 rfl info8 ?_))
  refine(uh HWT).mono ?_
  rintro e w3 ⟨⟨g,cp,rfl,hown⟩,hb3⟩
  have z3:=hb3.size
  obtain⟨m3,d3⟩:=(uh HE).below hb3
  have hgg:=(hown.lt g rfl).1
  have hR3:Rd (OZ (ZB Z w.heap.size w1.heap.size) B0 c vN vT vS w3) w3 {A t with va:=some ⟨g,0,none⟩,vc:=cp} (valT (s.T t) i v):=Rd.vals (t:=valT (s.T t) i v) hown rfl (m3.novals (w0:=w1) (fun q e=>e.elim (fun e=>by have:=uh HZZ q e;omega) (fun e=>e.2)) hown hgg) (uh HX).2.2
  obtain⟨w2,hst,hS2,hE2⟩:=uh HYE w3 vN Bk (Bk j) {A t with va:=some ⟨g,0,none⟩,vc:=cp} (valT (s.T t) i v) s m3 ((uh HDE).trans d3) ((hb3.block _ (by omega)).trans (uh HB).2.2.2) hR3 (by
   unfold kindV
   rw[if_neg (by show¬(s.T t).shape=-1;rw[(uh HX).1];omega)]
   show Value.iface _ (ShdA (Bk (s.T t).shape.toNat) _ _)=_
   rw[(uh HX).1];rfl) (uh HW).2.symm (by rw[(uh HW).1];decide) rfl
  clear hb3 m3 d3 hown hR3
  have HST:=uy hst
  have HS2:=uy hS2
  have HE2:=uy hE2
  have r0:w2.cell? ⟨w.heap.size+1+1+1,0,none⟩=some (.slice ({A t with va:=some ⟨g,0,none⟩,vc:=cp}).va (valT (s.T t) i v).nv ({A t with va:=some ⟨g,0,none⟩,vc:=cp}).vc):=st_cells (uh HS2) 0 _ rfl
  have r1:w2.cell? ⟨w.heap.size+1+1+1,1,none⟩=some (.slice ({A t with va:=some ⟨g,0,none⟩,vc:=cp}).la (valT (s.T t) i v).d.n ({A t with va:=some ⟨g,0,none⟩,vc:=cp}).lc):=st_cells (uh HS2) 1 _ rfl
  have r2:w2.cell? ⟨w.heap.size+1+1+1,2,none⟩=some (.slice ({A t with va:=some ⟨g,0,none⟩,vc:=cp}).ia (valT (s.T t) i v).d.m ({A t with va:=some ⟨g,0,none⟩,vc:=cp}).ic):=st_cells (uh HS2) 2 _ rfl
  have r3:w2.cell? ⟨w.heap.size+1+1+1,3,none⟩=some (.slice ({A t with va:=some ⟨g,0,none⟩,vc:=cp}).xa (valT (s.T t) i v).d.x ({A t with va:=some ⟨g,0,none⟩,vc:=cp}).xc):=st_cells (uh HS2) 3 _ rfl
  have r4:w2.cell? ⟨w.heap.size+1+1+1,4,none⟩=some (.int .i64 (valT (s.T t) i v).d.used):=st_cells (uh HS2) 4 _ rfl
  have r5:w2.cell? ⟨w.heap.size+1+1+1,5,none⟩=some (.int .i64 (valT (s.T t) i v).d.live):=st_cells (uh HS2) 5 _ rfl
  have r6:w2.cell? ⟨w.heap.size+1+1+1,6,none⟩=some (.int .i64 (valT (s.T t) i v).d.turns):=st_cells (uh HS2) 6 _ rfl
  have r7:w2.cell? ⟨w.heap.size+1+1+1,7,none⟩=some (.pointer (some ⟨Bk j,0,none⟩)):=st_cells (uh HS2) 7 _ rfl
  clear hst hS2 hE2
  go_wp2_with (refine wpList_store rfl rfl _ (uh HST) ?_)
  refine bodyPost_ret (v:=.tuple #[.agg (shdL (Bk j) ({A t with va:=some ⟨g,0,none⟩,vc:=cp}) (valT (s.T t) i v)).toArray,.bool true]) (by simp[results,Tryz.results233,go_sem,r0,r1,r2,r3,r4,r5,r6,r7,shdL]) rfl (uh HE2)
 have hd0:decide (0<=pl)=false:=by simp[h0]
 have HGR:=uy (wGrow_any _ c B0 vN vT vS vU Bk A s j k.str W (uh HE) (uh HF) hj (uh HKS (uh HK4)) (uh HSH))
 have HNP:Hid (plcI s.F j k.str<0):=uy (by rw[<-hpl];omega)
 clear hpl h0
 go_enter Tryz.func233,Tryz.ntmps233
 go_upto_region 1 with fail
 rw[<-hW]
 clear hW
 go_wp2_with fail
 refine(uh HPC).mono ?_
 rintro e w1 ⟨rfl,rfl⟩
 go_wp2_with fail
 refine(uh HGR).mono ?_
 rintro e w3 (⟨hr,rfl,hm3,hd3⟩|⟨r,hr,vN',B',rfl,hm3,hd3⟩)
 ·have HW:Hid (wayOf s (s.T t) k v=.loose):=uy (uh HWAY .loose (fun h=>absurd ⟨uh HK4,uh HV0⟩ h) (fun _ _ h=>absurd h (by have:=uh HNP;omega)) (fun _ _ _ h=>by exfalso;rw[hr]at h;omega) (fun _ _ _ _=>rfl))
  have HM3:=uy hm3
  have HD3:=uy hd3
  have HB3:Hid (w3.heap[w.heap.size+1+1+1]?=some (.cells Sh0 236 (0,0))):=uy ((hd3.block _ (by omega) (fun e=>by
   have hb:=(uh HB).2.2.2
   exact(uh HE).notbox hb (by decide) (by decide) (by decide) (by decide) (by decide) e)).trans (uh HB).2.2.2)
  clear hm3 hd3 hr
  obtain⟨w2,hst,hS2,hE2⟩:=uh HNOE w3 (uh HM3) ((uh HDE).trans (uh HD3)) (uh HB3) (uh HW)
  have HST:=uy hst
  have HS2:=uy hS2
  have HE2:=uy hE2
  have r0:w2.cell? ⟨w.heap.size+1+1+1,0,none⟩=some (.slice none 0 0):=st_cells (vs:=Sh0.toList) (uh HS2) 0 _ rfl
  have r1:w2.cell? ⟨w.heap.size+1+1+1,1,none⟩=some (.slice none 0 0):=st_cells (vs:=Sh0.toList) (uh HS2) 1 _ rfl
  have r2:w2.cell? ⟨w.heap.size+1+1+1,2,none⟩=some (.slice none 0 0):=st_cells (vs:=Sh0.toList) (uh HS2) 2 _ rfl
  have r3:w2.cell? ⟨w.heap.size+1+1+1,3,none⟩=some (.slice none 0 0):=st_cells (vs:=Sh0.toList) (uh HS2) 3 _ rfl
  have r4:w2.cell? ⟨w.heap.size+1+1+1,4,none⟩=some (.int .i64 0):=st_cells (vs:=Sh0.toList) (uh HS2) 4 _ rfl
  have r5:w2.cell? ⟨w.heap.size+1+1+1,5,none⟩=some (.int .i64 0):=st_cells (vs:=Sh0.toList) (uh HS2) 5 _ rfl
  have r6:w2.cell? ⟨w.heap.size+1+1+1,6,none⟩=some (.int .i64 0):=st_cells (vs:=Sh0.toList) (uh HS2) 6 _ rfl
  have r7:w2.cell? ⟨w.heap.size+1+1+1,7,none⟩=some (.pointer none):=st_cells (vs:=Sh0.toList) (uh HS2) 7 _ rfl
  clear hst hS2 hE2
  go_wp2_with (refine wpList_store rfl rfl _ (uh HST) ?_)
  refine bodyPost_ret (v:=.tuple #[.agg Sh0,.bool false]) (by simp[results,Tryz.results233,go_sem,r0,r1,r2,r3,r4,r5,r6,r7]) rfl (uh HE2)
 ·have hb3:∀(q:Nat) (cs:Array Value) (ty:TypeId),w1.heap[q]?=some (Obj.cells cs ty (0,0))->(ty=236\/ty=43)->w3.heap[q]?=some (Obj.cells cs ty (0,0)):=fun q cs ty hq ht=>(hd3.block q (blk_lt hq) (fun e=>by
   rcases ht with rfl|rfl
   ·exact(uh HE).notbox hq (by decide) (by decide) (by decide) (by decide) (by decide) e
   ·exact(uh HE).notbox hq (by decide) (by decide) (by decide) (by decide) (by decide) e)).trans hq
  have c0:=hb3 _ _ _ (uh HB).1 (.inl rfl)
  have c2:=hb3 _ _ _ (uh HB).2.2.1 (.inr rfl)
  have c3:=hb3 _ _ _ (uh HB).2.2.2 (.inl rfl)
  have HX6:Hid (w3.heap[w.heap.size]?=some (.cells #[.slice (A t).va (s.T t).nv (A t).vc,.slice (A t).la (s.T t).d.n (A t).lc,.slice (A t).ia (s.T t).d.m (A t).ic,.slice (A t).xa (s.T t).d.x (A t).xc,.int .i64 (s.T t).d.used,.int .i64 (s.T t).d.live,.int .i64 (s.T t).d.turns,.pointer (some ⟨Bk j,0,none⟩)] 236 (0,0))):=uy c0
  have HC3:=uy c3
  have u0:w3.cell? ⟨w.heap.size+1+1,0,none⟩=some (.int .i64 v.kind):=by simp[World.cell?,c2]
  have u1:w3.cell? ⟨w.heap.size+1+1,1,none⟩=some (.int .i64 v.num):=by simp[World.cell?,c2]
  have u2:w3.cell? ⟨w.heap.size+1+1,2,none⟩=some (.float .f64 v.flt):=by simp[World.cell?,c2]
  have u3:w3.cell? ⟨w.heap.size+1+1,3,none⟩=some (.string v.str):=by simp[World.cell?,c2]
  have u4:w3.cell? ⟨w.heap.size+1+1,4,none⟩=some (.int .i64 v.ref):=by simp[World.cell?,c2]
  have lu:=blk_lt c2
  have HW:Hid (wayOf s (s.T t) k v=.grow/\putS s t k v=setT {s with nf:=growN s.nf s.F j k.str,F:=growF s.nf s.F j k.str} t (growT (s.T t) (r:Int) v)):=uy (by
   have h1:=uh HWAY .grow (fun h=>absurd ⟨uh HK4,uh HV0⟩ h) (fun _ _ h=>absurd h (by have:=uh HNP;omega)) (fun _ _ _ _=>rfl) (fun _ _ _ h=>by exfalso;rw[hr]at h;omega)
   refine⟨h1,?_⟩
   unfold putS
   rw[h1]
   show{setT s t (growT (s.T t) (growR s.nf s.F (s.T t).shape.toNat k.str) v)with nf:=growN s.nf s.F (s.T t).shape.toNat k.str,F:=growF s.nf s.F (s.T t).shape.toNat k.str}=_
   rw[(uh HX).1,show((j:Int)).toNat=j by omega,hr]
   rfl)
  have HM3:=uy hm3
  have HD3:=uy hd3
  have hz3:=hd3.size
  have HGN:=uy (grown_any (Bk j) (B' r) (A t) (s.T t) (r:Int) v w3 ((hm3.rd t ht).now.1) hn12 (uh HX).2.2)
  obtain⟨kb,hkb⟩:∃kb,kb=B' r:=⟨_,rfl⟩
  rw[<-hkb]at HGN ⊢
  have HKB:=uy hkb
  clear hb3 c0 c2 c3 hm3 hd3 hr hkb
  go_wp2_with (first|(refine wpList_load_row rfl 236 _ rfl w.heap.size rfl _ _ _ _ (uh HX6) Tryz.underlying236 rfl info8 ?_))
  refine(uh HGN).mono ?_
  rintro e w4 ⟨⟨g,cp,hgg,rfl,hown⟩,hb4⟩
  have z4:=hb4.size
  obtain⟨m4,d4⟩:=(uh HM3).below hb4
  have hR4:Rd (OZ (ZB Z w.heap.size w1.heap.size) B0 c vN' vT vS w4) w4 (vAd g cp) (growT (s.T t) (r:Int) v):=Rd.vals (t:=growT (s.T t) (r:Int) v) hown rfl (m4.novals (w0:=w3) (fun q e=>by have:=(uh HM3).z q e;exact this) hown hgg) (uh HX).2.2
  obtain⟨w2,hst,hS2,hE2⟩:=uh HYE w4 vN' B' kb (vAd g cp) (growT (s.T t) (r:Int) v) {s with nf:=growN s.nf s.F j k.str,F:=growF s.nf s.F j k.str} m4 (((uh HDE).trans (uh HD3)).trans d4) ((hb4.block _ (by have:=blk_lt (uh HC3);omega)).trans (uh HC3)) hR4 (by
   unfold kindV
   rw[if_neg (by show¬(r:Int)=-1;omega),uh HKB]
   rfl) (uh HW).2.symm (by rw[(uh HW).1];decide) rfl
  clear hb4 m4 d4 hown hR4
  have HST:=uy hst
  have HS2:=uy hS2
  have HE2:=uy hE2
  have r0:w2.cell? ⟨w.heap.size+1+1+1,0,none⟩=some (.slice (vAd g cp).va (growT (s.T t) (r:Int) v).nv (vAd g cp).vc):=st_cells (uh HS2) 0 _ rfl
  have r1:w2.cell? ⟨w.heap.size+1+1+1,1,none⟩=some (.slice (vAd g cp).la (growT (s.T t) (r:Int) v).d.n (vAd g cp).lc):=st_cells (uh HS2) 1 _ rfl
  have r2:w2.cell? ⟨w.heap.size+1+1+1,2,none⟩=some (.slice (vAd g cp).ia (growT (s.T t) (r:Int) v).d.m (vAd g cp).ic):=st_cells (uh HS2) 2 _ rfl
  have r3:w2.cell? ⟨w.heap.size+1+1+1,3,none⟩=some (.slice (vAd g cp).xa (growT (s.T t) (r:Int) v).d.x (vAd g cp).xc):=st_cells (uh HS2) 3 _ rfl
  have r4:w2.cell? ⟨w.heap.size+1+1+1,4,none⟩=some (.int .i64 (growT (s.T t) (r:Int) v).d.used):=st_cells (uh HS2) 4 _ rfl
  have r5:w2.cell? ⟨w.heap.size+1+1+1,5,none⟩=some (.int .i64 (growT (s.T t) (r:Int) v).d.live):=st_cells (uh HS2) 5 _ rfl
  have r6:w2.cell? ⟨w.heap.size+1+1+1,6,none⟩=some (.int .i64 (growT (s.T t) (r:Int) v).d.turns):=st_cells (uh HS2) 6 _ rfl
  have r7:w2.cell? ⟨w.heap.size+1+1+1,7,none⟩=some (.pointer (some ⟨kb,0,none⟩)):=st_cells (uh HS2) 7 _ rfl
  clear hst hS2 hE2
  go_wp2_with (refine wpList_store rfl rfl _ (uh HST) ?_)
  refine bodyPost_ret (v:=.tuple #[.agg (shdL (kb) (vAd g cp) (growT (s.T t) (r:Int) v)).toArray,.bool true]) (by simp[results,Tryz.results233,go_sem,r0,r1,r2,r3,r4,r5,r6,r7,shdL]) rfl (uh HE2)
end
end Go.Proofs.YtgmlkfgfjjggnaaGreatDoor
