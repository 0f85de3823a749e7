import Derived.Test.YtgmlkfgfjjggnaaGreatDoorSAL
import Derived.Test.YtgmlkfgfjjggnaaGreatDoorSAP
import Derived.Deep.Cut
set_option linter.unusedVariables false
set_option linter.unusedSimpArgs false
set_option maxHeartbeats 40000000
set_option maxRecDepth 100000
namespace Go.Proofs.YtgmlkfgfjjggnaaGreatDoor
section
open Go.RowKit
attribute [local go_sem] run_store_float run_equalIn_float run_store_func
theorem oneMore_any(n:Int)(w:World)(h0:0<=n)(h1:n<=1000000000000):
  Calls Tryz.prog 239 #[.int .i64 n] w fun e w'=>e=.returned (.int .i64 (oneM n))/\w'=w:=by
 have hw:IntKind.i64.wrap (n+1)=n+1:=by rw[IntKind.wrap_i64];omega
 by_cases hn:n<1000000000000
 ·have HR:Hid (oneM n=n+1):=uy (if_pos hn)
  have hm:min (n+1) 1000000000000=n+1:=by omega
  go_enter Tryz.func239,Tryz.ntmps239
  go_wp2
  go_ret
  exact⟨by rw[uh HR];simp[hm],rfl⟩
 ·have HR:Hid (oneM n=1000000000000):=uy (if_neg hn)
  have hm:min (n+1) 1000000000000=1000000000000:=by omega
  go_enter Tryz.func239,Tryz.ntmps239
  go_wp2
  go_ret
  exact⟨by rw[uh HR];simp[hm],rfl⟩
theorem siteKey_any(Z:Nat->Prop)(c B0:Nat)(vN vT vS vU:Value)(Bk:Nat->Nat)(A:Nat->Ad)(s:Sto)(i:Nat)(w:World)(hM:WkM Z w c B0 vN vT vS vU Bk A s)(hi:i<s.ns)(hns:s.ns<=50):
  Calls Tryz.prog 207 #[.pointer (some ⟨c,0,none⟩),.int .i64 (i:Int)] w fun e w'=>e=.returned (VVa (strV (s.S i).key))/\Below w.heap.size w w':=by
 obtain⟨g,cp,hv,hgl,hBg,hgt,hgf⟩:=hM.sform hi
 subst hv
 have hcl:=hM.lt
 obtain⟨W,hW⟩:∃W,W=w.alloc (.cells #[.int .i64 0,.int .i64 0,.float .f64 0,.string ⟨#[]⟩,.int .i64 0] 43):=⟨_,rfl⟩
 have hbW:Below w.heap.size w W:=by rw[hW];exact(Below.refl _ _).alloc (Nat.le_refl _) _
 have hrb:W.heap[w.heap.size]?=some (.cells #[.int .i64 0,.int .i64 0,.float .f64 0,.string ⟨#[]⟩,.int .i64 0] 43 (0,0)):=by rw[hW];exact Deep.blk_alloc_new _ _
 have hzW:w.heap.size<W.heap.size:=blk_lt hrb
 have c2:=hM.cells.2.2.1
 have k0:w.cell? ⟨g,i*5,none⟩=some (.string (s.S i).key):=hgt 0 _ rfl
 have HBW:=uy hbW
 have HRB:=uy hrb
 clear hM hgt hgf hbW hrb
 go_enter Tryz.func207,Tryz.ntmps207
 go_wp2_with fail
 rw[<-hW]
 clear hW c2 k0
 refine(textValueP (s.S i).key _).mono ?_
 rintro e w1 ⟨rfl,hb1⟩
 have hrb:=(hb1.block _ hzW).trans (uh HRB)
 have l1:=blk_lt hrb
 have r0:w1.cell? ⟨w.heap.size,0,none⟩=some (.int .i64 0):=by simp[World.cell?,hrb]
 have r1:w1.cell? ⟨w.heap.size,1,none⟩=some (.int .i64 0):=by simp[World.cell?,hrb]
 have r2:w1.cell? ⟨w.heap.size,2,none⟩=some (.float .f64 0):=by simp[World.cell?,hrb]
 have r3:w1.cell? ⟨w.heap.size,3,none⟩=some (.string ⟨#[]⟩):=by simp[World.cell?,hrb]
 have r4:w1.cell? ⟨w.heap.size,4,none⟩=some (.int .i64 0):=by simp[World.cell?,hrb]
 have rf:∀o,w1.frozen? ⟨w.heap.size,o,none⟩=false:=fun o=>by simp[World.frozen?,hrb]
 have HB1:=uy ((uh HBW).trans (hb1.mono (uh HBW).size))
 clear hb1 hrb
 go_wp2
 refine bodyPost_ret (v:=VVa (strV (s.S i).key)) (by simp[results,Tryz.results207,go_sem,r0,r1,r2,r3,r4,strV]) rfl ⟨rfl,?_⟩
 repeat(refine Below.setCell ?_ (by show w.heap.size<=w.heap.size;omega) _)
 exact uh HB1
end
section
open Go.RowKit
attribute [local go_sem] run_store_float run_equalIn_float
theorem info8:(Tryz.prog.info? 236).map (·.size)=some 8:=by kernel_rfl
abbrev Sh0:Array Value:=#[.slice none 0 0,.slice none 0 0,.slice none 0 0,.slice none 0 0,.int .i64 0,.int .i64 0,.int .i64 0,.pointer none]
theorem with_any(p:Nat)(A:Ad)(t:Tb)(i:Nat)(v:Vl)(w:World)(hV:VAt w A.va t.nv t.V)(hi:i<t.nv)(hn:t.nv<=12):
  Calls Tryz.prog 209 #[ShdA p A t,.int .i64 (i:Int),VVa v] w fun e w'=>(∃g cp,e=.returned (ShdA p {A with va:=some ⟨g,0,none⟩,vc:=cp} (valT t i v))/\VlOwn w' w.heap.size (.slice (some ⟨g,0,none⟩) t.nv cp) t.nv (up1 t.V i v))/\Below w.heap.size w w':=by
 obtain⟨i0,hi0,hz0,hz1,hz2⟩:=info_parts infoValue
 obtain⟨vb,off,eva,hvl,hvc⟩:=hV.resolve_left (by omega)
 obtain⟨va,vc,la,lc,ia,ic,xa,xc⟩:=A
 have eva:va=some ⟨vb,off,none⟩:=eva
 subst eva
 have hV:VAt w (some ⟨vb,off,none⟩) t.nv t.V:=hV
 show Calls Tryz.prog 209 #[ShdV p (some ⟨vb,off,none⟩) vc la lc ia ic xa xc t,.int .i64 (i:Int),VVa v] w _
 obtain⟨W,hW⟩:∃W,W=((w.alloc (.cells #[.slice (some ⟨vb,off,none⟩) t.nv vc,.slice la t.d.n lc,.slice ia t.d.m ic,.slice xa t.d.x xc,.int .i64 t.d.used,.int .i64 t.d.live,.int .i64 t.d.turns,.pointer (some ⟨p,0,none⟩)] 236)).alloc (.cells #[.int .i64 v.kind,.int .i64 v.num,.float .f64 v.flt,.string v.str,.int .i64 v.ref] 43)).alloc (.cells Sh0 236):=⟨_,rfl⟩
 have hbW:Below w.heap.size w W:=by rw[hW];exact(((Below.refl _ _).alloc (Nat.le_refl _) _).alloc (by simp) _).alloc (by simp;omega) _
 have hzW:W.heap.size=w.heap.size+1+1+1:=by rw[hW];simp
 have b0:W.heap[w.heap.size]?=some (.cells #[.slice (some ⟨vb,off,none⟩) t.nv vc,.slice la t.d.n lc,.slice ia t.d.m ic,.slice xa t.d.x xc,.int .i64 t.d.used,.int .i64 t.d.live,.int .i64 t.d.turns,.pointer (some ⟨p,0,none⟩)] 236 (0,0)):=by
  rw[hW]
  iterate 2 (refine(Deep.blk_alloc_lt _ _ _ (by simp;try omega)).trans ?_)
  exact Deep.blk_alloc_new _ _
 have b1:W.heap[w.heap.size+1]?=some (.cells #[.int .i64 v.kind,.int .i64 v.num,.float .f64 v.flt,.string v.str,.int .i64 v.ref] 43 (0,0)):=by
  rw[hW]
  refine(Deep.blk_alloc_lt _ _ _ (by simp)).trans ?_
  have h1:=Deep.blk_alloc_new (w.alloc (.cells #[.slice (some ⟨vb,off,none⟩) t.nv vc,.slice la t.d.n lc,.slice ia t.d.m ic,.slice xa t.d.x xc,.int .i64 t.d.used,.int .i64 t.d.live,.int .i64 t.d.turns,.pointer (some ⟨p,0,none⟩)] 236)) (.cells #[.int .i64 v.kind,.int .i64 v.num,.float .f64 v.flt,.string v.str,.int .i64 v.ref] 43)
  simpa using h1
 have b2:W.heap[w.heap.size+1+1]?=some (.cells Sh0 236 (0,0)):=by
  rw[hW]
  have h1:=Deep.blk_alloc_new ((w.alloc (.cells #[.slice (some ⟨vb,off,none⟩) t.nv vc,.slice la t.d.n lc,.slice ia t.d.m ic,.slice xa t.d.x xc,.int .i64 t.d.used,.int .i64 t.d.live,.int .i64 t.d.turns,.pointer (some ⟨p,0,none⟩)] 236)).alloc (.cells #[.int .i64 v.kind,.int .i64 v.num,.float .f64 v.flt,.string v.str,.int .i64 v.ref] 43)) (.cells Sh0 236)
  simpa using h1
 have x0:W.cell? ⟨w.heap.size,0,none⟩=some (.slice (some ⟨vb,off,none⟩) t.nv vc):=by simp[World.cell?,b0]
 have HNW:=uy (VAt.news (w:=W) (fun i hi=>(hvc i hi).keep (fun q=>hbW.cell (p:=⟨vb,q,none⟩) hvl)))
 have HBB:=uy (And.intro b0 (And.intro b1 b2))
 have HBW:=uy hbW
 have HZ:=uy hzW
 clear hvc hV b0 b1 b2 hbW
 have HF:Hid (∀g3 cp3 w3,w3.ownsRow w.heap.size 43 5 (.slice (some ⟨g3,0,none⟩) (0+t.nv) cp3) (0+t.nv) ([]++vlR t.V t.nv)->W.grownBy w3 none->g3=w.heap.size+1+1+1->w3.heap[w.heap.size]?=W.heap[w.heap.size]?/\w.heap.size<w3.heap.size/\
   (VlOwn (w3.setCell ⟨w.heap.size,0,none⟩ (.slice (some ⟨g3,0,none⟩) t.nv cp3)) w.heap.size (.slice (some ⟨g3,0,none⟩) t.nv cp3) t.nv t.V/\Below w.heap.size w (w3.setCell ⟨w.heap.size,0,none⟩ (.slice (some ⟨g3,0,none⟩) t.nv cp3))/\
   (w3.setCell ⟨w.heap.size,0,none⟩ (.slice (some ⟨g3,0,none⟩) t.nv cp3)).heap[w.heap.size]?=some (.cells #[.slice (some ⟨g3,0,none⟩) t.nv cp3,.slice la t.d.n lc,.slice ia t.d.m ic,.slice xa t.d.x xc,.int .i64 t.d.used,.int .i64 t.d.live,.int .i64 t.d.turns,.pointer (some ⟨p,0,none⟩)] 236 (0,0))/\
   (w3.setCell ⟨w.heap.size,0,none⟩ (.slice (some ⟨g3,0,none⟩) t.nv cp3)).heap[w.heap.size+1]?=some (.cells #[.int .i64 v.kind,.int .i64 v.num,.float .f64 v.flt,.string v.str,.int .i64 v.ref] 43 (0,0))/\
   (w3.setCell ⟨w.heap.size,0,none⟩ (.slice (some ⟨g3,0,none⟩) t.nv cp3)).heap[w.heap.size+1+1]?=some (.cells Sh0 236 (0,0)))):=uy (by
  intro g3 cp3 w3 h1 h2 h3
  obtain⟨b0,b1,b2⟩:=uh HBB
  have hk:∀k,k<W.heap.size->w3.heap[k]?=W.heap[k]?:=fun k hk=>h2.block k hk (by simp)
  have hz:=h2.size
  have hb:=uh HBW
  rw[Nat.zero_add,List.nil_append]at h1
  have hb3:Below w.heap.size w w3:=⟨h2.os.trans hb.os,h2.tape.trans hb.tape,h2.output.trans hb.output,Nat.le_trans hb.size h2.size,fun k hk=>(h2.block k (Nat.lt_of_lt_of_le hk hb.size) (by simp)).trans (hb.block k hk)⟩
  refine⟨hk _ (by omega),by omega,own_keep h1 (fun q e=>Deep.blk_setCell_other _ _ _ _ (by cases e;show g3≠w.heap.size;omega)),hb3.setCell (Nat.le_refl _) _,(heap_setCell_same _ _ _ _ _ _ ((hk _ (by omega)).trans b0)).trans (by simp),(Deep.blk_setCell_other _ _ _ _ (by show w.heap.size+1≠w.heap.size;omega)).trans ((hk _ (by omega)).trans b1),(Deep.blk_setCell_other _ _ _ _ (by show w.heap.size+1+1≠w.heap.size;omega)).trans ((hk _ (by omega)).trans b2)⟩)
 go_enter Tryz.func209,Tryz.ntmps209
 go_upto_region 2 with(at_builtin;rw[<-hW];refine wpList_append_lies _ rfl _ _ 89 rfl w.heap.size 43 i0 (V 0 0 0 ⟨#[]⟩ 0) 5 48 Tryz.underlying89 hi0 hz0 hz1 hz2 rfl (by decide) (.slice none 0 0) 0 [] rfl (World.ownsRow_nil _ _ _ _) ⟨vb,off,none⟩ t.nv vc (vlR t.V t.nv) rfl (vlR_length _ _) (uh HNW) (vlR_one _ _) (by omega) (by unfold maxLen;omega) (by omega) (by omega) (w.heap.size+1+1+1) hzW ?_;intro g3 cp3 w3 hown3 hgr3 hloc3 hlt3;simp only[Nat.zero_add];have hg3:g3=w.heap.size+1+1+1:=hloc3.resolve_left (by simp[Value.ownBlock]);obtain⟨hq0,l0,hrest⟩:=uh HF g3 cp3 w3 hown3 hgr3 hg3;have HR3:=uy hrest;have HG3:=uy hg3;clear hown3 hgr3 hloc3 hrest hg3;have b0:=hq0.trans (uh HBB).1;have x0:w3.cell? ⟨w.heap.size,0,none⟩=some (.slice (some ⟨vb,off,none⟩) t.nv vc):=(by simp[World.cell?,b0]);have xf:w3.frozen? ⟨w.heap.size,0,none⟩=false:=(by simp[World.frozen?,b0]);clear hq0 b0)
 obtain⟨w4,hw4⟩:∃w4,w4=w3.setCell ⟨w.heap.size,0,none⟩ (.slice (some ⟨g3,0,none⟩) t.nv cp3):=⟨_,rfl⟩
 rw[<-hw4]at HR3 ⊢
 clear hw4 x0 xf l0
 obtain⟨ho4,hb4,c0,c1,c2⟩:=uh HR3
 have l0:=blk_lt c0
 have l1:=blk_lt c1
 have x0:w4.cell? ⟨w.heap.size,0,none⟩=some (.slice (some ⟨g3,0,none⟩) t.nv cp3):=by simp[World.cell?,c0]
 have y0:w4.cell? ⟨w.heap.size+1,0,none⟩=some (.int .i64 v.kind):=by simp[World.cell?,c1]
 have y1:w4.cell? ⟨w.heap.size+1,1,none⟩=some (.int .i64 v.num):=by simp[World.cell?,c1]
 have y2:w4.cell? ⟨w.heap.size+1,2,none⟩=some (.float .f64 v.flt):=by simp[World.cell?,c1]
 have y3:w4.cell? ⟨w.heap.size+1,3,none⟩=some (.string v.str):=by simp[World.cell?,c1]
 have y4:w4.cell? ⟨w.heap.size+1,4,none⟩=some (.int .i64 v.ref):=by simp[World.cell?,c1]
 obtain⟨v0,v1,v2,v3,v4⟩:=VlOwn.at ho4 hi
 have hfz:∀q,w4.frozen? ⟨g3,q,none⟩=false:=fun q=>by obtain⟨cur,hb,_⟩:=own_blk ho4 rfl;simp[World.frozen?,hb]
 have hgl:=(ho4.lt g3 rfl).2
 clear ho4 hb4 c0 c1 c2
 go_upto_region 3 with fail
 obtain⟨w5,hw5⟩:∃w5,w5=((((w4.setCell ⟨g3,i*5,none⟩ (.int .i64 v.kind)).setCell ⟨g3,i*5+1,none⟩ (.int .i64 v.num)).setCell ⟨g3,i*5+2,none⟩ (.float .f64 v.flt)).setCell ⟨g3,i*5+3,none⟩ (.string v.str)).setCell ⟨g3,i*5+4,none⟩ (.int .i64 v.ref):=⟨_,rfl⟩
 rw[<-hw5]
 have hw5:w5=set5 w4 g3 (i*5) v:=hw5
 obtain⟨ho4,hb4,c0,c1,c2⟩:=uh HR3
 have ho5:VlOwn w5 w.heap.size (.slice (some ⟨g3,0,none⟩) t.nv cp3) t.nv (up1 t.V i v):=by rw[hw5];exact VlOwn.set5 ho4 hi v
 have hk5:∀k,k≠g3->w5.heap[k]?=w4.heap[k]?:=fun k hk=>by rw[hw5];exact set5_blk _ _ _ _ hk
 have hb5:Below w.heap.size w w5:=by
  rw[hw5]
  iterate 5 (refine Below.setCell ?_ (by show w.heap.size<=g3;have:=uh HG3;omega) _)
  exact hb4
 have c0:=(hk5 _ (by have:=uh HG3;omega)).trans c0
 have c2:=(hk5 _ (by have:=uh HG3;omega)).trans c2
 clear hw5 hk5 hb4 ho4 HR3 x0 y0 y1 y2 y3 y4 v0 v1 v2 v3 v4 hfz hgl l0 l1
 have l0:=blk_lt c0
 have l2:=blk_lt c2
 have x0:w5.cell? ⟨w.heap.size,0,none⟩=some (.slice (some ⟨g3,0,none⟩) t.nv cp3):=by simp[World.cell?,c0]
 have x1:w5.cell? ⟨w.heap.size,1,none⟩=some (.slice la t.d.n lc):=by simp[World.cell?,c0]
 have x2:w5.cell? ⟨w.heap.size,2,none⟩=some (.slice ia t.d.m ic):=by simp[World.cell?,c0]
 have x3:w5.cell? ⟨w.heap.size,3,none⟩=some (.slice xa t.d.x xc):=by simp[World.cell?,c0]
 have x4:w5.cell? ⟨w.heap.size,4,none⟩=some (.int .i64 t.d.used):=by simp[World.cell?,c0]
 have x5:w5.cell? ⟨w.heap.size,5,none⟩=some (.int .i64 t.d.live):=by simp[World.cell?,c0]
 have x6:w5.cell? ⟨w.heap.size,6,none⟩=some (.int .i64 t.d.turns):=by simp[World.cell?,c0]
 have x7:w5.cell? ⟨w.heap.size,7,none⟩=some (.pointer (some ⟨p,0,none⟩)):=by simp[World.cell?,c0]
 obtain⟨w6,hst,hS6⟩:=storeAt_any (t:=236) (v:=ShdV p (some ⟨g3,0,none⟩) cp3 la lc ia ic xa xc t) (vs:=[.slice (some ⟨g3,0,none⟩) t.nv cp3,.slice la t.d.n lc,.slice ia t.d.m ic,.slice xa t.d.x xc,.int .i64 t.d.used,.int .i64 t.d.live,.int .i64 t.d.turns,.pointer (some ⟨p,0,none⟩)]) (old:=Sh0.toList) sz_shaped c2 rfl rfl (by simp[Value.oneCell']) rfl
 have HST:=uy hst
 have e0:=st_cells hS6 0 _ rfl
 have e1:=st_cells hS6 1 _ rfl
 have e2:=st_cells hS6 2 _ rfl
 have e3:=st_cells hS6 3 _ rfl
 have e4:=st_cells hS6 4 _ rfl
 have e5:=st_cells hS6 5 _ rfl
 have e6:=st_cells hS6 6 _ rfl
 have e7:=st_cells hS6 7 _ rfl
 have HS6:=uy hS6
 have HO5:=uy ho5
 have HB5:=uy hb5
 have hg2:g3≠w.heap.size+1+1:=by have:=uh HG3;omega
 have HC0:=uy c0
 clear c0 c2 ho5 hb5 hst hS6 x0 x1 x2 x3 x4 x5 x6 x7
 go_wp2_with (first|(refine wpList_load_row rfl 236 _ rfl w.heap.size rfl _ _ _ _ (uh HC0) Tryz.underlying236 rfl info8 ?_)|(refine wpList_store rfl rfl _ (uh HST) ?_))
 refine bodyPost_ret (v:=ShdV p (some ⟨g3,0,none⟩) cp3 la lc ia ic xa xc t) (by simp[results,Tryz.results209,go_sem,e0,e1,e2,e3,e4,e5,e6,e7]) rfl ⟨⟨g3,cp3,rfl,?_⟩,?_⟩
 ·exact own_keep (uh HO5) (fun q e=>(uh HS6).other q (by cases e;exact hg2))
 ·exact(uh HS6).below (uh HB5) (by omega)
end
end Go.Proofs.YtgmlkfgfjjggnaaGreatDoor
