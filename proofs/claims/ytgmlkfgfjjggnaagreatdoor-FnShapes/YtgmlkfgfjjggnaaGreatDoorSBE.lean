import Derived.Test.YtgmlkfgfjjggnaaGreatDoorSBD
set_option linter.unusedVariables false
set_option linter.unusedSimpArgs false
set_option maxHeartbeats 40000000
set_option maxRecDepth 100000
namespace Go.Proofs.YtgmlkfgfjjggnaaGreatDoor
section
open Go.RowKit
attribute [local go_sem] run_store_float run_equalIn_float run_store_func fd_val0
def HeldWx(kb vb rb p:Nat)(k v:Vl)(A:Ad)(t:Tb)(W:World):Prop:=
 W.cell? ⟨kb,0,none⟩=some (.int .i64 k.kind)/\W.cell? ⟨kb,1,none⟩=some (.int .i64 k.num)/\W.cell? ⟨kb,2,none⟩=some (.float .f64 k.flt)/\W.cell? ⟨kb,3,none⟩=some (.string k.str)/\W.cell? ⟨kb,4,none⟩=some (.int .i64 k.ref)/\
 W.cell? ⟨vb,0,none⟩=some (.int .i64 v.kind)/\W.cell? ⟨vb,1,none⟩=some (.int .i64 v.num)/\W.cell? ⟨vb,2,none⟩=some (.float .f64 v.flt)/\W.cell? ⟨vb,3,none⟩=some (.string v.str)/\W.cell? ⟨vb,4,none⟩=some (.int .i64 v.ref)/\
 W.cell? ⟨rb,0,none⟩=some (.slice A.va t.nv A.vc)/\W.cell? ⟨rb,1,none⟩=some (.slice A.la t.d.n A.lc)/\W.cell? ⟨rb,2,none⟩=some (.slice A.ia t.d.m A.ic)/\W.cell? ⟨rb,3,none⟩=some (.slice A.xa t.d.x A.xc)/\W.cell? ⟨rb,4,none⟩=some (.int .i64 t.d.used)/\W.cell? ⟨rb,5,none⟩=some (.int .i64 t.d.live)/\W.cell? ⟨rb,6,none⟩=some (.int .i64 t.d.turns)/\W.cell? ⟨rb,7,none⟩=some (.pointer (some ⟨p,0,none⟩))
theorem HeldWx.keep{kb vb rb p:Nat}{k v:Vl}{A:Ad}{t:Tb}{W W':World}(h:HeldWx kb vb rb p k v A t W)(h1:W'.heap[kb]?=W.heap[kb]?)(h2:W'.heap[vb]?=W.heap[vb]?)(h3:W'.heap[rb]?=W.heap[rb]?):HeldWx kb vb rb p k v A t W':=by
 have e1:∀q,W'.cell? ⟨kb,q,none⟩=W.cell? ⟨kb,q,none⟩:=fun q=>World.cell?_of_block (a:=⟨kb,q,none⟩) h1
 have e2:∀q,W'.cell? ⟨vb,q,none⟩=W.cell? ⟨vb,q,none⟩:=fun q=>World.cell?_of_block (a:=⟨vb,q,none⟩) h2
 have e3:∀q,W'.cell? ⟨rb,q,none⟩=W.cell? ⟨rb,q,none⟩:=fun q=>World.cell?_of_block (a:=⟨rb,q,none⟩) h3
 obtain⟨a0,a1,a2,a3,a4,a5,a6,a7,a8,a9,a10,a11,a12,a13,a14,a15,a16,a17⟩:=h
 exact⟨(e1 _).trans a0,(e1 _).trans a1,(e1 _).trans a2,(e1 _).trans a3,(e1 _).trans a4,(e2 _).trans a5,(e2 _).trans a6,(e2 _).trans a7,(e2 _).trans a8,(e2 _).trans a9,(e3 _).trans a10,(e3 _).trans a11,(e3 _).trans a12,(e3 _).trans a13,(e3 _).trans a14,(e3 _).trans a15,(e3 _).trans a16,(e3 _).trans a17⟩
theorem HeldWx.of{w W:World}{rb p:Nat}{k v:Vl}{A:Ad}{t:Tb}(h:KVx w W k v)(hr:W.heap[rb]?=some (.cells (shdL p A t).toArray 236 (0,0))):HeldWx w.heap.size (w.heap.size+1) rb p k v A t W:=by
 obtain⟨⟨k0,k1,k2,k3,k4⟩,⟨v0,v1,v2,v3,v4⟩⟩:=h.cells
 have hc:=sh_cells hr
 exact⟨k0,k1,k2,k3,k4,v0,v1,v2,v3,v4,hc 0 _ rfl,hc 1 _ rfl,hc 2 _ rfl,hc 3 _ rfl,hc 4 _ rfl,hc 5 _ rfl,hc 6 _ rfl,hc 7 _ rfl⟩
section
variable {Z:Nat->Prop} {w w1 w2:World} {c B0:Nat} {vN vT vS vU:Value} {Bk:Nat->Nat} {A:Nat->Ad} {s:Sto} {t:Nat} {k v:Vl} {e:Ending}
theorem Dst.boxes{vN' vT' vS':Value}(hd:Dst (OwnW B0 c vN vT vS w1) w1 (OwnW B0 c vN' vT' vS' w2) w2)(hM:WkM Z w1 c B0 vN vT vS vU Bk A s){q:Nat}{cs:Array Value}{ty:TypeId}(hq:w1.heap[q]?=some (Obj.cells cs ty (0,0)))(ht:ty=236\/ty=43\/ty=45\/ty=51):w2.heap[q]?=w1.heap[q]?:=
 hd.block q (blk_lt hq) (fun e=>by
  rcases ht with rfl|rfl|rfl|rfl
  ·exact hM.notbox hq (by decide) (by decide) (by decide) (by decide) (by decide) e
  ·exact hM.notbox hq (by decide) (by decide) (by decide) (by decide) (by decide) e
  ·exact hM.notbox hq (by decide) (by decide) (by decide) (by decide) (by decide) e
  ·exact hM.notbox hq (by decide) (by decide) (by decide) (by decide) (by decide) e)
theorem way_loose(h:wayOf s (s.T t) k v=.loose){j:Nat}(hx:(s.T t).shape=j):putC s t k v=0/\putS s t k v=setT s t (dictT (s.T t) (looseD s.F j (s.T t).V (s.T t).nv) k v):=by
 unfold putC putS
 rw[h]
 refine⟨rfl,?_⟩
 show setT s t (dictT (s.T t) (looseD s.F (s.T t).shape.toNat (s.T t).V (s.T t).nv) k v)=_
 rw[hx]
 rfl
theorem loose_notfull{F:Nat->Shp}{j:Nat}{V:Nat->Vl}{n:Nat}{d:Dc}(h:LooseL F j V n d)(hn:n<=12):fullB d k v=false:=by
 unfold fullB
 rw[h.live,h.turns,decide_eq_false (p:=((n:Int)=500)) (by omega),decide_eq_false (p:=((n:Int)=1000000000000)) (by omega)]
 simp
end
theorem write_sh(Z:Nat->Prop)(c B0:Nat)(vN vT vS:Value)(Bk:Nat->Nat)(A:Nat->Ad)(s:Sto)(t j:Nat)(k v:Vl)(w:World)(hM:WkM Z w c B0 vN vT vS (.slice none 0 0) Bk A s)(hf:forestOk s.nf s.F=0)(ht:t<s.nt)(hnt:s.nt<=100)(hT:Tabs w)(hx:(s.T t).shape=j)(hj:j<s.nf)(hnv:(s.T t).nv=nf s.F j)(hbr:bare (s.T t).d)(hok:∀i,i<(s.T t).nv->okV ((s.T t).V i)=true)(hk:Ky k)(hv:v.ok=true)(hRR:RareC k v)(hB0:5<=B0)(hsh:∀i,i<s.nt->(s.T i).shape=-1\/∃j:Nat,(s.T i).shape=j/\j<s.nf):
  Calls Tryz.prog 203 #[.pointer (some ⟨c,0,none⟩),.int .i64 (t:Int),VVa k,VVa v] w fun e w'=>WrP Z c B0 vN vT vS s t k v w e w':=by
 obtain⟨g,cp,hvT,hgl,hBg,hgt,hgf⟩:=hM.tform ht
 subst hvT
 have hkv:kindV Bk (A t) (s.T t)=.iface 236 (ShdA (Bk j) (A t) (s.T t)):=by
  unfold kindV
  rw[if_neg (by omega),hx]
  rfl
 rw[hkv]at hgt
 obtain⟨W,hW,hbW,hKV,hzW⟩:=kvx w k v
 have hcl:=hM.lt
 have hn12:(s.T t).nv<=12:=by rw[hnv];exact nf_le hf hj
 obtain⟨gv,hgv⟩:∃gv,gv=tget s.F (s.T t) k:=⟨_,rfl⟩
 have HGET:Hid (∀w1,Below W.heap.size W w1->Calls Tryz.prog 342 #[ShdA (Bk j) (A t) (s.T t),VVa k] w1 fun e w'=>e=.returned (VVa gv)/\Below w1.heap.size w1 w'):=uy (fun w1 h1=>by
  have hb1:=hbW.trans (h1.mono (by omega))
  rw[hgv]
  exact shapedGet_any (A t) (s.T t) s B0 Bk j k w1 (NdS.below hM.nd hb1) hf hj hx hnv (((hM.rd t ht).now.1).below hb1 rfl))
 have HNO:Hid (∀w1,Below w.heap.size w w1->v.kind=0/\gv.kind=0->WrP Z c B0 vN (.slice (some ⟨g,0,none⟩) s.nt cp) vS s t k v w (.returned (errV 0)) w1):=uy (fun w1 h1 h2=>by
  obtain⟨e1,e2⟩:=way_no (s:=s) (t:=t) (k:=k) (v:=v) (by rw[<-hgv];exact h2)
  obtain⟨m1,d1⟩:=hM.below h1
  exact⟨_,_,_,_,by rw[e1],d1,.inl ⟨e1,Bk,A,by rw[e2];exact m1⟩⟩)
 have HWF:Hid (∀w1,Below w.heap.size w w1->¬(v.kind=0/\gv.kind=0)->Calls Tryz.prog 233 #[.pointer (some ⟨c,0,none⟩),ShdA (Bk j) (A t) (s.T t),VVa k,VVa v] w1 fun e w'=>WrF Z c B0 vN (.slice (some ⟨g,0,none⟩) s.nt cp) vS (.slice none 0 0) Bk A s t k v w1 e w'):=uy (fun w1 h1 hno=>wWriteField_any Z c B0 vN _ vS _ Bk A s t j k v w1 (hM.below h1).1 hf ht hx hj hnv hbr hk (by rw[<-hgv];exact hno) hsh)
 have HY:Hid (∀w1 w3 w4 vN' B' p a' x' s',Below w.heap.size w w1->kindV B' a' x'=.iface 236 (.agg (shdL p a' x').toArray)->setT s' t x'=putS s t k v->wayOf s (s.T t) k v≠.full->s'.nt=s.nt->WkM Z w3 c B0 vN' (.slice (some ⟨g,0,none⟩) s.nt cp) vS (.slice none 0 0) B' A s'->Dst (OwnW B0 c vN (.slice (some ⟨g,0,none⟩) s.nt cp) vS w1) w1 (OwnW B0 c vN' (.slice (some ⟨g,0,none⟩) s.nt cp) vS w3) w3->Rd (OZ Z B0 c vN' (.slice (some ⟨g,0,none⟩) s.nt cp) vS w3) w3 a' x'->Below w3.heap.size w3 w4->
   Calls Tryz.prog 208 #[.pointer (some ⟨c,0,none⟩),.int .i64 (t:Int),.iface 236 (.agg (shdL p a' x').toArray)] w4 fun e w'=>(∃u,e=.returned u)/\WrP Z c B0 vN (.slice (some ⟨g,0,none⟩) s.nt cp) vS s t k v w (.returned (errV 0)) w'):=uy (fun w1 w3 w4 vN' B' p a' x' s' h1 e1 e2 e3 e4 m3 d3 hR h4=>by
  obtain⟨m4,d4⟩:=m3.below h4
  obtain⟨_,d1⟩:=hM.below h1
  have hc:putC s t k v=0:=by unfold putC;rw[if_neg e3]
  rw[<-e1]
  refine(replace_any Z c B0 vN' _ vS B' A s' t a' x' w4 m4 (by omega) (by omega) (hR.step d4.oz)).mono ?_
  rintro e w5 ⟨hu,vU',m5,d5,_⟩
  exact⟨hu,vN',_,vS,vU',by rw[hc],((d1.trans d3).trans d4).trans d5,.inl ⟨hc,B',up1 A t a',by rw[<-e2];exact m5⟩⟩)
 have hLL:=loose_log hf hj (W:=(s.T t).V) (fun q hq=>hok q (by omega)) (s.T t).nv (by omega)
 have HAD:Hid (∀w4,Below w.heap.size w w4\/(∃w3,WkM Z w3 c B0 vN (.slice (some ⟨g,0,none⟩) s.nt cp) vS (.slice none 0 0) Bk A s/\Tabs w3/\Below w3.heap.size w3 w4)->Calls Tryz.prog 235 #[ShdA (Bk j) (A t) (s.T t)] w4 fun e w'=>(∃v0 v1 v2,e=.returned (DvV v0 v1 v2 (looseD s.F j (s.T t).V (s.T t).nv))/\DV (looseD s.F j (s.T t).V (s.T t).nv) w' v0 v1 v2 w4.heap.size w'.heap.size)/\Below w4.heap.size w4 w'):=uy (fun w4 h4=>by
  have hq:∃w3,WkM Z w3 c B0 vN (.slice (some ⟨g,0,none⟩) s.nt cp) vS (.slice none 0 0) Bk A s/\Tabs w3/\Below w3.heap.size w3 w4:=h4.elim (fun h=>⟨w,hM,hT,h⟩) id
  obtain⟨w3,m3,hT3,hb⟩:=hq
  exact asDict_any (A t) (s.T t) s B0 Bk j w4 (lastsT _ _ hT3 hb) (NdS.below m3.nd hb) hf hj hnv (((m3.rd t ht).now.1).below hb rfl) hok)
 have HWD:Hid (∀w1 w3 w5 u0 c0 u1 c1 u2 c2,Below w.heap.size w w1->wayOf s (s.T t) k v=.loose->WkM Z w3 c B0 vN (.slice (some ⟨g,0,none⟩) s.nt cp) vS (.slice none 0 0) Bk A s->Tabs w3->Dst (OwnW B0 c vN (.slice (some ⟨g,0,none⟩) s.nt cp) vS w1) w1 (OwnW B0 c vN (.slice (some ⟨g,0,none⟩) s.nt cp) vS w3) w3->Below w3.heap.size w3 w5->DAt w5 u0 u1 u2 (looseD s.F j (s.T t).V (s.T t).nv)->
   Calls Tryz.prog 234 #[.pointer (some ⟨c,0,none⟩),.int .i64 (t:Int),Dv u0 c0 u1 c1 u2 c2 (looseD s.F j (s.T t).V (s.T t).nv),VVa k,VVa v] w5 fun e w'=>e=.returned (errV 0)/\WrP Z c B0 vN (.slice (some ⟨g,0,none⟩) s.nt cp) vS s t k v w (.returned (errV 0)) w'/\∀(q:Nat) (cs:Array Value) (ty:TypeId),w5.heap[q]?=some (Obj.cells cs ty (0,0))->(ty=236\/ty=43\/ty=45\/ty=51)->w'.heap[q]?=w5.heap[q]?):=uy (fun w1 w3 w5 u0 c0 u1 c1 u2 c2 h1 hw m3 hT3 d3 h5 hD=>by
  obtain⟨m5,d5⟩:=m3.below h5
  obtain⟨_,d1⟩:=hM.below h1
  obtain⟨e1,e2⟩:=way_loose hw hx
  refine(wWriteDict_any Z c B0 vN _ vS Bk A s t u0 c0 u1 c1 u2 c2 _ k v w5 m5 ht hnt (lastsT _ _ hT3 h5) hD hLL.ls.inv (by rw[hLL.m];omega) hk hv hRR hB0).mono ?_
  rintro e w6 ⟨he,vU',a',m6,d6,_⟩
  rw[loose_notfull hLL hn12]at he
  refine⟨he,⟨vN,_,vS,vU',by rw[e1],((d1.trans d3).trans d5).trans d6,.inl ⟨e1,Bk,up1 A t a',by rw[e2];exact m6⟩⟩,fun q cs ty hq hty=>d6.boxes m5 hq hty⟩)
 have x1:=(hbW.cell (p:=⟨c,1,none⟩) hcl).trans hM.cells.2.1
 have xg:=(hbW.cell (p:=⟨g,t,none⟩) hgl).trans hgt
 obtain⟨⟨k0,k1,k2,k3,k4⟩,⟨v0,v1,v2,v3,v4⟩⟩:=hKV.cells
 have lc:c<W.heap.size:=by omega
 have lg:g<W.heap.size:=by omega
 have l0:w.heap.size<W.heap.size:=by omega
 have l1:w.heap.size+1<W.heap.size:=by omega
 have HKV:=uy hKV
 have HBW:=uy hbW
 have HTW:=uy hT
 have HMW:=uy hM
 have hbase:=hM.base
 have ht1:=ta1 (ShdA (Bk j) (A t) (s.T t))
 obtain⟨D,hD⟩:∃D,D=looseD s.F j (s.T t).V (s.T t).nv:=⟨_,rfl⟩
 rw[<-hD]at HAD HWD
 clear hM hT hk hv hgv hbW hKV hgt hgf hkv hx hzW hf hnv hbr hok hsh hLL hD
 go_enter Tryz.func203,Tryz.ntmps203
 go_upto_region 1 with fail
 rw[<-hW]
 clear hW
 by_cases hno:v.kind=0/\gv.kind=0
 case pos=>
  have d1:(v.kind==0)=true:=by simp[hno.1]
  have d2:(gv.kind==0)=true:=by simp[hno.2]
  have HN:=uy hno
  clear hno
  refine wp_region_quiet (C:=fun w'=>Below W.heap.size W w') (by kernel_rfl) (by kernel_rfl) ((Below.refl _ _).drew) ?_
  show wpQuiet _ _ _ _ [_,_,_,_,_,_,_,_,_,_,_,_,_,_,_,_,_] _
  (refine wpQuiet_step (fun K hK=>?_);go_simp;refine⟨_,fun w' hw'=>rfl,hK _ ?_⟩;clear hK K)
  (refine wpQuiet_step (fun K hK=>?_);go_simp;refine Exists.intro ?_ (And.intro (fun w' hw'=>?_) (hK _ ?_));rotate_left;obtain⟨hc',hf'⟩:=bcell hw';go_simp;first|rfl|exact⟨rfl,rfl⟩|exact⟨rfl⟩;clear hK K)
  iterate 6 (refine wpQuiet_step (fun K hK=>?_);go_simp;refine⟨_,fun w' hw'=>rfl,hK _ ?_⟩;clear hK K)
  (refine wpQuiet_step (fun K hK=>?_);go_simp;refine Exists.intro ?_ (And.intro (fun w' hw'=>?_) (hK _ ?_));rotate_left;obtain⟨hc',hf'⟩:=bcell hw';go_simp;first|rfl|exact⟨rfl,rfl⟩|exact⟨rfl⟩;clear hK K)
  iterate 2 (refine wpQuiet_step (fun K hK=>?_);go_simp;refine⟨_,fun w' hw'=>rfl,hK _ ?_⟩;clear hK K)
  iterate 2 (refine wpQuiet_step (fun K hK=>?_);go_simp;refine Exists.intro ?_ (And.intro (fun w' hw'=>?_) (hK _ ?_));rotate_left;obtain⟨hc',hf'⟩:=bcell hw';go_simp;first|rfl|exact⟨rfl,rfl⟩|exact⟨rfl⟩;clear hK K)
  refine wpQuiet_step (fun K hK=>?_)
  go_simp
  apply Exists.intro
  refine And.intro (fun w' hw'=>?_) (hK _ ?_)
  ·go_invoke
   (try go_simp)
   refine((uh HGET _ hw')).mono ?_
   rintro e w'' ⟨rfl,hb⟩
   exact⟨rfl,hw'.trans (hb.mono hw'.size)⟩
  clear hK K
  iterate 3 (refine wpQuiet_step (fun K hK=>?_);go_simp;refine⟨_,fun w' hw'=>rfl,hK _ ?_⟩;clear hK K)
  refine wpQuiet_nil ?_
  intro w1 hb1
  have HE:=uy (uh HNO w1 ((uh HBW).trans (hb1.mono (by omega))) (uh HN))
  clear hb1
  go_wp2
  refine bodyPost_ret (v:=errV 0) (by simp[results,Tryz.results203,go_sem,errV]) rfl (uh HE)
 have hcase:(v.kind=0/\gv.kind≠0)\/v.kind≠0:=by
  by_cases h:v.kind=0
  ·exact .inl ⟨h,fun e=>hno ⟨h,e⟩⟩
  ·exact .inr h
 have HN:=uy hno
 clear hno
 rcases hcase with⟨h1,h2⟩|h1
 case' inl=>
  have d1:(v.kind==0)=true:=by simp[h1]
  have d2:(gv.kind==0)=false:=by simp[h2]
  clear h1 h2
  refine wp_region_quiet (C:=fun w'=>Below W.heap.size W w') (by kernel_rfl) (by kernel_rfl) ((Below.refl _ _).drew) ?_
  show wpQuiet _ _ _ _ [_,_,_,_,_,_,_,_,_,_,_,_,_,_,_,_,_] _
  (refine wpQuiet_step (fun K hK=>?_);go_simp;refine⟨_,fun w' hw'=>rfl,hK _ ?_⟩;clear hK K)
  (refine wpQuiet_step (fun K hK=>?_);go_simp;refine Exists.intro ?_ (And.intro (fun w' hw'=>?_) (hK _ ?_));rotate_left;obtain⟨hc',hf'⟩:=bcell hw';go_simp;first|rfl|exact⟨rfl,rfl⟩|exact⟨rfl⟩;clear hK K)
  iterate 6 (refine wpQuiet_step (fun K hK=>?_);go_simp;refine⟨_,fun w' hw'=>rfl,hK _ ?_⟩;clear hK K)
  (refine wpQuiet_step (fun K hK=>?_);go_simp;refine Exists.intro ?_ (And.intro (fun w' hw'=>?_) (hK _ ?_));rotate_left;obtain⟨hc',hf'⟩:=bcell hw';go_simp;first|rfl|exact⟨rfl,rfl⟩|exact⟨rfl⟩;clear hK K)
  iterate 2 (refine wpQuiet_step (fun K hK=>?_);go_simp;refine⟨_,fun w' hw'=>rfl,hK _ ?_⟩;clear hK K)
  iterate 2 (refine wpQuiet_step (fun K hK=>?_);go_simp;refine Exists.intro ?_ (And.intro (fun w' hw'=>?_) (hK _ ?_));rotate_left;obtain⟨hc',hf'⟩:=bcell hw';go_simp;first|rfl|exact⟨rfl,rfl⟩|exact⟨rfl⟩;clear hK K)
  refine wpQuiet_step (fun K hK=>?_)
  go_simp
  apply Exists.intro
  refine And.intro (fun w' hw'=>?_) (hK _ ?_)
  ·go_invoke
   (try go_simp)
   refine((uh HGET _ hw')).mono ?_
   rintro e w'' ⟨rfl,hb⟩
   exact⟨rfl,hw'.trans (hb.mono hw'.size)⟩
  clear hK K
  iterate 3 (refine wpQuiet_step (fun K hK=>?_);go_simp;refine⟨_,fun w' hw'=>rfl,hK _ ?_⟩;clear hK K)
  refine wpQuiet_nil ?_
  intro w1 hb1
 case' inr=>
  have d1:(v.kind==0)=false:=by simp[h1]
  clear h1
  go_quiet (fail)
  obtain⟨w1,hw1⟩:∃w1,w1=W.drewN nq:=⟨_,rfl⟩
  have hb1:Below W.heap.size W w1:=by rw[hw1];exact⟨rfl,rfl,rfl,Nat.le_refl _,fun _ _=>rfl⟩
  rw[<-hw1]
  clear hw1
 all_goals
  have x1:=(hb1.cell (p:=⟨c,1,none⟩) lc).trans x1
  have xg:=(hb1.cell (p:=⟨g,t,none⟩) lg).trans xg
  have z1:=hb1.size
  have lc1:c<w1.heap.size:=by omega
  have lg1:g<w1.heap.size:=by omega
  have l01:w.heap.size<w1.heap.size:=by omega
  have l11:w.heap.size+1<w1.heap.size:=by omega
  obtain⟨W2,hW2⟩:∃W2,W2=w1.alloc (.cells #[.slice (A t).va (s.T t).nv (A t).vc,.slice (A t).la (s.T t).d.n (A t).lc,.slice (A t).ia (s.T t).d.m (A t).ic,.slice (A t).xa (s.T t).d.x (A t).xc,.int .i64 (s.T t).d.used,.int .i64 (s.T t).d.live,.int .i64 (s.T t).d.turns,.pointer (some ⟨Bk j,0,none⟩)] 236):=⟨_,rfl⟩
  have hb2:Below w1.heap.size w1 W2:=by rw[hW2];exact(Below.refl _ _).alloc (Nat.le_refl _) _
  have hr2:W2.heap[w1.heap.size]?=some (.cells (shdL (Bk j) (A t) (s.T t)).toArray 236 (0,0)):=by rw[hW2];exact Deep.blk_alloc_new _ _
  have hBw2:Below w.heap.size w W2:=((uh HBW).trans (hb1.mono (by omega))).trans (hb2.mono (by omega))
  have HB2:=uy hBw2
  have hKV2:=((uh HKV).below hb1).below hb2
  have HKV2:=uy hKV2
  have HR2:=uy hr2
  obtain⟨⟨k0,k1,k2,k3,k4⟩,⟨v0,v1,v2,v3,v4⟩⟩:=hKV2.cells
  have HX2:Hid (W2.heap[w1.heap.size]?=some (.cells #[.slice (A t).va (s.T t).nv (A t).vc,.slice (A t).la (s.T t).d.n (A t).lc,.slice (A t).ia (s.T t).d.m (A t).ic,.slice (A t).xa (s.T t).d.x (A t).xc,.int .i64 (s.T t).d.used,.int .i64 (s.T t).d.live,.int .i64 (s.T t).d.turns,.pointer (some ⟨Bk j,0,none⟩)] 236 (0,0))):=uy hr2
  have z2:=blk_lt hr2
  have l02:w.heap.size<W2.heap.size:=by omega
  have l12:w.heap.size+1<W2.heap.size:=by omega
  have HST2:Hid ((Instr.storeAt 236 (.pointer (some ⟨w1.heap.size,0,none⟩)) (ShdA (Bk j) (A t) (s.T t))).run Tryz.prog (w1.alloc (.cells Sh0 236))=.ok () W2):=uy (by rw[hW2];exact st_shN w1 (Bk j) (A t) (s.T t))
  clear hb1 hb2 hr2 hBw2 hKV2 hW2
  go_upto_region 6 with(refine wpList_store rfl rfl _ (uh HST2) ?_)
  clear x1 xg
  go_wp2_with (first|(refine wpList_load_row rfl 236 _ rfl w1.heap.size rfl _ _ _ _ (uh HX2) Tryz.underlying236 rfl info8 ?_))
  refine(uh HWF W2 (uh HB2) (uh HN)).mono ?_
  rintro e w3 (⟨rfl,hway,m3,d3⟩|⟨vN',B',p,a',x',s',rfl,e1,e2,e3,e4,m3,d3,hR⟩)
  ·have hm2:=((uh HMW).below (uh HB2)).1
   have hkv3:KVx w w3 k v:=⟨(d3.boxes hm2 (uh HKV2).k (.inr (.inl rfl))).trans (uh HKV2).k,(d3.boxes hm2 (uh HKV2).v (.inr (.inl rfl))).trans (uh HKV2).v⟩
   have hr3:=(d3.boxes hm2 (uh HR2) (.inl rfl)).trans (uh HR2)
   have hT3:Tabs w3:=(lastsT _ _ (uh HTW) (uh HB2)).below (B:=B0) ⟨d3.os,d3.tape,d3.output,d3.size,fun q hq=>d3.block q (by omega) (fun e=>by have:=(hm2.rng e).1;omega)⟩ (by omega)
   have HM3:=uy m3
   have HD3:=uy d3
   have HT3:=uy hT3
   have HW3:=uy hway
   obtain⟨W4,hW4⟩:∃W4,W4=w3.alloc (.cells Sh0 236):=⟨_,rfl⟩
   have hb4:Below w3.heap.size w3 W4:=by rw[hW4];exact(Below.refl _ _).alloc (Nat.le_refl _) _
   have hkv4:=hkv3.below hb4
   have hr4:=(hb4.block _ (blk_lt hr3)).trans hr3
   have hS0:HeldWx w.heap.size (w.heap.size+1) w1.heap.size (Bk j) k v (A t) (s.T t) W4.drew:=HeldWx.of (W:=W4) hkv4 hr4
   have HST4:Hid ((Instr.storeAt 236 (.pointer (some ⟨w3.heap.size,0,none⟩)) (.agg Sh0)).run Tryz.prog (w3.alloc (.cells Sh0 236))=.ok () W4):=uy (by
    rw[hW4]
    exact storeAt_new (t:=236) (v:=.agg Sh0) (old:=Sh0.toList) (vs:=Sh0.toList) sz_shaped w3 (ty:=236) rfl rfl sh0_one rfl)
   have HB4:=uy hb4
   have HKV4:=uy hkv4
   have HR4:=uy hr4
   have lk4:=blk_lt hkv4.k
   have lv4:=blk_lt hkv4.v
   have lr4:=blk_lt hr4
   clear m3 d3 hT3 hway hm2 hkv3 hr3 hb4 hkv4 hr4 hW4 k0 k1 k2 k3 k4 v0 v1 v2 v3 v4
   go_upto_region 10 with(refine wpList_store rfl rfl _ (uh HST4) ?_)
   refine wpN_held (HeldWx w.heap.size (w.heap.size+1) w1.heap.size (Bk j) k v (A t) (s.T t)) (by kernel_rfl) ?_
   change wpAnyH _ _ _ _ _ _ _ _ (World.drew _)
   refine tq 0 (v:=?_) ?_ ?_;rotate_left;intro w' ⟨s0,s1,s2,s3,s4,s5,s6,s7,s8,s9,s10,s11,s12,s13,s14,s15,s16,s17⟩;go_simp;try with_reducible rfl
   simp only[Act.put,sA,sB,sC]
   refine tq 1 (v:=?_) ?_ ?_;rotate_left;intro w' ⟨s0,s1,s2,s3,s4,s5,s6,s7,s8,s9,s10,s11,s12,s13,s14,s15,s16,s17⟩;go_simp;try with_reducible rfl
   simp only[Act.put,sA,sB,sC]
   refine tq 2 (v:=?_) ?_ ?_;rotate_left;intro w' ⟨s0,s1,s2,s3,s4,s5,s6,s7,s8,s9,s10,s11,s12,s13,s14,s15,s16,s17⟩;go_simp;try with_reducible rfl
   simp only[Act.put,sA,sB,sC]
   refine tq 4 (v:=?_) ?_ ?_;rotate_left;intro w' ⟨s0,s1,s2,s3,s4,s5,s6,s7,s8,s9,s10,s11,s12,s13,s14,s15,s16,s17⟩;go_simp;try with_reducible rfl
   simp only[Act.put,sA,sB,sC]
   refine tq 5 (v:=?_) ?_ ?_;rotate_left;intro w' ⟨s0,s1,s2,s3,s4,s5,s6,s7,s8,s9,s10,s11,s12,s13,s14,s15,s16,s17⟩;go_simp;try with_reducible rfl
   simp only[Act.put,sA,sB,sC]
   refine wpAnyH_ready (rs:=[3]) (by kernel_rfl) (by simp) ?_
   refine AllReadyH.cons rfl (fun K hK=>?_) AllReadyH.nil
   go_simp
   have hb4d:Below w3.heap.size w3 W4.drew:=(uh HB4).drew
   refine(uh HAD _ (.inr ⟨w3,uh HM3,uh HT3,hb4d⟩)).mono ?_
   rintro e w5 ⟨⟨u0,u1,u2,rfl,hDV⟩,hb5⟩
   have hb5:Below W4.heap.size W4 w5:=Below.trans (Below.refl _ _).drew hb5
   obtain⟨ua,uc,ub,ud,ue,uf,q0,q1,q2,hDA⟩:=hDV.at
   subst q0 q1 q2
   have hS5:=hS0.keep (W':=w5) (hb5.block _ lk4) (hb5.block _ lv4) (hb5.block _ lr4)
   have HWDc:=uy (uh HWD W2 w3 w5 ua uc ub ud ue uf (uh HB2) (uh HW3) (uh HM3) (uh HT3) (uh HD3) ((uh HB4).trans (hb5.mono (uh HB4).size)) hDA)
   have HK5:=uy (And.intro ((hb5.block _ lk4).trans (uh HKV4).k) (And.intro ((hb5.block _ lv4).trans (uh HKV4).v) ((hb5.block _ lr4).trans (uh HR4))))
   refine hK.out _ _ hS5 (fun _=>?_)
   clear hK K hS0 hDV hDA hb5 hb4d
   refine wpAnyH_ready (rs:=[6]) (by kernel_rfl) (by simp) ?_
   refine AllReadyH.cons rfl (fun K hK=>?_) AllReadyH.nil
   go_simp
   refine(uh HWDc).mono ?_
   rintro e w6 ⟨rfl,hP,hbx⟩
   have hS6:=hS5.keep (W':=w6) (hbx _ _ _ (uh HK5).1 (.inr (.inl rfl))) (hbx _ _ _ (uh HK5).2.1 (.inr (.inl rfl))) (hbx _ _ _ (uh HK5).2.2 (.inl rfl))
   have HP:=uy hP
   refine hK.out _ _ hS6 (fun _=>?_)
   clear hK K hS5 hP hbx
   refine tq 7 (v:=?_) ?_ ?_;rotate_left;intro w' ⟨s0,s1,s2,s3,s4,s5,s6,s7,s8,s9,s10,s11,s12,s13,s14,s15,s16,s17⟩;go_simp;try with_reducible rfl
   (try simp only[Act.put]);(try simp only[List.setIfInBounds_toArray]);(try simp only[List.set_cons_succ]);try simp only[List.set_cons_zero]
   refine wpAnyH_done (by kernel_rfl) ?_ _
   refine QN.normal ?_
   go_wp2_with fail
   refine bodyPost_ret (v:=errV 0) (by simp[results,Tryz.results203,go_sem,errV]) rfl (uh HP)
  ·obtain⟨W4,hW4⟩:∃W4,W4=w3.alloc (.cells (shdL p a' x').toArray 236):=⟨_,rfl⟩
   have hb4:Below w3.heap.size w3 W4:=by rw[hW4];exact(Below.refl _ _).alloc (Nat.le_refl _) _
   have hr4:W4.heap[w3.heap.size]?=some (.cells (shdL p a' x').toArray 236 (0,0)):=by rw[hW4];exact Deep.blk_alloc_new _ _
   have HST4:Hid ((Instr.storeAt 236 (.pointer (some ⟨w3.heap.size,0,none⟩)) (.agg (shdL p a' x').toArray)).run Tryz.prog (w3.alloc (.cells Sh0 236))=.ok () W4):=uy (by
    rw[hW4]
    exact st_shN w3 p a' x')
   have HRP:=uy (uh HY W2 w3 W4 vN' B' p a' x' s' (uh HB2) e1 e2 e3 e4 m3 d3 hR hb4)
   have HX4:=uy hr4
   have l4:=blk_lt hr4
   clear m3 d3 e1 e2 e3 e4 hR hb4 hr4 hW4 k0 k1 k2 k3 k4 v0 v1 v2 v3 v4
   go_upto_region 8 with(refine wpList_store rfl rfl _ (uh HST4) ?_)
   go_wp2_with (first|(refine wpList_load_row rfl 236 _ rfl w3.heap.size rfl _ _ _ _ (uh HX4) Tryz.underlying236 rfl info8 ?_))
   refine(uh HRP).mono ?_
   rintro e w5 ⟨⟨uu,rfl⟩,hP⟩
   have HP:=uy hP
   clear hP
   go_wp2
   refine bodyPost_ret (v:=errV 0) (by simp[results,Tryz.results203,go_sem,errV]) rfl (uh HP)
theorem wWrite_any(Z:Nat->Prop)(c B0:Nat)(vN vT vS:Value)(Bk:Nat->Nat)(A:Nat->Ad)(s:Sto)(t:Nat)(k v:Vl)(w:World)(hM:WkM Z w c B0 vN vT vS (.slice none 0 0) Bk A s)(hG:SGd s)(ht:t<s.nt)(hT:Tabs w)(hk:Ky k)(hv:v.ok=true)(hRR:RareC k v)(hB0:5<=B0):
  Calls Tryz.prog 203 #[.pointer (some ⟨c,0,none⟩),.int .i64 (t:Int),VVa k,VVa v] w fun e w'=>WrP Z c B0 vN vT vS s t k v w e w':=by
 have hx:=hG.t t ht
 rcases hx.way with⟨h1,h2,h3⟩|⟨j,h1,h2,h3,h4,h5⟩
 ·exact write_un Z c B0 vN vT vS Bk A s t k v w hM ht hG.nt hT h1 h3 hx.wf hx.m hk hv hRR hB0
 ·exact write_sh Z c B0 vN vT vS Bk A s t j k v w hM hG.f ht hG.nt hT h1 h2 h3 h4 (fun i hi=>(h5 i hi).1) hk hv hRR hB0 (fun i hi=>by
   rcases(hG.t i hi).way with⟨e,_⟩|⟨q,e,hq,_⟩
   ·exact .inl e
   ·exact .inr ⟨q,e,hq⟩)
end
end Go.Proofs.YtgmlkfgfjjggnaaGreatDoor
