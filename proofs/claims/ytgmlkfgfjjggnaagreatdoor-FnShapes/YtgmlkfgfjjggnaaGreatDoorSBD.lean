import Derived.Deep.QuietTactic
import Derived.BigQuiet
import Derived.Handy
import Derived.Test.YtgmlkfgfjjggnaaGreatDoorSAU
import Derived.Test.YtgmlkfgfjjggnaaGreatDoorSAZ
import Derived.Test.YtgmlkfgfjjggnaaGreatDoorSBA
import Derived.Test.YtgmlkfgfjjggnaaGreatDoorSBC
set_option linter.unusedVariables false
set_option linter.unusedSimpArgs false
set_option maxHeartbeats 40000000
set_option maxRecDepth 100000
namespace Go.Proofs.YtgmlkfgfjjggnaaGreatDoor
section
open Go.RowKit
attribute [local go_sem] run_store_float run_equalIn_float run_store_func
def WrP(Z:Nat->Prop)(c B0:Nat)(vN vT vS:Value)(s:Sto)(t:Nat)(k v:Vl)(w:World)(e:Ending)(w':World):Prop:=
 ∃vN' vT' vS' vU',e=.returned (errV (putC s t k v))/\Dst (OwnW B0 c vN vT vS w) w (OwnW B0 c vN' vT' vS' w') w'/\
  ((putC s t k v=0/\∃Bk' A',WkM Z w' c B0 vN' vT' vS' vU' Bk' A' (putS s t k v))\/(putC s t k v≠0/\Undn Z w' c B0 vN' vT' vS' vU' (putS s t k v)))
structure KVx (w W:World) (k v:Vl):Prop where
 k:W.heap[w.heap.size]?=some (.cells #[.int .i64 k.kind,.int .i64 k.num,.float .f64 k.flt,.string k.str,.int .i64 k.ref] 43 (0,0))
 v:W.heap[w.heap.size+1]?=some (.cells #[.int .i64 v.kind,.int .i64 v.num,.float .f64 v.flt,.string v.str,.int .i64 v.ref] 43 (0,0))
theorem KVx.below{w W W':World}{k v:Vl}(h:KVx w W k v)(hb:Below W.heap.size W W'):KVx w W' k v:=⟨(hb.block _ (blk_lt h.k)).trans h.k,(hb.block _ (blk_lt h.v)).trans h.v⟩
theorem KVx.cells{w W:World}{k v:Vl}(h:KVx w W k v):(W.cell? ⟨w.heap.size,0,none⟩=some (.int .i64 k.kind)/\W.cell? ⟨w.heap.size,1,none⟩=some (.int .i64 k.num)/\W.cell? ⟨w.heap.size,2,none⟩=some (.float .f64 k.flt)/\W.cell? ⟨w.heap.size,3,none⟩=some (.string k.str)/\W.cell? ⟨w.heap.size,4,none⟩=some (.int .i64 k.ref))/\(W.cell? ⟨w.heap.size+1,0,none⟩=some (.int .i64 v.kind)/\W.cell? ⟨w.heap.size+1,1,none⟩=some (.int .i64 v.num)/\W.cell? ⟨w.heap.size+1,2,none⟩=some (.float .f64 v.flt)/\W.cell? ⟨w.heap.size+1,3,none⟩=some (.string v.str)/\W.cell? ⟨w.heap.size+1,4,none⟩=some (.int .i64 v.ref)):=by
 obtain⟨h1,h2⟩:=h
 exact⟨⟨by simp[World.cell?,h1],by simp[World.cell?,h1],by simp[World.cell?,h1],by simp[World.cell?,h1],by simp[World.cell?,h1]⟩,⟨by simp[World.cell?,h2],by simp[World.cell?,h2],by simp[World.cell?,h2],by simp[World.cell?,h2],by simp[World.cell?,h2]⟩⟩
theorem kvx(w:World)(k v:Vl):∃W,W=(w.alloc (.cells #[.int .i64 k.kind,.int .i64 k.num,.float .f64 k.flt,.string k.str,.int .i64 k.ref] 43)).alloc (.cells #[.int .i64 v.kind,.int .i64 v.num,.float .f64 v.flt,.string v.str,.int .i64 v.ref] 43)/\Below w.heap.size w W/\KVx w W k v/\W.heap.size=w.heap.size+1+1:=by
 refine⟨_,rfl,((Below.refl _ _).alloc (Nat.le_refl _) _).alloc (by simp) _,⟨(Deep.blk_alloc_lt _ _ _ (by simp)).trans (Deep.blk_alloc_new _ _),?_⟩,by simp⟩
 have h1:=Deep.blk_alloc_new (w.alloc (.cells #[.int .i64 k.kind,.int .i64 k.num,.float .f64 k.flt,.string k.str,.int .i64 k.ref] 43)) (.cells #[.int .i64 v.kind,.int .i64 v.num,.float .f64 v.flt,.string v.str,.int .i64 v.ref] 43)
 simpa using h1
theorem fd_val0(v:Vl)(w:World):(Instr.field 43 (V v.kind v.num v.flt v.str v.ref) 0).run Tryz.prog w=.ok (.int .i64 v.kind) w:=by kernel_rfl
attribute [local go_sem] fd_val0
theorem way_no{s:Sto}{t:Nat}{k v:Vl}(h:v.kind=0/\(tget s.F (s.T t) k).kind=0):putC s t k v=0/\putS s t k v=s:=by
 have e:wayOf s (s.T t) k v=.no:=if_pos h
 unfold putC putS
 rw[e]
 exact⟨rfl,rfl⟩
theorem way_dict{s:Sto}{t:Nat}{k v:Vl}(h:¬(v.kind=0/\(tget s.F (s.T t) k).kind=0))(hx:(s.T t).shape=-1):(fullB (s.T t).d k v=true->putC s t k v=5/\putS s t k v=s)/\(fullB (s.T t).d k v=false->putC s t k v=0/\putS s t k v=setT s t (dictT (s.T t) (s.T t).d k v)):=by
 have e:wayOf s (s.T t) k v=if fullB (s.T t).d k v=true then .full else .dict:=by
  unfold wayOf
  rw[if_neg h,if_neg (by omega)]
 refine⟨fun hf=>?_,fun hf=>?_⟩
 ·rw[if_pos hf]at e
  unfold putC putS
  rw[e]
  exact⟨rfl,rfl⟩
 ·rw[if_neg (by rw[hf];decide)]at e
  unfold putC putS
  rw[e]
  exact⟨rfl,rfl⟩
section
variable {Z:Nat->Prop} {w w1 w2:World} {c B0:Nat} {vN vT vS vU:Value} {Bk:Nat->Nat} {A:Nat->Ad} {s:Sto} {t:Nat} {k v:Vl} {e:Ending}
theorem WrD.un(hM:WkM Z w c B0 vN vT vS vU Bk A s)(hb:Below w.heap.size w w1)(hno:¬(v.kind=0/\(tget s.F (s.T t) k).kind=0))(hx:(s.T t).shape=-1)(ht:t<s.nt)(hnt:s.nt<=100)(h:WrD Z c B0 vN vT vS Bk A s t (s.T t).d k v w1 e w2):WrP Z c B0 vN vT vS s t k v w e w2:=by
 obtain⟨he,vU',a',hm,hd,gu,cu,bb,bw,bn,hU,hnb⟩:=h
 obtain⟨m1,d1⟩:=hM.below hb
 obtain⟨y1,y2⟩:=way_dict hno hx
 cases hf:fullB (s.T t).d k v
 ·obtain⟨e1,e2⟩:=y2 hf
  rw[hf]at he
  exact⟨vN,vT,vS,vU',by rw[he,e1];rfl,d1.trans hd,.inl ⟨e1,Bk,up1 A t a',by rw[e2];exact hm⟩⟩
 ·obtain⟨e1,e2⟩:=y1 hf
  rw[hf]at he
  refine⟨vN,vT,vS,vU',by rw[he,e1];rfl,d1.trans hd,.inr ⟨by rw[e1];decide,?_⟩⟩
  rw[e2]
  exact⟨Bk,up1 A t a',_,hm,.inr (.inr (.inr ⟨t,A,a',_,gu,cu,bb,bw,bn,rfl,rfl,hU,hnb,ht,by omega,((hM.rd t ht).step d1.oz).step hd.oz⟩))⟩
end
theorem write_un(Z:Nat->Prop)(c B0:Nat)(vN vT vS:Value)(Bk:Nat->Nat)(A:Nat->Ad)(s:Sto)(t:Nat)(k v:Vl)(w:World)(hM:WkM Z w c B0 vN vT vS (.slice none 0 0) Bk A s)(ht:t<s.nt)(hnt:s.nt<=100)(hT:Tabs w)(hx:(s.T t).shape=-1)(hI:Inv Ky hN (s.T t).d)(hwf:WfD (s.T t).d)(hm:(s.T t).d.m<=4000000)(hk:Ky k)(hv:v.ok=true)(hRR:RareC k v)(hB0:5<=B0):
  Calls Tryz.prog 203 #[.pointer (some ⟨c,0,none⟩),.int .i64 (t:Int),VVa k,VVa v] w fun e w'=>WrP Z c B0 vN vT vS s t k v w e w':=by
 obtain⟨g,cp,hvT,hgl,hBg,hgt,hgf⟩:=hM.tform ht
 subst hvT
 have hkv:kindV Bk (A t) (s.T t)=.iface 239 (HdA (A t) (s.T t)):=if_pos hx
 rw[hkv]at hgt
 obtain⟨W,hW,hbW,hKV,hzW⟩:=kvx w k v
 have hcl:=hM.lt
 have hS:Small (s.T t).d:=hI.small (by omega)
 obtain⟨gv,hgv⟩:∃gv,gv=tget s.F (s.T t) k:=⟨_,rfl⟩
 have HGET:Hid (∀w1,Below W.heap.size W w1->Calls Tryz.prog 349 #[HdA (A t) (s.T t),VVa k] w1 fun e w'=>e=.returned (VVa gv)/\Below w1.heap.size w1 w'):=uy (fun w1 h1=>by
  have hb1:=hbW.trans (h1.mono (by omega))
  rw[hgv]
  exact unshapedGet_any (A t) (s.T t) s.F k w1 (lastsT _ _ hT hb1) hx hI hwf hS hk (((hM.rd t ht).now.2).below hb1))
 have HWR:Hid (∀w1,Below w.heap.size w w1->¬(v.kind=0/\gv.kind=0)->Calls Tryz.prog 234 #[.pointer (some ⟨c,0,none⟩),.int .i64 (t:Int),Dv (A t).la (A t).lc (A t).ia (A t).ic (A t).xa (A t).xc (s.T t).d,VVa k,VVa v] w1 fun e w'=>WrP Z c B0 vN (.slice (some ⟨g,0,none⟩) s.nt cp) vS s t k v w e w'):=uy (fun w1 h1 hno=>by
  refine(wWriteDict_any Z c B0 vN _ vS Bk A s t (A t).la (A t).lc (A t).ia (A t).ic (A t).xa (A t).xc (s.T t).d k v w1 (hM.below h1).1 ht hnt (lastsT _ _ hT h1) (((hM.rd t ht).now.2).below h1) hI hm hk hv hRR hB0).mono ?_
  intro e w2 h2
  exact WrD.un hM h1 (by rw[<-hgv];exact hno) hx ht hnt h2)
 have HNO:Hid (∀w1,Below w.heap.size w w1->v.kind=0/\gv.kind=0->WrP Z c B0 vN (.slice (some ⟨g,0,none⟩) s.nt cp) vS s t k v w (.returned (errV 0)) w1):=uy (fun w1 h1 h2=>by
  obtain⟨e1,e2⟩:=way_no (s:=s) (t:=t) (k:=k) (v:=v) (by rw[<-hgv];exact h2)
  obtain⟨m1,d1⟩:=hM.below h1
  exact⟨_,_,_,_,by rw[e1],d1,.inl ⟨e1,Bk,A,by rw[e2];exact m1⟩⟩)
 have x1:=(hbW.cell (p:=⟨c,1,none⟩) hcl).trans hM.cells.2.1
 have xg:=(hbW.cell (p:=⟨g,t,none⟩) hgl).trans hgt
 obtain⟨⟨k0,k1,k2,k3,k4⟩,⟨v0,v1,v2,v3,v4⟩⟩:=hKV.cells
 have lc:c<W.heap.size:=by omega
 have lg:g<W.heap.size:=by omega
 have l0:w.heap.size<W.heap.size:=by omega
 have l1:w.heap.size+1<W.heap.size:=by omega
 have HKV:=uy hKV
 have HBW:=uy hbW
 have ht3:=ta3 (HdA (A t) (s.T t))
 have ht2:=ta2 (HdA (A t) (s.T t))
 clear hM hT hI hwf hm hk hv hS hgv hbW hKV hgt hgf hkv hx hzW
 go_enter Tryz.func203,Tryz.ntmps203
 go_upto_region 1 with fail
 rw[<-hW]
 clear hW
 by_cases hno:v.kind=0/\gv.kind=0
 case pos=>
  have d1:(v.kind==0)=true:=by simp[hno.1]
  have d2:(gv.kind==0)=true:=by simp[hno.2]
  have HN:=uy hno
  clear hno
  refine wp_region_quiet (C:=fun w'=>Below W.heap.size W w') (by kernel_rfl) (by kernel_rfl) ((Below.refl _ _).drew) ?_
  show wpQuiet _ _ _ _ [_,_,_,_,_,_,_,_,_,_,_,_,_,_,_,_,_] _
  (refine wpQuiet_step (fun K hK=>?_);go_simp;refine⟨_,fun w' hw'=>rfl,hK _ ?_⟩;clear hK K)
  (refine wpQuiet_step (fun K hK=>?_);go_simp;refine Exists.intro ?_ (And.intro (fun w' hw'=>?_) (hK _ ?_));rotate_left;obtain⟨hc',hf'⟩:=bcell hw';go_simp;first|rfl|exact⟨rfl,rfl⟩|exact⟨rfl⟩;clear hK K)
  iterate 6 (refine wpQuiet_step (fun K hK=>?_);go_simp;refine⟨_,fun w' hw'=>rfl,hK _ ?_⟩;clear hK K)
  (refine wpQuiet_step (fun K hK=>?_);go_simp;refine Exists.intro ?_ (And.intro (fun w' hw'=>?_) (hK _ ?_));rotate_left;obtain⟨hc',hf'⟩:=bcell hw';go_simp;first|rfl|exact⟨rfl,rfl⟩|exact⟨rfl⟩;clear hK K)
  iterate 2 (refine wpQuiet_step (fun K hK=>?_);go_simp;refine⟨_,fun w' hw'=>rfl,hK _ ?_⟩;clear hK K)
  iterate 2 (refine wpQuiet_step (fun K hK=>?_);go_simp;refine Exists.intro ?_ (And.intro (fun w' hw'=>?_) (hK _ ?_));rotate_left;obtain⟨hc',hf'⟩:=bcell hw';go_simp;first|rfl|exact⟨rfl,rfl⟩|exact⟨rfl⟩;clear hK K)
  refine wpQuiet_step (fun K hK=>?_)
  go_simp
  apply Exists.intro
  refine And.intro (fun w' hw'=>?_) (hK _ ?_)
  ·go_invoke
   (try go_simp)
   refine((uh HGET _ hw')).mono ?_
   rintro e w'' ⟨rfl,hb⟩
   exact⟨rfl,hw'.trans (hb.mono hw'.size)⟩
  clear hK K
  iterate 3 (refine wpQuiet_step (fun K hK=>?_);go_simp;refine⟨_,fun w' hw'=>rfl,hK _ ?_⟩;clear hK K)
  refine wpQuiet_nil ?_
  intro w1 hb1
  have HE:=uy (uh HNO w1 ((uh HBW).trans (hb1.mono (by omega))) (uh HN))
  clear hb1
  go_wp2
  refine bodyPost_ret (v:=errV 0) (by simp[results,Tryz.results203,go_sem,errV]) rfl (uh HE)
 have hcase:(v.kind=0/\gv.kind≠0)\/v.kind≠0:=by
  by_cases h:v.kind=0
  ·exact .inl ⟨h,fun e=>hno ⟨h,e⟩⟩
  ·exact .inr h
 have HN:=uy hno
 clear hno
 rcases hcase with⟨h1,h2⟩|h1
 case' inl=>
  have d1:(v.kind==0)=true:=by simp[h1]
  have d2:(gv.kind==0)=false:=by simp[h2]
  clear h1 h2
  refine wp_region_quiet (C:=fun w'=>Below W.heap.size W w') (by kernel_rfl) (by kernel_rfl) ((Below.refl _ _).drew) ?_
  show wpQuiet _ _ _ _ [_,_,_,_,_,_,_,_,_,_,_,_,_,_,_,_,_] _
  (refine wpQuiet_step (fun K hK=>?_);go_simp;refine⟨_,fun w' hw'=>rfl,hK _ ?_⟩;clear hK K)
  (refine wpQuiet_step (fun K hK=>?_);go_simp;refine Exists.intro ?_ (And.intro (fun w' hw'=>?_) (hK _ ?_));rotate_left;obtain⟨hc',hf'⟩:=bcell hw';go_simp;first|rfl|exact⟨rfl,rfl⟩|exact⟨rfl⟩;clear hK K)
  iterate 6 (refine wpQuiet_step (fun K hK=>?_);go_simp;refine⟨_,fun w' hw'=>rfl,hK _ ?_⟩;clear hK K)
  (refine wpQuiet_step (fun K hK=>?_);go_simp;refine Exists.intro ?_ (And.intro (fun w' hw'=>?_) (hK _ ?_));rotate_left;obtain⟨hc',hf'⟩:=bcell hw';go_simp;first|rfl|exact⟨rfl,rfl⟩|exact⟨rfl⟩;clear hK K)
  iterate 2 (refine wpQuiet_step (fun K hK=>?_);go_simp;refine⟨_,fun w' hw'=>rfl,hK _ ?_⟩;clear hK K)
  iterate 2 (refine wpQuiet_step (fun K hK=>?_);go_simp;refine Exists.intro ?_ (And.intro (fun w' hw'=>?_) (hK _ ?_));rotate_left;obtain⟨hc',hf'⟩:=bcell hw';go_simp;first|rfl|exact⟨rfl,rfl⟩|exact⟨rfl⟩;clear hK K)
  refine wpQuiet_step (fun K hK=>?_)
  go_simp
  apply Exists.intro
  refine And.intro (fun w' hw'=>?_) (hK _ ?_)
  ·go_invoke
   (try go_simp)
   refine((uh HGET _ hw')).mono ?_
   rintro e w'' ⟨rfl,hb⟩
   exact⟨rfl,hw'.trans (hb.mono hw'.size)⟩
  clear hK K
  iterate 3 (refine wpQuiet_step (fun K hK=>?_);go_simp;refine⟨_,fun w' hw'=>rfl,hK _ ?_⟩;clear hK K)
  refine wpQuiet_nil ?_
  intro w1 hb1
 case' inr=>
  have d1:(v.kind==0)=false:=by simp[h1]
  clear h1
  go_quiet (fail)
  obtain⟨w1,hw1⟩:∃w1,w1=W.drewN nq:=⟨_,rfl⟩
  have hb1:Below W.heap.size W w1:=by rw[hw1];exact⟨rfl,rfl,rfl,Nat.le_refl _,fun _ _=>rfl⟩
  rw[<-hw1]
  clear hw1
 all_goals
  have x1:=(hb1.cell (p:=⟨c,1,none⟩) lc).trans x1
  have xg:=(hb1.cell (p:=⟨g,t,none⟩) lg).trans xg
  obtain⟨⟨k0,k1,k2,k3,k4⟩,⟨v0,v1,v2,v3,v4⟩⟩:=((uh HKV).below hb1).cells
  have z1:=hb1.size
  have lc1:c<w1.heap.size:=by omega
  have lg1:g<w1.heap.size:=by omega
  have l01:w.heap.size<w1.heap.size:=by omega
  have l11:w.heap.size+1<w1.heap.size:=by omega
  have HB1:Hid (∀o,Below w.heap.size w (w1.alloc o)):=uy (fun o=>((uh HBW).trans (hb1.mono (by omega))).alloc (by omega) _)
  clear hb1
  go_wp2_with fail
  refine(uh HWR _ (uh HB1 _) (uh HN)).mono ?_
  intro e w3 hP
  obtain⟨vN',vT',vS',vU',he,hrest⟩:=hP
  have HP:Hid (WrP Z c B0 vN (.slice (some ⟨g,0,none⟩) s.nt cp) vS s t k v w (.returned (errV (putC s t k v))) w3):=uy ⟨vN',vT',vS',vU',rfl,hrest⟩
  subst he
  clear hrest
  go_wp2
  refine bodyPost_ret (v:=errV (putC s t k v)) (by simp[results,Tryz.results203,go_sem]) rfl (uh HP)
end
end Go.Proofs.YtgmlkfgfjjggnaaGreatDoor
