import Derived.Test.YtgmlkfgfjjggnaaGreatDoorSAO
import Derived.Test.YtgmlkfgfjjggnaaGreatDoorSAV
import Derived.Test.YtgmlkfgfjjggnaaGreatDoorSBA
import Derived.Test.YtgmlkfgfjjggnaaGreatDoorSAJ
import Derived.Test.YtgmlkfgfjjggnaaGreatDoorSAR
import Derived.Test.YtgmlkfgfjjggnaaGreatDoorSBC
import Derived.Test.YtgmlkfgfjjggnaaGreatDoorSBE
set_option linter.unusedVariables false
set_option linter.unusedSimpArgs false
set_option maxHeartbeats 40000000
set_option maxRecDepth 100000
namespace Go.Proofs.YtgmlkfgfjjggnaaGreatDoor
section
open Go.RowKit
section
variable {M:Nat} {s:Sto}
theorem oneM_rng{n:Int}(h0:0<=n)(h1:n<=1000000000000):0<=oneM n/\oneM n<=1000000000000:=by
 unfold oneM
 split<;>omega
theorem findI_rng(hG:SGm M s){i t:Nat}(hi:i<s.ns)(ht:t<s.nt)(h:0<=findI s i t):∃j q:Nat,(s.T t).shape=j/\j<s.nf/\findI s i t=q/\q<(s.T t).nv/\plcI s.F j (s.S i).key=q:=by
 obtain⟨_,_,_,_,_,hs⟩:=hG.si i hi
 unfold findI at h ⊢
 rcases(hG.t t ht).way with⟨e,_⟩|⟨j,e,hj,hnv,_⟩
 ·exfalso
  rw[if_neg (by unfold hitB;simp[e]),if_neg (by omega)]at h
  omega
 ·by_cases hh:hitB s i t=true
  ·rw[if_pos hh]at h ⊢
   have h2:(s.T t).shape=(s.S i).shape:=by unfold hitB at hh;simp at hh;exact hh.2
   rcases hs with⟨h3,_⟩|⟨h3,h4,h5,h6⟩
   ·omega
   ·rw[<-h2,e,show((j:Int)).toNat=j by omega]at h6
    rcases plc_rng hG.f hj (s.S i).key with h7|⟨q,h7,h8⟩
    ·omega
    ·exact⟨j,q,e,hj,by omega,by rw[hnv];exact h8,h7⟩
  ·rw[if_neg hh,if_pos (by omega),e,show((j:Int)).toNat=j by omega]at h ⊢
   rcases plc_rng hG.f hj (s.S i).key with h7|⟨q,h7,h8⟩
   ·omega
   ·exact⟨j,q,rfl,hj,h7,by rw[hnv];exact h8,h7⟩
theorem TGm.mapS{t:Tb}{S':Nat->Si}{ns':Nat}(h:TGm M s t):TGm M {s with ns:=ns',S:=S'} t:=⟨h.way,h.wf,h.m⟩
theorem find_good(hG:SGm M s){i t:Nat}(hi:i<s.ns)(ht:t<s.nt):SGm M (findS s i t):=by
 refine⟨hG.f,hG.nt,hG.ns,fun q hq=>(hG.t q hq).mapS,fun q hq=>?_⟩
 show okS _ (up1 s.S i (findX s i t) q)
 by_cases e:q=i
 ·subst e
  rw[up1_self]
  obtain⟨h1,h2,h3,h4,h5,h6⟩:=hG.si q hi
  have o1:=oneM_rng h2 h4
  have o2:=oneM_rng h3 h5
  unfold findX
  split
  ·exact⟨h1,o1.1,h3,o1.2,h5,h6⟩
  ·split
   ·rename_i h7 h8
    refine⟨h1,h2,o2.1,h4,o2.2,.inr ⟨h8.1,?_,h8.2,rfl⟩⟩
    rcases(hG.t t ht).way with⟨e,_⟩|⟨j,e,hj,_⟩
    ·omega
    ·show(s.T t).shape<(s.nf:Int)
     omega
   ·exact⟨h1,h2,o2.1,h4,o2.2,h6⟩
 ·rw[up1_other _ _ e]
  exact hG.si q hq
theorem setT_good(hG:SGm M s){t:Nat}{x:Tb}(hx:TGm M s x):SGm M (setT s t x):=by
 refine⟨hG.f,hG.nt,hG.ns,fun q hq=>?_,hG.si⟩
 show TGm M _ (up1 s.T t x q)
 by_cases e:q=t
 ·subst e;rw[up1_self];exact⟨hx.way,hx.wf,hx.m⟩
 ·rw[up1_other _ _ e]
  have h:=hG.t q hq
  exact⟨h.way,h.wf,h.m⟩
theorem grow_good(hG:SGm M s){j:Nat}(hj:j<s.nf){key:ByteArray}(hk:key.size<=4000)(hp:plcI s.F j key<0){r:Nat}(hr:growR s.nf s.F j key=r):forestOk (growN s.nf s.F j key) (growF s.nf s.F j key)=0/\s.nf<=growN s.nf s.F j key/\(∀i,i<s.nf->growF s.nf s.F j key i=s.F i)/\r<growN s.nf s.F j key/\Kid (growN s.nf s.F j key) (growF s.nf s.F j key) j key r:=by
 rcases grow_res s.nf s.F j key with⟨q,h1,h2,h3,h4⟩|⟨h1,h2,h3,h4,h5⟩|⟨h1,h2,h3,h4,h5,h6⟩
 ·rw[h3,h4]
  have:q=r:=by omega
  subst this
  exact⟨hG.f,Nat.le_refl _,fun _ _=>rfl,h1.2.1,h1⟩
 ·omega
 ·rw[h5,h6]
  have:r=s.nf:=by omega
  subst this
  have hn0:0<s.nf:=by omega
  refine⟨grow_sound hG.f hj hk hp h1 h2 h3,by omega,fun i hi=>grown_lt i hi,by omega,⟨hn0,by omega,?_,?_⟩⟩
  ·rw[grown_new]
  ·rw[grown_new]
theorem way_cases(s:Sto)(x:Tb)(k v:Vl):
  (wayOf s x k v=.no)\/
  (wayOf s x k v=.fld/\0<=x.shape/\k.kind=4/\v.kind≠0/\0<=plcI s.F x.shape.toNat k.str)\/
  (wayOf s x k v=.grow/\0<=x.shape/\k.kind=4/\v.kind≠0/\plcI s.F x.shape.toNat k.str<0/\0<=growR s.nf s.F x.shape.toNat k.str)\/
  (wayOf s x k v=.loose/\0<=x.shape)\/(wayOf s x k v=.dict/\x.shape<0/\fullB x.d k v=false)\/(wayOf s x k v=.full/\x.shape<0/\fullB x.d k v=true):=by
 unfold wayOf
 split
 ·exact .inl rfl
 ·split
  ·rename_i h0
   split
   ·rename_i h1
    split
    ·rename_i h2
     exact .inr (.inl ⟨rfl,h0,h1.1,h1.2,h2⟩)
    ·rename_i h2
     split
     ·rename_i h3
      exact .inr (.inr (.inl ⟨rfl,h0,h1.1,h1.2,by omega,h3⟩))
     ·exact .inr (.inr (.inr (.inl ⟨rfl,h0⟩)))
   ·exact .inr (.inr (.inr (.inl ⟨rfl,h0⟩)))
  ·rename_i h0
   split
   ·rename_i h1
    exact .inr (.inr (.inr (.inr (.inr ⟨rfl,by omega,h1⟩))))
   ·rename_i h1
    exact .inr (.inr (.inr (.inr (.inl ⟨rfl,by omega,by simpa using h1⟩))))
theorem putS_good(hG:SGm M s){t:Nat}(ht:t<s.nt){k v:Vl}(hk:Ky k)(hv:v.ok=true)(hw:Wf v):SGm (M+4002) (putS s t k v):=by
 have hG':=hG.mono (Nat.le_add_right M 4002)
 have hx:=hG.t t ht
 have hks:k.kind=4->k.str.size<=4000:=fun h=>by
  have h1:=hk.1
  unfold keyB Vl.ok validB at h1
  simp[h]at h1
  omega
 unfold putS
 rcases way_cases s (s.T t) k v with h|⟨h,h0,h1,h2,h3⟩|⟨h,h0,h1,h2,h3,h4⟩|⟨h,h0⟩|⟨h,h0,h1⟩|⟨h,h0,h1⟩
 ·rw[h];exact hG'
 ·rw[h]
  rcases hx.way with⟨e,_⟩|⟨j,e,hj,hnv,hb,hok⟩
  ·omega
  ·refine setT_good hG' ⟨.inr ⟨j,e,hj,hnv,hb,fun i hi=>?_⟩,hx.wf,Nat.le_trans hx.m (Nat.le_add_right _ _)⟩
   show okV (up1 (s.T t).V _ v i)=true/\Wf (up1 (s.T t).V _ v i)
   by_cases e2:i=(plcI s.F (s.T t).shape.toNat k.str).toNat
   ·rw[e2,up1_self]
    exact⟨by simp[okV,hv,h2],hw⟩
   ·rw[up1_other _ _ e2]
    exact hok i hi
 ·rw[h]
  rcases hx.way with⟨e,_⟩|⟨j,e,hj,hnv,hb,hok⟩
  ·omega
  ·have ej:(s.T t).shape.toNat=j:=by omega
   rw[ej]at h3 h4 ⊢
   obtain⟨r,hr⟩:∃r:Nat,growR s.nf s.F j k.str=r:=⟨(growR s.nf s.F j k.str).toNat,by omega⟩
   obtain⟨g1,g2,g3,g4,g5⟩:=grow_good hG hj (hks h1) h3 hr
   rw[hr]
   obtain⟨_,q2,q3,_,_⟩:=forestOk_zero hG.f
   obtain⟨_,p2,p3,_,_⟩:=forestOk_zero g1
   have hnf:∀q,q<s.nf->nf (growF s.nf s.F j k.str) q=nf s.F q:=fun q hq=>nf_congr g3 hq
   refine⟨g1,hG.nt,hG.ns,fun q hq=>?_,fun q hq=>?_⟩
   ·show TGm _ _ (up1 s.T t (growT (s.T t) (r:Int) v) q)
    by_cases e2:q=t
    ·subst e2
     rw[up1_self]
     refine⟨.inr ⟨r,rfl,g4,?_,hb,fun i hi=>?_⟩,hx.wf,Nat.le_trans hx.m (Nat.le_add_right _ _)⟩
     ·show(s.T q).nv+1=nf (growF s.nf s.F j k.str) r
      rw[nf_kid p2 p3 g5,hnf j hj,hnv]
     ·show okV (up1 (s.T q).V (s.T q).nv v i)=true/\Wf (up1 (s.T q).V (s.T q).nv v i)
      have hi:i<(s.T q).nv+1:=hi
      by_cases e3:i=(s.T q).nv
      ·rw[e3,up1_self]
       exact⟨by simp[okV,hv,h2],hw⟩
      ·rw[up1_other _ _ e3]
       exact hok i (by omega)
    ·rw[up1_other _ _ e2]
     have h5:=hG.t q hq
     refine⟨?_,h5.wf,Nat.le_trans h5.m (Nat.le_add_right _ _)⟩
     rcases h5.way with h6|⟨i,a1,a2,a3,a4,a5⟩
     ·exact .inl h6
     ·exact .inr ⟨i,a1,Nat.lt_of_lt_of_le a2 g2,by rw[a3];exact(hnf i a2).symm,a4,a5⟩
   ·obtain⟨a1,a2,a3,a4,a5,a6⟩:=hG.si q hq
    refine⟨a1,a2,a3,a4,a5,?_⟩
    rcases a6 with a6|⟨b1,b2,b3,b4⟩
    ·exact .inl a6
    ·have hlt:(s.S q).shape.toNat<s.nf:=by omega
     refine .inr ⟨b1,by show(s.S q).shape<((growN s.nf s.F j k.str:Nat):Int);omega,b3,?_⟩
     show plcI (growF s.nf s.F j k.str) (s.S q).shape.toNat (s.S q).key=(s.S q).place
     rw[plcI_congr q2 q3 g3 hlt]
     exact b4
 ·rw[h]
  rcases hx.way with⟨e,_⟩|⟨j,e,hj,hnv,hb,hok⟩
  ·omega
  ·have ej:(s.T t).shape.toNat=j:=by omega
   have hL:=loose_log hG.f hj (W:=(s.T t).V) (fun q hq=>(hok q (by omega)).1) (s.T t).nv (by omega)
   have hwl:∀i,i<=(s.T t).nv->WfD (looseD s.F j (s.T t).V i):=fun i=>by
    induction i with
    |zero=>exact fun _ q hq=>absurd hq (Nat.not_lt_zero _)
    |succ i ih=>exact fun hi=>(ih (by omega)).put (ky_str (fld_size hG.f hj (show i<nf s.F j by omega))).2 (hok i (by omega)).2
   refine setT_good hG' ⟨.inl ⟨rfl,rfl,?_⟩,?_,?_⟩
   ·show Inv Ky hN (putD hN (looseD s.F (s.T t).shape.toNat (s.T t).V (s.T t).nv) k v)
    rw[ej]
    exact putD_inv keyLaw hL.ls.inv hk hk.1 hv
   ·show WfD (putD hN (looseD s.F (s.T t).shape.toNat (s.T t).V (s.T t).nv) k v)
    rw[ej]
    exact(hwl _ (Nat.le_refl _)).put hk.2 hw
   ·show(putD hN (looseD s.F (s.T t).shape.toNat (s.T t).V (s.T t).nv) k v).m<=_
    rw[ej]
    have:=putD_m (v:=v) keyLaw hL.ls.inv hk
    rw[hL.m]at this
    omega
 ·rw[h]
  rcases hx.way with⟨e,e2,hI⟩|⟨j,e,_⟩
  ·refine setT_good hG' ⟨.inl ⟨rfl,rfl,putD_inv keyLaw hI hk hk.1 hv⟩,hx.wf.put hk.2 hw,?_⟩
   have:=putD_m (v:=v) keyLaw hI hk
   have:=hx.m
   show(putD hN (s.T t).d k v).m<=_
   omega
  ·omega
 ·rw[h];exact hG'
theorem tb0_good(hG:SGm M s):TGm M s tb0:=by
 obtain⟨h1,h2,_⟩:=forestOk_zero hG.f
 refine⟨.inr ⟨0,rfl,by have:=h1.1;omega,?_,⟨rfl,rfl,rfl,rfl,rfl,rfl⟩,fun i hi=>absurd hi (Nat.not_lt_zero _)⟩,fun q hq=>absurd hq (Nat.not_lt_zero _),Nat.zero_le _⟩
 show 0=(s.F 0).count.toNat
 rw[h2.2.2]
 rfl
theorem ky_kval{v:Vl}(hw:Wf v)(h:kcode v=0):Ky (kval v):=by
 obtain⟨c,kv,h1,h2⟩:=keyedK v hw
 rw[keyV_parts]at h1
 have e:kcode v=c/\(kval v).kind=kv.kind/\(kval v).num=kv.num/\(kval v).flt=kv.flt/\(kval v).str=kv.str/\(kval v).ref=kv.ref:=by
  simp[KV]at h1
  exact h1
 obtain⟨e0,e1,e2,e3,e4,e5⟩:=e
 have e6:kval v=kv:=by
  generalize kval v=x at*
  cases x;cases kv
  simp only at e1 e2 e3 e4 e5
  subst e1 e2 e3 e4 e5
  rfl
 rw[e6]
 exact h2 (by omega)
theorem step_good(hG:SGm M s)(a:Ac)(hwk:Wf a.k)(hwv:Wf a.v):SGm (M+4002) (stepS s a):=by
 have hG':=hG.mono (Nat.le_add_right M 4002)
 unfold stepS
 split
 ·rename_i hc
  obtain⟨c1,c2,c3,c4⟩:=chk_ok hc
  obtain⟨r1,r2,r6,r7,r5,_,_⟩:=actB_rng c1
  unfold stepC
  split
  ·split
   ·exact hG'
   ·rename_i h1 h2
    refine⟨hG.f,by show s.nt+1<=100;have:=hG.nt;omega,hG.ns,fun i hi=>?_,hG.si⟩
    show TGm _ _ (up1 s.T s.nt tb0 i)
    have hi:i<s.nt+1:=hi
    by_cases e:i=s.nt
    ·rw[e,up1_self]
     have:=tb0_good hG'
     exact⟨this.way,this.wf,this.m⟩
    ·rw[up1_other _ _ e]
     have:=hG'.t i (by omega)
     exact⟨this.way,this.wf,this.m⟩
  ·split
   ·split
    ·exact hG'
    ·rename_i h1 h7 h2
     have hk4:=actB_site c1 h7
     refine⟨hG.f,hG.nt,by show s.ns+1<=50;have:=hG.ns;omega,fun i hi=>(hG'.t i hi).mapS,fun i hi=>?_⟩
     show okS _ (up1 s.S s.ns _ i)
     have hi:i<s.ns+1:=hi
     by_cases e:i=s.ns
     ·rw[e,up1_self]
      exact⟨str_le r6 hk4,Int.le_refl _,Int.le_refl _,by show(0:Int)<=1000000000000;decide,by show(0:Int)<=1000000000000;decide,.inl ⟨rfl,rfl⟩⟩
     ·rw[up1_other _ _ e]
      exact hG.si i (by omega)
   ·split
    ·rename_i h1 h7 h2
     have ht:=c2 (by simp[tabB,h2])
     exact putS_good hG (by omega) (ky_kval hwk (c4 (.inl h2))) r7 hwv
    ·split
     ·rename_i h1 h7 h2 h8
      have ht:=c2 (by simp[tabB,h8])
      have hs:=c3 (by simp[sitB,h8])
      exact find_good hG' (by omega) (by omega)
     ·split
      ·rename_i h1 h7 h2 h8 h9
       have ht:=c2 (by simp[tabB,h9])
       have hs:=c3 (by simp[sitB,h9])
       have hi:a.site.toNat<s.ns:=by omega
       have htn:a.t.toNat<s.nt:=by omega
       have hF:=find_good hG hi htn
       split
       ·rename_i h10
        obtain⟨j,q,e1,e2,e3,e4,e5⟩:=findI_rng hG hi htn h10.1
        refine setT_good (hF.mono (Nat.le_add_right M 4002)) ?_
        have hx:=hG'.t a.t.toNat htn
        rcases hx.way with⟨e,_⟩|⟨j',e,hj,hnv,hb,hok⟩
        ·omega
        ·refine⟨.inr ⟨j',e,hj,hnv,hb,fun i hi=>?_⟩,hx.wf,hx.m⟩
         show okV (up1 (s.T a.t.toNat).V _ a.v i)=true/\Wf (up1 (s.T a.t.toNat).V _ a.v i)
         by_cases e6:i=(findI s a.site.toNat a.t.toNat).toNat
         ·rw[e6,up1_self]
          exact⟨by simp[okV,r7,h10.2],hwv⟩
         ·rw[up1_other _ _ e6]
          exact hok i hi
       ·exact putS_good hF htn (ky_str (hG.si _ hi).1) r7 hwv
      ·exact hG'
 ·exact hG'
end
end
section
open Go.RowKit
attribute [local go_sem] run_store_float run_equalIn_float run_store_func fd_key1
def Deed(Z:Nat->Prop)(c B0:Nat)(vN vT vS:Value)(s':Sto)(x0:An)(w:World)(e:Ending)(w':World):Prop:=
 ∃x cd vN' vT' vS' vU',e=.returned (.tuple #[AnV x,errV cd])/\Dst (OwnW B0 c vN vT vS w) w (OwnW B0 c vN' vT' vS' w') w'/\
  ((cd=0/\x=x0/\∃Bk' A',WkM Z w' c B0 vN' vT' vS' vU' Bk' A' s')\/(cd≠0/\x0=ansC cd/\Undn Z w' c B0 vN' vT' vS' vU' s'))
section
variable {Z:Nat->Prop} {w w2 w3 w4:World} {c B0:Nat} {vN vT vS vU:Value} {Bk:Nat->Nat} {A:Nat->Ad} {s:Sto} {t:Nat} {k v:Vl} {e:Ending}
theorem WrP.deed{rb z1:Nat}(hd0:Dst (OwnW B0 c vN vT vS w) w (OwnW B0 c vN vT vS w2) w2)(h:WrP (ZB Z w.heap.size z1) c B0 vN vT vS s t k v w2 e w3)(hcw:B0<=w.heap.size)(hwb:w.heap.size<=rb)(hz:rb<z1)(hr:RBx w3 rb)(hst:Stored w3 w4 rb (anL (ansC 0)).toArray 45):Deed Z c B0 vN vT vS (putS s t k v) (ansC (putC s t k v)) w (.returned (.tuple #[AnV (ansC 0),errV (putC s t k v)])) w4:=by
 obtain⟨vN',vT',vS',vU',_,hd,h⟩:=h
 rcases h with⟨e1,Bk',A',m3⟩|⟨e1,u3⟩
 ·obtain⟨f1,f2⟩:=m3.finA (hd0.trans hd) hcw hwb hz hr hst
  exact⟨ansC 0,_,vN',vT',vS',vU',rfl,f2,.inl ⟨e1,by rw[e1],Bk',A',f1⟩⟩
 ·obtain⟨f1,f2⟩:=u3.finA (hd0.trans hd) hcw hwb hz hr hst
  exact⟨ansC 0,_,vN',vT',vS',vU',rfl,f2,.inr ⟨e1,rfl,f1⟩⟩
end
def HeldPt(ab:Nat)(t:Int)(k v:Vl)(W:World):Prop:=W.cell? ⟨ab,1,none⟩=some (.int .i64 t)/\W.cell? ⟨ab,4,none⟩=some (.int .i64 k.kind)/\W.cell? ⟨ab,5,none⟩=some (.int .i64 k.num)/\W.cell? ⟨ab,6,none⟩=some (.float .f64 k.flt)/\W.cell? ⟨ab,7,none⟩=some (.string k.str)/\W.cell? ⟨ab,8,none⟩=some (.int .i64 k.ref)/\W.cell? ⟨ab,9,none⟩=some (.int .i64 v.kind)/\W.cell? ⟨ab,10,none⟩=some (.int .i64 v.num)/\W.cell? ⟨ab,11,none⟩=some (.float .f64 v.flt)/\W.cell? ⟨ab,12,none⟩=some (.string v.str)/\W.cell? ⟨ab,13,none⟩=some (.int .i64 v.ref)
theorem HeldPt.keep{ab:Nat}{t:Int}{k v:Vl}{W W':World}(h:HeldPt ab t k v W)(h1:W'.heap[ab]?=W.heap[ab]?):HeldPt ab t k v W':=by
 have e:∀q,W'.cell? ⟨ab,q,none⟩=W.cell? ⟨ab,q,none⟩:=fun q=>World.cell?_of_block (a:=⟨ab,q,none⟩) h1
 obtain⟨a0,a1,a2,a3,a4,a5,a6,a7,a8,a9,a10⟩:=h
 exact⟨(e _).trans a0,(e _).trans a1,(e _).trans a2,(e _).trans a3,(e _).trans a4,(e _).trans a5,(e _).trans a6,(e _).trans a7,(e _).trans a8,(e _).trans a9,(e _).trans a10⟩
theorem wPut_any(Z:Nat->Prop)(c B0:Nat)(vN vT vS:Value)(Bk:Nat->Nat)(A:Nat->Ad)(s:Sto)(a:Ac)(t:Nat)(w:World)(hM:WkM Z w c B0 vN vT vS (.slice none 0 0) Bk A s)(hG:SGd s)(hT:Tabs w)(et:a.t=t)(ht:t<s.nt)(hk:Ky (kval a.k))(hv:a.v.ok=true)(hRR:RareC (kval a.k) a.v)(hB0:5<=B0):
  Calls Tryz.prog 142 #[.pointer (some ⟨c,0,none⟩),AcV a] w fun e w'=>Deed Z c B0 vN vT vS (putS s t (kval a.k) a.v) (ansC (putC s t (kval a.k) a.v)) w e w':=by
 obtain⟨W,hW,hb0,hA,hR,hz⟩:=boxes w a
 have hcl:=hM.lt
 have hbase:=hM.base
 obtain⟨hE,hDE⟩:=hM.enter hb0
 have hS0:HeldPt w.heap.size (t:Int) a.k a.v W.drew:=by
  obtain⟨a0,a1,a2,a3,a4,a5,a6,a7,a8,a9,a10,a11,a12,a13⟩:=hA.all
  rw[et]at a1
  exact⟨a1,a4,a5,a6,a7,a8,a9,a10,a11,a12,a13⟩
 obtain⟨kv,hkv⟩:∃kv,kv=kval a.k:=⟨_,rfl⟩
 have HWR:Hid (∀w2,Below W.heap.size W w2->Calls Tryz.prog 203 #[.pointer (some ⟨c,0,none⟩),.int .i64 (t:Int),VVa kv,VVa a.v] w2 fun e w3=>e=.returned (errV (putC s t kv a.v))/\w3.heap[w.heap.size]?=w2.heap[w.heap.size]?/\RBx w3 (w.heap.size+1)/\∀w4,Stored w3 w4 (w.heap.size+1) (anL (ansC 0)).toArray 45->Deed Z c B0 vN vT vS (putS s t kv a.v) (ansC (putC s t kv a.v)) w (.returned (.tuple #[AnV (ansC 0),errV (putC s t kv a.v)])) w4):=uy (fun w2 h2=>by
  obtain⟨m2,d2⟩:=hE.below h2
  refine(wWrite_any _ c B0 vN vT vS Bk A s t kv a.v w2 m2 hG ht (lastsT _ _ hT (hb0.trans (h2.mono (by omega)))) (by rw[hkv];exact hk) hv (by rw[hkv];exact hRR) hB0).mono ?_
  intro e w3 hP
  obtain⟨vN',vT',vS',vU',he,hd,_⟩:=id hP
  have hA2:w2.heap[w.heap.size]?=some (.cells (ActBx a) 51 (0,0)):=(h2.block _ (by omega)).trans hA
  have hR2:w2.heap[w.heap.size+1]?=some (.cells An0 45 (0,0)):=(h2.block _ (by omega)).trans hR
  have hr3:RBx w3 (w.heap.size+1):=(hd.boxes m2 hR2 (.inr (.inr (.inl rfl)))).trans hR2
  exact⟨he,hd.boxes m2 hA2 (.inr (.inr (.inr rfl))),hr3,fun w4 h4=>WrP.deed (hDE.trans d2) hP hbase (by omega) (by omega) hr3 h4⟩)
 have HKV:=uy hkv
 rw[<-hkv]
 have lW:w.heap.size<W.heap.size:=by omega
 clear hM hG hT et hk hv hE hDE hA hR hb0 hkv
 go_enter Tryz.func142,Tryz.ntmps142
 go_wp2_with fail
 rw[<-hW]
 clear hW
 refine wpN_held (HeldPt w.heap.size (t:Int) a.k a.v) (by kernel_rfl) ?_
 change wpAnyH _ _ _ _ _ _ _ _ (World.drew _)
 refine tq 0 (v:=?_) ?_ ?_;rotate_left;intro w' ⟨s0,s1,s2,s3,s4,s5,s6,s7,s8,s9,s10⟩;go_simp;try with_reducible rfl
 simp only[Act.put,sA,sB,sC]
 refine tq 1 (v:=?_) ?_ ?_;rotate_left;intro w' ⟨s0,s1,s2,s3,s4,s5,s6,s7,s8,s9,s10⟩;go_simp;try with_reducible rfl
 simp only[Act.put,sA,sB,sC]
 refine tq 2 (v:=?_) ?_ ?_;rotate_left;intro w' ⟨s0,s1,s2,s3,s4,s5,s6,s7,s8,s9,s10⟩;go_simp;try with_reducible rfl
 simp only[Act.put,sA,sB,sC]
 refine tq 3 (v:=?_) ?_ ?_;rotate_left;intro w' ⟨s0,s1,s2,s3,s4,s5,s6,s7,s8,s9,s10⟩;go_simp;try with_reducible rfl
 simp only[Act.put,sA,sB,sC]
 refine tq 4 (v:=?_) ?_ ?_;rotate_left;intro w' ⟨s0,s1,s2,s3,s4,s5,s6,s7,s8,s9,s10⟩;go_simp;try with_reducible rfl
 simp only[Act.put,sA,sB,sC]
 refine tq 5 (v:=?_) ?_ ?_;rotate_left;intro w' ⟨s0,s1,s2,s3,s4,s5,s6,s7,s8,s9,s10⟩;go_simp;try with_reducible rfl
 simp only[Act.put,sA,sB,sC]
 refine tq 8 (v:=?_) ?_ ?_;rotate_left;intro w' ⟨s0,s1,s2,s3,s4,s5,s6,s7,s8,s9,s10⟩;go_simp;try with_reducible rfl
 simp only[Act.put,sA,sB,sC]
 refine tq 9 (v:=?_) ?_ ?_;rotate_left;intro w' ⟨s0,s1,s2,s3,s4,s5,s6,s7,s8,s9,s10⟩;go_simp;try with_reducible rfl
 simp only[Act.put,sA,sB,sC]
 refine wpAnyH_ready (rs:=[6]) (by kernel_rfl) (by simp) ?_
 refine AllReadyH.cons rfl (fun K hK=>?_) AllReadyH.nil
 go_simp
 refine(ikey_any a.k.kind a.k.num a.k.flt a.k.str a.k.ref _).mono ?_
 rintro e w2 ⟨rfl,hb2⟩
 have hb2:Below W.heap.size W w2:=Below.trans (Below.refl _ _).drew hb2
 have hS2:=hS0.keep (W':=w2) (hb2.block _ lW)
 rw[keyV_parts,<-uh HKV]
 obtain⟨kc,hkc⟩:∃kc,kc=kcode a.k:=⟨_,rfl⟩
 rw[<-hkc]
 clear hkc
 have HX2:=uy hb2
 refine hK.out _ _ hS2 (fun _=>?_)
 clear hK K hS0 hb2
 refine tq 7 (v:=?_) ?_ ?_;rotate_left;intro w' ⟨s0,s1,s2,s3,s4,s5,s6,s7,s8,s9,s10⟩;go_simp;try with_reducible rfl
 (try simp only[Act.put]);(try simp only[List.setIfInBounds_toArray]);(try simp only[List.set_cons_succ]);try simp only[List.set_cons_zero]
 refine wpAnyH_ready (rs:=[10]) (by kernel_rfl) (by simp) ?_
 refine AllReadyH.cons rfl (fun K hK=>?_) AllReadyH.nil
 go_simp
 refine(uh HWR _ (uh HX2)).mono ?_
 rintro e w3 ⟨rfl,hab,hr3,hfin⟩
 have hS3:=hS2.keep (W':=w3) hab
 obtain⟨cd,hcd⟩:∃cd,cd=putC s t kv a.v:=⟨_,rfl⟩
 rw[<-hcd]at hfin ⊢
 have HCD:=uy hcd
 obtain⟨w4,hst4,hS4⟩:=st_ansW hr3 (ansC 0)
 have HFN:=uy (hfin w4 hS4)
 have hS5':=hS3.keep (W':=w4) (hS4.other _ (by omega))
 have HST:=uy hst4
 have HS4:=uy hS4
 refine hK.out _ _ hS3 (fun _=>?_)
 clear hK K hS2 hab hr3 hfin hst4 hS4 hcd
 refine wpAnyH_ready (rs:=[11]) (by kernel_rfl) (by simp) ?_
 refine AllReadyH.cons rfl (fun K hK=>?_) AllReadyH.nil
 refine step_store rfl rfl _ (uh HST) ?_
 refine hK.out _ _ hS5' (fun _=>?_)
 clear hK K
 refine tq 12 (v:=?_) ?_ ?_;rotate_left;intro w' ⟨s0,s1,s2,s3,s4,s5,s6,s7,s8,s9,s10⟩;go_simp;try with_reducible rfl
 (try simp only[Act.put]);(try simp only[List.setIfInBounds_toArray]);(try simp only[List.set_cons_succ]);try simp only[List.set_cons_zero]
 refine wpAnyH_done (by kernel_rfl) ?_ _
 refine QN.normal ?_
 obtain⟨r0,r1,r2,r3,r4,r5,r6,r7,r8,r9,r10,r11⟩:=An.read (uh HS4).blk
 go_wp2_with fail
 refine bodyPost_ret (v:=.tuple #[AnV (ansC 0),errV cd]) (by simp[results,Tryz.results142,go_sem,r0,r1,r2,r3,r4,r5,r6,r7,r8,r9,r10,r11]) rfl ?_
 have h:=uh HFN
 rw[uh HCD]at h ⊢
 exact h
end
end Go.Proofs.YtgmlkfgfjjggnaaGreatDoor
