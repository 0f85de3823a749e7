import Derived.Test.YtgmlkfgfjjggnaaGreatDoorSAA
import Derived.Test.YtgmlkfgfjjggnaaGreatDoorSAB
import Derived.Test.YtgmlkfgfjjggnaaGreatDoorSAC
import Derived.Test.YtgmlkfgfjjggnaaGreatDoorSAD
import Derived.Test.YtgmlkfgfjjggnaaGreatDoorSAE
import Derived.Test.YtgmlkfgfjjggnaaGreatDoorSAF
import Derived.Test.YtgmlkfgfjjggnaaGreatDoorSAG
import Derived.Test.YtgmlkfgfjjggnaaGreatDoorSAH
import Derived.Test.YtgmlkfgfjjggnaaGreatDoorSAI
import Derived.Test.YtgmlkfgfjjggnaaGreatDoorSAJ
import Derived.Test.YtgmlkfgfjjggnaaGreatDoorSAK
import Derived.Test.YtgmlkfgfjjggnaaGreatDoorSAL
import Derived.Test.YtgmlkfgfjjggnaaGreatDoorSAM
import Derived.Test.YtgmlkfgfjjggnaaGreatDoorSAN
import Derived.Test.YtgmlkfgfjjggnaaGreatDoorSAO
import Derived.Test.YtgmlkfgfjjggnaaGreatDoorSAP
import Derived.Test.YtgmlkfgfjjggnaaGreatDoorSAQ
import Derived.Test.YtgmlkfgfjjggnaaGreatDoorSAR
import Derived.Test.YtgmlkfgfjjggnaaGreatDoorSAS
import Derived.Test.YtgmlkfgfjjggnaaGreatDoorSAT
import Derived.Test.YtgmlkfgfjjggnaaGreatDoorSAU
import Derived.Test.YtgmlkfgfjjggnaaGreatDoorSAV
import Derived.Test.YtgmlkfgfjjggnaaGreatDoorSAW
import Derived.Test.YtgmlkfgfjjggnaaGreatDoorSAX
import Derived.Test.YtgmlkfgfjjggnaaGreatDoorSAY
import Derived.Test.YtgmlkfgfjjggnaaGreatDoorSAZ
import Derived.Test.YtgmlkfgfjjggnaaGreatDoorSBA
import Derived.Test.YtgmlkfgfjjggnaaGreatDoorSBB
import Derived.Test.YtgmlkfgfjjggnaaGreatDoorSBC
import Derived.Test.YtgmlkfgfjjggnaaGreatDoorSBD
import Derived.Test.YtgmlkfgfjjggnaaGreatDoorSBE
import Derived.Test.YtgmlkfgfjjggnaaGreatDoorSBF
import Derived.Test.YtgmlkfgfjjggnaaGreatDoorSBG
import Derived.Test.YtgmlkfgfjjggnaaGreatDoorSBH
import Derived.Test.YtgmlkfgfjjggnaaGreatDoorSBI
import Derived.Test.YtgmlkfgfjjggnaaGreatDoorSBJ
import Derived.Test.YtgmlkfgfjjggnaaGreatDoorSBK
import Derived.Test.YtgmlkfgfjjggnaaGreatDoorSBL
import Derived.Test.YtgmlkfgfjjggnaaGreatDoorSHA
set_option linter.unusedVariables false
set_option linter.unusedSimpArgs false
set_option maxHeartbeats 40000000
set_option maxRecDepth 100000
namespace Go.Proofs.YtgmlkfgfjjggnaaGreatDoor
section
open Go.RowKit
structure Chn (F:Nat->Shp) (r:Nat->Nat) (g:Nat->ByteArray) (c:Nat):Prop where
 r0:r 0=0
 c0:(F 0).count=0
 pos:∀d,d<c->0<r (d+1)
 par:∀d,d<c->(F (r (d+1))).parent=r d
 key:∀d,d<c->(F (r (d+1))).key=g d
 cnt:∀d,d<c->(F (r (d+1))).count=d+1
section
variable {F:Nat->Shp} {r:Nat->Nat} {g:Nat->ByteArray} {c:Nat}
theorem Chn.count(h:Chn F r g c):∀{d},d<=c->(F (r d)).count=d
 |0,_=>by rw[h.r0];exact h.c0
 |d+1,hd=>h.cnt d hd
theorem Chn.nf(h:Chn F r g c){d:Nat}(hd:d<=c):nf F (r d)=d:=by unfold Proofs.YtgmlkfgfjjggnaaGreatDoor.nf;rw[h.count hd];omega
theorem Chn.none(h:Chn F r g c){key:ByteArray}:∀d,d<=c->(∀e,e<d->(g e).toList≠key.toList)->Plc F (r d) key (-1)
 |0,_,_=>by rw[h.r0];exact plc_root' _ _
 |d+1,hd,hk=>by
  refine plc_up (h.pos d hd) (by rw[h.key d hd];exact hk d (by omega)) ?_
  rw[h.par d hd,Int.toNat_natCast]
  exact h.none d (by omega) (fun e he=>hk e (by omega))
theorem Chn.anc(h:Chn F r g c):∀t d,d+t<=c->anc F (r (d+t)) t=r d
 |0,d,_=>rfl
 |t+1,d,hd=>by
  rw[show d+(t+1)=(d+t)+1 by omega,anc_up,h.par (d+t) (by omega),Int.toNat_natCast]
  exact h.anc t d (by omega)
theorem Chn.fld(h:Chn F r g c){d j:Nat}(hd:d<=c)(hj:j<d):fld F (r d) j=g j:=by
 unfold Proofs.YtgmlkfgfjjggnaaGreatDoor.fld
 rw[h.nf hd]
 have e:=h.anc (d-1-j) (j+1) (by omega)
 rw[show j+1+(d-1-j)=d by omega]at e
 rw[e,h.key j (by omega)]
end
def rrN(N0:Nat):Nat->Nat
 |0=>0
 |d+1=>N0+d
def newF(F0:Nat->Shp)(N0:Nat)(g:Nat->ByteArray):Nat->Nat->Shp
 |0=>F0
 |d+1=>grown (newF F0 N0 g d) (N0+d) (rrN N0 d) (g d)
section
variable {F0:Nat->Shp} {N0:Nat} {g:Nat->ByteArray}
theorem newF_old:∀d {j},j<N0->newF F0 N0 g d j=F0 j
 |0,j,h=>rfl
 |d+1,j,h=>by
  show grown _ _ _ _ _=_
  unfold grown
  rw[if_neg (by omega)]
  exact newF_old d h
theorem newF_new(hN:0<N0)(h0:(F0 0).count=0):∀d {e},e<d->newF F0 N0 g d (N0+e)=⟨rrN N0 e,g e,(e:Int)+1⟩
 |d+1,e,h=>by
  show grown _ _ _ _ _=_
  unfold grown
  by_cases he:e=d
  ·subst he
   rw[if_pos rfl]
   cases e with
   |zero=>show(⟨_,_,(newF F0 N0 g 0 0).count+1⟩:Shp)=_;rw[newF_old 0 hN,h0];rfl
   |succ e=>show(⟨_,_,(newF F0 N0 g (e+1) (N0+e)).count+1⟩:Shp)=_;rw[newF_new hN h0 (e+1) (by omega)];rfl
  ·rw[if_neg (by omega)]
   exact newF_new hN h0 d (by omega)
theorem newF_chn(hN:0<N0)(h0:(F0 0).count=0)(d:Nat):Chn (newF F0 N0 g d) (rrN N0) g d:=
 ⟨rfl,by rw[newF_old d hN];exact h0,fun e _=>by show 0<N0+e;omega,fun e he=>by show(newF F0 N0 g d (N0+e)).parent=_;rw[newF_new hN h0 d he],fun e he=>by show(newF F0 N0 g d (N0+e)).key=_;rw[newF_new hN h0 d he],fun e he=>by show(newF F0 N0 g d (N0+e)).count=_;rw[newF_new hN h0 d he]⟩
theorem kid_no{n:Nat}{f:Nat->Shp}{i:Nat}{key:ByteArray}(h:∀j,0<j->j<n->(f j).parent=i->(f j).key.toList≠key.toList):kidI n f i key=-1:=by
 unfold kidI at1
 rcases atF_rng (fun j=>decide (0<j)&&(decide ((f j).parent=(i:Int))&&((f j).key.toList==key.toList))) n 0 with e|⟨j,h1,h2,h3,h4,h5⟩
 ·exact e
 ·simp only[Bool.and_eq_true,decide_eq_true_eq,beq_iff_eq]at h4
  exact absurd h4.2.2 (h j h4.1 (by omega) h4.2.1)
theorem kid_yes{n:Nat}{f:Nat->Shp}{i r:Nat}{key:ByteArray}(h0:0<r)(hr:r<n)(hp:(f r).parent=i)(hk:(f r).key.toList=key.toList)(h:∀j,0<j->j<r->(f j).parent=i->(f j).key.toList≠key.toList):kidI n f i key=r:=by
 unfold kidI at1
 have hpr:(fun j=>decide (0<j)&&(decide ((f j).parent=(i:Int))&&((f j).key.toList==key.toList))) r=true:=by simp[h0,hp,hk]
 rcases atF_rng (fun j=>decide (0<j)&&(decide ((f j).parent=(i:Int))&&((f j).key.toList==key.toList))) n 0 with e|⟨j,h1,h2,h3,h4,h5⟩
 ·have:=atF_none e r (Nat.zero_le _) (by omega)
  exact absurd (hpr.symm.trans this) (by decide)
 ·rw[h1]
  have h4':=h4
  simp only[Bool.and_eq_true,decide_eq_true_eq,beq_iff_eq]at h4'
  rcases Nat.lt_trichotomy j r with e|e|e
  ·exact absurd h4'.2.2 (h j h4'.1 e h4'.2.1)
  ·rw[e]
  ·have:=h5 r (Nat.zero_le _) e
   exact absurd (hpr.symm.trans this) (by decide)
theorem newF_kid(hN:0<N0)(h0:(F0 0).count=0)(hpar:∀j,0<j->j<N0->(F0 j).parent<N0)(hk0:∀j,0<j->j<N0->(F0 j).parent=0->(F0 j).key.toList≠(g 0).toList)(d:Nat):kidI (N0+d) (newF F0 N0 g d) (rrN N0 d) (g d)=-1:=by
 refine kid_no fun j hj hjn hp=>?_
 by_cases hjo:j<N0
 ·rw[newF_old d hjo]at hp ⊢
  cases d with
  |zero=>exact hk0 j hj hjo hp
  |succ d=>have:=hpar j hj hjo;rw[hp]at this;simp only[rrN]at this;omega
 ·obtain⟨e,rfl⟩:∃e,j=N0+e:=⟨j-N0,by omega⟩
  have hed:e<d:=by omega
  rw[newF_new hN h0 d hed]at hp
  exfalso
  cases d with
  |zero=>omega
  |succ d=>
   cases e with
   |zero=>simp[rrN]at hp;omega
   |succ e=>simp[rrN]at hp;omega
end
def fpA(t:Nat)(g:Nat->ByteArray):Nat->List Ac
 |0=>[]
 |d+1=>fpA t g d++[aPut t (strV (g d)) (intV d)]
theorem fpA_length(t:Nat)(g:Nat->ByteArray):∀d,(fpA t g d).length=d
 |0=>rfl
 |d+1=>by show(fpA t g d++_).length=_;rw[List.length_append,fpA_length t g d];rfl
section
variable {s:Sto} {t:Nat} {g:Nat->ByteArray} {c:Nat} (ht:t<s.nt) (hn:s.nt<=100) (hT:s.T t=tb0) (hg:∀d,d<c->(g d).size<=4000) (hne:∀d e,d<c->e<d->(g e).toList≠(g d).toList)
include ht hn hT hg hne in
theorem run_old{r:Nat->Nat}(hC:Chn s.F r g c)(hk:∀d,d<c->kidI s.nf s.F (r d) (g d)=r (d+1)):∀d,d<=c->∃T',runS s (fpA t g d)={s with T:=T'}/\(T' t).shape=r d/\∀u,u≠t->T' u=s.T u
 |0,_=>⟨s.T,rfl,by rw[hT,hC.r0];rfl,fun _ _=>rfl⟩
 |d+1,hd=>by
  obtain⟨T',e1,e2,e3⟩:=run_old hC hk d (by omega)
  show∃T'',runS s (fpA t g d++[aPut t (strV (g d)) (intV d)])=_/\_
  rw[runS_append,e1]
  show∃T'',stepS {s with T:=T'} (aPut t (strV (g d)) (intV d))=_/\_
  rw[step_put (s:={s with T:=T'}) ht hn (fstr_ok (hg d hd)) (fstr_kcode (hg d hd)) (fint_ok _),fstr_kval (hg d hd)]
  rw[put_old (s:={s with T:=T'}) (j:=r d) (r:=r (d+1)) e2 rfl (by show(2:Int)≠0;decide) (Plc.eq (hC.none d (by omega) (fun e he=>hne d e hd he))) (hk d hd)]
  refine⟨_,rfl,?_,fun u hu=>?_⟩
  ·show(up1 T' t _ t).shape=_
   rw[up1_self];rfl
  ·show up1 T' t _ u=_
   rw[up1_other _ _ hu];exact e3 u hu
include ht hn hT hg hne in
theorem run_new(hN:0<s.nf)(h0:(s.F 0).count=0)(hpar:∀j,0<j->j<s.nf->(s.F j).parent<s.nf)(hk0:∀j,0<j->j<s.nf->(s.F j).parent=0->(s.F j).key.toList≠(g 0).toList)(hc:c<=12)(hN2:s.nf+c<=200):∀d,d<=c->∃T',runS s (fpA t g d)={s with T:=T',nf:=s.nf+d,F:=newF s.F s.nf g d}/\(T' t).shape=rrN s.nf d/\∀u,u≠t->T' u=s.T u
 |0,_=>⟨s.T,rfl,by rw[hT];rfl,fun _ _=>rfl⟩
 |d+1,hd=>by
  obtain⟨T',e1,e2,e3⟩:=run_new hN h0 hpar hk0 hc hN2 d (by omega)
  show∃T'',runS s (fpA t g d++[aPut t (strV (g d)) (intV d)])=_/\_
  rw[runS_append,e1]
  have hC:=newF_chn (g:=g) hN h0 d
  show∃T'',stepS {s with T:=T',nf:=s.nf+d,F:=newF s.F s.nf g d} (aPut t (strV (g d)) (intV d))=_/\_
  rw[step_put (s:={s with T:=T',nf:=s.nf+d,F:=newF s.F s.nf g d}) ht hn (fstr_ok (hg d hd)) (fstr_kcode (hg d hd)) (fint_ok _),fstr_kval (hg d hd)]
  rw[put_new (s:={s with T:=T',nf:=s.nf+d,F:=newF s.F s.nf g d}) (j:=rrN s.nf d) e2 rfl (by show(2:Int)≠0;decide) (Plc.eq (hC.none d (Nat.le_refl _) (fun e he=>hne d e hd he))) (newF_kid hN h0 hpar hk0 d) (by
   show¬((newF s.F s.nf g d (rrN s.nf d)).count=12\/s.nf+d=200)
   rw[hC.count (Nat.le_refl _)];omega)]
  refine⟨_,rfl,?_,fun u hu=>?_⟩
  ·show(up1 T' t _ t).shape=_
   rw[up1_self];rfl
  ·show up1 T' t _ u=_
   rw[up1_other _ _ hu];exact e3 u hu
end
end
end Go.Proofs.YtgmlkfgfjjggnaaGreatDoor
