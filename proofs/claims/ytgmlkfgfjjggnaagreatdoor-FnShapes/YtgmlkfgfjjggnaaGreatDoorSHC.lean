import Derived.Test.YtgmlkfgfjjggnaaGreatDoorSAA
import Derived.Test.YtgmlkfgfjjggnaaGreatDoorSAB
import Derived.Test.YtgmlkfgfjjggnaaGreatDoorSAC
import Derived.Test.YtgmlkfgfjjggnaaGreatDoorSAD
import Derived.Test.YtgmlkfgfjjggnaaGreatDoorSAE
import Derived.Test.YtgmlkfgfjjggnaaGreatDoorSAF
import Derived.Test.YtgmlkfgfjjggnaaGreatDoorSAG
import Derived.Test.YtgmlkfgfjjggnaaGreatDoorSAH
import Derived.Test.YtgmlkfgfjjggnaaGreatDoorSAI
import Derived.Test.YtgmlkfgfjjggnaaGreatDoorSAJ
import Derived.Test.YtgmlkfgfjjggnaaGreatDoorSAK
import Derived.Test.YtgmlkfgfjjggnaaGreatDoorSAL
import Derived.Test.YtgmlkfgfjjggnaaGreatDoorSAM
import Derived.Test.YtgmlkfgfjjggnaaGreatDoorSAN
import Derived.Test.YtgmlkfgfjjggnaaGreatDoorSAO
import Derived.Test.YtgmlkfgfjjggnaaGreatDoorSAP
import Derived.Test.YtgmlkfgfjjggnaaGreatDoorSAQ
import Derived.Test.YtgmlkfgfjjggnaaGreatDoorSAR
import Derived.Test.YtgmlkfgfjjggnaaGreatDoorSAS
import Derived.Test.YtgmlkfgfjjggnaaGreatDoorSAT
import Derived.Test.YtgmlkfgfjjggnaaGreatDoorSAU
import Derived.Test.YtgmlkfgfjjggnaaGreatDoorSAV
import Derived.Test.YtgmlkfgfjjggnaaGreatDoorSAW
import Derived.Test.YtgmlkfgfjjggnaaGreatDoorSAX
import Derived.Test.YtgmlkfgfjjggnaaGreatDoorSAY
import Derived.Test.YtgmlkfgfjjggnaaGreatDoorSAZ
import Derived.Test.YtgmlkfgfjjggnaaGreatDoorSBA
import Derived.Test.YtgmlkfgfjjggnaaGreatDoorSBB
import Derived.Test.YtgmlkfgfjjggnaaGreatDoorSBC
import Derived.Test.YtgmlkfgfjjggnaaGreatDoorSBD
import Derived.Test.YtgmlkfgfjjggnaaGreatDoorSBE
import Derived.Test.YtgmlkfgfjjggnaaGreatDoorSBF
import Derived.Test.YtgmlkfgfjjggnaaGreatDoorSBG
import Derived.Test.YtgmlkfgfjjggnaaGreatDoorSBH
import Derived.Test.YtgmlkfgfjjggnaaGreatDoorSBI
import Derived.Test.YtgmlkfgfjjggnaaGreatDoorSBJ
import Derived.Test.YtgmlkfgfjjggnaaGreatDoorSBK
import Derived.Test.YtgmlkfgfjjggnaaGreatDoorSBL
import Derived.Test.YtgmlkfgfjjggnaaGreatDoorSHA
import Derived.Test.YtgmlkfgfjjggnaaGreatDoorSHB
set_option linter.unusedVariables false
set_option linter.unusedSimpArgs false
set_option maxHeartbeats 40000000
set_option maxRecDepth 100000
namespace Go.Proofs.YtgmlkfgfjjggnaaGreatDoor
section
open Go.RowKit
theorem wkS_apart{i j:Nat}(hi:i<2000)(hj:j<2000)(h:i≠j):(wkS i).toList≠(wkS j).toList:=by
 intro h1
 have h2:=toList_inj h1
 have h3:[UInt8.ofNat (97+i%26),UInt8.ofNat (97+i/26)]=[UInt8.ofNat (97+j%26),UInt8.ofNat (97+j/26)]:=h2
 injection h3 with e1 e2
 injection e2 with e2 _
 have e1:=congrArg UInt8.toNat e1
 have e2:=congrArg UInt8.toNat e2
 rw[UInt8.toNat_ofNat',UInt8.toNat_ofNat']at e1 e2
 omega
def gT(n m t:Nat)(i:Nat):ByteArray:=wkS (if t=n then m-1-i else i)
def shA(n m:Nat):Nat->List Ac
 |0=>[]
 |t+1=>(shA n m t++[aNew])++fpA t (gT n m t) m
theorem shA_length(n m:Nat):∀t,(shA n m t).length=t*(m+1)
 |0=>by simp[shA]
 |t+1=>by
  show((shA n m t++[aNew])++fpA t (gT n m t) m).length=_
  rw[List.length_append,List.length_append,shA_length n m t,fpA_length,Nat.succ_mul]
  simp;omega
theorem wf_fp(t:Nat){g:Nat->ByteArray}(hg:∀i,(g i).size<=4000):∀d,∀a∈fpA t g d,WfA a
 |0,a,h=>by cases h
 |d+1,a,h=>by
  rcases List.mem_append.1 (show a∈fpA t g d++[aPut t (strV (g d)) (intV d)]from h)with h|h
  ·exact wf_fp t hg d a h
  ·rw[List.mem_singleton.1 h]
   exact⟨wf_strV (hg d),wf_intV _,.inr (.inl ⟨rfl,show¬(2:Int)=0 by decide,put_str (hg d)⟩)⟩
theorem wf_sh(n m:Nat):∀t,∀a∈shA n m t,WfA a
 |0,a,h=>by cases h
 |t+1,a,h=>by
  rcases List.mem_append.1 (show a∈(shA n m t++[aNew])++fpA t (gT n m t) m from h)with h|h
  ·rcases List.mem_append.1 h with h|h
   ·exact wf_sh n m t a h
   ·rw[List.mem_singleton.1 h]
    exact⟨wf_nov,wf_nov,.inl rfl⟩
  ·exact wf_fp t (fun i=>wk_le _) m a h
section
variable {n m:Nat}
theorem gT_in{t:Nat}(h:t≠n):gT n m t=wkS:=by funext i;unfold gT;rw[if_neg h]
theorem gT_last:gT n m n=fun i=>wkS (m-1-i):=by funext i;unfold gT;rw[if_pos rfl]
theorem rr_one:∀d,rrN 1 d=d
 |0=>rfl
 |d+1=>by show 1+d=d+1;omega
abbrev FO(m:Nat):Nat->Shp:=newF f1 1 wkS m
theorem FO_chn:Chn (FO m) (fun d=>d) wkS m:=by
 have h:=newF_chn (F0:=f1) (N0:=1) (g:=wkS) (by decide) rfl m
 have e:rrN 1=fun d=>d:=funext rr_one
 rw[e]at h
 exact h
theorem FO_get{j:Nat}(h0:0<j)(hj:j<1+m):FO m j=⟨(j:Int)-1,wkS (j-1),j⟩:=by
 obtain⟨e,rfl⟩:∃e,j=1+e:=⟨j-1,by omega⟩
 rw[FO,newF_new (by decide) rfl m (by omega),rr_one,show 1+e-1=e by omega]
 congr 1<;>omega
theorem FO_kid(hm:m<=12){d:Nat}(hd:d<m):kidI (1+m) (FO m) d (wkS d)=((d+1:Nat):Int):=by
 refine kid_yes (by omega) (by omega) ?_ ?_ ?_
 ·rw[FO_get (by omega) (by omega)];show((d+1:Nat):Int)-1=d;omega
 ·rw[FO_get (by omega) (by omega)];rfl
 ·intro j hj hjd hp
  rw[FO_get hj (by omega)]at hp
  have:(j:Int)-1=d:=hp
  omega
def S1:Sto:=⟨1,f1,1,up1 (fun _=>tb0) 0 tb0,0,fun _=>default⟩
theorem sh_in(hn:n<=40)(hm:m<=12):∀t,t<n->∃T',runS E0 (shA n m (t+1))=⟨1+m,FO m,t+1,T',0,fun _=>default⟩/\∀u,u<t+1->(T' u).shape=m
 |0,h=>by
  show∃T',runS E0 (([]++[aNew])++fpA 0 (gT n m 0) m)=_/\_
  rw[gT_in (by omega),List.nil_append,runS_append]
  have e0:runS E0 [aNew]=S1:=step_new (show(0:Nat)≠100 by decide)
  obtain⟨T',e1,e2,e3⟩:=run_new (s:=S1) (t:=0) (g:=wkS) (c:=m) (show(0:Nat)<1 by decide) (show(1:Nat)<=100 by decide) (show up1 (fun _=>tb0) 0 tb0 0=tb0 from up1_self _ _ _) (fun d _=>wk_le d) (fun d e hd he=>wkS_apart (by omega) (by omega) (by omega)) (show(0:Nat)<1 by decide) rfl (fun j hj hj1=>absurd hj1 (show¬j<1 by omega)) (fun j hj hj1=>absurd hj1 (show¬j<1 by omega)) hm (show 1+m<=200 by omega) m (Nat.le_refl _)
  rw[e0,e1]
  refine⟨T',rfl,fun u hu=>?_⟩
  rw[show u=0 by omega,e2,show rrN S1.nf m=m from rr_one m]
 |t+1,h=>by
  obtain⟨T0,e0,e9⟩:=sh_in hn hm t (by omega)
  show∃T',runS E0 ((shA n m (t+1)++[aNew])++fpA (t+1) (gT n m (t+1)) m)=_/\_
  rw[gT_in (by omega),runS_append,runS_append,e0]
  have e5:runS ⟨1+m,FO m,t+1,T0,0,fun _=>default⟩ [aNew]=⟨1+m,FO m,t+1+1,up1 T0 (t+1) tb0,0,fun _=>default⟩:=step_new (s:=⟨1+m,FO m,t+1,T0,0,fun _=>default⟩) (show t+1≠100 by omega)
  rw[e5]
  obtain⟨T',e1,e2,e3⟩:=run_old (s:=⟨1+m,FO m,t+1+1,up1 T0 (t+1) tb0,0,fun _=>default⟩) (t:=t+1) (g:=wkS) (c:=m) (r:=fun d=>d) (show t+1<t+1+1 by omega) (show t+1+1<=100 by omega) (up1_self _ _ _) (fun d _=>wk_le d) (fun d e hd he=>wkS_apart (by omega) (by omega) (by omega)) FO_chn (fun d hd=>FO_kid hm hd) m (Nat.le_refl _)
  rw[e1]
  refine⟨T',rfl,fun u hu=>?_⟩
  by_cases hu1:u=t+1
  ·rw[hu1,e2]
  ·rw[e3 u hu1]
   show(up1 T0 (t+1) tb0 u).shape=_
   rw[up1_other _ _ hu1]
   exact e9 u (by omega)
theorem sh_end(hn:n<=40)(hn0:0<n)(hm:m<=12)(hm0:0<m):∃F T',runS E0 (shA n m (n+1))=⟨(if 1<m then 2*m+1 else m+1),F,n+1,T',0,fun _=>default⟩/\(∀u,u<n->(T' u).shape=m)/\(T' n).shape=((if 1<m then 2*m else m:Nat):Int)/\nf F (if 1<m then 2*m else m)=m/\∀j,j<m->fld F (if 1<m then 2*m else m) j=wkS (m-1-j):=by
 obtain⟨k,rfl⟩:∃k,n=k+1:=⟨n-1,by omega⟩
 obtain⟨T0,e0,e9⟩:=sh_in hn hm k (by omega)
 have e8:runS E0 (shA (k+1) m (k+1+1))=runS (runS ⟨1+m,FO m,k+1,T0,0,fun _=>default⟩ [aNew]) (fpA (k+1) (fun i=>wkS (m-1-i)) m):=by
  show runS E0 ((shA (k+1) m (k+1)++[aNew])++fpA (k+1) (gT (k+1) m (k+1)) m)=_
  rw[gT_last,runS_append,runS_append,e0]
 have e5:runS ⟨1+m,FO m,k+1,T0,0,fun _=>default⟩ [aNew]=⟨1+m,FO m,k+1+1,up1 T0 (k+1) tb0,0,fun _=>default⟩:=step_new (s:=⟨1+m,FO m,k+1,T0,0,fun _=>default⟩) (show k+1≠100 by omega)
 rw[e8,e5]
 by_cases h1:1<m
 ·simp only[if_pos h1]
  have hr:∀j,0<j->j<1+m->(FO m j).parent<((1+m:Nat):Int):=fun j hj hj1=>by rw[FO_get hj hj1];show(j:Int)-1<_;omega
  obtain⟨T',e1,e2,e3⟩:=run_new (s:=⟨1+m,FO m,k+1+1,up1 T0 (k+1) tb0,0,fun _=>default⟩) (t:=k+1) (g:=fun i=>wkS (m-1-i)) (c:=m) (show k+1<k+1+1 by omega) (show k+1+1<=100 by omega) (up1_self _ _ _) (fun d _=>wk_le _) (fun d e hd he=>wkS_apart (by omega) (by omega) (by omega)) (show 0<1+m by omega) (FO_chn (m:=m)).c0 hr (fun j hj hj1 hp=>by
    have hj1':j<1+m:=hj1
    show(FO m j).key.toList≠_
    have hp':(FO m j).parent=0:=hp
    rw[FO_get hj hj1']at hp' ⊢
    have:(j:Int)-1=0:=hp'
    exact wkS_apart (by omega) (by omega) (by omega)) hm (show 1+m+m<=200 by omega) m (Nat.le_refl _)
  rw[e1]
  have hC:=newF_chn (F0:=FO m) (N0:=1+m) (g:=fun i=>wkS (m-1-i)) (by omega) (FO_chn (m:=m)).c0 m
  have hrr:rrN (1+m) m=2*m:=by
   obtain⟨d,rfl⟩:∃d,m=d+1:=⟨m-1,by omega⟩
   show 1+(d+1)+d=_
   omega
  refine⟨newF (FO m) (1+m) (fun i=>wkS (m-1-i)) m,T',?_,fun u hu=>?_,?_,?_,fun j hj=>?_⟩
  ·show(⟨1+m+m,_,_,_,_,_⟩:Sto)=_
   rw[show 1+m+m=2*m+1 by omega]
  ·rw[e3 u (by omega)]
   show(up1 T0 (k+1) tb0 u).shape=_
   rw[up1_other _ _ (by omega)]
   exact e9 u hu
  ·rw[e2]
   show((rrN (1+m) m:Nat):Int)=_
   rw[hrr]
  ·have:=hC.nf (Nat.le_refl m);rwa [hrr]at this
  ·have:=hC.fld (Nat.le_refl m) hj;rwa [hrr]at this
 ·simp only[if_neg h1]
  obtain rfl:m=1:=by omega
  have eg:∀d,d<1->wkS (1-1-d)=wkS d:=fun d hd=>by rw[show d=0 by omega]
  have hC:Chn (FO 1) (fun d=>d) (fun i=>wkS (1-1-i)) 1:=⟨rfl,FO_chn.c0,FO_chn.pos,FO_chn.par,fun d hd=>by rw[FO_chn.key d hd];exact(eg d hd).symm,FO_chn.cnt⟩
  obtain⟨T',e1,e2,e3⟩:=run_old (s:=⟨1+1,FO 1,k+1+1,up1 T0 (k+1) tb0,0,fun _=>default⟩) (t:=k+1) (g:=fun i=>wkS (1-1-i)) (c:=1) (r:=fun d=>d) (show k+1<k+1+1 by omega) (show k+1+1<=100 by omega) (up1_self _ _ _) (fun d _=>wk_le _) (fun d e hd he=>by omega) hC (fun d hd=>by show kidI (1+1) (FO 1) d (wkS (1-1-d))=_;rw[eg d hd];exact FO_kid hm hd) 1 (Nat.le_refl _)
  rw[e1]
  refine⟨FO 1,T',rfl,fun u hu=>?_,e2,?_,fun j hj=>?_⟩
  ·rw[e3 u (by omega)]
   show(up1 T0 (k+1) tb0 u).shape=_
   rw[up1_other _ _ (by omega)]
   exact e9 u hu
  ·exact hC.nf (Nat.le_refl 1)
  ·exact hC.fld (Nat.le_refl 1) hj
theorem shapes_says(hn:n<=40)(hn0:0<n)(hm:m<=12)(hm0:0<m){N:Nat}(hN:N=(n+1)*(m+1)):∃F T',aftS E0 (acF (shA n m (n+1))) N=⟨(if 1<m then 2*m+1 else m+1),F,n+1,T',0,fun _=>default⟩/\(∀u,u<n->(T' u).shape=m)/\(T' n).shape=((if 1<m then 2*m else m:Nat):Int)/\nf F (if 1<m then 2*m else m)=m/\∀j,j<m->fld F (if 1<m then 2*m else m) j=wkS (m-1-j):=by
 have hl:(shA n m (n+1)).length=N:=by rw[shA_length,hN]
 rw[aftS_run _ _ _ (by omega),List.take_of_length_le (by omega)]
 exact sh_end hn hn0 hm hm0
end
end
end Go.Proofs.YtgmlkfgfjjggnaaGreatDoor
