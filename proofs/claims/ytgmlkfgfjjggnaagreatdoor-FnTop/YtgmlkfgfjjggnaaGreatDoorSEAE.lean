import Derived.Test.YtgmlkfgfjjggnaaGreatDoorSEAD
set_option linter.all false
set_option maxHeartbeats 40000000
set_option maxRecDepth 100000
namespace Go.Proofs.YtgmlkfgfjjggnaaGreatDoor
open Go.Proofs.Tryz
open Go.RowKit
attribute [local go_sem] AA Aw
theorem WH{x Z:Nat}(h:Nx x Z=true)(hx:x<18446744073709551616)(hy:Z<18446744073709551616)(F:x≠9223372036854775808)(H:Z≠9223372036854775808):x=Z:=by
 obtain⟨a,e,f,rfl,r,I,hf⟩:=Fl.fields x hx;obtain⟨b,g,q,rfl,hb,hg,hq⟩:=Fl.fields Z hy;rcases Fi h with⟨s,m,i,t,n,j,h1,h2,h3,h4,h5,B,C,D,e0⟩|⟨s,h1,h2⟩
 ·have o:e<2047:=by
   by_cases c:e=2047
   ·subst c;rw[Fl.BN a f r hf]at h1
    split at h1<;>cases h1
   ·omega
  have p:g<2047:=by
   by_cases c:g=2047
   ·subst c;rw[Fl.BN b q hb hq]at h2
    split at h2<;>cases h2
   ·omega
  rw[Fl.BM a e f r o hf]at h1;rw[Fl.BM b g q hb p hq]at h2;by_cases X:Fl.sc s m i=0
  ·have zero:∀(u:Bool) (k:Nat) (l:Int),Fl.sc u k l=0->k=0:=by
    intro u k l hz;unfold Fl.sc at hz;rw[Fl.Cv]at hz;have E:=Fl.Ep (l+1074).toNat;generalize (2:Int)^(l+1074).toNat=v at hz E;have w:(k:Int)*v=0:=by
     cases u
     ·simpa using hz
     ·simpa using hz
    rcases Int.mul_eq_zero.1 w with h|h<;>omega
   have m0:=zero _ _ _ X;have n0:=zero _ _ _ (e0▸X);injection h1 with _ p1 _
   injection h2 with _ p2 _
   rw[m0]at p1;rw[n0]at p2;by_cases c:e=0
   ·by_cases c':g=0
    ·rw[C3 c]at p1;rw[C3 c']at p2;omega
    ·rw[Cs c']at p2;omega
   ·rw[Cs c]at p1;omega
  ·obtain⟨u1,u2,u3⟩:=Qk h3 h4 h5 B C D e0 X;subst u1 u2 u3;rw[<-h2]at h1;injection h1 with A p1 p2
   have hab:a=b:=by
    rcases(show a=0\/a=1 by omega)with c|c<;>rcases(show b=0\/b=1 by omega)with c'|c'<;>subst c<;>subst c'<;>first|rfl|exact absurd A (by decide)
   by_cases c:e=0
   ·by_cases c':g=0
    ·rw[C3 c,C3 c']at p1;omega
    ·rw[C3 c,Cs c']at p1;omega
   ·by_cases c':g=0
    ·rw[Cs c,C3 c']at p1;omega
    ·rw[Cs c,Cs c']at p1 p2;omega
 ·have o:e=2047:=by
   by_cases c:e=2047
   ·exact c
   ·rw[Fl.BM a e f r (by omega) hf]at h1;cases h1
  have p:g=2047:=by
   by_cases c:g=2047
   ·exact c
   ·rw[Fl.BM b g q hb (by omega) hq]at h2;cases h2
  subst o p;rw[Fl.BN a f r hf]at h1;rw[Fl.BN b q hb hq]at h2;by_cases c:f=0
  ·by_cases c':q=0
   ·rw[C3 c]at h1;rw[C3 c',<-h1]at h2;injection h2 with A
    rcases(show a=0\/a=1 by omega)with d|d<;>rcases(show b=0\/b=1 by omega)with d'|d'<;>subst d<;>subst d'<;>first|omega|exact absurd A (by decide)
   ·rw[Cs c']at h2;cases h2
  ·rw[Cs c]at h1;cases h1
section
open Go.RowKit Go.Shelf
theorem SU(p:Pr)(w:Y):C9 91 #[PV p,PV p] w (R9 (.bool true) w):=by
 have d:B9 w ((w.alloc (.cells #[J p.key.kind,J p.key.num,F9 p.key.Ae,.string p.key.str,J p.key.ref,J p.val.kind,J p.val.num,F9 p.val.Ae,.string p.val.str,J p.val.ref,J p.turn] 96)).alloc (.cells #[J p.key.kind,J p.key.num,F9 p.key.Ae,.string p.key.str,J p.key.ref,J p.val.kind,J p.val.num,F9 p.val.Ae,.string p.val.str,J p.val.ref,J p.turn] 96)):=(n9).alloc (by simp) _;have e:=O d;clear d
 go_enter func91,ntmps91
 go_wp2_with fail
 refine m9 (IB _ _ _ _ _ _) fun w1 a=>?_
 obtain⟨c,g⟩:=AJ a;have rc:∀o,w1.cell? (y w o)=_:=fun o=>c _ _ (by simp;omega)
 have rd:∀o,w1.cell? (Y9 w o)=_:=fun o=>c _ _ (by simp)
 have f:=O (e.trans (a.mono e.size));have hz:w.heap.size+1<w1.heap.size:=Be (by simp) a.size;clear a c g;go_wp2_with fail
 refine m9 (IB _ _ _ _ _ _) fun w2 b=>?_
 have sc:∀o,w2.cell? (y w o)=_:=fun o=>(b.cell (p:=(y w o)) (by show w.heap.size<w1.heap.size;omega)).trans (rc o)
 have i:∀o,w2.cell? (Y9 w o)=_:=fun o=>(b.cell (p:=(Y9 w o)) hz).trans (rd o)
 have h:=O (f.trans (b.mono f.size));clear b rc rd;go_wp2;go_ret;exact⟨rfl,h⟩
theorem Rh(a a':T9)(n cap g:Nat)(f:Nat->Pr)(w:Y)(hA:O0 w a n f)(t:O0 w a' n f)(hn:n<=4194304):
  C9 39 #[.slice a n cap,.slice a' n g] w (R9 (.bool true) w):=by
 have v:=O hA;have x:=O t;clear hA t
 go_enter func39,ntmps39
 go_wp2;go_loopw [13] (fun i wr=>∃(k:Nat),k<=n/\i=J k/\B9 w wr) (fun i _=>n-(intOf i).toNat)
 case atStart=>exact⟨0,by omega,rfl,DD _ _⟩
 case round=>
  obtain⟨k,hk,rfl,hb⟩:=hrel;by_cases j:k<n
  ·obtain⟨b,off,rfl,l,hcs⟩:=v.resolve_left (by omega);obtain⟨b',u,rfl,c,d⟩:=x.resolve_left (by omega);obtain⟨e0,e1,e2,e3,A,B,C,D,E,F,r⟩:=(hcs k j).keep (fun q=>hb.cell (p:=(G b q)) l);obtain⟨d0,d1,d2,d3,d4,d5,d6,d7,d8,d9,d10⟩:=(d k j).keep (fun q=>hb.cell (p:=(G b' q)) c);have hx:b<wr.heap.size:=Be l hb.size;have H:b'<wr.heap.size:=Be c hb.size;have m:=O hb;clear hb hcs d;go_wp2_with fail
   refine qr wr ?_;refine N (h:=N (h:=N (h:=N (h:=N (h:=N (h:=N (h:=N (h:=?_))))))));refine GS (fun K hK=>?_);go_simp;refine⟨_,fun w' s=>qk s (SU (f k) _),hK _ ?_⟩;clear hK K;refine N (h:=?_);refine GO ?_;intro w2 o;have e:=O (m.trans (o.mono m.size));clear o e0 e1 e2 e3 A B C D E F r d0 d1 d2 d3 d4 d5 d6 d7 d8 d9 d10;go_wp2;go_roundw
   case rel=>exact⟨k+1,by omega,by go_num,e⟩
   case measure=>simp[intOf];omega
  ·have:k=n:=by omega
   subst this;have e:=O hb;clear hb;go_wp2;go_ret;exact⟨rfl,e⟩
end
theorem eY(c B:Nat)(vT vS:V9)(U:Nat->Value)(D:Ds)(a:Ac)(w:Y)(hD:AQ 158 w c B vT vS U D)(K:D.Good)(o:AY a=true)(j:a.op=2\/a.op=3)(h2:a.t<(D.nt:Int))(h4:Cj a.k≠0):Ee c B vT vS U D a w:=by
 have X:B7 a.op=true:=by rcases j with h|h<;>rw[h]<;>decide
 have Z:Cp a.op=false:=by rcases j with h|h<;>rw[h]<;>decide
 have p:Hid (D.I6 a=AO 4/\D.step a=D):=O (by simp[Ds.I6,Ds.step,FL,o,X,Z,h4,j,show¬(D.nt:Int)<=a.t by omega]);have e2:decide ((D.nt:Int)<=a.t)=false:=by simpa using h2
 obtain⟨L,n⟩:∃L,Cj a.k=L:=⟨_,rfl⟩;obtain⟨kv,F⟩:∃kv,Bw a.k=kv:=⟨_,rfl⟩;have e4:(L !=0)=true:=by rw[<-n];simpa using h4
 have ad:(L==0)=false:=by rw[<-n];simpa using h4
 have Q:=O n;have R:=O F;clear n F;have d23:((a.op==2)=true)\/((a.op==2)=false/\(a.op==3)=true):=by rcases j with h|h<;>simp[h]
 have S:=O d23;clear h2 h4 j d23;obtain⟨ta,tc,rfl⟩:=Ao hD.tb;obtain⟨sa,sc,rfl⟩:=Ao hD.st;have ae:=K.nt;have af:=K.ns;obtain⟨W,hW,q,hA,hR,hz⟩:=boxes w a;have HO:Hid (∀k,Bs c (.slice ta D.nt tc) (.slice sa D.ns sc) U D.nt k->k<w.heap.size):=O (fun k h=>(hD.Lc h).2);have ag:=hD.lt;have M:=O (hD.below q);have HB:=O q;have P:=O hA;have HQ:=O hR;have HG:=O K;clear hD q hA hR K
 go_enter func90,ntmps90
 go_wp2_with fail
 rw[<-hW];clear hW;refine(Ch a _).mono ?_;rw[o];rintro e w1 ⟨rfl,H⟩;have b:=O H;clear H;have s:=b.size;have u:w.heap.size<w1.heap.size:=by omega
 have r:w.heap.size+1<w1.heap.size:=by omega
 have x:c<w1.heap.size:=by omega
 obtain⟨a0,a1,a2,a3,a4,a5,A,C,E,a9,f,g,a12,i⟩:=(P.below b (by omega)).all;obtain⟨c0,c1⟩:=(M.below b).cells;go_wp2_with fail
 refine(BL a.op _).mono ?_;rw[X,Z];rintro e w2 ⟨rfl,ew⟩;rw[ew];clear ew w2;go_wp2_with fail
 refine qr w1 ?_;refine N (h:=N (h:=N (h:=N (h:=N (h:=N (h:=N (h:=N (h:=N (h:=N (h:=N (h:=?_)))))))))));refine GO ?_;intro w2 l;clear s u r x a0 a1 a2 a3 a4 a5 A C E a9 f g a12 i c0 c1;have b:=O (b.trans (l.mono b.size));clear l;have s:=b.size;have u:w.heap.size<w2.heap.size:=by omega
 have r:w.heap.size+1<w2.heap.size:=by omega
 have x:c<w2.heap.size:=by omega
 obtain⟨a0,a1,a2,a3,a4,a5,A,C,E,a9,f,g,a12,i⟩:=(P.below b (by omega)).all;obtain⟨c0,c1⟩:=(M.below b).cells;go_wp2_with fail
 refine qr w2 ?_;refine N (h:=N (h:=?_));iterate 8 (go_big_quiet_step (fail))
 refine N (h:=?_);refine GO ?_;intro w3 l;clear s u r x a0 a1 a2 a3 a4 a5 A C E a9 f g a12 i c0 c1;have b:=O (b.trans (l.mono b.size));clear l;have s:=b.size;have u:w.heap.size<w3.heap.size:=by omega
 have r:w.heap.size+1<w3.heap.size:=by omega
 have x:c<w3.heap.size:=by omega
 obtain⟨a0,a1,a2,a3,a4,a5,A,C,E,a9,f,g,a12,i⟩:=(P.below b (by omega)).all;obtain⟨c0,c1⟩:=(M.below b).cells;go_wp2_with fail
 refine(DM a.k.kind a.k.num a.k.Ae a.k.str a.k.ref _).mono ?_;rw[BI,z Q,z R];rintro e w4 ⟨rfl,I⟩;clear s u r x a0 a1 a2 a3 a4 a5 A C E a9 f g a12 i c0 c1;have b:=O (b.trans (I.mono b.size));clear I;have s:=b.size;have u:w.heap.size<w4.heap.size:=by omega
 have r:w.heap.size+1<w4.heap.size:=by omega
 have x:c<w4.heap.size:=by omega
 obtain⟨a0,a1,a2,a3,a4,a5,A,C,E,a9,f,g,a12,i⟩:=(P.below b (by omega)).all;obtain⟨r0,r1,r2,r3,r4,r5,r6,r7,r8,r9,T,V⟩:=(HQ.below b (by omega)).all;have fr:=(HQ.below b (by omega)).frozen;rcases z S with d2|⟨d2,d3⟩
 focus
  go_wp2_with fail
 rotate_left
 focus
  go_wp2_with fail
 rotate_left;all_goals
  refine DO (v:=DS (AO 4)) (by simp[results,results90,go_sem,r,r0,r1,r2,r3,r4,r5,r6,r7,r8,r9,T,V,AO,B5,CL]) rfl ?_;rw[(z p).1,(z p).2];obtain⟨m,d⟩:=Gf rfl (AO 4) HB HO (by omega) hz (M.below b) (BG.Ay b);exact⟨rfl,_,_,_,m.below (n9),d.below (n9)⟩
theorem Wu(c B:Nat)(vT vS:V9)(U:Nat->Value)(D:Ds)(a:Ac)(w:Y)(hD:AQ 158 w c B vT vS U D)(K:D.Good)(n:AY a=true)(b:a.op=1)(hf:D.nt=100):Ee c B vT vS U D a w:=by
 have hT:B7 a.op=false:=by rw[b];decide
 have hS:Cp a.op=false:=by rw[b];decide
 have o:Hid (D.I6 a=AO 5/\D.step a=D):=O (by
  have S:FL a D.nt D.ns=0:=by simp[FL,n,B7,Cp,b]
  rw[Ds.I6,Ds.step,C3 S,C3 S];simp[Ds.Hh,Ds.FB,b,hf])
 have e5:((D.nt:Int)==100)=true:=by simp;omega
 have d1:(a.op==1)=true:=by simp[b]
 have d2:(a.op==2)=false:=by simp[b]
 have d3:(a.op==3)=false:=by simp[b]
 have d7:(a.op==7)=false:=by simp[b]
 have d8:(a.op==8)=false:=by simp[b]
 have d9:(a.op==9)=false:=by simp[b]
 have ad:=O b;clear b;obtain⟨T,C⟩:∃T,Cj a.k=T:=⟨_,rfl⟩;obtain⟨V,E⟩:∃V,Bw a.k=V:=⟨_,rfl⟩;have M:=O C;have P:=O E;clear C E;clear hf;obtain⟨ta,tc,rfl⟩:=Ao hD.tb;obtain⟨sa,sc,rfl⟩:=Ao hD.st;have ae:=K.nt;have af:=K.ns;obtain⟨W,X,p,hA,Z,hz⟩:=boxes w a;have HO:Hid (∀k,Bs c (.slice ta D.nt tc) (.slice sa D.ns sc) U D.nt k->k<w.heap.size):=O (fun k h=>(hD.Lc h).2);have ag:=hD.lt;have F:=O (hD.below p);have HB:=O p;have L:=O hA;have HQ:=O Z;have HG:=O K;clear hD p hA Z K
 go_enter func90,ntmps90
 go_wp2_with fail
 rw[<-X];clear X;refine(Ch a _).mono ?_;rw[n];rintro e w1 ⟨rfl,H⟩;have f:=O H;clear H;have r:=f.size;have s:w.heap.size<w1.heap.size:=by omega
 have q:w.heap.size+1<w1.heap.size:=by omega
 have t:c<w1.heap.size:=by omega
 obtain⟨a0,a1,a2,a3,a4,a5,u,x,A,a9,g,i,a12,j⟩:=(L.below f (by omega)).all;obtain⟨c0,c1⟩:=(F.below f).cells;go_wp2_with fail
 refine(BL a.op _).mono ?_;rw[hT,hS];rintro e w2 ⟨rfl,ew⟩;rw[ew];clear ew w2;go_wp2_with fail
 refine qr w1 ?_;refine N (h:=N (h:=?_));iterate 8 (go_big_quiet_step (fail))
 refine N (h:=?_);refine GO ?_;intro w2 l;clear r s q t a0 a1 a2 a3 a4 a5 u x A a9 g i a12 j c0 c1;have f:=O (f.trans (l.mono f.size));clear l;have r:=f.size;have s:w.heap.size<w2.heap.size:=by omega
 have q:w.heap.size+1<w2.heap.size:=by omega
 have t:c<w2.heap.size:=by omega
 obtain⟨a0,a1,a2,a3,a4,a5,u,x,A,a9,g,i,a12,j⟩:=(L.below f (by omega)).all;obtain⟨c0,c1⟩:=(F.below f).cells;go_wp2_with fail
 refine qr w2 ?_;refine N (h:=N (h:=?_));iterate 8 (go_big_quiet_step (fail))
 refine N (h:=?_);refine GO ?_;intro w3 l;clear r s q t a0 a1 a2 a3 a4 a5 u x A a9 g i a12 j c0 c1;have f:=O (f.trans (l.mono f.size));clear l;have r:=f.size;have s:w.heap.size<w3.heap.size:=by omega
 have q:w.heap.size+1<w3.heap.size:=by omega
 have t:c<w3.heap.size:=by omega
 obtain⟨a0,a1,a2,a3,a4,a5,u,x,A,a9,g,i,a12,j⟩:=(L.below f (by omega)).all;obtain⟨c0,c1⟩:=(F.below f).cells;go_wp2_with fail
 refine(DM a.k.kind a.k.num a.k.Ae a.k.str a.k.ref _).mono ?_;rw[BI,z M,z P];rintro e w4 ⟨rfl,I⟩;clear r s q t a0 a1 a2 a3 a4 a5 u x A a9 g i a12 j c0 c1;have f:=O (f.trans (I.mono f.size));clear I;have r:=f.size;have s:w.heap.size<w4.heap.size:=by omega
 have q:w.heap.size+1<w4.heap.size:=by omega
 have t:c<w4.heap.size:=by omega
 obtain⟨a0,a1,a2,a3,a4,a5,u,x,A,a9,g,i,a12,j⟩:=(L.below f (by omega)).all;obtain⟨c0,c1⟩:=(F.below f).cells;obtain⟨r0,r1,r2,r3,r4,r5,r6,r7,r8,r9,Q,R⟩:=(HQ.below f (by omega)).all;have fr:=(HQ.below f (by omega)).frozen;go_wp2_with fail
 refine DO (v:=DS (AO 5)) (by simp[results,results90,go_sem,q,r0,r1,r2,r3,r4,r5,r6,r7,r8,r9,Q,R,AO,B5,CL]) rfl ?_;rw[(z o).1,(z o).2];obtain⟨m,d⟩:=Gf rfl (AO 5) HB HO (by omega) hz (F.below f) (BG.Ay f);exact⟨rfl,_,_,_,m.below (n9),d.below (n9)⟩
theorem Wv(c B:Nat)(vT vS:V9)(U:Nat->Value)(D:Ds)(a:Ac)(w:Y)(hD:AQ 158 w c B vT vS U D)(K:D.Good)(n:AY a=true)(b:a.op=7)(hf:D.ns=50):Ee c B vT vS U D a w:=by
 have hT:B7 a.op=false:=by rw[b];decide
 have hS:Cp a.op=false:=by rw[b];decide
 have o:Hid (D.I6 a=AO 5/\D.step a=D):=O (by
  have S:FL a D.nt D.ns=0:=by simp[FL,n,B7,Cp,b]
  rw[Ds.I6,Ds.step,C3 S,C3 S];simp[Ds.Hh,Ds.FB,b,hf])
 have e5:((D.ns:Int)==50)=true:=by simp;omega
 have d1:(a.op==1)=false:=by simp[b]
 have d2:(a.op==2)=false:=by simp[b]
 have d3:(a.op==3)=false:=by simp[b]
 have d7:(a.op==7)=true:=by simp[b]
 have d8:(a.op==8)=false:=by simp[b]
 have d9:(a.op==9)=false:=by simp[b]
 have ad:=O b;clear b;obtain⟨T,C⟩:∃T,Cj a.k=T:=⟨_,rfl⟩;obtain⟨V,E⟩:∃V,Bw a.k=V:=⟨_,rfl⟩;have M:=O C;have P:=O E;clear C E;clear hf;obtain⟨ta,tc,rfl⟩:=Ao hD.tb;obtain⟨sa,sc,rfl⟩:=Ao hD.st;have ae:=K.nt;have af:=K.ns;obtain⟨W,X,p,hA,Z,hz⟩:=boxes w a;have HO:Hid (∀k,Bs c (.slice ta D.nt tc) (.slice sa D.ns sc) U D.nt k->k<w.heap.size):=O (fun k h=>(hD.Lc h).2);have ag:=hD.lt;have F:=O (hD.below p);have HB:=O p;have L:=O hA;have HQ:=O Z;have HG:=O K;clear hD p hA Z K
 go_enter func90,ntmps90
 go_wp2_with fail
 rw[<-X];clear X;refine(Ch a _).mono ?_;rw[n];rintro e w1 ⟨rfl,H⟩;have f:=O H;clear H;have r:=f.size;have s:w.heap.size<w1.heap.size:=by omega
 have q:w.heap.size+1<w1.heap.size:=by omega
 have t:c<w1.heap.size:=by omega
 obtain⟨a0,a1,a2,a3,a4,a5,u,x,A,a9,g,i,a12,j⟩:=(L.below f (by omega)).all;obtain⟨c0,c1⟩:=(F.below f).cells;go_wp2_with fail
 refine(BL a.op _).mono ?_;rw[hT,hS];rintro e w2 ⟨rfl,ew⟩;rw[ew];clear ew w2;go_wp2_with fail
 refine qr w1 ?_;refine N (h:=N (h:=?_));iterate 8 (go_big_quiet_step (fail))
 refine N (h:=?_);refine GO ?_;intro w2 l;clear r s q t a0 a1 a2 a3 a4 a5 u x A a9 g i a12 j c0 c1;have f:=O (f.trans (l.mono f.size));clear l;have r:=f.size;have s:w.heap.size<w2.heap.size:=by omega
 have q:w.heap.size+1<w2.heap.size:=by omega
 have t:c<w2.heap.size:=by omega
 obtain⟨a0,a1,a2,a3,a4,a5,u,x,A,a9,g,i,a12,j⟩:=(L.below f (by omega)).all;obtain⟨c0,c1⟩:=(F.below f).cells;go_wp2_with fail
 refine qr w2 ?_;refine N (h:=N (h:=?_));iterate 8 (go_big_quiet_step (fail))
 refine N (h:=?_);refine GO ?_;intro w3 l;clear r s q t a0 a1 a2 a3 a4 a5 u x A a9 g i a12 j c0 c1;have f:=O (f.trans (l.mono f.size));clear l;have r:=f.size;have s:w.heap.size<w3.heap.size:=by omega
 have q:w.heap.size+1<w3.heap.size:=by omega
 have t:c<w3.heap.size:=by omega
 obtain⟨a0,a1,a2,a3,a4,a5,u,x,A,a9,g,i,a12,j⟩:=(L.below f (by omega)).all;obtain⟨c0,c1⟩:=(F.below f).cells;go_wp2_with fail
 refine(DM a.k.kind a.k.num a.k.Ae a.k.str a.k.ref _).mono ?_;rw[BI,z M,z P];rintro e w4 ⟨rfl,I⟩;clear r s q t a0 a1 a2 a3 a4 a5 u x A a9 g i a12 j c0 c1;have f:=O (f.trans (I.mono f.size));clear I;have r:=f.size;have s:w.heap.size<w4.heap.size:=by omega
 have q:w.heap.size+1<w4.heap.size:=by omega
 have t:c<w4.heap.size:=by omega
 obtain⟨a0,a1,a2,a3,a4,a5,u,x,A,a9,g,i,a12,j⟩:=(L.below f (by omega)).all;obtain⟨c0,c1⟩:=(F.below f).cells;obtain⟨r0,r1,r2,r3,r4,r5,r6,r7,r8,r9,Q,R⟩:=(HQ.below f (by omega)).all;have fr:=(HQ.below f (by omega)).frozen;go_wp2_with fail
 refine DO (v:=DS (AO 5)) (by simp[results,results90,go_sem,q,r0,r1,r2,r3,r4,r5,r6,r7,r8,r9,Q,R,AO,B5,CL]) rfl ?_;rw[(z o).1,(z o).2];obtain⟨m,d⟩:=Gf rfl (AO 5) HB HO (by omega) hz (F.below f) (BG.Ay f);exact⟨rfl,_,_,_,m.below (n9),d.below (n9)⟩
theorem bP(c B:Nat)(vT vS:V9)(U:Nat->Value)(D:Ds)(a:Ac)(w:Y)(hD:AQ 158 w c B vT vS U D)(V:D.Good)(q:AY a=true)(b:a.op=2)(t:Nat)(et:a.t=t)(h2:t<D.nt)(h4:Cj a.k=0):Ee c B vT vS U D a w:=by
 have hT:B7 a.op=true:=by rw[b];decide
 have hS:Cp a.op=false:=by rw[b];decide
 obtain⟨M,o⟩:∃M,Cj a.k=M:=⟨_,rfl⟩;obtain⟨l,s⟩:∃l,Bw a.k=l:=⟨_,rfl⟩;have r:Hid (D.I6 a=AO ((D.T t).code l a.v)/\D.step a=D.Gt t l a.v):=O (by
  have h0:FL a D.nt D.ns=0:=by
   have x1:¬(D.nt:Int)<=a.t:=by omega
   simp[FL,q,B7,Cp,b,x1,h4]
  simp[Ds.I6,Ds.step,h0,Ds.Hh,Ds.FB,b,et,s])
 have e2:decide ((D.nt:Int)<=a.t)=false:=by simp;omega
 have e4:(M !=0)=false:=by rw[<-o];simp[h4]
 have aj:(M==0)=true:=by rw[<-o];simp[h4]
 clear h4;have Z:=O o;have ad:=O s;clear o s;have d1:(a.op==1)=false:=by simp[b]
 have d2:(a.op==2)=true:=by simp[b]
 have d3:(a.op==3)=false:=by simp[b]
 have d7:(a.op==7)=false:=by simp[b]
 have d8:(a.op==8)=false:=by simp[b]
 have d9:(a.op==9)=false:=by simp[b]
 have ak:=O b;clear b;have ET:=O et;clear et;obtain⟨ta,tc,rfl⟩:=Ao hD.tb;obtain⟨sa,sc,rfl⟩:=Ao hD.st;have ao:=V.nt;have aq:=V.ns;obtain⟨W,hW,u,hA,hR,hz⟩:=boxes w a;have HO:Hid (∀k,Bs c (.slice ta D.nt tc) (.slice sa D.ns sc) U D.nt k->k<w.heap.size):=O (fun k h=>(hD.Lc h).2);have ar:=hD.lt;have P:=O (hD.below u);have HB:=O u;have X:=O hA;have HQ:=O hR;have HG:=O V;clear hD u hA hR V
 go_enter func90,ntmps90
 go_wp2_with fail
 rw[<-hW];clear hW;refine(Ch a _).mono ?_;rw[q];rintro e w1 ⟨rfl,Q⟩;have f:=O Q;clear Q;have ae:Hid (¬Bs c (.slice ta D.nt tc) (.slice sa D.ns sc) U D.nt (w.heap.size+1)):=O (fun h=>by have:=z HO _ h;omega);have A:=f.size;have C:w.heap.size<w1.heap.size:=by omega
 have p:w.heap.size+1<w1.heap.size:=by omega
 have E:c<w1.heap.size:=by omega
 obtain⟨a0,a1,a2,a3,a4,a5,F,H,I,a9,g,i,a12,j⟩:=(X.below f (by omega)).all;obtain⟨c0,c1⟩:=(P.below f).cells;go_wp2_with fail
 refine(BL a.op _).mono ?_;rw[hT,hS];rintro e w2 ⟨rfl,ew⟩;rw[ew];clear ew w2;go_wp2_with fail
 refine qr w1 ?_;refine N (h:=N (h:=N (h:=N (h:=N (h:=N (h:=N (h:=N (h:=N (h:=N (h:=N (h:=?_)))))))))));refine GO ?_;intro w2 n;clear A C p E a0 a1 a2 a3 a4 a5 F H I a9 g i a12 j c0 c1;have f:=O (f.trans (n.mono f.size));clear n;have A:=f.size;have C:w.heap.size<w2.heap.size:=by omega
 have p:w.heap.size+1<w2.heap.size:=by omega
 have E:c<w2.heap.size:=by omega
 obtain⟨a0,a1,a2,a3,a4,a5,F,H,I,a9,g,i,a12,j⟩:=(X.below f (by omega)).all;obtain⟨c0,c1⟩:=(P.below f).cells;go_wp2_with fail
 refine qr w2 ?_;refine N (h:=N (h:=?_));iterate 8 (go_big_quiet_step (fail))
 refine N (h:=?_);refine GO ?_;intro w3 n;clear A C p E a0 a1 a2 a3 a4 a5 F H I a9 g i a12 j c0 c1;have f:=O (f.trans (n.mono f.size));clear n;have A:=f.size;have C:w.heap.size<w3.heap.size:=by omega
 have p:w.heap.size+1<w3.heap.size:=by omega
 have E:c<w3.heap.size:=by omega
 obtain⟨a0,a1,a2,a3,a4,a5,F,H,I,a9,g,i,a12,j⟩:=(X.below f (by omega)).all;obtain⟨c0,c1⟩:=(P.below f).cells;go_wp2_with fail
 refine(DM a.k.kind a.k.num a.k.Ae a.k.str a.k.ref _).mono ?_;rw[BI,z Z,z ad];rintro e w4 ⟨rfl,R⟩;clear A C p E a0 a1 a2 a3 a4 a5 F H I a9 g i a12 j c0 c1;have f:=O (f.trans (R.mono f.size));clear R;have A:=f.size;have C:w.heap.size<w4.heap.size:=by omega
 have p:w.heap.size+1<w4.heap.size:=by omega
 have E:c<w4.heap.size:=by omega
 obtain⟨a0,a1,a2,a3,a4,a5,F,H,I,a9,g,i,a12,j⟩:=(X.below f (by omega)).all;obtain⟨c0,c1⟩:=(P.below f).cells;rw[z ET]at a1;have K:Hid (B9 W (w4.alloc (.cells #[J M,J l.kind,J l.num,F9 l.Ae,.string l.str,J l.ref] 182))):=O (f.alloc f.size _);go_wp2_with fail
 refine(Oo c B t _ _ U D l a.v _ (P.below K) h2 HG).mono ?_;rintro e w5 ⟨rfl,U',S,L⟩;clear A C p E a0 a1 a2 a3 a4 a5 F H I a9 g i a12 j c0 c1;generalize (D.T t).code l a.v=x at*;have hq:=(HQ.below K (by omega)).dst L ae;obtain⟨r0,r1,r2,r3,r4,r5,r6,r7,r8,r9,af,ag⟩:=hq.all;have fr:=hq.frozen;have p:=hq.lt;have ah:=O S;have ai:=O ((BG.Ay K).trans L);clear hq S L;go_wp2_with fail
 refine DO (v:=DS (AO x)) (by simp[results,results90,go_sem,p,r0,r1,r2,r3,r4,r5,r6,r7,r8,r9,af,ag,AO,B5,CL]) rfl ?_;rw[(z r).1,(z r).2];obtain⟨m,d⟩:=Gf rfl (AO x) HB HO (by omega) hz ah ai;exact⟨rfl,_,_,_,m,d⟩
theorem bN(c B:Nat)(vT vS:V9)(U:Nat->Value)(D:Ds)(a:Ac)(w:Y)(hD:AQ 158 w c B vT vS U D)(S:D.Good)(q:AY a=true)(f:a.op=3)(t:Nat)(et:a.t=t)(h2:t<D.nt)(h4:Cj a.k=0):Ee c B vT vS U D a w:=by
 have hT:B7 a.op=true:=by rw[f];decide
 have hS:Cp a.op=false:=by rw[f];decide
 obtain⟨M,o⟩:∃M,Cj a.k=M:=⟨_,rfl⟩;obtain⟨n,C⟩:∃n,Bw a.k=n:=⟨_,rfl⟩;have r:Hid (D.I6 a=CL ((D.T t).get n)/\D.step a=D):=O (by
  have h0:FL a D.nt D.ns=0:=by
   have x1:¬(D.nt:Int)<=a.t:=by omega
   simp[FL,q,B7,Cp,f,x1,h4]
  simp[Ds.I6,Ds.step,h0,Ds.Hh,Ds.FB,f,et,C])
 have e2:decide ((D.nt:Int)<=a.t)=false:=by simp;omega
 have e4:(M !=0)=false:=by rw[<-o];simp[h4]
 have af:(M==0)=true:=by rw[<-o];simp[h4]
 clear h4;have X:=O o;have Z:=O C;clear o C;have d1:(a.op==1)=false:=by simp[f]
 have d2:(a.op==2)=false:=by simp[f]
 have d3:(a.op==3)=true:=by simp[f]
 have d7:(a.op==7)=false:=by simp[f]
 have d8:(a.op==8)=false:=by simp[f]
 have d9:(a.op==9)=false:=by simp[f]
 have ag:=O f;clear f;have ET:=O et;clear et;obtain⟨ta,tc,rfl⟩:=Ao hD.tb;obtain⟨sa,sc,rfl⟩:=Ao hD.st;have ah:=S.nt;have ai:=S.ns;obtain⟨W,hW,E,hA,hR,hz⟩:=boxes w a;have HO:Hid (∀k,Bs c (.slice ta D.nt tc) (.slice sa D.ns sc) U D.nt k->k<w.heap.size):=O (fun k h=>(hD.Lc h).2);have aj:=hD.lt;have L:=O (hD.below E);have HB:=O E;have V:=O hA;have HQ:=O hR;have HG:=O S;clear hD E hA hR S
 go_enter func90,ntmps90
 go_wp2_with fail
 rw[<-hW];clear hW;refine(Ch a _).mono ?_;rw[q];rintro e w1 ⟨rfl,P⟩;have b:=O P;clear P;have ak:Hid (¬Bs c (.slice ta D.nt tc) (.slice sa D.ns sc) U D.nt (w.heap.size+1)):=O (fun h=>by have:=z HO _ h;omega);have s:=b.size;have u:w.heap.size<w1.heap.size:=by omega
 have p:w.heap.size+1<w1.heap.size:=by omega
 have A:c<w1.heap.size:=by omega
 obtain⟨a0,a1,a2,a3,a4,a5,F,H,I,a9,g,i,a12,j⟩:=(V.below b (by omega)).all;obtain⟨c0,c1⟩:=(L.below b).cells;go_wp2_with fail
 refine(BL a.op _).mono ?_;rw[hT,hS];rintro e w2 ⟨rfl,ew⟩;rw[ew];clear ew w2;go_wp2_with fail
 refine qr w1 ?_;refine N (h:=N (h:=N (h:=N (h:=N (h:=N (h:=N (h:=N (h:=N (h:=N (h:=N (h:=?_)))))))))));refine GO ?_;intro w2 l;clear s u p A a0 a1 a2 a3 a4 a5 F H I a9 g i a12 j c0 c1;have b:=O (b.trans (l.mono b.size));clear l;have s:=b.size;have u:w.heap.size<w2.heap.size:=by omega
 have p:w.heap.size+1<w2.heap.size:=by omega
 have A:c<w2.heap.size:=by omega
 obtain⟨a0,a1,a2,a3,a4,a5,F,H,I,a9,g,i,a12,j⟩:=(V.below b (by omega)).all;obtain⟨c0,c1⟩:=(L.below b).cells;go_wp2_with fail
 refine qr w2 ?_;refine N (h:=N (h:=?_));iterate 8 (go_big_quiet_step (fail))
 refine N (h:=?_);refine GO ?_;intro w3 l;clear s u p A a0 a1 a2 a3 a4 a5 F H I a9 g i a12 j c0 c1;have b:=O (b.trans (l.mono b.size));clear l;have s:=b.size;have u:w.heap.size<w3.heap.size:=by omega
 have p:w.heap.size+1<w3.heap.size:=by omega
 have A:c<w3.heap.size:=by omega
 obtain⟨a0,a1,a2,a3,a4,a5,F,H,I,a9,g,i,a12,j⟩:=(V.below b (by omega)).all;obtain⟨c0,c1⟩:=(L.below b).cells;go_wp2_with fail
 refine(DM a.k.kind a.k.num a.k.Ae a.k.str a.k.ref _).mono ?_;rw[BI,z X,z Z];rintro e w4 ⟨rfl,Q⟩;clear s u p A a0 a1 a2 a3 a4 a5 F H I a9 g i a12 j c0 c1;have b:=O (b.trans (Q.mono b.size));clear Q;have s:=b.size;have u:w.heap.size<w4.heap.size:=by omega
 have p:w.heap.size+1<w4.heap.size:=by omega
 have A:c<w4.heap.size:=by omega
 obtain⟨a0,a1,a2,a3,a4,a5,F,H,I,a9,g,i,a12,j⟩:=(V.below b (by omega)).all;obtain⟨c0,c1⟩:=(L.below b).cells;rw[z ET]at a1;have K:Hid (B9 W (w4.alloc (.cells #[J M,J n.kind,J n.num,F9 n.Ae,.string n.str,J n.ref] 182))):=O (b.alloc b.size _);go_wp2_with fail
 refine m9 (Om c B t _ _ U D n _ (L.below K) h2 HG) fun w5 R=>?_
 clear s u p A a0 a1 a2 a3 a4 a5 F H I a9 g i a12 j c0 c1;have b:=O (K.trans (R.mono K.size));clear R;generalize (D.T t).get n=x at*;have s:=b.size;have u:w.heap.size<w5.heap.size:=by omega
 have p:w.heap.size+1<w5.heap.size:=by omega
 have A:c<w5.heap.size:=by omega
 obtain⟨r0,r1,r2,r3,r4,r5,r6,r7,r8,r9,ad,ae⟩:=(HQ.below b (by omega)).all;have fr:=(HQ.below b (by omega)).frozen;go_wp2_with fail
 refine DO (v:=DS (CL x)) (by simp[results,results90,go_sem,p,r0,r1,r2,r3,r4,r5,r6,r7,r8,r9,ad,ae,AO,B5,CL]) rfl ?_;rw[(z r).1,(z r).2];obtain⟨m,d⟩:=Gf rfl (CL x) HB HO (by omega) hz (L.below b) (BG.Ay b);exact⟨rfl,_,_,_,m,d⟩
def G0(ab c g:Nat)(t s:Nat)(vS:V9)(str:ByteArray)(v:Vl)(W:Y):Prop:=
 W.cell? (G ab 1)=some (J t)/\W.cell? (G ab 2)=some (J s)/\W.cell? (G c 1)=some vS/\W.cell? (G g s)=some (.string str)/\
 W.cell? (G ab 9)=some (J v.kind)/\W.cell? (G ab 10)=some (J v.num)/\W.cell? (G ab 11)=some (F9 v.Ae)/\W.cell? (G ab 12)=some (.string v.str)/\W.cell? (G ab 13)=some (J v.ref)
theorem G0.keep{ab c g t s:Nat}{vS:V9}{str:ByteArray}{v:Vl}{w w':Y}(h:G0 ab c g t s vS str v w)(b:w'.heap[ab]?=w.heap[ab]?)(hc:w'.heap[c]?=w.heap[c]?)(hg:w'.heap[g]?=w.heap[g]?):G0 ab c g t s vS str v w':=by
 obtain⟨d,h1,h2,h3,h4,h5,e,f,i⟩:=h;exact⟨(As (a:=(G ab 1)) b).trans d,(As (a:=(G ab 2)) b).trans h1,(As (a:=(G c 1)) hc).trans h2,(As (a:=(G g s)) hg).trans h3,(As (a:=(G ab 9)) b).trans h4,(As (a:=(G ab 10)) b).trans h5,(As (a:=(G ab 11)) b).trans e,(As (a:=(G ab 12)) b).trans f,(As (a:=(G ab 13)) b).trans i⟩
theorem Ws(c B:Nat)(vT vS:V9)(U:Nat->Value)(D:Ds)(a:Ac)(w:Y)(hD:AQ 158 w c B vT vS U D)(hG:D.Good)(H:AY a=true)(f:a.op=8)(t:Nat)(et:a.t=t)(h2:t<D.nt)(s:Nat)(es:a.site=s)(h3:s<D.ns):Ee c B vT vS U D a w:=by
 have hT:B7 a.op=true:=by rw[f];decide
 have hS:Cp a.op=true:=by rw[f];decide
 obtain⟨kc,af⟩:∃kc,Cj a.k=kc:=⟨_,rfl⟩;obtain⟨n,M⟩:∃n,Bw a.k=n:=⟨_,rfl⟩;have o:Hid (D.I6 a=CL ((D.T t).get (A7 (D.S s)))/\D.step a=D):=O (by
  have h0:FL a D.nt D.ns=0:=by
   have x1:¬(D.nt:Int)<=a.t:=by omega
   have x2:¬(D.ns:Int)<=a.site:=by omega
   simp[FL,H,B7,Cp,f,x1,x2]
  simp[Ds.I6,Ds.step,h0,Ds.Hh,Ds.FB,f,et,M,es])
 have e2:decide ((D.nt:Int)<=a.t)=false:=by simp;omega
 have e3:decide ((D.ns:Int)<=a.site)=false:=by simp;omega
 have ES:=O es;clear es;have ao:=O af;have aq:=O M;clear af M;have d1:(a.op==1)=false:=by simp[f]
 have d2:(a.op==2)=false:=by simp[f]
 have d3:(a.op==3)=false:=by simp[f]
 have d7:(a.op==7)=false:=by simp[f]
 have d8:(a.op==8)=true:=by simp[f]
 have d9:(a.op==9)=false:=by simp[f]
 have av:=O f;clear f;have ET:=O et;clear et;obtain⟨ta,tc,rfl⟩:=Ao hD.tb;obtain⟨sa,sc,rfl⟩:=Ao hD.st;have aw:=hG.nt;have ax:=hG.ns;obtain⟨W,hW,P,hA,hR,hz⟩:=boxes w a;have HO:Hid (∀k,Bs c (.slice ta D.nt tc) (.slice sa D.ns sc) U D.nt k->k<w.heap.size):=O (fun k h=>(hD.Lc h).2);have ay:=hD.lt;have Q:=O (hD.below P);have HB:=O P;have HA:=O hA;have HQ:=O hR;have HG:=O hG;clear hD P hA hR hG
 go_enter func90,ntmps90
 go_wp2_with fail
 rw[<-hW];clear hW;refine(Ch a _).mono ?_;rw[H];rintro e w1 ⟨rfl,ag⟩;have b:=O ag;clear ag;have az:Hid (¬Bs c (.slice ta D.nt tc) (.slice sa D.ns sc) U D.nt (w.heap.size+1)):=O (fun h=>by have:=z HO _ h;omega);have I:=b.size;have u:w.heap.size<w1.heap.size:=by omega
 have A:w.heap.size+1<w1.heap.size:=by omega
 have C:c<w1.heap.size:=by omega
 obtain⟨a0,a1,a2,a3,a4,a5,R,V,Z,a9,i,j,a12,l⟩:=(HA.below b (by omega)).all;obtain⟨c0,c1⟩:=(Q.below b).cells;go_wp2_with fail
 refine(BL a.op _).mono ?_;rw[hT,hS];rintro e w2 ⟨rfl,ew⟩;rw[ew];clear ew w2;go_wp2_with fail
 refine qr w1 ?_;refine N (h:=N (h:=N (h:=N (h:=N (h:=N (h:=N (h:=N (h:=N (h:=N (h:=N (h:=?_)))))))))));refine GO ?_;intro w2 p;clear I u A C a0 a1 a2 a3 a4 a5 R V Z a9 i j a12 l c0 c1;have b:=O (b.trans (p.mono b.size));clear p;have I:=b.size;have u:w.heap.size<w2.heap.size:=by omega
 have A:w.heap.size+1<w2.heap.size:=by omega
 have C:c<w2.heap.size:=by omega
 obtain⟨a0,a1,a2,a3,a4,a5,R,V,Z,a9,i,j,a12,l⟩:=(HA.below b (by omega)).all;obtain⟨c0,c1⟩:=(Q.below b).cells;go_wp2_with fail
 refine qr w2 ?_;refine N (h:=N (h:=N (h:=N (h:=N (h:=N (h:=N (h:=N (h:=N (h:=N (h:=N (h:=?_)))))))))));refine GO ?_;intro w3 p;clear I u A C a0 a1 a2 a3 a4 a5 R V Z a9 i j a12 l c0 c1;have b:=O (b.trans (p.mono b.size));clear p;have I:=b.size;have u:w.heap.size<w3.heap.size:=by omega
 have A:w.heap.size+1<w3.heap.size:=by omega
 have C:c<w3.heap.size:=by omega
 obtain⟨a0,a1,a2,a3,a4,a5,R,V,Z,a9,i,j,a12,l⟩:=(HA.below b (by omega)).all;obtain⟨c0,c1⟩:=(Q.below b).cells;go_wp2_with fail
 refine(DM a.k.kind a.k.num a.k.Ae a.k.str a.k.ref _).mono ?_;rw[BI,z ao,z aq];rintro e w4 ⟨rfl,ah⟩;clear I u A C a0 a1 a2 a3 a4 a5 R V Z a9 i j a12 l c0 c1;have b:=O (b.trans (ah.mono b.size));clear ah;have I:=b.size;have u:w.heap.size<w4.heap.size:=by omega
 have A:w.heap.size+1<w4.heap.size:=by omega
 have C:c<w4.heap.size:=by omega
 obtain⟨a0,a1,a2,a3,a4,a5,R,V,Z,a9,i,j,a12,l⟩:=(HA.below b (by omega)).all;obtain⟨c0,c1⟩:=(Q.below b).cells;rw[z ET]at a1;rw[z ES]at a2;have ad:Hid (B9 W (w4.alloc (.cells #[J kc,J n.kind,J n.num,F9 n.Ae,.string n.str,J n.ref] 182))):=O (b.alloc b.size _);obtain⟨g,cq,eg,hg,ai⟩:=(Q.below b).site h3;cases eg;obtain⟨X,hX⟩:∃X,X=w4.alloc (.cells #[J kc,J n.kind,J n.num,F9 n.Ae,.string n.str,J n.ref] 182):=⟨_,rfl⟩;have E:B9 w4 X:=by rw[hX];exact(DD _ _).alloc (A0 _) _
 have aj:G0 w.heap.size c g t s (S9 g D.ns sc) (D.S s) a.v X:=G0.keep (w:=w4) ⟨a1,a2,c1,ai,a9,i,j,a12,l⟩ (E.block _ u) (E.block _ C) (E.block _ hg);have aM:g<w.heap.size:=HO g (.inr (.inr (.inl rfl)));go_wp2_with fail
 rw[<-hX];rw[<-hX]at ad;have L:G0 w.heap.size c g t s (S9 g D.ns sc) (D.S s) a.v X.drew:=aj;clear I u A C a0 a1 a2 a3 a4 a5 R V Z a9 i j a12 l c0 c1;clear hX ai E hg;refine H9 (G0 w.heap.size c g t s (S9 g D.ns sc) (D.S s) a.v) ?_;refine tz 0 (h:=tz 1 (h:=tz 2 (h:=tz 3 (h:=tz 4 (h:=tz 5 (h:=tz 6 (h:=tz 7 (h:=tz 8 (h:=tz 9 (h:=tz 10 (h:=?_)))))))))));refine ry 11 (fun K hK=>?_);go_simp;refine m9 (MF (D.S s) _) fun w5 q=>?_
 have bb:=ad.size;have ae:=L.keep (q.block w.heap.size (by show _<X.heap.size;omega)) (q.block c (by show _<X.heap.size;omega)) (q.block g (by show _<X.heap.size;omega));have F:Hid (B9 W w5):=O ((ad.drew).trans (q.mono (by show _<=X.heap.size;omega)));refine hK.out _ _ ae (fun _=>?_);clear hK K q aj L;refine ry 12 (fun K hK=>?_);go_simp;refine m9 (Om c B t _ _ U D (A7 (D.S s)) _ (Q.below F) h2 HG) fun w6 r=>?_
 generalize hx:(D.T t).get (A7 (D.S s))=x;rw[hx]at o;have z5:=F.size;have ak:=ae.keep (r.block w.heap.size (by omega)) (r.block c (by omega)) (r.block g (by omega));have b:=O (F.trans (r.mono F.size));refine hK.out _ _ ak (fun _=>?_);clear hK K r ae hx z5;refine tz 13 (h:=?_);have I:=b.size;have u:w.heap.size<w6.heap.size:=by omega
 have A:w.heap.size+1<w6.heap.size:=by omega
 have C:c<w6.heap.size:=by omega
 obtain⟨r0,r1,r2,r3,r4,r5,r6,r7,r8,r9,ar,au⟩:=(HQ.below b (by omega)).all;have fr:=(HQ.below b (by omega)).frozen;refine ry 14 (fun K hK=>?_);go_simp;refine hK.out _ _ (ak.keep (CR w6 (w.heap.size+1) (CL x) (by omega)) (CR w6 (w.heap.size+1) (CL x) (by omega)) (CR w6 (w.heap.size+1) (CL x) (by omega))) (fun _=>?_);clear hK K;refine FM ?_;go_wp2_with fail
 refine DO (v:=DS (CL x)) (by simp[results,results90,go_sem,A,r0,r1,r2,r3,r4,r5,r6,r7,r8,r9,ar,au,AO,B5,CL]) rfl ?_;rw[(z o).1,(z o).2];obtain⟨m,d⟩:=Gf rfl (CL x) HB HO (by omega) hz (Q.below b) (BG.Ay b);exact⟨rfl,_,_,_,m,d⟩
theorem Qe(c B:Nat)(vT vS:V9)(U:Nat->Value)(D:Ds)(a:Ac)(w:Y)(hD:AQ 158 w c B vT vS U D)(hG:D.Good)(H:AY a=true)(b:a.op=9)(t:Nat)(et:a.t=t)(h2:t<D.nt)(s:Nat)(es:a.site=s)(h3:s<D.ns):Ee c B vT vS U D a w:=by
 have hT:B7 a.op=true:=by rw[b];decide
 have hS:Cp a.op=true:=by rw[b];decide
 obtain⟨kc,af⟩:∃kc,Cj a.k=kc:=⟨_,rfl⟩;obtain⟨o,P⟩:∃o,Bw a.k=o:=⟨_,rfl⟩;have p:Hid (D.I6 a=AO ((D.T t).code (A7 (D.S s)) a.v)/\D.step a=D.Gt t (A7 (D.S s)) a.v):=O (by
  have h0:FL a D.nt D.ns=0:=by
   have x1:¬(D.nt:Int)<=a.t:=by omega
   have x2:¬(D.ns:Int)<=a.site:=by omega
   simp[FL,H,B7,Cp,b,x1,x2]
  simp[Ds.I6,Ds.step,h0,Ds.Hh,Ds.FB,b,et,P,es])
 have e2:decide ((D.nt:Int)<=a.t)=false:=by simp;omega
 have e3:decide ((D.ns:Int)<=a.site)=false:=by simp;omega
 have ES:=O es;clear es;have ao:=O af;have aq:=O P;clear af P;have d1:(a.op==1)=false:=by simp[b]
 have d2:(a.op==2)=false:=by simp[b]
 have d3:(a.op==3)=false:=by simp[b]
 have d7:(a.op==7)=false:=by simp[b]
 have d8:(a.op==8)=false:=by simp[b]
 have d9:(a.op==9)=true:=by simp[b]
 have bb:=O b;clear b;have ET:=O et;clear et;obtain⟨ta,tc,rfl⟩:=Ao hD.tb;obtain⟨sa,sc,rfl⟩:=Ao hD.st;have bc:=hG.nt;have bd:=hG.ns;obtain⟨W,hW,Q,hA,hR,hz⟩:=boxes w a;have HO:Hid (∀k,Bs c (.slice ta D.nt tc) (.slice sa D.ns sc) U D.nt k->k<w.heap.size):=O (fun k h=>(hD.Lc h).2);have bf:=hD.lt;have HM:=O (hD.below Q);have HB:=O Q;have HA:=O hA;have HQ:=O hR;have HG:=O hG;clear hD Q hA hR hG
 go_enter func90,ntmps90
 go_wp2_with fail
 rw[<-hW];clear hW;refine(Ch a _).mono ?_;rw[H];rintro e w1 ⟨rfl,ag⟩;have f:=O ag;clear ag;have ar:Hid (¬Bs c (.slice ta D.nt tc) (.slice sa D.ns sc) U D.nt (w.heap.size+1)):=O (fun h=>by have:=z HO _ h;omega);have R:=f.size;have I:w.heap.size<w1.heap.size:=by omega
 have u:w.heap.size+1<w1.heap.size:=by omega
 have L:c<w1.heap.size:=by omega
 obtain⟨a0,a1,a2,a3,a4,a5,V,Z,a8,a9,j,l,a12,n⟩:=(HA.below f (by omega)).all;obtain⟨c0,c1⟩:=(HM.below f).cells;go_wp2_with fail
 refine(BL a.op _).mono ?_;rw[hT,hS];rintro e w2 ⟨rfl,ew⟩;rw[ew];clear ew w2;go_wp2_with fail
 refine qr w1 ?_;refine N (h:=N (h:=N (h:=N (h:=N (h:=N (h:=N (h:=N (h:=N (h:=N (h:=N (h:=?_)))))))))));refine GO ?_;intro w2 q;clear R I u L a0 a1 a2 a3 a4 a5 V Z a8 a9 j l a12 n c0 c1;have f:=O (f.trans (q.mono f.size));clear q;have R:=f.size;have I:w.heap.size<w2.heap.size:=by omega
 have u:w.heap.size+1<w2.heap.size:=by omega
 have L:c<w2.heap.size:=by omega
 obtain⟨a0,a1,a2,a3,a4,a5,V,Z,a8,a9,j,l,a12,n⟩:=(HA.below f (by omega)).all;obtain⟨c0,c1⟩:=(HM.below f).cells;go_wp2_with fail
 refine qr w2 ?_;refine N (h:=N (h:=N (h:=N (h:=N (h:=N (h:=N (h:=N (h:=N (h:=N (h:=N (h:=?_)))))))))));refine GO ?_;intro w3 q;clear R I u L a0 a1 a2 a3 a4 a5 V Z a8 a9 j l a12 n c0 c1;have f:=O (f.trans (q.mono f.size));clear q;have R:=f.size;have I:w.heap.size<w3.heap.size:=by omega
 have u:w.heap.size+1<w3.heap.size:=by omega
 have L:c<w3.heap.size:=by omega
 obtain⟨a0,a1,a2,a3,a4,a5,V,Z,a8,a9,j,l,a12,n⟩:=(HA.below f (by omega)).all;obtain⟨c0,c1⟩:=(HM.below f).cells;go_wp2_with fail
 refine(DM a.k.kind a.k.num a.k.Ae a.k.str a.k.ref _).mono ?_;rw[BI,z ao,z aq];rintro e w4 ⟨rfl,ah⟩;clear R I u L a0 a1 a2 a3 a4 a5 V Z a8 a9 j l a12 n c0 c1;have f:=O (f.trans (ah.mono f.size));clear ah;have au:Hid (∀k,w.heap.size<=k->¬Bs c (.slice ta D.nt tc) (.slice sa D.ns sc) U D.nt k):=O (fun k hk h=>by have:=z HO _ h;omega);have R:=f.size;have I:w.heap.size<w4.heap.size:=by omega
 have u:w.heap.size+1<w4.heap.size:=by omega
 have L:c<w4.heap.size:=by omega
 obtain⟨a0,a1,a2,a3,a4,a5,V,Z,a8,a9,j,l,a12,n⟩:=(HA.below f (by omega)).all;obtain⟨c0,c1⟩:=(HM.below f).cells;rw[z ET]at a1;rw[z ES]at a2;have ad:Hid (B9 W (w4.alloc (.cells #[J kc,J o.kind,J o.num,F9 o.Ae,.string o.str,J o.ref] 182))):=O (f.alloc f.size _);obtain⟨g,cq,eg,hg,ai⟩:=(HM.below f).site h3;cases eg;obtain⟨X,hX⟩:∃X,X=w4.alloc (.cells #[J kc,J o.kind,J o.num,F9 o.Ae,.string o.str,J o.ref] 182):=⟨_,rfl⟩;have A:B9 w4 X:=by rw[hX];exact(DD _ _).alloc (A0 _) _
 have aj:G0 w.heap.size c g t s (S9 g D.ns sc) (D.S s) a.v X:=G0.keep (w:=w4) ⟨a1,a2,c1,ai,a9,j,l,a12,n⟩ (A.block _ I) (A.block _ L) (A.block _ hg);have bg:g<w.heap.size:=HO g (.inr (.inr (.inl rfl)));go_wp2_with fail
 rw[<-hX];rw[<-hX]at ad;have M:G0 w.heap.size c g t s (S9 g D.ns sc) (D.S s) a.v X.drew:=aj;clear R I u L a0 a1 a2 a3 a4 a5 V Z a8 a9 j l a12 n c0 c1;clear hX ai A hg;refine H9 (G0 w.heap.size c g t s (S9 g D.ns sc) (D.S s) a.v) ?_;refine tz 0 (h:=tz 1 (h:=tz 2 (h:=tz 3 (h:=tz 4 (h:=tz 5 (h:=tz 6 (h:=tz 7 (h:=tz 8 (h:=tz 9 (h:=tz 10 (h:=tz 12 (h:=?_))))))))))));refine tz 13 (h:=?_);refine ry 11 (fun K hK=>?_);go_simp;refine m9 (MF (D.S s) _) fun w5 r=>?_
 have bh:=ad.size;have ae:=M.keep (r.block w.heap.size (by show _<X.heap.size;omega)) (r.block c (by show _<X.heap.size;omega)) (r.block g (by show _<X.heap.size;omega));have C:Hid (B9 W w5):=O ((ad.drew).trans (r.mono (by show _<=X.heap.size;omega)));refine hK.out _ _ ae (fun _=>?_);clear hK K r aj M;refine ry 14 (fun K hK=>?_);go_simp;refine(Oo c B t _ _ U D (A7 (D.S s)) a.v _ (HM.below C) h2 HG).mono ?_;rintro e w6 ⟨rfl,U',E,F⟩;generalize hx:(D.T t).code (A7 (D.S s)) a.v=x;rw[hx]at p;have z5:=C.size;have ak:G0 w.heap.size c g t s (S9 g D.ns sc) (D.S s) a.v w6:=by
  obtain⟨h0,h1,_,_,h4,h5,h6,h7,h8⟩:=ae;have ha:=F.block w.heap.size (by omega) (au _ (A0 _));obtain⟨g',bj,av,_,aw⟩:=E.site (i:=s) h3;cases av;exact⟨(As (a:=(y w 1)) ha).trans h0,(As (a:=(y w 2)) ha).trans h1,E.cells.2,aw,(As (a:=(y w 9)) ha).trans h4,(As (a:=(y w 10)) ha).trans h5,(As (a:=(y w 11)) ha).trans h6,(As (a:=(y w 12)) ha).trans h7,(As (a:=(y w 13)) ha).trans h8⟩
 have hq:=(HQ.below C (by omega)).dst F ar;obtain⟨r0,r1,r2,r3,r4,r5,r6,r7,r8,r9,ax,ay⟩:=hq.all;have fr:=hq.frozen;have u:=hq.lt;have az:=O E;have aM:=O ((BG.Ay C).trans F);refine hK.out _ _ ak (fun _=>?_);clear hK K E F ae hx z5 hq;refine tz 15 (h:=?_);refine ry 16 (fun K hK=>?_);go_simp;refine hK.out _ _ (ak.keep (CR w6 (w.heap.size+1) (AO x) (by omega)) (CR w6 (w.heap.size+1) (AO x) (by omega)) (CR w6 (w.heap.size+1) (AO x) (by omega))) (fun _=>?_);clear hK K;refine FM ?_;go_wp2_with fail
 refine DO (v:=DS (AO x)) (by simp[results,results90,go_sem,u,r0,r1,r2,r3,r4,r5,r6,r7,r8,r9,ax,ay,AO,B5,CL]) rfl ?_;rw[(z p).1,(z p).2];obtain⟨m,d⟩:=Gf rfl (AO x) HB HO (by omega) hz az aM;exact⟨rfl,_,_,_,m,d⟩
def I2(ab c g:Nat)(t:Nat)(vT u:V9)(a:Ac)(W:Y):Prop:=
 W.cell? (G c 0)=some vT/\W.cell? (G g (t*2))=some u/\W.cell? (G ab 0)=some (J a.op)/\W.cell? (G ab 1)=some (J t)/\W.cell? (G ab 2)=some (J a.site)/\W.cell? (G ab 3)=some (J a.n)/\W.cell? (G ab 4)=some (J a.k.kind)/\W.cell? (G ab 5)=some (J a.k.num)/\W.cell? (G ab 6)=some (F9 a.k.Ae)/\W.cell? (G ab 7)=some (.string a.k.str)/\W.cell? (G ab 8)=some (J a.k.ref)/\W.cell? (G ab 9)=some (J a.v.kind)/\W.cell? (G ab 10)=some (J a.v.num)/\W.cell? (G ab 11)=some (F9 a.v.Ae)/\W.cell? (G ab 12)=some (.string a.v.str)/\W.cell? (G ab 13)=some (J a.v.ref)
theorem I2.keep{ab c g t:Nat}{vT u:V9}{a:Ac}{w w':Y}(h:I2 ab c g t vT u a w)(b:w'.heap[ab]?=w.heap[ab]?)(hc:w'.heap[c]?=w.heap[c]?)(hg:w'.heap[g]?=w.heap[g]?):I2 ab c g t vT u a w':=by
 obtain⟨e0,e1,j,h1,h2,h3,h4,h5,k,l,m,n,d,e,f,i⟩:=h;exact⟨(As (a:=(G c 0)) hc).trans e0,(As (a:=(G g (t*2))) hg).trans e1,(As (a:=(G ab 0)) b).trans j,(As (a:=(G ab 1)) b).trans h1,(As (a:=(G ab 2)) b).trans h2,(As (a:=(G ab 3)) b).trans h3,(As (a:=(G ab 4)) b).trans h4,(As (a:=(G ab 5)) b).trans h5,(As (a:=(G ab 6)) b).trans k,(As (a:=(G ab 7)) b).trans l,(As (a:=(G ab 8)) b).trans m,(As (a:=(G ab 9)) b).trans n,(As (a:=(G ab 10)) b).trans d,(As (a:=(G ab 11)) b).trans e,(As (a:=(G ab 12)) b).trans f,(As (a:=(G ab 13)) b).trans i⟩
theorem bM(c B:Nat)(vT vS:V9)(U:Nat->Value)(D:Ds)(a:Ac)(w:Y)(hD:AQ 158 w c B vT vS U D)(hG:D.Good)(p:AY a=true)(f:a.op=4\/a.op=5\/a.op=6)(t:Nat)(et:a.t=t)(h2:t<D.nt):Ee c B vT vS U D a w:=by
 have hT:B7 a.op=true:=by rcases f with h|h|h<;>rw[h]<;>decide
 have hS:Cp a.op=false:=by rcases f with h|h|h<;>rw[h]<;>decide
 obtain⟨kc,V⟩:∃kc,Cj a.k=kc:=⟨_,rfl⟩;obtain⟨o,Z⟩:∃o,Bw a.k=o:=⟨_,rfl⟩;have q:Hid (D.I6 a=(D.T t).ask a/\D.step a=D):=O (by
  have h0:FL a D.nt D.ns=0:=by
   have x1:¬(D.nt:Int)<=a.t:=by omega
   rcases f with h|h|h<;>simp[FL,p,B7,Cp,h,x1]
  rcases f with h|h|h<;>simp[Ds.I6,Ds.step,h0,Ds.Hh,Ds.FB,h,et,Pl.ask])
 have e2:decide ((D.nt:Int)<=a.t)=false:=by simp;omega
 have hm:=(Td p).2.2.2.2.2;have ah:=O V;have ai:=O Z;clear V Z;have d1:(a.op==1)=false:=by rcases f with h|h|h<;>simp[h]
 have d2:(a.op==2)=false:=by rcases f with h|h|h<;>simp[h]
 have d3:(a.op==3)=false:=by rcases f with h|h|h<;>simp[h]
 have d7:(a.op==7)=false:=by rcases f with h|h|h<;>simp[h]
 have d8:(a.op==8)=false:=by rcases f with h|h|h<;>simp[h]
 have d9:(a.op==9)=false:=by rcases f with h|h|h<;>simp[h]
 have ET:=O et;clear f et;obtain⟨ta,tc,rfl⟩:=Ao hD.tb;obtain⟨sa,sc,rfl⟩:=Ao hD.st;have ao:=hG.nt;have aq:=hG.ns;obtain⟨W,hW,P,hA,hR,hz⟩:=boxes w a;have HO:Hid (∀k,Bs c (.slice ta D.nt tc) (.slice sa D.ns sc) U D.nt k->k<w.heap.size):=O (fun k h=>(hD.Lc h).2);have ar:=hD.lt;have R:=O (hD.below P);have HB:=O P;have HA:=O hA;have HQ:=O hR;have HG:=O hG;clear hD P hA hR hG
 go_enter func90,ntmps90
 go_wp2_with fail
 rw[<-hW];clear hW;refine(Ch a _).mono ?_;rw[p];rintro e w1 ⟨rfl,ad⟩;have b:=O ad;clear ad;have F:=b.size;have A:w.heap.size<w1.heap.size:=by omega
 have C:w.heap.size+1<w1.heap.size:=by omega
 have E:c<w1.heap.size:=by omega
 obtain⟨a0,a1,a2,a3,a4,a5,H,I,L,a9,i,j,a12,l⟩:=(HA.below b (by omega)).all;obtain⟨c0,c1⟩:=(R.below b).cells;go_wp2_with fail
 refine(BL a.op _).mono ?_;rw[hT,hS];rintro e w2 ⟨rfl,ew⟩;rw[ew];clear ew w2;go_wp2_with fail
 refine qr w1 ?_;refine N (h:=N (h:=N (h:=N (h:=N (h:=N (h:=N (h:=N (h:=N (h:=N (h:=N (h:=?_)))))))))));refine GO ?_;intro w2 r;clear F A C E a0 a1 a2 a3 a4 a5 H I L a9 i j a12 l c0 c1;have b:=O (b.trans (r.mono b.size));clear r;have F:=b.size;have A:w.heap.size<w2.heap.size:=by omega
 have C:w.heap.size+1<w2.heap.size:=by omega
 have E:c<w2.heap.size:=by omega
 obtain⟨a0,a1,a2,a3,a4,a5,H,I,L,a9,i,j,a12,l⟩:=(HA.below b (by omega)).all;obtain⟨c0,c1⟩:=(R.below b).cells;go_wp2_with fail
 refine qr w2 ?_;refine N (h:=N (h:=?_));iterate 8 (go_big_quiet_step (fail))
 refine N (h:=?_);refine GO ?_;intro w3 r;clear F A C E a0 a1 a2 a3 a4 a5 H I L a9 i j a12 l c0 c1;have b:=O (b.trans (r.mono b.size));clear r;have F:=b.size;have A:w.heap.size<w3.heap.size:=by omega
 have C:w.heap.size+1<w3.heap.size:=by omega
 have E:c<w3.heap.size:=by omega
 obtain⟨a0,a1,a2,a3,a4,a5,H,I,L,a9,i,j,a12,l⟩:=(HA.below b (by omega)).all;obtain⟨c0,c1⟩:=(R.below b).cells;go_wp2_with fail
 refine(DM a.k.kind a.k.num a.k.Ae a.k.str a.k.ref _).mono ?_;rw[BI,z ah,z ai];rintro e w4 ⟨rfl,ae⟩;clear F A C E a0 a1 a2 a3 a4 a5 H I L a9 i j a12 l c0 c1;have b:=O (b.trans (ae.mono b.size));clear ae;have F:=b.size;have A:w.heap.size<w4.heap.size:=by omega
 have C:w.heap.size+1<w4.heap.size:=by omega
 have E:c<w4.heap.size:=by omega
 obtain⟨a0,a1,a2,a3,a4,a5,H,I,L,a9,i,j,a12,l⟩:=(HA.below b (by omega)).all;obtain⟨c0,c1⟩:=(R.below b).cells;rw[z ET]at a1;have Q:Hid (B9 W (w4.alloc (.cells #[J kc,J o.kind,J o.num,F9 o.Ae,.string o.str,J o.ref] 182))):=O (b.alloc b.size _);obtain⟨g,cp,ua,uc,eg,hg,eU,g0,_,hP⟩:=(R.below b).look h2;cases eg;obtain⟨X,hX⟩:∃X,X=w4.alloc (.cells #[J kc,J o.kind,J o.num,F9 o.Ae,.string o.str,J o.ref] 182):=⟨_,rfl⟩;have s:B9 w4 X:=by rw[hX];exact(DD _ _).alloc (A0 _) _
 have af:I2 w.heap.size c g t (S9 g D.nt tc) (.slice ua (D.T t).n uc) a X:=I2.keep (w:=w4) ⟨c0,g0,a0,a1,a2,a3,a4,a5,H,I,L,a9,i,j,a12,l⟩ (s.block _ A) (s.block _ E) (s.block _ hg);have au:g<w.heap.size:=HO g (.inr (.inl rfl));have HP:=O (hP.below s.drew rfl);have hn:=(HG.t t h2).n;go_wp2_with fail
 rw[<-hX];rw[<-hX]at Q;have M:I2 w.heap.size c g t (S9 g D.nt tc) (.slice ua (D.T t).n uc) a X.drew:=af;clear F A C E a0 a1 a2 a3 a4 a5 H I L a9 i j a12 l c0 c1;clear hX g0 s hg hP eU;refine H9 (I2 w.heap.size c g t (S9 g D.nt tc) (.slice ua (D.T t).n uc) a) ?_;refine tz 0 (h:=tz 1 (h:=tz 2 (h:=tz 3 (h:=tz 4 (h:=tz 5 (h:=tz 6 (h:=tz 7 (h:=tz 8 (h:=tz 9 (h:=?_))))))))));rw[<-z ET];refine ry 10 (fun K hK=>?_);go_simp;refine m9 (Vb ua uc (D.T t) a _ HP hn hm) fun S u=>?_
 generalize hx:(D.T t).ask a=x;rw[hx]at q;have av:=Q.size;have ag:=M.keep (u.block w.heap.size (by show _<X.heap.size;omega)) (u.block c (by show _<X.heap.size;omega)) (u.block g (by show _<X.heap.size;omega));have b:=O ((Q.drew).trans (u.mono (by show _<=X.heap.size;omega)));refine hK.out _ _ ag (fun _=>?_);clear hK K u af M hx;have F:=b.size;have A:w.heap.size<S.heap.size:=by omega
 have C:w.heap.size+1<S.heap.size:=by omega
 have E:c<S.heap.size:=by omega
 obtain⟨r0,r1,r2,r3,r4,r5,r6,r7,r8,r9,aj,ak⟩:=(HQ.below b (by omega)).all;have fr:=(HQ.below b (by omega)).frozen;refine ry 11 (fun K hK=>?_);go_simp;refine hK.out _ _ (ag.keep (CR S (w.heap.size+1) x (by omega)) (CR S (w.heap.size+1) x (by omega)) (CR S (w.heap.size+1) x (by omega))) (fun _=>?_);clear hK K;refine FM ?_;go_wp2_with fail
 refine DO (v:=DS (x)) (by simp[results,results90,go_sem,C,r0,r1,r2,r3,r4,r5,r6,r7,r8,r9,aj,ak,AO,B5,CL]) rfl ?_;rw[(z q).1,(z q).2];obtain⟨m,d⟩:=Gf rfl (x) HB HO (by omega) hz (R.below b) (BG.Ay b);exact⟨rfl,_,_,_,m,d⟩
theorem bO(c B:Nat)(vT vS:V9)(U:Nat->Value)(D:Ds)(a:Ac)(w:Y)(hD:AQ 158 w c B vT vS U D)(hG:D.Good)(q:AY a=true)(b:a.op=1)(hf:D.nt≠100):Ee c B vT vS U D a w:=by
 have hT:B7 a.op=false:=by rw[b];decide
 have hS:Cp a.op=false:=by rw[b];decide
 have r:Hid (D.I6 a=B5 D.nt/\D.step a={D with nt:=D.nt+1,T:=AM D.T D.nt ⟨0,fun _=>default,0⟩}):=O (by
  have h0:FL a D.nt D.ns=0:=by simp[FL,q,B7,Cp,b]
  simp[Ds.I6,Ds.step,h0,Ds.Hh,Ds.FB,b,hf])
 have e5:((D.nt:Int)==100)=false:=by simp;omega
 have d1:(a.op==1)=true:=by simp[b]
 have d2:(a.op==2)=false:=by simp[b]
 have d3:(a.op==3)=false:=by simp[b]
 have d7:(a.op==7)=false:=by simp[b]
 have d8:(a.op==8)=false:=by simp[b]
 have d9:(a.op==9)=false:=by simp[b]
 have az:=O b;clear b;obtain⟨P,Q⟩:∃P,Cj a.k=P:=⟨_,rfl⟩;obtain⟨g,R⟩:∃g,Bw a.k=g:=⟨_,rfl⟩;have ae:=O Q;have af:=O R;clear Q R;clear hf;obtain⟨t,tc,rfl⟩:=Ao hD.tb;obtain⟨sa,sc,rfl⟩:=Ao hD.st;have aM:=hG.nt;have bb:=hG.ns;obtain⟨W,hW,u,hA,hR,hz⟩:=boxes w a;have HO:Hid (∀k,Bs c (.slice t D.nt tc) (.slice sa D.ns sc) U D.nt k->k<w.heap.size):=O (fun k h=>(hD.Lc h).2);have bc:=hD.lt;have x:=O (hD.below u);have HB:=O u;have HA:=O hA;have HQ:=O hR;have HG:=O hG;clear hD u hA hR hG
 go_enter func90,ntmps90
 go_wp2_with fail
 rw[<-hW];clear hW;refine(Ch a _).mono ?_;rw[q];rintro e w1 ⟨rfl,S⟩;have f:=O S;clear S;have ag:Hid (¬Bs c (.slice t D.nt tc) (.slice sa D.ns sc) U D.nt (w.heap.size+1)):=O (fun h=>by have:=z HO _ h;omega);have E:=f.size;have F:w.heap.size<w1.heap.size:=by omega
 have H:w.heap.size+1<w1.heap.size:=by omega
 have I:c<w1.heap.size:=by omega
 obtain⟨a0,a1,a2,a3,a4,a5,K,L,M,a9,j,l,a12,n⟩:=(HA.below f (by omega)).all;obtain⟨c0,c1⟩:=(x.below f).cells;go_wp2_with fail
 refine(BL a.op _).mono ?_;rw[hT,hS];rintro e w2 ⟨rfl,ew⟩;rw[ew];clear ew w2;go_wp2_with fail
 refine qr w1 ?_;refine N (h:=N (h:=?_));iterate 8 (go_big_quiet_step (fail))
 refine N (h:=?_);refine GO ?_;intro w2 o;clear E F H I a0 a1 a2 a3 a4 a5 K L M a9 j l a12 n c0 c1;have f:=O (f.trans (o.mono f.size));clear o;have E:=f.size;have F:w.heap.size<w2.heap.size:=by omega
 have H:w.heap.size+1<w2.heap.size:=by omega
 have I:c<w2.heap.size:=by omega
 obtain⟨a0,a1,a2,a3,a4,a5,K,L,M,a9,j,l,a12,n⟩:=(HA.below f (by omega)).all;obtain⟨c0,c1⟩:=(x.below f).cells;go_wp2_with fail
 refine qr w2 ?_;refine N (h:=N (h:=?_));iterate 8 (go_big_quiet_step (fail))
 refine N (h:=?_);refine GO ?_;intro w3 o;clear E F H I a0 a1 a2 a3 a4 a5 K L M a9 j l a12 n c0 c1;have f:=O (f.trans (o.mono f.size));clear o;have E:=f.size;have F:w.heap.size<w3.heap.size:=by omega
 have H:w.heap.size+1<w3.heap.size:=by omega
 have I:c<w3.heap.size:=by omega
 obtain⟨a0,a1,a2,a3,a4,a5,K,L,M,a9,j,l,a12,n⟩:=(HA.below f (by omega)).all;obtain⟨c0,c1⟩:=(x.below f).cells;go_wp2_with fail
 refine(DM a.k.kind a.k.num a.k.Ae a.k.str a.k.ref _).mono ?_;rw[BI,z ae,z af];rintro e w4 ⟨rfl,V⟩;clear E F H I a0 a1 a2 a3 a4 a5 K L M a9 j l a12 n c0 c1;have f:=O (f.trans (V.mono f.size));clear V;have E:=f.size;have F:w.heap.size<w4.heap.size:=by omega
 have H:w.heap.size+1<w4.heap.size:=by omega
 have I:c<w4.heap.size:=by omega
 obtain⟨a0,a1,a2,a3,a4,a5,K,L,M,a9,j,l,a12,n⟩:=(HA.below f (by omega)).all;obtain⟨c0,c1⟩:=(x.below f).cells;obtain⟨i0,ah,ai,aj,ak⟩:=Tn UR;have A:B9 W ((w4.alloc (.cells #[J P,J g.kind,J g.num,F9 g.Ae,.string g.str,J g.ref] 182)).alloc (.cells #[N9,J 0] 88)):=(f.alloc f.size _).alloc (by have:=f.size;simp;omega) _;have ao:=O (IH (IH (x.below f).tb (.cells #[J P,J g.kind,J g.num,F9 g.Ae,.string g.str,J g.ref] 182)) (.cells #[N9,J 0] 88));have aq:=O (x.base);have bd:B<=w4.heap.size+1+1:=by have:=z aq;omega
 have HF:Hid (∀g3 i w3,w3.ownsRow B 88 2 (S9 g3 (D.nt+1) i) (D.nt+1) (tL U D.T D.nt++[N9,J 0])->((w4.alloc (.cells #[J P,J g.kind,J g.num,F9 g.Ae,.string g.str,J g.ref] 182)).alloc (.cells #[N9,J 0] 88)).grownBy w3 (Value.slice t D.nt tc).ownBlock->((Value.slice t D.nt tc).ownBlock=some g3\/g3=w4.heap.size+1+1)->
   w3.cell? (G c 0)=some (.slice t D.nt tc)/\w3.frozen? (G c 0)=false/\c<w3.heap.size/\FK w3 (w.heap.size+1)/\AQ 158 (w3.setCell (G c 0) (S9 g3 (D.nt+1) i)) c B (S9 g3 (D.nt+1) i) (.slice sa D.ns sc) (AM U D.nt (N9)) {D with nt:=D.nt+1,T:=AM D.T D.nt ⟨0,fun _=>default,0⟩}/\BG (Bs c (.slice t D.nt tc) (.slice sa D.ns sc) U D.nt) W (Bs c (S9 g3 (D.nt+1) i) (.slice sa D.ns sc) (AM U D.nt (N9)) (D.nt+1)) (w3.setCell (G c 0) (S9 g3 (D.nt+1) i))):=O (fun g3 i w3 h1 h2 h3=>by
  obtain⟨k1,k2,k3⟩:=x.fP A h2 h1 (h3.imp id (fun e=>by omega));refine⟨by rw[NB w3 c 0 _ _ _ k1];rfl,by simp[World.frozen?,k1],Aj k1,?_,k2,k3⟩;have hq:=HQ.below A (by omega);exact(h2.block _ hq.lt (fun e=>ag (.inr (.inl e.symm)))).trans hq)
 have Cy:w.heap.size+1≠c:=by omega
 have X:c≠w.heap.size+1:=by omega
 clear A;go_wp2_with (first|(at_builtin;refine Aah _ rfl _ _ 79 rfl B 88 i0 jV 2 32 underlying79 ah ai aj ak rfl (by decide) (.slice t D.nt tc) D.nt (tL U D.T D.nt) rfl ao (Y9 w4 0) 1 1 [N9,J 0] rfl rfl (K7 w4 _ [N9,J 0] _) (by simp[Value.oneCell']) (by decide) (by unfold maxLen;omega) (by omega) (by simp;omega) (w4.heap.size+1+1) (by simp) ?_;intro g3 i w3 p s C ay;obtain⟨x0,x1,x2,x3,Z,ad⟩:=z HF g3 i w3 p s C;have ar:=O Z;have au:=O ad;obtain⟨r0,r1,r2,r3,r4,r5,r6,r7,r8,r9,av,aw⟩:=x3.all;have fr:=x3.frozen;have ax:=x3.lt;clear p s Z ad x3 c0 c1)|go_in)
 refine DO (v:=DS (B5 D.nt)) (by simp[results,results90,go_sem,ax,Cy,X,r0,r1,r2,r3,r4,r5,r6,r7,r8,r9,av,aw,AO,B5,CL]) rfl ?_;rw[(z r).1,(z r).2];obtain⟨m,d⟩:=Gf rfl (B5 D.nt) HB HO (by omega) hz ar au;exact⟨rfl,_,_,_,m,d⟩
theorem YS(c B:Nat)(vT vS:V9)(U:Nat->Value)(D:Ds)(a:Ac)(w:Y)(hD:AQ 158 w c B vT vS U D)(hG:D.Good)(t:AY a=true)(b:a.op=7)(hf:D.ns≠50):Ee c B vT vS U D a w:=by
 have hT:B7 a.op=false:=by rw[b];decide
 have hS:Cp a.op=false:=by rw[b];decide
 have u:Hid (D.I6 a=B5 D.ns/\D.step a={D with ns:=D.ns+1,S:=AM D.S D.ns a.k.str}):=O (by
  have h0:FL a D.nt D.ns=0:=by simp[FL,t,B7,Cp,b]
  simp[Ds.I6,Ds.step,h0,Ds.Hh,Ds.FB,b,hf])
 have e5:((D.ns:Int)==50)=false:=by simp;omega
 have d1:(a.op==1)=false:=by simp[b]
 have d2:(a.op==2)=false:=by simp[b]
 have d3:(a.op==3)=false:=by simp[b]
 have d7:(a.op==7)=true:=by simp[b]
 have d8:(a.op==8)=false:=by simp[b]
 have d9:(a.op==9)=false:=by simp[b]
 have bj:=O b;clear b;obtain⟨kc,T⟩:∃kc,Cj a.k=kc:=⟨_,rfl⟩;obtain⟨F,V⟩:∃F,Bw a.k=F:=⟨_,rfl⟩;have aj:=O T;have ak:=O V;clear T V;clear hf;obtain⟨Z,tc,rfl⟩:=Ao hD.tb;obtain⟨sa,sc,rfl⟩:=Ao hD.st;have bk:=hG.nt;have bm:=hG.ns;obtain⟨W,hW,H,hA,hR,hz⟩:=boxes w a;have HO:Hid (∀k,Bs c (.slice Z D.nt tc) (.slice sa D.ns sc) U D.nt k->k<w.heap.size):=O (fun k h=>(hD.Lc h).2);have bn:=hD.lt;have I:=O (hD.below H);have HB:=O H;have HA:=O hA;have HQ:=O hR;have HG:=O hG;clear hD H hA hR hG
 go_enter func90,ntmps90
 go_wp2_with fail
 rw[<-hW];clear hW;refine(Ch a _).mono ?_;rw[t];rintro e w1 ⟨rfl,af⟩;have f:=O af;clear af;have ao:Hid (¬Bs c (.slice Z D.nt tc) (.slice sa D.ns sc) U D.nt (w.heap.size+1)):=O (fun h=>by have:=z HO _ h;omega);have L:=f.size;have x:w.heap.size<w1.heap.size:=by omega
 have M:w.heap.size+1<w1.heap.size:=by omega
 have A:c<w1.heap.size:=by omega
 obtain⟨a0,a1,a2,a3,a4,a5,P,C,Q,a9,i,j,a12,l⟩:=(HA.below f (by omega)).all;obtain⟨c0,c1⟩:=(I.below f).cells;go_wp2_with fail
 refine(BL a.op _).mono ?_;rw[hT,hS];rintro e w2 ⟨rfl,ew⟩;rw[ew];clear ew w2;go_wp2_with fail
 refine qr w1 ?_;refine N (h:=N (h:=?_));iterate 8 (go_big_quiet_step (fail))
 refine N (h:=?_);refine GO ?_;intro w2 o;clear L x M A a0 a1 a2 a3 a4 a5 P C Q a9 i j a12 l c0 c1;have f:=O (f.trans (o.mono f.size));clear o;have L:=f.size;have x:w.heap.size<w2.heap.size:=by omega
 have M:w.heap.size+1<w2.heap.size:=by omega
 have A:c<w2.heap.size:=by omega
 obtain⟨a0,a1,a2,a3,a4,a5,P,C,Q,a9,i,j,a12,l⟩:=(HA.below f (by omega)).all;obtain⟨c0,c1⟩:=(I.below f).cells;go_wp2_with fail
 refine qr w2 ?_;refine N (h:=N (h:=?_));iterate 8 (go_big_quiet_step (fail))
 refine N (h:=?_);refine GO ?_;intro w3 o;clear L x M A a0 a1 a2 a3 a4 a5 P C Q a9 i j a12 l c0 c1;have f:=O (f.trans (o.mono f.size));clear o;have L:=f.size;have x:w.heap.size<w3.heap.size:=by omega
 have M:w.heap.size+1<w3.heap.size:=by omega
 have A:c<w3.heap.size:=by omega
 obtain⟨a0,a1,a2,a3,a4,a5,P,C,Q,a9,i,j,a12,l⟩:=(HA.below f (by omega)).all;obtain⟨c0,c1⟩:=(I.below f).cells;go_wp2_with fail
 refine(DM a.k.kind a.k.num a.k.Ae a.k.str a.k.ref _).mono ?_;rw[BI,z aj,z ak];rintro e w4 ⟨rfl,n⟩;clear L x M A a0 a1 a2 a3 a4 a5 P C Q a9 i j a12 l c0 c1;have f:=O (f.trans (n.mono f.size));clear n;have L:=f.size;have x:w.heap.size<w4.heap.size:=by omega
 have M:w.heap.size+1<w4.heap.size:=by omega
 have A:c<w4.heap.size:=by omega
 obtain⟨a0,a1,a2,a3,a4,a5,P,C,Q,a9,i,j,a12,l⟩:=(HA.below f (by omega)).all;obtain⟨c0,c1⟩:=(I.below f).cells;obtain⟨i0,aq,ar,au,av⟩:=Tn Xc;obtain⟨X,hX⟩:∃X,X=w4.alloc (.cells #[J kc,J F.kind,J F.num,F9 F.Ae,.string F.str,J F.ref] 182):=⟨_,rfl⟩;have n:B9 w4 X:=by rw[hX];exact(DD _ _).alloc (A0 _) _
 have r:Hid (B9 W X):=O (f.trans (n.mono f.size));have s:B9 W (X.alloc (.cells #[.string a.k.str] 9)).drew:=(r.alloc r.size _).drew;have aw:Hid ((X.alloc (.cells #[.string a.k.str] 9)).drew.ownsRow B 9 1 (.slice sa D.ns sc) D.ns (sL D.S D.ns)):=O (World.ownsRow.drew (IH (I.below r).st (.cells #[.string a.k.str] 9)));have zX:=r.size;have bp:B<=X.heap.size+1:=by have:=I.base;omega
 have xk:X.cell? (y w 7)=some (.string a.k.str):=(n.cell (p:=(y w 7)) x).trans C;have xc:X.cell? (G c 1)=some (.slice sa D.ns sc):=(n.cell (p:=(G c 1)) A).trans c1;have HF:Hid (∀g3 g w3,w3.ownsRow B 9 1 (S9 g3 (D.ns+1) g) (D.ns+1) (sL D.S D.ns++[.string a.k.str])->((X.alloc (.cells #[.string a.k.str] 9)).drew).grownBy w3 (Value.slice sa D.ns sc).ownBlock->((Value.slice sa D.ns sc).ownBlock=some g3\/g3=X.heap.size+1)->
   w3.cell? (G c 1)=some (.slice sa D.ns sc)/\w3.frozen? (G c 1)=false/\c<w3.heap.size/\FK w3 (w.heap.size+1)/\w3.cell? (y w 7)=some (.string a.k.str)/\AQ 158 (w3.setCell (G c 1) (S9 g3 (D.ns+1) g)) c B (.slice Z D.nt tc) (S9 g3 (D.ns+1) g) U {D with ns:=D.ns+1,S:=AM D.S D.ns a.k.str}/\BG (Bs c (.slice Z D.nt tc) (.slice sa D.ns sc) U D.nt) W (Bs c (.slice Z D.nt tc) (S9 g3 (D.ns+1) g) U D.nt) (w3.setCell (G c 1) (S9 g3 (D.ns+1) g))):=O (fun g3 g w3 h1 h2 h3=>by
  obtain⟨k1,k2,k3⟩:=I.fO a.k.str s h2 h1 (h3.imp id (fun e=>by omega));have hq:=HQ.below s (by omega);have hA:=HA.below s (by omega);refine⟨by rw[NB w3 c 1 _ _ _ k1];rfl,by simp[World.frozen?,k1],Aj k1,?_,?_,k2,k3⟩
  ·exact(h2.block _ hq.lt (fun e=>ao (.inr (.inr (.inl e.symm))))).trans hq
  ·have ax:OW w3 w.heap.size a:=(h2.block _ hA.lt (fun e=>by have:=z HO w.heap.size (.inr (.inr (.inl e.symm)));omega)).trans hA;exact ax.all.2.2.2.2.2.2.2.1)
 have Cy:w.heap.size+1≠c:=by omega
 have ad:c≠w.heap.size+1:=by omega
 have ae:c≠w.heap.size:=by omega
 have ay:c<X.heap.size:=by omega
 have ag:w.heap.size<X.heap.size:=by omega
 go_wp2_with fail
 rw[<-hX];clear L x M A a0 a1 a2 a3 a4 a5 P C Q a9 i j a12 l c0 c1;clear hX s n;refine H9 (fun W'=>W'.cell? (y w 7)=some (.string a.k.str)) ?_;have az:X.drew.cell? (y w 7)=some (.string a.k.str):=xk;refine tz 0 (h:=tz 1 (h:=tz 2 (h:=tz 3 (h:=tz 5 (h:=tz 6 (h:=tz 7 (h:=?_)))))));refine AaG (rs:=[4,8]) (by kernel_rfl) (by simp) ?_;refine RC rfl (fun K hK=>?_) (RC rfl (fun K hK=>?_) AaI)
 focus
  go_simp;refine hK.out _ _ az (fun _=>?_);clear hK K;refine ry 8 (fun K hK=>?_);go_simp;refine hK.out _ _ (by simp[go_sem,ag,xk]) (fun _=>?_)
 rotate_left
 focus
  go_simp;refine hK.out _ _ (by simp[go_sem,ag,xk]) (fun aM=>?_);clear hK K;have xY:(X.alloc (.cells #[.string a.k.str] 9)).cell? (G c 1)=some (.slice sa D.ns sc):=by simp[go_sem,ay,xc]
  refine ry 4 (fun K hK=>?_);go_simp;refine hK.out _ _ aM (fun _=>?_)
 rotate_left;all_goals
  clear hK K;refine ry 9 (fun K hK=>?_);refine Aap _ rfl (.tmp 100) (.tmp 104) 99 rfl B 9 i0 (E9) 1 16 underlying99 aq ar au av rfl (by decide) (.slice sa D.ns sc) D.ns (sL D.S D.ns) (by simp[Act.eval]) aw (y X 0) 1 1 [.string a.k.str] (by simp[Act.eval]) rfl (GP (w:=(X.alloc (.cells #[.string a.k.str] 9)).drew) (BE X _)) (by simp[Value.oneCell']) (by decide) (by unfold maxLen;omega) (by omega) (by simp;omega) (X.heap.size+1) (by simp) ?_;intro g3 g w3 q E R bh;obtain⟨x0,x1,x2,x3,x4,ah,ai⟩:=z HF g3 g w3 q E R;have bb:=O ah;have bc:=O ai;clear q E ah ai;refine hK.out _ _ x4 (fun _=>?_);clear hK K;refine tz 10 (h:=tz 11 (h:=?_));refine ry 12 (fun K hK=>?_);go_simp;refine hK.out _ _ ?_ (fun _=>?_)
  ·exact(World.cell?_setCell_far _ _ _ _ (by exact ae)).trans x4
  clear hK K;refine FM ?_;obtain⟨r0,r1,r2,r3,r4,r5,r6,r7,r8,r9,bd,bf⟩:=x3.all;have fr:=x3.frozen;have bg:=x3.lt;clear x3 x4;go_wp2_with fail
  refine DO (v:=DS (B5 D.ns)) (by simp[results,results90,go_sem,bg,Cy,ad,r0,r1,r2,r3,r4,r5,r6,r7,r8,r9,bd,bf,AO,B5,CL]) rfl ?_;rw[(z u).1,(z u).2];obtain⟨m,d⟩:=Gf rfl (B5 D.ns) HB HO (by omega) hz bb bc;exact⟨rfl,_,_,_,m,d⟩
theorem Xh(c B:Nat)(vT vS:V9)(U:Nat->Value)(D:Ds)(a:Ac)(w:Y)(hD:AQ 158 w c B vT vS U D)(d:D.Good):Ee c B vT vS U D a w:=by
 by_cases b:AY a=true
 ·obtain⟨⟨o1,q⟩,o,_,p,_,_⟩:=Td b;by_cases h1:a.op=1
  ·by_cases hf:D.nt=100
   ·exact Wu c B vT vS U D a w hD d b h1 hf
   ·exact bO c B vT vS U D a w hD d b h1 hf
  by_cases l:a.op=7
  ·by_cases hf:D.ns=50
   ·exact Wv c B vT vS U D a w hD d b l hf
   ·exact YS c B vT vS U D a w hD d b l hf
  have n:B7 a.op=true:=by simp[B7,h1,l]
  by_cases h2:(D.nt:Int)<=a.t
  ·exact eV c B vT vS U D a w hD d b n h2
  have f:a.t<(D.nt:Int):=by omega
  have e:a.t.toNat<D.nt:=by omega
  have et:a.t=(a.t.toNat:Int):=by omega
  by_cases m:Cp a.op=true
  ·by_cases h3:(D.ns:Int)<=a.site
   ·exact eW c B vT vS U D a w hD d b n m f h3
   ·have g:a.site.toNat<D.ns:=by omega
    have es:a.site=(a.site.toNat:Int):=by omega
    have i:a.op=8\/a.op=9:=by simpa[Cp]using m
    rcases i with h|h
    ·exact Ws c B vT vS U D a w hD d b h _ et e _ es g
    ·exact Qe c B vT vS U D a w hD d b h _ et e _ es g
  ·have i:a.op≠8/\a.op≠9:=by simpa[Cp]using m
   by_cases j:a.op=2\/a.op=3
   ·by_cases h4:Cj a.k=0
    ·rcases j with h|h
     ·exact bP c B vT vS U D a w hD d b h _ et e h4
     ·exact bN c B vT vS U D a w hD d b h _ et e h4
    ·exact eY c B vT vS U D a w hD d b j f h4
   ·exact bM c B vT vS U D a w hD d b (by omega) _ et e
 ·exact eT c B vT vS U D a w hD d (by simpa using b)
structure NW (ty:TypeId) (w:Y) (c ob rb:Nat) (f:Nat->Ac) (q:Nat) (va vT vS:V9) (U:Nat->Value) (wr:Y):Prop where
 dm:AQ ty wr c w.heap.size vT vS U (FR f q)
 row:IZ wr w.heap.size va q (FN f)
 apart:∀k,va.ownBlock=some k->¬Bs c vT vS U (FR f q).nt k
 Zs:wr.heap[ob]?=some (.cells #[.bool true,va,N9] 81 (0,0))
 cZ:wr.heap[rb]?=some (.cells #[.bool false,N9,N9] 81 (0,0))
 fS:∀k,Bs c vT vS U (FR f q).nt k->k≠ob/\k≠rb
 vn:∀k,va.ownBlock=some k->k≠ob/\k≠rb
 below:B9 w wr
theorem NW.step{ty:TypeId}{w:Y}{c ob rb:Nat}{f:Nat->Ac}{q:Nat}{va vT vS d g:V9}{U U':Nat->Value}{wr w2 w3 w4 l:Y}{g3 i:Nat}(h:NW ty w c ob rb f q va vT vS U wr)
  (C:w.heap.size<=ob) (x:ob≠rb) (h2:B9 wr w2) (D:AQ ty w3 c w.heap.size d g U' (FR f (q+1))) (hD:BG (Bs c vT vS U (FR f q).nt) w2 (Bs c d g U' (FR f (q+1)).nt) w3)
  (h4:B9 w3 w4) (h5:w4.grownBy l va.ownBlock) (m:l.ownsRow w.heap.size 45 12 (.slice (some (G g3 0)) (q+1) i) (q+1) (Mf (FN f) q++EX (FN f q))) (b:va.ownBlock=some g3\/g3=w4.heap.size):
  NW ty w c ob rb f (q+1) (.slice (some (G g3 0)) (q+1) i) d g U' (l.setCell (G ob 1) (.slice (some (G g3 0)) (q+1) i)):=by
 have n:=Aj h.Zs;have o:=Aj h.cZ;have z2:=h2.size;have z3:=hD.size;have z4:=h4.size;have z5:=h5.size;have p:¬Bs c vT vS U (FR f q).nt ob:=fun e=>(h.fS ob e).1 rfl
 have r:¬Bs c vT vS U (FR f q).nt rb:=fun e=>(h.fS rb e).2 rfl
 have s:va.ownBlock≠some ob:=fun e=>(h.vn ob e).1 rfl
 have t:va.ownBlock≠some rb:=fun e=>(h.vn rb e).2 rfl
 have A:∀k,k<wr.heap.size->¬Bs c vT vS U (FR f q).nt k->va.ownBlock≠some k->l.heap[k]?=wr.heap[k]?:=fun k hk hn B=>(h5.block k (by omega) (fun e=>B e.symm)).trans ((h4.block k (by omega)).trans ((hD.block k (by omega) hn).trans (h2.block k hk)))
 have E:l.heap[ob]?=some (.cells #[.bool true,va,N9] 81 (0,0)):=(A ob n p s).trans h.Zs;have j:=h.row.lt;have DQ:∀k,Bs c d g U' (FR f (q+1)).nt k->k≠ob/\k≠rb/\(∀k',va.ownBlock=some k'->k≠k')/\k<w3.heap.size:=fun k hk=>by
  refine⟨?_,?_,?_,(D.Lc hk).2⟩
  ·intro e;subst e;rcases hD.own _ hk with h1|h1
   ·exact p h1
   ·omega
  ·intro e;subst e;rcases hD.own _ hk with h1|h1
   ·exact r h1
   ·omega
  ·intro k' e1 e;subst e;rcases hD.own _ hk with h1|h1
   ·exact h.apart _ e1 h1
   ·have:=(j _ e1).2;omega
 have u:g3≠ob:=fun e=>by
  rcases b with h1|h1
  ·exact s (e▸h1)
  ·omega
 have v:g3≠rb:=fun e=>by
  rcases b with h1|h1
  ·exact t (e▸h1)
  ·omega
 refine⟨D.keep fun k hk=>?_,?_,?_,E5 E _,?_,fun k hk=>⟨(DQ k hk).1,(DQ k hk).2.1⟩,fun k e=>?_,?_⟩
 ·have a:=DQ k hk;have F:=a.2.2.2;exact(At _ _ _ _ (by exact a.1)).trans ((h5.block k (by omega) (fun e=>a.2.2.1 k e.symm rfl)).trans (h4.block k a.2.2.2))
 ·show World.ownsRow _ _ _ _ _ _ (Mf (FN f) q++EX (FN f q));exact Ai m fun k e=>by cases e;exact At _ _ _ _ (by exact u)
 ·intro k e hk;cases e;have a:=DQ _ hk;rcases b with h1|h1
  ·exact a.2.2.1 _ h1 rfl
  ·have h2:g3<w3.heap.size:=a.2.2.2;omega
 ·exact(At _ _ _ _ (by exact fun e=>x e.symm)).trans ((A rb o r t).trans h.cZ)
 ·cases e;exact⟨u,v⟩
 ·have hs:=FE l (G ob 1) (.slice (some (G g3 0)) (q+1) i);have hb:=h.below;refine⟨by rw[hs.1,h5.os,h4.os,hD.os,h2.os,hb.os],by rw[hs.2.1,h5.tape,h4.tape,hD.tape,h2.tape,hb.tape],by rw[hs.2.2.1,h5.output,h4.output,hD.output,h2.output,hb.output],by rw[hs.2.2.2];have:=hb.size;omega,fun k hk=>?_⟩;have hn:¬Bs c vT vS U (FR f q).nt k:=fun e=>by have:=(h.dm.Lc e).1;omega
  have B:va.ownBlock≠some k:=fun e=>by have:=(j k e).1;omega
  exact(At _ _ _ _ (by show k≠ob;omega)).trans ((A k (Be hk hb.size) hn B).trans (hb.block k hk))
structure Z7 (ty:TypeId) (w w':Y) (c n:Nat) (f:Nat->Ac) (va vT vS:V9) (U:Nat->Value):Prop where
 dm:AQ ty w' c w.heap.size vT vS U (FR f n)
 row:IZ w' w.heap.size va n (FN f)
 apart:∀k,va.ownBlock=some k->¬Bs c vT vS U (FR f n).nt k
 below:B9 w w'
theorem Ly(v:V9)(n:Nat)(f:Nat->Ac)(w:Y)(hA:Ud w v n f)(hn:n<=1000):
  C9 37 #[v] w fun e w'=>∃c va vT vS U,e=.returned (gP true va vT)/\Z7 158 w w' c n f va vT vS U:=by
 obtain⟨W,L⟩:∃W,W=((w.alloc (.cells #[.bool false,N9,N9] 81)).alloc (.cells #[N9,N9] 158)).alloc (.cells #[.bool true,N9,N9] 81):=⟨_,rfl⟩;have M:B9 w W:=by rw[L];exact((n9).alloc (by simp) _).alloc (by simp;omega) _
 have P:W.heap[w.heap.size]?=some (.cells #[.bool false,N9,N9] 81 (0,0)):=by
  rw[L,Fs _ _ _ (by simp;omega),Fs _ _ _ (by simp)];exact BE _ _
 have hc:W.heap[w.heap.size+1]?=some (.cells #[N9,N9] 158 (0,0)):=by
  rw[L,Fs _ _ _ (by simp)];have h:=BE (w.alloc (.cells #[.bool false,N9,N9] 81)) (.cells #[N9,N9] 158);rw[show(w.alloc (.cells #[.bool false,N9,N9] 81)).heap.size=w.heap.size+1 by simp]at h;exact h
 have Q:W.heap[w.heap.size+1+1]?=some (.cells #[.bool true,N9,N9] 81 (0,0)):=by
  have h:=BE ((w.alloc (.cells #[.bool false,N9,N9] 81)).alloc (.cells #[N9,N9] 158)) (.cells #[.bool true,N9,N9] 81);rw[show((w.alloc (.cells #[.bool false,N9,N9] 81)).alloc (.cells #[N9,N9] 158)).heap.size=w.heap.size+1+1 by simp]at h;rw[L];exact h
 have H0:Hid (NW 158 w (w.heap.size+1) (w.heap.size+1+1) w.heap.size f 0 (N9) (N9) (N9) (fun _=>N9) W):=O
  ⟨eR (by omega) hc,ON _ _ _ _,by simp[Value.ownBlock],Q,P,fun k h=>by
   rcases h with h|h|h|⟨i,hi,h⟩
   ·omega
   ·simp[Value.ownBlock]at h
   ·simp[Value.ownBlock]at h
   ·exact absurd hi (NO _),by simp[Value.ownBlock],M⟩
 obtain⟨ab,bc,rfl,B,hcs⟩:=hA;have ae:=O hcs;obtain⟨i0,af,ag,ah,ai⟩:=Tn TF;have d0:decide ((1000:Int)<(n:Int))=false:=by simp;omega
 clear hcs M P hc Q
 go_enter func37,ntmps37
 go_wp2_with fail
 rw[<-L];clear L;go_loopw [17] (fun ix wr=>∃(q:Nat) (va vT vS:V9) (U:Nat->Value),q<=n/\ix=J q/\NW 158 w (w.heap.size+1) (w.heap.size+1+1) w.heap.size f q va vT vS U wr) (fun ix _=>n-(intOf ix).toNat)
 case atStart=>exact⟨0,_,_,_,_,P9 _,rfl,H0⟩
 case round=>
  obtain⟨q,va,vT,vS,U,hq,rfl,b⟩:=hrel;have g:=O b;have a8:ab<wr.heap.size:=Be B b.below.size;by_cases aj:q<n
  ·have a:∀j u,(Bn (f q)).toList[j]?=some u->wr.cell? (G ab (q*14+j))=some u:=fun j u hu=>(b.below.cell (p:=(G ab (q*14+j))) B).trans (ae q aj j u hu)
   have b0:=a 0 _ rfl;have b1:=a 1 _ rfl;have b2:=a 2 _ rfl;have b3:=a 3 _ rfl;have b4:=a 4 _ rfl;have b5:=a 5 _ rfl;have b6:=a 6 _ rfl;have b7:=a 7 _ rfl;have b8:=a 8 _ rfl;have b9:=a 9 _ rfl;have ak:=a 10 _ rfl;have ao:=a 11 _ rfl;have aq:=a 12 _ rfl;have ar:=a 13 _ rfl;rw[Nat.add_zero]at b0;clear b a;go_wp2_with fail
   have bd:=O (g.below);refine(Xh (w.heap.size+1) w.heap.size vT vS U (FR f q) (f q) _ (g.dm.below (n9)) (Ju f q)).mono ?_;rintro e w3 ⟨rfl,D,E,U',R,F⟩;have au:Hid (AQ 158 w3 (w.heap.size+1) w.heap.size D E U' (FR f (q+1))):=O R;have H:Hid (BG (Bs (w.heap.size+1) vT vS U (FR f q).nt) (wr.alloc (.cells (Bn (f q)) 51)) (Bs (w.heap.size+1) D E U' (FR f (q+1)).nt) w3):=O F;obtain⟨x,hx⟩:∃x,FN f q=x:=⟨_,rfl⟩;rw[show(FR f q).I6 (f q)=x from hx,show DS x=eE x from rfl];have av:=O hx;have z3:wr.heap.size+1<=w3.heap.size:=by have:=F.size;simpa using this
   clear R F hx b0 b1 b2 b3 b4 b5 b6 b7 b8 b9 ak ao aq ar;have aw:w.heap.size+1+1<wr.heap.size:=Aj g.Zs;have S:Hid (∀w4,B9 w3 w4->w4.heap[w.heap.size+1+1]?=some (.cells #[.bool true,va,N9] 81 (0,0))):=O (fun w4 h4=>(h4.block _ (by omega)).trans ((H.block _ (by simp;omega) (fun e=>(g.fS _ e).1 rfl)).trans ((Fs _ _ _ aw).trans g.Zs)));have T:Hid (∀w4,B9 w3 w4->IZ w4 w.heap.size va q (FN f)):=O (fun w4 h4=>Ai g.row fun k e=>by
    have hk:=(g.row.lt k e).2;exact(h4.block _ (by omega)).trans ((H.block _ (by simp;omega) (fun e2=>g.apart k e e2)).trans (Fs _ _ _ hk)))
   have HF:Hid (∀w4,w4=w3.alloc (.cells (EX x).toArray 45)->B9 w3 w4/\w4.heap[w3.heap.size]?=some (.cells (EX x).toArray 45 (0,0))):=O (fun w4 h=>by
    exact⟨by rw[h];exact(DD _ _).alloc (A0 _) _,by rw[h];exact BE _ _⟩)
   go_simp
   rename_i ax
   refine ax _ _ ?_;refine wpList_plain rfl fun K hK=>?_
   go_simp;refine hK _ _ ?_;clear hK K;refine Ak rfl rfl _ (X8 w3 x) ?_;generalize V:w3.alloc (.cells (EX x).toArray 45)=w4;obtain⟨l,I⟩:=z HF _ V.symm;have bf:=O l;have z4:=Aj I;have o4:=z S w4 l;have X:w.heap.size+1+1<w4.heap.size:=Aj o4;have o1:w4.cell? (G (w.heap.size+1+1) 1)=some va:=by rw[NB w4 _ 1 _ _ _ o4];rfl
   have s:=Ui I;have s0:=s 0 _ rfl;have s1:=s 1 _ rfl;have s2:=s 2 _ rfl;have s3:=s 3 _ rfl;have s4:=s 4 _ rfl;have s5:=s 5 _ rfl;have s6:=s 6 _ rfl;have s7:=s 7 _ rfl;have s8:=s 8 _ rfl;have s9:=s 9 _ rfl;have bg:=s 10 _ rfl;have bh:=s 11 _ rfl;have ay:Hid ((w4.alloc (.cells (EX x).toArray 45)).ownsRow w.heap.size 45 12 va q (Mf (FN f) q)):=O (IH (T w4 l) _);have zb:w.heap.size<=w4.heap.size+1:=by omega
   have az:Hid (∀g3 d r,r.ownsRow w.heap.size 45 12 (S9 g3 (q+1) d) (q+1) (Mf (FN f) q++EX x)->(w4.alloc (.cells (EX x).toArray 45)).grownBy r va.ownBlock->(va.ownBlock=some g3\/g3=w4.heap.size+1)->
     r.heap[w.heap.size+1+1]?=some (.cells #[.bool true,va,N9] 81 (0,0))/\NW 158 w (w.heap.size+1) (w.heap.size+1+1) w.heap.size f (q+1) (S9 g3 (q+1) d) D E U' (r.setCell (G (w.heap.size+1+1) 1) (S9 g3 (q+1) d))):=O (fun g3 d r k1 k2 k3=>by
    have aM:B9 w3 (w4.alloc (.cells (EX x).toArray 45)):=l.alloc (by omega) _;refine⟨(k2.block _ (by simp;omega) (fun e=>(g.vn _ e.symm).1 rfl)).trans ((Fs _ _ _ X).trans o4),?_⟩;exact g.step (by omega) (by omega) ((DD _ _).alloc (A0 _) (.cells (Bn (f q)) 51)) au H aM k2 (by rw[z av];exact k1) (k3.imp id (fun e=>by rw[e];simp)))
   clear V l I HF S T s o4;go_wp2_with (first|(at_builtin;refine Aah _ rfl _ _ 60 rfl w.heap.size 45 i0 (.agg Ns) 12 112 underlying60 af ag ah ai rfl (by decide) va q (Mf (FN f) q) rfl ay (G w4.heap.size 0) 1 1 (EX x) rfl rfl (GP (BE w4 _)) (Pc x) (by decide) (by unfold maxLen;omega) (by omega) (by simp;omega) (w4.heap.size+1) (by simp) ?_;intro g3 d r m C o bb;obtain⟨o5,Z⟩:=z az g3 d r m C o;have a6:=O Z;have bj:=Aj o5;have bk:r.cell? (G (w.heap.size+1+1) 1)=some va:=(by rw[NB r _ 1 _ _ _ o5];rfl);have bm:r.frozen? (G (w.heap.size+1+1) 1)=false:=(by simp[World.frozen?,o5]);clear m C o Z o5)|go_in)
   go_roundw
   case rel=>exact⟨q+1,_,_,_,_,by omega,by go_num,a6⟩
   case measure=>simp[intOf];omega
  ·have a7:q=n:=by omega
   subst a7;obtain⟨c0,c1⟩:=b.dm.cells;have zc:=b.dm.lt;have zo:=Aj b.Zs;have zr:=Aj b.cZ;obtain⟨ta,tcp,rfl⟩:=Ao b.dm.tb;obtain⟨t,A,rfl⟩:=Ao b.row;have o0:wr.cell? (G (w.heap.size+1+1) 0)=some (.bool true):=by rw[NB wr _ 0 _ _ _ b.Zs];rfl
   have o1:wr.cell? (G (w.heap.size+1+1) 1)=some (.slice t q A):=by rw[NB wr _ 1 _ _ _ b.Zs];rfl
   have o2:wr.cell? (G (w.heap.size+1+1) 2)=some (N9):=by rw[NB wr _ 2 _ _ _ b.Zs];rfl
   have p0:wr.cell? (G w.heap.size 0)=some (.bool false):=by rw[NB wr _ 0 _ _ _ b.cZ];rfl
   have p1:wr.cell? (G w.heap.size 1)=some (N9):=by rw[NB wr _ 1 _ _ _ b.cZ];rfl
   have p2:wr.cell? (G w.heap.size 2)=some (N9):=by rw[NB wr _ 2 _ _ _ b.cZ];rfl
   have fo:∀j,wr.frozen? (G (w.heap.size+1+1) j)=false:=fun j=>by simp[World.frozen?,b.Zs]
   have fp:∀j,wr.frozen? (G w.heap.size j)=false:=fun j=>by simp[World.frozen?,b.cZ]
   have ad:Hid (∀w',(∀k,k≠w.heap.size+1+1->k≠w.heap.size->w'.heap[k]?=wr.heap[k]?)->w'.os=wr.os->w'.tape=wr.tape->w'.output=wr.output->w'.heap.size=wr.heap.size->Z7 158 w w' (w.heap.size+1) q f (.slice t q A) (.slice ta (FR f q).nt tcp) vS U):=O (fun w' hk h1 h2 h3 h4=>
    ⟨b.dm.keep fun k G4=>hk k (b.fS k G4).1 (b.fS k G4).2,Ai b.row fun k e=>hk k (b.vn k e).1 (b.vn k e).2,b.apart,⟨by rw[h1,b.below.os],by rw[h2,b.below.tape],by rw[h3,b.below.output],by rw[h4];exact b.below.size,fun k G4=>(hk k (by omega) (by omega)).trans (b.below.block k G4)⟩⟩)
   clear b g;go_wp2_with fail
   refine DO (v:=gP true (.slice t q A) (.slice ta (FR f q).nt tcp)) (by simp[results,results37,go_sem,p0,p1,p2]) rfl ⟨w.heap.size+1,.slice t q A,.slice ta (FR f q).nt tcp,vS,U,rfl,ad _ ?_ ?_ ?_ ?_ ?_⟩
   ·intro k h1 h2;repeat rw[At _ _ _ _ (by first|exact h1|exact h2)]
   all_goals first|rfl|(simp;done)
def Wt(t:TypeId):Prop:=t=45\/t=43\/t=96
structure Kp (B:Nat) (w w':Y):Prop where
 os:w'.os=w.os
 tape:w'.tape=w.tape
 output:w'.output=w.output
 size:w'.heap.size=w.heap.size
 low:∀b,b<B->w'.heap[b]?=w.heap[b]?
 BR:∀(b:Nat) (cs:Array Value) (t:TypeId) (z:Nat×Nat),w.heap[b]?=some (.cells cs t z)->∃a:Array Value,w'.heap[b]?=some (.cells a t z)/\a.size=cs.size/\(Wt t\/a=cs)
def Rz(w:Y)(T:TypeId)(b m:Nat):Prop:=∃cs,w.heap[b]?=some (.cells cs T (0,0))/\m<=cs.size
theorem Kp.refl(B:Nat)(w:Y):Kp B w w:=⟨rfl,rfl,rfl,rfl,fun _ _=>rfl,fun b cs t Z h=>⟨cs,h,rfl,.inr rfl⟩⟩
theorem T2{w:Y}{g q:Nat}{u:V9}{cs:Array Value}{t:TypeId}{Z:Nat×Nat}(hg:w.heap[g]?=some (.cells cs t Z)):(w.setCell (G g q) u).heap[g]?=some (.cells (cs.setIfInBounds q u) t Z):=by
 simp[World.setCell,Array.getElem?_modify,hg]
theorem Kp.cell{B:Nat}{w w':Y}(h:Kp B w w'){g:Nat}{cs:Array Value}{t:TypeId}{Z:Nat×Nat}(hg:w'.heap[g]?=some (.cells cs t Z))(f:B<=g)(c:Wt t)(q:Nat)(u:V9):Kp B w (w'.setCell (G g q) u):=by
 refine⟨h.os,h.tape,h.output,(Deep.nblk_setCell _ _ _).trans h.size,fun b hb=>(At _ _ _ _ (by show b≠g;omega)).trans (h.low b hb),fun b a t0 z0 d=>?_⟩;obtain⟨c1,e1,s1,o1⟩:=h.BR b a t0 z0 d;by_cases e:b=g
 ·subst e;rw[e1]at hg;cases hg;exact⟨_,T2 e1,by simp[s1],.inl c⟩
 ·exact⟨c1,(At _ _ _ _ e).trans e1,s1,o1⟩
theorem Kp.SD{B g m:Nat}{w:Y}{T:TypeId}(a:B<=g)(b:Wt T):∀(us:List Value) (w':Y) (q:Nat),Kp B w w'->Rz w' T g m->Kp B w (SD g w' q us)
 |[],_,_,h,_=>h
 |u::us,w',q,h,c=>by
  obtain⟨cs,e,d⟩:=c;exact Kp.SD a b us _ _ (h.cell e a b q u) ⟨_,T2 e,by simpa using d⟩
theorem Kp.same{B:Nat}{w w':Y}(h:Kp B w w'){b:Nat}{cs:Array Value}{t:TypeId}{Z:Nat×Nat}(hb:w.heap[b]?=some (.cells cs t Z))(a:¬Wt t):w'.heap[b]?=w.heap[b]?:=by
 obtain⟨c1,e1,_,o⟩:=h.BR _ _ _ _ hb;rcases o with o|o
 ·exact(a o).elim
 ·rw[e1,o,hb]
theorem Kp.below{B:Nat}{w w':Y}(h:Kp B w w'):Below B w w':=⟨h.os,h.tape,h.output,Nat.le_of_eq h.size.symm,h.low⟩
theorem Rz.kp{B:Nat}{w w':Y}{T:TypeId}{b m:Nat}(a:Rz w T b m)(h:Kp B w w'):Rz w' T b m:=by
 obtain⟨cs,e,c⟩:=a;obtain⟨c1,e1,s1,_⟩:=h.BR _ _ _ _ e;exact⟨c1,e1,by omega⟩
theorem Rz.cell{w:Y}{T:TypeId}{b m:Nat}(c:Rz w T b m){j:Nat}(hj:j<m):(∃Z,w.cell? (G b j)=some Z)/\w.frozen? (G b j)=false:=by
 obtain⟨cs,e,d⟩:=c;have a:j<cs.size:=by omega
 exact⟨⟨cs[j],by simp[World.cell?,e,a]⟩,by simp[World.frozen?,e]⟩
theorem Rz.lt{w:Y}{T:TypeId}{b m:Nat}(a:Rz w T b m):b<w.heap.size:=by
 obtain⟨cs,e,c⟩:=a;exact(E1.1 e).1
theorem XT{w:Y}{T:TypeId}{b Z m:Nat}{g:Nat->Value}(h:w.rowIs b T Z g)(a:m<=Z):Rz w T b m:=by
 obtain⟨c,h1,h2,_⟩:=h;exact⟨c,h1,by omega⟩
theorem O5.rz{f:Nat->Vl}{n:Nat}{w:Y}{v:V9}{lo hi:Nat}(h:O5 f n w v lo hi):∃a c,v=.slice a n c/\(0<n->∃b,a=some (G b 0)/\lo<=b/\Rz w 43 b (n*5)):=by
 rcases h with⟨rfl,rfl⟩|⟨b,d,Z,g,rfl,h2,h3,h4,h5,e⟩
 ·exact⟨_,_,rfl,fun h=>by omega⟩
 ·exact⟨_,_,rfl,fun _=>⟨b,rfl,h2,XT h4 h5⟩⟩
theorem Lj.rz{f:Nat->Pr}{n:Nat}{w:Y}{v:V9}{lo hi:Nat}(h:Lj f n w v lo hi):∃a c,v=.slice a n c/\(0<n->∃b,a=some (G b 0)/\lo<=b/\Rz w 96 b (n*11)):=by
 rcases h with⟨rfl,rfl⟩|⟨b,d,Z,g,rfl,h2,h3,h4,h5,e⟩
 ·exact⟨_,_,rfl,fun h=>by omega⟩
 ·exact⟨_,_,rfl,fun _=>⟨b,rfl,h2,XT h4 h5⟩⟩
theorem cV{w:Y}{B n Z c:Nat}{e:TypeId}{a:Option Addr}{xs:List Value}(h:w.ownsRow B e Z (.slice a n c) n xs)(hn:0<n):∃b,a=some (G b 0)/\B<=b/\Rz w e b (n*Z):=by
 obtain⟨hl,⟨f,i⟩|⟨g,cap,cur,f,hb,d,h1,h2,h3,h4⟩⟩:=h
 ·omega
 ·cases f;exact⟨g,rfl,hb,cur,d,by rw[h3];exact Nat.mul_le_mul_right _ h1⟩
theorem Uf.kF{lo hi nt tc:Nat}{a:Option Addr}{w:Y}{vF vS:V9}{s:AV}{H:Nat->Hs}(h:Uf lo hi w vF (.slice a nt tc) vS s H)(hn:0<s.nt):∃tb cs,a=some (G tb 0)/\w.heap[tb]?=some (.cells cs 94 (0,0))/\∀i,i<s.nt->YG lo hi w tb (i*8) (H i) (s.T i):=by
 rcases h.t with⟨f,_⟩|⟨b,j,Z,g,d,h2,h3,⟨c,h4,_,_⟩,h5,e,k⟩
 ·omega
 ·cases d;exact⟨b,c,rfl,h4,e⟩
section
open Go.RowKit Go.Shelf
attribute [local go_sem] Oper.semAt_some
theorem R3(la:T9)(lc:Nat)(ia:T9)(ic:Nat)(xa:T9)(xc:Nat)(d:Dc)(w:Y)(hT:A8 w)(hA:Gy w la ia xa d)(hS:Small d)(hW:Rp d)(hk:CE d (hD d)=0):
  C9 158 #[Dv la lc ia ic xa xc d] w fun e w'=>(∃v,e=.returned v/\Ci w' w.heap.size v (II d) (DX d))/\B9 w w':=by
 obtain⟨i0,R,T,U,V⟩:=Tn Gi;have br:=hS.n;have HA:=O hA;have HS:=O hS;have HW:=O hW;have HT:=O hT;have HK:=O hk;have av:=O (JW hk);clear hA hS hW hT hk;have aw:B9 w (w.alloc (.cells #[.slice la d.n lc,.slice ia d.m ic,.slice xa d.x xc,J d.used,J d.live,J d.turns] 92)):=n9;have af:=O aw;clear aw;refine(VC (n:=20)).1 ?_;refine AaP func158 rfl trivial ?_ rfl;simp only[ntmps158,Aas,Aad,UP,Nat.reduceAdd,Nat.reduceSub,Aag,Aaf,Aat,Aak,So,Aal]
 gi_wp2_with fail
 refine⟨trivial,?_⟩;refine(VC.2 (EP A8 AL la lc ia ic xa xc d (hD d) _ (AL _ _ HT af) (HA.below af) HS (fun q hq hk=>dN hk (HW q hq).1) HK)).mono ?_;rintro e w1 ⟨rfl,ag⟩;obtain⟨F,bg⟩:=AJ ag;have ae:=ag.size;simp at ae;have y0:w.heap.size<w1.heap.size:=by omega
 have q0:w1.cell? (y w 0)=some (.slice la d.n lc):=by rw[F _ _ (by simp)];simp[go_sem]
 have q1:w1.cell? (y w 1)=some (.slice ia d.m ic):=by rw[F _ _ (by simp)];simp[go_sem]
 have q2:w1.cell? (y w 2)=some (.slice xa d.x xc):=by rw[F _ _ (by simp)];simp[go_sem]
 have q3:w1.cell? (y w 3)=some (J d.used):=by rw[F _ _ (by simp)];simp[go_sem]
 have q4:w1.cell? (y w 4)=some (J d.live):=by rw[F _ _ (by simp)];simp[go_sem]
 have q5:w1.cell? (y w 5)=some (J d.turns):=by rw[F _ _ (by simp)];simp[go_sem]
 have bh:=O (af.trans (ag.mono af.size));clear ag F bg ae;have ak:Hid (∀o,B9 w (w1.alloc o)):=O (fun o=>bh.alloc (by omega) _)
 gi_wp2_with fail
 refine⟨trivial,?_⟩;refine(VC.2 (E7 la lc ia ic xa xc d _ (HA.below (ak _)) HS av.d3 av.d4)).mono ?_;rintro e w2 ⟨⟨bk,R0,R1,R2,E,S,rfl,ax⟩,ah⟩;have au:=ah.size;simp at au;have yp:w1.heap.size<w2.heap.size:=by omega
 have ay:w2.rowIs w1.heap.size 85 1 (fun _=>N9):=Re (AaK w1 #[N9] 85 (fun _=>N9) (fun i hi=>by
   have:i=0:=by simpa using hi
   subst this;rfl)) (ah.block _ (by simp))
 have az:=O ((ak _).trans (ah.mono (ak _).size));have aM:=O ax;have bj:=O ay;clear ah ax ay
 gi_wp2_with fail
 refine⟨trivial,?_⟩;refine(VC.2 (Fz bk _)).mono ?_;rintro e w4 ⟨rfl,rfl⟩
 gi_wp2_with fail
 obtain⟨u,hu⟩:∃u,u=w2.alloc (.cells #[Q9 bk] 289):=⟨_,rfl⟩;rw[<-hu];have zu:u.heap.size=w2.heap.size+1:=by rw[hu];simp
 have ai:B9 w2 u:=by rw[hu];exact(DD _ _).alloc (A0 _) _
 have a6:u.cell? (y w2 0)=some (Q9 bk):=by rw[hu];simp[go_sem]
 clear hu;have Q:=aM.below ai;have a7:u.rowIs w1.heap.size 85 1 (fun _=>N9):=bj.of_block (ai.block _ yp);have a8:B9 w u:=az.trans (ai.mono az.size);have bt:w1.heap.size<u.heap.size:=by omega
 have ao:u.cell? (y w1 0)=some (N9):=a7.cell (i:=0) (by omega);have bm:0<d.n->R0<u.heap.size/\R0≠w1.heap.size:=fun h0=>⟨Q.l0,fun e=>by
  have:=Q.r0 0 h0;rw[e,ao]at this;cases this⟩
 have aq:∀i,i<d.n->E i<u.heap.size/\E i≠w1.heap.size:=fun i hi=>⟨(Q.Ca i hi).lt,fun e=>by
  have:=(Q.Ca i hi).k0;rw[e,ao]at this;cases this⟩
 have bb:w.heap.size<=u.heap.size:=a8.size;clear zu aM ai q0 q1 q2 q3 q4 q5 ao;refine AaO rfl (by decide) (gf:=248) (lb:=#[Q9 w2.heap.size]) rfl trivial (enters_of func248 (by kernel_rfl) rfl)
  (IP 19 (by decide) bk R0 R1 R2 w2.heap.size w1.heap.size u.heap.size E S d u Q HS bm aq a6) J5.trans (J5.put (A0 _)) (DD _ _) (fun _=>rfl)
  (dX w u w1.heap.size u.heap.size d)
  (fun c pre W=>False)
  (dX.own w u w1.heap.size u.heap.size u.heap.size d (A0 _) (A0 _) bb)
  (fun c _ _ _ _ h=>h.elim)
  ⟨N9,a7,ON _ _ _ _,J5.refl _ _ _,a8⟩
  ?a1 ?assign ?body ?done ?stop
 case assign=>
  intro l x W K hK
  gi_wp2
  exact hK
 case body=>
  rintro l pre ⟨i,hi,ht⟩ W ⟨v,hp,s,t,X⟩ Z;have I:=t.block (E i) (aq i hi).1 (aq i hi).2;obtain⟨bu,k0,k1,k2,k3,k4,v0,v1,v2,v3,v4,tn,_,_⟩:=(Q.Ca i hi).keep t.size I;have x0:=hp.cell (i:=0) (by omega);have fx:=hp.frozen 0;have bc:=hp.lt;have bw:=s.lt;have H:=O s;have bd:=O t;have aj:=O X;have HP:=O hp;have M:pre.length<=d.n:=by omega
  have bx:u.heap.size<=W.heap.size:=bd.size;have B:Hid (Ci W.drew u.heap.size v pre.length (G9 d pre)):=O H.drew;have bn:=O (Vo d pre ⟨i,hi,ht⟩);have C:Hid (∀(g3 p:Nat) (w3:Y),w3.ownsRow u.heap.size 96 11 (S9 g3 (pre.length+1) p) (pre.length+1) (pL (G9 d pre) pre.length++Eb (d.L i))->W.grownBy w3 v.ownBlock->(w3.cell? (y w1 0)=some v/\w3.frozen? (y w1 0)=false)/\KeepsOthers W (w3.setCell (y w1 0) (S9 g3 (pre.length+1) p))/\J5 w1.heap.size u.heap.size W (w3.setCell (y w1 0) (S9 g3 (pre.length+1) p))/\
    dX w u w1.heap.size u.heap.size d (pre++[⟨i,hi,ht⟩]) (w3.setCell (y w1 0) (S9 g3 (pre.length+1) p))):=O (fun g3 p w3 h1 h2=>by
   have ar:w3.rowIs w1.heap.size 85 1 (fun _=>v):=HP.of_block (h2.block _ bc (fun e=>by have:=(H.lt _ e.symm).1;omega));have bz:=(World.ownsRow.lt h1 g3 rfl).1;have t:J5 w1.heap.size u.heap.size W (w3.setCell (y w1 0) (S9 g3 (pre.length+1) p)):=⟨by simpa using h2.size,fun b h1 bp=>(At _ _ _ _ (by exact bp)).trans (h2.block b (by omega) (fun e=>by have:=(H.lt _ e.symm).1;omega))⟩;have bq:KeepsOthers W w3:=⟨h2.size,fun k o hk hc=>(h2.block k (E1.1 hk).1 (fun e=>by
    obtain⟨_,⟨hv,_⟩|⟨g,cap,cur,hv,hb,I,_⟩⟩:=z H
    ·rw[hv]at e;cases e
    ·rw[hv]at e;have e':k=g:=by simpa[Value.ownBlock]using e
     rw[e',I]at hk;cases hk;cases hc)).trans hk⟩
   refine⟨⟨ar.cell (i:=0) (by omega),ar.frozen 0⟩,bq.trans (TC _ _ _),t,S9 g3 (pre.length+1) p,(ar.set 0 _).congr (fun q hq=>by simp[show q=0 by omega]),?_,bd.trans t,?_⟩
   ·have hl:(pre++[⟨i,hi,ht⟩]:List (He d)).length=pre.length+1:=by simp
    rw[hl];refine World.ownsRow.kept (w:=w3) ?_ (DI w3 _ _) (.inr (by simp[Value.ownBlock];omega));rw[z bn]at h1;exact h1
   ·exact(aj.grown h2 aj.size (fun k e=>by have:=(H.lt _ e).1;omega)).setCell (by show w.heap.size<=w1.heap.size;omega) _)
  clear I s t X hp a6
  gi_wp2
  refine wpIn_region_any (by kernel_rfl) ?_;change wpAnyIn _ _ _ _ _ _ _ _ _ (World.drew _);refine Ok (rs:=[0,1]) (by kernel_rfl) (by simp) ?_;refine Is rfl (fun K hK=>?_) (Is rfl (fun K hK=>?_) Of)
  ·go_simp;refine hK _ _ ?_;clear hK K;refine Ok (rs:=[1]) (by kernel_rfl) (by simp) ?_;refine Is rfl (fun K hK=>?_) Of;go_simp;refine hK _ _ ?_;clear hK K;refine Ok (rs:=[2]) (by kernel_rfl) (by simp) ?_;refine Is rfl (fun K hK=>?_) Of;go_simp;refine hK _ _ ?_;clear hK K;refine Ok (rs:=[3]) (by kernel_rfl) (by simp) ?_;refine Is rfl (fun K hK=>?_) Of;go_simp;refine hK _ _ ?_;clear hK K;refine Ok (rs:=[4]) (by kernel_rfl) (by simp) ?_;refine Is rfl (fun K hK=>?_) Of;go_simp;refine hK _ _ ?_;clear hK K;refine Ok (rs:=[5]) (by kernel_rfl) (by simp) ?_;refine Is rfl (fun K hK=>?_) Of;go_simp;refine hK _ _ ?_;clear hK K;refine Ok (rs:=[6]) (by kernel_rfl) (by simp) ?_;refine Is rfl (fun K hK=>?_) Of;rw[C3 (by rfl)];refine CT _ (.tmp 12) (.tmp 17) 85 rfl u.heap.size 96 i0 PZ 11 104 underlying85 R T U V rfl (by decide) v pre.length (pL (G9 d pre) pre.length) (by simp[Act.eval]) (B.alloc _) (y W 0) 1 1 (Eb (d.L i)) (by simp[Act.eval]) rfl (GP (BE _ _)) (Er _) (by decide) (by unfold maxLen;omega) (by omega) (by simp;omega) _ rfl ?_;intro g3 p w3 a f j P;obtain⟨⟨x3,f3⟩,A⟩:=z C g3 p w3 a (EO f);clear a f j;refine hK _ _ ?_;clear hK K;refine Ok (rs:=[7]) (by kernel_rfl) (by simp) ?_;refine Is rfl (fun K hK=>?_) Of;go_simp;refine hK _ _ ?_;clear hK K;refine wpAnyIn_done (by kernel_rfl) ?_ _
   gi_wp2
   exact A
  ·go_simp;refine hK _ _ ?_;clear hK K;refine Ok (rs:=[0,2]) (by kernel_rfl) (by simp) ?_;refine Is rfl (fun K hK=>?_) (Is rfl (fun K hK=>?_) Of)
   ·go_simp;refine hK _ _ ?_;clear hK K;refine Ok (rs:=[2]) (by kernel_rfl) (by simp) ?_;refine Is rfl (fun K hK=>?_) Of;go_simp;refine hK _ _ ?_;clear hK K;refine Ok (rs:=[3]) (by kernel_rfl) (by simp) ?_;refine Is rfl (fun K hK=>?_) Of;go_simp;refine hK _ _ ?_;clear hK K;refine Ok (rs:=[4]) (by kernel_rfl) (by simp) ?_;refine Is rfl (fun K hK=>?_) Of;go_simp;refine hK _ _ ?_;clear hK K;refine Ok (rs:=[5]) (by kernel_rfl) (by simp) ?_;refine Is rfl (fun K hK=>?_) Of;go_simp;refine hK _ _ ?_;clear hK K;refine Ok (rs:=[6]) (by kernel_rfl) (by simp) ?_;refine Is rfl (fun K hK=>?_) Of;rw[C3 (by rfl)];refine CT _ (.tmp 12) (.tmp 17) 85 rfl u.heap.size 96 i0 PZ 11 104 underlying85 R T U V rfl (by decide) v pre.length (pL (G9 d pre) pre.length) (by simp[Act.eval]) (B.alloc _) (y W 0) 1 1 (Eb (d.L i)) (by simp[Act.eval]) rfl (GP (BE _ _)) (Er _) (by decide) (by unfold maxLen;omega) (by omega) (by simp;omega) _ rfl ?_;intro g3 p w3 a f j P;obtain⟨⟨x3,f3⟩,A⟩:=z C g3 p w3 a (EO f);clear a f j;refine hK _ _ ?_;clear hK K;refine Ok (rs:=[7]) (by kernel_rfl) (by simp) ?_;refine Is rfl (fun K hK=>?_) Of;go_simp;refine hK _ _ ?_;clear hK K;refine wpAnyIn_done (by kernel_rfl) ?_ _
    gi_wp2
    exact A
   ·go_simp;refine hK _ _ ?_;clear hK K;refine Ok (rs:=[0,3]) (by kernel_rfl) (by simp) ?_;refine Is rfl (fun K hK=>?_) (Is rfl (fun K hK=>?_) Of)
    ·go_simp;refine hK _ _ ?_;clear hK K;refine Ok (rs:=[3]) (by kernel_rfl) (by simp) ?_;refine Is rfl (fun K hK=>?_) Of;go_simp;refine hK _ _ ?_;clear hK K;refine Ok (rs:=[4]) (by kernel_rfl) (by simp) ?_;refine Is rfl (fun K hK=>?_) Of;go_simp;refine hK _ _ ?_;clear hK K;refine Ok (rs:=[5]) (by kernel_rfl) (by simp) ?_;refine Is rfl (fun K hK=>?_) Of;go_simp;refine hK _ _ ?_;clear hK K;refine Ok (rs:=[6]) (by kernel_rfl) (by simp) ?_;refine Is rfl (fun K hK=>?_) Of;rw[C3 (by rfl)];refine CT _ (.tmp 12) (.tmp 17) 85 rfl u.heap.size 96 i0 PZ 11 104 underlying85 R T U V rfl (by decide) v pre.length (pL (G9 d pre) pre.length) (by simp[Act.eval]) (B.alloc _) (y W 0) 1 1 (Eb (d.L i)) (by simp[Act.eval]) rfl (GP (BE _ _)) (Er _) (by decide) (by unfold maxLen;omega) (by omega) (by simp;omega) _ rfl ?_;intro g3 p w3 a f j P;obtain⟨⟨x3,f3⟩,A⟩:=z C g3 p w3 a (EO f);clear a f j;refine hK _ _ ?_;clear hK K;refine Ok (rs:=[7]) (by kernel_rfl) (by simp) ?_;refine Is rfl (fun K hK=>?_) Of;go_simp;refine hK _ _ ?_;clear hK K;refine wpAnyIn_done (by kernel_rfl) ?_ _
     gi_wp2
     exact A
    ·go_simp;refine hK _ _ ?_;clear hK K;refine Ok (rs:=[0,4]) (by kernel_rfl) (by simp) ?_;refine Is rfl (fun K hK=>?_) (Is rfl (fun K hK=>?_) Of)
     ·go_simp;refine hK _ _ ?_;clear hK K;refine Ok (rs:=[4]) (by kernel_rfl) (by simp) ?_;refine Is rfl (fun K hK=>?_) Of;go_simp;refine hK _ _ ?_;clear hK K;refine Ok (rs:=[5]) (by kernel_rfl) (by simp) ?_;refine Is rfl (fun K hK=>?_) Of;go_simp;refine hK _ _ ?_;clear hK K;refine Ok (rs:=[6]) (by kernel_rfl) (by simp) ?_;refine Is rfl (fun K hK=>?_) Of;rw[C3 (by rfl)];refine CT _ (.tmp 12) (.tmp 17) 85 rfl u.heap.size 96 i0 PZ 11 104 underlying85 R T U V rfl (by decide) v pre.length (pL (G9 d pre) pre.length) (by simp[Act.eval]) (B.alloc _) (y W 0) 1 1 (Eb (d.L i)) (by simp[Act.eval]) rfl (GP (BE _ _)) (Er _) (by decide) (by unfold maxLen;omega) (by omega) (by simp;omega) _ rfl ?_;intro g3 p w3 a f j P;obtain⟨⟨x3,f3⟩,A⟩:=z C g3 p w3 a (EO f);clear a f j;refine hK _ _ ?_;clear hK K;refine Ok (rs:=[7]) (by kernel_rfl) (by simp) ?_;refine Is rfl (fun K hK=>?_) Of;go_simp;refine hK _ _ ?_;clear hK K;refine wpAnyIn_done (by kernel_rfl) ?_ _
      gi_wp2
      exact A
     ·go_simp;refine hK _ _ ?_;clear hK K;refine Ok (rs:=[0,5]) (by kernel_rfl) (by simp) ?_;refine Is rfl (fun K hK=>?_) (Is rfl (fun K hK=>?_) Of)
      focus
       go_simp;refine hK _ _ ?_;clear hK K;refine Ok (rs:=[5]) (by kernel_rfl) (by simp) ?_
      rotate_left
      focus
       go_simp;refine hK _ _ ?_;clear hK K;refine Ok (rs:=[0]) (by kernel_rfl) (by simp) ?_
      rotate_left;all_goals
       refine Is rfl (fun K hK=>?_) Of;go_simp;refine hK _ _ ?_;clear hK K;refine Ok (rs:=[6]) (by kernel_rfl) (by simp) ?_;refine Is rfl (fun K hK=>?_) Of;rw[C3 (by rfl)];refine CT _ (.tmp 12) (.tmp 17) 85 rfl u.heap.size 96 i0 PZ 11 104 underlying85 R T U V rfl (by decide) v pre.length (pL (G9 d pre) pre.length) (by simp[Act.eval]) (B.alloc _) (y W 0) 1 1 (Eb (d.L i)) (by simp[Act.eval]) rfl (GP (BE _ _)) (Er _) (by decide) (by unfold maxLen;omega) (by omega) (by simp;omega) _ rfl ?_;intro g3 p w3 a f j P;obtain⟨⟨x3,f3⟩,A⟩:=z C g3 p w3 a (EO f);clear a f j;refine hK _ _ ?_;clear hK K;refine Ok (rs:=[7]) (by kernel_rfl) (by simp) ?_;refine Is rfl (fun K hK=>?_) Of;go_simp;refine hK _ _ ?_;clear hK K;refine wpAnyIn_done (by kernel_rfl) ?_ _
       gi_wp2
       exact A
 case done=>
  rintro D ys W hD bf ⟨v,hp,s,t,X⟩ hK;have ad:ys.map (·.1)=AU d d.n:=bf;have Z:ys.length=II d:=by have:=congrArg List.length ad;rwa [AaB]at this
  have M:=XG ad;rw[Z,M]at s;have x0:=hp.cell (i:=0) (by omega);have H:=O s;have aj:=O X;have bc:=hp.lt;clear bf ad Z M hp s t X
  gi_wp2
  refine⟨by simp,.inl ⟨_,_,rfl,AaE hK,?_⟩⟩;refine⟨v,?_,⟨v,rfl,?_⟩,aj.trans (belowK_b (w:=w) (A0 _) W D _ _ (by omega) hK rfl rfl)⟩
  ·simp[results,f158]
  ·exact DK (Iv (D:=D) H (ID W D (.deferred none)) (fun r e=>by cases e;exact⟨A0 _,_,hK,rfl⟩)) bb
 case stop=>
  rintro D c pre W hD M h hK;exact h.elim
end
end Go.Proofs.YtgmlkfgfjjggnaaGreatDoor
