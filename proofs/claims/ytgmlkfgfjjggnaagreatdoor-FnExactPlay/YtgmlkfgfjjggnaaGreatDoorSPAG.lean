import Derived.Test.YtgmlkfgfjjggnaaGreatDoorSPAE
set_option linter.all false
set_option maxHeartbeats 40000000
set_option maxRecDepth 100000
namespace Go.Proofs.YtgmlkfgfjjggnaaGreatDoor
open Go.Proofs.Tryz
open Go.RowKit
attribute [local go_sem] Am Aj
variable {f:Nat->Tb}{n lo hi s B b:Nat}{w w':Y}{v vF vT vS:V9}{H:Nat->Hs}
open Classical in
theorem YF(la:T9)(lc:Nat)(ia:T9)(ic:Nat)(xa:T9)(xc:Nat)(d:Dc)(w:Y)(v:BH w)(hA:G8 w la ia xa d)(r:Small d)(A:VQ d)(hk:C6 d (hD d)=0):
  C9 355 #[Dv la lc ia ic xa xc d] w (R9 (J (FC d)) w):=by
 have P:=r.m;have B:=O hA;have D:=O r;have E:=O A;have F:=O v;have C:Hid (FC d=(LZ d:Int)):=O (DD hk);have s:=O hk;clear hA r A v hk;have l:B9 w (w.alloc (.cells #[.slice la d.n lc,.slice ia d.m ic,.slice xa d.x xc,J d.used,J d.live,J d.turns] 92)):=n9;have a:=O l;clear l
 go_enter func355,ntmps355
 go_wp2_with fail
 refine m9 (Hy BH Bg la lc ia ic xa xc d (hD d) _ (Bg _ _ F a) (B.below a) D (fun q hq hk=>lN hk (E q hq).1) s) fun w1 e=>?_;obtain⟨o,t⟩:=Bo e;have Q:w1.cell? (y w 1)=some (.slice ia d.m ic):=by rw[o _ _ od];simp[go_sem]
 have f:=O (oo a e);clear e o t;have H:=O (B.below f).ints;go_wp2_with fail;go_loopw [11] (fun i wr=>∃k:Nat,k<=d.m/\i=J k/\Qz d.I d.m 0 d.m=Qz d.I d.m k (d.m-k)/\wr=w1) (fun i _=>d.m-(intOf i).toNat)
 case atStart=>exact⟨0,oa,rfl,rfl,rfl⟩
 case round=>
  obtain⟨k,hk,rfl,hz,p⟩:=hrel;rw[p];clear p;have u:=O hz;clear hz;by_cases g:k<d.m
  ·obtain⟨b,off,rfl,K,hcs⟩:=H.resolve_left oa;have e0:=hcs k g;clear hcs;by_cases j:d.I k=0
   ·have h:Hid (FC d=(k:Int)):=O (C.trans (congrArg Int.ofNat (u.trans (Yv j g))));rw[j]at e0;clear j;go_wp2;go_ret;exact⟨by rw[z h];rfl,f⟩
   ·have L:Hid (Qz d.I d.m 0 d.m=Qz d.I d.m (k+1) (d.m-(k+1))):=O (u.trans (Yu j g));have M:(d.I k==0)=false:=by simp[j]
    clear j;go_wp2;go_roundw
    case rel=>exact⟨k+1,oa,oh,L,trivial⟩
    case measure=>simp[intOf];omega
  ·have c:k=d.m:=oa;have h:Hid (FC d=(d.m:Int)):=O (C.trans (congrArg Int.ofNat (u.trans (by rw[c,Nat.sub_self];rfl))));clear c;go_wp2;go_ret;exact⟨by rw[z h];rfl,f⟩
def Ts(f:Nat->Si)(n:Nat)(w:Y)(v:V9)(lo hi:Nat):Prop:=
 (n=0/\v=N9)\/∃b a Z g,v=S9 b n a/\lo<=b/\b<hi/\w.rowIs b 103 Z g/\n*5<=Z/\∀j,j<n*5->g j=PR f j
theorem Ts.keep{f:Nat->Si}(h:Ts f n w v lo hi)(hk:∀b,v.ownBlock=some b->w'.heap[b]?=w.heap[b]?):Ts f n w' v lo hi:=by
 rcases h with h|⟨b,a,Z,g,rfl,h2,h3,h4,h5,c⟩
 ·exact .inl h
 ·exact .inr ⟨b,a,Z,g,rfl,h2,h3,RC h4 (hk b rfl),h5,c⟩
theorem Ts.at{f:Nat->Si}(h:Ts f n w v lo hi):∃a c,v=.slice a n c/\LS w a n f:=by
 rcases h with⟨d,rfl⟩|⟨b,c,Z,g,h1,h2,h3,h4,h5,e⟩
 ·subst d;exact⟨_,_,rfl,.inl rfl⟩
 ·exact⟨_,_,h1,.inr ⟨b,0,rfl,Ok h4,fun i hi=>by rw[Wx];exact gZ h4 h5 e hi⟩⟩
theorem Ny(s:Int)(w:Y):
  C9 65 #[N9,J s] w fun e w'=>e=.returned (J s)/\w'=w:=by
 go_enter func65,ntmps65
 go_wp2;go_loopw [1,5] (fun q i wr=>q=J s/\i=J 0/\wr=w) (fun _ _ _=>0)
 case atStart=>exact⟨rfl,rfl,rfl⟩
 case round=>
  obtain⟨rfl,rfl,rfl⟩:=hrel;go_wp2;go_ret;exact⟨rfl,rfl⟩
theorem bZ{f:Nat->Si}(h:Ts f n w v lo hi)(hn:n<=1048576)(hs:s<=100000000000000):
  C9 65 #[v,J (s:Int)] w fun e w'=>(e=.returned (J ((s+5*n:Nat):Int))/\Ts (cE s) n w' v lo hi)/\Bv v w w':=by
 rcases h with⟨c,rfl⟩|⟨b,a,Z,g,rfl,h2,h3,h4,h5,j⟩
 ·subst c;refine(Ny s w).mono fun e w' h=>?_;rw[h.2];exact⟨⟨by rw[h.1];rfl,.inl ⟨rfl,rfl⟩⟩,Bv.same _ _⟩
 ·refine(Nx b n a Z s g w h4 h5 oa hs).mono fun e w' h=>?_;obtain⟨⟨rfl,g',d,i⟩,hb⟩:=h;exact⟨⟨od,.inr ⟨b,a,Z,g',rfl,h2,h3,d,h5,i⟩⟩,Bv.Vt hb⟩
theorem bJ(h:Ts (cE s) n w v lo hi)(hn:n<=1048576)(hs:s<=100000000000000):
  C9 126 #[v,J (s:Int)] w (R9 (J ((s+5*n:Nat):Int)) w):=by
 obtain⟨a,b,rfl,hA⟩:=h.at;refine(Nc a n b s w hA oa hs).mono fun e w' h=>?_;exact⟨by rw[h.1];simp,h.2⟩
theorem GV.CD{f:Nat->A3}(h:GV f n w v lo hi)(hk:∀b,v.ownBlock=some b->w'.heap[b]?=w.heap[b]?):GV f n w' v lo hi:=by
 rcases h with h|⟨a,b,c,rfl,h2,h3,h4⟩
 ·exact .inl h
 ·exact .inr ⟨a,b,c,rfl,h2,h3,h4.of_block (hk b rfl)⟩
theorem LV(b n cap lo hi s:Nat)(f:Nat->Tb)(H:Nat->Hs)(w:Y)(I:b<w.heap.size)(hT:∀i,i<n->XK lo hi w b (i*8) (H i) (mkT (f i) (JI f s i)))(hw:Iu f n<=2000000000)(hs:s<=10000000000000):
  C9 125 #[S9 b n cap,J (s:Int)] w (R9 (J (JI f s n:Int)) w):=by
 have ah:=ZV f n;have HT:=O hT;clear hT
 go_enter func125,ntmps125
 go_wp2;go_loopw [1,5] (fun q i wr=>∃(k:Nat),k<=n/\i=J (k:Int)/\q=J (JI f s k:Int)/\B9 w wr) (fun _ i _=>n-(intOf i).toNat)
 case atStart=>exact⟨0,oa,rfl,rfl,Cs _ _⟩
 case round=>
  obtain⟨k,hk,rfl,rfl,hb⟩:=hrel;by_cases A:k<n
  case neg=>
   have U:k=n:=oa;have R:=O hb;clear hb A;subst U;go_wp2;go_ret;exact⟨rfl,R⟩
  have a:=(HT k A).keep (w':=wr) (fun q hq=>hb.block q ((HT k A).lt hq).1) (fun j _=>hb.cell (p:=(G b (k*8+j))) I);have He:=VJ f A;have V:tw (f k)=(f k).nv+((f k).d.n+(f k).d.m+(f k).d.x)+1:=rfl;have B:JI f s (k+1)=JI f s k+(1+5*(f k).nv+11*(f k).d.n+(f k).d.m+(f k).d.x+3):=rfl;have W:=Rc f s k;obtain⟨r,K⟩:∃r,r=JI f s k:=⟨_,rfl⟩;rw[<-K]at B W a ⊢;have ai:r<=60000000000000:=oa;have X:(f k).nv<=2000000000:=oa;have Z:(f k).d.n<=2000000000:=oa;have ad:(f k).d.m<=2000000000:=oa;have ae:(f k).d.x<=2000000000:=oa;have af:=O B;have lb:b<wr.heap.size:=At I hb.size;have d0:wr.cell? (G b (k*8))=some (J (r:Int)):=a.c0;have d1:=a.c1;have d2:=a.c2;have d3:=a.c3;have d4:=a.c4;obtain⟨x,u⟩:∃x:Nat,x=r+1+5*(f k).nv+11*(f k).d.n+(f k).d.m+(f k).d.x:=⟨_,rfl⟩;have d5:wr.cell? (G b (k*8+5))=some (J (x:Int)):=by rw[u];exact a.c5
  have d6:wr.cell? (G b (k*8+6))=some (J ((x:Int)+1)):=by rw[show((x:Int)+1)=((x+1:Nat):Int) by omega,u];exact a.c6
  have d7:wr.cell? (G b (k*8+7))=some (J ((x:Int)+1+1)):=by rw[show((x:Int)+1+1)=((x+1+1:Nat):Int) by omega,u];exact a.c7
  have aj:x<=100000000000000:=oa;have HV:Hid (Oj (eE (r+1)) (f k).nv wr (H k).v lo hi):=O a.v;have HL:Hid (Kz (eD (r+1+5*(f k).nv)) (f k).d.n wr (H k).l lo hi):=O a.l;have HI:Hid (Hb (fun j=>((r+1+5*(f k).nv+11*(f k).d.n+j:Nat):Int)) (f k).d.m wr (H k).i lo hi):=O a.i;have HX:Hid (Hb (fun j=>((r+1+5*(f k).nv+11*(f k).d.n+(f k).d.m+j:Nat):Int)) (f k).d.x wr (H k).x lo hi):=O a.x;have C:Hid (∀q,(H k).own q->q<wr.heap.size):=O (fun q hq=>(a.lt hq).1);have R:=O hb;have L:=O u;clear hb a He V B K u;go_wp2_with fail;have c:=bL (s:=r+1) HV X oa;rw[show((r+1:Nat):Int)=(r:Int)+1 by omega]at c;refine c.mono ?_;rintro e w1 ⟨rfl,g⟩;have l1:=At lb g.size;have p2:=ol g lb d2;have p3:=ol g lb d3;have S:=ol g lb d4;have M:=ol g lb d5;have P:=ol g lb d6;have Q:=ol g lb d7;have D:=O g;have n1:¬((r+1+5*(f k).nv:Nat):Int)<0:=oa;clear c g d0 d1 d2 d3 d4 d5 d6 d7;go_wp2_with fail;have c:=Yy (s:=r+1+5*(f k).nv) (w:=w1) (HL.CD (fun q e=>D.block q (C q (.inr (.inl e))))) Z oa;refine c.mono ?_;rintro e w2 ⟨rfl,h⟩;have l2:=At l1 h.size;have d3:=ol h l1 p3;have d4:=ol h l1 S;have d5:=ol h l1 M;have d6:=ol h l1 P;have d7:=ol h l1 Q;have E:=O (oo D h);have n2:¬((r+1+5*(f k).nv+11*(f k).d.n:Nat):Int)<0:=oa;clear c h p2 p3 S M P Q n1;go_wp2_with fail;have c:=R4 (s:=r+1+5*(f k).nv+11*(f k).d.n) (w:=w2) (HI.CD (fun q e=>E.block q (C q (.inr (.inr (.inl e)))))) ad oa;refine c.mono ?_;rintro e w3 ⟨rfl,o⟩;have T:=At l2 o.size;have S:=ol o l2 d4;have M:=ol o l2 d5;have P:=ol o l2 d6;have Q:=ol o l2 d7;have F:=O (oo E o);have n3:¬((r+1+5*(f k).nv+11*(f k).d.n+(f k).d.m:Nat):Int)<0:=oa;clear c o d3 d4 d5 d6 d7 n2;go_wp2_with fail;have c:=R4 (s:=r+1+5*(f k).nv+11*(f k).d.n+(f k).d.m) (w:=w3) (HX.CD (fun q e=>F.block q (C q (.inr (.inr (.inr e)))))) ae oa;rw[<-z L]at c;refine c.mono ?_;rintro e w4 ⟨rfl,t⟩;have l4:=At T t.size;have d5:=ol t T M;have d6:=ol t T P;have d7:=ol t T Q;have ag:=O (oo R (F.trans (t.mono F.size)));have n4:¬(x:Int)<0:=oa;clear c t S M P Q n3;go_wp2;go_roundw
  case rel=>
   refine⟨k+1,oa,oh,?_,ag⟩;rw[z af];have:=z L
   congr 1
   omega
  case measure=>simp[intOf];omega
theorem OA(a a':T9)(n cap g:Nat)(f:Nat->Vl)(w:Y)(hA:I4 w a n f)(s:I4 w a' n f)(hn:n<=1048576):
  C9 186 #[.slice a n cap,.slice a' n g] w (R9 (.bool true) w):=by
 have u:=O hA;have v:=O s;clear hA s
 go_enter func186,ntmps186
 go_wp2;go_loopw [5] (fun i wr=>∃(k:Nat),k<=n/\i=J k/\B9 w wr) (fun i _=>n-(intOf i).toNat)
 case atStart=>exact⟨0,oa,rfl,Cs _ _⟩
 case round=>
  obtain⟨k,hk,rfl,hb⟩:=hrel;by_cases j:k<n
  ·obtain⟨b,off,rfl,l,hcs⟩:=u.resolve_left oa;obtain⟨b',t,rfl,c,d⟩:=v.resolve_left oa;obtain⟨e0,e1,e2,e3,x⟩:=(hcs k j).keep (fun q=>hb.cell (p:=(G b q)) l);obtain⟨d0,d1,d2,d3,d4⟩:=(d k j).keep (fun q=>hb.cell (p:=(G b' q)) c);have hx:b<wr.heap.size:=At l hb.size;have A:b'<wr.heap.size:=At c hb.size;have m:=O hb;clear hb hcs d;go_wp2_with fail;refine qr wr ?_;refine N (h:=N (h:=N (h:=N (h:=N (h:=N (h:=N (h:=N (h:=?_))))))));refine GS (fun K hK=>?_);go_simp;refine⟨_,fun w' r=>qk r (C7 (f k).kind (f k).num (f k).Ag (f k).str (f k).ref _),hK _ ?_⟩;clear hK K;refine N (h:=?_);refine H7 ?_;intro w2 o;have e:=O (oo m o);clear o e0 e1 e2 e3 x d0 d1 d2 d3 d4;go_wp2;go_roundw
   case rel=>exact⟨k+1,oa,oh,e⟩
   case measure=>simp[intOf];omega
  ·have:k=n:=oa;subst this;have e:=O hb;clear hb;go_wp2;go_ret;exact⟨rfl,e⟩
theorem RJ(s:Si)(w:Y):
  C9 119 #[SV s,SV s] w (R9 (.bool true) w):=by
 go_enter func119,ntmps119
 go_wp2;go_ret;exact⟨rfl,(n9).alloc od _⟩
theorem Qv(a a':T9)(n cap g:Nat)(f:Nat->Si)(w:Y)(hA:LS w a n f)(s:LS w a' n f)(hn:n<=1048576):
  C9 62 #[.slice a n cap,.slice a' n g] w (R9 (.bool true) w):=by
 have u:=O hA;have v:=O s;clear hA s
 go_enter func62,ntmps62
 go_wp2;go_loopw [5] (fun i wr=>∃(k:Nat),k<=n/\i=J k/\B9 w wr) (fun i _=>n-(intOf i).toNat)
 case atStart=>exact⟨0,oa,rfl,Cs _ _⟩
 case round=>
  obtain⟨k,hk,rfl,hb⟩:=hrel;by_cases j:k<n
  ·obtain⟨b,off,rfl,l,hcs⟩:=u.resolve_left oa;obtain⟨b',t,rfl,c,d⟩:=v.resolve_left oa;obtain⟨e0,e1,e2,e3,x⟩:=(hcs k j).keep (fun q=>hb.cell (p:=(G b q)) l);obtain⟨d0,d1,d2,d3,d4⟩:=(d k j).keep (fun q=>hb.cell (p:=(G b' q)) c);have hx:b<wr.heap.size:=At l hb.size;have A:b'<wr.heap.size:=At c hb.size;have m:=O hb;clear hb hcs d;go_wp2_with fail;refine qr wr ?_;refine N (h:=N (h:=N (h:=N (h:=N (h:=N (h:=N (h:=N (h:=?_))))))));refine GS (fun K hK=>?_);go_simp;refine⟨_,fun w' r=>qk r (RJ (f k) _),hK _ ?_⟩;clear hK K;refine N (h:=?_);refine H7 ?_;intro w2 o;have e:=O (oo m o);clear o e0 e1 e2 e3 x d0 d1 d2 d3 d4;go_wp2;go_roundw
   case rel=>exact⟨k+1,oa,oh,e⟩
   case measure=>simp[intOf];omega
  ·have:k=n:=oa;subst this;have e:=O hb;clear hb;go_wp2;go_ret;exact⟨rfl,e⟩
theorem Qw(va a la b ia c xa e:T9)(vc i lc j ic k xc l:Nat)(t:Tb)(w:Y)(B:I4 w va t.nv t.V)(o:I4 w a t.nv t.V)(hA:G8 w la ia xa t.d)(C:G8 w b c e t.d)(hn:t.nv<=1048576)(D:Small t.d):
  C9 118 #[TV va vc la lc ia ic xa xc t,TV a i b j c k e l t] w (R9 (.bool true) w):=by
 have E:=O B;have r:=O o;have F:=O hA;have H:=O C;have I:=O D;clear B o hA C D;have p:B9 w ((w.alloc (.cells #[J t.shape,.slice va t.nv vc,.slice la t.d.n lc,.slice ia t.d.m ic,.slice xa t.d.x xc,J t.d.used,J t.d.live,J t.d.turns] 94)).alloc (.cells #[J t.shape,.slice a t.nv i,.slice b t.d.n j,.slice c t.d.m k,.slice e t.d.x l,J t.d.used,J t.d.live,J t.d.turns] 94)):=(n9).alloc od _;have f:=O p;clear p
 go_enter func118,ntmps118
 go_wp2_with fail
 refine m9 (OA va a t.nv vc i t.V _ (E.below f rfl) (r.below f rfl) hn) fun w1 g=>?_;obtain⟨s,u⟩:=Bo g;have v:=g.size;simp at v;have K:w.heap.size<w1.heap.size:=oa;have L:w.heap.size+1<w1.heap.size:=oa;have h:=O (oo f g);clear g;go_wp2_with fail;refine m9 (RE la b ia c xa e lc j ic k xc l t.d _ (F.below h) (H.below h) I) fun w2 q=>?_;have A:=O (oo h q);clear q s u;go_wp2;go_ret;exact⟨rfl,A⟩
theorem Oz(a a':T9)(n cap o:Nat)(f:Nat->Tb)(w:Y)(hA:Z7 w a n f)(F:Z7 w a' n f)(hn:n<=1048576)(hs:∀i,i<n->(f i).nv<=1048576/\Small (f i).d):
  C9 61 #[.slice a n cap,.slice a' n o] w (R9 (.bool true) w):=by
 have P:=O hA;have Q:=O F;have H:=O hs;clear hA F hs
 go_enter func61,ntmps61
 go_wp2;go_loopw [5] (fun i wr=>∃(k:Nat),k<=n/\i=J k/\B9 w wr) (fun i _=>n-(intOf i).toNat)
 case atStart=>exact⟨0,oa,rfl,Cs _ _⟩
 case round=>
  obtain⟨k,hk,rfl,hb⟩:=hrel;by_cases e:k<n
  ·obtain⟨b,off,rfl,p,hcs⟩:=P.resolve_left oa;obtain⟨b',I,rfl,j,l⟩:=Q.resolve_left oa;obtain⟨va,vc,la,lc,ia,ic,xa,xc,hc,L,M⟩:=(hcs k e).below hb p;obtain⟨t,u,v,x,A,B,C,D,E,hv',q⟩:=(l k e).below hb j;obtain⟨e0,e1,e2,e3,R,S,T,U⟩:=hc;obtain⟨d0,d1,d2,d3,d4,d5,d6,d7⟩:=E;have g:=O (And.intro L (And.intro hv' (And.intro M q)));have hx:b<wr.heap.size:=At p hb.size;have V:b'<wr.heap.size:=At j hb.size;have r:=O hb;clear hb hcs l L hv' M q;go_wp2_with fail;refine qr wr ?_;refine N (h:=N (h:=N (h:=N (h:=N (h:=N (h:=N (h:=N (h:=?_))))))));refine GS (fun K hK=>?_);go_simp;refine⟨_,fun w' c=>qk c (Qw va t la v ia A xa C vc u lc x ic B xc D (f k) _ (g.1.below c rfl) (g.2.1.below c rfl) (g.2.2.1.below c) (g.2.2.2.below c) (H k e).1 (H k e).2),hK _ ?_⟩;clear hK K;refine N (h:=?_);refine H7 ?_;intro w2 s;have m:=O (oo r s);clear s e0 e1 e2 e3 R S T U d0 d1 d2 d3 d4 d5 d6 d7;go_wp2;go_roundw
   case rel=>exact⟨k+1,oa,oh,m⟩
   case measure=>simp[intOf];omega
  ·have:k=n:=oa;subst this;have m:=O hb;clear hb;go_wp2;go_ret;exact⟨rfl,m⟩
structure Ou (lo H:Nat) (w w':Y):Prop where
 os:w'.os=w.os
 tape:w'.tape=w.tape
 output:w'.output=w.output
 size:w.heap.size<=w'.heap.size
 block:∀k,k<w.heap.size->(k<lo\/H<=k)->w'.heap[k]?=w.heap[k]?
theorem Ou.trans{H:Nat}{u v:Y}(h:Ou lo H u v)(k:Ou lo H v w):Ou lo H u w:=
 ⟨k.os.trans h.os,k.tape.trans h.tape,k.output.trans h.output,GO h.size k.size,fun i hi hn=>(k.block i (At hi h.size) hn).trans (h.block i hi hn)⟩
def UY(lo hi:Nat)(w:Y)(v:V9)(n:Nat)(f:Nat->Tb)(H:Nat->Hs):Prop:=
 (n=0/\v=N9)\/∃b a Z g,v=S9 b n a/\lo<=b/\b<hi/\w.rowIs b 94 Z g/\n*8<=Z/\(∀i,i<n->XK lo hi w b (i*8) (H i) (f i))/\dN b n H
theorem UY.keep(h:UY lo hi w v n f H)(hk:∀b,v.ownBlock=some b->w'.heap[b]?=w.heap[b]?)(a:∀i q,i<n->(H i).own q->w'.heap[q]?=w.heap[q]?):UY lo hi w' v n f H:=by
 rcases h with h|⟨b,c,Z,g,rfl,h2,h3,h4,h5,d,e⟩
 ·exact .inl h
 ·exact .inr ⟨b,c,Z,g,rfl,h2,h3,RC h4 (hk b rfl),h5,fun i hi=>(d i hi).keep (fun q hq=>a i q hi hq) (fun j _=>As (hk b rfl)),e⟩
theorem UY.at(h:UY lo hi w v n f H):∃a c,v=.slice a n c/\Z7 w a n f:=by
 rcases h with⟨d,rfl⟩|⟨b,c,Z,g,rfl,h2,h3,h4,h5,e,j⟩
 ·subst d;exact⟨_,_,rfl,.inl rfl⟩
 ·exact⟨_,_,rfl,.inr ⟨b,0,rfl,Ok h4,fun i hi=>by rw[Wx];exact(e i hi).at⟩⟩
theorem GV.at{f:Nat->A3}(h:GV f n w v lo hi):∃a c,v=.slice a n c/\Ot w a n f:=by
 rcases h with⟨d,rfl⟩|⟨d,b,c,rfl,h2,h3,h4⟩
 ·subst d;exact⟨_,_,rfl,.inl rfl⟩
 ·exact⟨_,_,rfl,h4.at⟩
theorem GV.own{f:Nat->A3}(h:GV f n w v lo hi){q:Nat}(e:v.ownBlock=some q):lo<=q/\q<hi/\q<w.heap.size:=by
 rcases h with⟨a,rfl⟩|⟨a,b,c,rfl,h2,h3,h4⟩
 ·cases e
 ·cases e;exact⟨h2,h3,h4.lt⟩
theorem Ts.own{f:Nat->Si}(h:Ts f n w v lo hi){q:Nat}(e:v.ownBlock=some q):lo<=q/\q<hi/\q<w.heap.size:=by
 rcases h with⟨a,rfl⟩|⟨b,c,Z,g,rfl,h2,h3,h4,h5,d⟩
 ·cases e
 ·cases e;exact⟨h2,h3,Ok h4⟩
theorem UY.own(h:UY lo hi w v n f H){q:Nat}(e:v.ownBlock=some q):lo<=q/\q<hi/\q<w.heap.size:=by
 rcases h with⟨a,rfl⟩|⟨b,c,Z,g,rfl,h2,h3,h4,h5,d,i⟩
 ·cases e
 ·cases e;exact⟨h2,h3,Ok h4⟩
theorem UY.row(h:UY lo hi w v n f H){i q:Nat}(a:i<n)(e:(H i).own q):lo<=q/\q<hi/\q<w.heap.size:=by
 rcases h with⟨d,rfl⟩|⟨b,j,Z,g,rfl,h2,h3,h4,h5,c,k⟩
 ·omega
 ·have:=(c i a).lt e;exact⟨this.2.1,this.2.2,this.1⟩
structure Pb (lo hi:Nat) (w:Y) (vF vT vS:V9) (s:AK) (H:Nat->Hs):Prop where
 f:GV s.F s.nf w vF lo hi
 t:UY lo hi w vT s.nt s.T H
 si:Ts s.S s.ns w vS lo hi
 ft:∀q,vF.ownBlock=some q->vT.ownBlock≠some q
 fs:∀q,vF.ownBlock=some q->vS.ownBlock≠some q
 fr:∀q i,vF.ownBlock=some q->i<s.nt->¬(H i).own q
 st:∀q,vS.ownBlock=some q->vT.ownBlock≠some q
 sr:∀q i,vS.ownBlock=some q->i<s.nt->¬(H i).own q
theorem Pb.keep{s:AK}(h:Pb lo hi w vF vT vS s H)(hk:∀q,lo<=q->q<hi->q<w.heap.size->w'.heap[q]?=w.heap[q]?):Pb lo hi w' vF vT vS s H:=
 ⟨h.f.CD (fun q e=>hk q (h.f.own e).1 (h.f.own e).2.1 (h.f.own e).2.2),h.t.keep (fun q e=>hk q (h.t.own e).1 (h.t.own e).2.1 (h.t.own e).2.2) (fun i q hi e=>hk q (h.t.row hi e).1 (h.t.row hi e).2.1 (h.t.row hi e).2.2),h.si.keep (fun q e=>hk q (h.si.own e).1 (h.si.own e).2.1 (h.si.own e).2.2),h.ft,h.fs,h.fr,h.st,h.sr⟩
theorem Pb.below{s:AK}(h:Pb lo hi w vF vT vS s H)(hb:Below B w w')(a:hi<=B):Pb lo hi w' vF vT vS s H:=h.keep fun q _ h2 _=>hb.block q oa
def J7(s i:Nat):List Value:=[J ((s:Int)+12*(i:Int)),J ((s:Int)+12*(i:Int)+1),J ((s:Int)+12*(i:Int)+1+1),J ((s:Int)+12*(i:Int)+1+1+1),F9 (floatOfInt .f64 ((s:Int)+12*(i:Int)+1+1+1+1)),.string (mark (s+12*i+5)),J ((s:Int)+12*(i:Int)+1+1+1+1+1+1),J ((s:Int)+12*(i:Int)+1+1+1+1+1+1+1),J ((s:Int)+12*(i:Int)+1+1+1+1+1+1+1+1),F9 (floatOfInt .f64 ((s:Int)+12*(i:Int)+1+1+1+1+1+1+1+1+1)),.string (mark (s+12*i+10)),J ((s:Int)+12*(i:Int)+1+1+1+1+1+1+1+1+1+1+1)]
def Vr(s j:Nat):Value:=((J7 s (j/12))[j%12]?).getD undef
theorem Sw(s k i:Nat)(hi:i<12):Vr s (k*12+i)=((J7 s k)[i]?).getD undef:=by
 unfold Vr;rw[show(k*12+i)/12=k by omega,show(k*12+i)%12=i by omega]
theorem YY(b n cap Z s:Nat)(g:Nat->Value)(w:Y)(hA:w.rowIs b 45 Z g)(hN:n*12<=Z)(hn:n<=4194304)(hs:s<=100000000000000):
  C9 73 #[S9 b n cap,J (s:Int)] w fun e w'=>(e=.returned (J ((s:Int)+12*(n:Int)))/\∃g',w'.rowIs b 45 Z g'/\∀j,j<n*12->g' j=Vr s j)/\Bu b w w':=by
 have S:=O hA;clear hA
 go_enter func73,ntmps73
 go_wp2;go_loopw [1,5] (fun q i wr=>∃(k:Nat) (g:Nat->Value),k<=n/\i=J (k:Int)/\q=J ((s:Int)+12*(k:Int))/\Bu b w wr/\wr.rowIs b 45 Z g/\∀j,j<k*12->g j=Vr s j) (fun _ i _=>n-(intOf i).toNat)
 case atStart=>exact⟨0,g,oa,rfl,od,Bu.refl _ _,S,fun j hj=>oa⟩
 case round=>
  obtain⟨k,g,hk,rfl,rfl,hb,c,u⟩:=hrel;by_cases T:k<n
  ·have v:=c.lt;have o:∀w:World,_:=fun w=>A6 (s+12*k+5) oa w;rw[show((s+12*k+5:Nat):Int)=(s:Int)+12*(k:Int)+1+1+1+1+1 by omega]at o;have U:=O o;have h:∀w:World,_:=fun w=>A6 (s+12*k+10) oa w;rw[show((s+12*k+10:Nat):Int)=(s:Int)+12*(k:Int)+1+1+1+1+1+1+1+1+1+1 by omega]at h;have x:=O h;have A:=O hb;have B:=O c;have V:=O u;clear hb u o h;have d0:=c.cell (i:=k*12) oa;have e0:=c.frozen (k*12);have d1:=c.cell (i:=k*12+1) oa;have e1:=c.frozen (k*12+1);have d2:=c.cell (i:=k*12+2) oa;have e2:=c.frozen (k*12+2);have d3:=c.cell (i:=k*12+3) oa;have e3:=c.frozen (k*12+3);have d4:=c.cell (i:=k*12+4) oa;have W:=c.frozen (k*12+4);have d5:=c.cell (i:=k*12+5) oa;have C:=c.frozen (k*12+5);have d6:=c.cell (i:=k*12+6) oa;have D:=c.frozen (k*12+6);have d7:=c.cell (i:=k*12+7) oa;have E:=c.frozen (k*12+7);have d8:=c.cell (i:=k*12+8) oa;have F:=c.frozen (k*12+8);have d9:=c.cell (i:=k*12+9) oa;have H:=c.frozen (k*12+9);have d10:=c.cell (i:=k*12+10) oa;have l:=c.frozen (k*12+10);have d11:=c.cell (i:=k*12+11) oa;have m:=c.frozen (k*12+11);clear c;go_wp2_with fail;refine(U _).mono ?_;rintro e w1 ⟨rfl,p⟩;have a:=(((((B.set (k*12) (J ((s:Int)+12*(k:Int)))).set (k*12+1) (J ((s:Int)+12*(k:Int)+1))).set (k*12+2) (J ((s:Int)+12*(k:Int)+1+1))).set (k*12+3) (J ((s:Int)+12*(k:Int)+1+1+1))).set (k*12+4) (F9 (floatOfInt .f64 ((s:Int)+12*(k:Int)+1+1+1+1)))).of_block (p.block b (by simpa using v));have I:=a.lt;have K:=O ((((((A.trans (Bu.set b (k*12) _ (J ((s:Int)+12*(k:Int))))).trans (Bu.set b (k*12+1) _ (J ((s:Int)+12*(k:Int)+1)))).trans (Bu.set b (k*12+2) _ (J ((s:Int)+12*(k:Int)+1+1)))).trans (Bu.set b (k*12+3) _ (J ((s:Int)+12*(k:Int)+1+1+1)))).trans (Bu.set b (k*12+4) _ (F9 (floatOfInt .f64 ((s:Int)+12*(k:Int)+1+1+1+1))))).trans (Bu.of p));have L:=O a;clear p d0 e0 d1 e1 d2 e2 d3 e3 d4 W d5 C d6 D d7 E d8 F d9 H d10 l d11 m;have d5:=a.cell (i:=k*12+5) oa;have C:=a.frozen (k*12+5);have d6:=a.cell (i:=k*12+6) oa;have D:=a.frozen (k*12+6);have d7:=a.cell (i:=k*12+7) oa;have E:=a.frozen (k*12+7);have d8:=a.cell (i:=k*12+8) oa;have F:=a.frozen (k*12+8);have d9:=a.cell (i:=k*12+9) oa;have H:=a.frozen (k*12+9);have d10:=a.cell (i:=k*12+10) oa;have l:=a.frozen (k*12+10);have d11:=a.cell (i:=k*12+11) oa;have m:=a.frozen (k*12+11);clear a;go_wp2_with fail;refine(x _).mono ?_;rintro e w2 ⟨rfl,r⟩;have f:=(((((L.set (k*12+5) (.string (mark (s+12*k+5)))).set (k*12+6) (J ((s:Int)+12*(k:Int)+1+1+1+1+1+1))).set (k*12+7) (J ((s:Int)+12*(k:Int)+1+1+1+1+1+1+1))).set (k*12+8) (J ((s:Int)+12*(k:Int)+1+1+1+1+1+1+1+1))).set (k*12+9) (F9 (floatOfInt .f64 ((s:Int)+12*(k:Int)+1+1+1+1+1+1+1+1+1)))).of_block (r.block b (by simpa using I));have X:=f.lt;have M:=O ((((((K.trans (Bu.set b (k*12+5) _ (.string (mark (s+12*k+5))))).trans (Bu.set b (k*12+6) _ (J ((s:Int)+12*(k:Int)+1+1+1+1+1+1)))).trans (Bu.set b (k*12+7) _ (J ((s:Int)+12*(k:Int)+1+1+1+1+1+1+1)))).trans (Bu.set b (k*12+8) _ (J ((s:Int)+12*(k:Int)+1+1+1+1+1+1+1+1)))).trans (Bu.set b (k*12+9) _ (F9 (floatOfInt .f64 ((s:Int)+12*(k:Int)+1+1+1+1+1+1+1+1+1))))).trans (Bu.of r));have P:=O f;clear r d5 C d6 D d7 E d8 F d9 H d10 l d11 m;have d10:=f.cell (i:=k*12+10) oa;have l:=f.frozen (k*12+10);have d11:=f.cell (i:=k*12+11) oa;have m:=f.frozen (k*12+11);clear f;go_wp2;go_roundw
   case rel=>
    refine⟨k+1,_,oa,oh,oh,((M.trans (Bu.set b (k*12+10) _ (.string (mark (s+12*k+10))))).trans (Bu.set b (k*12+11) _ (J ((s:Int)+12*(k:Int)+1+1+1+1+1+1+1+1+1+1+1)))),((P.set (k*12+10) (.string (mark (s+12*k+10)))).set (k*12+11) (J ((s:Int)+12*(k:Int)+1+1+1+1+1+1+1+1+1+1+1))),fun j hj=>?_⟩;by_cases Q:j<k*12
    ·have d:∀i,i<12->j≠k*12+i:=fun i _=>oa;simp only[show j≠k*12 by omega,d 1 oa,d 2 oa,d 3 oa,d 4 oa,d 5 oa,d 6 oa,d 7 oa,d 8 oa,d 9 oa,d 10 oa,d 11 oa,Tn];exact V j Q
    ·obtain⟨i,hi,rfl⟩:∃i,i<12/\j=k*12+i:=⟨j-k*12,oa,oa⟩;rw[Sw _ k i hi];rcases(by omega:i=0\/i=1\/i=2\/i=3\/i=4\/i=5\/i=6\/i=7\/i=8\/i=9\/i=10\/i=11)with rfl|rfl|rfl|rfl|rfl|rfl|rfl|rfl|rfl|rfl|rfl|rfl<;>simp[J7]
   case measure=>simp[intOf];omega
  ·have t:k=n:=oa;subst t;have HB:=O hb;have R:=O (And.intro c u);clear hb c u;go_wp2;go_ret;exact⟨⟨rfl,_,R.1,R.2⟩,HB⟩
theorem Yx(b n cap s:Nat)(w:Y)(hl:b<w.heap.size)(hA:∀i,i<n->∀j u,(J7 s i)[j]?=some u->w.cell? (G b (i*12+j))=some u)(hn:n<=4194304)(hs:s<=100000000000000):
  C9 74 #[S9 b n cap,J (s:Int)] w (R9 (J ((s:Int)+12*(n:Int))) w):=by
 have A:=O hA;clear hA
 go_enter func74,ntmps74
 go_wp2;go_loopw [1,5] (fun q i wr=>∃(k:Nat),k<=n/\i=J k/\q=J ((s:Int)+12*(k:Int))/\B9 w wr) (fun _ i _=>n-(intOf i).toNat)
 case atStart=>exact⟨0,oa,rfl,od,Cs _ _⟩
 case round=>
  obtain⟨k,hk,rfl,rfl,hb⟩:=hrel;have c:b<wr.heap.size:=At hl hb.size;by_cases t:k<n
  ·have hc:∀j u,(J7 s k)[j]?=some u->wr.cell? (G b (k*12+j))=some u:=fun j u hu=>ol hb hl (A k t j u hu);have d0:wr.cell? (G b (k*12))=some (J ((s:Int)+12*(k:Int))):=hc 0 _ rfl;have d1:wr.cell? (G b (k*12+1))=some (J ((s:Int)+12*(k:Int)+1)):=hc 1 _ rfl;have d2:wr.cell? (G b (k*12+2))=some (J ((s:Int)+12*(k:Int)+1+1)):=hc 2 _ rfl;have d3:wr.cell? (G b (k*12+3))=some (J ((s:Int)+12*(k:Int)+1+1+1)):=hc 3 _ rfl;have d4:wr.cell? (G b (k*12+4))=some (F9 (floatOfInt .f64 ((s:Int)+12*(k:Int)+1+1+1+1))):=hc 4 _ rfl;have d5:wr.cell? (G b (k*12+5))=some (.string (mark (s+12*k+5))):=hc 5 _ rfl;have d6:wr.cell? (G b (k*12+6))=some (J ((s:Int)+12*(k:Int)+1+1+1+1+1+1)):=hc 6 _ rfl;have d7:wr.cell? (G b (k*12+7))=some (J ((s:Int)+12*(k:Int)+1+1+1+1+1+1+1)):=hc 7 _ rfl;have d8:wr.cell? (G b (k*12+8))=some (J ((s:Int)+12*(k:Int)+1+1+1+1+1+1+1+1)):=hc 8 _ rfl;have d9:wr.cell? (G b (k*12+9))=some (F9 (floatOfInt .f64 ((s:Int)+12*(k:Int)+1+1+1+1+1+1+1+1+1))):=hc 9 _ rfl;have d10:wr.cell? (G b (k*12+10))=some (.string (mark (s+12*k+10))):=hc 10 _ rfl;have d11:wr.cell? (G b (k*12+11))=some (J ((s:Int)+12*(k:Int)+1+1+1+1+1+1+1+1+1+1+1)):=hc 11 _ rfl;have g4:=Ys ((s:Int)+12*(k:Int)+1+1+1+1) oa oa;have g9:=Ys ((s:Int)+12*(k:Int)+1+1+1+1+1+1+1+1+1) oa oa;have f:∀w:World,_:=fun w=>A6 (s+12*k+5) oa w;rw[show((s+12*k+5:Nat):Int)=(s:Int)+12*(k:Int)+1+1+1+1+1 by omega]at f;have B:=O f;have d:∀w:World,_:=fun w=>A6 (s+12*k+10) oa w;rw[show((s+12*k+10:Nat):Int)=(s:Int)+12*(k:Int)+1+1+1+1+1+1+1+1+1+1 by omega]at d;have v:=O d;have g:=O hb;clear hb hc f d;go_wp2;refine qr wr ?_;refine N (h:=N (h:=N (h:=N (h:=N (h:=N (h:=N (h:=?_)))))));refine GS (fun K hK=>?_);go_simp;refine⟨_,fun w' l=>qk l (B _),hK _ ?_⟩;clear hK K;refine N (h:=?_);refine H7 ?_;intro w1 a;have m:=O (oo g a);have o:b<w1.heap.size:=At c a.size;replace d5:=ol a c d5;replace d6:=ol a c d6;replace d7:=ol a c d7;replace d8:=ol a c d8;replace d9:=ol a c d9;replace d10:=ol a c d10;replace d11:=ol a c d11;clear a g d0 d1 d2 d3 d4;go_wp2;refine qr w1 ?_;refine N (h:=N (h:=N (h:=N (h:=N (h:=N (h:=N (h:=?_)))))));refine GS (fun K hK=>?_);go_simp;refine⟨_,fun w' l=>qk l (v _),hK _ ?_⟩;clear hK K;refine N (h:=?_);refine H7 ?_;intro w2 e;have x:=O (oo m e);have C:b<w2.heap.size:=At o e.size;replace d10:=ol e o d10;replace d11:=ol e o d11;clear e m d5 d6 d7 d8 d9;go_wp2;go_roundw
   case rel=>exact⟨k+1,oa,oh,oh,x⟩
   case measure=>simp[intOf];omega
  ·have r:k=n:=oa;subst r;have D:=O hb;clear hb;go_wp2;go_ret;exact⟨rfl,D⟩
theorem WZ{e:TypeId}{S cap:Nat}{xs:List Value}(h:w.ownsRow B e S (S9 b n cap) n xs):∃Z g,w.rowIs b e Z g/\n*S<=Z:=by
 rcases h.2 with⟨hn,_⟩|⟨g',a,cur,c,hb,d,h1,h2,h3,h4⟩
 ·cases hn
 ·cases c;exact⟨cur.size,fun i=>(cur[i]?).getD undef,⟨cur,d,rfl,fun i hi=>by show cur[i]?=some ((cur[i]?).getD undef);rw[Aag hi];rfl⟩,by rw[h3];exact VC _ h1⟩
theorem Bu.dst{Z:Nat->Prop}(h:Bu b w w')(a:Z b):Br Z w Z w':=⟨h.os,h.tape,h.output,h.size,fun k hk hn=>h.block k hk (fun e=>hn (e▸a)),fun _ h=>.inl h⟩
theorem Ss(a:T9)(cap s:Nat)(w:Y):C9 73 #[.slice a 0 cap,J (s:Int)] w fun e w'=>e=.returned (J (s:Int))/\w'=w:=by
 go_enter func73,ntmps73
 go_wp2;go_loopw [1,5] (fun q i wr=>i=J 0/\q=J (s:Int)/\wr=w) (fun _ _ _=>0)
 case atStart=>exact⟨rfl,rfl,rfl⟩
 case round=>
  obtain⟨rfl,rfl,rfl⟩:=hrel;go_wp2;go_ret;exact⟨rfl,rfl⟩
theorem R3(a:T9)(cap s:Nat)(w:Y):C9 74 #[.slice a 0 cap,J (s:Int)] w fun e w'=>e=.returned (J (s:Int))/\w'=w:=by
 go_enter func74,ntmps74
 go_wp2;go_loopw [1,5] (fun q i wr=>i=J 0/\q=J (s:Int)/\wr=w) (fun _ _ _=>0)
 case atStart=>exact⟨rfl,rfl,rfl⟩
 case round=>
  obtain⟨rfl,rfl,rfl⟩:=hrel;go_wp2;go_ret;exact⟨rfl,rfl⟩
theorem Su(a:T9)(B n c s:Nat)(f:Nat->An)(w:Y)(h:Mv w B (.slice a n c) n f)(hn:n<=4194304)(hs:s<=100000000000000):
  C9 73 #[.slice a n c,J (s:Int)] w fun e w'=>e=.returned (J ((s:Int)+12*(n:Int)))/\Oq 12 w' a n (J7 s)/\Br (fun k=>(Value.slice a n c).ownBlock=some k) w (fun k=>(Value.slice a n c).ownBlock=some k) w':=by
 rcases W0 n with h0|h0
 ·subst h0;refine(Ss a c s w).mono ?_;rintro e w' ⟨rfl,rfl⟩;exact⟨od,.inl rfl,Br.refl _ _⟩
 ·obtain⟨b,p,e,hb,hl⟩:=h.form h0;cases e;obtain⟨Z,g,m,hN⟩:=WZ h;refine(YY b n c Z s g w m hN hn hs).mono ?_;rintro e w' ⟨⟨rfl,g',d,l⟩,o⟩;refine⟨rfl,.inr ⟨b,rfl,d.lt,fun i hi j u hu=>?_⟩,o.dst rfl⟩;have hj:j<12:=(It.1 hu).1;rw[d.cell (i:=i*12+j) oa,l _ oa,Sw s i j hj,hu];rfl
theorem T1(a:T9)(n c s:Nat)(w:Y)(h:Oq 12 w a n (J7 s))(hn:n<=4194304)(hs:s<=100000000000000):
  C9 74 #[.slice a n c,J (s:Int)] w (R9 (J ((s:Int)+12*(n:Int))) w):=by
 rcases h with d|⟨b,rfl,hl,hc⟩
 ·subst d;refine(R3 a c s w).mono ?_;rintro e w' ⟨rfl,rfl⟩;exact⟨od,Cs _ _⟩
 ·exact Yx b n c s w hl hc hn hs
def J8(s i:Nat):List Value:=[J ((s:Int)+3*(i:Int)),.string (mark (s+3*i+1)),J ((s:Int)+3*(i:Int)+1+1)]
def J6(s j:Nat):Value:=((J8 s (j/3))[j%3]?).getD undef
theorem NA(s k i:Nat)(hi:i<3):J6 s (k*3+i)=((J8 s k)[i]?).getD undef:=by
 unfold J6;rw[show(k*3+i)/3=k by omega,show(k*3+i)%3=i by omega]
theorem Uk(b n cap Z s:Nat)(g:Nat->Value)(w:Y)(hA:w.rowIs b 205 Z g)(hN:n*3<=Z)(hn:n<=4194304)(hs:s<=100000000000000):
  C9 120 #[S9 b n cap,J (s:Int)] w fun e w'=>(e=.returned (J ((s:Int)+3*(n:Int)))/\∃g',w'.rowIs b 205 Z g'/\∀j,j<n*3->g' j=J6 s j)/\Bu b w w':=by
 have A:=O hA;clear hA
 go_enter func120,ntmps120
 go_wp2;go_loopw [1,5] (fun q i wr=>∃(k:Nat) (g:Nat->Value),k<=n/\i=J (k:Int)/\q=J ((s:Int)+3*(k:Int))/\Bu b w wr/\wr.rowIs b 205 Z g/\∀j,j<k*3->g j=J6 s j) (fun _ i _=>n-(intOf i).toNat)
 case atStart=>exact⟨0,g,oa,rfl,od,Bu.refl _ _,A,fun j hj=>oa⟩
 case round=>
  obtain⟨k,g,hk,rfl,rfl,hb,c,m⟩:=hrel;by_cases B:k<n
  ·have o:=c.lt;have d:∀w:World,_:=fun w=>A6 (s+3*k+1) oa w;rw[show((s+3*k+1:Nat):Int)=(s:Int)+3*(k:Int)+1 by omega]at d;have C:=O d;have p:=O hb;have r:=O c;have D:=O m;clear hb m d;have d0:=c.cell (i:=k*3) oa;have e0:=c.frozen (k*3);have d1:=c.cell (i:=k*3+1) oa;have e1:=c.frozen (k*3+1);have d2:=c.cell (i:=k*3+2) oa;have e2:=c.frozen (k*3+2);clear c;go_wp2_with fail;refine(C _).mono ?_;rintro e w1 ⟨rfl,f⟩;have a:=(r.set (k*3) (J ((s:Int)+3*(k:Int)))).of_block (f.block b (by simpa using o));have E:=a.lt;have t:=O ((p.trans (Bu.set b (k*3) _ (J ((s:Int)+3*(k:Int))))).trans (Bu.of f));have u:=O a;clear f d0 e0 d1 e1 d2 e2;have d1:=a.cell (i:=k*3+1) oa;have e1:=a.frozen (k*3+1);have d2:=a.cell (i:=k*3+2) oa;have e2:=a.frozen (k*3+2);clear a;go_wp2;go_roundw
   case rel=>
    refine⟨k+1,_,oa,oh,oh,((t.trans (Bu.set b (k*3+1) _ (.string (mark (s+3*k+1))))).trans (Bu.set b (k*3+2) _ (J ((s:Int)+3*(k:Int)+1+1)))),((u.set (k*3+1) (.string (mark (s+3*k+1)))).set (k*3+2) (J ((s:Int)+3*(k:Int)+1+1))),fun j hj=>?_⟩;by_cases v:j<k*3
    ·have h:∀i,i<3->j≠k*3+i:=fun i _=>oa;simp only[show j≠k*3 by omega,h 1 oa,h 2 oa,Tn];exact D j v
    ·obtain⟨i,hi,rfl⟩:∃i,i<3/\j=k*3+i:=⟨j-k*3,oa,oa⟩;rw[NA _ k i hi];rcases(by omega:i=0\/i=1\/i=2)with rfl|rfl|rfl<;>simp[J8]
   case measure=>simp[intOf];omega
  ·have l:k=n:=oa;subst l;have F:=O hb;have x:=O (And.intro c m);clear hb c m;go_wp2;go_ret;exact⟨⟨rfl,_,x.1,x.2⟩,F⟩
theorem T2(b n cap s:Nat)(w:Y)(hl:b<w.heap.size)(hA:∀i,i<n->∀j u,(J8 s i)[j]?=some u->w.cell? (G b (i*3+j))=some u)(hn:n<=4194304)(hs:s<=100000000000000):
  C9 188 #[S9 b n cap,J (s:Int)] w (R9 (J ((s:Int)+3*(n:Int))) w):=by
 have o:=O hA;clear hA
 go_enter func188,ntmps188
 go_wp2;go_loopw [1,5] (fun q i wr=>∃(k:Nat),k<=n/\i=J k/\q=J ((s:Int)+3*(k:Int))/\B9 w wr) (fun _ i _=>n-(intOf i).toNat)
 case atStart=>exact⟨0,oa,rfl,od,Cs _ _⟩
 case round=>
  obtain⟨k,hk,rfl,rfl,hb⟩:=hrel;have c:b<wr.heap.size:=At hl hb.size;by_cases g:k<n
  ·have hc:∀j u,(J8 s k)[j]?=some u->wr.cell? (G b (k*3+j))=some u:=fun j u hu=>ol hb hl (o k g j u hu);have d0:wr.cell? (G b (k*3))=some (J ((s:Int)+3*(k:Int))):=hc 0 _ rfl;have d1:wr.cell? (G b (k*3+1))=some (.string (mark (s+3*k+1))):=hc 1 _ rfl;have d2:wr.cell? (G b (k*3+2))=some (J ((s:Int)+3*(k:Int)+1+1)):=hc 2 _ rfl;have d:∀w:World,_:=fun w=>A6 (s+3*k+1) oa w;rw[show((s+3*k+1:Nat):Int)=(s:Int)+3*(k:Int)+1 by omega]at d;have r:=O d;have e:=O hb;clear hb hc d;go_wp2;refine qr wr ?_;refine N (h:=N (h:=N (h:=N (h:=N (h:=N (h:=?_))))));refine GS (fun K hK=>?_);go_simp;refine⟨_,fun w' l=>qk l (r _),hK _ ?_⟩;clear hK K;refine N (h:=?_);refine H7 ?_;intro w1 a;have m:=O (oo e a);have t:b<w1.heap.size:=At c a.size;replace d1:=ol a c d1;replace d2:=ol a c d2;clear a e d0;go_wp2;go_roundw
   case rel=>exact⟨k+1,oa,oh,oh,m⟩
   case measure=>simp[intOf];omega
  ·have f:k=n:=oa;subst f;have v:=O hb;clear hb;go_wp2;go_ret;exact⟨rfl,v⟩
theorem RH(a a':T9)(n cap m:Nat)(f:Nat->A3)(w:Y)(hA:Ot w a n f)(u:Ot w a' n f)(hn:n<=1048576):
  C9 117 #[.slice a n cap,.slice a' n m] w (R9 (.bool true) w):=by
 have v:=O hA;have x:=O u;clear hA u
 go_enter func117,ntmps117
 go_wp2;go_loopw [5] (fun i wr=>∃(k:Nat),k<=n/\i=J k/\B9 w wr) (fun i _=>n-(intOf i).toNat)
 case atStart=>exact⟨0,oa,rfl,Cs _ _⟩
 case round=>
  obtain⟨k,hk,rfl,hb⟩:=hrel;by_cases o:k<n
  ·obtain⟨b,off,rfl,g,hcs⟩:=v.resolve_left oa;obtain⟨b',d,rfl,c,j⟩:=x.resolve_left oa;obtain⟨e0,e1,e2⟩:=hcs k o;obtain⟨d0,d1,d2⟩:=j k o;have e0:=ol hb g e0;have e1:=ol hb g e1;have e2:=ol hb g e2;have d0:=ol hb c d0;have d1:=ol hb c d1;have d2:=ol hb c d2;have hx:b<wr.heap.size:=At g hb.size;have A:b'<wr.heap.size:=At c hb.size;have q:=O hb;clear hb hcs j;have s:Hid (∀w,C9 185 #[Sh (f k).parent (f k).key (f k).count,Sh (f k).parent (f k).key (f k).count] w (R9 (.bool true) w)):=O (fun w=>(RI _ _ _ _ _ _ w).mono fun e w' h=>⟨by rw[h.1];simp,h.2⟩);go_wp2_with fail;refine qr wr ?_;refine N (h:=N (h:=N (h:=N (h:=N (h:=N (h:=N (h:=N (h:=?_))))))));refine GS (fun K hK=>?_);go_simp;refine⟨_,fun w' t=>qk t (s _),hK _ ?_⟩;clear hK K;refine N (h:=?_);refine H7 ?_;intro w2 r;have l:=O (oo q r);clear r e0 e1 e2 d0 d1 d2;go_wp2;go_roundw
   case rel=>exact⟨k+1,oa,oh,l⟩
   case measure=>simp[intOf];omega
  ·have:k=n:=oa;subst this;have l:=O hb;clear hb;go_wp2;go_ret;exact⟨rfl,l⟩
theorem RF(a a':T9)(n cap b:Nat)(f:Nat->A3)(w:Y)(hA:Ot w a n f)(h:Ot w a' n f)(hn:n<=1048576):
  C9 60 #[.agg #[.slice a n cap],.agg #[.slice a' n b]] w (R9 (.bool true) w):=by
 have c:B9 w ((w.alloc (.cells #[.slice a n cap] 38)).alloc (.cells #[.slice a' n b] 38)):=(n9).alloc od _;have j:=O (RH a a' n cap b f _ (hA.below c rfl) (h.below c rfl) hn);have i:=O c;clear hA h c
 go_enter func60,ntmps60
 go_wp2_with fail
 refine j.mono ?_;rintro e w1 ⟨rfl,d⟩;have g:=O (oo i d);clear d;go_wp2;go_ret;exact⟨rfl,g⟩
structure Z6 (w:Y) (a b sa:T9) (s:AK):Prop where
 f:Ot w a s.nf s.F
 t:Z7 w b s.nt s.T
 si:LS w sa s.ns s.S
theorem Z6.below{a b sa:Option Addr}{s:AK}(h:Z6 w a b sa s)(hb:B9 w w'):Z6 w' a b sa s:=⟨h.f.below hb rfl,h.t.below hb rfl,h.si.below hb rfl⟩
theorem TM(v d x e sa g:T9)(A k tc l sc m:Nat)(s:AK)(w:Y)(h:Z6 w v x sa s)(h':Z6 w d e g s)(hs:TA s):
  C9 16 #[nH v A x tc sa sc s,nH d k e l g m s] w (R9 (.bool true) w):=by
 have j:B9 w ((w.alloc (.cells #[.slice v s.nf A,.slice x s.nt tc,.slice sa s.ns sc] 42)).alloc (.cells #[.slice d s.nf k,.slice e s.nt l,.slice g s.ns m] 42)):=(n9).alloc od _;have c:=O (And.intro (h.below j) (h'.below j));have o:=O hs;have p:=O j;clear j h h' hs
 go_enter func16,ntmps16
 go_wp2_with fail
 refine m9 (RF v d s.nf A k s.F _ c.1.f c.2.f o.f.1) fun w1 b=>?_;obtain⟨B,C⟩:=Bo b;have D:=b.size;simp at D;have K:w.heap.size<w1.heap.size:=oa;have L:w.heap.size+1<w1.heap.size:=oa;have q:=O (oo p b);have c:=O (And.intro (c.1.below b) (c.2.below b));clear b;go_wp2_with fail;refine m9 (Oz x e s.nt tc l s.T _ c.1.t c.2.t o.nt (fun i hi=>⟨o.nv hi,o.MX hi⟩)) fun w2 a=>?_;obtain⟨E,H⟩:=Bo a;have z0:=At K a.size;have M:=At L a.size;have r:=O (oo q a);have c:=O (And.intro (c.1.below a) (c.2.below a));clear a;go_wp2_with fail;refine m9 (Qv sa g s.ns sc m s.S _ c.1.si c.2.si o.n) fun w3 u=>?_;have I:=O (oo r u);clear u B C E H;go_wp2;go_ret;exact⟨rfl,I⟩
def gH(s i:Nat):A3:=⟨(s:Int)+3*(i:Int),mark (s+3*i+1),(s:Int)+3*(i:Int)+1+1⟩
theorem oK(s j:Nat):J6 s j=cellOf (gH s) j:=by
 obtain⟨k,i,hi,rfl⟩:∃k i,i<3/\j=k*3+i:=⟨j/3,j%3,oa,oa⟩;rw[NA s k i hi];unfold cellOf;rw[show(k*3+i)%3=i by omega,show(k*3+i)/3=k by omega];rcases(by omega:i=0\/i=1\/i=2)with rfl|rfl|rfl<;>rfl
theorem OS(s:Nat)(w:Y):C9 120 #[N9,J (s:Int)] w fun e w'=>e=.returned (J (s:Int))/\w'=w:=by
 go_enter func120,ntmps120
 go_wp2;go_loopw [1,5] (fun q i wr=>i=J 0/\q=J (s:Int)/\wr=w) (fun _ _ _=>0)
 case atStart=>exact⟨rfl,rfl,rfl⟩
 case round=>
  obtain⟨rfl,rfl,rfl⟩:=hrel;go_wp2;go_ret;exact⟨rfl,rfl⟩
theorem OD(s:Nat)(w:Y):C9 188 #[N9,J (s:Int)] w fun e w'=>e=.returned (J (s:Int))/\w'=w:=by
 go_enter func188,ntmps188
 go_wp2;go_loopw [1,5] (fun q i wr=>i=J 0/\q=J (s:Int)/\wr=w) (fun _ _ _=>0)
 case atStart=>exact⟨rfl,rfl,rfl⟩
 case round=>
  obtain⟨rfl,rfl,rfl⟩:=hrel;go_wp2;go_ret;exact⟨rfl,rfl⟩
theorem bY{f:Nat->A3}(h:GV f n w v lo hi)(hn:n<=1048576)(hs:s<=10000000000000):
  C9 120 #[v,J (s:Int)] w fun e w'=>(e=.returned (J ((s:Int)+3*(n:Int)))/\GV (gH s) n w' v lo hi)/\Bv v w w':=by
 rcases h with⟨c,rfl⟩|⟨c,b,l,rfl,h2,h3,Z,g,hN,m,_⟩
 ·subst c;refine(OS s w).mono ?_;rintro e w' ⟨rfl,rfl⟩;exact⟨⟨od,.inl ⟨rfl,rfl⟩⟩,Bv.same _ _⟩
 ·refine(Uk b n l Z s g w m hN oa oa).mono ?_;rintro e w' ⟨⟨rfl,g',d,i⟩,a⟩;exact⟨⟨rfl,.inr ⟨c,b,l,rfl,h2,h3,Z,g',hN,d,fun j hj=>(i j hj).trans (oK s j)⟩⟩,⟨a.os,a.tape,a.output,a.size,fun k hk hn=>a.block k hk (fun e=>hn (by rw[e];rfl))⟩⟩
theorem bI(h:GV (gH s) n w v lo hi)(hn:n<=1048576)(hs:s<=10000000000000):
  C9 188 #[v,J (s:Int)] w (R9 (J ((s:Int)+3*(n:Int))) w):=by
 rcases h with⟨a,rfl⟩|⟨a,b,c,rfl,h2,h3,h4⟩
 ·subst a;refine(OD s w).mono ?_;rintro e w' ⟨rfl,rfl⟩;exact⟨od,Cs _ _⟩
 ·refine T2 b n c s w h4.lt (fun i hi j u hu=>?_) oa oa;have hj:j<3:=(It.1 hu).1;obtain⟨c0,c1,c2⟩:=h4.cells hi;rcases(by omega:j=0\/j=1\/j=2)with rfl|rfl|rfl<;>cases hu
  ·exact c0
  ·exact c1
  ·exact c2
theorem bW{f:Nat->A3}(h:GV f n w v lo hi)(hn:n<=1048576)(hs:s<=10000000000000):
  C9 63 #[.agg #[v],J (s:Int)] w fun e w'=>(e=.returned (J ((s:Int)+3*(n:Int)))/\GV (gH s) n w' v lo hi)/\Bv v w w':=by
 obtain⟨a,i,rfl⟩:=h.form;have g:B9 w (w.alloc (.cells #[.slice a n i] 38)):=n9;have j:∀k,(Value.slice a n i).ownBlock=some k->k<w.heap.size:=fun k e=>by
  rcases h with⟨p,e'⟩|⟨p,b,r,e',h2,h3,h4⟩
  ·cases e';cases e
  ·cases e';cases e;exact h4.lt
 have q:=O (bY (s:=s) (h.CD (w':=w.alloc (.cells #[.slice a n i] 38)) (fun b e=>g.block b (j b e))) hn hs);have c:=O g;clear h g
 go_enter func63,ntmps63
 go_wp2_with fail
 refine q.mono ?_;rintro e w1 ⟨⟨rfl,o⟩,d⟩;have l:=O o;have m:Hid (Bv (.slice a n i) w w1):=O ⟨d.os.trans c.os,d.tape.trans c.tape,d.output.trans c.output,GO c.size d.size,fun k hk hn=>(d.block k (At hk c.size) hn).trans (c.block k hk)⟩;clear o d;go_wp2;go_ret;exact⟨⟨rfl,l⟩,m⟩
theorem bG(h:GV (gH s) n w v lo hi)(hn:n<=1048576)(hs:s<=10000000000000)(g:hi<=w.heap.size):
  C9 124 #[.agg #[v],J (s:Int)] w (R9 (J ((s:Int)+3*(n:Int))) w):=by
 obtain⟨a,i,rfl⟩:=h.form;have b:B9 w (w.alloc (.cells #[.slice a n i] 38)):=n9;have j:=O (bI (h.below b g) hn hs);have c:=O b;clear h b
 go_enter func124,ntmps124
 go_wp2_with fail
 refine j.mono ?_;rintro e w1 ⟨rfl,d⟩;have f:=O (oo c d);clear d;have hq:¬(s:Int)+3*(n:Int)<0:=oa;go_wp2;go_ret;exact⟨rfl,f⟩
def Sz(s:AK)(k:Nat):AK:=⟨s.nf,gH k,s.nt,fun i=>mkT (s.T i) (JI s.T (k+3*s.nf) i),s.ns,cE (JI s.T (k+3*s.nf) s.nt)⟩
def Hf(s:AK)(k:Nat):Nat:=JI s.T (k+3*s.nf) s.nt+5*s.ns
structure XV (s:AK):Prop where
 f:s.nf<=1048576
 t:Iu s.T s.nt<=2000000000
 n:s.ns<=1048576
theorem L4(s:Int)(w:Y):
  C9 64 #[N9,J s] w fun e w'=>e=.returned (J s)/\w'=w:=by
 go_enter func64,ntmps64
 go_wp2;go_loopw [1,5] (fun q i wr=>q=J s/\i=J 0/\wr=w) (fun _ _ _=>0)
 case atStart=>exact⟨rfl,rfl,rfl⟩
 case round=>
  obtain⟨rfl,rfl,rfl⟩:=hrel;go_wp2;go_ret;exact⟨rfl,rfl⟩
theorem LW(s:Int)(w:Y):
  C9 125 #[N9,J s] w fun e w'=>e=.returned (J s)/\w'=w:=by
 go_enter func125,ntmps125
 go_wp2;go_loopw [1,5] (fun q i wr=>q=J s/\i=J 0/\wr=w) (fun _ _ _=>0)
 case atStart=>exact⟨rfl,rfl,rfl⟩
 case round=>
  obtain⟨rfl,rfl,rfl⟩:=hrel;go_wp2;go_ret;exact⟨rfl,rfl⟩
theorem cA(h:UY lo hi w v n f H)(d:Iu f n<=2000000000)(hs:s<=10000000000000):
  C9 64 #[v,J (s:Int)] w fun e w'=>(e=.returned (J (JI f s n:Int))/\UY lo hi w' v n (fun i=>mkT (f i) (JI f s i)) H)/\(w'.os=w.os/\w'.tape=w.tape/\w'.output=w.output/\w.heap.size<=w'.heap.size/\∀k,k<w.heap.size->v.ownBlock≠some k->(∀i,i<n->¬(H i).own k)->w'.heap[k]?=w.heap[k]?):=by
 rcases h with⟨j,rfl⟩|⟨b,a,Z,g,rfl,h2,h3,h4,h5,l,c⟩
 ·subst j;refine(L4 s w).mono fun e w' h=>?_;rw[h.2];exact⟨⟨by rw[h.1];rfl,.inl ⟨rfl,rfl⟩⟩,rfl,rfl,rfl,Be _,fun _ _ _ _=>rfl⟩
 ·refine(L0 b n a Z lo hi s g f H w h4 h5 l c d hs).mono fun e w' h=>?_;obtain⟨⟨rfl,⟨g',m⟩,o⟩,hb⟩:=h;exact⟨⟨rfl,.inr ⟨b,a,Z,g',rfl,h2,h3,m,h5,o,c⟩⟩,hb.os,hb.tape,hb.output,hb.size,fun k hk h1 h2=>hb.block k hk (fun e=>h1 (by rw[e];rfl)) h2⟩
theorem bK(h:UY lo hi w v n (fun i=>mkT (f i) (JI f s i)) H)(a:Iu f n<=2000000000)(hs:s<=10000000000000):
  C9 125 #[v,J (s:Int)] w (R9 (J (JI f s n:Int)) w):=by
 rcases h with⟨c,rfl⟩|⟨b,d,Z,g,rfl,h2,h3,h4,h5,j,k⟩
 ·subst c;refine(LW s w).mono fun e w' h=>?_;rw[h.2];exact⟨by rw[h.1];rfl,Cs _ _⟩
 ·exact LV b n d lo hi s f H w (Ok h4) j a hs
theorem bX{s:AK}(h:Pb lo hi w vF vT vS s H)(hs:XV s)(k:Nat)(ah:k<=1000000000000)(hh:hi<=w.heap.size):
  C9 17 #[.agg #[vF,vT,vS],J (k:Int)] w fun e w'=>(e=.returned (J (Hf s k:Int))/\Pb lo hi w' vF vT vS (Sz s k) H)/\Ou lo hi w w':=by
 have hf:=hs.f;have ht:=hs.t;have hn:=hs.n;have Z:=Rc s.T (k+3*s.nf) s.nt;obtain⟨W,A⟩:∃W,W=w.alloc (.cells #[vF,vT,vS] 42):=⟨_,rfl⟩;have o:B9 w W:=by rw[A];exact(Cs _ _).alloc (Be _) _
 have lw:w.heap.size<W.heap.size:=by rw[A];simp
 have B:=h.below o hh;obtain⟨fa,fc,eF,_⟩:=B.f.at;obtain⟨ta,tc,eT,_⟩:=B.t.at;obtain⟨sa,sc,eS,_⟩:=B.si.at;have x1:W.cell? (y w 1)=some vT:=by rw[A,eT];simp[go_sem]
 have x2:W.cell? (y w 2)=some vS:=by rw[A,eS];simp[go_sem]
 have b:=O B;have m:=O o;have HE:=O (And.intro eF (And.intro eT eS));subst eF eT eS;clear B o h hs
 go_enter func17,ntmps17
 go_wp2_with fail
 rw[<-A];clear A;refine(bW (s:=k) b.f hf oa).mono ?_;rintro e w1 ⟨⟨rfl,C⟩,d⟩;have l1:=At lw d.size;have p:(Value.slice fa s.nf fc).ownBlock≠some w.heap.size:=fun e=>oj (b.f.own e).2.1;have D:(Value.slice ta s.nt tc).ownBlock≠some w.heap.size:=fun e=>oj (b.t.own e).2.1;have E:∀i,i<s.nt->¬(H i).own w.heap.size:=fun i hi e=>oj (b.t.row hi e).2.1;have y1:=(As (a:=(y w 1)) (d.block _ lw p)).trans x1;have y2:=(As (a:=(y w 2)) (d.block _ lw p)).trans x2;have u:=O (b.t.keep (w':=w1) (fun q e=>d.block q (b.t.own e).2.2 (fun c=>b.ft q c e)) (fun i q hi e=>d.block q (b.t.row hi e).2.2 (fun c=>b.fr q i c hi e)));have F:=O (b.si.keep (w':=w1) (fun q e=>d.block q (b.si.own e).2.2 (fun c=>b.fs q c e)));have I:=O C;have K:Hid (Ou lo hi w w1):=O ⟨d.os.trans m.os,d.tape.trans m.tape,d.output.trans m.output,oa,fun j hk hn=>(d.block j oa (fun e=>oj (b.f.own e))).trans (m.block j hk)⟩;have ad:=O E;have ae:=O D;clear d C x1 x2 p E D;go_wp2_with fail;have hA:=cA (s:=k+3*s.nf) u ht oa;rw[show((k+3*s.nf:Nat):Int)=(k:Int)+3*(s.nf:Int) by omega]at hA;refine hA.mono ?_;rintro e w2 ⟨⟨rfl,L⟩,M,P,Q,v,l⟩;have l2:=At l1 v;have af:=(As (a:=(y w 2)) (l _ l1 ae ad)).trans y2;have R:=O (F.keep (w':=w2) (fun q e=>l q (F.own e).2.2 (b.st q e) (fun i hi=>b.sr q i e hi)));have S:=O (I.CD (w':=w2) (fun q e=>l q (I.own e).2.2 (b.ft q e) (fun i hi=>b.fr q i e hi)));have x:=O L;have U:Hid (Ou lo hi w w2):=O (K.trans ⟨M,P,Q,v,fun j hk hn=>l j hk (fun e=>oj (u.own e)) (fun i hi e=>oj (u.row hi e))⟩);obtain⟨r,hr⟩:∃r,r=JI s.T (k+3*s.nf) s.nt:=⟨_,rfl⟩;rw[<-hr];have ai:r<=60000000000000:=oa;have HR:=O hr;clear hA M P Q v l L y1 y2 hr Z;go_wp2_with fail;refine(bZ (s:=r) R hn oa).mono ?_;rintro e w3 ⟨⟨rfl,V⟩,g⟩;have ag:Hid (Pb lo hi w3 (.slice fa s.nf fc) (.slice ta s.nt tc) (.slice sa s.ns sc) (Sz s k) H):=O (by
  have eR:=z HR;refine⟨S.CD (fun q e=>g.block q (S.own e).2.2 (b.fs q e)),x.keep (fun q e=>g.block q (x.own e).2.2 (fun c=>b.st q c e)) (fun i q hi e=>g.block q (x.row hi e).2.2 (fun c=>b.sr q i c hi e)),?_,b.ft,b.fs,b.fr,b.st,b.sr⟩;show Ts (cE (JI s.T (k+3*s.nf) s.nt)) s.ns w3 _ lo hi;rw[<-eR];exact V)
 have X:Hid (Ou lo hi w w3):=O (U.trans ⟨g.os,g.tape,g.output,g.size,fun j hk hn=>g.block j hk (fun e=>oj (R.own e))⟩);have HN:Hid (r+5*s.ns=Hf s k):=O (by unfold Hf;rw[z HR]);clear g V af;go_wp2;go_ret;exact⟨⟨by rw[<-z HN]<;>rfl,ag⟩,X⟩
theorem bH{k:Nat}{s:AK}(h:Pb lo hi w vF vT vS (Sz s k) H)(hs:XV s)(U:k<=1000000000000)(V:hi<=w.heap.size):
  C9 66 #[.agg #[vF,vT,vS],J (k:Int)] w (R9 (J (Hf s k:Int)) w):=by
 have hf:=hs.f;have X:=hs.t;have hn:=hs.n;have x:=Rc s.T (k+3*s.nf) s.nt;obtain⟨W,d⟩:∃W,W=w.alloc (.cells #[vF,vT,vS] 42):=⟨_,rfl⟩;have c:B9 w W:=by rw[d];exact(Cs _ _).alloc (Be _) _
 have A:w.heap.size<W.heap.size:=by rw[d];simp
 have v:=h.below c V;have B:GV (gH k) s.nf W vF lo hi:=v.f;have C:UY lo hi W vT s.nt (fun i=>mkT (s.T i) (JI s.T (k+3*s.nf) i)) H:=v.t;have D:Ts (cE (JI s.T (k+3*s.nf) s.nt)) s.ns W vS lo hi:=v.si;obtain⟨fa,fc,Z,_⟩:=B.at;obtain⟨ta,tc,P,_⟩:=C.at;obtain⟨sa,sc,Q,_⟩:=D.at;have x1:W.cell? (y w 1)=some vT:=by rw[d,P];simp[go_sem]
 have x2:W.cell? (y w 2)=some vS:=by rw[d,Q];simp[go_sem]
 have HF:=O B;have E:=O C;have R:=O D;have g:=O c;have F:hi<=W.heap.size:=oa;subst Z P Q;clear v c h hs B C D
 go_enter func66,ntmps66
 go_wp2_with fail
 rw[<-d];clear d;refine m9 (bG (s:=k) HF hf oa F) fun w1 a=>?_;have l1:=At A a.size;have y1:=ol a A x1;have S:=ol a A x2;have I:=O (E.keep (w':=w1) (fun q e=>a.block q (E.own e).2.2) (fun i q hi e=>a.block q (E.row hi e).2.2));have j:=O (R.keep (w':=w1) (fun q e=>a.block q (R.own e).2.2));have l:=O (oo g a);have n1:¬(k:Int)+3*(s.nf:Int)<0:=oa;clear a x1 x2;go_wp2_with fail;have hA:=bK (s:=k+3*s.nf) I X oa;rw[show((k+3*s.nf:Nat):Int)=(k:Int)+3*(s.nf:Int) by omega]at hA;refine hA.mono ?_;rintro e w2 ⟨rfl,b⟩;have K:=ol b l1 S;have m:=O (j.keep (w':=w2) (fun q e=>b.block q (j.own e).2.2));have o:=O (oo l b);obtain⟨r,L⟩:∃r,r=JI s.T (k+3*s.nf) s.nt:=⟨_,rfl⟩;rw[<-L]at m ⊢;have ad:r<=60000000000000:=oa;have n2:¬(r:Int)<0:=oa;have HN:Hid (r+5*s.ns=Hf s k):=O (by unfold Hf;rw[L]);clear hA b y1 S L x n1;go_wp2_with fail;refine m9 (bJ (s:=r) m hn oa) fun w3 u=>?_;have M:=O (oo o u);have n3:¬((r+5*s.ns:Nat):Int)<0:=oa;clear u K n2;go_wp2;go_ret;exact⟨by rw[<-z HN]<;>rfl,M⟩
theorem OG(aa:T9)(n a:Nat)(w:Y)(hn:1000<n):
  C9 23 #[.slice aa n a] w (R9 (.agg #[.bool false,N9,N9,N9,N9]) w):=by
 have c:decide ((1000:Int)<n)=true:=oe;have b:Hid (B9 w (w.alloc (.cells #[.bool false,N9,N9,N9,N9] 62))):=O (n9)
 go_enter func23,ntmps23
 go_wp2;refine E1 (v:=.agg #[.bool false,N9,N9,N9,N9]) (by simp[results,results23,go_sem]) rfl ⟨rfl,b⟩
theorem O3(aa:T9)(n a:Nat)(w:Y)(hn:1000<n):
  C9 21 #[.slice aa n a] w (R9 (.agg #[.bool false,N9,N9,N9,N9]) w):=by
 have c:decide ((1000:Int)<n)=true:=oe;have b:Hid (B9 w (w.alloc (.cells #[.bool false,N9,N9,N9,N9] 62))):=O (n9)
 go_enter func21,ntmps21
 go_wp2;refine E1 (v:=.agg #[.bool false,N9,N9,N9,N9]) (by simp[results,results21,go_sem]) rfl ⟨rfl,b⟩
section
open Go.ChangeShapes Go.WideShapes Go.ChangeAt Go.RowKit
section
variable {H:Type} {enc:TypeId×Value->H} {P:Program} {w:Y} {base:Nat} {spare:Nat->Bool} {held:Bool}
structure Fa (P:Program) (t ti a:TypeId):Prop where
 st:∃f0 f1 f2 f3 f4 f5:Field,P.underlying t=some (.struct #[f0,f1,f2,f3,f4,f5])/\f0.type=ti/\f1.type=ti/\f2.type=ti/\f3.type=ti/\f4.type=a/\f5.type=a/\f0.offset=0/\f1.offset=1/\f2.offset=2/\f3.offset=3/\f4.offset=4/\f5.offset=9
 ci:P.cellsOf ti=1
 cv:P.cellsOf a=5
 ct:P.cellsOf t=14
 ui:P.underlying ti=some (.int .i64)
theorem gF{α:Type}:∀{cs:List α},cs.length=14->∃c0 c1 c2 c3 c4 c5 c6 c7 d e a Qm b c,cs=[c0,c1,c2,c3,c4,c5,c6,c7,d,e,a,Qm,b,c]
 |[c0,c1,c2,c3,c4,c5,c6,c7,d,e,a,Qm,b,c],_=>⟨c0,c1,c2,c3,c4,c5,c6,c7,d,e,a,Qm,b,c,rfl⟩
theorem Xc{t ti c tn g ts:TypeId}(F:Fa P t ti c)(Z:Fs P c ti tn g ts){fuel:Nat}{cs:List Value}{x:DataW H×List MemPlace}(h:DataW.trod enc P w base spare held fuel t cs=some x):
  ∃a:Ac,cs=(Lm a).cells.toList/\Wf a.k/\Wf a.v:=by
 obtain⟨f0,f1,f2,f3,f4,f5,hu,t0,t1,t2,t3,t4,t5,o0,o1,o2,i,j,l⟩:=F.st;obtain⟨xs,n,_,rfl,hl,b,hf⟩:=DataW.trod_struct hu h;rw[F.ct]at hl;obtain⟨c0,c1,c2,c3,c4,c5,c6,c7,u,A,m,Qm,o,p,rfl⟩:=gF hl
 match xs,b with
 |[B,C,D,E,I,K],_=>
  have d:=hf 0 f0 rfl;have h1:=hf 1 f1 rfl;have h2:=hf 2 f2 rfl;have h3:=hf 3 f3 rfl;have h4:=hf 4 f4 rfl;have h5:=hf 5 f5 rfl;simp only[t0,t1,t2,t3,t4,t5,o0,o1,o2,i,j,l,F.ci,F.cv,List.drop_zero,List.drop_succ_cons,List.take_succ_cons,List.take_zero,List.getElem?_cons_zero,List.getElem?_cons_succ]at d h1 h2 h3 h4 h5;obtain⟨a0,e0,r0,w0⟩:=DataW.trod_int F.ui d;obtain⟨a1,e1,r1,w1⟩:=DataW.trod_int F.ui h1;obtain⟨a2,e2,r2,w2⟩:=DataW.trod_int F.ui h2;obtain⟨a3,e3,L,w3⟩:=DataW.trod_int F.ui h3;obtain⟨k0,k1,k2,k3,k4,e,_,_,q,r,_,_⟩:=NP Z h4;obtain⟨v0,v1,v2,v3,v4,f,_,_,fv,s,_,_⟩:=NP Z h5;simp only[List.cons.injEq,and_true]at e0 e1 e2 e3 e f;obtain⟨rfl,rfl,rfl,rfl,rfl⟩:=e;obtain⟨rfl,rfl,rfl,rfl,rfl⟩:=f;subst e0 e1 e2 e3;exact⟨⟨a0,a1,a2,a3,⟨k0,k1,k2,k3,k4⟩,⟨v0,v1,v2,v3,v4⟩⟩,rfl,⟨Yo q,r⟩,⟨Yo fv,s⟩⟩
end
end
end Go.Proofs.YtgmlkfgfjjggnaaGreatDoor
