import Derived.Test.YtoobllcjfinmoaaGreatDoorSDAB
set_option linter.all false
set_option maxHeartbeats 40000000
set_option maxRecDepth 100000
namespace Go.Proofs.YtoobllcjfinmoaaGreatDoor
open Go.Proofs.Tryz
open Go.RowKit
attribute [local go_sem] Aw Ar
variable {p spare:Nat->Bool}{n b0 b1 b e m j o q g k H fuel lo hi H' i n0:Nat}{f:Nat->Bh}{P:Program}{K t ti ts l tn r ty:TypeId}{d:Dc}{w w' A:Y}{B Z:Nat->Nat}{M:Nat->Option Nat}{a va la:Option Addr}{v:V9}{xs cs:List Value}{s:AL}{D:Nat->Int}{x:Si}{α:Type}{key:ByteArray}
section
open Go.Maps Keyed
def VQ{p:Nat->Prop}(h:∃t,p t):∃t,p t/\∀s,s<t->¬p s:=by
 obtain⟨t,c⟩:=h
 induction t using Nat.strongRecOn with
 |ind t ih=>
  by_cases hs:∃s,s<t/\p s
  .obtain⟨s,a,hs⟩:=hs;exact ih s a hs
  exact⟨t,c,λs a b=>hs ⟨s,a,b⟩⟩
def JS f i key:aK f i key<|Bf f i key:=by
 by_cases h:∃t,(∀s,s<=t->0<DR f i s)/\(f<|DR f i t).key.toList=key.toList
 .obtain⟨t,⟨h1,h2⟩,h3⟩:=VQ h;have hp:aK f i key<|(f<|DR f i t).count-1:=.inl ⟨t,h1,h2,λs hs e=>h3 s hs ⟨λu hu=>h1 u om,e⟩,rfl⟩;rw[hp.eq];exact hp
 have hp:aK f i key (-1):=.inr ⟨rfl,λt a e=>h ⟨t,a,e⟩⟩;rw[hp.eq];exact hp
theorem bH(h3:Bc n f){i}(hi:i<n):∀t,(∀s,s<t->0<DR f i s)->DR f i t<=i:=by
 intro t
 induction t with
 |zero=>intro _;exact Be _
 |succ t ih=>
  intro h;have h1:=ih λs hs=>h s om;have a:=h t om;have:=(h3 (DR f i t) a om).2.1;show(f<|DR f i t).parent.toNat<=i;omega
def SN(h2:Ba f)(h3:Bc n f){i}(hi:i<n)key:0<=Bf f i key↔∃t,(∀s,s<=t->0<DR f i s)/\(f<|DR f i t).key.toList=key.toList:=by
 have hp:=JS f i key;constructor
 .intro h;rcases hp with⟨t,a,b,_⟩|⟨a,_⟩
  .exact⟨t,a,b⟩
  omega
 rcases hp with⟨u,a',_,_,d⟩|⟨_,c⟩;all_goals grind [Bc,DR,bH,Hh]
theorem Tf(h3:Bc n f){i}(h1:1<=i)(hi:i<n):∀t,(∀s,s<t->0<DR f (AE f i) s)->Qh f i t=DR f (AE f i) t:=by
 intro t
 induction t with
 |zero=>
  intro _;have:=(h3 i h1 hi).1;show(f i).parent=((f i).parent.toNat:Int);omega
 |succ t ih=>
  intro h;have e:=ih λs hs=>h s om;have hp:AE f i<n:=by have:=(h3 i h1 hi).2.1;unfold AE;omega
  have hl:=bH h3 hp t λs hs=>h s om;have:=(h3 (DR f (AE f i) t) (h t om) om).1;show(f (Qh f i t).toNat).parent=((f<|DR f (AE f i) t).parent.toNat:Int);rw[e,Ok];omega
def Xm(h3:Bc n f){i}(h1:1<=i)(hi:i<n)t:(∀s,s<=t->0<Qh f i s)↔∀s,s<=t->0<DR f (AE f i) s:=by
 constructor
 .intro h s
  induction s using Nat.strongRecOn with
  |ind s ih=>
   intro hs;have:=Tf h3 h1 hi s λu hu=>ih u hu om;have:=h s hs;omega
 grind [Qh,Tf]
def FA(h2:Ba f)(h3:Bc n f):NK n f↔¬GI n f:=by
 have d:∀i,0<i->i<n->AE f i<n:=λi c hi=>by have:=(h3 i c hi).2.1;unfold AE;omega
 constructor
 .rintro⟨i,c,hi,hp⟩ h5;obtain⟨t,a,b⟩:=(SN h2 h3 (d i c hi) _).1 hp;refine h5 i t c hi ((Xm h3 c hi t).2 a) ?_;grind [Bc,GI,Tf]
 intro h5;by_cases h:NK n f
 .exact h
 refine absurd (λi t c hi hu e=>h ⟨i,c,hi,(SN h2 h3 (d i c hi) _).2 ⟨t,(Xm h3 c hi t).1 hu,?_⟩⟩) h5;have a:=(Xm h3 c hi t).1 hu;rw[Tf h3 c hi t (λs hs=>a s om)]at e;exact e
def RI{d}(h:Nodes P K d w f b0 n B Z M)(h2:Ba f)(h3:Bc n f):(∀i,i<n->Z i=i)↔D9 n f:=by
 constructor
 .intro hid i k h1 g hi j;have a:=h3 i om hi;have b:=h3 k h1 om;have e:f k=f i:=by
   obtain⟨e1,e2⟩:=j;have o:(f k).key=(f i).key:=WideShapes.bytes_inj (by rw[<-AaZ,<-AaZ];exact e2);have p:(f k).count=(f i).count:=by rw[b.2.2.1,a.2.2.1,e1]
   cases hk:f k;cases l:f i;grind [Bc]
  grind [Bc,Nodes.one]
 intro h4 i hi;by_cases e:Z i=i
 .exact e
 have c:Z i<i:=oS<|h.le i hi;have hs:=h.same i hi;have m:1<=Z i:=by
  rcases Aax (Z i)with e0|e0
  .rw[e0]at hs;have:=h2.1;rw[hs]at this;have:=(h3 i om hi).1;omega
  exact e0
 exact absurd ⟨by rw[hs],by rw[hs]⟩<|h4 i (Z i) m c hi
def Nodes.SQ{a}(h:Nodes P K a w f b0 n B Z M)(hb:b1<=b0):Nodes P K a w f b1 n B Z M:=
 {h with base:=λi hi=>GP hb (h.base i hi),mbase:=λi m hi hn b=>GP hb (h.mbase i m hi hn b)}
def DZ.lt{a}(h:DZ a w b):b<w.heap.size:=by
 grind [DZ]
def Nodes.below{a}(h:Nodes P K a w f b0 n B Z M)(hb:B9 w w'):Nodes P K a w' f b0 n B Z M:=
 h.keep λb hn=>hb.block b hn.lt
def PD{base J5 size}(h:w.ownsRow base e size v n xs)(hb:J5<=base):w.ownsRow J5 e size v n xs:=by
 obtain⟨hl,⟨b,d⟩|⟨g',cap,cur,b,c,a,h1,h2,h3,h4⟩⟩:=h
 .exact⟨hl,.inl ⟨b,d⟩⟩
 exact⟨hl,.inr ⟨g',cap,cur,b,GP hb c,a,h1,h2,h3,h4⟩⟩
def WD{base size}(h:w.ownsRow base e size v n xs)(hb:B9 w w'):w'.ownsRow base e size v n xs:=by
 obtain⟨hl,⟨b,d⟩|⟨g',cap,cur,b,c,a,h1,h2,h3,h4⟩⟩:=h
 .exact⟨hl,.inl ⟨b,d⟩⟩
 refine⟨hl,.inr ⟨g',cap,cur,b,c,?_,h1,h2,h3,h4⟩⟩;rw[hb.block g' (E1.1 a).1];exact a
def mL(w0:Y)(n:Nat)(f:Nat->Bh)(e:Ending)(w:Y):Prop:=
 (∃r:Int,e=.returned (.tuple #[N9,J r])/\r=Am n f/\r≠0)\/
 (∃g a B Z M,e=.returned (.tuple #[S9 g n a,J 0])/\Am n f=0/\CA w f w0.heap.size n B Z M/\(∀i,i<n->Z i=i)/\(g<w.heap.size/\w.ownsRow w0.heap.size 140 1 (S9 g n a) n (ptrs B n))/\∀i,i<n->w.cell? (G g i)=some (Q9<|B i))
def Uz p q k l c d w:(binOp .neq 142 (Sh p k c)<|Sh q l d).run prog w=.ok (.bool<|!(p==q&&(k.toList==l.toList&&c==d))) w:=by
 go_simp;by_cases h1:p=q<;>by_cases h2:k.toList=l.toList<;>by_cases h3:c=d<;>simp[h1,h2,h3]
def MF.cases{e}{p}(h:MF e p):(e=.returned (.bool true)/\p)\/(e=.returned (.bool false)/\¬p):=by
 grind [MF]
def Zb cap{f}{w}(hA:Bd w b n f)(hn:n<=1048576):
  C9 57 #[.agg #[S9 b n cap]] w λe w'=>mL w n f e w'/\B9 w w':=by
 have hl:=hA.lt;have A:0<n->w.cell? (G b 0)=some (J (f 0).parent):=λh=>by simpa using (hA.cells h).1
 have C:0<n->w.cell? (G b 1)=some (.string (f 0).key):=λh=>by simpa using (hA.cells h).2.1
 have D:0<n->w.cell? (G b 2)=some (J (f 0).count):=λh=>by simpa using (hA.cells h).2.2
 by_cases h1:Dm n
 case neg=>
  have T:=O<|Q6 (f:=f) h1;by_cases U:n=0
  focus
   subst U
  rotate_left
  focus
   have h2:200<n:=by unfold Dm at h1;omega
  all_goals
   go_enter func57,ntmps57;go_wp2
   go_ret2
   exact⟨.inl ⟨1,oq,T.symm,om⟩,n9⟩
 have q:0<n:=by unfold Dm at h1;omega
 have h3:(n:Int)<=200:=by unfold Dm at h1;omega
 have j:=(BE w.heap.size w).alloc (Be _)<|.cells #[S9 b n cap] 38;go_enter func57,ntmps57;go_wp2;obtain⟨W,o⟩:=o9<|w.alloc<|.cells #[S9 b n cap] 38;rw[<-o];have x0:W.cell? (y w 0)=some (S9 b n cap):=by rw[o];simp[go_sem]
 have d0:W.cell? (G b 0)=some (J (f 0).parent):=by rw[o,Hi _ _ _ hl];exact A q
 have d1:W.cell? (G b 1)=some (.string (f 0).key):=by rw[o,Hi _ _ _ hl];exact C q
 have d2:W.cell? (G b 2)=some (J (f 0).count):=by rw[o,Hi _ _ _ hl];exact D q
 have E:W.heap.size=w.heap.size+1:=by rw[o];simp
 have V:b<W.heap.size:=om;have v:w.heap.size<W.heap.size:=om;rw[<-o]at j;clear o E;refine qr W ?_;(iterate 4 refine N (h:=?_));refine GC λK hK=>?_;go_simp;refine⟨_,λw' s=>qk s<|Kb _,hK _ ?_⟩;clear hK K;refine GC λK hK=>?_;by_cases h2:Ba f
 case neg=>
  have p:∀w:World,(binOp .neq 142 (Sh (f 0).parent (f 0).key (f 0).count)<|Sh (-1) ⟨#[]⟩ 0).run prog w=.ok (.bool true) w:=λw=>by
   rw[Uz];have:((f 0).parent==-1&&((f 0).key.toList==(⟨#[]⟩:ByteArray).toList&&(f 0).count==0))=false:=by
    cases hb:((f 0).parent==-1&&((f 0).key.toList==(⟨#[]⟩:ByteArray).toList&&(f 0).count==0))with
    |false=>rfl
    |true=>simp at hb;exact absurd ⟨hb.1,by simpa using hb.2.1,hb.2.2⟩ h2
   rw[this];rfl
  go_simp;refine⟨_,λw' s=>rfl,hK _ ?_⟩;clear hK K;refine GS ?_;intro w2 c;have t:=O<|Q7 h1 h2;have k:=o8 j c;clear c p h2;go_wp2
  go_ret2
  exact⟨.inl ⟨2,oq,t.symm,om⟩,k⟩
 have p:∀w:World,(binOp .neq 142 (Sh (f 0).parent (f 0).key (f 0).count)<|Sh (-1) ⟨#[]⟩ 0).run prog w=.ok (.bool false) w:=λw=>by
  rw[Uz,US h2];simp
 go_simp;refine⟨_,λw' s=>rfl,hK _ ?_⟩;clear hK K;refine GS ?_;intro w2 c;have k:=o8 j c;have X:=(c.cell<|by exact v).trans x0;have z2:=A0 v c.size;go_wp2_with fail;refine(QL cap (hA.below k hl) om h2).mono ?_;rintro e w3 ⟨ht,u⟩;rcases (u.cell<|by exact z2).trans X,A0 z2 u.size,o8 k u with⟨y3,z3,m⟩;rcases ht.cases with⟨rfl,a⟩|⟨rfl,a⟩
 case inr=>
  have t:=O<|FX h1 h2 a;go_wp2
  go_ret2
  exact⟨.inl ⟨3,oq,t.symm,om⟩,m⟩
 go_wp2_with fail
 refine(Zz cap (hA.below m hl) h1 h2 a).mono ?_;rintro e w4 ⟨⟨g,F,B,Z,M,rfl,hN,⟨P,H⟩,hp⟩,I⟩;rcases o8 m I,O hp,O (AaO z3) with⟨l,L,Q⟩;go_wp2_with fail;refine(Se _ f _ n g F B Z M hN L om).mono ?_;rintro e w5 ⟨⟨r,rfl,x⟩,rfl⟩;cases r
 case true=>
  have h4:¬D9 n f:=λh4=>by
   have:=x.2<|(RI hN h2 a).2 h4;cases this
  have t:=O<|Q8 h1 h2 a h4;go_wp2
  go_ret2
  exact⟨.inl ⟨4,oq,t.symm,om⟩,l⟩
 have hid:=x.1 rfl;have R:=(RI hN h2 a).1 hid;have S:=O hid;go_wp2_with fail;refine(Mp _ _ g F B Z M hN S h2 a L om).mono ?_;rintro e w6 ⟨⟨r,rfl,x⟩,d⟩;cases r
 case true=>
  have t:=O<|Ra h1 h2 a R<|(FA h2 a).1<|x.1 rfl;go_wp2
  go_ret2
  exact⟨.inl ⟨5,oq,t.symm,om⟩,o8 l d⟩
 have h5:GI n f:=AaR λh5=>by
  have:=x.2<|(FA h2 a).2 h5;cases this
 go_wp2
 go_ret2
 refine⟨.inr ⟨g,F,B,Z,M,oq,z<|O<|L9 h1 h2 a R h5,?_,S,⟨A0 P d.size,PD (WD H d) Q⟩,λi hi=>(d.cell<|by exact P).trans<|L i hi⟩,o8 l d⟩;exact(hN.below d).SQ Q
def VR w{f}b0{n}B Z M(h:CA w f b0 n B Z M)(hid:∀i,i<n->Z i=i)(h2:Ba f)(h3:Bc n f)i(hi:i<n):
  C9 208 #[Q9 (B i)] w λe w'=>(∃m,e=.returned (S9 m (nf f i)<|nf f i)/\w.heap.size<=m/\lS w' m (nf f i) (DG f i))/\B9 w w':=by
 obtain⟨R,S⟩:=Bb h2 (λj h1 h2=>h3 j h1 h2) i hi;obtain⟨c,hc⟩:∃c:Nat,(f i).count=c:=⟨(f i).count.toNat,om⟩;have u:nf f i=c:=by unfold nf;omega
 have K:c<=12:=om;have T:=run_make_row' 182 9 E9 16 underlying182 X5 rfl .i64 .i64 c om om;obtain⟨_,_,a3,_,_⟩:=Dt h hid hi;rw[hc]at a3;have x:∀j,j<n->B j<w.heap.size:=λj hj=>h.lt hj;rcases O x,O hid,O u with⟨A,L,k⟩;go_enter func208,ntmps208;go_wp2;go_loopw [4] (λv wr=>∃(t j:Nat) (g:Nat->Value),t<=c/\v=Q9 (B j)/\j=DR f i t/\j<n/\B9 w wr/\wr.rowIs w.heap.size 9 c g/\∀j,c-t<=j->j<c->g j=.string (DG f i j)) λv wr=>Rp v wr
 .exact⟨0,i,λ_=>E9,om,rfl,rfl,hi,n9,World.rowIs_made w E9 c 9,λj h1 h2=>om⟩
 obtain⟨t,p,g,U,rfl,hp,b,hb,a,d⟩:=hrel;obtain⟨C,D⟩:=E4 h2 h3 hi t (by rw[z k];exact U);rw[z k,<-hp]at D;have P:=O hp;clear hp C;obtain⟨c0,c2,c3,c4,_⟩:=Dt (h.below hb) L b;have hq:∀j,j<n->wr.cell? (G (B j) 0)=some (J j):=λj hj=>(Dt (h.below hb) L hj).1;have V:=A0 (A p b) hb.size;have Q:=Nat.ne_of_lt<|A p b;by_cases l:p=0
 .subst l;rw[show C4 f B 0=none by unfold C4;rw[C3 rfl]]at c4;have o:c=t:=oS h2.2.2;subst o;rcases O hb,O a,O d with⟨W,X,q⟩;go_wp2;go_ret;refine⟨⟨w.heap.size,qh k,Be _,?_⟩,W⟩;rw[z k];exact X.congr λj hj=>q j om hj
 rw[show C4 f B p=some (G (B (AE f p)) 0) by unfold C4;rw[Cs l]]at c4;have s:0<p:=om;have ad:=(h3 p s b).2.1;have o:t<c:=oS (Hh h2 h3 b s).1;obtain⟨r,hr⟩:∃r:Nat,r+1=c-t:=⟨c-t-1,om⟩;have er:(f p).count=(r:Int)+1:=om;rw[er]at c3;have E:r<c:=om;have d0:=a.cell E;have d1:=a.frozen r;have HF:Hid<|DG f i r=(f p).key:=O (by unfold DG;rw[z k,show c-1-r=t by omega,<-z P]);have F:DR f i (t+1)=AE f p:=by show(f<|DR f i t).parent.toNat=_;rw[<-z P]
 have H:AE f p<p:=by unfold AE;omega
 have HE:=O er;go_wp2
 go_region
 go_wp2;go_roundw
 .refine⟨t+1,AE f p,_,om,rfl,(z<|O F).symm,om,((z<|O hb).setCell (by exact Be _) _).drew,((z<|O a).set r _).drew,λj h1 h2=>?_⟩;by_cases e:j=r
  .subst e;simp[z HF]
  simp only[e,XN];exact z (O d) j om h2
 have hs:AE f p<n:=om;have I:=Nat.ne_of_lt<|A _ hs;rw[Li c0,Li (n:=AE f p)]
 .exact H
 exact(As<|At _ _ _ _ I).trans (z (O hq) _ hs)
end
theorem Xz(f:Nat->Bh)(i t:Nat):∀s,DR f (DR f i t) s=DR f i (t+s)
 |0=>rfl
 |s+1=>by
  show(f<|DR f (DR f i t) s).parent.toNat=_;rw[Xz f i t s];rfl
theorem NL(h2:Ba f)(h3:Bc n f){i}(hi:i<n){t}(a:t<nf f i):0<DR f i t:=by
 have:=(E4 h2 h3 hi t om).2;grind [Ba,nf]
def Tv(h2:Ba f)(h3:Bc n f){i}(hi:i<n){t}(a:∀s,s<=t->0<DR f i s):t<nf f i:=by
 grind [Bc,nf,E4,Hh]
theorem QW(h2:Ba f)(h3:Bc n f)(h5:GI n f){i}(hi:i<n){t u}(d:t<u)(hu:u<nf f i):(f<|DR f i t).key.toList≠(f<|DR f i u).key.toList:=by
 intro e;have b:=NL h2 h3 hi (show t<nf f i by omega);have c:=(E4 h2 h3 hi t om).1;have hs:AE f (DR f i t)=DR f i (t+1):=rfl;have a:AE f (DR f i t)<n:=by have:=(h3 _ b c).2.1;unfold AE;omega
 refine(FA h2 h3).1 ⟨DR f i t,b,c,?_⟩ h5;refine(SN h2 h3 a _).2 ⟨u-t-1,λs g=>?_,?_⟩;all_goals grind [Bc,nf,Xz,NL]
theorem eC(h2:Ba f)(h3:Bc n f)(h5:GI n f){i}(hi:i<n)key{j}(hj:j<nf f i)(e:(DG f i j).toList=key.toList):Bf f i key=j:=by
 have hp:=JS f i key;rcases hp with⟨t,a,b,_,d⟩|⟨_,c⟩;all_goals grind [Ba,Bc,nf,DG,Bf,QW,E4]
theorem UJ(h2:Ba f)(h3:Bc n f){i}(hi:i<n)key(e:∀j,j<nf f i->(DG f i j).toList≠key.toList):Bf f i key=-1:=by
 have hp:=JS f i key;rcases hp with⟨t,a,b,_,d⟩|⟨c,_⟩
 .have g:=Tv h2 h3 hi a;refine absurd ?_<|e (nf f i-1-t) om;grind [Bc,DG,DR]
 exact c
def La cap i key{f}{w}(hA:Bd w b n f)(h1:Dm n)(h2:Ba f)(h3:Bc n f)(h5:GI n f)(hi:i<n):
  C9 82 #[.agg #[S9 b n cap],J i,.string key] w (R9 (J<|Bf f i key) w):=by
 have u:nf f i<=12:=by have:=(Bb (k:=n) h2 (λj h1 h2=>h3 j h1 h2) i hi).2;unfold nf;omega
 obtain⟨m,x⟩:=qa<|nf f i;have p:=O x;have t:m<=12:=om;have c:B9 w<|w.alloc<|.cells #[S9 b n cap] 38:=n9;go_enter func82,ntmps82;go_wp2_with fail;refine(Il cap i (hA.below c hA.lt) h1 h2 h3 hi).mono ?_;rintro e w1 ⟨⟨g,rfl,D,q⟩,r⟩;rw[z p]at q ⊢;have A:=H8 q;have d:=o8 c r;go_wp2;go_loopw [13] (λv wr=>∃k:Nat,k<=m/\v=J k/\wr=w1/\∀j,j<k->(DG f i j).toList≠key.toList) λv _=>m-(intOf v).toNat
 .exact⟨0,om,rfl,rfl,λj hj=>om⟩
 obtain⟨k,hk,rfl,B,l⟩:=hrel;subst B;have c0:k<m->wr.cell? (G g k)=some (.string<|DG f i k):=λh=>World.rowIs.cell q h;have a:=O l;by_cases o:k<m
 .have d0:=c0 o;by_cases hK:(DG f i k).toList=key.toList
  .have C:((DG f i k).toList==key.toList)=true:=by simp[hK]
   have s:=O<|eC h2 h3 h5 hi key (by rw[z p];exact o) hK;clear hK;go_wp2;go_ret;exact⟨qh s,d⟩
  have C:((DG f i k).toList==key.toList)=false:=by simp[hK]
  have HK:=O hK;clear hK;go_wp2;go_roundw
  .refine⟨k+1,om,ov,trivial,λj hj=>?_⟩;by_cases e:j=k
   .rw[e];exact HK
   exact a j om
  exact ow
 have s:=O<|UJ h2 h3 hi key λj hj=>a j (by rw[z p]at hj;omega);go_wp2;go_ret;exact⟨qh s,d⟩
def bare(d:Dc):Prop:=d.n=0/\d.m=0/\d.x=0/\d.used=0/\d.live=0/\d.turns=0
def J2(v:Vl):Bool:=v.ok&&v.kind !=0
def VB(s:AL)(j:Nat)(t:Tb):Prop:=(t.nv:Int)=(s.F j).count/\bare t.d/\∀i,i<t.nv->J2 (t.V i)=true
def NY(s:AL)(D:Int)(t:Tb):Prop:=
 (t.shape=-1/\t.nv=0/\D=0)\/(0<=t.shape/\t.shape<s.nf/\VB s t.shape.toNat t)
def Nw(s:AL)(x:Si):Prop:=x.key.size<=4000/\0<=x.Ce/\0<=x.AD/\x.Ce<=1000000000000/\x.AD<=1000000000000/\((x.shape=-1/\x.place=0)\/(0<=x.shape/\x.shape<s.nf/\0<=x.place/\Bf s.F x.shape.toNat x.key=x.place))
open Classical in
noncomputable def BC(s:AL)(D:Nat->Int):Int:=
 if Am s.nf s.F=0 then if s.nt<=100/\s.ns<=50 then if∀i,i<s.nt->NY s (D i) (s.T i)then if∀i,i<s.ns->Nw s (s.S i)then 0 else 4 else 3 else 2 else 1
def Va(h:Am s.nf s.F≠0):BC s D=1:=Cs h
def Lv(h1:Am s.nf s.F=0)(h:¬(s.nt<=100/\s.ns<=50)):BC s D=2:=by unfold BC;rw[C3 h1,Cs h]
def Lw(h1:Am s.nf s.F=0)(h2:s.nt<=100/\s.ns<=50)(h:¬∀i,i<s.nt->NY s (D i) (s.T i)):BC s D=3:=by unfold BC;rw[C3 h1,C3 h2,Cs h]
def Vb(h1:Am s.nf s.F=0)(h2:s.nt<=100/\s.ns<=50)(h3:∀i,i<s.nt->NY s (D i) (s.T i))(h:¬∀i,i<s.ns->Nw s (s.S i)):BC s D=4:=by unfold BC;rw[C3 h1,C3 h2,C3 h3,Cs h]
def P2(h1:Am s.nf s.F=0)(h2:s.nt<=100/\s.ns<=50)(h3:∀i,i<s.nt->NY s (D i) (s.T i))(h:∀i,i<s.ns->Nw s (s.S i)):BC s D=0:=by unfold BC;rw[C3 h1,C3 h2,C3 h3,C3 h]
def Lx(h:BC s D=0):Am s.nf s.F=0/\(s.nt<=100/\s.ns<=50)/\(∀i,i<s.nt->NY s (D i) (s.T i))/\∀i,i<s.ns->Nw s (s.S i):=by
 grind [BC,Am,NY,Nw]
def Pg la lc ia ic xa xc d w:
  C9 80 #[Dv la lc ia ic xa xc d] w (R9 (.bool<|tells<|bare d) w):=by
 have e:∀o,B9 w<|w.alloc o:=λo=>n9;have b:=O e;by_cases h1:((d.n:Int)==0)=true
 case neg=>
  have a:=O<|Ae (p:=bare d) (λh=>by unfold bare at h;simp at h1;omega);have f:((d.n:Int)==0)=false:=by simpa using h1
  go_enter func80,ntmps80;go_wp2;go_ret;exact⟨qh a,b _⟩
 by_cases h2:((d.m:Int)==0)=true
 case neg=>
  have a:=O<|Ae (p:=bare d) (λh=>by unfold bare at h;simp at h2;omega);have g:((d.m:Int)==0)=false:=by simpa using h2
  go_enter func80,ntmps80;go_wp2;go_ret;exact⟨qh a,b _⟩
 by_cases h3:((d.x:Int)==0)=true
 case neg=>
  have a:=O<|Ae (p:=bare d) (λh=>by unfold bare at h;simp at h3;omega);have i:((d.x:Int)==0)=false:=by simpa using h3
  go_enter func80,ntmps80;go_wp2;go_ret;exact⟨qh a,b _⟩
 by_cases h4:(d.used==0)=true
 case neg=>
  have a:=O<|Ae (p:=bare d) (λh=>by unfold bare at h;simp at h4;omega);have j:(d.used==0)=false:=by simpa using h4
  go_enter func80,ntmps80;go_wp2;go_ret;exact⟨qh a,b _⟩
 by_cases h5:(d.live==0)=true
 case neg=>
  have a:=O<|Ae (p:=bare d) (λh=>by unfold bare at h;simp at h5;omega);have k:(d.live==0)=false:=by simpa using h5
  go_enter func80,ntmps80;go_wp2;go_ret;exact⟨qh a,b _⟩
 by_cases c:(d.turns==0)=true
 case neg=>
  have a:=O<|Ae (p:=bare d) (λh=>by unfold bare at h;simp at c;omega);have l:(d.turns==0)=false:=by simpa using c
  go_enter func80,ntmps80;go_wp2;go_ret;exact⟨qh a,b _⟩
 have a:=O<|Al (p:=bare d) (by simp at h1 h2 h3 h4 h5 c;exact⟨h1,h2,h3,h4,h5,c⟩);go_enter func80,ntmps80;go_wp2;go_ret;exact⟨qh a,b _⟩
def Xv(la:T9)(lc:Nat)(ia:T9)(ic:Nat)(xa:T9)(xc:Nat)(d:Dc)(D:Int):Prop:=
 ∀W:World,Ei W la ia xa d->C9 78 #[Dv la lc ia ic xa xc d] W (R9 (J D) W)
def Su m k ta tc sa sc s va vc{la:Option Addr}{lc}{ia:Option Addr}{ic}{xa:Option Addr}{xc}t{D}{w}(hA:Ei w la ia xa t.d)(hD:Xv la lc ia ic xa xc t.d D)(j:t.shape<0):
  C9 42 #[Qk (some<|G m 0) k ta tc sa sc s,TV va vc la lc ia ic xa xc t] w (R9 (.bool<|tells<|NY s D t) w):=by
 have a:∀o1 o2,B9 w<|(w.alloc o1).alloc o2:=λo1 o2=>(n9).alloc oq _;rcases O a,O hA,O hD with⟨b,l,n⟩;clear a hA hD;by_cases h2:(t.shape==-1)=true
 case neg=>
  have f:=O<|Ae (p:=NY s D t) (λh=>by simp at h2;rcases h with h|h<;>omega);have o:(t.shape==-1)=false:=by simpa using h2
  clear h2;go_enter func42,ntmps42;go_wp2;go_ret;exact⟨qh f,b _ _⟩
 by_cases h3:((t.nv:Int)==0)=true
 case neg=>
  have f:=O<|Ae (p:=NY s D t) (λh=>by simp at h2 h3;rcases h with h|h<;>omega);have q:((t.nv:Int)==0)=false:=by simpa using h3
  clear h3;go_enter func42,ntmps42;go_wp2;go_ret;exact⟨qh f,b _ _⟩
 have r:Hid<|tells (NY s D t)=(D==0):=O (by
  simp at h2 h3;by_cases g:D=0
  .rw[Al (.inl ⟨h2,h3,g⟩)];simp[g]
  rw[Ae (λh=>by rcases h with h|h<;>omega)];simp[g])
 go_enter func42,ntmps42;go_wp2_with fail;refine(n _<|l.below<|b _ _).mono ?_;rintro e w1 ⟨rfl,c⟩;have i:=O<|o8 (b _ _) c;clear c;go_wp2;go_ret;exact⟨by rw[z r]<;>rfl,i⟩
abbrev TJ(j:Nat)(va:T9)(vc:Nat)(la:T9)(lc:Nat)(ia:T9)(ic:Nat)(xa:T9)(xc:Nat)(t:Tb):Value:=.agg #[J (j:Int),.slice va t.nv vc,.slice la t.d.n lc,.slice ia t.d.m ic,.slice xa t.d.x xc,J t.d.used,J t.d.live,J t.d.turns]
def Wj H ta tc sa sc s{va:Option Addr}vc la lc ia ic xa xc t j{w}(hF:Bd w m s.nf s.F)(hN:s.nf<=1048576)(hV:Fq w va t.nv t.V)(hn:t.nv<=1048576):
  C9 42 #[Qk (some<|G m 0) H ta tc sa sc s,TJ j va vc la lc ia ic xa xc t] w (R9 (.bool<|tells<|j<s.nf/\VB s j t) w):=by
 have T:=hF.lt;have HV:=O hV;clear hV;obtain⟨W,D,E,U,_,o1⟩:=Tk w (.cells #[.slice (some<|G m 0) s.nf H,.slice ta s.nt tc,.slice sa s.ns sc] 42)<|.cells #[J (j:Int),.slice va t.nv vc,.slice la t.d.n lc,.slice ia t.d.m ic,.slice xa t.d.x xc,J t.d.used,J t.d.live,J t.d.turns] 105;have x0:W.cell? (y w 0)=some (.slice (some<|G m 0) s.nf H):=by rw[D];simp[go_sem]
 obtain⟨y0,y1,y2,y3,y4,y5,y6,y7⟩:=v8 o1;have l0:w.heap.size<W.heap.size:=om;have l1:w.heap.size+1<W.heap.size:=om;have lm:m<W.heap.size:=om;rcases O (hF.below E T),O<|HV.below E rfl,O E with⟨X,Z,l⟩;clear E U;have aj:((j:Int)<0)=False:=oq;by_cases hj:j<s.nf
 case neg=>
  have v:=O<|Ae (p:=j<s.nf/\VB s j t) λh=>hj h.1;have P:(decide ((0:Int)<=(j:Int))&&decide ((j:Int)<(s.nf:Int)))=false:=ot;clear hj;go_enter func42,ntmps42;go_wp2_with fail;rw[<-D];clear D;refine qr W ?_;(iterate 4 refine N (h:=?_));refine GC λK hK=>?_;go_simp;apply Exists.intro;refine ql (λw' a=>?_)<|hK _ ?_
  .refine(P▸DN m s.nf H (j:Int) _).mono ?_;rintro e A ⟨rfl,hb⟩;exact⟨rfl,o8 a hb⟩
  clear hK K;refine N (h:=N (h:=?_));iterate 12 (go_big_quiet_step (fail))
  refine N (h:=N (h:=?_));iterate 4 (go_big_quiet_step (fail))
  refine N (h:=?_);refine GS ?_;intro w2 c;have f:=O<|o8 l c;clear c;go_wp2;go_ret;exact⟨qh v,f⟩
 have P:(decide ((0:Int)<=(j:Int))&&decide ((j:Int)<(s.nf:Int)))=true:=ot;obtain⟨c0,c1,c2⟩:=X.cells hj;by_cases hc:((t.nv:Int)!=(s.F j).count)=true
 case pos=>
  have v:=O<|Ae (p:=j<s.nf/\VB s j t) (λh=>by have:=h.2.1;simp at hc;exact hc this);go_enter func42,ntmps42;go_wp2_with fail;rw[<-D];clear D;refine qr W ?_;(iterate 4 refine N (h:=?_));refine GC λK hK=>?_;go_simp;apply Exists.intro;refine ql (λw' a=>?_)<|hK _ ?_
  .refine(P▸DN m s.nf H (j:Int) _).mono ?_;rintro e A ⟨rfl,hb⟩;exact⟨rfl,o8 a hb⟩
  clear hK K;(iterate 12 refine N (h:=?_));(iterate 4 refine N (h:=?_));iterate 4 (go_big_quiet_step (fail))
  refine N (h:=?_);refine GS ?_;intro w2 c;have f:=O<|o8 l c;clear c;go_wp2;go_ret;exact⟨qh v,f⟩
 have ak:((t.nv:Int)!=(s.F j).count)=false:=by simpa using hc
 have Q:(t.nv:Int)=(s.F j).count:=by simpa using hc
 have ad:=O Q;clear hc Q;by_cases B:bare t.d
 case neg=>
  have v:=O<|Ae (p:=j<s.nf/\VB s j t) λh=>B h.2.2.1;have I:=Ae B;clear B;go_enter func42,ntmps42;go_wp2_with fail;rw[<-D];clear D;refine qr W ?_;(iterate 4 refine N (h:=?_));refine GC λK hK=>?_;go_simp;apply Exists.intro;refine ql (λw' a=>?_)<|hK _ ?_
  .refine(P▸DN m s.nf H (j:Int) _).mono ?_;rintro e A ⟨rfl,hb⟩;exact⟨rfl,o8 a hb⟩
  clear hK K;(iterate 12 refine N (h:=?_));(iterate 6 refine N (h:=?_));refine GC λK hK=>?_;go_simp;apply Exists.intro;refine ql (λw' a=>?_)<|hK _ ?_
  .refine(I▸Pg la lc ia ic xa xc t.d _).mono ?_;rintro e A ⟨rfl,hb⟩;exact⟨rfl,o8 a hb⟩
  clear hK K;refine N (h:=N (h:=?_));refine GS ?_;intro w2 c;have f:=o8 l c;clear c;go_wp2;go_ret;exact⟨qh v,f⟩
 have I:=Al B;go_enter func42,ntmps42;go_wp2_with fail;rw[<-D];clear D;refine qr W ?_;(iterate 4 refine N (h:=?_));refine GC λK hK=>?_;go_simp;apply Exists.intro;refine ql (λw' a=>?_)<|hK _ ?_
 .refine(P▸DN m s.nf H (j:Int) _).mono ?_;rintro e A ⟨rfl,hb⟩;exact⟨rfl,o8 a hb⟩
 clear hK K;(iterate 12 refine N (h:=?_));(iterate 6 refine N (h:=?_));refine GC λK hK=>?_;go_simp;apply Exists.intro;refine ql (λw' a=>?_)<|hK _ ?_
 .refine(I▸Pg la lc ia ic xa xc t.d _).mono ?_;rintro e A ⟨rfl,hb⟩;exact⟨rfl,o8 a hb⟩
 clear hK K;refine N (h:=N (h:=?_));refine GS ?_;intro w2 c;rcases (c.cell l1).trans y1,Z.below c rfl,o8 l c,A0 l1 c.size with⟨q1,ae,f,l2⟩;clear c c0 c1 c2 x0 y0 y1 y2 y3 y4 y5 y6 y7;go_wp2;go_loopw [54] (λi wr=>∃(k:Nat),k<=t.nv/\i=J k/\B9 w2 wr/\∀q,q<k->J2 (t.V q)=true) λi _=>t.nv-(intOf i).toNat
 .exact⟨0,om,rfl,BE _ _,λq hq=>om⟩
 obtain⟨k,hk,rfl,hb,r⟩:=hrel;by_cases L:k<t.nv
 case neg=>
  have af:k=t.nv:=om;have v:=O<|Al (p:=j<s.nf/\VB s j t) ⟨hj,ad,B,λi hi=>r i om⟩;have u:=O<|o8 f hb;subst af;clear hb r;go_wp2;go_ret;exact⟨qh v,u⟩
 obtain⟨b,off,rfl,ag,hcs⟩:=ae.resolve_left om;obtain⟨e0,e1,e2,e3,e4⟩:=(hcs k L).keep λq=>hb.cell ag;have ao:=hb.size;have u:Hid<|∀o,B9 w<|wr.alloc o:=O λo=>(o8 f hb).alloc (oS f.size) _;have R:Hid<|∀o,B9 w2<|wr.alloc o:=O λo=>hb.alloc om _;have S:=O r;clear hcs hb r;cases M:(t.V k).ok
 .have hv':A7 (t.V k).kind (t.V k).num (t.V k).Af (t.V k).str (t.V k).ref=false:=M;have v:=O<|Ae (p:=j<s.nf/\VB s j t) (λh=>by have:=h.2.2.2 k L;unfold J2 at this;rw[M]at this;cases this);clear M;go_wp2_with fail;refine m9 (Bw (t.V k).kind (t.V k).num (t.V k).Af (t.V k).str (t.V k).ref _) λw3 g=>?_;rw[hv'];have C:=o8 (u _) g;clear g e0 e1 e2 e3 e4;go_wp2;go_ret;exact⟨qh v,C⟩
 have hv':A7 (t.V k).kind (t.V k).num (t.V k).Af (t.V k).str (t.V k).ref=true:=M;by_cases hz:((t.V k).kind==0)=true
 .have v:=O<|Ae (p:=j<s.nf/\VB s j t) (λh=>by have:=h.2.2.2 k L;unfold J2 at this;simp at hz;simp[hz]at this);clear M;go_wp2_with fail;refine m9 (Bw (t.V k).kind (t.V k).num (t.V k).Af (t.V k).str (t.V k).ref _) λw3 g=>?_;rw[hv'];obtain⟨ah,ai⟩:=AO g;have C:=o8 (u _) g;clear g e0 e1 e2 e3 e4;go_wp2;go_ret;exact⟨qh v,C⟩
 have aq:((t.V k).kind==0)=false:=by simpa using hz
 have HO:Hid<|J2 (t.V k)=true:=O (by unfold J2;rw[M];simp at hz;simp[hz]);clear M hz;go_wp2_with fail;refine m9 (Bw (t.V k).kind (t.V k).num (t.V k).Af (t.V k).str (t.V k).ref _) λw3 g=>?_;rw[hv'];obtain⟨ah,ai⟩:=AO g;have C:=o8 (R _) g;clear g e0 e1 e2 e3 e4;go_wp2;go_roundw
 .refine⟨k+1,om,ov,C,λq hq=>?_⟩;by_cases e:q=k
  .subst e;exact HO
  exact S q om
 exact ow
def Ur a ta tc sa sc s{va:Option Addr}vc{la:Option Addr}{lc}{ia:Option Addr}{ic}{xa:Option Addr}{xc}t{D}{w}(b:Bd w m s.nf s.F)(hN:s.nf<=1048576)(f:Fq w va t.nv t.V)(hn:t.nv<=1048576)(hA:Ei w la ia xa t.d)(hD:Xv la lc ia ic xa xc t.d D):
  C9 42 #[Qk (some<|G m 0) a ta tc sa sc s,TV va vc la lc ia ic xa xc t] w (R9 (.bool<|tells<|NY s D t) w):=by
 by_cases h:t.shape<0
 .exact Su m a ta tc sa sc s va vc t hA hD h
 obtain⟨j,hj⟩:∃j:Nat,t.shape=j:=⟨t.shape.toNat,om⟩;have h1:=Wj a ta tc sa sc s vc la lc ia ic xa xc t j b hN f hn;have e:(j<s.nf/\VB s j t)↔NY s D t:=by
  constructor
  .intro h;refine .inr ⟨om,om,?_⟩;rw[hj];exact h.2
  intro h;rcases h with h|h
  .omega
  refine⟨om,?_⟩;have:=h.2.2;rwa [hj]at this
 have e':tells (j<s.nf/\VB s j t)=tells (NY s D t):=by
  by_cases q:NY s D t
  .rw[Al q,Al (e.2 q)]
  rw[Ae q,Ae (λc=>q (e.1 c))]
 rw[e']at h1;rw[TV,hj];exact h1
def Qr va nv vc la lc ia ic xa xc d w:
  C9 264 #[.agg #[.slice va nv vc,.slice la d.n lc,.slice ia d.m ic,.slice xa d.x xc,J d.used,J d.live,J d.turns]] w (R9 (.bool<|tells<|bare d) w):=by
 have e:∀o1 o2,B9 w<|(w.alloc o1).alloc o2:=λo1 o2=>(n9).alloc oq _;have b:=O e;by_cases h1:((d.n:Int)==0)=true
 case neg=>
  have a:=O<|Ae (p:=bare d) (λh=>by unfold bare at h;simp at h1;omega);have f:((d.n:Int)==0)=false:=by simpa using h1
  go_enter func264,ntmps264;go_wp2;go_ret;exact⟨qh a,b _ _⟩
 by_cases h2:((d.m:Int)==0)=true
 case neg=>
  have a:=O<|Ae (p:=bare d) (λh=>by unfold bare at h;simp at h2;omega);have g:((d.m:Int)==0)=false:=by simpa using h2
  go_enter func264,ntmps264;go_wp2;go_ret;exact⟨qh a,b _ _⟩
 by_cases h3:((d.x:Int)==0)=true
 case neg=>
  have a:=O<|Ae (p:=bare d) (λh=>by unfold bare at h;simp at h3;omega);have i:((d.x:Int)==0)=false:=by simpa using h3
  go_enter func264,ntmps264;go_wp2;go_ret;exact⟨qh a,b _ _⟩
 by_cases h4:(d.used==0)=true
 case neg=>
  have a:=O<|Ae (p:=bare d) (λh=>by unfold bare at h;simp at h4;omega);have j:(d.used==0)=false:=by simpa using h4
  go_enter func264,ntmps264;go_wp2;go_ret;exact⟨qh a,b _ _⟩
 by_cases h5:(d.live==0)=true
 case neg=>
  have a:=O<|Ae (p:=bare d) (λh=>by unfold bare at h;simp at h5;omega);have k:(d.live==0)=false:=by simpa using h5
  go_enter func264,ntmps264;go_wp2;go_ret;exact⟨qh a,b _ _⟩
 by_cases c:(d.turns==0)=true
 case neg=>
  have a:=O<|Ae (p:=bare d) (λh=>by unfold bare at h;simp at c;omega);have l:(d.turns==0)=false:=by simpa using c
  go_enter func264,ntmps264;go_wp2;go_ret;exact⟨qh a,b _ _⟩
 have a:=O<|Al (p:=bare d) (by simp at h1 h2 h3 h4 h5 c;exact⟨h1,h2,h3,h4,h5,c⟩);go_enter func264,ntmps264;go_wp2;go_ret;exact⟨qh a,b _ _⟩
abbrev tC(va:T9)(vc:Nat)(la:T9)(lc:Nat)(ia:T9)(ic:Nat)(xa:T9)(xc:Nat)(t:Tb):Value:=.agg #[.slice va t.nv vc,.slice la t.d.n lc,.slice ia t.d.m ic,.slice xa t.d.x xc,J t.d.used,J t.d.live,J t.d.turns]
abbrev iF(p:Nat)(va:T9)(vc:Nat)(la:T9)(lc:Nat)(ia:T9)(ic:Nat)(xa:T9)(xc:Nat)(t:Tb):Value:=.agg #[.slice va t.nv vc,.slice la t.d.n lc,.slice ia t.d.m ic,.slice xa t.d.x xc,J t.d.used,J t.d.live,J t.d.turns,Q9 p]
def KH(t:Tb):Prop:=∀i,i<t.nv->J2 (t.V i)=true
def Ja vc la lc ia ic xa xc t c{w}(H:Fq w va t.nv t.V)(hn:t.nv<=1048576):
  C9 273 #[tC va vc la lc ia ic xa xc t,J c] w (R9 (.bool<|tells<|KH t/\(t.nv:Int)=c) w):=by
 obtain⟨W,A,g,_⟩:=JZ w<|.cells #[.slice va t.nv vc,.slice la t.d.n lc,.slice ia t.d.m ic,.slice xa t.d.x xc,J t.d.used,J t.d.live,J t.d.turns] 192;have B:w.heap.size<W.heap.size:=by rw[A];simp
 have x0:W.cell? (y w 0)=some (.slice va t.nv vc):=by rw[A];simp[go_sem]
 have I:=H.below g rfl;go_enter func273,ntmps273;go_wp2;rw[<-A];go_loopw [10] (λi wr=>∃(k:Nat),k<=t.nv/\i=J k/\B9 W wr/\∀q,q<k->J2 (t.V q)=true) λi _=>t.nv-(intOf i).toNat
 .exact⟨0,om,rfl,BE _ _,λq hq=>om⟩
 obtain⟨k,hk,rfl,hb,j⟩:=hrel;have P:=(hb.cell B).trans x0;by_cases l:k<t.nv
 case neg=>
  have C:k=t.nv:=om;have s:Hid<|tells (KH t/\(t.nv:Int)=c)=((t.nv:Int)==c):=O (by
   by_cases e:(t.nv:Int)=c
   .rw[Al ⟨λi hi=>j i om,e⟩];simp[e]
   rw[Ae (λh=>e h.2)];simp[e])
  have f:=O<|o8 g hb;subst C;go_wp2;go_ret;exact⟨by rw[z s]<;>rfl,f⟩
 obtain⟨b,off,rfl,D,hcs⟩:=I.resolve_left om;obtain⟨e0,e1,e2,e3,Q⟩:=(hcs k l).keep λq=>hb.cell D;have K:=hb.size;have f:Hid<|∀o,B9 w<|wr.alloc o:=O λo=>(o8 g hb).alloc om _;have u:Hid<|∀o,B9 W<|wr.alloc o:=O λo=>hb.alloc om _;cases v:(t.V k).ok
 .have hv':A7 (t.V k).kind (t.V k).num (t.V k).Af (t.V k).str (t.V k).ref=false:=v;have s:=O<|Ae (p:=KH t/\(t.nv:Int)=c) (λh=>by have:=h.1 k l;unfold J2 at this;rw[v]at this;cases this);go_wp2_with fail;refine m9 (Cl (t.V k).kind (t.V k).num (t.V k).Af (t.V k).str (t.V k).ref _) λw3 a=>?_;rw[hv'];have r:=o8 (f _) a;go_wp2;go_ret;exact⟨qh s,r⟩
 have hv':A7 (t.V k).kind (t.V k).num (t.V k).Af (t.V k).str (t.V k).ref=true:=v;by_cases hz:((t.V k).kind==0)=true
 .have s:=O<|Ae (p:=KH t/\(t.nv:Int)=c) (λh=>by have:=h.1 k l;unfold J2 at this;simp at hz;simp[hz]at this);go_wp2_with fail;refine m9 (Cl (t.V k).kind (t.V k).num (t.V k).Af (t.V k).str (t.V k).ref _) λw3 a=>?_;rw[hv'];obtain⟨E,F⟩:=AO a;have r:=o8 (f _) a;go_wp2;go_ret;exact⟨qh s,r⟩
 have L:((t.V k).kind==0)=false:=by simpa using hz
 have M:Hid<|J2 (t.V k)=true:=O (by unfold J2;rw[v];simp at hz;simp[hz]);go_wp2_with fail;refine m9 (Cl (t.V k).kind (t.V k).num (t.V k).Af (t.V k).str (t.V k).ref _) λw3 a=>?_;rw[hv'];obtain⟨E,F⟩:=AO a;go_wp2;go_roundw
 .refine⟨k+1,om,ov,z<|o8 (u _) a,λq hq=>?_⟩;by_cases e:q=k
  .subst e;exact M
  exact z (O j) q om
 exact ow
def aY(T:World->Prop)(la:T9)(lc:Nat)(ia:T9)(ic:Nat)(xa:T9)(xc:Nat)(d:Dc)(D:Int):Prop:=
 ∀W:World,T W->Ei W la ia xa d->C9 274 #[Dv la lc ia ic xa xc d] W (R9 (J D) W)
def LD{T}(r:Ev T){va:Option Addr}vc{la:Option Addr}{lc}{ia:Option Addr}{ic}{xa:Option Addr}{xc}t{D}{w:Y}(s:T w)(u:Fq w va t.nv t.V)(hn:t.nv<=1048576)(hA:Ei w la ia xa t.d)(hD:aY T la lc ia ic xa xc t.d D):
  C9 268 #[tC va vc la lc ia ic xa xc t] w (R9 (.bool<|tells<|t.nv=0/\D=0) w):=by
 obtain⟨W,f,c,_⟩:=JZ w<|.cells #[.slice va t.nv vc,.slice la t.d.n lc,.slice ia t.d.m ic,.slice xa t.d.x xc,J t.d.used,J t.d.live,J t.d.turns] 194;have b:w.heap.size<W.heap.size:=by rw[f];simp
 obtain⟨x0,x1,x2,v,x4,A,B⟩:W.cell? (y w 0)=some (.slice va t.nv vc)/\W.cell? (y w 1)=some (.slice la t.d.n lc)/\W.cell? (y w 2)=some (.slice ia t.d.m ic)/\W.cell? (y w 3)=some (.slice xa t.d.x xc)/\W.cell? (y w 4)=some (J t.d.used)/\W.cell? (y w 5)=some (J t.d.live)/\W.cell? (y w 6)=some (J t.d.turns):=by rw[f];simp[go_sem]
 go_enter func268,ntmps268;go_wp2_with fail;rw[<-f];refine m9 (Ja vc la lc ia ic xa xc t 0 (z<|u.below c rfl) hn) λw1 a=>?_;obtain⟨E,p1,p2,F,H,I,K⟩:w1.cell? (y w 0)=some (.slice va t.nv vc)/\w1.cell? (y w 1)=some (.slice la t.d.n lc)/\w1.cell? (y w 2)=some (.slice ia t.d.m ic)/\w1.cell? (y w 3)=some (.slice xa t.d.x xc)/\w1.cell? (y w 4)=some (J t.d.used)/\w1.cell? (y w 5)=some (J t.d.live)/\w1.cell? (y w 6)=some (J t.d.turns):=
  ⟨oT a b x0,oT a b x1,oT a b x2,oT a b v,oT a b x4,oT a b A,oT a b B⟩
 rcases (z<|hA.below c).below a,O<|r _ _ (z<|O<|r _ _ s c) a,o8 c a with⟨k,l,g⟩;by_cases o:t.nv=0
 case neg=>
  rw[Ae (p:=KH t/\(t.nv:Int)=0) (λh=>o om)];go_wp2;go_ret;exact⟨by rw[z (O (Ae (p:=t.nv=0/\D=0) (λh=>o h.1)))];rfl,g⟩
 rw[Al (p:=KH t/\(t.nv:Int)=0) ⟨λi hi=>om,om⟩];have C:Hid<|tells (t.nv=0/\D=0)=(D==0):=O (by
  by_cases j:D=0
  .rw[Al ⟨o,j⟩];simp[j]
  rw[Ae (λh=>j h.2)];simp[j])
 go_wp2_with fail
 refine(hD _ l k).mono ?_;rintro e w2 ⟨rfl,q⟩;go_wp2;go_ret;exact⟨by rw[z C]<;>rfl,z<|o8 g q⟩
def ND vc la lc ia ic xa xc t s j p{w}(r:Fq w va t.nv t.V)(hn:t.nv<=1048576)(hp:p<w.heap.size)(h3:w.cell? (G p 3)=some (J (s.F j).count)):
  C9 291 #[iF p va vc la lc ia ic xa xc t] w (R9 (.bool<|tells<|VB s j t) w):=by
 obtain⟨W,b⟩:=o9<|w.alloc<|.cells #[.slice va t.nv vc,.slice la t.d.n lc,.slice ia t.d.m ic,.slice xa t.d.x xc,J t.d.used,J t.d.live,J t.d.turns,.pointer (some<|G p 0)] 197;have c:B9 w W:=by rw[b];exact(BE _ _).alloc (Be _) _
 have u:w.heap.size<W.heap.size:=by rw[b];simp
 obtain⟨x0,x1,x2,v,x4,A,B,C⟩:W.cell? (y w 0)=some (.slice va t.nv vc)/\W.cell? (y w 1)=some (.slice la t.d.n lc)/\W.cell? (y w 2)=some (.slice ia t.d.m ic)/\W.cell? (y w 3)=some (.slice xa t.d.x xc)/\W.cell? (y w 4)=some (J t.d.used)/\W.cell? (y w 5)=some (J t.d.live)/\W.cell? (y w 6)=some (J t.d.turns)/\W.cell? (y w 7)=some (.pointer<|some<|G p 0):=by rw[b];simp[go_sem]
 have D:=oT c hp h3;have E:p<W.heap.size:=om;have q:=O<|r.below c rfl;by_cases h1:KH t/\(t.nv:Int)=(s.F j).count
 case neg=>
  have i:=O<|Ae (p:=VB s j t) λh=>h1 ⟨h.2.2,h.1⟩;have k:=Ae h1;go_enter func291,ntmps291;go_wp2_with fail;rw[<-b];clear b;refine qr W ?_;(iterate 8 refine N (h:=?_));refine GC λK hK=>?_;go_simp;apply Exists.intro;refine ql (λw' a=>?_)<|hK _ ?_
  .refine(k▸Ja vc la lc ia ic xa xc t (s.F j).count (q.below a rfl) hn).mono ?_;rintro e l ⟨rfl,hb⟩;exact⟨rfl,o8 a hb⟩
  clear hK K;refine N (h:=?_);iterate 3 (go_big_quiet_step (fail))
  refine N (h:=N (h:=?_));refine GS ?_;intro w2 g;have o:=o8 c g;go_wp2;go_ret;exact⟨qh i,o⟩
 have i:Hid<|tells (VB s j t)=tells (bare t.d):=O (by
  by_cases f:bare t.d
  .rw[Al f,Al (p:=VB s j t) ⟨h1.2,f,h1.1⟩]
  rw[Ae f,Ae (p:=VB s j t) (λh=>f h.2.1)])
 go_enter func291,ntmps291;go_wp2_with fail;rw[<-b];clear b;refine qr W ?_;(iterate 8 refine N (h:=?_));refine GC λK hK=>?_;go_simp;apply Exists.intro;refine ql (λw' a=>?_)<|hK _ ?_
 .refine((Al h1)▸Ja vc la lc ia ic xa xc t (s.F j).count (q.below a rfl) hn).mono ?_;rintro e l ⟨rfl,hb⟩;exact⟨rfl,o8 a hb⟩
 clear hK K;refine N (h:=N (h:=N (h:=?_)));refine GC λK hK=>?_;go_simp;refine⟨_,λw' a=>qk a<|Qr va t.nv vc la lc ia ic xa xc t.d _,hK _ ?_⟩;clear hK K;refine N (h:=N (h:=?_));refine GS ?_;intro w2 g;go_wp2;go_ret;exact⟨by rw[z i]<;>rfl,z<|o8 c g⟩
def DM n w:
  C9 105 #[J n] w (R9 (.bool<|decide (0<=n)&&decide (n<=1000000000000)) w):=by
 go_enter func105,ntmps105;go_wp2;all_goals(go_ret;refine⟨?_,BE _ _⟩;first|(simp_all;done)|(simp_all;omega))
def Fv a n cap i w:
  C9 104 #[J i,.slice a n cap] w (R9 (.bool<|decide (0<=i)&&decide (i<n)) w):=by
 go_enter func104,ntmps104;go_wp2;all_goals(go_ret;refine⟨?_,BE _ _⟩;first|(simp_all;done)|(simp_all;omega))
def Yf(x:Si):Prop:=x.key.size<=4000/\0<=x.Ce/\0<=x.AD/\x.Ce<=1000000000000/\x.AD<=1000000000000
def mB(h:Nw s x):Yf x:=⟨h.1,h.2.1,h.2.2.1,h.2.2.2.1,h.2.2.2.2.1⟩
def UD(a:Yf x)(h:x.shape=-1):tells (Nw s x)=(x.place==0):=by
 grind [Yf,tells,Nw,Ae]
def Yg(h1:x.shape≠-1)(h:¬(0<=x.shape/\x.shape<s.nf/\0<=x.place)):tells (Nw s x)=false:=
 Ae (λq=>by
  rcases q.2.2.2.2.2 with q|q
  .exact h1 q.1
  exact h ⟨q.1,q.2.1,q.2.2.1⟩)
def dP(a:Yf x)(hj:x.shape=j)(hn:j<s.nf)(hp:0<=x.place):tells (Nw s x)=(Bf s.F j x.key==x.place):=by
 grind [Yf,tells,Nw,Bf,Ae]
abbrev SJ(j:Int)(x:Si):Value:=.agg #[.string x.key,J j,J x.place,J x.Ce,J x.AD]
def Wi m d ta tc sa sc s x w(hk:x.key.size<=maxLen)(h:¬Yf x):
  C9 43 #[Qk (some<|G m 0) d ta tc sa sc s,SV x] w (R9 (.bool false) w):=by
 unfold maxLen at hk;have b:∀o1 o2,B9 w<|(w.alloc o1).alloc o2:=λo1 o2=>(n9).alloc oq _;have c:=O b;clear b;have a:=O h;clear h;by_cases h1:4000<x.key.size
 .clear a;go_enter func43,ntmps43;go_wp2;go_ret;exact⟨rfl,c _ _⟩
 by_cases h2:x.Ce<0
 .clear a;go_enter func43,ntmps43;go_wp2;go_ret;exact⟨rfl,c _ _⟩
 by_cases h3:x.AD<0
 .clear a;go_enter func43,ntmps43;go_wp2;go_ret;exact⟨rfl,c _ _⟩
 by_cases h4:1000000000000<x.Ce
 focus
  clear a
 rotate_left
 focus
  have h5:1000000000000<x.AD:=by
   have:=z a;rcases Int.lt_or_le 1000000000000 x.AD with q|q
   .exact q
   exact absurd (⟨om,om,om,om,q⟩:Yf x) this
  clear a
 all_goals
  go_enter func43,ntmps43;go_wp2;go_ret;exact⟨rfl,c _ _⟩
def QO a n p x w(hk:x.key.size<=maxLen)(h:¬Yf x):
  C9 59 #[SV x,.slice a n p] w (R9 (.bool false) w):=by
 unfold maxLen at hk;have d:∀o1,B9 w<|w.alloc o1:=λo1=>n9;have e:=O d;clear d;have g:=O h;clear h;by_cases h1:4000<x.key.size
 .clear g;go_enter func59,ntmps59;go_wp2;go_ret;exact⟨rfl,e _⟩
 by_cases h2:0<=x.Ce/\x.Ce<=1000000000000
 case neg=>
  have i:(decide (0<=x.Ce)&&decide (x.Ce<=1000000000000))=false:=ot;clear g h2;go_enter func59,ntmps59;go_wp2_with fail;refine m9 (DM x.Ce _) λw1 b=>?_;rw[i];have c:=O<|o8 (e _) b;clear b;go_wp2;go_ret;exact⟨rfl,c⟩
 have i:(decide (0<=x.Ce)&&decide (x.Ce<=1000000000000))=true:=ot;have j:(decide (0<=x.AD)&&decide (x.AD<=1000000000000))=false:=by
  have:=z g;rw[Bool.eq_false_iff];intro q;simp at q;exact this ⟨om,om,om,om,om⟩
 clear g h2;go_enter func59,ntmps59;go_wp2_with fail;refine m9 (DM x.Ce _) λw1 b=>?_;rw[i];obtain⟨k,l⟩:=AO b;have m:=b.size;simp at m;have r:w.heap.size<w1.heap.size:=om;have c:=O<|o8 (e _) b;clear b;go_wp2_with fail;refine m9 (DM x.AD _) λw2 f=>?_;rw[j];have o:=O<|o8 c f;clear f k l;go_wp2;go_ret;exact⟨rfl,o⟩
def Uq m b ta tc sa sc s{x}w(c:Yf x):
  C9 43 #[Qk (some<|G m 0) b ta tc sa sc s,SJ (-1) x] w (R9 (.bool<|x.place==0) w):=by
 obtain⟨h1,h2,h3,h4,h5⟩:=c;have a:∀o1 o2,B9 w<|(w.alloc o1).alloc o2:=λo1 o2=>(n9).alloc oq _;have d:=O a;clear a;go_enter func43,ntmps43;go_wp2;go_ret;exact⟨rfl,d _ _⟩
def Zk f ta tc sa sc s{x}i{w}(C:Yf x)(p:Bd w m s.nf s.F)(B:Am s.nf s.F=0)(hi:i≠-1):
  C9 43 #[Qk (some<|G m 0) f ta tc sa sc s,SJ i x] w (R9 (.bool<|decide (0<=i/\i<s.nf/\0<=x.place)&&(Bf s.F i.toNat x.key==x.place)) w):=by
 obtain⟨h1,h2,h3,h4,h5⟩:=C;have r:=p.lt;obtain⟨W,g,c,t,_,o1⟩:=Tk w (.cells #[.slice (some<|G m 0) s.nf f,.slice ta s.nt tc,.slice sa s.ns sc] 42)<|.cells #[.string x.key,J i,J x.place,J x.Ce,J x.AD] 107;have x0:W.cell? (y w 0)=some (.slice (some<|G m 0) s.nf f):=by rw[g];simp[go_sem]
 obtain⟨H,I,L,_⟩:=v5 o1;have l0:w.heap.size<W.heap.size:=om;have l1:w.heap.size+1<W.heap.size:=om;have D:m<W.heap.size:=om;have u:=O<|p.below c r;have E:(i==-1)=false:=by simpa using hi
 have n:=O B;clear t p hi B;by_cases hj:0<=i/\i<s.nf
 case neg=>
  have o:(decide ((0:Int)<=i)&&decide (i<(s.nf:Int)))=false:=ot;have k:Hid<|(decide (0<=i/\i<s.nf/\0<=x.place)&&(Bf s.F i.toNat x.key==x.place))=false:=O (by rw[decide_eq_false (λq=>hj ⟨q.1,q.2.1⟩)];rfl);clear hj;go_enter func43,ntmps43;go_wp2_with fail;rw[<-g];clear g;refine qr W ?_;(iterate 4 refine N (h:=?_));refine GC λK hK=>?_;go_simp;apply Exists.intro;refine ql (λw' a=>?_)<|hK _ ?_
  .refine(o▸DN m s.nf f i _).mono ?_;rintro e l ⟨rfl,hb⟩;exact⟨rfl,o8 a hb⟩
  clear hK K;refine N (h:=?_);iterate 3 (go_big_quiet_step (fail))
  refine N (h:=N (h:=?_));iterate 10 (go_big_quiet_step (fail))
  refine N (h:=N (h:=?_));refine GS ?_;intro w2 b;have d:=o8 c b;clear b;go_wp2;go_ret;exact⟨by rw[z k]<;>rfl,d⟩
 have o:(decide ((0:Int)<=i)&&decide (i<(s.nf:Int)))=true:=ot;by_cases hp:0<=x.place
 case neg=>
  have k:Hid<|(decide (0<=i/\i<s.nf/\0<=x.place)&&(Bf s.F i.toNat x.key==x.place))=false:=O (by rw[decide_eq_false (λq=>hp q.2.2)];rfl);have v:decide (0<=x.place)=false:=by simpa using hp
  clear hj hp;go_enter func43,ntmps43;go_wp2_with fail;rw[<-g];clear g;refine qr W ?_;(iterate 4 refine N (h:=?_));refine GC λK hK=>?_;go_simp;apply Exists.intro;refine ql (λw' a=>?_)<|hK _ ?_
  .refine(o▸DN m s.nf f i _).mono ?_;rintro e l ⟨rfl,hb⟩;exact⟨rfl,o8 a hb⟩
  clear hK K;(iterate 6 refine N (h:=?_));iterate 10 (go_big_quiet_step (fail))
  refine N (h:=N (h:=?_));refine GS ?_;intro w2 b;have d:=o8 c b;clear b;go_wp2;go_ret;exact⟨by rw[z k]<;>rfl,d⟩
 have k:Hid<|(decide (0<=i/\i<s.nf/\0<=x.place)&&(Bf s.F i.toNat x.key==x.place))=(Bf s.F i.toNat x.key==x.place):=O (by rw[decide_eq_true ⟨hj.1,hj.2,hp⟩];rfl);have v:decide (0<=x.place)=true:=by simpa using hp
 obtain⟨j,rfl⟩:∃j:Nat,i=j:=⟨i.toNat,om⟩;have A:j<s.nf:=om;rw[Ok]at k ⊢;clear hj hp;go_enter func43,ntmps43;go_wp2_with fail;rw[<-g];clear g;refine qr W ?_;(iterate 4 refine N (h:=?_));refine GC λK hK=>?_;go_simp;apply Exists.intro;refine ql (λw' a=>?_)<|hK _ ?_
 .refine(o▸DN m s.nf f (j:Int) _).mono ?_;rintro e l ⟨rfl,hb⟩;exact⟨rfl,o8 a hb⟩
 clear hK K;(iterate 12 refine N (h:=?_));refine GC λK hK=>?_;go_simp;refine⟨_,λw' a=>qk a<|La f j x.key (u.below a D) (Au n).1 (Au n).2.1 (Au n).2.2.1 (Au n).2.2.2.2 A,hK _ ?_⟩;clear hK K;(iterate 5 refine N (h:=?_));refine GS ?_;intro w2 b;have d:=o8 c b;clear b;go_wp2;go_ret;exact⟨by rw[z k]<;>rfl,d⟩
def Wh b ta tc sa sc s x{w}(hk:x.key.size<=maxLen)(c:Bd w m s.nf s.F)(d:Am s.nf s.F=0):
  C9 43 #[Qk (some<|G m 0) b ta tc sa sc s,SV x] w (R9 (.bool<|tells<|Nw s x) w):=by
 by_cases a:Yf x
 case neg=>
  have h:=Wi m b ta tc sa sc s x w hk a
  rwa [<-Ae (λq=>a (mB q))]at h
 by_cases h1:x.shape=-1
 .have h:=Uq m b ta tc sa sc s w a;rw[<-UD a h1]at h;rw[SV,h1];exact h
 have h:=Zk b ta tc sa sc s x.shape a c d h1;have e:(decide (0<=x.shape/\x.shape<s.nf/\0<=x.place)&&(Bf s.F x.shape.toNat x.key==x.place))=tells (Nw s x):=by
  by_cases q:0<=x.shape/\x.shape<s.nf/\0<=x.place
  .rw[dP (j:=x.shape.toNat) a om om q.2.2,decide_eq_true q];rfl
  rw[Yg h1 q,decide_eq_false q];rfl
 rw[e]at h;exact h
def U8(U){ta:Option Addr}(tc){sa:Option Addr}(sc){s}(D){w}(hF:Bd w m s.nf s.F)(hT:RV w ta s.nt s.T)(hS:FM w sa s.ns s.S)(hs:Kh s)(hk:∀i,i<s.ns->(s.S i).key.size<=maxLen)
  (hD:∀i,i<s.nt->∀la lc ia ic xa xc,Xv la lc ia ic xa xc (s.T i).d<|D i):
  C9 19 #[Qk (some<|G m 0) U ta tc sa sc s] w (R9 (J<|BC s D) w):=by
 rcases hF.lt,hs.nt,hs.n,hs.f.1,O hk,O hD,JZ w (.cells #[S9 m s.nf U,.slice ta s.nt tc,.slice sa s.ns sc] 42) with⟨ae,aq,ar,X,HK,HD,⟨W,hW,l,_,o0⟩⟩;have E:w.heap.size<W.heap.size:=by rw[hW];simp
 obtain⟨x0,x1,x2⟩:=v3 o0;have lm:m<W.heap.size:=om;rcases O (hF.below l ae),O<|hT.below l rfl,O (hS.below l rfl) with⟨HF,HT,HS⟩;clear hk hD hF hT hS;go_enter func19,ntmps19;go_wp2_with fail;rw[<-hW];clear hW;refine m9 (SW U HF X) λw1 c=>?_;by_cases h1:Am s.nf s.F=0
 case neg=>
  have au:(Am s.nf s.F !=0)=true:=by simpa using h1
  have t:=O<|Va (D:=D) h1;have j:=o8 l c;clear h1 c;go_wp2;go_ret;exact⟨by rw[z t]<;>rfl,j⟩
 rw[h1];rcases O h1,(c.cell E).trans x0,(c.cell E).trans x1,(c.cell E).trans x2,A0 E c.size,A0 lm c.size,O<|HF.below c lm,O<|HT.below c rfl,O<|HS.below c rfl,o8 l c with⟨R,y0,y1,y2,I,Z,ad,af,ag,j⟩;clear h1 c x0 x1 x2 HF HT HS;by_cases h2:100<s.nt
 .have t:=O<|Lv (D:=D) R λh=>om;go_wp2;go_ret;exact⟨by rw[z t]<;>rfl,j⟩
 by_cases h3:50<s.ns
 .have t:=O<|Lv (D:=D) R λh=>om;go_wp2;go_ret;exact⟨by rw[z t]<;>rfl,j⟩
 have H2:Hid<|s.nt<=100/\s.ns<=50:=O ⟨om,om⟩;go_wp2;go_loopw [24] (λi wr=>∃(k:Nat),k<=s.nt/\i=J k/\B9 w1 wr/\∀q,q<k->NY s (D q) (s.T q)) λi _=>s.nt-(intOf i).toNat
 .exact⟨0,om,rfl,BE _ _,λq hq=>om⟩
 obtain⟨k,hk,rfl,hb,a⟩:=hrel;rcases (hb.cell I).trans y0,(hb.cell I).trans y1,(hb.cell I).trans y2,hb.size with⟨p0,p1,p2,av⟩;by_cases g:k<s.nt
 case pos=>
  obtain⟨b,off,rfl,K,hcs⟩:=af.resolve_left om;obtain⟨va,vc,la,lc,ia,ic,xa,xc,hc,hv,hd⟩:=(hcs k g).below hb K;obtain⟨e0,e1,e2,e3,e4,e5,e6,e7⟩:=hc;have v:Hid<|∀o,B9 w<|wr.alloc o:=O λo=>(o8 j hb).alloc om _;have x:Hid<|∀o,B9 w1<|wr.alloc o:=O λo=>hb.alloc om _;have A:Hid<|∀o,Fq (wr.alloc o) va (s.T k).nv (s.T k).V/\Ei (wr.alloc o) la ia xa (s.T k).d/\Bd (wr.alloc o) m s.nf s.F:=O λo=>⟨hv.below n9 rfl,hd.below n9,(ad.below hb Z).alloc o⟩;have ah:w.heap.size<wr.heap.size:=om;have B:=O a;clear hcs hb a hv hd;go_wp2_with fail;refine m9 (Ur U _ tc sa sc s vc (s.T k) (A _).2.2 X (A _).1 (hs.nv g) (A _).2.1<|HD k g la lc ia ic xa xc) λw3 p=>?_;have C:=o8 (v _) p;have L:=o8 (x _) p;clear p e0 e1 e2 e3 e4 e5 e6 e7 p0 p1 p2;by_cases r:NY s (D k)<|s.T k
  .rw[Al r];have M:=O r;clear r;go_wp2;go_roundw
   .refine⟨k+1,om,ov,L,λq hq=>?_⟩;by_cases e:q=k
    .subst e;exact M
    exact B q om
   exact ow
  rw[Ae r];have t:=O<|Lw R H2 λh=>r<|h k g;clear r;go_wp2;go_ret;exact⟨by rw[z t]<;>rfl,C⟩
 have H3:Hid<|∀q,q<s.nt->NY s (D q) (s.T q):=O λq hq=>a q om;have P:w.heap.size<wr.heap.size:=om;have ai:m<wr.heap.size:=om;rcases O (ad.below hb Z),ag.below hb rfl,o8 j hb with⟨aj,ak,H⟩;have Q:k=s.nt:=om;clear hb a g y0 y1 y2;subst Q;obtain⟨w2,rfl⟩:∃u,u=wr:=⟨wr,rfl⟩;go_wp2;go_loopw [36] (λi wr=>∃(k:Nat),k<=s.ns/\i=J k/\B9 w2 wr/\∀q,q<k->Nw s (s.S q)) λi _=>s.ns-(intOf i).toNat
 .exact⟨0,om,rfl,BE _ _,λq hq=>om⟩
 obtain⟨k,hk,rfl,hb,a⟩:=hrel;rcases (hb.cell P).trans p0,(hb.cell P).trans p1,(hb.cell P).trans p2,hb.size with⟨q0,q1,q2,ao⟩;by_cases g:k<s.ns
 case pos=>
  obtain⟨b,off,rfl,K,hcs⟩:=ak.resolve_left om;obtain⟨e0,e1,e2,e3,e4⟩:=(hcs k g).keep λq=>hb.cell K;have v:Hid<|∀o,B9 w<|wr.alloc o:=O λo=>(o8 H hb).alloc om _;have x:Hid<|∀o,B9 w2<|wr.alloc o:=O λo=>hb.alloc om _;have A:Hid<|∀o,Bd (wr.alloc o) m s.nf s.F:=O λo=>(aj.below hb ai).alloc o;have ah:w.heap.size<wr.heap.size:=om;have B:=O a;clear hcs hb a p0 p1 p2;go_wp2_with fail;refine m9 (Wh U ta tc _ sc s (s.S k) (HK k g) (A _) R) λw3 p=>?_;have C:=o8 (v _) p;have L:=o8 (x _) p;clear p e0 e1 e2 e3 e4 q0 q1 q2;by_cases r:Nw s<|s.S k
  .rw[Al r];have M:=O r;clear r;go_wp2;go_roundw
   .refine⟨k+1,om,ov,L,λq hq=>?_⟩;by_cases e:q=k
    .subst e;exact M
    exact B q om
   exact ow
  rw[Ae r];have t:=O<|Vb R H2 H3 λh=>r<|h k g;clear r;go_wp2;go_ret;exact⟨by rw[z t]<;>rfl,C⟩
 have t:=O<|P2 R H2 H3 λq hq=>a q om;have C:=o8 H hb;have Q:k=s.ns:=om;clear hb a g;subst Q;go_wp2;go_ret;exact⟨by rw[z t]<;>rfl,C⟩
section
open Go.ChangeShapes Go.WideShapes Go.ChangeAt Go.RowKit Go.Deep
section
variable {H:Type} {enc:TypeId×Value->H} {P:Program} {w:Y} {base:Nat} {spare:Nat->Bool} {held:Bool}
structure Gs (P:Program) (t ti ts:TypeId):Prop where
 st:∃f0 f1 f2:Field,P.underlying t=some (.struct #[f0,f1,f2])/\f0.type=ti/\f1.type=ts/\f2.type=ti/\f0.offset=0/\f1.offset=1/\f2.offset=2
 ci:P.cellsOf ti=1
 cs:P.cellsOf ts=1
 ct:P.cellsOf t=3
 ui:P.underlying ti=some (.int .i64)
 us:P.underlying ts=some .string
def WQ(F:Gs P t ti ts){fuel}{cs}{x}(h:DataW.trod enc P w base spare held fuel t cs=some x):
  ∃p k c,cs=[.int .i64 p,.string k,.int .i64 c]/\(Lit.int .i64 p).wf=true/\k.size<=maxLen/\(Lit.int .i64 c).wf=true:=by
 obtain⟨f0,f1,f2,hu,t0,t1,t2,o0,o1,o2⟩:=F.st;obtain⟨xs,n,_,rfl,hl,a,hf⟩:=Aaz hu h;rw[F.ct]at hl
 match cs,hl with
 |[c0,c1,c2],_=>
  match xs,a with
  |[d,e,f],_=>
   rcases hf 0 f0 rfl,hf 1 f1 rfl,hf 2 f2 rfl with⟨b,h1,h2⟩;simp only[t0,t1,t2,o0,o1,o2,F.ci,F.cs,List.drop_zero,AaD,AaB,List.take_zero,Aap]at b h1 h2;rcases W4 F.ui b,DataW.trod_string F.us h1,W4 F.ui h2 with⟨⟨a0,e0,r0,w0⟩,⟨a1,e1,r1,w1⟩,⟨a2,e2,r2,w2⟩⟩;simp only[AaW,and_true]at e0 e1 e2;subst e0 e1 e2;exact⟨a0,a1,a2,rfl,w0,w1,w2⟩
def UO(F:Gs P t ti ts)(o:P.underlying l=some (.slice t)){fuel}{cs}{x}(h:DataW.trod enc P w base spare held fuel l cs=some x):
  ∃a n cap f,cs=[.slice a n cap]/\n<=maxLen/\IY w a n f/\(∀i,i<n->(f i).key.size<=maxLen)/\∀i,i<n->(Lit.int .i64 (f i).parent).wf=true/\(Lit.int .i64 (f i).count).wf=true:=by
 rcases open_slice o h with⟨rfl,_⟩|⟨a,len,cap,m,n,D,Pl,rfl,hb,hl,A,j,rfl,q⟩
 .exact⟨none,0,0,λ_=>default,rfl,od,.inl rfl,λi hi=>om,λi hi=>om⟩
 have r:len<=m:=by rw[j];split<;>omega
 have each:∀i,i<len->∃s:Bh,(w.cell? (a.add<|i*3)=some (.int .i64 s.parent)/\w.cell? (a.add<|i*3+1)=some (.string s.key)/\w.cell? (a.add<|i*3+2)=some (.int .i64 s.count))/\s.key.size<=maxLen/\(Lit.int .i64 s.parent).wf=true/\(Lit.int .i64 s.count).wf=true:=by
  intro i hi;obtain⟨u,h1,h2⟩:=q i om;rw[F.ct]at h1;obtain⟨p,k,c,rfl,w0,w1,w2⟩:=WQ F h2;obtain⟨_,_,d⟩:=World.cells?_some h1;have e0:=d 0 om;have e1:=d 1 om;have e2:=d 2 om;rw[add_add]at e0 e1 e2;exact⟨⟨p,k,c⟩,⟨by simpa using e0,by simpa using e1,by simpa using e2⟩,w1,w0,w2⟩
 obtain⟨f,hf⟩:=choose_lt each;refine⟨some a,len,cap,f,rfl,om,?_,λi hi=>(hf i hi).2.1,λi hi=>(hf i hi).2.2⟩;by_cases v:len=0
 .exact .inl v
 right;obtain⟨b,off,spot⟩:=a;have g:=(hf 0 om).1.1;have e:spot=none:=by simpa[Addr.add]using World.cell?_spot g
 subst e;refine⟨b,off,rfl,?_,λi hi=>?_⟩
 .have:=IF _ _ g;simpa[Addr.add]using this
 obtain⟨c0,c1,c2⟩:=(hf i hi).1;rw[add_plain]at c0 c1 c2;grind
end
end
section
open Go.ChangeShapes Go.WideShapes Go.ChangeAt Go.RowKit Go.Deep
structure Ad where
 va:Option Addr
 vc:Nat
 la:Option Addr
 lc:Nat
 ia:Option Addr
 ic:Nat
 xa:Option Addr
 xc:Nat
def Hd(v:Vl):List Value:=[J v.kind,J v.num,F9 v.Af,.string v.str,J v.ref]
def FT(s:Si):List Value:=[.string s.key,J s.shape,J s.place,J s.Ce,J s.AD]
def uT(A:Ad)(t:Tb):List Value:=[J t.shape,.slice A.va t.nv A.vc,.slice A.la t.d.n A.lc,.slice A.ia t.d.m A.ic,.slice A.xa t.d.x A.xc,J t.d.used,J t.d.live,J t.d.turns]
def EZ.of{p}(h:∀j u,(Hd p)[j]?=some u->w.cell? (G b<|o+j)=some u):EZ w b o p:=
 ⟨h 0 _ rfl,h 1 _ rfl,h 2 _ rfl,h 3 _ rfl,h 4 _ rfl⟩
def VI.of{p}(h:∀j u,(FT p)[j]?=some u->w.cell? (G b<|o+j)=some u):VI w b o p:=
 ⟨h 0 _ rfl,h 1 _ rfl,h 2 _ rfl,h 3 _ rfl,h 4 _ rfl⟩
def I3.of{A}{t}(h:∀j u,(uT A t)[j]?=some u->w.cell? (G b<|o+j)=some u):I3 w b o A.va A.vc A.la A.lc A.ia A.ic A.xa A.xc t:=
 ⟨h 0 _ rfl,h 1 _ rfl,h 2 _ rfl,h 3 _ rfl,h 4 _ rfl,h 5 _ rfl,h 6 _ rfl,h 7 _ rfl⟩
def sJ(t:Tb):Prop:=(∀i,i<t.nv->Wf (t.V i))/\Tj t.d
def gY(s:AL):Prop:=∀i,i<s.nt->sJ (s.T i)
instance:Inhabited Si:=⟨⟨⟨#[]⟩,0,0,0,0⟩⟩
instance:Inhabited Tb:=⟨⟨0,0,λ_=>default,⟨0,λ_=>default,0,λ_=>0,0,λ_=>0,0,0,0⟩⟩⟩
instance:Inhabited Ad:=⟨⟨none,0,none,0,none,0,none,0⟩⟩
section
variable {H:Type} {enc:TypeId×Value->H} {P:Program} {w:Y} {base:Nat} {spare:Nat->Bool} {held:Bool}
def UR{q}(F:Fs P t ti tn r ts)(s:P.underlying q=some (.slice t)){fuel}{cs}{x}(h:DataW.trod enc P w base spare held fuel q cs=some x):
  ∃a n cap f,cs=[.slice a n cap]/\n<=maxLen/\Fq w a n f/\∀i,i<n->Wf (f i):=by
 rcases open_slice s h with⟨rfl,_⟩|⟨a,len,cap,m,n,D,Pl,rfl,hb,hl,E,k,rfl,v⟩
 .exact⟨none,0,0,λ_=>default,rfl,od,.inl rfl,λi hi=>om⟩
 have A:len<=m:=by rw[k];split<;>omega
 have each:∀i,i<len->∃p:Vl,(∀j u,(Hd p)[j]?=some u->w.cell? (a.add<|i*5+j)=some u)/\Wf p:=by
  intro i hi;obtain⟨B,h1,h2⟩:=v i om;rw[F.ct]at h1;obtain⟨v0,v1,v2,v3,v4,rfl,_,_,l,o,_,_⟩:=Gw F h2;obtain⟨_,_,c⟩:=World.cells?_some h1;refine⟨⟨v0,v1,v2,v3,v4⟩,λj u hu=>?_,⟨OP l,o⟩⟩;have hj:j<5:=by grind [Hd]
  have e:=c j hj;rw[add_add]at e;rw[e];simpa[Hd]using hu
 obtain⟨f,hf⟩:=choose_lt each;refine⟨some a,len,cap,f,rfl,om,?_,λi hi=>(hf i hi).2⟩;by_cases C:len=0
 .exact .inl C
 right;obtain⟨b,off,spot⟩:=a;have g:=(hf 0 om).1 0 _ rfl;have d:spot=none:=by simpa[Addr.add]using World.cell?_spot g
 subst d;refine⟨b,off,rfl,?_,λi hi=>?_⟩
 .have:=IF _ _ g;simpa[Addr.add]using this
 refine EZ.of λj u hu=>?_;have:=(hf i hi).1 j u hu;rw[add_plain]at this;rw[Nat.add_assoc];exact this
structure Gx (P:Program) (t ti ts:TypeId):Prop where
 st:∃f0 f1 f2 f3 f4:Field,P.underlying t=some (.struct #[f0,f1,f2,f3,f4])/\f0.type=ts/\f1.type=ti/\f2.type=ti/\f3.type=ti/\f4.type=ti/\f0.offset=0/\f1.offset=1/\f2.offset=2/\f3.offset=3/\f4.offset=4
 ci:P.cellsOf ti=1
 cs:P.cellsOf ts=1
 ct:P.cellsOf t=5
 ui:P.underlying ti=some (.int .i64)
 us:P.underlying ts=some .string
def ZG(F:Gx P t ti ts){fuel}{cs}{x}(h:DataW.trod enc P w base spare held fuel t cs=some x):
  ∃s,cs=FT s/\s.key.size<=maxLen:=by
 obtain⟨f0,f1,f2,f3,f4,hu,t0,t1,t2,t3,t4,o0,o1,o2,d,e⟩:=F.st;obtain⟨xs,n,_,rfl,hl,a,hf⟩:=Aaz hu h;rw[F.ct]at hl
 match cs,hl with
 |[c0,c1,c2,c3,c4],_=>
  match xs,a with
  |[f,g,i,j,k],_=>
   rcases hf 0 f0 rfl,hf 1 f1 rfl,hf 2 f2 rfl,hf 3 f3 rfl,hf 4 f4 rfl with⟨b,h1,h2,h3,h4⟩;simp only[t0,t1,t2,t3,t4,o0,o1,o2,d,e,F.ci,F.cs,List.drop_zero,AaD,AaB,List.take_zero,Aap]at b h1 h2 h3 h4;rcases DataW.trod_string F.us b,W4 F.ui h1,W4 F.ui h2,W4 F.ui h3,W4 F.ui h4 with⟨⟨a0,e0,r0,w0⟩,⟨a1,e1,r1,w1⟩,⟨a2,e2,r2,w2⟩,⟨a3,e3,r3,w3⟩,⟨a4,c,l,w4⟩⟩;simp only[AaW,and_true]at e0 e1 e2 e3 c;subst e0 e1 e2 e3 c;exact⟨⟨a0,a1,a2,a3,a4⟩,rfl,w0⟩
def WR(F:Gx P t ti ts)(o:P.underlying l=some (.slice t)){fuel}{cs}{x}(h:DataW.trod enc P w base spare held fuel l cs=some x):
  ∃a n cap f,cs=[.slice a n cap]/\n<=maxLen/\FM w a n f/\∀i,i<n->(f i).key.size<=maxLen:=by
 rcases open_slice o h with⟨rfl,_⟩|⟨a,len,cap,m,n,D,Pl,rfl,hb,hl,A,k,rfl,q⟩
 .exact⟨none,0,0,λ_=>default,rfl,od,.inl rfl,λi hi=>om⟩
 have r:len<=m:=by rw[k];split<;>omega
 have each:∀i,i<len->∃p:Si,(∀j u,(FT p)[j]?=some u->w.cell? (a.add<|i*5+j)=some u)/\p.key.size<=maxLen:=by
  intro i hi;obtain⟨s,h1,h2⟩:=q i om;rw[F.ct]at h1;obtain⟨p,rfl,wp⟩:=ZG F h2;obtain⟨_,_,c⟩:=World.cells?_some h1;refine⟨p,λj u hu=>?_,wp⟩;have hj:j<5:=by grind [FT]
  have e:=c j hj;rw[add_add]at e;rw[e];simpa using hu
 obtain⟨f,hf⟩:=choose_lt each;refine⟨some a,len,cap,f,rfl,om,?_,λi hi=>(hf i hi).2⟩;by_cases v:len=0
 .exact .inl v
 right;obtain⟨b,off,spot⟩:=a;have g:=(hf 0 om).1 0 _ rfl;have d:spot=none:=by simpa[Addr.add]using World.cell?_spot g
 subst d;refine⟨b,off,rfl,?_,λi hi=>?_⟩
 .have:=IF _ _ g;simpa[Addr.add]using this
 refine VI.of λj u hu=>?_;have:=(hf i hi).1 j u hu;rw[add_plain]at this;rw[Nat.add_assoc];exact this
structure Gt (P:Program) (t a b tL d e c ti tn f ts:TypeId):Prop where
 st:∃f0 f1 f2:Field,P.underlying t=some (.struct #[f0,f1,f2])/\f0.type=ti/\f1.type=a/\f2.type=b/\f0.offset=0/\f1.offset=1/\f2.offset=2
 ct:P.cellsOf t=8
 cv:P.cellsOf a=1
 uv:P.underlying a=some (.slice c)
 ds:Gd P b tL d e c ti tn f ts
def WT{b f tL g j k}(F:Gt P t b f tL g j k ti tn l ts){fuel}{cs}{x}(h:DataW.trod enc P w base spare held fuel t cs=some x):
  ∃(A:Ad) (t:Tb),cs=uT A t/\Fq w A.va t.nv t.V/\Ei w A.la A.ia A.xa t.d/\QU t/\sJ t:=by
 obtain⟨f0,f1,f2,hu,t0,t1,t2,o0,o1,o2⟩:=F.st;obtain⟨xs,n,_,rfl,hl,a,hf⟩:=Aaz hu h;rw[F.ct]at hl
 match cs,hl with
 |[c0,c1,c2,c3,c4,c5,c6,c7],_=>
  match xs,a with
  |[u,v,B],_=>
   rcases hf 0 f0 rfl,hf 1 f1 rfl,hf 2 f2 rfl with⟨c,h1,h2⟩;simp only[t0,t1,t2,o0,o1,o2,F.cv,F.ds.ct,F.ds.ps.vs.ci,List.drop_zero,AaD,AaB,List.take_zero,Aap]at c h1 h2;rcases W4 F.ds.ps.vs.ui c,UR F.ds.ps.vs F.uv h1,ZE F.ds h2 with⟨⟨a0,e0,r0,w0⟩,⟨va,nv,vc,m,e1,o,p,e⟩,⟨la,lc,ia,ic,xa,xc,d,e2,q,r,s⟩⟩;simp only[AaW,and_true]at e0 e1 e2;subst e0 e1;obtain⟨rfl,rfl,rfl,rfl,rfl,rfl⟩:=e2;exact⟨⟨va,vc,la,lc,ia,ic,xa,xc⟩,⟨a0,nv,m,d⟩,rfl,p,q,⟨o,λi hi=>(e i hi).str,r⟩,⟨e,s⟩⟩
def UQ{p tL s v B C}(F:Gt P t l r tL s v B ti tn C ts)(E:P.underlying p=some (.slice t)){fuel}{cs}{x}(h:DataW.trod enc P w base spare held fuel p cs=some x):
  ∃a n cap f,cs=[.slice a n cap]/\n<=maxLen/\RV w a n f/\∀i,i<n->QU (f i)/\sJ (f i):=by
 rcases open_slice E h with⟨rfl,_⟩|⟨a,len,cap,m,n,D,Pl,rfl,hb,hl,T,o,rfl,I⟩
 .exact⟨none,0,0,λ_=>default,rfl,od,.inl rfl,λi hi=>om⟩
 have K:len<=m:=by rw[o];split<;>omega
 have each:∀i,i<len->∃q:Ad×Tb,(∀j u,(uT q.1 q.2)[j]?=some u->w.cell? (a.add<|i*8+j)=some u)/\Fq w q.1.va q.2.nv q.2.V/\Ei w q.1.la q.1.ia q.1.xa q.2.d/\QU q.2/\sJ q.2:=by
  intro i hi;obtain⟨L,h1,h2⟩:=I i om;rw[F.ct]at h1;obtain⟨A,t,rfl,M,Q,lt,R⟩:=WT F h2;obtain⟨_,_,c⟩:=World.cells?_some h1;refine⟨⟨A,t⟩,λj u hu=>?_,M,Q,lt,R⟩;have hj:j<8:=by grind
  have e:=c j hj;rw[add_add]at e;rw[e];simpa using hu
 obtain⟨f,hf⟩:=choose_lt each;refine⟨some a,len,cap,λi=>(f i).2,rfl,om,?_,λi hi=>⟨(hf i hi).2.2.2.1,(hf i hi).2.2.2.2⟩⟩;by_cases S:len=0
 .exact .inl S
 right;obtain⟨b,off,spot⟩:=a;have k:=(hf 0 om).1 0 _ rfl;have g:spot=none:=by simpa[Addr.add]using World.cell?_spot k
 subst g;refine⟨b,off,rfl,?_,λi hi=>?_⟩
 .have:=IF _ _ k;simpa[Addr.add]using this
 refine⟨_,_,_,_,_,_,_,_,I3.of λj u hu=>?_,(hf i hi).2.1,(hf i hi).2.2.1⟩;have:=(hf i hi).1 j u hu;rw[add_plain]at this;rw[Nat.add_assoc];exact this
end
def vW:Gx prog 98 3 9:=⟨⟨_,_,_,_,_,underlying98,rfl,rfl,rfl,rfl,rfl,rfl,rfl,rfl,rfl,rfl⟩,ou,ou,ou,underlying3,underlying9⟩
def vR:Gt prog 95 89 93 90 91 240 31 3 2 29 9:=⟨⟨_,_,_,underlying95,rfl,rfl,rfl,rfl,rfl,rfl⟩,ou,ou,underlying89,vO⟩
def tY:Gs prog 157 3 9:=⟨⟨_,_,_,underlying157,rfl,rfl,rfl,rfl,rfl,rfl⟩,ou,ou,ou,underlying3,underlying9⟩
def XE:prog.cellsOf 24=1:=ou
def XF:prog.cellsOf 28=3:=ou
def iT:prog.cellsOf 25=1:=ou
def iR:prog.cellsOf 26=1:=ou
def SP{H}{enc}{base}{held}{x:DataW H×List MemPlace}(h:DataW.trod enc prog w base spare held fuel 24 cs=some x):
  ∃a n cap f,cs=[.slice a n cap]/\n<=maxLen/\IY w a n f/\(∀i,i<n->(f i).key.size<=maxLen):=by
 obtain⟨xs,n,_,rfl,hl,b,hf⟩:=Aaz underlying24 h;rw[XE]at hl
 match cs,hl with
 |[c0],_=>
  match xs,b with
  |[d],_=>
   have c:=hf 0 _ rfl;simp only[List.getElem?_cons_zero]at c;obtain⟨a,m,cap,f,e,h1,h2,h3,_⟩:=UO tY underlying22 c;exact⟨a,m,cap,f,e,h1,h2,h3⟩
def WS{H}{enc}{base}{held}{x:DataW H×List MemPlace}(h:DataW.trod enc prog w base spare held fuel 28 cs=some x):
  ∃b c ta tc sa sc s,cs=[.slice b s.nf c,.slice ta s.nt tc,.slice sa s.ns sc]/\Tr w b ta sa s/\Xu s/\gY s:=by
 obtain⟨f0,f1,f2,hu,t0,t1,t2,o0,o1,o2⟩:∃f0 f1 f2:Field,prog.underlying 28=some (.struct #[f0,f1,f2])/\f0.type=24/\f1.type=25/\f2.type=26/\f0.offset=0/\f1.offset=1/\f2.offset=2:=⟨_,_,_,underlying28,rfl,rfl,rfl,rfl,rfl,rfl⟩;obtain⟨xs,n,_,rfl,hl,a,hf⟩:=Aaz hu h;rw[XF]at hl
 match cs,hl with
 |[c0,c1,c2],_=>
  match xs,a with
  |[r,t,u],_=>
   rcases hf 0 f0 rfl,hf 1 f1 rfl,hf 2 f2 rfl with⟨d,h1,h2⟩;simp only[t0,t1,t2,o0,o1,o2,XE,iT,iR,List.drop_zero,AaD,AaB,List.take_zero,List.getElem?_cons_zero,Aap]at d h1 h2;rcases SP d,UQ vR underlying25 h1,WR vW underlying26 h2 with⟨⟨b,fn,c,f,e0,n0,pF,g⟩,⟨ta,tn,tc,j,e1,k,l,e⟩,⟨sa,m,sc,o,e2,p,pS,q⟩⟩;simp only[AaW,and_true]at e0 e1 e2;subst e0 e1 e2;exact⟨b,c,ta,tc,sa,sc,⟨fn,f,tn,j,m,o⟩,rfl,⟨pF,l,pS⟩,⟨n0,g,k,λi hi=>(e i hi).1,p,q⟩,λi hi=>(e i hi).2⟩
def WB{H}{enc}{base}{held}{r}{d:DataW H}{p}(f:Value.okWide prog w r b0 28 v)(h:DataW.Trod enc prog w base spare held 28 v d p):
  ∃a b ta tc sa sc s,v=Qk a b ta tc sa sc s/\Tr w a ta sa s/\Xu s/\gY s:=by
 obtain⟨cs,rfl,c⟩:=okWide_struct underlying28 f;obtain⟨c0,c1,c2,rfl⟩:∃c0 c1 c2,cs=#[c0,c1,c2]:=by
  obtain⟨l⟩:=cs
  match l,c.trans XF with
  |[c0,c1,c2],_=>exact⟨c0,c1,c2,rfl⟩
 obtain⟨fuel,hf⟩:=h;obtain⟨a,b,ta,tc,sa,sc,s,e,h1,h2,h3⟩:=WS hf;simp only[Value.cells,AaW,and_true]at e;obtain⟨rfl,rfl,rfl⟩:=e;exact⟨a,b,ta,tc,sa,sc,s,rfl,h1,h2,h3⟩
end
instance:Inhabited Si:=⟨⟨⟨#[]⟩,0,0,0,0⟩⟩
instance:Inhabited Tb:=⟨⟨0,0,λ_=>default,⟨0,λ_=>default,0,λ_=>0,0,λ_=>0,0,0,0⟩⟩⟩
instance:Inhabited Ad:=⟨⟨none,0,none,0,none,0,none,0⟩⟩
structure Nd (w:Y) (s:AL) (b0 g:Nat) (B N:Nat->Nat) (M:Nat->Option Nat):Prop where
 ns:CA w s.F b0 s.nf B N M
 id:∀i,i<s.nf->N i=i
 lt:g<w.heap.size
 qL:∀i,i<s.nf->w.cell? (G g i)=some (Q9<|B i)
def Nd.below(h:Nd w s b0 g B Z M)(hb:B9 w w'):Nd w' s b0 g B Z M:=
 ⟨h.ns.below hb,h.id,A0 h.lt hb.size,λi hi=>(hb.cell h.lt).trans<|h.qL i hi⟩
def Nd.CP(h:Nd w s b0 g B Z M){j}(hj:j<s.nf):B j<w.heap.size/\w.cell? (G (B j) 3)=some (J (s.F j).count):=by
 have:=Dt h.ns h.id hj;exact⟨by have:=IF _ _ this.1;exact this,this.2.2.1⟩
def Nd.place(h:Nd w s b0 g B Z M)(a:Am s.nf s.F=0){j}(hj:j<s.nf)key:
  C9 106 #[Q9 (B j),.string key] w (R9 (J<|Bf s.F j key) w):=by
 refine(GU w b0 B Z M h.ns h.id (Au a).2.1 (Au a).2.2.1 j hj key).mono ?_;rintro e w' ⟨⟨h1,_⟩,rfl⟩;exact⟨h1,BE _ _⟩
def PW a n j{x}w(k:Yf x):
  C9 59 #[SJ (-1) x,.slice a n j] w (R9 (.bool<|x.place==0) w):=by
 obtain⟨h1,h2,h3,h4,h5⟩:=k;have l:(decide (0<=x.Ce)&&decide (x.Ce<=1000000000000))=true:=ot;have f:(decide (0<=x.AD)&&decide (x.AD<=1000000000000))=true:=ot;have d:∀o1,B9 w<|w.alloc o1:=λo1=>n9;have i:=O d;clear d;go_enter func59,ntmps59;go_wp2_with fail;refine m9 (DM x.Ce _) λw1 b=>?_;rw[l];obtain⟨m,o⟩:=AO b;have g:=b.size;simp at g;have p:w.heap.size<w1.heap.size:=om;have e:=O<|o8 (i _) b;clear b;go_wp2_with fail;refine m9 (DM x.AD _) λw2 c=>?_;rw[f];rcases AO c,A0 p c.size,O (o8 e c) with⟨⟨q,r⟩,s,h⟩;clear c;go_wp2;go_ret;exact⟨rfl,h⟩
def SU u{B Z}{M}{x}i{w}(I:Yf x)(hN:Nd w s b0 g B Z M)(L:Am s.nf s.F=0)(hi:i≠-1):
  C9 59 #[SJ i x,.slice (some<|G g 0) s.nf u] w (R9 (.bool<|decide (0<=i/\i<s.nf/\0<=x.place)&&(Bf s.F i.toNat x.key==x.place)) w):=by
 obtain⟨h1,h2,h3,h4,h5⟩:=I;have C:(decide (0<=x.Ce)&&decide (x.Ce<=1000000000000))=true:=ot;have D:(decide (0<=x.AD)&&decide (x.AD<=1000000000000))=true:=ot;have P:=hN.lt;have Q:(i==-1)=false:=by simpa using hi
 have m:B9 w<|w.alloc<|.cells #[.string x.key,J i,J x.place,J x.Ce,J x.AD] 107:=n9;go_enter func59,ntmps59;go_wp2_with fail;refine m9 (DM x.Ce _) λw1 k=>?_;rw[C];obtain⟨f,R⟩:=AO k;have E:=k.size;simp at E;have v:w.heap.size<w1.heap.size:=om;have c0:w1.cell? (y w 0)=some (.string x.key):=by rw[f _ _ oq];simp[go_sem]
 have c1:w1.cell? (y w 1)=some (J i):=by rw[f _ _ oq];simp[go_sem]
 have c2:w1.cell? (y w 2)=some (J x.place):=by rw[f _ _ oq];simp[go_sem]
 have c3:w1.cell? (y w 4)=some (J x.AD):=by rw[f _ _ oq];simp[go_sem]
 have n:=o8 m k;go_wp2_with fail;refine m9 (DM x.AD _) λW c=>?_;rw[D];rcases A0 v c.size,(c.cell v).trans c0,(c.cell v).trans c1,(c.cell v).trans c2,o8 n c with⟨l0,T,S,U,b⟩;have o:=hN.below b;have V:g<W.heap.size:=om;by_cases hj:0<=i/\i<s.nf
 case neg=>
  have A:(decide ((0:Int)<=i)&&decide (i<(s.nf:Int)))=false:=ot;have p:Hid<|(decide (0<=i/\i<s.nf/\0<=x.place)&&(Bf s.F i.toNat x.key==x.place))=false:=O (by rw[decide_eq_false (λq=>hj ⟨q.1,q.2.1⟩)];rfl);go_wp2_with fail;refine qr W ?_;refine N (h:=N (h:=N (h:=?_)));refine GC λK hK=>?_;go_simp;apply Exists.intro;refine ql (λw' a=>?_)<|hK _ ?_
  .refine(A▸Fv (some<|G g 0) s.nf u i _).mono ?_;rintro e r ⟨rfl,hb⟩;exact⟨rfl,o8 a hb⟩
  clear hK K;refine N (h:=?_);iterate 3 (go_big_quiet_step (fail))
  refine N (h:=N (h:=?_));iterate 11 (go_big_quiet_step (fail))
  refine N (h:=N (h:=?_));refine GS ?_;intro w2 d;have l:=o8 b d;go_wp2;go_ret;exact⟨by rw[z p]<;>rfl,l⟩
 have A:(decide ((0:Int)<=i)&&decide (i<(s.nf:Int)))=true:=ot;by_cases hp:0<=x.place
 case neg=>
  have p:Hid<|(decide (0<=i/\i<s.nf/\0<=x.place)&&(Bf s.F i.toNat x.key==x.place))=false:=O (by rw[decide_eq_false (λq=>hp q.2.2)];rfl);have H:decide (0<=x.place)=false:=by simpa using hp
  go_wp2_with fail
  refine qr W ?_;refine N (h:=N (h:=N (h:=?_)));refine GC λK hK=>?_;go_simp;apply Exists.intro;refine ql (λw' a=>?_)<|hK _ ?_
  .refine(A▸Fv (some<|G g 0) s.nf u i _).mono ?_;rintro e r ⟨rfl,hb⟩;exact⟨rfl,o8 a hb⟩
  clear hK K;(iterate 6 refine N (h:=?_));iterate 11 (go_big_quiet_step (fail))
  refine N (h:=N (h:=?_));refine GS ?_;intro w2 d;have l:=o8 b d;go_wp2;go_ret;exact⟨by rw[z p]<;>rfl,l⟩
 have H:decide (0<=x.place)=true:=by simpa using hp
 obtain⟨j,rfl⟩:∃j:Nat,i=j:=⟨i.toNat,om⟩;have t:j<s.nf:=om;have p:Hid<|(decide (0<=(j:Int)/\(j:Int)<s.nf/\0<=x.place)&&(Bf s.F (j:Int).toNat x.key==x.place))=(Bf s.F j x.key==x.place):=O (by rw[decide_eq_true ⟨hj.1,hj.2,hp⟩];rfl);have X:=o.qL j t;go_wp2_with fail;refine qr W ?_;refine N (h:=N (h:=N (h:=?_)));refine GC λK hK=>?_;go_simp;apply Exists.intro;refine ql (λw' a=>?_)<|hK _ ?_
 .refine(A▸Fv (some<|G g 0) s.nf u (j:Int) _).mono ?_;rintro e r ⟨rfl,hb⟩;exact⟨rfl,o8 a hb⟩
 clear hK K;(iterate 12 refine N (h:=?_));refine N (h:=?_);refine GC λK hK=>?_;go_simp;refine⟨_,λw' a=>qk a<|Nd.place (o.below a) (z<|O L) t x.key,hK _ ?_⟩;clear hK K;(iterate 5 refine N (h:=?_));refine GS ?_;intro w2 d;go_wp2;go_ret;exact⟨by rw[z p]<;>rfl,z<|o8 b d⟩
def QM b{B Z}{M}x{w}(hk:x.key.size<=maxLen)(hN:Nd w s b0 g B Z M)(c:Am s.nf s.F=0):
  C9 59 #[SV x,S9 g s.nf b] w (R9 (.bool<|tells<|Nw s x) w):=by
 by_cases a:Yf x
 case neg=>
  have h:=QO (some<|G g 0) s.nf b x w hk a
  rwa [<-Ae (λq=>a (mB q))]at h
 by_cases h1:x.shape=-1
 .have h:=PW (some<|G g 0) s.nf b w a;rw[<-UD a h1]at h;rw[SV,h1];exact h
 have h:=SU b x.shape a hN c h1;have e:(decide (0<=x.shape/\x.shape<s.nf/\0<=x.place)&&(Bf s.F x.shape.toNat x.key==x.place))=tells (Nw s x):=by
  by_cases q:0<=x.shape/\x.shape<s.nf/\0<=x.place
  .rw[dP (j:=x.shape.toNat) a om om q.2.2,decide_eq_true q];rfl
  rw[Yg h1 q,decide_eq_false q];rfl
 rw[e]at h;exact h
abbrev KN(A:Ad)(t:Tb):Value:=tC A.va A.vc A.la A.lc A.ia A.ic A.xa A.xc t
abbrev CH(p:Nat)(A:Ad)(t:Tb):Value:=iF p A.va A.vc A.la A.lc A.ia A.ic A.xa A.xc t
abbrev tG(i:Int)(A:Ad)(t:Tb):Value:=.agg #[J i,.slice A.va t.nv A.vc,.slice A.la t.d.n A.lc,.slice A.ia t.d.m A.ic,.slice A.xa t.d.x A.xc,J t.d.used,J t.d.live,J t.d.turns]
def Ui a n c A t w:
  C9 58 #[tG (-1) A t,.slice a n c] w (R9 (.iface 194<|KN A t) w):=by
 have b:∀o1 o2,B9 w<|(w.alloc o1).alloc o2:=λo1 o2=>(n9).alloc oq _;have d:=O b;clear b;go_enter func58,ntmps58;go_wp2;go_ret;exact⟨rfl,d _ _⟩
def V7 a(n e:Nat)A t(i:Int)w(h1:i≠-1)(h:¬(0<=i/\i<n)):
  C9 58 #[tG i A t,.slice a n e] w (R9 .nilIface w):=by
 have b:∀o1 o2,B9 w<|(w.alloc o1).alloc o2:=λo1 o2=>(n9).alloc oq _;have f:=O b;have g:(i==-1)=false:=by simpa using h1
 have j:(decide ((0:Int)<=i)&&decide (i<(n:Int)))=false:=ot;clear b h1 h;go_enter func58,ntmps58;go_wp2_with fail;refine m9 (Fv a n e i _) λw1 c=>?_;rw[j];have d:=O<|o8 (f _ _) c;clear c;go_wp2;go_ret;exact⟨rfl,d⟩
def Zf g n l p A t j(w:Y)(hj:j<n)(o:g<w.heap.size)(hc:w.cell? (G g j)=some (Q9 p)):
  C9 58 #[tG (j:Int) A t,S9 g n l] w (R9 (.iface 197<|CH p A t) w):=by
 have c:B9 w<|(w.alloc<|.cells #[J (j:Int),.slice A.va t.nv A.vc,.slice A.la t.d.n A.lc,.slice A.ia t.d.m A.ic,.slice A.xa t.d.x A.xc,J t.d.used,J t.d.live,J t.d.turns] 105).alloc<|.cells #[.slice A.va t.nv A.vc,.slice A.la t.d.n A.lc,.slice A.ia t.d.m A.ic,.slice A.xa t.d.x A.xc,J t.d.used,J t.d.live,J t.d.turns] 192:=(n9).alloc oq _;have q:(decide ((0:Int)<=(j:Int))&&decide ((j:Int)<(n:Int)))=true:=ot;have r:((j:Int)==-1)=false:=by first|(simp;done)|(simp;omega)
 have f:=(c.cell o).trans hc;go_enter func58,ntmps58;go_wp2_with fail;refine m9 (Fv (some<|G g 0) n l (j:Int) _) λw1 b=>?_;rw[q];obtain⟨a,s⟩:=AO b;have i:=b.size;simp at i;have u:w.heap.size<w1.heap.size:=om;have v:w.heap.size+1<w1.heap.size:=om;have B:g<w1.heap.size:=om;have C:=(b.cell ot).trans f;have c0:w1.cell? (y w 0)=some (J (j:Int)):=by rw[a _ _ ot];simp[go_sem]
 have d0:w1.cell? (Y9 w 0)=some (.slice A.va t.nv A.vc):=by rw[a _ _ oq];simp[go_sem]
 have d1:w1.cell? (Y9 w 1)=some (.slice A.la t.d.n A.lc):=by rw[a _ _ oq];simp[go_sem]
 have d2:w1.cell? (Y9 w 2)=some (.slice A.ia t.d.m A.ic):=by rw[a _ _ oq];simp[go_sem]
 have d3:w1.cell? (Y9 w 3)=some (.slice A.xa t.d.x A.xc):=by rw[a _ _ oq];simp[go_sem]
 have d4:w1.cell? (Y9 w 4)=some (J t.d.used):=by rw[a _ _ oq];simp[go_sem]
 have d5:w1.cell? (Y9 w 5)=some (J t.d.live):=by rw[a _ _ oq];simp[go_sem]
 have d6:w1.cell? (Y9 w 6)=some (J t.d.turns):=by rw[a _ _ oq];simp[go_sem]
 have e:=o8 c b;go_wp2_with fail;refine qr w1 ?_;(iterate 9 refine N (h:=?_));refine GS ?_;intro w2 k;go_wp2;go_ret;exact⟨rfl,z<|o8 e k⟩
def Es(d:Dc)(j:Nat):Pr:=d.L<|(AQ d d.n).getD j 0
def JM(d:Dc):Nat:=(AQ d d.n).length
def FH(hk:k<d.n)(h:(d.L k).turn≠0):Es d (AQ d k).length=d.L k:=by
 obtain⟨r,a⟩:=Fx (d:=d) (k:=k+1) (n:=d.n) om;grind [Es,Bp]
def oM d:JM d<=d.n:=FP d d.n
def PA(wr:Y)o1(cs:List Value)t:∀j u,cs[j]?=some u->((wr.alloc o1).alloc<|.cells cs.toArray t).cell? (((Y9 wr 0):Addr).add j)=some u:=by
 have hb:=DD (wr.alloc o1)<|.cells cs.toArray t;have hz:(wr.alloc o1).heap.size=wr.heap.size+1:=oq;rw[hz]at hb;exact ID hb
def Um lc ia ic xa xc{d}{w}(I:JY w la d.n d.L)(K:Small d)(h2:D2 d):
  C9 94 #[Dv la lc ia ic xa xc d] w λe w'=>(∃v,e=.returned v/\BT w' w.heap.size v (JM d) (Es d))/\B9 w w':=by
 obtain⟨i0,hi,m,p,r⟩:=ON EM;have hn:=K.n;go_enter func94,ntmps94;go_wp2;go_loopw [9,3] (λi o wr=>∃(k:Nat) (v:V9),k<=d.n/\i=J k/\v=o/\BT wr w.heap.size v (AQ d k).length (Es d)/\B9 w wr) λi o _=>d.n-(intOf i).toNat
 .exact⟨0,_,om,rfl,rfl,NB _ _ _ _,n9⟩
 obtain⟨k,v,hk,rfl,rfl,E,hb⟩:=hrel;by_cases g:k<d.n
 .obtain⟨b,off,rfl,s,hcs⟩:=I.resolve_left om;rcases (hcs k g).keep (λq=>hb.cell s),hb.size,FP d k,O hb,O E with⟨⟨e0,e1,e2,e3,Q,R,S,T,U,V,t⟩,u,M,F,x⟩;by_cases hp:0<(d.L k).turn
  .have j:(d.L k).turn≠0:=om;have A:=O<|Bp j;go_wp2_with (first|(at_builtin;refine So _ rfl _ _ 101 rfl w.heap.size 166 i0 PZ 11 104 underlying101 hi m p r rfl oo v (AQ d k).length (pL (Es d) (AQ d k).length) rfl ((x.alloc _).alloc _) (Y9 wr 0) 1 1 (Dl<|d.L k) rfl rfl (PA wr _ (Dl<|d.L k) _) (Fj _) oo od om ot _ rfl ?_;intro g3 P w3 a c B H;have C:=O<|((F.alloc om _).alloc ot _).trans<|CW c (λq e=>(z (O x.lt) q e).1) ot;have D:=O a;clear a c)|go_in);go_roundw
   .refine⟨k+1,_,om,ov,rfl,?_,C⟩;have h:=z D;rw[z A,P9,Aae];show w3.ownsRow w.heap.size _ 11 _ _ (pL (Es d) (AQ d k).length++Dl (Es d (AQ d k).length));rw[z (O (FH g j))];exact h
   exact ow
  have f:(d.L k).turn=0:=by
   rcases h2.entry g with h|h
   .exact h.1
   exact absurd h.1 hp
  have A:=O<|Ci f;rw[f]at t;go_wp2;go_roundw
  .refine⟨k+1,_,om,ov,rfl,?_,F.alloc u _⟩;rw[z A];exact x.alloc _
  exact ow
 have l:k=d.n:=om;subst l;go_wp2;go_ret;exact⟨⟨_,rfl,z<|O E⟩,z<|O hb⟩
def mark(k:Nat):ByteArray:=⟨(109::Lib.decDigits k).toArray⟩
def TD(u:Nat):List UInt8:=if u=0 then[]else Lib.decDigits u
def YK{u}(h:0<u):TD u=TD (u/10)++[iA u]:=by
 grind [TD,iA,Ii,OD]
def BF(k:Nat)(hk:k<9007199254740992)w:
  C9 71 #[J k] w (R9 (.string<|mark k) w):=by
 by_cases d:k=0
 .subst d;go_enter func71,ntmps71;go_wp2;go_ret;exact⟨GX<|by unfold mark;rw[Ii om];rfl,BE _ _⟩
 have hl:=Ko k om;have f:Hid<|Lib.decDigits k=TD k:=O (by unfold TD;rw[Cs d]);have g:0<k:=om;go_enter func71,ntmps71;go_wp2;go_loopw [0,3] (λa o wr=>∃(u:Nat) (l:List UInt8),u<=k/\a=J (u:Int)/\o=.string ⟨l.toArray⟩/\Lib.decDigits k=TD u++l/\B9 w wr) λa _ _=>(intOf a).toNat
 .exact⟨k,[],Be _,rfl,rfl,by rw[z f];simp,BE _ _⟩
 obtain⟨u,l,hu,rfl,rfl,c,hb⟩:=hrel;have e:Hid<|Lib.decDigits k=TD u++l:=c;have h:l.length<=21:=by have:=congrArg List.length c;rw[P9]at this;omega
 clear c;have i:=OB u wr;go_wp2
 .have b:0<u:=ol;go_roundw
  .refine⟨u/10,iA u::l,om,ov,?_,?_,hb.alloc hb.size _⟩
   .rw[Cr];rfl
   rw[e.out,YK b,List.append_assoc];rfl
  exact ow
 have b:u=0:=om;subst b;go_ret;refine⟨GX ?_,hb⟩;unfold mark;rw[e.out];apply ByteArray.ext;simp[TD]
structure Bt (b:Nat) (w w':Y):Prop where
 os:w'.os=w.os
 tape:w'.tape=w.tape
 output:w'.output=w.output
 size:w.heap.size<=w'.heap.size
 block:∀k,k<w.heap.size->k≠b->w'.heap[k]?=w.heap[k]?
def Bt.refl b w:Bt b w w:=⟨rfl,rfl,rfl,Be _,λ_ _ _=>rfl⟩
theorem Bt.trans{u v}(h:Bt b u v)(k:Bt b v w):Bt b u w:=
 ⟨k.os.trans h.os,k.tape.trans h.tape,k.output.trans h.output,GP h.size k.size,λi hi hn=>(k.block i (A0 hi h.size) hn).trans<|h.block i hi hn⟩
def Bt.of(h:B9 w w'):Bt b w w':=⟨h.os,h.tape,h.output,h.size,λk hk _=>h.block k hk⟩
def Bt.set b o w v:Bt b w<|w.setCell (G b o) v:=⟨rfl,rfl,rfl,oq,λk _ hn=>At _ _ _ _<|by exact hn⟩
def Iu(b n cap Z s:Nat)g w(hA:w.rowIs b 3 Z g)(hN:n<=Z)(hn:n<=2000000000)(hs:s<=100000000000000):
  C9 70 #[S9 b n cap,J s] w λe w'=>(e=.returned (J ((s+n:Nat):Int))/\∃g',w'.rowIs b 3 Z g'/\∀j,j<n->g' j=J ((s+j:Nat):Int))/\Bt b w w':=by
 have l:=O hA;clear hA;go_enter func70,ntmps70;go_wp2;go_loopw [1,5] (λq i wr=>∃(k:Nat) (g:Nat->Value),k<=n/\i=J (k:Int)/\q=J ((s+k:Nat):Int)/\Bt b w wr/\wr.rowIs b 3 Z g/\∀j,j<k->g j=J ((s+j:Nat):Int)) λ_ i _=>n-(intOf i).toNat
 .exact⟨0,g,om,rfl,rfl,Bt.refl _ _,l,λj hj=>om⟩
 obtain⟨k,g,hk,rfl,rfl,hb,a,d⟩:=hrel;by_cases m:k<n
 .rcases a.cell (i:=k) om,a.frozen k,a.lt,O hb,O a,O d with⟨d0,e0,o,h,f,p⟩;clear hb a d;go_wp2;go_roundw
  .refine⟨k+1,_,om,ov,ov,h.trans<|Bt.set b _ _ _,f.set k<|J ((s+k:Nat):Int),λj hj=>?_⟩;by_cases e:j=k
   .subst e;simp
   simp only[e,XN];exact p j om
  exact ow
 have c:k=n:=om;subst c;have h:=O hb;have f:=O<|ql a d;clear hb a d;go_wp2;go_ret;exact⟨⟨rfl,_,f.1,f.2⟩,h⟩
def cE k(c:0<=k)(hk:k<9007199254740992):(O9 (floatOfInt .f64 k) (floatOfInt .f64 k)!=some .eq)=false:=by
 obtain⟨q,l,b,hl,d⟩:=Fl.Fi (decide (k<0)) k.natAbs<|Fl.Ks om;have a:Ieee.double.read (floatOfInt .f64 k)=.number (decide (k<0)) q l:=b;show(!(Ieee.double.order _ _==some .eq))=false;rw[Fl.BL a a hl hl];simp
def lY(s i:Nat):Pr:=
 ⟨⟨(s:Int)+11*i,(s:Int)+11*i+1,floatOfInt .f64<|(s:Int)+11*i+1+1,mark<|s+11*i+3,(s:Int)+11*i+1+1+1+1⟩,
  ⟨(s:Int)+11*i+1+1+1+1+1,(s:Int)+11*i+1+1+1+1+1+1,floatOfInt .f64 ((s:Int)+11*i+1+1+1+1+1+1+1),mark (s+11*i+8),(s:Int)+11*i+1+1+1+1+1+1+1+1+1⟩,(s:Int)+11*i+1+1+1+1+1+1+1+1+1+1⟩
def Rt(f:Nat->Pr)(j:Nat):Value:=((Dl<|f<|j/11)[j%11]?).getD undef
def UH f k i(hi:i<11):Rt f (k*11+i)=((Dl<|f k)[i]?).getD undef:=by
 unfold Rt;grind
def dV{Z}{g}{f}(h:w.rowIs b 166 Z g)(hN:n*11<=Z)(a:∀j,j<n*11->g j=Rt f j){i}(hi:i<n):ED w b (i*11)<|f i:=by
 have e:∀j,j<11->w.cell? (G b<|i*11+j)=some (((Dl<|f i)[j]?).getD undef):=λj hj=>by
  rw[h.cell om,a _ om,UH f i j hj]
 exact⟨e 0 om,e 1 om,e 2 om,e 3 om,e 4 om,e 5 om,e 6 om,e 7 om,e 8 om,e 9 om,e 10 om⟩
def J8(b n cap Z s:Nat)g w(hA:w.rowIs b 166 Z g)(hN:n*11<=Z)(hn:n<=2000000000)(hs:s<=100000000000000):
  C9 69 #[S9 b n cap,J s] w λe w'=>(e=.returned (J<|(s)+11*(n))/\∃g',w'.rowIs b 166 Z g'/\∀j,j<n*11->g' j=Rt (lY s) j)/\Bt b w w':=by
 go_enter func69,ntmps69;go_wp2;go_loopw [1,5] (λq i wr=>∃(k:Nat) (g:Nat->Value),k<=n/\i=J (k:Int)/\q=J ((s:Int)+11*(k:Int))/\Bt b w wr/\wr.rowIs b 166 Z g/\∀j,j<k*11->g j=Rt (lY s) j) λ_ i _=>n-(intOf i).toNat
 .exact⟨0,g,om,rfl,oq,Bt.refl _ _,hA,λj hj=>om⟩
 obtain⟨k,g,hk,rfl,rfl,hb,c,B⟩:=hrel;by_cases E:k<n
 .have u:=c.lt;have d0:=c.cell (i:=k*11) om;have e0:=c.frozen<|k*11;have d1:=c.cell (i:=k*11+1) om;have e1:=c.frozen<|k*11+1;have d2:=c.cell (i:=k*11+2) om;have e2:=c.frozen<|k*11+2;have d3:=c.cell (i:=k*11+3) om;have e3:=c.frozen<|k*11+3;have d4:=c.cell (i:=k*11+4) om;have F:=c.frozen<|k*11+4;have d5:=c.cell (i:=k*11+5) om;have H:=c.frozen<|k*11+5;have d6:=c.cell (i:=k*11+6) om;have I:=c.frozen<|k*11+6;have d7:=c.cell (i:=k*11+7) om;have K:=c.frozen<|k*11+7;have d8:=c.cell (i:=k*11+8) om;have C:=c.frozen<|k*11+8;have d9:=c.cell (i:=k*11+9) om;have D:=c.frozen<|k*11+9;have d10:=c.cell (i:=k*11+10) om;have h:=c.frozen<|k*11+10;have l:∀w:World,_:=λw=>BF (s+11*k+3) om w;have m:∀w:World,_:=λw=>BF (s+11*k+8) om w;rw[show((s+11*k+3:Nat):Int)=(s:Int)+11*(k:Int)+1+1+1 by omega]at l;rw[show((s+11*k+8:Nat):Int)=(s:Int)+11*(k:Int)+1+1+1+1+1+1+1+1 by omega]at m;have v:=O hb;have t:=O c;go_wp2_with fail;refine(z (O l) _).mono ?_;rintro e w1 ⟨rfl,o⟩;have a:=(((t.set (k*11)<|J<|(s:Int)+11*(k:Int)).set (k*11+1)<|J<|(s:Int)+11*(k:Int)+1).set (k*11+2)<|F9<|floatOfInt .f64<|(s:Int)+11*(k:Int)+1+1).of_block<|o.block b (by simpa using u);have d3:=a.cell (i:=k*11+3) om;have e3:=a.frozen<|k*11+3;have d4:=a.cell (i:=k*11+4) om;have F:=a.frozen<|k*11+4;have d5:=a.cell (i:=k*11+5) om;have H:=a.frozen<|k*11+5;have d6:=a.cell (i:=k*11+6) om;have I:=a.frozen<|k*11+6;have d7:=a.cell (i:=k*11+7) om;have K:=a.frozen<|k*11+7;have d8:=a.cell (i:=k*11+8) om;have C:=a.frozen<|k*11+8;have d9:=a.cell (i:=k*11+9) om;have D:=a.frozen<|k*11+9;have d10:=a.cell (i:=k*11+10) om;have h:=a.frozen<|k*11+10;go_wp2_with fail;refine(z (O m) _).mono ?_;rintro e w2 ⟨rfl,p⟩;have f:=(((((a.set (k*11+3)<|.string<|mark<|s+11*k+3).set (k*11+4)<|J<|(s:Int)+11*(k:Int)+1+1+1+1).set (k*11+5)<|J<|(s:Int)+11*(k:Int)+1+1+1+1+1).set (k*11+6)<|J<|(s:Int)+11*(k:Int)+1+1+1+1+1+1).set (k*11+7)<|F9<|floatOfInt .f64<|(s:Int)+11*(k:Int)+1+1+1+1+1+1+1).of_block<|p.block b (by simpa using a.lt);have x:=((((((z<|(((v.trans<|Bt.set b (k*11) _<|J<|(s:Int)+11*(k:Int)).trans<|Bt.set b (k*11+1) _<|J<|(s:Int)+11*(k:Int)+1).trans<|Bt.set b (k*11+2) _<|F9<|floatOfInt .f64<|(s:Int)+11*(k:Int)+1+1).trans<|Bt.of o).trans<|Bt.set b (k*11+3) _<|.string<|mark<|s+11*k+3).trans<|Bt.set b (k*11+4) _<|J<|(s:Int)+11*(k:Int)+1+1+1+1).trans<|Bt.set b (k*11+5) _<|J<|(s:Int)+11*(k:Int)+1+1+1+1+1).trans<|Bt.set b (k*11+6) _<|J<|(s:Int)+11*(k:Int)+1+1+1+1+1+1).trans<|Bt.set b (k*11+7) _<|F9<|floatOfInt .f64<|(s:Int)+11*(k:Int)+1+1+1+1+1+1+1).trans<|Bt.of p;have d8:=f.cell (i:=k*11+8) om;have C:=f.frozen<|k*11+8;have d9:=f.cell (i:=k*11+9) om;have D:=f.frozen<|k*11+9;have d10:=f.cell (i:=k*11+10) om;have h:=f.frozen<|k*11+10;go_wp2;go_roundw
  .refine⟨k+1,_,om,ov,ov,((x.trans<|Bt.set b (k*11+8) _<|.string<|mark<|s+11*k+8).trans<|Bt.set b (k*11+9) _<|J<|(s:Int)+11*(k:Int)+1+1+1+1+1+1+1+1+1).trans<|Bt.set b (k*11+10) _<|J<|(s:Int)+11*(k:Int)+1+1+1+1+1+1+1+1+1+1,((f.set (k*11+8)<|.string<|mark<|s+11*k+8).set (k*11+9)<|J<|(s:Int)+11*(k:Int)+1+1+1+1+1+1+1+1+1).set (k*11+10)<|J<|(s:Int)+11*(k:Int)+1+1+1+1+1+1+1+1+1+1,λj hj=>?_⟩;by_cases A:j<k*11
   .have d:∀i,i<11->j≠k*11+i:=λi _=>om;simp only[show j≠k*11 by omega,d 1 om,d 2 om,d 3 om,d 4 om,d 5 om,d 6 om,d 7 om,d 8 om,d 9 om,d 10 om,XN];exact z (O B) j A
   obtain⟨i,hi,rfl⟩:∃i,i<11/\j=k*11+i:=⟨j-k*11,om,om⟩;rw[UH _ k i hi];rcases(by omega:i=0\/i=1\/i=2\/i=3\/i=4\/i=5\/i=6\/i=7\/i=8\/i=9\/i=10)with rfl|rfl|rfl|rfl|rfl|rfl|rfl|rfl|rfl|rfl|rfl<;>simp[Dl,lY]
  exact ow
 have r:k=n:=om;subst r;have v:=O hb;have t:=O<|ql c B;go_wp2;go_ret;exact⟨⟨rfl,_,t.1,t.2⟩,v⟩
def Qs b n cap s w(hl:b<w.heap.size)(hA:∀i,i<n->ED w b (i*11) (lY s i))(hn:n<=2000000000)(hs:s<=100000000000000):
  C9 116 #[S9 b n cap,J s] w (R9 (J<|(s:Int)+11*(n:Int)) w):=by
 have t:=O hA;go_enter func116,ntmps116;go_wp2;go_loopw [1,5] (λq i wr=>∃(k:Nat),k<=n/\i=J k/\q=J ((s:Int)+11*(k:Int))/\B9 w wr) λ_ i _=>n-(intOf i).toNat
 .exact⟨0,om,rfl,oq,BE _ _⟩
 obtain⟨k,hk,rfl,rfl,hb⟩:=hrel;have c:=A0 hl hb.size;by_cases o:k<n
 .have hc:=(t k o).keep λq=>hb.cell hl;have d0:wr.cell? (G b<|k*11)=some (J<|(s:Int)+11*(k:Int)):=hc.k0;have d1:wr.cell? (G b<|k*11+1)=some (J<|(s:Int)+11*(k:Int)+1):=hc.k1;have d2:wr.cell? (G b<|k*11+2)=some (F9<|floatOfInt .f64<|(s:Int)+11*(k:Int)+1+1):=hc.k2;have d3:wr.cell? (G b<|k*11+3)=some (.string<|mark<|s+11*k+3):=hc.k3;have d4:wr.cell? (G b<|k*11+4)=some (J<|(s:Int)+11*(k:Int)+1+1+1+1):=hc.k4;have d5:wr.cell? (G b<|k*11+5)=some (J<|(s:Int)+11*(k:Int)+1+1+1+1+1):=hc.v0;have d6:wr.cell? (G b<|k*11+6)=some (J<|(s:Int)+11*(k:Int)+1+1+1+1+1+1):=hc.v1;have d7:wr.cell? (G b<|k*11+7)=some (F9<|floatOfInt .f64<|(s:Int)+11*(k:Int)+1+1+1+1+1+1+1):=hc.v2;have d8:wr.cell? (G b<|k*11+8)=some (.string<|mark<|s+11*k+8):=hc.v3;have d9:wr.cell? (G b<|k*11+9)=some (J<|(s:Int)+11*(k:Int)+1+1+1+1+1+1+1+1+1):=hc.v4;have d10:wr.cell? (G b<|k*11+10)=some (J<|(s:Int)+11*(k:Int)+1+1+1+1+1+1+1+1+1+1):=hc.tn;have g2:=cE ((s:Int)+11*(k:Int)+1+1) om om;have g7:=cE ((s:Int)+11*(k:Int)+1+1+1+1+1+1+1) om om;have f:∀w:World,_:=λw=>BF (s+11*k+3) om w;have g:∀w:World,_:=λw=>BF (s+11*k+8) om w;rw[show((s+11*k+3:Nat):Int)=(s:Int)+11*(k:Int)+1+1+1 by omega]at f;rw[show((s+11*k+8:Nat):Int)=(s:Int)+11*(k:Int)+1+1+1+1+1+1+1+1 by omega]at g;rcases O f,O g,O hb with⟨u,v,m⟩;go_wp2;refine qr wr ?_;(iterate 7 refine N (h:=?_));refine GC λK hK=>?_;go_simp;refine⟨_,λw' d=>qk d<|u _,hK _ ?_⟩;clear hK K;refine N (h:=?_);refine GS ?_;intro w2 a;rcases o8 m a,A0 c a.size,(a.cell c).trans d4,(a.cell c).trans d5,(a.cell c).trans d6,(a.cell c).trans d7,(a.cell c).trans d8,(a.cell c).trans d9,(a.cell c).trans d10 with⟨j,l,c4,c5,c6,c7,A,x,p⟩;go_wp2;refine qr w2 ?_;(iterate 7 refine N (h:=?_));refine GC λK hK=>?_;go_simp;refine⟨_,λw' d=>qk d<|v _,hK _ ?_⟩;clear hK K;refine N (h:=?_);refine GS ?_;intro w3 e;rcases o8 j e,(e.cell l).trans x,(e.cell l).trans p with⟨r,d9,d10⟩;go_wp2;go_roundw
  .exact⟨k+1,om,ov,ov,r⟩
  exact ow
 have:k=n:=om;subst this;have m:=O hb;go_wp2;go_ret;exact⟨rfl,m⟩
def FR{s Z}{g}(h:w.rowIs s t Z g)(hb:s≠b):(w.setCell (G b q) v).rowIs s t Z g:=GW h<|At _ _ _ _<|by exact hb
structure qK (B:Nat) (w:Y) (a s1 s2:Nat) (d:Dc):Prop where
 b0:B<=a
 b1:B<=s1
 b2:B<=s2
 sY:a≠s1
 rI:a≠s2
 sZ:s1≠s2
 r0:∃g,w.rowIs a 166 (d.n*11) g
 r1:∃g,w.rowIs s1 3 d.m g
 r2:∃g,w.rowIs s2 3 d.x g
def qK.lt{B}{a s1 s2}(h:qK B w a s1 s2 d):a<w.heap.size/\s1<w.heap.size/\s2<w.heap.size:=by
 rcases h.r0,h.r1,h.r2 with⟨⟨_,r0⟩,⟨_,r1⟩,⟨_,r2⟩⟩;exact⟨H8 r0,H8 r1,H8 r2⟩
def Vi cap{f}{w}(hA:JY w a n f)(hn:n<=4194304):
  C9 131 #[.slice a n cap] w λe w'=>(e=.returned (S9 w.heap.size n n)/\JY w' (some<|G w.heap.size 0) n f/\∃g,w'.rowIs w.heap.size 166 (n*11) g)/\B9 w w':=by
 have A:=Wu n hn;have B:=O<|Wr w<|n*11;go_enter func131,ntmps131;go_wp2;go_loopw [4] (λi wr=>∃(k:Nat),k<=n/\i=J k/\B9 w wr/\(∃g,wr.rowIs w.heap.size 166 (n*11) g)/\∀j,j<k->ED wr w.heap.size (j*11) (f j)) λi _=>n-(intOf i).toNat
 .exact⟨0,om,rfl,n9,B,λj hj=>om⟩
 obtain⟨k,hk,rfl,hb,⟨g,d⟩,h⟩:=hrel;by_cases s:k<n
 .obtain⟨b,off,rfl,t,hcs⟩:=hA.resolve_left om;rcases (hcs k s).keep (λq=>hb.cell t),H8 d,O hb,O h with⟨⟨e0,e1,e2,e3,E,F,H,I,K,L,C⟩,m,x,p⟩;go_wp2_with fail;refine m9 (Xi (f k) _) λw1 l=>?_;have c:=GW d<|l.block _ m;have d0:=c.cell (i:=k*11) om;have f0:=c.frozen<|k*11;have d1:=c.cell (i:=k*11+1) om;have f1:=c.frozen<|k*11+1;have d2:=c.cell (i:=k*11+2) om;have f2:=c.frozen<|k*11+2;have d3:=c.cell (i:=k*11+3) om;have f3:=c.frozen<|k*11+3;have d4:=c.cell (i:=k*11+4) om;have f4:=c.frozen<|k*11+4;have d5:=c.cell (i:=k*11+5) om;have f5:=c.frozen<|k*11+5;have d6:=c.cell (i:=k*11+6) om;have f6:=c.frozen<|k*11+6;have d7:=c.cell (i:=k*11+7) om;have f7:=c.frozen<|k*11+7;have d8:=c.cell (i:=k*11+8) om;have f8:=c.frozen<|k*11+8;have d9:=c.cell (i:=k*11+9) om;have f9:=c.frozen<|k*11+9;have d10:=c.cell (i:=k*11+10) om;have f10:=c.frozen<|k*11+10;obtain⟨u,v⟩:=ZK c (o:=k*11) om<|f k;have D:Hid<|∀j,j<k->ED w1 w.heap.size (j*11) (f j):=O λj hj=>(p j hj).EN λq _=>As<|l.block _ m;go_wp2_with fail;go_roundw
  .refine⟨k+1,om,ov,?_,z<|O u,λj hj=>?_⟩
   .repeat(refine NO ?_ (by exact Be _) _)
    exact z<|o8 x l
   by_cases e:j=k
   .subst e;exact v
   exact(D j om).EN λq hq=>UY (f k) om
  exact ow
 have r:k=n:=om;subst r;go_wp2_with fail;go_ret;exact⟨⟨rfl,.inr ⟨_,0,rfl,H8 d,λi hi=>by rw[VC];exact z (O h) i hi⟩,_,d⟩,z<|O hb⟩
def P5 cap{f}{w}(hA:JX w a n f)(hn:n<=4194304):
  C9 132 #[.slice a n cap] w λe w'=>(e=.returned (S9 w.heap.size n n)/\JX w' (some<|G w.heap.size 0) n f/\∃g,w'.rowIs w.heap.size 3 n g)/\B9 w w':=by
 rcases JN n hn,O<|Iq w n,O hA with⟨p,s,u⟩;clear hA;go_enter func132,ntmps132;go_wp2;clear p;go_loopw [4] (λi wr=>∃(k:Nat) (g:Nat->Value),k<=n/\i=J k/\B9 w wr/\wr.rowIs w.heap.size 3 n g/\∀j,j<k->g j=J (f j)) λi _=>n-(intOf i).toNat
 .exact⟨0,_,om,rfl,n9,s,λj hj=>om⟩
 clear s;obtain⟨k,g,hk,rfl,hb,c,d⟩:=hrel;by_cases l:k<n
 .obtain⟨b,off,rfl,q,hcs⟩:=u.resolve_left om;rcases (hb.cell q).trans (hcs k l),H8 c,c.cell l,c.frozen k with⟨e0,m,d0,f0⟩;have t:Hid ((wr.setCell (y w k)<|J<|f k).rowIs w.heap.size 3 n (λi=>if i=k then J (f k)else g i)/\∀j,j<k+1->(λi=>if i=k then J (f k)else g i) j=J (f j)):=O ⟨c.set k _,λj hj=>by
   by_cases e:j=k
   .subst e;simp
   simp only[e,XN];exact d j om⟩
  have r:=O hb;clear hcs hb c d;go_wp2_with fail;go_roundw
  .exact⟨k+1,_,om,ov,r.setCell (by exact Be _) _,t.1,t.2⟩
  exact ow
 have o:k=n:=om;subst o;rcases O (⟨c,d⟩:wr.rowIs w.heap.size 3 k g/\∀j,j<k->g j=J (f j)),O hb,H8 c with⟨h,r,m⟩;clear d hb c;go_wp2_with fail;go_ret;exact⟨⟨rfl,.inr ⟨_,0,rfl,m,λi hi=>by rw[VC,(z h).1.cell hi,(z h).2 i hi]⟩,_,h.1⟩,r⟩
def Xh lc{ia:Option Addr}ic{xa:Option Addr}xc{d}{w}(hD:Ei w la ia xa d)(q:Small d):
  C9 98 #[Dv la lc ia ic xa xc d] w λe w'=>(∃r s1 s2,e=.returned (Dv (some<|G r 0) d.n (some<|G s1 0) d.m (some<|G s2 0) d.x d)/\Ei w' (some<|G r 0) (some<|G s1 0) (some<|G s2 0) d/\qK w.heap.size w' r s1 s2 d)/\B9 w w':=by
 have k:B9 w<|((w.alloc<|.cells #[.slice la d.n lc,.slice ia d.m ic,.slice xa d.x xc,J d.used,J d.live,J d.turns] 93).alloc<|.cells #[N9,N9,N9,J 0,J 0,J 0] 103).alloc<|.cells #[N9,N9,N9,J 0,J 0,J 0] 103:=((n9).alloc oq _).alloc ot _;go_enter func98,ntmps98;go_wp2_with fail;refine(Vi lc (hD.below k).log q.n).mono ?_;rintro e w1 ⟨⟨rfl,I,b⟩,l⟩;obtain⟨s,M⟩:=AO l;have t:=l.size;simp at t I b;obtain⟨g0,b⟩:=b;have X:w.heap.size<w1.heap.size:=om;have P:w.heap.size+1<w1.heap.size:=om;have Z:w.heap.size+1+1<w1.heap.size:=om;have f:Hid<|∀v,B9 w<|w1.setCell (Z9 w 0) v:=O λv=>(z<|o8 k l).setCell oy _;go_wp2_with fail;refine(P5 ic (hD.below<|f _).ints q.m).mono ?_;rintro e w2 ⟨⟨rfl,K,c⟩,g⟩;obtain⟨u,Q⟩:=AO g;have A:=g.size;simp at A K c;obtain⟨R,c⟩:=c;have z0:w.heap.size<w2.heap.size:=om;have S:w.heap.size+1<w2.heap.size:=om;have z2:w.heap.size+1+1<w2.heap.size:=om;have B:=JY.below (JY.setOther I<|show w.heap.size+1+1+1≠w.heap.size+1+1 by omega) g rfl;have j:=GW (FR b<|show w.heap.size+1+1+1≠w.heap.size+1+1 by omega)<|g.block _ (by have:=H8 b;simpa using this);have h:Hid<|∀v,B9 w<|w2.setCell (Z9 w 1) v:=O λv=>(z<|o8 (f _) g).setCell oy _;go_wp2_with fail;refine(P5 xc (hD.below<|h _).index q.x).mono ?_;rintro e w3 ⟨⟨rfl,L,i⟩,a⟩;obtain⟨C,T⟩:=AO a;have D:=a.size;simp at D L i;obtain⟨U,i⟩:=i;have x0:w.heap.size<w3.heap.size:=om;have E:=o8 (h _) a;have F:=JY.below (JY.setOther B<|show w.heap.size+1+1+1≠w.heap.size+1+1 by omega) a rfl;have H:=JX.below (JX.setOther K<|show w1.heap.size≠w.heap.size+1+1 by omega) a rfl;have o:=GW (FR j<|show w.heap.size+1+1+1≠w.heap.size+1+1 by omega)<|a.block _ (by have:=H8 j;simpa using this);rcases GW (FR c<|show w1.heap.size≠w.heap.size+1+1 by omega) (a.block _<|by have:=H8 c;simpa using this),H8 b,H8 c with⟨p,V,W⟩;have g1:w1.heap.size≠w.heap.size+1+1:=om;have g2:w1.heap.size≠w.heap.size+1:=om;have g3:w2.heap.size≠w.heap.size+1+1:=om;have g4:w2.heap.size≠w.heap.size+1:=om;go_wp2;refine GO (v:=Dv (some<|G (w.heap.size+1+1+1) 0) d.n (some<|G w1.heap.size 0) d.m (some<|G w2.heap.size 0) d.x d) (by simp[results,results98,go_sem,s,u,C,P,S]) rfl ⟨⟨_,_,_,rfl,⟨?_,?_,?_⟩,⟨om,om,om,om,om,om,⟨g0,?_⟩,⟨R,?_⟩,⟨U,?_⟩⟩⟩,?_⟩
 .repeat(refine JY.setOther ?_ om)
  exact F
 .repeat(refine JX.setOther ?_ om)
  exact H
 .repeat(refine JX.setOther ?_ om)
  exact L
 .repeat(refine FR ?_ om)
  exact o
 .repeat(refine FR ?_ om)
  exact p
 .repeat(refine FR ?_ om)
  exact i
 repeat(refine NO ?_ (by first|(show w.heap.size<=w.heap.size+1;omega)|(show w.heap.size<=w.heap.size+1+1;omega)) _)
 exact E
def KR(f:Nat->Pr)(n:Nat)(w:Y)(v:V9)(lo hi:Nat):Prop:=
 (n=0/\v=N9)\/∃b a Z g,v=S9 b n a/\lo<=b/\b<hi/\w.rowIs b 166 Z g/\n*11<=Z/\∀j,j<n*11->g j=Rt f j
def KR.keep{f}(h:KR f n w v lo hi)(hk:∀b,lo<=b->b<hi->w'.heap[b]?=w.heap[b]?):KR f n w' v lo hi:=by
 rcases h with h|⟨b,a,Z,g,h1,h2,h3,h4,h5,c⟩
 .exact .inl h
 exact .inr ⟨b,a,Z,g,h1,h2,h3,GW h4<|hk b h2 h3,h5,c⟩
def KR.of{f}{B}(h:BT w B v n f):KR f n w v B w.heap.size:=by
 have b:=h.lt;obtain⟨hl,⟨c,d⟩|⟨g',cap,cur,c,hb,a,h1,h2,h3,h4⟩⟩:=h
 .exact .inl ⟨d,c⟩
 subst c;refine .inr ⟨g',cap,cap*11,λj=>(cur[j]?).getD undef,rfl,hb,(b g' rfl).2,⟨cur,a,h3,λi hi=>by simp[We (show i<cur.size by omega)]⟩,om,λj hj=>?_⟩;have h5:=Mj (f:=f) (n:=n) (i:=j/11) (j:=j%11) om om;rw[show j/11*11+j%11=j by omega,<-h4,List.getElem?_take,C3 hj,Array.getElem?_toList]at h5;show(cur[j]?).getD undef=_;rw[h5];rfl
theorem KR.at{f}(h:KR f n w v lo hi):∃a c,v=.slice a n c/\JY w a n f:=by
 rcases h with⟨d,rfl⟩|⟨b,c,Z,g,h1,h2,h3,h4,h5,e⟩
 .subst d;exact⟨_,_,rfl,.inl rfl⟩
 exact⟨_,_,h1,.inr ⟨b,0,rfl,H8 h4,λi hi=>by rw[VC];exact dV h4 h5 e hi⟩⟩
def U0(p:Vl)(h:q<o\/o+5<=q):(((((w.setCell (G b o)<|J p.kind).setCell (G b<|o+1)<|J p.num).setCell (G b<|o+2)<|F9 p.Af).setCell (G b<|o+3)<|.string p.str).setCell (G b<|o+4)<|J p.ref).cell? (G b q)=w.cell? (G b q):=by
 grind [Aa]
def ZM{Z}{g}p(h:w.rowIs b ty Z g)(c:o+5<=Z):(∃g',(((((w.setCell (G b o)<|J p.kind).setCell (G b<|o+1)<|J p.num).setCell (G b<|o+2)<|F9 p.Af).setCell (G b<|o+3)<|.string p.str).setCell (G b<|o+4)<|J p.ref).rowIs b ty Z g')/\EZ (((((w.setCell (G b o)<|J p.kind).setCell (G b<|o+1)<|J p.num).setCell (G b<|o+2)<|F9 p.Af).setCell (G b<|o+3)<|.string p.str).setCell (G b<|o+4)<|J p.ref) b o p:=by
 have a:=((((h.set o<|J p.kind).set (o+1)<|J p.num).set (o+2)<|F9 p.Af).set (o+3)<|.string p.str).set (o+4)<|J p.ref;refine⟨⟨_,a⟩,?_⟩;constructor;all_goals(rw[a.cell om];simp)
def UZ(p:Si)(h:q<o\/o+5<=q):(((((w.setCell (G b o)<|.string p.key).setCell (G b<|o+1)<|J p.shape).setCell (G b<|o+2)<|J p.place).setCell (G b<|o+3)<|J p.Ce).setCell (G b<|o+4)<|J p.AD).cell? (G b q)=w.cell? (G b q):=by
 grind [Aa]
def ZL{Z}{g}p(h:w.rowIs b ty Z g)(c:o+5<=Z):(∃g',(((((w.setCell (G b o)<|.string p.key).setCell (G b<|o+1)<|J p.shape).setCell (G b<|o+2)<|J p.place).setCell (G b<|o+3)<|J p.Ce).setCell (G b<|o+4)<|J p.AD).rowIs b ty Z g')/\VI (((((w.setCell (G b o)<|.string p.key).setCell (G b<|o+1)<|J p.shape).setCell (G b<|o+2)<|J p.place).setCell (G b<|o+3)<|J p.Ce).setCell (G b<|o+4)<|J p.AD) b o p:=by
 have a:=((((h.set o<|.string p.key).set (o+1)<|J p.shape).set (o+2)<|J p.place).set (o+3)<|J p.Ce).set (o+4)<|J p.AD;refine⟨⟨_,a⟩,?_⟩;constructor;all_goals(rw[a.cell om];simp)
def U1 va vc la lc ia ic xa xc(t:Tb)(h:q<o\/o+8<=q):((((((((w.setCell (G b o)<|J t.shape).setCell (G b<|o+1)<|.slice va t.nv vc).setCell (G b<|o+2)<|.slice la t.d.n lc).setCell (G b<|o+3)<|.slice ia t.d.m ic).setCell (G b<|o+4)<|.slice xa t.d.x xc).setCell (G b<|o+5)<|J t.d.used).setCell (G b<|o+6)<|J t.d.live).setCell (G b<|o+7)<|J t.d.turns).cell? (G b q)=w.cell? (G b q):=by
 grind [Aa]
def Gz{b'}va vc la lc ia ic xa xc(t:Tb)(h:b'≠b):((((((((w.setCell (G b o)<|J t.shape).setCell (G b<|o+1)<|.slice va t.nv vc).setCell (G b<|o+2)<|.slice la t.d.n lc).setCell (G b<|o+3)<|.slice ia t.d.m ic).setCell (G b<|o+4)<|.slice xa t.d.x xc).setCell (G b<|o+5)<|J t.d.used).setCell (G b<|o+6)<|J t.d.live).setCell (G b<|o+7)<|J t.d.turns).heap[b']?=w.heap[b']?:=by
 exact(At _ _ _ _<|by exact h).trans ((At _ _ _ _<|by exact h).trans<|(At _ _ _ _<|by exact h).trans<|(At _ _ _ _<|by exact h).trans<|(At _ _ _ _<|by exact h).trans<|(At _ _ _ _<|by exact h).trans<|(At _ _ _ _<|by exact h).trans<|At _ _ _ _<|by exact h)
def ZN{Z}{g}va vc la lc ia ic xa xc t(h:w.rowIs b ty Z g)(c:o+8<=Z):(∃g',((((((((w.setCell (G b o)<|J t.shape).setCell (G b<|o+1)<|.slice va t.nv vc).setCell (G b<|o+2)<|.slice la t.d.n lc).setCell (G b<|o+3)<|.slice ia t.d.m ic).setCell (G b<|o+4)<|.slice xa t.d.x xc).setCell (G b<|o+5)<|J t.d.used).setCell (G b<|o+6)<|J t.d.live).setCell (G b<|o+7)<|J t.d.turns).rowIs b ty Z g')/\I3 ((((((((w.setCell (G b o)<|J t.shape).setCell (G b<|o+1)<|.slice va t.nv vc).setCell (G b<|o+2)<|.slice la t.d.n lc).setCell (G b<|o+3)<|.slice ia t.d.m ic).setCell (G b<|o+4)<|.slice xa t.d.x xc).setCell (G b<|o+5)<|J t.d.used).setCell (G b<|o+6)<|J t.d.live).setCell (G b<|o+7)<|J t.d.turns) b o va vc la lc ia ic xa xc t:=by
 have a:=(((((((h.set o<|J t.shape).set (o+1)<|.slice va t.nv vc).set (o+2)<|.slice la t.d.n lc).set (o+3)<|.slice ia t.d.m ic).set (o+4)<|.slice xa t.d.x xc).set (o+5)<|J t.d.used).set (o+6)<|J t.d.live).set (o+7)<|J t.d.turns;refine⟨⟨_,a⟩,?_⟩;constructor;all_goals(rw[a.cell om];simp)
def FZ:(prog.info? 43).map (λi=>(i.zero,i.size,i.bytes))=some (some<|V 0 0 0 ⟨#[]⟩ 0,5,48):=ou
def Wt(n:Nat)(hn:n<=1048576)w:
  (Instr.makeSlice 100 (J n)<|J n).run prog w=.ok (S9 w.heap.size n n) (w.alloc<|.cells (madeCells ((V 0 0 0 ⟨#[]⟩ 0):V9).cells<|n*5) 43):=by
 obtain⟨i,hi,hz,hs,hb⟩:=ON FZ;have:=run_make (P:=prog) w 100 43 i _ underlying100 hi hz .i64 .i64 n n om (AaE _) (by rw[hb];omega) om;simp only[Ok,hs]at this;exact this
def Wq(w:Y)m:∃g,(w.alloc<|.cells (madeCells ((V 0 0 0 ⟨#[]⟩ 0):V9).cells m) 43).rowIs w.heap.size 43 m g:=by
 have h:=Aal w (madeCells ((V 0 0 0 ⟨#[]⟩ 0):V9).cells m) 43 (λi=>((madeCells ((V 0 0 0 ⟨#[]⟩ 0):V9).cells m)[i]?).getD undef) (λi hi=>by rw[We hi];rfl);rw[AaQ]at h;exact⟨_,h⟩
def Hm:(prog.info? 107).map (λi=>(i.zero,i.size,i.bytes))=some (some<|.agg #[E9,J 0,J 0,J 0,J 0],5,48):=ou
def Zo(n:Nat)(hn:n<=1048576)w:
  (Instr.makeSlice 40 (J n)<|J n).run prog w=.ok (S9 w.heap.size n n) (w.alloc<|.cells (madeCells ((.agg #[E9,J 0,J 0,J 0,J 0]):V9).cells<|n*5) 107):=by
 obtain⟨i,hi,hz,hs,hb⟩:=ON Hm;have:=run_make (P:=prog) w 40 107 i _ underlying40 hi hz .i64 .i64 n n om (AaE _) (by rw[hb];omega) om;simp only[Ok,hs]at this;exact this
def Zn(w:Y)m:∃g,(w.alloc<|.cells (madeCells ((.agg #[E9,J 0,J 0,J 0,J 0]):V9).cells m) 107).rowIs w.heap.size 107 m g:=by
 have h:=Aal w (madeCells ((.agg #[E9,J 0,J 0,J 0,J 0]):V9).cells m) 107 (λi=>((madeCells ((.agg #[E9,J 0,J 0,J 0,J 0]):V9).cells m)[i]?).getD undef) (λi hi=>by rw[We hi];rfl);rw[AaQ]at h;exact⟨_,h⟩
def JJ:(prog.info? 105).map (λi=>(i.zero,i.size,i.bytes))=some (some<|.agg #[J 0,N9,N9,N9,N9,J 0,J 0,J 0],8,128):=ou
def Ws(n:Nat)(hn:n<=1048576)w:
  (Instr.makeSlice 39 (J n)<|J n).run prog w=.ok (S9 w.heap.size n n) (w.alloc<|.cells (madeCells ((.agg #[J 0,N9,N9,N9,N9,J 0,J 0,J 0]):V9).cells<|n*8) 105):=by
 obtain⟨i,hi,hz,hs,hb⟩:=ON JJ;have:=run_make (P:=prog) w 39 105 i _ underlying39 hi hz .i64 .i64 n n om (AaE _) (by rw[hb];omega) om;simp only[Ok,hs]at this;exact this
def Wp(w:Y)m:∃g,(w.alloc<|.cells (madeCells ((.agg #[J 0,N9,N9,N9,N9,J 0,J 0,J 0]):V9).cells m) 105).rowIs w.heap.size 105 m g:=by
 have h:=Aal w (madeCells ((.agg #[J 0,N9,N9,N9,N9,J 0,J 0,J 0]):V9).cells m) 105 (λi=>((madeCells ((.agg #[J 0,N9,N9,N9,N9,J 0,J 0,J 0]):V9).cells m)[i]?).getD undef) (λi hi=>by rw[We hi];rfl);rw[AaQ]at h;exact⟨_,h⟩
def Nj(w:Y)(b n:Nat)(f:Nat->Vl):Prop:=(∃g,w.rowIs b 43 (n*5) g)/\∀i,i<n->EZ w b (i*5) (f i)
def RS(w:Y)(b n:Nat)(f:Nat->Si):Prop:=(∃g,w.rowIs b 107 (n*5) g)/\∀i,i<n->VI w b (i*5) (f i)
def Nj.of_block{f}(h:Nj w b n f)(e:w'.heap[b]?=w.heap[b]?):Nj w' b n f:=
 ⟨h.1.imp λg r=>GW r e,λi hi=>(h.2 i hi).keep λq=>As e⟩
def RS.of_block{f}(h:RS w b n f)(e:w'.heap[b]?=w.heap[b]?):RS w' b n f:=
 ⟨h.1.imp λg r=>GW r e,λi hi=>(h.2 i hi).keep λq=>As e⟩
def Nj.lt{f}(h:Nj w b n f):b<w.heap.size:=by obtain⟨⟨g,r⟩,_⟩:=h;exact H8 r
def RS.lt{f}(h:RS w b n f):b<w.heap.size:=by obtain⟨⟨g,r⟩,_⟩:=h;exact H8 r
theorem Nj.at{f}(h:Nj w b n f):Fq w (some<|G b 0) n f:=.inr ⟨b,0,rfl,h.lt,λi hi=>by rw[VC];exact h.2 i hi⟩
theorem RS.at{f}(h:RS w b n f):FM w (some<|G b 0) n f:=.inr ⟨b,0,rfl,h.lt,λi hi=>by rw[VC];exact h.2 i hi⟩
def Tc cap{f}{w}(hA:Fq w a n f)(hn:n<=1048576):
  C9 97 #[.slice a n cap] w λe w'=>(e=.returned (S9 w.heap.size n n)/\Nj w' w.heap.size n f)/\B9 w w':=by
 have A:=Wt n hn;have B:=O<|Wq w<|n*5;go_enter func97,ntmps97;go_wp2;go_loopw [4] (λi wr=>∃(k:Nat),k<=n/\i=J k/\B9 w wr/\(∃g,wr.rowIs w.heap.size 43 (n*5) g)/\∀j,j<k->EZ wr w.heap.size (j*5) (f j)) λi _=>n-(intOf i).toNat
 .exact⟨0,om,rfl,n9,B,λj hj=>om⟩
 obtain⟨k,hk,rfl,hb,⟨g,d⟩,h⟩:=hrel;by_cases s:k<n
 .obtain⟨b,off,rfl,t,hcs⟩:=hA.resolve_left om;rcases (hcs k s).keep (λq=>hb.cell t),H8 d,O hb,O d,O h with⟨⟨e0,e1,e2,e3,E⟩,m,x,C,p⟩;go_wp2_with fail;refine m9 (FC (f k).kind (f k).num (f k).Af (f k).str (f k).ref _) λw1 l=>?_;have c:=GW C<|l.block _ m;have d0:=c.cell (i:=k*5) om;have f0:=c.frozen<|k*5;have d1:=c.cell (i:=k*5+1) om;have f1:=c.frozen<|k*5+1;have d2:=c.cell (i:=k*5+2) om;have f2:=c.frozen<|k*5+2;have d3:=c.cell (i:=k*5+3) om;have f3:=c.frozen<|k*5+3;have d4:=c.cell (i:=k*5+4) om;have f4:=c.frozen<|k*5+4;obtain⟨u,v⟩:=ZM (f k) c (o:=k*5) om;have D:Hid<|∀j,j<k->EZ w1 w.heap.size (j*5) (f j):=O λj hj=>(p j hj).EN λq _=>As<|l.block _ m;go_wp2_with fail;go_roundw
  .refine⟨k+1,om,ov,?_,z<|O u,λj hj=>?_⟩
   .repeat(refine NO ?_ (by exact Be _) _)
    exact z<|o8 x l
   by_cases e:j=k
   .subst e;exact v
   exact(D j om).EN λq hq=>U0 (f k) om
  exact ow
 have r:k=n:=om;subst r;go_wp2_with fail;go_ret;exact⟨⟨rfl,⟨_,z<|O d⟩,z<|O h⟩,z<|O hb⟩
def Xj s w:
  C9 56 #[SV s] w (R9 (SV s) w):=by
 go_enter func56,ntmps56;go_wp2;exact GO (v:=SV s) (by simp[results,results56,go_sem]) rfl ⟨rfl,((n9).alloc oq _).alloc ot _⟩
def Vk cap{f}{w}(hA:FM w a n f)(hn:n<=1048576):
  C9 24 #[.slice a n cap] w λe w'=>(e=.returned (S9 w.heap.size n n)/\RS w' w.heap.size n f)/\B9 w w':=by
 have A:=Zo n hn;have B:=O<|Zn w<|n*5;go_enter func24,ntmps24;go_wp2;go_loopw [4] (λi wr=>∃(k:Nat),k<=n/\i=J k/\B9 w wr/\(∃g,wr.rowIs w.heap.size 107 (n*5) g)/\∀j,j<k->VI wr w.heap.size (j*5) (f j)) λi _=>n-(intOf i).toNat
 .exact⟨0,om,rfl,n9,B,λj hj=>om⟩
 obtain⟨k,hk,rfl,hb,⟨g,d⟩,h⟩:=hrel;by_cases s:k<n
 .obtain⟨b,off,rfl,t,hcs⟩:=hA.resolve_left om;rcases (hcs k s).keep (λq=>hb.cell t),H8 d,O hb,O d,O h with⟨⟨e0,e1,e2,e3,E⟩,m,x,C,p⟩;go_wp2_with fail;refine m9 (Xj (f k) _) λw1 l=>?_;have c:=GW C<|l.block _ m;have d0:=c.cell (i:=k*5) om;have f0:=c.frozen<|k*5;have d1:=c.cell (i:=k*5+1) om;have f1:=c.frozen<|k*5+1;have d2:=c.cell (i:=k*5+2) om;have f2:=c.frozen<|k*5+2;have d3:=c.cell (i:=k*5+3) om;have f3:=c.frozen<|k*5+3;have d4:=c.cell (i:=k*5+4) om;have f4:=c.frozen<|k*5+4;obtain⟨u,v⟩:=ZL (f k) c (o:=k*5) om;have D:Hid<|∀j,j<k->VI w1 w.heap.size (j*5) (f j):=O λj hj=>(p j hj).EN λq _=>As<|l.block _ m;go_wp2_with fail;go_roundw
  .refine⟨k+1,om,ov,?_,z<|O u,λj hj=>?_⟩
   .repeat(refine NO ?_ (by exact Be _) _)
    exact z<|o8 x l
   by_cases e:j=k
   .subst e;exact v
   exact(D j om).EN λq hq=>UZ (f k) om
  exact ow
 have r:k=n:=om;subst r;go_wp2_with fail;go_ret;exact⟨⟨rfl,⟨_,z<|O d⟩,z<|O h⟩,z<|O hb⟩
def JY.of_block{s}{f}(h:JY w (some<|G s 0) n f)(e:w'.heap[s]?=w.heap[s]?)(hl:s<w'.heap.size):JY w' (some<|G s 0) n f:=by
 rcases h with h|⟨b,off,e',a,hc⟩
 .exact .inl h
 cases e';exact .inr ⟨s,0,rfl,hl,λi hi=>(hc i hi).keep λq=>As e⟩
def JX.of_block{s}{f}(h:JX w (some<|G s 0) n f)(e:w'.heap[s]?=w.heap[s]?)(hl:s<w'.heap.size):JX w' (some<|G s 0) n f:=by
 rcases h with h|⟨b,off,e',a,hc⟩
 .exact .inl h
 cases e';exact .inr ⟨s,0,rfl,hl,λi hi=>(As e).trans<|hc i hi⟩
def EK(e:w'.heap[b]?=w.heap[b]?)(hl:b<w.heap.size):b<w'.heap.size:=by
 grind
def Ej(B H:Nat)(w:Y)(b o:Nat)(t:Tb):Prop:=
 ∃a c s1 s2,I3 w b o (some<|G a 0) t.nv (some<|G c 0) t.d.n (some<|G s1 0) t.d.m (some<|G s2 0) t.d.x t/\(B<=a/\a<H/\c<H/\s1<H/\s2<H)/\Nj w a t.nv t.V/\Ei w (some<|G c 0) (some<|G s1 0) (some<|G s2 0) t.d/\qK B w c s1 s2 t.d
def Ej.keep{B}{t}(h:Ej B H w b o t)(k:H<=H')(hk:∀q,B<=q->q<H->q<w.heap.size->w'.heap[q]?=w.heap[q]?)(hc:∀j,j<8->w'.cell? (G b<|o+j)=w.cell? (G b<|o+j)):Ej B H' w' b o t:=by
 obtain⟨d,e,s1,s2,h1,⟨h2,h3,h4,h5,i⟩,f,c,a⟩:=h;obtain⟨l0,l1,l2⟩:=a.lt;rcases hk e a.b0 h4 l0,hk s1 a.b1 h5 l1,hk s2 a.b2 i l2 with⟨e0,e1,e2⟩;exact⟨d,e,s1,s2,h1.EN hc,⟨h2,om,om,om,om⟩,f.of_block<|hk d h2 h3 f.lt,⟨c.log.of_block e0<|EK e0 l0,c.ints.of_block e1<|EK e1 l1,c.index.of_block e2<|EK e2 l2⟩,
  ⟨a.b0,a.b1,a.b2,a.sY,a.rI,a.sZ,a.r0.imp λg r=>GW r e0,a.r1.imp λg r=>GW r e1,a.r2.imp λg r=>GW r e2⟩⟩
theorem Ej.at{B}{t}(h:Ej B H w b o t):YE w b o t:=by
 obtain⟨d,e,s1,s2,h1,h2,a,c,f⟩:=h;exact⟨_,_,_,_,_,_,_,_,h1,a.at,c⟩
def KS(H:Nat)(w:Y)(b n:Nat)(f:Nat->Tb):Prop:=(∃g,w.rowIs b 105 (n*8) g)/\∀i,i<n->Ej (b+1) H w b (i*8) (f i)
def KS.lt{f}(h:KS H w b n f):b<w.heap.size:=by obtain⟨⟨g,r⟩,_⟩:=h;exact H8 r
def KS.below{f}(h:KS H w b n f)(hb:B9 w w')(a:H<=H'):KS H' w' b n f:=
 ⟨h.1.imp λg r=>GW r<|hb.block b h.lt,λi hi=>(h.2 i hi).keep a (λq _ _ hq=>hb.block q hq) λj _=>As<|hb.block b h.lt⟩
def KS.setOther{c}{f}(h:KS H w b n f)(hc:c<b):KS H (w.setCell (G c q) v) b n f:=
 ⟨h.1.imp λg r=>GW r<|At _ _ _ _<|by show b≠c;omega,λi hi=>(h.2 i hi).keep (Be _) (λa hq _ _=>At _ _ _ _<|by show a≠c;omega) λj _=>Ap om⟩
theorem KS.at{f}(h:KS H w b n f):RV w (some<|G b 0) n f:=.inr ⟨b,0,rfl,h.lt,λi hi=>by rw[VC];exact(h.2 i hi).at⟩
def Vm vc{la:Option Addr}lc{ia:Option Addr}ic{xa:Option Addr}xc t{w}(D:Fq w va t.nv t.V)(hD:Ei w la ia xa t.d)(hn:t.nv<=1048576)(E:Small t.d):
  C9 55 #[TV va vc la lc ia ic xa xc t] w λe w'=>(∃k j s1 s2,e=.returned (TV (some<|G k 0) t.nv (some<|G j 0) t.d.n (some<|G s1 0) t.d.m (some<|G s2 0) t.d.x t)/\w.heap.size<=k/\Nj w' k t.nv t.V/\Ei w' (some<|G j 0) (some<|G s1 0) (some<|G s2 0) t.d/\qK w.heap.size w' j s1 s2 t.d)/\B9 w w':=by
 have f:B9 w<|((w.alloc<|.cells #[J t.shape,.slice va t.nv vc,.slice la t.d.n lc,.slice ia t.d.m ic,.slice xa t.d.x xc,J t.d.used,J t.d.live,J t.d.turns] 95).alloc<|.cells #[J 0,N9,N9,N9,N9,J 0,J 0,J 0] 105).alloc<|.cells #[J t.shape,N9,N9,N9,N9,J 0,J 0,J 0] 105:=((n9).alloc oq _).alloc ot _;go_enter func55,ntmps55;go_wp2_with fail;refine(Tc vc (D.below f rfl) hn).mono ?_;rintro e w1 ⟨⟨rfl,g⟩,h⟩;obtain⟨l,F⟩:=AO h;have o:=h.size;simp at o g;have H:w.heap.size+1<w1.heap.size:=om;have K:w.heap.size+1+1<w1.heap.size:=om;have a:Hid<|∀v,B9 w<|w1.setCell (Z9 w 1) v:=O λv=>(z<|o8 f h).setCell oy _;go_wp2_with fail;refine(Xh lc ic xc (hD.below<|a _) E).mono ?_;rintro e w2 ⟨⟨j,s1,s2,rfl,i,b⟩,c⟩;obtain⟨p,I⟩:=AO c;have q:=c.size;simp at q;have z0:w.heap.size<w2.heap.size:=om;have r:=g.lt;have A:w1.heap.size<=j:=by have:=b.b0;simpa using this
 have B:w1.heap.size<=s1:=by have:=b.b1;simpa using this
 have C:w1.heap.size<=s2:=by have:=b.b2;simpa using this
 have s:=(g.of_block<|At _ _ _ _<|by show w.heap.size+1+1+1≠w.heap.size+1+1;omega).of_block<|c.block _ (by simpa using r);have u:=o8 (a _) c;go_wp2;refine GO (v:=TV (some<|G (w.heap.size+1+1+1) 0) t.nv (some<|G j 0) t.d.n (some<|G s1 0) t.d.m (some<|G s2 0) t.d.x t) (by simp[results,results55,go_sem,l,p,H]) rfl ⟨⟨_,_,_,_,rfl,om,?_,⟨?_,?_,?_⟩,?_⟩,?_⟩
 .repeat(refine Nj.of_block ?_<|At _ _ _ _<|by first|(show w.heap.size+1+1+1≠w.heap.size+1;omega)|(show w.heap.size+1+1+1≠w.heap.size+1+1;omega))
  exact s
 .repeat(refine JY.setOther ?_ om)
  exact i.log
 .repeat(refine JX.setOther ?_ om)
  exact i.ints
 .repeat(refine JX.setOther ?_ om)
  exact i.index
 .obtain⟨_,_,_,sY,rI,sZ,⟨g0,r0⟩,⟨g1,r1⟩,⟨g2,r2⟩⟩:=b;refine⟨om,om,om,sY,rI,sZ,⟨g0,?_⟩,⟨g1,?_⟩,⟨g2,?_⟩⟩
  .repeat(refine FR ?_ om)
   exact r0
  .repeat(refine FR ?_ om)
   exact r1
  repeat(refine FR ?_ om)
  exact r2
 repeat(refine NO ?_ (by first|(show w.heap.size<=w.heap.size+1;omega)|(show w.heap.size<=w.heap.size+1+1;omega)) _)
 exact u
def Ta cap{f}{w}(hA:RV w a n f)(hn:n<=1048576)(hs:∀i,i<n->(f i).nv<=1048576/\Small (f i).d):
  C9 23 #[.slice a n cap] w λe w'=>(e=.returned (S9 w.heap.size n n)/\KS w'.heap.size w' w.heap.size n f)/\B9 w w':=by
 rcases Ws n hn,O<|Wp w<|n*8,O hs with⟨U,V,R⟩;go_enter func23,ntmps23;go_wp2;go_loopw [4] (λi wr=>∃(k:Nat),k<=n/\i=J k/\B9 w wr/\(∃g,wr.rowIs w.heap.size 105 (n*8) g)/\∀j,j<k->Ej (w.heap.size+1) wr.heap.size wr w.heap.size (j*8) (f j)) λi _=>n-(intOf i).toNat
 .exact⟨0,om,rfl,n9,V,λj hj=>om⟩
 obtain⟨k,hk,rfl,hb,⟨g,l⟩,B⟩:=hrel;by_cases C:k<n
 .obtain⟨b,off,rfl,M,hcs⟩:=hA.resolve_left om;obtain⟨va,vc,la,lc,ia,ic,xa,xc,hc,W,X⟩:=(hcs k C).below hb M;obtain⟨e0,e1,e2,e3,e4,e5,e6,e7⟩:=hc;rcases H8 l,O<|ql W X,O hb,O l,O B with⟨F,H,S,Z,I⟩;go_wp2_with fail;refine(Vm vc lc ic xc (f k) H.1 H.2 (R k C).1 (R k C).2).mono ?_;rintro e w1 ⟨⟨D,E,s1,s2,rfl,K,t,p,h⟩,s⟩;have c:=GW Z<|s.block _ F;have d0:=c.cell (i:=k*8) om;have f0:=c.frozen<|k*8;have d1:=c.cell (i:=k*8+1) om;have f1:=c.frozen<|k*8+1;have d2:=c.cell (i:=k*8+2) om;have f2:=c.frozen<|k*8+2;have d3:=c.cell (i:=k*8+3) om;have f3:=c.frozen<|k*8+3;have d4:=c.cell (i:=k*8+4) om;have f4:=c.frozen<|k*8+4;have d5:=c.cell (i:=k*8+5) om;have f5:=c.frozen<|k*8+5;have d6:=c.cell (i:=k*8+6) om;have f6:=c.frozen<|k*8+6;have d7:=c.cell (i:=k*8+7) om;have f7:=c.frozen<|k*8+7;obtain⟨P,Q⟩:=ZN (some<|G D 0) (f k).nv (some<|G E 0) (f k).d.n (some<|G s1 0) (f k).d.m (some<|G s2 0) (f k).d.x (f k) c (o:=k*8) om;have HN:Hid<|∀j,j<k->Ej (w.heap.size+1) w1.heap.size w1 w.heap.size (j*8) (f j):=O λj hj=>(I j hj).keep s.size (λq _ _ hq=>s.block q hq) λq _=>As<|s.block _ F;go_wp2_with fail;go_roundw
  .refine⟨k+1,om,ov,?_,z<|O P,λj hj=>?_⟩
   .repeat(refine NO ?_ (by exact Be _) _)
    exact z<|o8 S s
   by_cases e:j=k
   .subst e;obtain⟨K,t,p,h⟩:=z<|O<|ql K<|ql t<|ql p h;rcases h.lt,h.b0,h.b1,h.b2 with⟨⟨t0,t1,t2⟩,q0,q1,q2⟩;have T:=Gz (w:=w1) (b:=w.heap.size) (b':=D) (o:=j*8) (some<|G D 0) (f j).nv (some<|G E 0) (f j).d.n (some<|G s1 0) (f j).d.m (some<|G s2 0) (f j).d.x (f j) om;have u:=Gz (w:=w1) (b:=w.heap.size) (b':=E) (o:=j*8) (some<|G D 0) (f j).nv (some<|G E 0) (f j).d.n (some<|G s1 0) (f j).d.m (some<|G s2 0) (f j).d.x (f j) om;have v:=Gz (w:=w1) (b:=w.heap.size) (b':=s1) (o:=j*8) (some<|G D 0) (f j).nv (some<|G E 0) (f j).d.n (some<|G s1 0) (f j).d.m (some<|G s2 0) (f j).d.x (f j) om;have A:=Gz (w:=w1) (b:=w.heap.size) (b':=s2) (o:=j*8) (some<|G D 0) (f j).nv (some<|G E 0) (f j).d.n (some<|G s1 0) (f j).d.m (some<|G s2 0) (f j).d.x (f j) om;refine⟨D,E,s1,s2,Q,⟨om,EK T t.lt,EK u t0,EK v t1,EK A t2⟩,t.of_block T,⟨p.log.of_block u<|EK u t0,p.ints.of_block v<|EK v t1,p.index.of_block A<|EK A t2⟩,⟨om,om,om,h.sY,h.rI,h.sZ,h.r0.imp λg r=>GW r u,h.r1.imp λg r=>GW r v,h.r2.imp λg r=>GW r A⟩⟩
   refine(HN j om).keep oq (λq hq _ _=>?_) λq hq=>U1 _ _ _ _ _ _ _ _ _ om;exact Gz _ _ _ _ _ _ _ _ _ om
  exact ow
 have L:k=n:=om;subst L;go_wp2_with fail;go_ret;exact⟨⟨rfl,⟨_,z<|O l⟩,z<|O B⟩,z<|O hb⟩
structure I2 (B H:Nat) (w:Y) (m tb a:Nat) (s:AL):Prop where
 bm:B<=m
 mt:m<tb
 ts:tb<a
 sh:a<H
 fo:Bd w m s.nf s.F
 ta:KS H w tb s.nt s.T
 tr:∀i,i<s.nt->Ej (tb+1) H w tb (i*8) (s.T i)
 si:RS w a s.ns s.S
def I2.below{B}{tb a}(h:I2 B H w m tb a s)(hb:B9 w w'):I2 B H w' m tb a s:=
 ⟨h.bm,h.mt,h.ts,h.sh,h.fo.below hb h.fo.lt,h.ta.below hb<|Be _,(h.ta.below hb<|Be _).2,h.si.of_block<|hb.block _ h.si.lt⟩
def GZ{B:Option Addr}C{ta:Option Addr}tc{sa:Option Addr}sc{s}{w}(D:Tr w B ta sa s)(hs:EE s):
  C9 7 #[Qk B C ta tc sa sc s] w λe w'=>(∃m tb V,e=.returned (Qk (some<|G m 0) s.nf (some<|G tb 0) s.nt (some<|G V 0) s.ns s)/\I2 w.heap.size w'.heap.size w' m tb V s)/\B9 w w':=by
 have l:B9 w<|((w.alloc<|.cells #[.slice B s.nf C,.slice ta s.nt tc,.slice sa s.ns sc] 28).alloc<|.cells #[N9,N9,N9] 42).alloc<|.cells #[N9,N9,N9] 42:=((n9).alloc oq _).alloc ot _;go_enter func7,ntmps7;go_wp2_with fail;refine(S4 C (D.below l).fo hs.f.1).mono ?_;rintro e w1 ⟨⟨m,rfl,hm,t⟩,k⟩;obtain⟨E,X⟩:=AO k;have F:=k.size;simp at F hm;have H:=t.lt;have y0:w.heap.size<w1.heap.size:=om;have y1:w.heap.size+1<w1.heap.size:=om;have y2:w.heap.size+1+1<w1.heap.size:=om;have I:=o8 l k;clear k;have d:Hid<|∀v,B9 w<|w1.setCell (G (w.heap.size+1+1) 0) v:=O λv=>I.setCell oy _;go_wp2_with fail;refine(Ta tc (D.below<|d _).ta hs.nt λi hi=>⟨hs.nv hi,hs.I5 hi⟩).mono ?_;rintro e w2 ⟨⟨rfl,o⟩,h⟩;obtain⟨K,ad⟩:=AO h;have L:=h.size;simp at L o;have ae:=o.lt;have z0:w.heap.size<w2.heap.size:=om;have z1:w.heap.size+1<w2.heap.size:=om;have z2:w.heap.size+1+1<w2.heap.size:=om;have u:=O<|(t.setOther (a:=G (w.heap.size+1+1) 0) (by show m≠w.heap.size+1+1;omega)<|S9 m s.nf s.nf).below h (by simpa using H);have M:=o8 (d _) h;clear h;have j:Hid<|∀v,B9 w<|w2.setCell (G (w.heap.size+1+1) 1) v:=O λv=>M.setCell oy _;go_wp2_with fail;refine(Vk sc (D.below<|j _).si hs.n).mono ?_;rintro e w3 ⟨⟨rfl,p⟩,c⟩;obtain⟨P,af⟩:=AO c;have x:=c.size;simp at x p;have ag:=p.lt;have x0:w.heap.size<w3.heap.size:=om;have Q:=O<|(u.setOther (a:=G (w.heap.size+1+1) 1) (by show m≠w.heap.size+1+1;omega)<|S9 w1.heap.size s.nt s.nt).below c (by have:=u.lt;simpa using this);have R:=(o.setOther (q:=1) (v:=S9 w1.heap.size s.nt s.nt)<|show w.heap.size+1+1<w1.heap.size by omega).below c (by simpa using x);have S:=o8 (j _) c;clear c;go_wp2;have A:Hid (∀W:World,(∀b,b<w3.heap.size->b≠w.heap.size+1->b≠w.heap.size+1+1->W.heap[b]?=w3.heap[b]?)->W.heap.size=w3.heap.size->I2 w.heap.size W.heap.size W m w1.heap.size w2.heap.size s):=O (λW hk hz=>by
  have Z:KS W.heap.size W w1.heap.size s.nt s.T:=by
   obtain⟨⟨g,r⟩,h2⟩:=z R;have e:=hk w1.heap.size (H8 r) om om;refine⟨⟨g,GW r e⟩,λi hi=>(h2 i hi).keep om (λq hq _ U=>hk q U om om) λq _=>As e⟩
  exact⟨om,om,om,om,Q.of_block (hk m om om om),Z,Z.2,p.of_block (hk _ om om om)⟩)
 refine GO (v:=Qk (some<|G m 0) s.nf (some<|G w1.heap.size 0) s.nt (some<|G w2.heap.size 0) s.ns s) (by simp[results,results7,go_sem,E,K,P,y1,z1]) rfl ⟨⟨m,w1.heap.size,w2.heap.size,rfl,?_⟩,?_⟩
 .refine A _ (λb hb h1 h2=>?_) oq;repeat rw[At _ _ _ _ (by first|(show b≠w.heap.size+1;omega)|(show b≠w.heap.size+1+1;omega))]
 repeat(refine NO ?_ (by first|(show w.heap.size<=w.heap.size+1;omega)|(show w.heap.size<=w.heap.size+1+1;omega)) _)
 exact S
def Ts(w:Y)(a:T9)(n:Nat)(f:Nat->Tb)(A:Nat->Ad):Prop:=
 n=0\/∃b off,a=some (G b off)/\b<w.heap.size/\∀i,i<n->I3 w b (off+i*8) (A i).va (A i).vc (A i).la (A i).lc (A i).ia (A i).ic (A i).xa (A i).xc (f i)/\Fq w (A i).va (f i).nv (f i).V/\Ei w (A i).la (A i).ia (A i).xa (f i).d
def RV.addr{f}(h:RV w a n f):∃A,Ts w a n f A:=by
 rcases h with h|⟨b,off,e,c,hc⟩
 .exact⟨λ_=>default,.inl h⟩
 have h2:∀i,∃A:Ad,i<n->I3 w b (off+i*8) A.va A.vc A.la A.lc A.ia A.ic A.xa A.xc (f i)/\Fq w A.va (f i).nv (f i).V/\Ei w A.la A.ia A.xa (f i).d:=λi=>by
  by_cases hi:i<n
  .obtain⟨va,vc,la,lc,ia,ic,xa,xc,h1⟩:=hc i hi;exact⟨⟨va,vc,la,lc,ia,ic,xa,xc⟩,λ_=>h1⟩
  exact⟨default,λh=>absurd h hi⟩
 obtain⟨A,hA⟩:=Classical.skolem.1 h2;exact⟨A,.inr ⟨b,off,e,c,hA⟩⟩
def Ts.below{f}{A}(h:Ts w a n f A)(hb:B9 w w'):Ts w' a n f A:=by
 rcases h with h|⟨b,off,e,c,hc⟩
 .exact .inl h
 exact .inr ⟨b,off,e,A0 c hb.size,λi hi=>⟨(hc i hi).1.EN λq _=>hb.cell c,(hc i hi).2.1.below hb rfl,(hc i hi).2.2.below hb⟩⟩
def AH(B:Nat->Nat)(A:Ad)(t:Tb):Value:=if t.shape=-1 then .iface 194 (KN A t)else .iface 197 (CH (B t.shape.toNat) A t)
def kL(B:Nat->Nat)(A:Nat->Ad)(s:AL)(k:Nat):List Value:=(List.range k).map λi=>AH B (A i)<|s.T i
def Sp B A s k:kL B A s k++[AH B (A k) (s.T k)]=kL B A s (k+1):=by
 unfold kL;rw[List.range_succ,AaC];rfl
def Mb{A}(h:i<k):(kL B A s k)[i]?=some (AH B (A i)<|s.T i):=by simp[kL,h]
def Rh B A t:(AH B A t).oneCell'=true:=by
 unfold AH;split<;>rfl
def Ua:(prog.info? 128).map (λi=>(i.zero,i.size,i.bytes))=some (some .nilIface,1,16):=ou
def Nd.O5(h:Nd w s b0 g B Z M)(hk:∀b,b0<=b->b<w.heap.size->w'.heap[b]?=w.heap[b]?)(a:w'.heap[g]?=w.heap[g]?):Nd w' s b0 g B Z M:=
 ⟨{h.ns with
  node:=λi hi hn=>(h.ns.node i hi hn).of_block (hk _ (h.ns.base i hi)<|H8<|h.ns.node i hi hn)
  kids:=λi m hi hn d=>by
   obtain⟨g,a,hK⟩:=h.ns.kids i m hi hn d;obtain⟨es,c,hc⟩:=a.isMap;exact⟨g,a.block (hk _ (h.ns.mbase i m hi hn d) (E1.1 hc).1),hK⟩},h.id,EK a h.lt,λi hi=>(As a).trans (h.qL i hi)⟩
def Nd.SQ(h:Nd w s b0 g B Z M)(hb:b1<=b0):Nd w s b1 g B Z M:=⟨h.ns.SQ hb,h.id,h.lt,h.qL⟩
def WE{base size}(h:w.ownsRow base e size v n xs)(hk:∀q,base<=q->q<w.heap.size->w'.heap[q]?=w.heap[q]?):w'.ownsRow base e size v n xs:=by
 obtain⟨hl,⟨a,d⟩|⟨g',cap,cur,a,b,c,h1,h2,h3,h4⟩⟩:=h
 .exact⟨hl,.inl ⟨a,d⟩⟩
 refine⟨hl,.inr ⟨g',cap,cur,a,b,?_,h1,h2,h3,h4⟩⟩;grind
def iE(w0:Y)(s:AL)(D:Nat->Int)(A:Nat->Ad)(e:Ending)(w:Y):Prop:=
 (∃r:Int,e=.returned (.tuple #[.agg #[N9,N9],J r])/\r=BC s D/\r≠0)\/
 (∃g a B Z M v b1,e=.returned (.tuple #[.agg #[S9 g s.nf a,v],J 0])/\BC s D=0/\Nd w s w0.heap.size g B Z M/\(w0.heap.size<=b1/\w.ownsRow w0.heap.size 140 1 (S9 g s.nf a) s.nf (ptrs B s.nf))/\w.ownsRow b1 128 1 v s.nt (kL B A s s.nt))
section
open Go.RowKit Go.Shelf
attribute [local go_sem] Oper.semAt_some
structure Qj (p n0:Nat) (A B:Y):Prop where
 size:A.heap.size<=B.heap.size
 block:∀b,b<n0->b≠p->B.heap[b]?=A.heap[b]?
def Qj.refl p n0 A:Qj p n0 A A:=⟨Be _,λ_ _ _=>rfl⟩
theorem Qj.trans{p}{B C}(h:Qj p n0 A B)(k:Qj p n0 B C):Qj p n0 A C:=⟨GP h.size k.size,λb h1 h2=>(k.block b h1 h2).trans<|h.block b h1 h2⟩
def Qj.put{p}(hn:n0<=w.heap.size)W l o o'(hl:w.heap.size<=l)(h:W.heap[l]?=some o)(_:o.isCells=false)(_:o.isWalk=false):Qj p n0 W<|W.putObj l o':=by
 have hb:=(BE n0 W).grown (NX W l o') (oS (E1.1 h).1) (λk e=>by cases e;omega);exact⟨hb.size,λb h1 _=>hb.block b h1⟩
def Ku{B:Y}{row}{c}{fz}{D}(h:A.heap[b]?=some (.cells c t fz))(d:A.grownBy B row)(f:∀r,row=some r->D<=r/\∃o,A.heap[r]?=some o/\o.isCells=false):B.heap[b]?=A.heap[b]?:=
 d.block b (E1.1 h).1 (λe=>by
  obtain⟨_,o,a,hc⟩:=f b e.symm;rw[h]at a;cases a;cases hc)
def Rs{B:Y}{row}{D base size}(h:A.ownsRow base e size v n xs)(a:A.grownBy B row)(b:∀r,row=some r->D<=r/\∃o,A.heap[r]?=some o/\o.isCells=false):B.ownsRow base e size v n xs:=by
 obtain⟨hl,h|⟨g,cap,cur,h1,h2,h3,h4⟩⟩:=h
 .exact⟨hl,.inl h⟩
 exact⟨hl,.inr ⟨g,cap,cur,h1,h2,(Ku h3 a b).trans h3,h4⟩⟩
section
variable {P:Program}
end
def QA(n)(hn:1<=n){bk s F R2}(A p n0){E S}{d}{w}(H:JW w bk s F R2 E S d)(I:Small d)(B:0<d.n->s<n0/\s≠p)(K:∀i,i<d.n->E i<n0/\E i≠p)
  (m0:w.cell? (G A 0)=some (Q9 bk)):
  SeqStopsK Fence.wide n prog 233 #[Q9 A] (λa=>#[Q9 (E a.1)]) (Qj p n0)
   (aZ d) (Tp d) d.n w:=λl Z U W C V M P Q=>by
 have m0:=(C.cell<|IF _ _ m0).trans m0;have g:=H.below C;rcases g.c0,I.n,O K with⟨⟨a0,k0,c0,u⟩,R,D⟩;refine callsIn_of_wp func233 rfl trivial ?_ rfl;simp only[ntmps233,Aas,Aaf,Aaa,Nat.reduceAdd,Nat.reduceSub,Aai,Aah,Aat,Aak,X9,Aar];gi_wp2
 gi_loopw [10] (λi wr=>∃(k:Nat) (pre:List<|MC d),k<=d.n/\i=J (k:Int)/\IX d k pre/\Z pre wr/\Qj p n0 W wr) λi _=>d.n-(intOf i).toNat
 case atStart=>exact⟨0,[],om,rfl,rfl,z<|O Q,Qj.refl _ _ _⟩
 case round=>
  obtain⟨k,pre,hk,rfl,c,j,f⟩:=hrel;by_cases b:k<d.n
  .obtain rfl:=z (O u) om;have X:=(As (a:=G s k)<|f.block _ (B om).1 (B om).2).trans<|g.r0 k b;have t0:=(As (a:=G (E k) 10)<|f.block _ (D k b).1 (D k b).2).trans (g.CE k b).tn;by_cases o:(d.L k).turn=0
   .have t:IX d (k+1) pre:=by unfold IX;rw[Ci o];exact c
    rw[o]at t0;gi_wp2;refine⟨λ_ h=>(by cases h),?_⟩;gi_wp2;go_roundw
    .exact⟨k+1,pre,om,ov,t,j,f⟩
    exact ow
   have T:((d.L k).turn !=0)=true:=by simp[o]
   obtain⟨fn,tmps,assign,body,hy,m⟩:=z (O P) pre ⟨k,b,o⟩ wr j (by
    have h1:=congrArg List.length c;rw[List.length_map]at h1;have:=FP d k;omega)
   have t:Hid<|IX d (k+1)<|pre++[⟨k,b,o⟩]:=O (by
    unfold IX;rw[Bp o,AaC,show pre.map (·.1)=AQ d k from c];rfl)
   dsimp only at hy;gi_wp2;refine m.mono ?_;rintro e W3 (⟨rfl,v,x⟩|⟨rfl,q⟩)
   .clear hy m;gi_wp2;go_roundw
    .exact⟨k+1,_,om,ov,t,v,f.trans x⟩
    exact ow
   clear hy m;gi_wp2;refine GO (Aay rfl _ _ _) rfl ?_;exact⟨⟨_,rfl⟩,.inr ⟨_,t.pre om,q⟩⟩
  have r:k=d.n:=om;subst r;gi_wp2;go_end0;exact⟨⟨_,rfl⟩,.inl ⟨pre,c,j⟩⟩
end
def cZ s w:
  C9 91 #[.string s] w (R9 (V 4 0 0 s 0) w):=by
 go_enter func91,ntmps91;go_wp2;exact GO (v:=V 4 0 0 s 0) (by simp[results,results91,go_sem]) rfl ⟨rfl,n9⟩
def P3 s w:
  C9 186 #[.string s] w (R9 (V 4 0 0 s 0) w):=by
 go_enter func186,ntmps186;go_wp2;exact GO (v:=V 4 0 0 s 0) (by simp[results,results186,go_sem]) rfl ⟨rfl,n9⟩
def GF(s:AL)(j:Nat)(t:Tb)(i:Nat):Pr:=⟨⟨4,0,0,DG s.F j i,0⟩,t.V i,(i:Int)+1⟩
def Jp s b0 B Z M A t j{w}(hN:CA w s.F b0 s.nf B Z M)(hid:∀i,i<s.nf->Z i=i)(h0:Am s.nf s.F=0)(hj:j<s.nf)(hV:Fq w A.va t.nv t.V)(E:t.nv=nf s.F j):
  C9 197 #[CH (B j) A t] w λe w'=>(∃v,e=.returned v/\BT w' w.heap.size v (nf s.F j) (GF s j t))/\B9 w w':=by
 obtain⟨h1,h2,h3,h4,h5⟩:=Au h0;have H:nf s.F j<=12:=by have:=(Bb (k:=s.nf) h2 (λq h1 h2=>h3 q h1 h2) j hj).2;unfold nf;omega
 obtain⟨i0,hi,S,T,U⟩:=ON EM;obtain⟨W,hW,l,_,o0⟩:=JZ w<|.cells #[.slice A.va t.nv A.vc,.slice A.la t.d.n A.lc,.slice A.ia t.d.m A.ic,.slice A.xa t.d.x A.xc,J t.d.used,J t.d.live,J t.d.turns,Q9 (B j)] 197;have lw:w.heap.size<W.heap.size:=om;rcases v8 o0,O<|ql (hN.below l) hid,O<|hV.below l rfl,O l,O h2,O h3,O E with⟨⟨x0,_,_,_,_,_,_,x7⟩,r,I,K,H2,H3,u⟩;clear l hV hN hid h0 h1 h2 h3 h4 h5 E;obtain⟨n,hn⟩:=o9<|nf s.F j;rw[<-hn]at H u ⊢;have a8:=O hn;go_enter func197,ntmps197;go_wp2_with fail;rw[<-hW];clear hW;refine(VR _ b0 B Z M r.1 r.2 H2 H3 j hj).mono ?_;rintro e w1 ⟨⟨m,rfl,hm,c⟩,f⟩;rw[<-hn]at c ⊢;clear hn;rcases (f.cell lw).trans x0,A0 lw f.size,H8 c,O<|I.below f rfl,O<|o8 K f,O c with⟨y0,X,ae,af,C,ag⟩;clear f x0 x7 c I r;go_wp2;go_loopw [3,10] (λv i wr=>∃(k:Nat),k<=n/\i=J k/\BT wr w1.heap.size v k (GF s j t)/\B9 w1 wr) λ_ i _=>n-(intOf i).toNat
 .exact⟨0,om,rfl,NB _ _ _ _,BE _ _⟩
 obtain⟨k,hk,rfl,L,hb⟩:=hrel;by_cases P:k<n
 case neg=>
  have ah:k=n:=om;have D:=O<|o8 C hb;have HO:=O L;clear hb L P;subst ah;go_wp2;go_ret;exact⟨⟨_,rfl,Eg HO C.size⟩,D⟩
 obtain⟨b,off,Q,ai,hcs⟩:=af.resolve_left<|oS<|z u;have aj:k<t.nv:=oS<|z u;obtain⟨e0,e1,e2,e3,e4⟩:=(hcs k aj).keep λq=>hb.cell ai;have p0:wr.cell? (y w 0)=some (.slice (some<|G b off) t.nv A.vc):=by rw[<-Q];exact oT hb X y0
 have q0:=oT hb ae<|World.rowIs.cell ag P;have bb:=hb.size;have ak:w.heap.size<wr.heap.size:=om;have g:b<wr.heap.size:=om;have D:=O hb;have ao:Hid<|BT wr.drew w1.heap.size u3 k<|GF s j t:=O L.drew;have R:=O L.lt;clear hb L hcs Q;go_wp2_with fail;have bc:IntKind.i64.wrap ((k:Int)+1)=(k:Int)+1:=oj
 go_region_law (first
  |(go_simp;go_at_call 186;refine m9 (P3 (DG s.F j k) _) λw2 a=>?_;have bd:wr.heap.size<=w2.heap.size:=a.size;have aq:=oT a ak p0;have ar:=oT a g e0;have au:=oT a g e1;have av:=oT a g e2;have aw:=oT a g e3;have ax:=oT a g e4;have l2:w.heap.size<w2.heap.size:=om;have bf:b<w2.heap.size:=om;have ay:=O<|WD ao a;have az:=O<|D.trans<|show Below w1.heap.size wr w2 from⟨a.os,a.tape,a.output,a.size,λk hk=>a.block k ot⟩;clear a)
  |(refine Wx _ rfl (.tmp 15) (.tmp 27) 101 rfl w1.heap.size 166 i0 PZ 11 104 underlying101 hi S T U rfl oo u3 k (pL (GF s j t) k) oe (ay.alloc _) (y w2 0) 1 1 (Dl (GF s j t k)) oe rfl (ID (DD _ _)) (Fj _) oo od om ot _ rfl ?_;intro g3 bg w3 h o ad a7;have aM:=O ((az.alloc om _).trans (CW o (λq e=>(R q e).1) ot));have a6:=O h;clear h o))
 all_goals
  clear e0 e1 e2 e3 e4 p0 q0 ar au av aw ax aq;go_wp2;go_roundw
  .exact⟨k+1,om,oq,a6,aM⟩
  exact ow
def Wg c{m}fc{ta}tc(s:AL){A}(i j:Nat){w:Y}(H:w.cell? (G c 0)=some (S9 m s.nf fc))(S:w.cell? (G c 1)=some (.slice ta s.nt tc))(U:c<w.heap.size)(V:Bd w m s.nf s.F)(hT:Ts w ta s.nt s.T A)(h0:Am s.nf s.F=0)(hi:i<s.nt)(bq:s.nt<=1048576)(I:(s.T i).shape=j)(hj:j<s.nf)(u:(s.T i).nv=nf s.F j):
  C9 53 #[Q9 c,J i] w λe w'=>(∃v,e=.returned v/\BT w' w.heap.size v (nf s.F j) (GF s j<|s.T i))/\B9 w w':=by
 obtain⟨h1,h2,h3,h4,h5⟩:=Au h0;have K:nf s.F j<=12:=by have:=(Bb (k:=s.nf) h2 (λq h1 h2=>h3 q h1 h2) j hj).2;unfold nf;omega
 obtain⟨b1,bm,rfl,bn,hcs⟩:=hT.resolve_left om;obtain⟨a0,a1,a2,a3,a4,a5,a6,a7⟩:=(hcs i hi).1;have R:=(hcs i hi).2.1;rw[I]at a0;rcases V.lt,o9<|s.T i,o9 (A i) with⟨X,⟨t,ht⟩,⟨D,hD⟩⟩;rw[<-ht]at a1 a2 a3 a4 a5 a6 a7 R u ⊢;rw[<-hD]at a1 a2 a3 a4 R;obtain⟨i0,Z,ae,af,ag⟩:=ON EM;obtain⟨W,hW,h,_,o0⟩:=JZ w<|.cells #[J (j:Int),.slice D.va t.nv D.vc,.slice D.la t.d.n D.lc,.slice D.ia t.d.m D.ic,.slice D.xa t.d.x D.xc,J t.d.used,J t.d.live,J t.d.turns] 105;have lw:w.heap.size<W.heap.size:=om;obtain⟨x0,x1,_⟩:=v8 o0;have z0:=(h.cell U).trans H;have lc:c<W.heap.size:=om;have lm:m<W.heap.size:=om;rcases O (V.below h X),O<|R.below h rfl,O h,O h1,O h2,O h3,O u with⟨ah,ai,aj,H1,H2,H3,B⟩;clear h R h0 h1 h2 h3 h4 h5 u V hcs ht hD I hT;obtain⟨n,hn⟩:=o9<|nf s.F j;rw[<-hn]at K B ⊢;have ak:=O hn;go_enter func53,ntmps53;go_wp2_with fail;rw[<-hW];clear hW a0 a1 a2 a3 a4 a5 a6 a7 H S
 go_region_law (go_simp;go_at_call 95;refine(Il fc j (ah.below (BE _ _).drew lm) H1 H2 H3 hj).mono ?_;rintro e w1 ⟨⟨m',rfl,hm,g⟩,f⟩;rw[<-hn]at g;have y1:=oT f lw x1;have ao:w.heap.size<w1.heap.size:=A0 lw f.size;have aq:=H8 g;have ar:=O<|(ai.below (BE _ _).drew rfl).below f rfl;have C:=O<|aj.trans<|show Below w.heap.size W w1 from⟨f.os,f.tape,f.output,f.size,λk hk=>f.block k ot⟩;have au:=O g;clear f g)
 all_goals
 clear hn x0 x1 z0;go_wp2;simp only[Act.put,AaT,AaH,AaG,Aad,Aa1,Aa0];rw[<-z ak];go_loopw [6,30] (λv i wr=>∃(k:Nat),k<=n/\i=J k/\BT wr w1.heap.size v k (GF s j t)/\B9 w1 wr) λ_ i _=>n-(intOf i).toNat
 .exact⟨0,om,rfl,NB _ _ _ _,BE _ _⟩
 obtain⟨k,hk,rfl,L,hb⟩:=hrel;by_cases M:k<n
 case neg=>
  have av:k=n:=om;have E:=O<|o8 C hb;have HO:=O L;clear hb L M;subst av;go_wp2;go_ret;exact⟨⟨_,rfl,Eg HO C.size⟩,E⟩
 obtain⟨b,off,P,aw,hcs⟩:=ar.resolve_left<|oS<|z B;have ax:k<t.nv:=oS<|z B;obtain⟨e0,e1,e2,e3,e4⟩:=(hcs k ax).keep λq=>hb.cell aw;have p0:wr.cell? (y w 1)=some (.slice (some<|G b off) t.nv D.vc):=by rw[<-P];exact oT hb ao y1
 have q0:=oT hb aq<|World.rowIs.cell au M;have br:=hb.size;have ay:w.heap.size<wr.heap.size:=om;have l:b<wr.heap.size:=om;have E:=O hb;have az:Hid<|BT wr.drew w1.heap.size u6 k<|GF s j t:=O L.drew;have Q:=O L.lt;clear hb L hcs P;go_wp2_with fail;have bt:IntKind.i64.wrap ((k:Int)+1)=(k:Int)+1:=oj
 go_region_law (first
  |(go_simp;go_at_call 91;refine m9 (cZ (DG s.F j k) _) λw2 a=>?_;have bu:wr.heap.size<=w2.heap.size:=a.size;have aM:=oT a ay p0;have a8:=oT a l e0;have bb:=oT a l e1;have bc:=oT a l e2;have bd:=oT a l e3;have bf:=oT a l e4;have l2:w.heap.size<w2.heap.size:=om;have bw:b<w2.heap.size:=om;have bg:=O<|WD az a;have bh:=O<|E.trans<|show Below w1.heap.size wr w2 from⟨a.os,a.tape,a.output,a.size,λk hk=>a.block k ot⟩;clear a)
  |(refine Wx _ rfl (.tmp 35) (.tmp 46) 101 rfl w1.heap.size 166 i0 PZ 11 104 underlying101 Z ae af ag rfl oo u6 k (pL (GF s j t) k) oe (bg.alloc _) (y w2 0) 1 1 (Dl (GF s j t k)) oe rfl (ID (DD _ _)) (Fj _) oo od om ot _ rfl ?_;intro g3 bx w3 o r ad bp;have bj:=O ((bh.alloc om _).trans (CW r (λq e=>(Q q e).1) ot));have bk:=O o;clear o r))
 all_goals
  clear e0 e1 e2 e3 e4 p0 q0 a8 bb bc bd bf aM;go_wp2;go_roundw
  .exact⟨k+1,om,oq,bk,bj⟩
  exact ow
noncomputable def Dz(s:AL)(i:Nat):Int:=BN (s.T i).d<|hD (s.T i).d
def pK(hs:Kh s)(a:gY s):∀i,i<s.nt->∀la lc ia ic xa xc,Xv la lc ia ic xa xc (s.T i).d<|Dz s i:=
 λi hi la lc ia ic xa xc W hA=>pN lc ic xc hA (hs.I5 hi) (a i hi).2
def oE(hs:Kh s)(a:gY s):∀i,i<s.nt->∀la lc ia ic xa xc,aY BO la lc ia ic xa xc (s.T i).d<|Dz s i:=
 λi hi la lc ia ic xa xc W b hA=>oG lc ic xc b hA (hs.I5 hi) (a i hi).2
open Classical in
noncomputable def gO(s:AL)(t:Tb):Nat:=if t.shape=-1 then JM t.d else nf s.F t.shape.toNat
open Classical in
noncomputable def mI(s:AL)(t:Tb):Nat->Pr:=if t.shape=-1 then Es t.d else GF s t.shape.toNat t
noncomputable def pF(s:AL)(i:Int):Nat->Pr:=mI s<|s.T i.toNat
def Zs(h:NY s (Dz s i)<|s.T i):((s.T i).shape=-1/\BN (s.T i).d (hD (s.T i).d)=0)\/∃j:Nat,(s.T i).shape=j/\j<s.nf/\(s.T i).nv=nf s.F j:=by
 rcases h with h|h
 .exact .inl ⟨h.1,h.2.2⟩
 refine .inr ⟨(s.T i).shape.toNat,om,om,?_⟩;have:=h.2.2.1;rw[nf];omega
def Ss c{ta}tc(s:AL){A}i{w:Y}(p:w.cell? (G c 1)=some (.slice ta s.nt tc))(q:c<w.heap.size)(j:Ts w ta s.nt s.T A)(hi:i<s.nt)(r:s.nt<=1048576)(a:(s.T i).shape=-1)(k:Small (s.T i).d)(h2:D2 (s.T i).d):
  C9 53 #[Q9 c,J i] w λe w'=>(∃v,e=.returned v/\BT w' w.heap.size v (JM (s.T i).d) (Es (s.T i).d))/\B9 w w':=by
 obtain⟨b1,l,rfl,m,hcs⟩:=j.resolve_left om;obtain⟨a0,a1,a2,a3,a4,a5,C,D⟩:=(hcs i hi).1;have t:=O (hcs i hi).2.2.log;rw[a]at a0;have u:=O k;have x:=O h2;have b:∀o,B9 w<|w.alloc o:=λo=>n9;have g:=O b;clear hcs j k h2 a b;go_enter func53,ntmps53;go_wp2_with fail;refine(Um _ _ _ _ _ (t.below (g _) rfl) u x).mono ?_;rintro e w1 ⟨⟨v,rfl,n⟩,f⟩;have h:=O<|o8 (g _) f;have B:=O<|Eg n (g _).size;clear f n;go_wp2;go_ret;exact⟨⟨v,rfl,B⟩,h⟩
def Up c{m}k{ta}tc{s}{A}i{w:Y}(f:w.cell? (G c 0)=some (S9 m s.nf k))(b:w.cell? (G c 1)=some (.slice ta s.nt tc))(d:c<w.heap.size)(n:Bd w m s.nf s.F)(l:Ts w ta s.nt s.T A)(hs:Kh s)(o:BC s (Dz s)=0)(hi:i<s.nt):
  C9 53 #[Q9 c,J i] w λe w'=>(∃v,e=.returned v/\BT w' w.heap.size v (gO s<|s.T i) (mI s<|s.T i))/\B9 w w':=by
 obtain⟨h1,h2,h3,h4⟩:=Lx o;rcases Zs (h3 i hi)with⟨a,p⟩|⟨j,a,hj,g⟩
 .have h:=Ss c tc s i b d l hi hs.nt a (hs.I5 hi) (Lu p).d2;rw[gO,mI,C3 a,C3 a];exact h
 have h:=Wg c k tc s i j f b d n l h1 hi hs.nt a hj g;rw[gO,mI];rw[Cs om,a];exact h
def pQ v W:Sem.run prog (Instr.typeAssert (.iface 197 v) 128 197 true) W=.ok (.tuple #[v,.bool true]) W:=by
 kernel_rfl
def wG v W:Sem.run prog (Instr.typeAssert (.iface 194 v) 128 194 true) W=.ok (.tuple #[v,.bool true]) W:=by
 kernel_rfl
def vE v W:Sem.run prog (Instr.typeAssert (.iface 194 v) 128 197 true) W=.ok (.tuple #[.agg #[N9,N9,N9,N9,J 0,J 0,J 0,.pointer none],.bool false]) W:=by
 kernel_rfl
structure Ac where
 op:Int
 t:Int
 site:Int
 n:Int
 k:Vl
 v:Vl
abbrev qg(a:Ac):Array Value:=#[J a.op,J a.t,J a.site,J a.n,J a.k.kind,J a.k.num,F9 a.k.Af,.string a.k.str,J a.k.ref,J a.v.kind,J a.v.num,F9 a.v.Af,.string a.v.str,J a.v.ref]
abbrev KI(a:Ac):Value:=.agg<|qg a
def J1(v:Vl):Bool:=(v.kind==0)&&v.ok
def Ea(a:Ac)(t s n k v:Bool):Bool:=(t||a.t==0)&&(s||a.site==0)&&(n||a.n==0)&&(k||J1 a.k)&&(v||J1 a.v)
def J3(a:Ac):Bool:=!decide (a.t<0)&&!decide (100<=a.t)&&!decide (a.site<0)&&!decide (50<=a.site)&&!decide (a.n<0)&&!decide (1000000000000<a.n)&&a.k.ok&&a.v.ok
def Co(a:Ac):Bool:=
 J3 a&&(if a.op=1 then Ea a false false false false false
  else if a.op=2 then Ea a true false false true true
  else if a.op=3 then Ea a true false false true false
  else if a.op=4 then Ea a true false true false false
  else if a.op=5 then Ea a true false false false false
  else if a.op=6 then Ea a true false false false false
  else if a.op=7 then Ea a false false false true false&&a.k.kind==4
  else if a.op=8 then Ea a true true false false false
  else if a.op=9 then Ea a true true false false true
  else false)
def dO v w:
  C9 126 #[V v.kind v.num v.Af v.str v.ref] w (R9 (.bool<|J1 v) w):=by
 by_cases h:v.kind=0
 .have hk:(v.kind==0)=true:=by simp[h]
  have a:Hid<|J1 v=v.ok:=O (by unfold J1;rw[hk];rfl);clear h;go_enter func126,ntmps126;go_wp2_with (go_at_call 81;refine m9 (Bw v.kind v.num v.Af v.str v.ref _) λw1 hb=>?_);go_ret;exact⟨qh a,(n9).trans<|hb.mono oq⟩
 have hk:(v.kind==0)=false:=by simp[h]
 have a:Hid<|J1 v=false:=O (by unfold J1;rw[hk];rfl);clear h;go_enter func126,ntmps126;go_wp2;go_ret;exact⟨qh a,n9⟩
def VL(a)w:∃W,W=w.alloc (.cells (qg a) 51)/\B9 w W/\∀w',B9 W w'->w.heap.size<w'.heap.size/\w'.cell? (y w 0)=some (J a.op)/\w'.cell? (y w 1)=some (J a.t)/\w'.cell? (y w 2)=some (J a.site)/\w'.cell? (y w 3)=some (J a.n)/\w'.cell? (y w 4)=some (J a.k.kind)/\w'.cell? (y w 5)=some (J a.k.num)/\w'.cell? (y w 6)=some (F9 a.k.Af)/\w'.cell? (y w 7)=some (.string a.k.str)/\w'.cell? (y w 8)=some (J a.k.ref)/\w'.cell? (y w 9)=some (J a.v.kind)/\w'.cell? (y w 10)=some (J a.v.num)/\w'.cell? (y w 11)=some (F9 a.v.Af)/\w'.cell? (y w 12)=some (.string a.v.str)/\w'.cell? (y w 13)=some (J a.v.ref):=by
 refine⟨_,rfl,n9,λw' hb=>?_⟩;have hl:w.heap.size<(w.alloc<|.cells (qg a) 51).heap.size:=oq;have b:∀j u,(w.alloc<|.cells (qg a) 51).cell? (y w j)=some u->w'.cell? (y w j)=some u:=λj u h=>(hb.cell hl).trans h;refine⟨A0 hl hb.size,?_,?_,?_,?_,?_,?_,?_,?_,?_,?_,?_,?_,?_,?_⟩<;>(refine b _ _ ?_;simp)
def bJ a t s n k v w:
  C9 83 #[KI a,.bool t,.bool s,.bool n,.bool k,.bool v] w (R9 (.bool<|Ea a t s n k v) w):=by
 obtain⟨W,d,b,hk⟩:=VL a w;have e:=O b;have HK:=O hk;have c:Hid<|B9 W W:=O<|BE _ _;obtain⟨l0,k0,k1,k2,k3,k4,f,g,h,i,v4,v5,v6,j,v8⟩:=hk W<|BE _ _;clear hk b;go_enter func83,ntmps83;go_upto_region 1 with fail
 rw[<-d];clear d;go_wp2_with (go_at_call 126;refine m9 (dO _ _) λw3 hb=>?_;have c:=O<|show B9 W w3 from o8 c hb;obtain⟨l0,k0,k1,k2,k3,k4,f,g,h,i,v4,v5,v6,j,v8⟩:=z HK w3 c;clear hb);all_goals
  go_ret;exact⟨by simp_all [Ea],o8 e<|z (by assumption:Hid<|B9 W _)⟩
def uC(op:Int):Int:=if op=2 then 25 else if op=3 then 9 else if op=4 then 5 else if op=5 then 1 else if op=6 then 1 else if op=7 then 8 else if op=8 then 3 else if op=9 then 19 else 0
def EH(n a nm:Int):Bool:=decide (0<=n)&&decide (n<if nm=0 then 1 else a)
def Ho(v:Vl)(nm:Int):Bool:=v.ok&&(nm !=0||v.kind==0)
abbrev bt(op m:Int):Int:=bits .and .i64 (uC op) m
def Ee(a:Ac):Bool:=EH a.t 100 (bt a.op 1)&&EH a.site 50 (bt a.op 2)&&EH a.n 1000000000001 (bt a.op 4)&&Ho a.k (bt a.op 8)&&Ho a.v (bt a.op 16)&&(a.op !=7||a.k.kind==4)
theorem sO:bt 1 1=0/\bt 1 2=0/\bt 1 4=0/\bt 1 8=0/\bt 1 16=0:=oo
theorem sP:bt 2 1=1/\bt 2 2=0/\bt 2 4=0/\bt 2 8=8/\bt 2 16=16:=oo
theorem sQ:bt 3 1=1/\bt 3 2=0/\bt 3 4=0/\bt 3 8=8/\bt 3 16=0:=oo
theorem sR:bt 4 1=1/\bt 4 2=0/\bt 4 4=4/\bt 4 8=0/\bt 4 16=0:=oo
theorem sS:bt 5 1=1/\bt 5 2=0/\bt 5 4=0/\bt 5 8=0/\bt 5 16=0:=oo
theorem sT:bt 6 1=1/\bt 6 2=0/\bt 6 4=0/\bt 6 8=0/\bt 6 16=0:=oo
theorem sU:bt 7 1=0/\bt 7 2=0/\bt 7 4=0/\bt 7 8=8/\bt 7 16=0:=oo
theorem sV:bt 8 1=1/\bt 8 2=2/\bt 8 4=0/\bt 8 8=0/\bt 8 16=0:=oo
theorem sW:bt 9 1=1/\bt 9 2=2/\bt 9 4=0/\bt 9 8=0/\bt 9 16=16:=oo
theorem nV t s n k v:Ee ⟨1,t,s,n,k,v⟩=Co ⟨1,t,s,n,k,v⟩:=by
 grind [Ee,Co,sO,J3,Ea,EH,Ho,J1]
theorem nW t s n k v:Ee ⟨2,t,s,n,k,v⟩=Co ⟨2,t,s,n,k,v⟩:=by
 grind [Ee,Co,sP,J3,Ea,EH,Ho]
theorem nX t s n k v:Ee ⟨3,t,s,n,k,v⟩=Co ⟨3,t,s,n,k,v⟩:=by
 grind [Ee,Co,sQ,J3,Ea,EH,Ho,J1]
theorem nY t s n k v:Ee ⟨4,t,s,n,k,v⟩=Co ⟨4,t,s,n,k,v⟩:=by
 grind [Ee,Co,sR,J3,Ea,EH,Ho,J1]
theorem nZ t s n k v:Ee ⟨5,t,s,n,k,v⟩=Co ⟨5,t,s,n,k,v⟩:=by
 grind [Ee,Co,sS,J3,Ea,EH,Ho,J1]
theorem oA t s n k v:Ee ⟨6,t,s,n,k,v⟩=Co ⟨6,t,s,n,k,v⟩:=by
 grind [Ee,Co,sT,J3,Ea,EH,Ho,J1]
theorem oB t s n k v:Ee ⟨7,t,s,n,k,v⟩=Co ⟨7,t,s,n,k,v⟩:=by
 grind [Ee,Co,sU,J3,Ea,EH,Ho,J1]
theorem oC t s n k v:Ee ⟨8,t,s,n,k,v⟩=Co ⟨8,t,s,n,k,v⟩:=by
 grind [Ee,Co,sV,J3,Ea,EH,Ho,J1]
theorem oD t s n k v:Ee ⟨9,t,s,n,k,v⟩=Co ⟨9,t,s,n,k,v⟩:=by
 grind [Ee,Co,sW,J3,Ea,EH,Ho,J1]
def cP a(h1:1<=a.op)(b:a.op<=9):Ee a=Co a:=by
 obtain⟨op,t,s,n,k,v⟩:=a;grind [Co,nV,nW,nX,nY,nZ,oA,oB,oC,oD]
def AX{α:Type}(f:Nat->α)(i:Nat)(a:α):Nat->α:=λj=>if j=i then a else f j
theorem Ak{α}f i(a:α):AX f i a i=a:=by simp[AX]
theorem Aj{α}f{i j}(a:α)(h:j≠i):AX f i a j=f j:=by simp[AX,h]
def VO(p:Nat->Bool):Nat->Nat->Int
 |0,_=>-1
 |k+1,i=>if p i then(i:Int)else VO p k (i+1)
abbrev YG(p:Nat->Bool)(n:Nat):Int:=VO p n 0
def iP(h:i<n)(hp:p i=true):VO p (n-i) i=i:=by
 obtain⟨k,hk⟩:∃k,n-i=k+1:=⟨n-i-1,om⟩;rw[hk,VO,C3 hp]
def Tx(h:i<n)(hp:p i=false):VO p (n-i) i=VO p (n-(i+1)) (i+1):=by
 obtain⟨k,hk⟩:∃k,n-i=k+1:=⟨n-i-1,om⟩;grind [VO]
def iO(h:¬i<n):VO p (n-i) i=-1:=by
 rw[show n-i=0 by omega,VO]
theorem wJ(p:Nat->Bool):∀k i,VO p k i=-1\/∃j:Nat,VO p k i=(j:Int)/\i<=j/\j<i+k/\p j=true/\∀q,i<=q->q<j->p q=false
 |0,i=>.inl rfl
 |k+1,i=>by
  rw[VO];cases hp:p i
  .rw[Cs oq];rcases wJ p k (i+1)with h|⟨j,h1,h2,h3,h4,h5⟩
   .exact .inl h
   refine .inr ⟨j,h1,om,om,h4,λq b a=>?_⟩;rcases(by omega:q=i\/i+1<=q)with rfl|h
   .exact hp
   exact h5 q h a
  rw[C3 rfl];exact .inr ⟨i,rfl,Be _,om,hp,λq h1 h2=>om⟩
theorem Jw p n:YG p n=-1\/∃j:Nat,YG p n=(j)/\j<n/\p j=true:=by
 grind [wJ]
theorem Hg:∀{k i},VO p k i=-1->∀j,i<=j->j<i+k->p j=false
 |0,i,h,j,h1,h2=>om
 |k+1,i,h,j,h1,h2=>by
  rw[VO]at h;cases hp:p i
  .rw[Cs (by rw[hp];simp)]at h;rcases(by omega:j=i\/i+1<=j)with rfl|h3
   .exact hp
   exact Hg h j h3 om
  rw[C3 hp]at h;omega
structure Pl where
 n:Nat
 P:Nat->Pr
 turns:Int
instance:Inhabited Pl:=⟨⟨0,λ_=>default,0⟩⟩
structure Ds where
 nt:Nat
 T:Nat->Pl
 ns:Nat
 S:Nat->ByteArray
structure An where
 code:Int
 num:Int
 key:Vl
 val:Vl
instance:Inhabited An:=⟨⟨0,0,default,default⟩⟩
abbrev MY:Vl:=⟨0,0,0,⟨#[]⟩,0⟩
abbrev H7(a:An):Value:=.agg #[J a.code,J a.num,J a.key.kind,J a.key.num,F9 a.key.Af,.string a.key.str,J a.key.ref,J a.val.kind,J a.val.num,F9 a.val.Af,.string a.val.str,J a.val.ref]
def LJ(a:An):List Value:=[J a.code,J a.num,J a.key.kind,J a.key.num,F9 a.key.Af,.string a.key.str,J a.key.ref,J a.val.kind,J a.val.num,F9 a.val.Af,.string a.val.str,J a.val.ref]
def BA(c:Int):An:=⟨c,0,MY,MY⟩
def Dj(n:Int):An:=⟨0,n,MY,MY⟩
def Gb(v:Vl):An:=⟨0,0,MY,v⟩
def C2(v:Vl):Int:=if v.ok=true then(if v.kind=0 then 1 else if v.kind=3 then(if DT v.Af=true then 1 else 0)else 0)else 2
def Dk(v:Vl):Vl:=if v.ok=true then(if v.kind=0 then MY else if v.kind=3 then(if DT v.Af=true then MY else if Cj v.Af=true then⟨2,Nl v.Af,0,⟨#[]⟩,0⟩else v)else v)else MY
def Er v:Je v.kind v.num v.Af v.str v.ref=KV (C2 v) (Dk v).kind (Dk v).num (Dk v).Af (Dk v).str (Dk v).ref:=by
 show(if v.ok=true then _ else _)=_;grind [Je,C2,Dk]
def BH(s:ByteArray):Vl:=⟨4,0,0,s,0⟩
def Pl.wI(t:Pl)(n:Int):Int:=YG (λj=>decide (n<(t.P j).turn)) t.n
def Pl.next(t:Pl)(n:Int):Pr:=if t.wI n<0 then⟨MY,MY,0⟩else t.P (t.wI n).toNat
def Pl.has(t:Pl)(m:Int):Bool:=decide (0<=YG (λj=>(t.P j).key.kind==2&&(t.P j).key.num==m) t.n)
def jU(t:Pl):Nat->Nat->Nat
 |0,m=>m
 |k+1,m=>if t.has ((m:Int)+1)then jU t k (m+1)else m
def Pl.len(t:Pl):Nat:=jU t (t.n+1) 0
def Cz(op:Int):Bool:=op !=1&&op !=7
def DQ(op:Int):Bool:=op==8||op==9
def Hz(a:Ac)(nt ns:Nat):Int:=
 if Co a=false then 1 else if Cz a.op=true/\(nt:Int)<=a.t then 2 else if DQ a.op=true/\(ns:Int)<=a.site then 3
 else if(a.op=2\/a.op=3)/\C2 a.k≠0 then 4 else 0
def CJ{a}(h:Co a=true):0<=a.t/\0<=a.site/\a.k.ok=true/\a.v.ok=true/\0<=a.n/\1<=a.op/\a.op<=9:=by
 have h1:J3 a=true/\1<=a.op/\a.op<=9:=by
  unfold Co at h;cases b:J3 a
  .simp[b]at h
  refine⟨rfl,?_⟩;by_cases e1:a.op=1;· omega
  grind
 grind [J3]
def kV{s}(h:s.size<=4000):(BH s).ok=true:=by
 have a:fz 0=true:=oo;grind [BH,Vl.ok,A7]
theorem pO{v:Vl}(h:v.ok=true)(hk:v.kind=4):v.str.size<=4000:=by
 unfold Vl.ok A7 at h;simp[hk]at h;omega
def QV{a}(h:Co a=true)(b:a.op=7):a.k.kind=4:=by
 unfold Co at h;simp[b]at h;exact h.2.2
def FG{a}{nt ns}(h:Hz a nt ns=0):Co a=true/\(Cz a.op=true->a.t<nt)/\(DQ a.op=true->a.site<ns)/\((a.op=2\/a.op=3)->C2 a.k=0):=by
 unfold Hz at h;grind [Hz,Cz,C2]
theorem vC:∀(n m:Nat) (g:Nat->Nat),(∀j,j<m->g j<n)->(∀i j,i<m->j<m->g i=g j->i=j)->m<=n
 |0,m,g,h1,h2=>by
  rcases Aax m with h|h
  .omega
  have:=h1 0 h;omega
 |n+1,0,g,h1,h2=>om
 |n+1,m+1,g,h1,h2=>by
  have b:=h1 m om;have:=vC n m (λj=>if g j=n then g m else g j) (λj hj=>by
   show(if g j=n then g m else g j)<n;have a:=h1 j om;split
   .rename_i e
    have:g m≠n:=λe2=>oS<|h2 j m om om om;omega
   .omega) (λi j hi hj e=>by
   have e:(if g i=n then g m else g i)=(if g j=n then g m else g j):=e;split at e<;>split at e
   .exact h2 i j om om om
   .have:=h2 m j om om om;omega
   .have:=h2 i m om om om;omega
   exact h2 i j om om om)
  omega
def Pl.V1{t:Pl}(h:∀j,j<m->t.has ((j:Int)+1)=true):m<=t.n:=by
 have h':∀j,∃i,j<m->i<t.n/\(t.P i).key.num=(j:Int)+1:=λj=>by
  rcases Nat.lt_or_ge j m with hj|hj
  .have a:=h j hj;have a:=of_decide_eq_true a;rcases Jw (λq=>(t.P q).key.kind==2&&(t.P q).key.num==(j:Int)+1) t.n with e|⟨i,e,h1,h2⟩
   .omega
   have h2:(t.P i).key.kind=2/\(t.P i).key.num=(j:Int)+1:=by simpa using h2
   exact⟨i,λ_=>⟨h1,h2.2⟩⟩
  exact⟨0,λh=>om⟩
 refine vC t.n m (λj=>Classical.choose<|h' j) (λj hj=>(Classical.choose_spec (h' j) hj).1) λi j hi hj e=>?_;grind
theorem Yb{t:Pl}:∀k m:Nat,(∃q:Nat,m<=q/\q<m+k/\t.has ((q:Int)+1)=false)->∃q:Nat,jU t k m=q/\m<=q/\t.has ((q:Int)+1)=false/\∀j:Nat,m<=j->j<q->t.has ((j:Int)+1)=true
 |0,m,⟨q,h1,h2,_⟩=>om
 |k+1,m,⟨q,h1,h2,h3⟩=>by
  rw[jU];cases a:t.has ((m:Int)+1)
  .rw[Cs oq];exact⟨m,rfl,Be _,a,λj h1 h2=>om⟩
  rw[C3 rfl];have:q≠m:=λe=>by rw[e,a]at h3;cases h3
  obtain⟨r,g1,g2,g3,g4⟩:=Yb (t:=t) k (m+1) ⟨q,om,om,h3⟩;refine⟨r,g1,om,g3,λj h5 b=>?_⟩;rcases(by omega:j=m\/m+1<=j)with rfl|h
  .exact a
  exact g4 j h b
def Pl.oK(t:Pl):t.has ((t.len:Int)+1)=false/\∀j,j<t.len->t.has ((j:Int)+1)=true:=by
 have hex:∃q:Nat,0<=q/\q<0+(t.n+1)/\t.has ((q:Int)+1)=false:=by
  rcases Classical.em (∃q:Nat,q<t.n+1/\t.has ((q:Int)+1)=false)with⟨q,h1,h2⟩|h
  .grind
  have:=Pl.V1 λj hj=>by
   cases e:t.has<|(j:Int)+1
   .exact absurd ⟨j,hj,e⟩ h
   rfl
  omega
 obtain⟨q,h1,h2,h3,h4⟩:=Yb (t.n+1) 0 hex;have:t.len=q:=h1;grind
def Pl.Wl{t:Pl}(h1:∀j,j<m->t.has ((j:Int)+1)=true)(h2:t.has ((m)+1)=false):t.len=m:=by
 obtain⟨g1,g2⟩:=t.oK;grind
abbrev mK(b:Bool)(p:Pr):Value:=.agg #[.bool b,J p.key.kind,J p.key.num,F9 p.key.Af,.string p.key.str,J p.key.ref,J p.val.kind,J p.val.num,F9 p.val.Af,.string p.val.str,J p.val.ref,J p.turn]
def Zh L(t:Pl)m{w}(M:JY w a t.n t.P)(hn:t.n<=500)(T:0<=m):
  C9 93 #[.slice a t.n L,J m] w (R9 (mK (decide (0<=t.wI m))<|t.next m) w):=by
 go_enter func93,ntmps93;go_wp2;go_loopw [9] (λi wr=>∃k:Nat,k<=t.n/\i=J k/\t.wI m=VO (λj=>decide (m<(t.P j).turn)) (t.n-k) k/\w.heap.size<wr.heap.size/\(∀o,o<12->wr.cell? (y w o)=(w.alloc<|.cells #[.bool false,J 0,J 0,F9 0,E9,J 0,J 0,J 0,F9 0,E9,J 0,J 0] 179).cell? (y w o))/\(∀o,wr.frozen? (y w o)=false)/\B9 w wr) λi _=>t.n-(intOf i).toNat
 .exact⟨0,om,rfl,rfl,oq,λo _=>rfl,λo=>oe,n9⟩
 obtain⟨k,hk,rfl,r,hz,c,s,hb⟩:=hrel;have e:=O r;have u:=O c;have r0:=(c 0 om).trans (by simp[go_sem]:_=some (.bool false));have r1:=(c 1 om).trans (by simp[go_sem]:_=some (J 0));have r2:=(c 2 om).trans (by simp[go_sem]:_=some (J 0));have r3:=(c 3 om).trans (by simp[go_sem]:_=some (F9 0));have C:=(c 4 om).trans (by simp[go_sem]:_=some E9);have D:=(c 5 om).trans (by simp[go_sem]:_=some (J 0));have E:=(c 6 om).trans (by simp[go_sem]:_=some (J 0));have F:=(c 7 om).trans (by simp[go_sem]:_=some (J 0));have H:=(c 8 om).trans (by simp[go_sem]:_=some (F9 0));have I:=(c 9 om).trans (by simp[go_sem]:_=some E9);have f:=(c 10 om).trans (by simp[go_sem]:_=some (J 0));have g:=(c 11 om).trans (by simp[go_sem]:_=some (J 0));by_cases d:k<t.n
 .obtain⟨b,off,rfl,x,hcs⟩:=(z<|O M).resolve_left om;obtain⟨e0,e1,e2,e3,U,V,W,X,Z,e9,Q⟩:=(hcs k d).keep λq=>hb.cell x;have l:=O hb;by_cases hp:0<(t.P k).turn
  focus
   by_cases R:m<(t.P k).turn
   .have A:Hid<|mK (decide (0<=t.wI m)) (t.next m)=mK true (t.P k):=O (by
     have h:=e.trans (iP d (by simp[R]));unfold Pl.next;rw[h,Cs om];simp)
    go_wp2;refine GO (v:=mK true<|t.P k) (by simp[results,results93,go_sem,hz,r0,r1,r2,r3,C,D,E,F,H,I,f,g]) rfl ⟨qh A,?_⟩;refine Below.alloc ?_ (by have:=l.size;simpa using this) _;iterate 12 (refine NO ?_ (by exact Be _) _)
    exact l
   have K:=O<|e.trans<|Tx d ot
  rotate_left
  focus
   have K:=O<|e.trans<|Tx d ot
  all_goals
   go_wp2;go_roundw
   .exact⟨k+1,om,ov,K,ot,λo S=>(Hi _ _ _<|by exact hz).trans<|u o S,λo=>o7 ((BE wr.heap.size wr).alloc (Be _) _) hz<|s o,l.alloc l.size _⟩
   exact ow
 have A:Hid<|mK (decide (0<=t.wI m)) (t.next m)=mK false ⟨MY,MY,0⟩:=O (by
  have h:=e.trans (iO d);unfold Pl.next;rw[h,C3 om];simp)
 have B:k=t.n:=om;subst B;go_wp2;refine GO (v:=mK false ⟨MY,MY,0⟩) (by simp[results,results93,go_sem,r0,r1,r2,r3,C,D,E,F,H,I,f,g]) rfl ⟨qh A,?_⟩;iterate 12 (refine NO ?_ (by exact Be _) _)
 exact z<|O hb
def Pl.jG(t:Pl)m:t.has m=true↔∃j,j<t.n/\((t.P j).key.kind=2/\(t.P j).key.num=m):=by
 rw[Pl.has];constructor
 .grind [Jw]
 rintro⟨j,h1,h2,h3⟩;apply decide_eq_true;rcases Jw (λj=>(t.P j).key.kind==2&&(t.P j).key.num==m) t.n with e|⟨i,e,_,_⟩
 .have:=Hg e j (W9 _) om;simp[h2,h3]at this
 omega
abbrev F6(a:Ac):Array Value:=qg a
abbrev Xp:Array Value:=#[J 0,J 0,J 0,J 0,F9 0,E9,J 0,J 0,J 0,F9 0,E9,J 0]
def Pl.ask(t:Pl)(a:Ac):An:=
 if a.op=4 then⟨0,(t.next a.n).turn,(t.next a.n).key,(t.next a.n).val⟩
 else if a.op=6 then Dj t.n else Dj t.len
def MH{B}{a:Y}(h:Below B a w)b(hb:B<=b)v0 v1 v2 v3 v4 v5 v6 e v8 v9 c d:
  Below B a ((((((((((((w.setCell (G b 0) v0).setCell (G b 1) v1).setCell (G b 2) v2).setCell (G b 3) v3).setCell (G b 4) v4).setCell (G b 5) v5).setCell (G b 6) v6).setCell (G b 7) e).setCell (G b 8) v8).setCell (G b 9) v9).setCell (G b 10) c).setCell (G b 11) d):=by
 iterate 12 (refine NO ?_ (by exact hb) _)
 exact h
def Zl cp(t:Pl)a{w}(hP:JY w la t.n t.P)(hn:t.n<=500)(hm:0<=a.n):
  C9 52 #[.slice la t.n cp,KI a] w (R9 (H7<|t.ask a) w):=by
 obtain⟨W,f,r,_⟩:=Tk w (.cells (F6 a) 51)<|.cells Xp 45;have hz:w.heap.size+1<W.heap.size:=by rw[f];simp
 obtain⟨c0,c3⟩:W.cell? (y w 0)=some (J a.op)/\W.cell? (y w 3)=some (J a.n):=by rw[f];simp[go_sem]
 have hA:∀j u,Xp.toList[j]?=some u->W.cell? (Y9 w j)=some u:=λj u h=>by
  rw[f,World.cell?_alloc_at _ _ _ _ oq];simpa using h
 have hF:∀q,W.frozen? (Y9 w q)=false:=λq=>by rw[f];simp[go_sem]
 rcases O (hP.below r rfl),O r,O hA,O hF with⟨HP,g,HA,HF⟩;have AN:∀{w':Y},B9 W w'->(∀j u,Xp.toList[j]?=some u->w'.cell? (Y9 w j)=some u)/\(∀q,w'.frozen? (Y9 w q)=false):=λ{w'} hb=>⟨λj u h=>oT hb hz<|HA j u h,λq=>o7 hb hz<|HF q⟩;have H:Hid (∀w':World,B9 W w'->(∀j u,Xp.toList[j]?=some u->w'.cell? (Y9 w j)=some u)/\(∀q,w'.frozen? (Y9 w q)=false)):=O λw'=>AN;clear hP r hA hF AN;by_cases h4:a.op=4
 .have I:Hid<|t.ask a=⟨0,(t.next a.n).turn,(t.next a.n).key,(t.next a.n).val⟩:=O (by unfold Pl.ask;rw[C3 h4]);have d4:(a.op==4)=true:=by simp[h4]
  clear h4;go_enter func52,ntmps52;go_wp2_with fail;rw[<-f];clear f;go_wp2_with fail;refine m9 (Zh cp t a.n HP hn hm) λw1 k=>?_;generalize t.next a.n=x at*;obtain⟨g1,g2⟩:=z H _ k;rcases qb g1,A0 hz k.size,O (o8 g k) with⟨⟨r0,r1,r2,r3,S,T,U,V,X,Z,s,A⟩,K,L⟩;have G2:=g2;clear k g1 c0 c3;go_wp2_with fail;refine GO (v:=H7 ⟨0,x.turn,x.key,x.val⟩) (by simp[results,results52,go_sem,K,r0,r1,r2,r3,S,T,U,V,X,Z,s,A]) rfl ⟨qh I,?_⟩;refine Below.alloc ?_ (by have:=L.size;simpa using this) _;exact MH L _ om _ _ _ _ _ _ _ _ _ _ _ _
 by_cases D:a.op=6
 .have I:Hid<|t.ask a=Dj t.n:=O (by unfold Pl.ask;rw[Cs h4,C3 D]);have d4:(a.op==4)=false:=by simp[h4]
  have d6:(a.op==6)=true:=by simp[D]
  clear h4 D;go_enter func52,ntmps52;go_wp2_with fail;refine GO (v:=H7<|Dj t.n) (by simp[results,results52,go_sem,Dj]) rfl ⟨qh I,?_⟩;exact(n9).alloc oq _
 have I:Hid<|t.ask a=Dj t.len:=O (by unfold Pl.ask;rw[Cs h4,Cs D]);have d4:(a.op==4)=false:=by simp[h4]
 have d6:(a.op==6)=false:=by simp[D]
 clear h4 D;go_enter func52,ntmps52;go_wp2_with fail;rw[<-f];clear f;go_wp2_with fail;clear c0 c3;go_loopw [6] (λi wr=>∃m:Nat,(∀j,j<m->t.has ((j:Int)+1)=true)/\i=J m/\B9 W wr) λi _=>501-(intOf i).toNat
 .exact⟨0,λj hj=>absurd hj<|To _,rfl,BE _ _⟩
 obtain⟨m,B,rfl,hb⟩:=hrel;rcases Pl.V1 B,hb.size,O hb,O B with⟨ag,ah,HB,HM⟩;clear hb B;go_wp2_with fail;go_loopw [7,35] (λb i wq=>∃(C:Bool) (q:Nat),q<=t.n/\b=.bool C/\i=J q/\(C=true↔∃j,j<q/\((t.P j).key.kind=2/\(t.P j).key.num=(m:Int)+1))/\B9 W wq) λ_ i _=>t.n-(intOf i).toNat
 .exact⟨false,0,W9 _,rfl,rfl,⟨λh=>by(cases h),λ⟨j,h,_⟩=>absurd h<|To _⟩,HB⟩
 obtain⟨C,q,hq,rfl,rfl,l,d⟩:=hrel;rcases d.size,O d,O l with⟨c,e,ad⟩;by_cases M:q<t.n
 .obtain⟨b,off,rfl,ae,hcs⟩:=HP.resolve_left om;obtain⟨e0,e1,e2,e3,e4,e5,e6,e7,e8,e9,ai⟩:=(hcs q M).keep λj=>d.cell ae;clear hcs d l;have HS:∀x:Bool,(x=true↔C=true\/((t.P q).key.kind=2/\(t.P q).key.num=(m:Int)+1))->(x=true↔∃j,j<q+1/\((t.P j).key.kind=2/\(t.P j).key.num=(m:Int)+1)):=λx hx=>hx.trans ((or_congr ad Iff.rfl).trans ⟨λh=>h.elim (λ⟨j,h1,h2⟩=>⟨j,om,h2⟩) λh=>⟨q,om,h⟩,λ⟨j,h1,h2⟩=>by
   rcases(by omega:j<q\/j=q)with h|rfl
   .exact .inl ⟨j,h,h2⟩
   exact .inr h2⟩)
  have o:=O HS;clear HS;cases C
  .by_cases hk:(t.P q).key.kind=2
   focus
    by_cases E:(t.P q).key.num=(m:Int)+1
    .have F:=O<|o true (by simp[hk,E]);have d1:((t.P q).key.kind==2)=true:=by simp[hk]
     have d2:((t.P q).key.num==(m:Int)+1)=true:=by simp[E]
     clear hk E;go_wp2_with fail;go_roundw
     .exact⟨true,q+1,om,rfl,ov,F,e.alloc c _⟩
     exact ow
    have F:=O<|o false (by simp[hk,E]);have d1:((t.P q).key.kind==2)=true:=by simp[hk]
    have d2:((t.P q).key.num==(m:Int)+1)=false:=by simp[E]
    clear hk E
   rotate_left
   focus
    have F:=O<|o false (by simp[hk]);have d1:((t.P q).key.kind==2)=false:=by simp[hk]
    clear hk
   all_goals
    go_wp2_with fail
    go_roundw
    .exact⟨false,q+1,om,rfl,ov,F,e.alloc c _⟩
    exact ow
  have F:=O<|o true oq;go_wp2_with fail;go_roundw
  .exact⟨true,q+1,om,rfl,ov,F,e.alloc c _⟩
  exact ow
 have af:q=t.n:=om;subst af;have R:C=t.has ((m:Int)+1):=by
  rw[Bool.eq_iff_iff,l,Pl.jG]
 clear l M;obtain⟨g1,g2⟩:=z H _ d;obtain⟨r0,r1,r2,r3,S,T,U,V,X,Z,s,A⟩:=qb g1;have K:=A0 hz c;clear g1 d;cases C
 .have HL:=O<|Pl.Wl HM R.symm;clear R;go_wp2_with fail;refine GO (v:=H7<|Dj m) (by simp[results,results52,go_sem,r0,r1,r2,r3,S,T,U,V,X,Z,s,A,Dj]) rfl ⟨by rw[z I,z HL],?_⟩;exact MH (o8 g e) _ om _ _ _ _ _ _ _ _ _ _ _ _
 have Q:Hid<|∀j,j<m+1->t.has ((j:Int)+1)=true:=O (λj hj=>by
  rcases(by omega:j<m\/j=m)with h|rfl
  .exact HM j h
  exact R.symm)
 have aj:=Pl.V1 Q;clear R;go_wp2_with fail;go_roundw
 .exact⟨m+1,Q,ov,e⟩
 exact ow
def QK(f:Nat->Bh)(n:Nat):List Value:=(List.range<|n*3).map<|cellOf f
def N5(h:j<n*3):(QK f n)[j]?=some (cellOf f j):=by simp[QK,h]
def PT f n s(hs:f n=s):QK f n++[J s.parent,.string s.key,J s.count]=QK f (n+1):=by
 unfold QK;grind [show(n+1)*3=n*3+1+1+1 by omega,List.range_succ,List.range_succ,List.range_succ,QK,NM,NN,NP]
theorem ZP{g}(h:∀i,i<n->f i=g i):QK f n=QK g n:=by
 refine List.map_congr_left λj hj=>?_;grind [cellOf]
abbrev EY(w:Y)(base:Nat)(v:V9)(n:Nat)(f:Nat->Bh):Prop:=w.ownsRow base 142 3 v n<|QK f n
def rJ(w:Y)o x Z X:∀j u,[x,Z,X][j]?=some u->((w.alloc o).alloc<|.cells #[x,Z,X] 142).cell? (((Y9 w 0):Addr).add j)=some u:=λj u h=>by
 have hb:=DD (w.alloc o)<|.cells #[x,Z,X] 142;rw[Deep.nblk_alloc]at hb;exact ID hb j u h
def R3{wr w1:Y}{o1 o2}{u:V9}{Z}(a:∀q,v.ownBlock=some q->Z+3<=q/\q<wr.heap.size)(b:((wr.alloc o1).alloc o2).grownBy w1 v.ownBlock)(hz:Z+2<wr.heap.size)
  (x0:wr.cell? (G (Z+2) 0)=some u) (f0:wr.frozen? (G (Z+2) 0)=false):w1.cell? (G (Z+1+1) 0)=some u/\w1.frozen? (G (Z+1+1) 0)=false/\Hid (wr.grownBy w1 v.ownBlock/\∀q,q<Z+3->w1.heap[q]?=wr.heap[q]?):=by
 have c:=((AaY wr o1 _).trans<|AaY _ o2 _).trans b;have hq:∀q,q<Z+3->w1.heap[q]?=wr.heap[q]?:=λq hq=>c.block q om λe=>oS (a q e.symm).1;exact⟨(As<|hq _<|by show Z+1+1<Z+3;omega).trans x0,(It<|hq _<|by show Z+1+1<Z+3;omega).trans f0,O ⟨c,hq⟩⟩
def Wc cap{f}{w}(hA:Bd w b n f)(hn:n<=200):
  C9 44 #[.agg #[S9 b n cap]] w λe w'=>(∃v,e=.returned (.agg #[v])/\EY w' w.heap.size v n f)/\B9 w w':=by
 have hl:=hA.lt;obtain⟨i0,hi,s,c,t⟩:=ON JI;go_enter func44,ntmps44;go_wp2;go_loopw [9] (λi wr=>∃(k:Nat) (v:V9),k<=n/\i=J k/\wr.cell? (G (w.heap.size+2) 0)=some v/\wr.frozen? (G (w.heap.size+2) 0)=false/\wr.cell? (Y9 w 0)=some (N9)/\wr.frozen? (Y9 w 0)=false/\w.heap.size+2<wr.heap.size/\EY wr (w.heap.size+3) v k f/\B9 w wr) λi _=>n-(intOf i).toNat
 .refine⟨0,N9,om,rfl,oe,oe,oe,oe,oq,?_,((n9).alloc oq _).alloc ot _⟩;exact NB _ _ _ _
 obtain⟨k,v,hk,rfl,x0,f0,x1,f1,hz,r,hb⟩:=hrel;have c0:k<n->wr.cell? (G b<|k*3)=some (J (f k).parent):=λh=>((hA.below hb hl).cells h).1;have c1:k<n->wr.cell? (G b<|k*3+1)=some (.string (f k).key):=λh=>((hA.below hb hl).cells h).2.1;have c2:k<n->wr.cell? (G b<|k*3+2)=some (J (f k).count):=λh=>((hA.below hb hl).cells h).2.2;have u:=r.lt;by_cases d:k<n
 case neg=>
  have j:k=n:=om;subst j;have E:=x1;rcases r.2 with⟨x,A⟩|⟨g,l,cur,x,F,_⟩
  .subst x;go_wp2;refine GO (v:=.agg #[N9]) (by simp[results,results44,go_sem,x1]) rfl ⟨⟨_,rfl,?_⟩,hb.setCell (by show _<=w.heap.size+1;omega) _⟩;subst A;exact NB _ _ _ _
  subst x;go_wp2;refine GO (v:=.agg #[S9 g k l]) (by simp[results,results44,go_sem,x1]) rfl ⟨⟨_,rfl,?_⟩,hb.setCell (by show _<=w.heap.size+1;omega) _⟩;have hk:EY (wr.setCell (Y9 w 0)<|S9 g k l) (w.heap.size+3) (S9 g k l) k f:=r.kept (CF wr _ _)<|.inr (by simp[Value.ownBlock];omega);exact Eg hk om
 rcases c0 d,c1 d,c2 d with⟨d0,d1,d2⟩;go_wp2_with (first|(at_builtin;refine So _ rfl _ _ 36 rfl (w.heap.size+3) 142 i0 (Sh 0 ⟨#[]⟩ 0) 3 32 underlying36 hi s c t rfl oo v k (QK f k) rfl ((r.alloc _).alloc _) (Y9 wr 0) 1 1 [J (f k).parent,.string (f k).key,J (f k).count] rfl rfl (rJ wr _ _ _ _) oh oo od om ot _ rfl ?_;intro g l w1 a m C D;obtain⟨H,e0,I⟩:=R3 u m hz x0 f0;have B:=O a;clear a m)|go_in);obtain⟨o,hq⟩:=z I;have a:=z B;rw[PT f k (f k) rfl]at a;have K:=(a.lt g rfl).1;have p:=hb.trans ⟨o.os,o.tape,o.output,o.size,λq L=>hq q om⟩;have c:=A0 hz o.size;go_roundw
 .refine⟨k+1,S9 g (k+1) l,om,ov,?_,?_,?_,?_,by simpa using c,a.kept (CF w1 _ _)<|.inr<|by simp[Value.ownBlock];omega,p.setCell (by show _<=w.heap.size+1+1;omega) _⟩
  .show(w1.setCell (Z9 w 0) _).cell? (Z9 w 0)=_;simp[go_sem,H]
  .rw[OR];exact e0
  .exact(As<|(At _ _ _ _<|by show w.heap.size+1≠w.heap.size+1+1;omega).trans<|hq _<|by show w.heap.size+1<w.heap.size+3;omega).trans x1
  rw[OR];exact(It<|hq _<|by show w.heap.size+1<w.heap.size+3;omega).trans f1
 exact ow
def KJ(n:Nat)(f:Nat->Bh)(i:Nat)(key:ByteArray)(j:Nat):Prop:=0<j/\j<n/\(f j).parent=i/\(f j).key.toList=key.toList
def KJ.unique(h4:D9 n f)(hj:KJ n f i key j)(hk:KJ n f i key k):j=k:=by
 obtain⟨a1,a2,a3,a4⟩:=hj;obtain⟨b1,b2,b3,b4⟩:=hk;rcases Nat.lt_trichotomy j k with h|h|h
 .exact absurd ⟨a3.trans b3.symm,a4.trans b4.symm⟩ (h4 k j a1 h b2)
 .exact h
 exact absurd ⟨b3.trans a3.symm,b4.trans a4.symm⟩<|h4 j k b1 h a2
def grown(f:Nat->Bh)(n i:Nat)(key:ByteArray)(j:Nat):Bh:=if j=n then⟨i,key,(f i).count+1⟩else f j
def Oc(n:Nat)(f:Nat->Bh)(i:Nat)(key:ByteArray)(n':Nat)(f':Nat->Bh)(r:Int):Prop:=
 (∃j,KJ n f i key j/\r=j/\n'=n/\f'=f)\/
 ((∀j,¬KJ n f i key j)/\((f i).count=12\/n=200)/\r=-1/\n'=n/\f'=f)\/
 ((∀j,¬KJ n f i key j)/\(f i).count≠12/\n≠200/\r=n/\n'=n+1/\f'=grown f n i key)
def Oc.unique{a}{f1 f2}{r1 r2}(h4:D9 n f)(h:Oc n f i key a f1 r1)(h':Oc n f i key b f2 r2):a=b/\f1=f2/\r1=r2:=by
 rcases h with⟨j,a1,a2,a3,a4⟩|⟨a1,a2,a3,a4,a5⟩|⟨a1,a2,a3,a4,a5,c⟩
 .rcases h' with⟨k,b1,b2,b3,b4⟩|⟨b1,_⟩|⟨b1,_⟩
  .have:=a1.unique h4 b1;all_goals grind [Oc]
  all_goals grind [Oc]
 all_goals grind [Oc]
def ZQ f(n i:Nat)key:QK f n++[J (i),.string key,J ((f i).count+1)]=QK (grown f n i key) (n+1):=by
 rw[<-PT (grown f n i key) n ⟨i,key,(f i).count+1⟩ (by simp[grown])];grind [grown,ZP]
def EY.cells{base a}(h:EY w base (S9 b n a) n f){i}(hi:i<n):
  w.cell? (G b<|i*3)=some (J (f i).parent)/\w.cell? (G b<|i*3+1)=some (.string (f i).key)/\w.cell? (G b<|i*3+2)=some (J (f i).count):=
 ⟨by rw[On h _ om,N5 om,NM],by rw[On h _ om,N5 om,NN],by rw[On h _ om,N5 om,NP]⟩
def Kl{o}{a}(h:w.cell? a=some v):(w.alloc o).cell? a=some v:=by rw[Hi _ _ _ (IF w a h)];exact h
structure Yy (ob b:Nat) (w w':Y):Prop where
 os:w'.os=w.os
 tape:w'.tape=w.tape
 output:w'.output=w.output
 size:w.heap.size<=w'.heap.size
 block:∀k,k<w.heap.size->k≠ob->k≠b->w'.heap[k]?=w.heap[k]?
 box:w'.heap[ob]?=w.heap[ob]?\/∃u,∀cs ty,w.heap[ob]?=some (.cells cs ty (0,0))->w'.heap[ob]?=some (.cells (cs.setIfInBounds 0 u) ty (0,0))
def Yy.of{ob}(h:B9 w w')(a:ob<w.heap.size):Yy ob b w w':=⟨h.os,h.tape,h.output,h.size,λk hk _ _=>h.block k hk,.inl<|h.block ob a⟩
def Uo(ob b){n}(g i base)(key){f}(w)(K:w.cell? (G ob 0)=some (S9 b n g))(ae:w.frozen? (G ob 0)=false)(hO:EY w base (S9 b n g) n f)(x:ob≠b)(l:ob<w.heap.size)(ad:base<=w.heap.size)
  (h1:Dm n) (h2:Ba f) (h3:Bc n f) (hi:i<n):
  C9 87 #[Q9 ob,J i,.string key] w λe w'=>(∃r n' f',e=.returned (J r)/\Oc n f i key n' f' r/\∃b' L,ob≠b'/\(b'=b\/w.heap.size<=b')/\w'.frozen? (G ob 0)=false/\w'.cell? (G ob 0)=some (S9 b' n' L)/\EY w' base (S9 b' n' L) n' f')/\Yy ob b w w':=by
 rcases h1.2,ON JI,Bb h2 (λj h1 h2=>h3 j h1 h2) i hi with⟨ay,⟨i0,af,ag,ah,ai⟩,⟨az,aM⟩⟩;clear h1 h2 h3;go_enter func87,ntmps87;go_wp2;go_loopw [14] (λv wr=>∃k:Nat,k<=n/\v=J k/\B9 w wr/\∀j,j<k->¬KJ n f i key j) λv _=>n-(intOf v).toNat
 .exact⟨0,om,rfl,BE _ _,λj hj=>om⟩
 obtain⟨k,hk,rfl,hb,B⟩:=hrel;have hOr:EY wr base (S9 b n g) n f:=hO.kept ⟨hb.os,hb.tape,hb.output,hb.size,λq hq _=>hb.block q hq⟩ (.inr<|by simp[Value.ownBlock]) (row:=none);have xb:=(hb.cell<|by show ob<w.heap.size;omega).trans K;have xf:wr.frozen? (G ob 0)=false:=(It<|hb.block ob om).trans ae;have hz:=hb.size;have C:=O B;clear B;by_cases M:k<n
 .obtain⟨d0,d1,d2⟩:=hOr.cells M;by_cases aj:k=0
  .subst aj;go_wp2;go_roundw
   .exact⟨1,om,ov,hb.alloc om _,λj hj hK=>oS hK.1⟩
   exact ow
  have DB:0<k:=om;by_cases D:(f k).parent=i
  focus
   by_cases hK:(f k).key.toList=key.toList
   .have e1:((f k).parent==(i:Int))=true:=by simp[D]
    have e2:((f k).key.toList==key.toList)=true:=by simp[hK]
    have ak:Hid<|KJ n f i key k:=O ⟨DB,M,D,hK⟩;clear D hK;go_wp2;go_ret;exact⟨⟨k,n,f,rfl,.inl ⟨k,ak,rfl,rfl,rfl⟩,b,g,x,.inl rfl,(It (w:=wr)<|DO _ _ _<|by show ob<wr.heap.size;omega).trans xf,Kl xb,hOr.alloc _⟩,.of (hb.alloc om _) l⟩
   have e1:((f k).parent==(i:Int))=true:=by simp[D]
   have e2:((f k).key.toList==key.toList)=false:=by simp[hK]
   have P:Hid<|¬KJ n f i key k:=O λh=>hK h.2.2.2;clear D hK
  rotate_left
  focus
   have e1:((f k).parent==(i:Int))=false:=by simp[D]
   have P:Hid<|¬KJ n f i key k:=O λh=>D h.2.2.1;clear D
  all_goals
   go_wp2;go_roundw
   .refine⟨k+1,om,ov,hb.alloc om _,λj hj=>?_⟩;by_cases e:j=k
    .rw[e];exact P
    exact C j om
   exact ow
 have F:Hid<|∀j,¬KJ n f i key j:=O λj hK=>C j (oS hK.2.1) hK;obtain⟨d0,d1,d2⟩:=hOr.cells hi;by_cases d:(f i).count=12
 .have e1:((f i).count==12)=true:=by simp[d]
  have ao:=O d;clear d;go_wp2;go_ret;exact⟨⟨-1,n,f,rfl,.inr<|.inl ⟨F,.inl ao,rfl,rfl,rfl⟩,b,g,x,.inl rfl,xf,xb,hOr⟩,.of hb l⟩
 have e1:((f i).count==12)=false:=by simp[d]
 by_cases a:n=200
 .have e2:((n:Int)==200)=true:=by simp[a]
  have Q:=O a;clear a;go_wp2;go_ret;exact⟨⟨-1,n,f,rfl,.inr<|.inl ⟨F,.inr Q,rfl,rfl,rfl⟩,b,g,x,.inl rfl,xf,xb,hOr⟩,.of hb l⟩
 have e2:((n:Int)==200)=false:=ot;have HX:=O<|ql d a;have hw:IntKind.i64.wrap ((f i).count+1)=(f i).count+1:=oj;have a6:n+1<=200:=om;clear d d0 d1;go_wp2;have R:ob<wr.heap.size:=om;obtain⟨ns,m⟩:∃ns:List Value,ns=[J (i:Int),.string key,J ((f i).count+1)]:=⟨_,rfl⟩;have S:Hid<|(wr.alloc<|.cells #[J (i:Int),.string key,J ((f i).count+1)] 142).drew.ownsRow base 142 3 (S9 b n g) n<|QK f n:=O (hOr.alloc _).drew;have T:Hid<|∀j u,ns[j]?=some u->(wr.alloc<|.cells #[J (i:Int),.string key,J ((f i).count+1)] 142).drew.cell? (((y wr 0):Addr).add j)=some u:=O (by rw[m];exact ID<|DD wr<|.cells #[J (i:Int),.string key,J ((f i).count+1)] 142);have U:ns.length=1*3:=qi m
 have E:∀u∈ns,u.oneCell'=true:=by rw[m];simp[Value.oneCell']
 have V:base<=(wr.alloc<|.cells #[J (i:Int),.string key,J ((f i).count+1)] 142).drew.heap.size:=ot;have aq:=O m;have H:Hid<|(wr.alloc<|.cells #[J (i:Int),.string key,J ((f i).count+1)] 142).drew.cell? (G ob 0)=some (S9 b n g)/\(wr.alloc<|.cells #[J (i:Int),.string key,J ((f i).count+1)] 142).drew.frozen? (G ob 0)=false:=O ⟨Kl xb,(It (w:=wr)<|DO _ _ _ R).trans xf⟩;have o:some ob≠(Value.slice (some<|G b 0) n g).ownBlock:=oF x;clear m
 go_region_law (refine Wx _ rfl (.tmp 56) (.tmp 69) 36 rfl base 142 i0 (Sh 0 ⟨#[]⟩ 0) 3 32 underlying36 af ag ah ai rfl oo (S9 b n g) n (QK f n) og S (y wr 0) 1 1 ns og U T E oo od om V _ rfl ?_;intro g3 A w3 p c s ax;have y3:w3.cell? (G ob 0)=some (S9 b n g):=c.cell H.1 o;have e3:w3.frozen? (G ob 0)=false:=(It<|c.block ob ot o).trans H.2;have W:=O p;have X:=O c;clear p c)
 all_goals
  have ar:EY w3 base (S9 g3 (n+1) A) (n+1)<|grown f n i key:=by
   have h:=z W;rw[z aq,ZQ]at h;exact h
  have au:g3≠ob:=by
   rcases s with h|h
   .simp[Value.ownBlock]at h;omega
   simp at h;omega
  have Z:Yy ob b w<|w3.setCell (G ob 0)<|S9 g3 (n+1) A:=by
   have I:=z X;have t:=hb;have a7:wr.heap.size+1<=w3.heap.size:=by have:=I.size;simpa using this
   refine⟨I.os.trans t.os,I.tape.trans t.tape,I.output.trans t.output,ot,λq hq av a8=>?_,.inr ⟨S9 g3 (n+1) A,λcs ty e=>?_⟩⟩
   .rw[At _ _ _ _ av,I.block q ot (by simp[Value.ownBlock];omega)];exact(DO wr _ q om).trans (t.block q om)
   have e':=((I.block ob ot o).trans<|(DO wr _ ob om).trans<|t.block ob om).trans e;simp[World.setCell,Array.getElem?_modify,e']
  have aw:g3=b\/w.heap.size<=g3:=by
   rcases s with h|h
   .simp[Value.ownBlock]at h;omega
   simp at h;omega
  clear X W S T H U E V;go_wp2;go_ret;refine⟨⟨n,n+1,grown f n i key,by first|rfl|simp,.inr<|.inr ⟨F,HX.1,HX.2,rfl,rfl,rfl⟩,g3,A,λe=>au e.symm,aw,by rw[OR];exact e3,?_,ar.kept (CF w3 _ _)<|.inr<|by simp[Value.ownBlock];omega⟩,Z⟩;simp[go_sem,y3]
def Pn b n cap Z g w(hA:w.rowIs b 142 Z g)(hN:n*3<=Z)(hn:n<=1048576):
  C9 67 #[S9 b n cap,J 1] w λe w'=>e=.returned (J<|1+3*(n:Int))/\Bt b w w':=by
 have p:=O hA;clear hA;go_enter func67,ntmps67;go_wp2;go_loopw [1,5] (λq i wr=>∃(k:Nat) (g:Nat->Value),k<=n/\i=J k/\q=J ((1+3*k:Nat):Int)/\Bt b w wr/\wr.rowIs b 142 Z g) λ_ i _=>n-(intOf i).toNat
 .exact⟨0,g,om,rfl,rfl,Bt.refl _ _,p⟩
 obtain⟨k,g,hk,rfl,rfl,hb,c⟩:=hrel;have d0:k<n->wr.cell? (G b<|k*3)=some (g<|k*3):=λh=>c.cell om;have d1:k<n->wr.cell? (G b<|k*3+1)=some (g<|k*3+1):=λh=>c.cell om;have d2:k<n->wr.cell? (G b<|k*3+2)=some (g<|k*3+2):=λh=>c.cell om;rcases c.frozen (k*3),c.frozen<|k*3+1,c.frozen<|k*3+2,c.lt,O hb,O c with⟨e0,e1,e2,j,o,r⟩;clear hb c;go_wp2_with fail
 .have s:k<n:=ol;have d:=BF (2+3*k) om<|wr.setCell (G b<|k*3)<|J<|1+3*(k:Int);rw[show((2+3*k:Nat):Int)=1+3*(k:Int)+1 by omega]at d;refine d.mono ?_;rintro e w1 ⟨rfl,f⟩;have a:=(r.set (k*3)<|J<|1+3*(k:Int)).of_block<|f.block b (by simpa using j);have f1:=a.cell (i:=k*3+1) om;rcases a.cell (i:=k*3+2) om,a.frozen<|k*3+1,a.frozen<|k*3+2,O<|o.trans<|(Bt.set b (k*3) wr<|J<|1+3*(k:Int)).trans<|Bt.of f,O a with⟨f2,f3,f4,l,m⟩;clear d f a d0 d1 d2 e0 e1 e2;go_wp2;go_roundw
  .exact⟨k+1,_,om,ov,ov,(l.trans<|Bt.set b _ _ _).trans<|Bt.set b _ _ _,(m.set _ _).set _ _⟩
  exact ow
 have:k=n:=om;subst this;go_ret;exact⟨by show Ending.returned (Value.int .i64 ((1+3*k:Nat):Int))=_;congr 2,o⟩
def Pk cap{f}{w}(hA:Bd w b n f)(hn:n<=1048576):
  C9 34 #[.agg #[S9 b n cap],J 1] w λe w'=>e=.returned (J<|1+3*(n:Int))/\Bt b w w':=by
 have hl:=hA.lt;have a:B9 w<|w.alloc<|.cells #[S9 b n cap] 38:=n9;obtain⟨Z,g,hN,i,_⟩:=hA.below a hl;have j:=O i;have d:=O a;clear hA a i;go_enter func34,ntmps34;go_wp2_with fail;refine(Pn b n cap Z g _ j hN hn).mono ?_;rintro e w1 ⟨rfl,c⟩;have h:=O<|(Bt.of d).trans c;clear c;go_wp2;go_ret;exact⟨rfl,h⟩
end Go.Proofs.YtoobllcjfinmoaaGreatDoor
