import Derived.Test.YtoobllcjfinmoaaGreatDoorSDAC
set_option linter.all false
set_option maxHeartbeats 40000000
set_option maxRecDepth 100000
namespace Go.Proofs.YtoobllcjfinmoaaGreatDoor
open Go.Proofs.Tryz
open Go.RowKit
attribute [local go_sem] Ar Am
variable {w w' A:Y}{s b0 g B Z k b n q a lo hi o H H' m i e p n0 D j x:Nat}{M:Nat->Option Nat}{d c:Dc}{la:Option Addr}{v:V9}{f:Nat->A9}{ty:TypeId}{xs:List Value}{α:Type}{key:ByteArray}{X I:Nat->Int}{hf:Vl->Nat}{L:Nat->Pr}{P:Nat->Prop}{K:Vl->Prop}
instance:Inhabited Si:=⟨⟨⟨#[]⟩,0,0,0,0⟩⟩
instance:Inhabited Tb:=⟨⟨0,0,λ_=>default,⟨0,λ_=>default,0,λ_=>0,0,λ_=>0,0,0,0⟩⟩⟩
instance:Inhabited Ad:=⟨⟨none,0,none,0,none,0,none,0⟩⟩
structure Nd (w:Y) (s:AK) (b0 g:Nat) (B N:Nat->Nat) (M:Nat->Option Nat):Prop where
 ns:Cr w s.F b0 s.nf B N M
 id:∀i,i<s.nf->N i=i
 lt:g<w.heap.size
 qN:∀i,i<s.nf->w.cell? (G g i)=some (Q9<|B i)
def Nd.below{s}{B Z}(h:Nd w s b0 g B Z M)(hb:B9 w w'):Nd w' s b0 g B Z M:=
 ⟨h.ns.below hb,h.id,A0 h.lt hb.size,λi hi=>(hb.cell h.lt).trans<|h.qN i hi⟩
def Nd.CI{s}{B Z}(h:Nd w s b0 g B Z M){j}(hj:j<s.nf):B j<w.heap.size/\w.cell? (G (B j) 3)=some (J (s.F j).count):=by
 have:=Dm h.ns h.id hj;exact⟨by have:=IF _ _ this.1;exact this,this.2.2.1⟩
def Nd.place{s}{B Z}(h:Nd w s b0 g B Z M)(a:Aq s.nf s.F=0){j}(hj:j<s.nf)key:
  C9 106 #[Q9 (B j),.string key] w (R9 (J<|Bc s.F j key) w):=by
 refine(Gz w b0 B Z M h.ns h.id (Av a).2.1 (Av a).2.2.1 j hj key).mono ?_;rintro e w' ⟨⟨h1,_⟩,rfl⟩;exact⟨h1,BE _ _⟩
def Px a n j{x}w(k:X2 x):
  C9 59 #[SJ (-1) x,.slice a n j] w (R9 (.bool<|x.place==0) w):=by
 obtain⟨h1,h2,h3,h4,h5⟩:=k;have l:(decide (0<=x.BZ)&&decide (x.BZ<=1000000000000))=true:=ot;have f:(decide (0<=x.AB)&&decide (x.AB<=1000000000000))=true:=ot;have d:∀o1,B9 w<|w.alloc o1:=λo1=>n9;have i:=O d;clear d;go_enter func59,ntmps59;go_wp2_with fail;refine m9 (DF x.BZ _) λw1 b=>?_;rw[l];obtain⟨m,o⟩:=AM b;have g:=b.size;simp at g;have p:w.heap.size<w1.heap.size:=om;have e:=O<|o8 (i _) b;clear b;go_wp2_with fail;refine m9 (DF x.AB _) λw2 c=>?_;rw[f];rcases AM c,A0 p c.size,O (o8 e c) with⟨⟨q,r⟩,s,h⟩;clear c;go_wp2;go_ret;exact⟨rfl,h⟩
def SE{s}u{B Z}{M}{x}i{w}(I:X2 x)(hN:Nd w s b0 g B Z M)(L:Aq s.nf s.F=0)(hi:i≠-1):
  C9 59 #[SJ i x,.slice (some<|G g 0) s.nf u] w (R9 (.bool<|decide (0<=i/\i<s.nf/\0<=x.place)&&(Bc s.F i.toNat x.key==x.place)) w):=by
 obtain⟨h1,h2,h3,h4,h5⟩:=I;have C:(decide (0<=x.BZ)&&decide (x.BZ<=1000000000000))=true:=ot;have D:(decide (0<=x.AB)&&decide (x.AB<=1000000000000))=true:=ot;have P:=hN.lt;have Q:(i==-1)=false:=by simpa using hi
 have m:B9 w<|w.alloc<|.cells #[.string x.key,J i,J x.place,J x.BZ,J x.AB] 107:=n9;go_enter func59,ntmps59;go_wp2_with fail;refine m9 (DF x.BZ _) λw1 k=>?_;rw[C];obtain⟨f,R⟩:=AM k;have E:=k.size;simp at E;have v:w.heap.size<w1.heap.size:=om;have c0:w1.cell? (y w 0)=some (.string x.key):=by rw[f _ _ oq];simp[go_sem]
 have c1:w1.cell? (y w 1)=some (J i):=by rw[f _ _ oq];simp[go_sem]
 have c2:w1.cell? (y w 2)=some (J x.place):=by rw[f _ _ oq];simp[go_sem]
 have c3:w1.cell? (y w 4)=some (J x.AB):=by rw[f _ _ oq];simp[go_sem]
 have n:=o8 m k;go_wp2_with fail;refine m9 (DF x.AB _) λW c=>?_;rw[D];rcases A0 v c.size,(c.cell v).trans c0,(c.cell v).trans c1,(c.cell v).trans c2,o8 n c with⟨l0,T,S,U,b⟩;have o:=hN.below b;have V:g<W.heap.size:=om;by_cases hj:0<=i/\i<s.nf
 case neg=>
  have A:(decide ((0:Int)<=i)&&decide (i<(s.nf:Int)))=false:=ot;have p:Hid<|(decide (0<=i/\i<s.nf/\0<=x.place)&&(Bc s.F i.toNat x.key==x.place))=false:=O (by rw[decide_eq_false (λq=>hj ⟨q.1,q.2.1⟩)];rfl);go_wp2_with fail;refine qr W ?_;refine N (h:=N (h:=N (h:=?_)));refine GC λK hK=>?_;go_simp;apply Exists.intro;refine qj (λw' a=>?_)<|hK _ ?_
  .refine(A▸Fp (some<|G g 0) s.nf u i _).mono ?_;rintro e r ⟨rfl,hb⟩;exact⟨rfl,o8 a hb⟩
  clear hK K;refine N (h:=?_);iterate 3 (go_big_quiet_step (fail))
  refine N (h:=N (h:=?_));iterate 11 (go_big_quiet_step (fail))
  refine N (h:=N (h:=?_));refine GS ?_;intro w2 d;have l:=o8 b d;go_wp2;go_ret;exact⟨by rw[z p]<;>rfl,l⟩
 have A:(decide ((0:Int)<=i)&&decide (i<(s.nf:Int)))=true:=ot;by_cases hp:0<=x.place
 case neg=>
  have p:Hid<|(decide (0<=i/\i<s.nf/\0<=x.place)&&(Bc s.F i.toNat x.key==x.place))=false:=O (by rw[decide_eq_false (λq=>hp q.2.2)];rfl);have H:decide (0<=x.place)=false:=by simpa using hp
  go_wp2_with fail
  refine qr W ?_;refine N (h:=N (h:=N (h:=?_)));refine GC λK hK=>?_;go_simp;apply Exists.intro;refine qj (λw' a=>?_)<|hK _ ?_
  .refine(A▸Fp (some<|G g 0) s.nf u i _).mono ?_;rintro e r ⟨rfl,hb⟩;exact⟨rfl,o8 a hb⟩
  clear hK K;(iterate 6 refine N (h:=?_));iterate 11 (go_big_quiet_step (fail))
  refine N (h:=N (h:=?_));refine GS ?_;intro w2 d;have l:=o8 b d;go_wp2;go_ret;exact⟨by rw[z p]<;>rfl,l⟩
 have H:decide (0<=x.place)=true:=by simpa using hp
 obtain⟨j,rfl⟩:∃j:Nat,i=j:=⟨i.toNat,om⟩;have t:j<s.nf:=om;have p:Hid<|(decide (0<=(j:Int)/\(j:Int)<s.nf/\0<=x.place)&&(Bc s.F (j:Int).toNat x.key==x.place))=(Bc s.F j x.key==x.place):=O (by rw[decide_eq_true ⟨hj.1,hj.2,hp⟩];rfl);have X:=o.qN j t;go_wp2_with fail;refine qr W ?_;refine N (h:=N (h:=N (h:=?_)));refine GC λK hK=>?_;go_simp;apply Exists.intro;refine qj (λw' a=>?_)<|hK _ ?_
 .refine(A▸Fp (some<|G g 0) s.nf u (j:Int) _).mono ?_;rintro e r ⟨rfl,hb⟩;exact⟨rfl,o8 a hb⟩
 clear hK K;(iterate 12 refine N (h:=?_));refine N (h:=?_);refine GC λK hK=>?_;go_simp;refine⟨_,λw' a=>qk a<|Nd.place (o.below a) (z<|O L) t x.key,hK _ ?_⟩;clear hK K;(iterate 5 refine N (h:=?_));refine GS ?_;intro w2 d;go_wp2;go_ret;exact⟨by rw[z p]<;>rfl,z<|o8 b d⟩
def Qs{s}b{B Z}{M}x{w}(hk:x.key.size<=maxLen)(hN:Nd w s b0 g B Z M)(c:Aq s.nf s.F=0):
  C9 59 #[SV x,S9 g s.nf b] w (R9 (.bool<|tells<|Pb s x) w):=by
 by_cases a:X2 x
 case neg=>
  have h:=Qt (some<|G g 0) s.nf b x w hk a
  rwa [<-Ae (λq=>a (mA q))]at h
 by_cases h1:x.shape=-1
 .have h:=Px (some<|G g 0) s.nf b w a;rw[<-Uq a h1]at h;rw[SV,h1];exact h
 have h:=SE b x.shape a hN c h1;have e:(decide (0<=x.shape/\x.shape<s.nf/\0<=x.place)&&(Bc s.F x.shape.toNat x.key==x.place))=tells (Pb s x):=by
  by_cases q:0<=x.shape/\x.shape<s.nf/\0<=x.place
  .rw[dI (j:=x.shape.toNat) a om om q.2.2,decide_eq_true q];rfl
  rw[X3 h1 q,decide_eq_false q];rfl
 rw[e]at h;exact h
abbrev KC(A:Ad)(t:Tb):Value:=sU A.va A.vc A.la A.lc A.ia A.ic A.xa A.xc t
abbrev Cz(p:Nat)(A:Ad)(t:Tb):Value:=iC p A.va A.vc A.la A.lc A.ia A.ic A.xa A.xc t
abbrev sV(i:Int)(A:Ad)(t:Tb):Value:=.agg #[J i,.slice A.va t.nv A.vc,.slice A.la t.d.n A.lc,.slice A.ia t.d.m A.ic,.slice A.xa t.d.x A.xc,J t.d.used,J t.d.live,J t.d.turns]
def T5 a n c A t w:
  C9 58 #[sV (-1) A t,.slice a n c] w (R9 (.iface 194<|KC A t) w):=by
 have b:∀o1 o2,B9 w<|(w.alloc o1).alloc o2:=λo1 o2=>(n9).alloc oq _;have d:=O b;clear b;go_enter func58,ntmps58;go_wp2;go_ret;exact⟨rfl,d _ _⟩
def VS a(n e:Nat)A t(i:Int)w(h1:i≠-1)(h:¬(0<=i/\i<n)):
  C9 58 #[sV i A t,.slice a n e] w (R9 .nilIface w):=by
 have b:∀o1 o2,B9 w<|(w.alloc o1).alloc o2:=λo1 o2=>(n9).alloc oq _;have f:=O b;have g:(i==-1)=false:=by simpa using h1
 have j:(decide ((0:Int)<=i)&&decide (i<(n:Int)))=false:=ot;clear b h1 h;go_enter func58,ntmps58;go_wp2_with fail;refine m9 (Fp a n e i _) λw1 c=>?_;rw[j];have d:=O<|o8 (f _ _) c;clear c;go_wp2;go_ret;exact⟨rfl,d⟩
def Y4 g n l p A t j(w:Y)(hj:j<n)(o:g<w.heap.size)(hc:w.cell? (G g j)=some (Q9 p)):
  C9 58 #[sV (j:Int) A t,S9 g n l] w (R9 (.iface 197<|Cz p A t) w):=by
 have c:B9 w<|(w.alloc<|.cells #[J (j:Int),.slice A.va t.nv A.vc,.slice A.la t.d.n A.lc,.slice A.ia t.d.m A.ic,.slice A.xa t.d.x A.xc,J t.d.used,J t.d.live,J t.d.turns] 105).alloc<|.cells #[.slice A.va t.nv A.vc,.slice A.la t.d.n A.lc,.slice A.ia t.d.m A.ic,.slice A.xa t.d.x A.xc,J t.d.used,J t.d.live,J t.d.turns] 192:=(n9).alloc oq _;have q:(decide ((0:Int)<=(j:Int))&&decide ((j:Int)<(n:Int)))=true:=ot;have r:((j:Int)==-1)=false:=by first|(simp;done)|(simp;omega)
 have f:=(c.cell o).trans hc;go_enter func58,ntmps58;go_wp2_with fail;refine m9 (Fp (some<|G g 0) n l (j:Int) _) λw1 b=>?_;rw[q];obtain⟨a,s⟩:=AM b;have i:=b.size;simp at i;have u:w.heap.size<w1.heap.size:=om;have v:w.heap.size+1<w1.heap.size:=om;have B:g<w1.heap.size:=om;have C:=(b.cell ot).trans f;have c0:w1.cell? (y w 0)=some (J (j:Int)):=by rw[a _ _ ot];simp[go_sem]
 have d0:w1.cell? (Y9 w 0)=some (.slice A.va t.nv A.vc):=by rw[a _ _ oq];simp[go_sem]
 have d1:w1.cell? (Y9 w 1)=some (.slice A.la t.d.n A.lc):=by rw[a _ _ oq];simp[go_sem]
 have d2:w1.cell? (Y9 w 2)=some (.slice A.ia t.d.m A.ic):=by rw[a _ _ oq];simp[go_sem]
 have d3:w1.cell? (Y9 w 3)=some (.slice A.xa t.d.x A.xc):=by rw[a _ _ oq];simp[go_sem]
 have d4:w1.cell? (Y9 w 4)=some (J t.d.used):=by rw[a _ _ oq];simp[go_sem]
 have d5:w1.cell? (Y9 w 5)=some (J t.d.live):=by rw[a _ _ oq];simp[go_sem]
 have d6:w1.cell? (Y9 w 6)=some (J t.d.turns):=by rw[a _ _ oq];simp[go_sem]
 have e:=o8 c b;go_wp2_with fail;refine qr w1 ?_;(iterate 9 refine N (h:=?_));refine GS ?_;intro w2 k;go_wp2;go_ret;exact⟨rfl,z<|o8 e k⟩
def Ev(d:Dc)(j:Nat):Pr:=d.L<|(AW d d.n).getD j 0
def Kq(d:Dc):Nat:=(AW d d.n).length
def FB(hk:k<d.n)(h:(d.L k).turn≠0):Ev d (AW d k).length=d.L k:=by
 obtain⟨r,a⟩:=Ft (d:=d) (k:=k+1) (n:=d.n) om;grind [Ev,Bi]
def oM d:Kq d<=d.n:=FI d d.n
def O8(wr:Y)o1(cs:List Value)t:∀j u,cs[j]?=some u->((wr.alloc o1).alloc<|.cells cs.toArray t).cell? (((Y9 wr 0):Addr).add j)=some u:=by
 have hb:=DD (wr.alloc o1)<|.cells cs.toArray t;have hz:(wr.alloc o1).heap.size=wr.heap.size+1:=oq;rw[hz]at hb;exact Is hb
def Ua lc ia ic xa xc{d}{w}(I:JX w la d.n d.L)(K:Small d)(h2:D2 d):
  C9 94 #[Dv la lc ia ic xa xc d] w λe w'=>(∃v,e=.returned v/\BP w' w.heap.size v (Kq d) (Ev d))/\B9 w w':=by
 obtain⟨i0,hi,m,p,r⟩:=ON EF;have hn:=K.n;go_enter func94,ntmps94;go_wp2;go_loopw [9,3] (λi o wr=>∃(k:Nat) (v:V9),k<=d.n/\i=J k/\v=o/\BP wr w.heap.size v (AW d k).length (Ev d)/\B9 w wr) λi o _=>d.n-(intOf i).toNat
 .exact⟨0,_,om,rfl,rfl,NB _ _ _ _,n9⟩
 obtain⟨k,v,hk,rfl,rfl,E,hb⟩:=hrel;by_cases g:k<d.n
 .obtain⟨b,off,rfl,s,hcs⟩:=I.resolve_left om;rcases (hcs k g).keep (λq=>hb.cell s),hb.size,FI d k,O hb,O E with⟨⟨e0,e1,e2,e3,Q,R,S,T,U,V,t⟩,u,M,F,x⟩;by_cases hp:0<(d.L k).turn
  .have j:(d.L k).turn≠0:=om;have A:=O<|Bi j;go_wp2_with (first|(at_builtin;refine RC _ rfl _ _ 101 rfl w.heap.size 166 i0 PZ 11 104 underlying101 hi m p r rfl oo v (AW d k).length (pL (Ev d) (AW d k).length) rfl ((x.alloc _).alloc _) (Y9 wr 0) 1 1 (De<|d.L k) rfl rfl (O8 wr _ (De<|d.L k) _) (Ff _) oo od om ot _ rfl ?_;intro g3 P w3 a c B H;have C:=O<|((F.alloc om _).alloc ot _).trans<|CO c (λq e=>(z (O x.lt) q e).1) ot;have D:=O a;clear a c)|go_in);go_roundw
   .refine⟨k+1,_,om,ov,rfl,?_,C⟩;have h:=z D;rw[z A,P9,Aak];show w3.ownsRow w.heap.size _ 11 _ _ (pL (Ev d) (AW d k).length++De (Ev d (AW d k).length));rw[z (O (FB g j))];exact h
   exact ow
  have f:(d.L k).turn=0:=by
   rcases h2.entry g with h|h
   .exact h.1
   exact absurd h.1 hp
  have A:=O<|B7 f;rw[f]at t;go_wp2;go_roundw
  .refine⟨k+1,_,om,ov,rfl,?_,F.alloc u _⟩;rw[z A];exact x.alloc _
  exact ow
 have l:k=d.n:=om;subst l;go_wp2;go_ret;exact⟨⟨_,rfl,z<|O E⟩,z<|O hb⟩
def mark(k:Nat):ByteArray:=⟨(109::Lib.decDigits k).toArray⟩
def Tr(u:Nat):List UInt8:=if u=0 then[]else Lib.decDigits u
def Yz{u}(h:0<u):Tr u=Tr (u/10)++[gX u]:=by
 grind [Tr,gX,Hx,N7]
def BA(k:Nat)(hk:k<9007199254740992)w:
  C9 71 #[J k] w (R9 (.string<|mark k) w):=by
 by_cases d:k=0
 .subst d;go_enter func71,ntmps71;go_wp2;go_ret;exact⟨GA<|by unfold mark;rw[Hx om];rfl,BE _ _⟩
 have hl:=Kf k om;have f:Hid<|Lib.decDigits k=Tr k:=O (by unfold Tr;rw[Cs d]);have g:0<k:=om;go_enter func71,ntmps71;go_wp2;go_loopw [0,3] (λa o wr=>∃(u:Nat) (l:List UInt8),u<=k/\a=J (u:Int)/\o=.string ⟨l.toArray⟩/\Lib.decDigits k=Tr u++l/\B9 w wr) λa _ _=>(intOf a).toNat
 .exact⟨k,[],Be _,rfl,rfl,by rw[z f];simp,BE _ _⟩
 obtain⟨u,l,hu,rfl,rfl,c,hb⟩:=hrel;have e:Hid<|Lib.decDigits k=Tr u++l:=c;have h:l.length<=21:=by have:=congrArg List.length c;rw[P9]at this;omega
 clear c;have i:=N5 u wr;go_wp2
 .have b:0<u:=ol;go_roundw
  .refine⟨u/10,gX u::l,om,ov,?_,?_,hb.alloc hb.size _⟩
   .rw[Ci];rfl
   rw[e.out,Yz b,List.append_assoc];rfl
  exact ow
 have b:u=0:=om;subst b;go_ret;refine⟨GA ?_,hb⟩;unfold mark;rw[e.out];apply ByteArray.ext;simp[Tr]
structure Bt (b:Nat) (w w':Y):Prop where
 os:w'.os=w.os
 tape:w'.tape=w.tape
 output:w'.output=w.output
 size:w.heap.size<=w'.heap.size
 block:∀k,k<w.heap.size->k≠b->w'.heap[k]?=w.heap[k]?
def Bt.refl b w:Bt b w w:=⟨rfl,rfl,rfl,Be _,λ_ _ _=>rfl⟩
theorem Bt.trans{u v}(h:Bt b u v)(k:Bt b v w):Bt b u w:=
 ⟨k.os.trans h.os,k.tape.trans h.tape,k.output.trans h.output,GP h.size k.size,λi hi hn=>(k.block i (A0 hi h.size) hn).trans<|h.block i hi hn⟩
def Bt.of(h:B9 w w'):Bt b w w':=⟨h.os,h.tape,h.output,h.size,λk hk _=>h.block k hk⟩
def Bt.set b o w v:Bt b w<|w.setCell (G b o) v:=⟨rfl,rfl,rfl,oq,λk _ hn=>At _ _ _ _<|by exact hn⟩
def Ie(b n cap Z s:Nat)g w(hA:w.rowIs b 3 Z g)(hN:n<=Z)(hn:n<=2000000000)(hs:s<=100000000000000):
  C9 70 #[S9 b n cap,J s] w λe w'=>(e=.returned (J ((s+n:Nat):Int))/\∃g',w'.rowIs b 3 Z g'/\∀j,j<n->g' j=J ((s+j:Nat):Int))/\Bt b w w':=by
 have l:=O hA;clear hA;go_enter func70,ntmps70;go_wp2;go_loopw [1,5] (λq i wr=>∃(k:Nat) (g:Nat->Value),k<=n/\i=J (k:Int)/\q=J ((s+k:Nat):Int)/\Bt b w wr/\wr.rowIs b 3 Z g/\∀j,j<k->g j=J ((s+j:Nat):Int)) λ_ i _=>n-(intOf i).toNat
 .exact⟨0,g,om,rfl,rfl,Bt.refl _ _,l,λj hj=>om⟩
 obtain⟨k,g,hk,rfl,rfl,hb,a,d⟩:=hrel;by_cases m:k<n
 .rcases a.cell (i:=k) om,a.frozen k,a.lt,O hb,O a,O d with⟨d0,e0,o,h,f,p⟩;clear hb a d;go_wp2;go_roundw
  .refine⟨k+1,_,om,ov,ov,h.trans<|Bt.set b _ _ _,f.set k<|J ((s+k:Nat):Int),λj hj=>?_⟩;by_cases e:j=k
   .subst e;simp
   simp only[e,XN];exact p j om
  exact ow
 have c:k=n:=om;subst c;have h:=O hb;have f:=O<|qj a d;clear hb a d;go_wp2;go_ret;exact⟨⟨rfl,_,f.1,f.2⟩,h⟩
def bW k(c:0<=k)(hk:k<9007199254740992):(O9 (floatOfInt .f64 k) (floatOfInt .f64 k)!=some .eq)=false:=by
 obtain⟨q,l,b,hl,d⟩:=Fl.Fc (decide (k<0)) k.natAbs<|Fl.Kj om;have a:Ieee.double.read (floatOfInt .f64 k)=.number (decide (k<0)) q l:=b;show(!(Ieee.double.order _ _==some .eq))=false;rw[Fl.BG a a hl hl];simp
def lX(s i:Nat):Pr:=
 ⟨⟨(s:Int)+11*i,(s:Int)+11*i+1,floatOfInt .f64<|(s:Int)+11*i+1+1,mark<|s+11*i+3,(s:Int)+11*i+1+1+1+1⟩,
  ⟨(s:Int)+11*i+1+1+1+1+1,(s:Int)+11*i+1+1+1+1+1+1,floatOfInt .f64 ((s:Int)+11*i+1+1+1+1+1+1+1),mark (s+11*i+8),(s:Int)+11*i+1+1+1+1+1+1+1+1+1⟩,(s:Int)+11*i+1+1+1+1+1+1+1+1+1+1⟩
def Ra(f:Nat->Pr)(j:Nat):Value:=((De<|f<|j/11)[j%11]?).getD undef
def Uu f k i(hi:i<11):Ra f (k*11+i)=((De<|f k)[i]?).getD undef:=by
 unfold Ra;grind
def dN{g}{f}(h:w.rowIs b 166 Z g)(hN:n*11<=Z)(a:∀j,j<n*11->g j=Ra f j){i}(hi:i<n):Ex w b (i*11)<|f i:=by
 have e:∀j,j<11->w.cell? (G b<|i*11+j)=some (((De<|f i)[j]?).getD undef):=λj hj=>by
  rw[h.cell om,a _ om,Uu f i j hj]
 exact⟨e 0 om,e 1 om,e 2 om,e 3 om,e 4 om,e 5 om,e 6 om,e 7 om,e 8 om,e 9 om,e 10 om⟩
def J1(b n cap Z s:Nat)g w(hA:w.rowIs b 166 Z g)(hN:n*11<=Z)(hn:n<=2000000000)(hs:s<=100000000000000):
  C9 69 #[S9 b n cap,J s] w λe w'=>(e=.returned (J<|(s)+11*(n))/\∃g',w'.rowIs b 166 Z g'/\∀j,j<n*11->g' j=Ra (lX s) j)/\Bt b w w':=by
 go_enter func69,ntmps69;go_wp2;go_loopw [1,5] (λq i wr=>∃(k:Nat) (g:Nat->Value),k<=n/\i=J (k:Int)/\q=J ((s:Int)+11*(k:Int))/\Bt b w wr/\wr.rowIs b 166 Z g/\∀j,j<k*11->g j=Ra (lX s) j) λ_ i _=>n-(intOf i).toNat
 .exact⟨0,g,om,rfl,oq,Bt.refl _ _,hA,λj hj=>om⟩
 obtain⟨k,g,hk,rfl,rfl,hb,c,B⟩:=hrel;by_cases E:k<n
 .have u:=c.lt;have d0:=c.cell (i:=k*11) om;have e0:=c.frozen<|k*11;have d1:=c.cell (i:=k*11+1) om;have e1:=c.frozen<|k*11+1;have d2:=c.cell (i:=k*11+2) om;have e2:=c.frozen<|k*11+2;have d3:=c.cell (i:=k*11+3) om;have e3:=c.frozen<|k*11+3;have d4:=c.cell (i:=k*11+4) om;have F:=c.frozen<|k*11+4;have d5:=c.cell (i:=k*11+5) om;have H:=c.frozen<|k*11+5;have d6:=c.cell (i:=k*11+6) om;have I:=c.frozen<|k*11+6;have d7:=c.cell (i:=k*11+7) om;have K:=c.frozen<|k*11+7;have d8:=c.cell (i:=k*11+8) om;have C:=c.frozen<|k*11+8;have d9:=c.cell (i:=k*11+9) om;have D:=c.frozen<|k*11+9;have d10:=c.cell (i:=k*11+10) om;have h:=c.frozen<|k*11+10;have l:∀w:World,_:=λw=>BA (s+11*k+3) om w;have m:∀w:World,_:=λw=>BA (s+11*k+8) om w;rw[show((s+11*k+3:Nat):Int)=(s:Int)+11*(k:Int)+1+1+1 by omega]at l;rw[show((s+11*k+8:Nat):Int)=(s:Int)+11*(k:Int)+1+1+1+1+1+1+1+1 by omega]at m;have v:=O hb;have t:=O c;go_wp2_with fail;refine(z (O l) _).mono ?_;rintro e w1 ⟨rfl,o⟩;have a:=(((t.set (k*11)<|J<|(s:Int)+11*(k:Int)).set (k*11+1)<|J<|(s:Int)+11*(k:Int)+1).set (k*11+2)<|F9<|floatOfInt .f64<|(s:Int)+11*(k:Int)+1+1).of_block<|o.block b (by simpa using u);have d3:=a.cell (i:=k*11+3) om;have e3:=a.frozen<|k*11+3;have d4:=a.cell (i:=k*11+4) om;have F:=a.frozen<|k*11+4;have d5:=a.cell (i:=k*11+5) om;have H:=a.frozen<|k*11+5;have d6:=a.cell (i:=k*11+6) om;have I:=a.frozen<|k*11+6;have d7:=a.cell (i:=k*11+7) om;have K:=a.frozen<|k*11+7;have d8:=a.cell (i:=k*11+8) om;have C:=a.frozen<|k*11+8;have d9:=a.cell (i:=k*11+9) om;have D:=a.frozen<|k*11+9;have d10:=a.cell (i:=k*11+10) om;have h:=a.frozen<|k*11+10;go_wp2_with fail;refine(z (O m) _).mono ?_;rintro e w2 ⟨rfl,p⟩;have f:=(((((a.set (k*11+3)<|.string<|mark<|s+11*k+3).set (k*11+4)<|J<|(s:Int)+11*(k:Int)+1+1+1+1).set (k*11+5)<|J<|(s:Int)+11*(k:Int)+1+1+1+1+1).set (k*11+6)<|J<|(s:Int)+11*(k:Int)+1+1+1+1+1+1).set (k*11+7)<|F9<|floatOfInt .f64<|(s:Int)+11*(k:Int)+1+1+1+1+1+1+1).of_block<|p.block b (by simpa using a.lt);have x:=((((((z<|(((v.trans<|Bt.set b (k*11) _<|J<|(s:Int)+11*(k:Int)).trans<|Bt.set b (k*11+1) _<|J<|(s:Int)+11*(k:Int)+1).trans<|Bt.set b (k*11+2) _<|F9<|floatOfInt .f64<|(s:Int)+11*(k:Int)+1+1).trans<|Bt.of o).trans<|Bt.set b (k*11+3) _<|.string<|mark<|s+11*k+3).trans<|Bt.set b (k*11+4) _<|J<|(s:Int)+11*(k:Int)+1+1+1+1).trans<|Bt.set b (k*11+5) _<|J<|(s:Int)+11*(k:Int)+1+1+1+1+1).trans<|Bt.set b (k*11+6) _<|J<|(s:Int)+11*(k:Int)+1+1+1+1+1+1).trans<|Bt.set b (k*11+7) _<|F9<|floatOfInt .f64<|(s:Int)+11*(k:Int)+1+1+1+1+1+1+1).trans<|Bt.of p;have d8:=f.cell (i:=k*11+8) om;have C:=f.frozen<|k*11+8;have d9:=f.cell (i:=k*11+9) om;have D:=f.frozen<|k*11+9;have d10:=f.cell (i:=k*11+10) om;have h:=f.frozen<|k*11+10;go_wp2;go_roundw
  .refine⟨k+1,_,om,ov,ov,((x.trans<|Bt.set b (k*11+8) _<|.string<|mark<|s+11*k+8).trans<|Bt.set b (k*11+9) _<|J<|(s:Int)+11*(k:Int)+1+1+1+1+1+1+1+1+1).trans<|Bt.set b (k*11+10) _<|J<|(s:Int)+11*(k:Int)+1+1+1+1+1+1+1+1+1+1,((f.set (k*11+8)<|.string<|mark<|s+11*k+8).set (k*11+9)<|J<|(s:Int)+11*(k:Int)+1+1+1+1+1+1+1+1+1).set (k*11+10)<|J<|(s:Int)+11*(k:Int)+1+1+1+1+1+1+1+1+1+1,λj hj=>?_⟩;by_cases A:j<k*11
   .have d:∀i,i<11->j≠k*11+i:=λi _=>om;simp only[show j≠k*11 by omega,d 1 om,d 2 om,d 3 om,d 4 om,d 5 om,d 6 om,d 7 om,d 8 om,d 9 om,d 10 om,XN];exact z (O B) j A
   obtain⟨i,hi,rfl⟩:∃i,i<11/\j=k*11+i:=⟨j-k*11,om,om⟩;rw[Uu _ k i hi];rcases(by omega:i=0\/i=1\/i=2\/i=3\/i=4\/i=5\/i=6\/i=7\/i=8\/i=9\/i=10)with rfl|rfl|rfl|rfl|rfl|rfl|rfl|rfl|rfl|rfl|rfl<;>simp[De,lX]
  exact ow
 have r:k=n:=om;subst r;have v:=O hb;have t:=O<|qj c B;go_wp2;go_ret;exact⟨⟨rfl,_,t.1,t.2⟩,v⟩
def P7 b n cap s w(hl:b<w.heap.size)(hA:∀i,i<n->Ex w b (i*11) (lX s i))(hn:n<=2000000000)(hs:s<=100000000000000):
  C9 116 #[S9 b n cap,J s] w (R9 (J<|(s:Int)+11*(n:Int)) w):=by
 have t:=O hA;go_enter func116,ntmps116;go_wp2;go_loopw [1,5] (λq i wr=>∃(k:Nat),k<=n/\i=J k/\q=J ((s:Int)+11*(k:Int))/\B9 w wr) λ_ i _=>n-(intOf i).toNat
 .exact⟨0,om,rfl,oq,BE _ _⟩
 obtain⟨k,hk,rfl,rfl,hb⟩:=hrel;have c:=A0 hl hb.size;by_cases o:k<n
 .have hc:=(t k o).keep λq=>hb.cell hl;have d0:wr.cell? (G b<|k*11)=some (J<|(s:Int)+11*(k:Int)):=hc.k0;have d1:wr.cell? (G b<|k*11+1)=some (J<|(s:Int)+11*(k:Int)+1):=hc.k1;have d2:wr.cell? (G b<|k*11+2)=some (F9<|floatOfInt .f64<|(s:Int)+11*(k:Int)+1+1):=hc.k2;have d3:wr.cell? (G b<|k*11+3)=some (.string<|mark<|s+11*k+3):=hc.k3;have d4:wr.cell? (G b<|k*11+4)=some (J<|(s:Int)+11*(k:Int)+1+1+1+1):=hc.k4;have d5:wr.cell? (G b<|k*11+5)=some (J<|(s:Int)+11*(k:Int)+1+1+1+1+1):=hc.v0;have d6:wr.cell? (G b<|k*11+6)=some (J<|(s:Int)+11*(k:Int)+1+1+1+1+1+1):=hc.v1;have d7:wr.cell? (G b<|k*11+7)=some (F9<|floatOfInt .f64<|(s:Int)+11*(k:Int)+1+1+1+1+1+1+1):=hc.v2;have d8:wr.cell? (G b<|k*11+8)=some (.string<|mark<|s+11*k+8):=hc.v3;have d9:wr.cell? (G b<|k*11+9)=some (J<|(s:Int)+11*(k:Int)+1+1+1+1+1+1+1+1+1):=hc.v4;have d10:wr.cell? (G b<|k*11+10)=some (J<|(s:Int)+11*(k:Int)+1+1+1+1+1+1+1+1+1+1):=hc.tn;have g2:=bW ((s:Int)+11*(k:Int)+1+1) om om;have g7:=bW ((s:Int)+11*(k:Int)+1+1+1+1+1+1+1) om om;have f:∀w:World,_:=λw=>BA (s+11*k+3) om w;have g:∀w:World,_:=λw=>BA (s+11*k+8) om w;rw[show((s+11*k+3:Nat):Int)=(s:Int)+11*(k:Int)+1+1+1 by omega]at f;rw[show((s+11*k+8:Nat):Int)=(s:Int)+11*(k:Int)+1+1+1+1+1+1+1+1 by omega]at g;rcases O f,O g,O hb with⟨u,v,m⟩;go_wp2;refine qr wr ?_;(iterate 7 refine N (h:=?_));refine GC λK hK=>?_;go_simp;refine⟨_,λw' d=>qk d<|u _,hK _ ?_⟩;clear hK K;refine N (h:=?_);refine GS ?_;intro w2 a;rcases o8 m a,A0 c a.size,(a.cell c).trans d4,(a.cell c).trans d5,(a.cell c).trans d6,(a.cell c).trans d7,(a.cell c).trans d8,(a.cell c).trans d9,(a.cell c).trans d10 with⟨j,l,c4,c5,c6,c7,A,x,p⟩;go_wp2;refine qr w2 ?_;(iterate 7 refine N (h:=?_));refine GC λK hK=>?_;go_simp;refine⟨_,λw' d=>qk d<|v _,hK _ ?_⟩;clear hK K;refine N (h:=?_);refine GS ?_;intro w3 e;rcases o8 j e,(e.cell l).trans x,(e.cell l).trans p with⟨r,d9,d10⟩;go_wp2;go_roundw
  .exact⟨k+1,om,ov,ov,r⟩
  exact ow
 have:k=n:=om;subst this;have m:=O hb;go_wp2;go_ret;exact⟨rfl,m⟩
def FK{t}{g}(h:w.rowIs s t Z g)(hb:s≠b):(w.setCell (G b q) v).rowIs s t Z g:=GW h<|At _ _ _ _<|by exact hb
structure qL (B:Nat) (w:Y) (a s1 s2:Nat) (d:Dc):Prop where
 b0:B<=a
 b1:B<=s1
 b2:B<=s2
 sP:a≠s1
 rJ:a≠s2
 sQ:s1≠s2
 r0:∃g,w.rowIs a 166 (d.n*11) g
 r1:∃g,w.rowIs s1 3 d.m g
 r2:∃g,w.rowIs s2 3 d.x g
def qL.lt{s1 s2}(h:qL B w a s1 s2 d):a<w.heap.size/\s1<w.heap.size/\s2<w.heap.size:=by
 rcases h.r0,h.r1,h.r2 with⟨⟨_,r0⟩,⟨_,r1⟩,⟨_,r2⟩⟩;exact⟨H8 r0,H8 r1,H8 r2⟩
def U4{a:Option Addr}cap{f}{w}(hA:JX w a n f)(hn:n<=4194304):
  C9 131 #[.slice a n cap] w λe w'=>(e=.returned (S9 w.heap.size n n)/\JX w' (some<|G w.heap.size 0) n f/\∃g,w'.rowIs w.heap.size 166 (n*11) g)/\B9 w w':=by
 have A:=Wh n hn;have B:=O<|Wc w<|n*11;go_enter func131,ntmps131;go_wp2;go_loopw [4] (λi wr=>∃(k:Nat),k<=n/\i=J k/\B9 w wr/\(∃g,wr.rowIs w.heap.size 166 (n*11) g)/\∀j,j<k->Ex wr w.heap.size (j*11) (f j)) λi _=>n-(intOf i).toNat
 .exact⟨0,om,rfl,n9,B,λj hj=>om⟩
 obtain⟨k,hk,rfl,hb,⟨g,d⟩,h⟩:=hrel;by_cases s:k<n
 .obtain⟨b,off,rfl,t,hcs⟩:=hA.resolve_left om;rcases (hcs k s).keep (λq=>hb.cell t),H8 d,O hb,O h with⟨⟨e0,e1,e2,e3,E,F,H,I,K,L,C⟩,m,x,p⟩;go_wp2_with fail;refine m9 (WW (f k) _) λw1 l=>?_;have c:=GW d<|l.block _ m;have d0:=c.cell (i:=k*11) om;have f0:=c.frozen<|k*11;have d1:=c.cell (i:=k*11+1) om;have f1:=c.frozen<|k*11+1;have d2:=c.cell (i:=k*11+2) om;have f2:=c.frozen<|k*11+2;have d3:=c.cell (i:=k*11+3) om;have f3:=c.frozen<|k*11+3;have d4:=c.cell (i:=k*11+4) om;have f4:=c.frozen<|k*11+4;have d5:=c.cell (i:=k*11+5) om;have f5:=c.frozen<|k*11+5;have d6:=c.cell (i:=k*11+6) om;have f6:=c.frozen<|k*11+6;have d7:=c.cell (i:=k*11+7) om;have f7:=c.frozen<|k*11+7;have d8:=c.cell (i:=k*11+8) om;have f8:=c.frozen<|k*11+8;have d9:=c.cell (i:=k*11+9) om;have f9:=c.frozen<|k*11+9;have d10:=c.cell (i:=k*11+10) om;have f10:=c.frozen<|k*11+10;obtain⟨u,v⟩:=ZA c (o:=k*11) om<|f k;have D:Hid<|∀j,j<k->Ex w1 w.heap.size (j*11) (f j):=O λj hj=>(p j hj).EG λq _=>As<|l.block _ m;go_wp2_with fail;go_roundw
  .refine⟨k+1,om,ov,?_,z<|O u,λj hj=>?_⟩
   .repeat(refine NO ?_ (by exact Be _) _)
    exact z<|o8 x l
   by_cases e:j=k
   .subst e;exact v
   exact(D j om).EG λq hq=>UJ (f k) om
  exact ow
 have r:k=n:=om;subst r;go_wp2_with fail;go_ret;exact⟨⟨rfl,.inr ⟨_,0,rfl,H8 d,λi hi=>by rw[We];exact z (O h) i hi⟩,_,d⟩,z<|O hb⟩
def PH{a:Option Addr}cap{f}{w}(hA:JP w a n f)(hn:n<=4194304):
  C9 132 #[.slice a n cap] w λe w'=>(e=.returned (S9 w.heap.size n n)/\JP w' (some<|G w.heap.size 0) n f/\∃g,w'.rowIs w.heap.size 3 n g)/\B9 w w':=by
 rcases JE n hn,O<|Ib w n,O hA with⟨p,s,u⟩;clear hA;go_enter func132,ntmps132;go_wp2;clear p;go_loopw [4] (λi wr=>∃(k:Nat) (g:Nat->Value),k<=n/\i=J k/\B9 w wr/\wr.rowIs w.heap.size 3 n g/\∀j,j<k->g j=J (f j)) λi _=>n-(intOf i).toNat
 .exact⟨0,_,om,rfl,n9,s,λj hj=>om⟩
 clear s;obtain⟨k,g,hk,rfl,hb,c,d⟩:=hrel;by_cases l:k<n
 .obtain⟨b,off,rfl,q,hcs⟩:=u.resolve_left om;rcases (hb.cell q).trans (hcs k l),H8 c,c.cell l,c.frozen k with⟨e0,m,d0,f0⟩;have t:Hid ((wr.setCell (y w k)<|J<|f k).rowIs w.heap.size 3 n (λi=>if i=k then J (f k)else g i)/\∀j,j<k+1->(λi=>if i=k then J (f k)else g i) j=J (f j)):=O ⟨c.set k _,λj hj=>by
   by_cases e:j=k
   .subst e;simp
   simp only[e,XN];exact d j om⟩
  have r:=O hb;clear hcs hb c d;go_wp2_with fail;go_roundw
  .exact⟨k+1,_,om,ov,r.setCell (by exact Be _) _,t.1,t.2⟩
  exact ow
 have o:k=n:=om;subst o;rcases O (⟨c,d⟩:wr.rowIs w.heap.size 3 k g/\∀j,j<k->g j=J (f j)),O hb,H8 c with⟨h,r,m⟩;clear d hb c;go_wp2_with fail;go_ret;exact⟨⟨rfl,.inr ⟨_,0,rfl,m,λi hi=>by rw[We,(z h).1.cell hi,(z h).2 i hi]⟩,_,h.1⟩,r⟩
def WV lc{ia:Option Addr}ic{xa:Option Addr}xc{d}{w}(hD:Ea w la ia xa d)(q:Small d):
  C9 98 #[Dv la lc ia ic xa xc d] w λe w'=>(∃r s1 s2,e=.returned (Dv (some<|G r 0) d.n (some<|G s1 0) d.m (some<|G s2 0) d.x d)/\Ea w' (some<|G r 0) (some<|G s1 0) (some<|G s2 0) d/\qL w.heap.size w' r s1 s2 d)/\B9 w w':=by
 have k:B9 w<|((w.alloc<|.cells #[.slice la d.n lc,.slice ia d.m ic,.slice xa d.x xc,J d.used,J d.live,J d.turns] 93).alloc<|.cells #[N9,N9,N9,J 0,J 0,J 0] 103).alloc<|.cells #[N9,N9,N9,J 0,J 0,J 0] 103:=((n9).alloc oq _).alloc ot _;go_enter func98,ntmps98;go_wp2_with fail;refine(U4 lc (hD.below k).log q.n).mono ?_;rintro e w1 ⟨⟨rfl,I,b⟩,l⟩;obtain⟨s,M⟩:=AM l;have t:=l.size;simp at t I b;obtain⟨g0,b⟩:=b;have X:w.heap.size<w1.heap.size:=om;have P:w.heap.size+1<w1.heap.size:=om;have Z:w.heap.size+1+1<w1.heap.size:=om;have f:Hid<|∀v,B9 w<|w1.setCell (Z9 w 0) v:=O λv=>(z<|o8 k l).setCell oy _;go_wp2_with fail;refine(PH ic (hD.below<|f _).ints q.m).mono ?_;rintro e w2 ⟨⟨rfl,K,c⟩,g⟩;obtain⟨u,Q⟩:=AM g;have A:=g.size;simp at A K c;obtain⟨R,c⟩:=c;have z0:w.heap.size<w2.heap.size:=om;have S:w.heap.size+1<w2.heap.size:=om;have z2:w.heap.size+1+1<w2.heap.size:=om;have B:=JX.below (JX.setOther I<|show w.heap.size+1+1+1≠w.heap.size+1+1 by omega) g rfl;have j:=GW (FK b<|show w.heap.size+1+1+1≠w.heap.size+1+1 by omega)<|g.block _ (by have:=H8 b;simpa using this);have h:Hid<|∀v,B9 w<|w2.setCell (Z9 w 1) v:=O λv=>(z<|o8 (f _) g).setCell oy _;go_wp2_with fail;refine(PH xc (hD.below<|h _).index q.x).mono ?_;rintro e w3 ⟨⟨rfl,L,i⟩,a⟩;obtain⟨C,T⟩:=AM a;have D:=a.size;simp at D L i;obtain⟨U,i⟩:=i;have x0:w.heap.size<w3.heap.size:=om;have E:=o8 (h _) a;have F:=JX.below (JX.setOther B<|show w.heap.size+1+1+1≠w.heap.size+1+1 by omega) a rfl;have H:=JP.below (JP.setOther K<|show w1.heap.size≠w.heap.size+1+1 by omega) a rfl;have o:=GW (FK j<|show w.heap.size+1+1+1≠w.heap.size+1+1 by omega)<|a.block _ (by have:=H8 j;simpa using this);rcases GW (FK c<|show w1.heap.size≠w.heap.size+1+1 by omega) (a.block _<|by have:=H8 c;simpa using this),H8 b,H8 c with⟨p,V,W⟩;have g1:w1.heap.size≠w.heap.size+1+1:=om;have g2:w1.heap.size≠w.heap.size+1:=om;have g3:w2.heap.size≠w.heap.size+1+1:=om;have g4:w2.heap.size≠w.heap.size+1:=om;go_wp2;refine GO (v:=Dv (some<|G (w.heap.size+1+1+1) 0) d.n (some<|G w1.heap.size 0) d.m (some<|G w2.heap.size 0) d.x d) (by simp[results,results98,go_sem,s,u,C,P,S]) rfl ⟨⟨_,_,_,rfl,⟨?_,?_,?_⟩,⟨om,om,om,om,om,om,⟨g0,?_⟩,⟨R,?_⟩,⟨U,?_⟩⟩⟩,?_⟩
 .repeat(refine JX.setOther ?_ om)
  exact F
 .repeat(refine JP.setOther ?_ om)
  exact H
 .repeat(refine JP.setOther ?_ om)
  exact L
 .repeat(refine FK ?_ om)
  exact o
 .repeat(refine FK ?_ om)
  exact p
 .repeat(refine FK ?_ om)
  exact i
 repeat(refine NO ?_ (by first|(show w.heap.size<=w.heap.size+1;omega)|(show w.heap.size<=w.heap.size+1+1;omega)) _)
 exact E
def Lr(f:Nat->Pr)(n:Nat)(w:Y)(v:V9)(lo hi:Nat):Prop:=
 (n=0/\v=N9)\/∃b a Z g,v=S9 b n a/\lo<=b/\b<hi/\w.rowIs b 166 Z g/\n*11<=Z/\∀j,j<n*11->g j=Ra f j
def Lr.keep{f}(h:Lr f n w v lo hi)(hk:∀b,lo<=b->b<hi->w'.heap[b]?=w.heap[b]?):Lr f n w' v lo hi:=by
 rcases h with h|⟨b,a,Z,g,h1,h2,h3,h4,h5,c⟩
 .exact .inl h
 exact .inr ⟨b,a,Z,g,h1,h2,h3,GW h4<|hk b h2 h3,h5,c⟩
def Lr.of{f}(h:BP w B v n f):Lr f n w v B w.heap.size:=by
 have b:=h.lt;obtain⟨hl,⟨c,d⟩|⟨g',cap,cur,c,hb,a,h1,h2,h3,h4⟩⟩:=h
 .exact .inl ⟨d,c⟩
 subst c;refine .inr ⟨g',cap,cap*11,λj=>(cur[j]?).getD undef,rfl,hb,(b g' rfl).2,⟨cur,a,h3,λi hi=>by simp[UP (show i<cur.size by omega)]⟩,om,λj hj=>?_⟩;have h5:=L5 (f:=f) (n:=n) (i:=j/11) (j:=j%11) om om;rw[show j/11*11+j%11=j by omega,<-h4,List.getElem?_take,C3 hj,Array.getElem?_toList]at h5;show(cur[j]?).getD undef=_;rw[h5];rfl
theorem Lr.at{f}(h:Lr f n w v lo hi):∃a c,v=.slice a n c/\JX w a n f:=by
 rcases h with⟨d,rfl⟩|⟨b,c,Z,g,h1,h2,h3,h4,h5,e⟩
 .subst d;exact⟨_,_,rfl,.inl rfl⟩
 exact⟨_,_,h1,.inr ⟨b,0,rfl,H8 h4,λi hi=>by rw[We];exact dN h4 h5 e hi⟩⟩
def UL(p:Vl)(h:q<o\/o+5<=q):(((((w.setCell (G b o)<|J p.kind).setCell (G b<|o+1)<|J p.num).setCell (G b<|o+2)<|F9 p.Af).setCell (G b<|o+3)<|.string p.str).setCell (G b<|o+4)<|J p.ref).cell? (G b q)=w.cell? (G b q):=by
 grind [Aa]
def ZD{g}p(h:w.rowIs b ty Z g)(c:o+5<=Z):(∃g',(((((w.setCell (G b o)<|J p.kind).setCell (G b<|o+1)<|J p.num).setCell (G b<|o+2)<|F9 p.Af).setCell (G b<|o+3)<|.string p.str).setCell (G b<|o+4)<|J p.ref).rowIs b ty Z g')/\EP (((((w.setCell (G b o)<|J p.kind).setCell (G b<|o+1)<|J p.num).setCell (G b<|o+2)<|F9 p.Af).setCell (G b<|o+3)<|.string p.str).setCell (G b<|o+4)<|J p.ref) b o p:=by
 have a:=((((h.set o<|J p.kind).set (o+1)<|J p.num).set (o+2)<|F9 p.Af).set (o+3)<|.string p.str).set (o+4)<|J p.ref;refine⟨⟨_,a⟩,?_⟩;constructor;all_goals(rw[a.cell om];simp)
def UK(p:Si)(h:q<o\/o+5<=q):(((((w.setCell (G b o)<|.string p.key).setCell (G b<|o+1)<|J p.shape).setCell (G b<|o+2)<|J p.place).setCell (G b<|o+3)<|J p.BZ).setCell (G b<|o+4)<|J p.AB).cell? (G b q)=w.cell? (G b q):=by
 grind [Aa]
def ZC{g}p(h:w.rowIs b ty Z g)(c:o+5<=Z):(∃g',(((((w.setCell (G b o)<|.string p.key).setCell (G b<|o+1)<|J p.shape).setCell (G b<|o+2)<|J p.place).setCell (G b<|o+3)<|J p.BZ).setCell (G b<|o+4)<|J p.AB).rowIs b ty Z g')/\Vt (((((w.setCell (G b o)<|.string p.key).setCell (G b<|o+1)<|J p.shape).setCell (G b<|o+2)<|J p.place).setCell (G b<|o+3)<|J p.BZ).setCell (G b<|o+4)<|J p.AB) b o p:=by
 have a:=((((h.set o<|.string p.key).set (o+1)<|J p.shape).set (o+2)<|J p.place).set (o+3)<|J p.BZ).set (o+4)<|J p.AB;refine⟨⟨_,a⟩,?_⟩;constructor;all_goals(rw[a.cell om];simp)
def UM va vc la lc ia ic xa xc(t:Tb)(h:q<o\/o+8<=q):((((((((w.setCell (G b o)<|J t.shape).setCell (G b<|o+1)<|.slice va t.nv vc).setCell (G b<|o+2)<|.slice la t.d.n lc).setCell (G b<|o+3)<|.slice ia t.d.m ic).setCell (G b<|o+4)<|.slice xa t.d.x xc).setCell (G b<|o+5)<|J t.d.used).setCell (G b<|o+6)<|J t.d.live).setCell (G b<|o+7)<|J t.d.turns).cell? (G b q)=w.cell? (G b q):=by
 grind [Aa]
def Gh{b'}va vc la lc ia ic xa xc(t:Tb)(h:b'≠b):((((((((w.setCell (G b o)<|J t.shape).setCell (G b<|o+1)<|.slice va t.nv vc).setCell (G b<|o+2)<|.slice la t.d.n lc).setCell (G b<|o+3)<|.slice ia t.d.m ic).setCell (G b<|o+4)<|.slice xa t.d.x xc).setCell (G b<|o+5)<|J t.d.used).setCell (G b<|o+6)<|J t.d.live).setCell (G b<|o+7)<|J t.d.turns).heap[b']?=w.heap[b']?:=by
 exact(At _ _ _ _<|by exact h).trans ((At _ _ _ _<|by exact h).trans<|(At _ _ _ _<|by exact h).trans<|(At _ _ _ _<|by exact h).trans<|(At _ _ _ _<|by exact h).trans<|(At _ _ _ _<|by exact h).trans<|(At _ _ _ _<|by exact h).trans<|At _ _ _ _<|by exact h)
def ZE{g}va vc la lc ia ic xa xc t(h:w.rowIs b ty Z g)(c:o+8<=Z):(∃g',((((((((w.setCell (G b o)<|J t.shape).setCell (G b<|o+1)<|.slice va t.nv vc).setCell (G b<|o+2)<|.slice la t.d.n lc).setCell (G b<|o+3)<|.slice ia t.d.m ic).setCell (G b<|o+4)<|.slice xa t.d.x xc).setCell (G b<|o+5)<|J t.d.used).setCell (G b<|o+6)<|J t.d.live).setCell (G b<|o+7)<|J t.d.turns).rowIs b ty Z g')/\IQ ((((((((w.setCell (G b o)<|J t.shape).setCell (G b<|o+1)<|.slice va t.nv vc).setCell (G b<|o+2)<|.slice la t.d.n lc).setCell (G b<|o+3)<|.slice ia t.d.m ic).setCell (G b<|o+4)<|.slice xa t.d.x xc).setCell (G b<|o+5)<|J t.d.used).setCell (G b<|o+6)<|J t.d.live).setCell (G b<|o+7)<|J t.d.turns) b o va vc la lc ia ic xa xc t:=by
 have a:=(((((((h.set o<|J t.shape).set (o+1)<|.slice va t.nv vc).set (o+2)<|.slice la t.d.n lc).set (o+3)<|.slice ia t.d.m ic).set (o+4)<|.slice xa t.d.x xc).set (o+5)<|J t.d.used).set (o+6)<|J t.d.live).set (o+7)<|J t.d.turns;refine⟨⟨_,a⟩,?_⟩;constructor;all_goals(rw[a.cell om];simp)
def FO:(prog.info? 43).map (λi=>(i.zero,i.size,i.bytes))=some (some<|V 0 0 0 ⟨#[]⟩ 0,5,48):=ou
def Wg(n:Nat)(hn:n<=1048576)w:
  (Instr.makeSlice 100 (J n)<|J n).run prog w=.ok (S9 w.heap.size n n) (w.alloc<|.cells (madeCells ((V 0 0 0 ⟨#[]⟩ 0):V9).cells<|n*5) 43):=by
 obtain⟨i,hi,hz,hs,hb⟩:=ON FO;have:=run_make (P:=prog) w 100 43 i _ underlying100 hi hz .i64 .i64 n n om (AaC _) (by rw[hb];omega) om;simp only[On,hs]at this;exact this
def Wb(w:Y)m:∃g,(w.alloc<|.cells (madeCells ((V 0 0 0 ⟨#[]⟩ 0):V9).cells m) 43).rowIs w.heap.size 43 m g:=by
 have h:=Aaj w (madeCells ((V 0 0 0 ⟨#[]⟩ 0):V9).cells m) 43 (λi=>((madeCells ((V 0 0 0 ⟨#[]⟩ 0):V9).cells m)[i]?).getD undef) (λi hi=>by rw[UP hi];rfl);rw[AaN]at h;exact⟨_,h⟩
def G5:(prog.info? 107).map (λi=>(i.zero,i.size,i.bytes))=some (some<|.agg #[E9,J 0,J 0,J 0,J 0],5,48):=ou
def Ze(n:Nat)(hn:n<=1048576)w:
  (Instr.makeSlice 40 (J n)<|J n).run prog w=.ok (S9 w.heap.size n n) (w.alloc<|.cells (madeCells ((.agg #[E9,J 0,J 0,J 0,J 0]):V9).cells<|n*5) 107):=by
 obtain⟨i,hi,hz,hs,hb⟩:=ON G5;have:=run_make (P:=prog) w 40 107 i _ underlying40 hi hz .i64 .i64 n n om (AaC _) (by rw[hb];omega) om;simp only[On,hs]at this;exact this
def Zd(w:Y)m:∃g,(w.alloc<|.cells (madeCells ((.agg #[E9,J 0,J 0,J 0,J 0]):V9).cells m) 107).rowIs w.heap.size 107 m g:=by
 have h:=Aaj w (madeCells ((.agg #[E9,J 0,J 0,J 0,J 0]):V9).cells m) 107 (λi=>((madeCells ((.agg #[E9,J 0,J 0,J 0,J 0]):V9).cells m)[i]?).getD undef) (λi hi=>by rw[UP hi];rfl);rw[AaN]at h;exact⟨_,h⟩
def JB:(prog.info? 105).map (λi=>(i.zero,i.size,i.bytes))=some (some<|.agg #[J 0,N9,N9,N9,N9,J 0,J 0,J 0],8,128):=ou
def Wd(n:Nat)(hn:n<=1048576)w:
  (Instr.makeSlice 39 (J n)<|J n).run prog w=.ok (S9 w.heap.size n n) (w.alloc<|.cells (madeCells ((.agg #[J 0,N9,N9,N9,N9,J 0,J 0,J 0]):V9).cells<|n*8) 105):=by
 obtain⟨i,hi,hz,hs,hb⟩:=ON JB;have:=run_make (P:=prog) w 39 105 i _ underlying39 hi hz .i64 .i64 n n om (AaC _) (by rw[hb];omega) om;simp only[On,hs]at this;exact this
def Wa(w:Y)m:∃g,(w.alloc<|.cells (madeCells ((.agg #[J 0,N9,N9,N9,N9,J 0,J 0,J 0]):V9).cells m) 105).rowIs w.heap.size 105 m g:=by
 have h:=Aaj w (madeCells ((.agg #[J 0,N9,N9,N9,N9,J 0,J 0,J 0]):V9).cells m) 105 (λi=>((madeCells ((.agg #[J 0,N9,N9,N9,N9,J 0,J 0,J 0]):V9).cells m)[i]?).getD undef) (λi hi=>by rw[UP hi];rfl);rw[AaN]at h;exact⟨_,h⟩
def NT(w:Y)(b n:Nat)(f:Nat->Vl):Prop:=(∃g,w.rowIs b 43 (n*5) g)/\∀i,i<n->EP w b (i*5) (f i)
def RE(w:Y)(b n:Nat)(f:Nat->Si):Prop:=(∃g,w.rowIs b 107 (n*5) g)/\∀i,i<n->Vt w b (i*5) (f i)
def NT.of_block{f}(h:NT w b n f)(e:w'.heap[b]?=w.heap[b]?):NT w' b n f:=
 ⟨h.1.imp λg r=>GW r e,λi hi=>(h.2 i hi).keep λq=>As e⟩
def RE.of_block{f}(h:RE w b n f)(e:w'.heap[b]?=w.heap[b]?):RE w' b n f:=
 ⟨h.1.imp λg r=>GW r e,λi hi=>(h.2 i hi).keep λq=>As e⟩
def NT.lt{f}(h:NT w b n f):b<w.heap.size:=by obtain⟨⟨g,r⟩,_⟩:=h;exact H8 r
def RE.lt{f}(h:RE w b n f):b<w.heap.size:=by obtain⟨⟨g,r⟩,_⟩:=h;exact H8 r
theorem NT.at{f}(h:NT w b n f):FA w (some<|G b 0) n f:=.inr ⟨b,0,rfl,h.lt,λi hi=>by rw[We];exact h.2 i hi⟩
theorem RE.at{f}(h:RE w b n f):FX w (some<|G b 0) n f:=.inr ⟨b,0,rfl,h.lt,λi hi=>by rw[We];exact h.2 i hi⟩
def SR{a:Option Addr}cap{f}{w}(hA:FA w a n f)(hn:n<=1048576):
  C9 97 #[.slice a n cap] w λe w'=>(e=.returned (S9 w.heap.size n n)/\NT w' w.heap.size n f)/\B9 w w':=by
 have A:=Wg n hn;have B:=O<|Wb w<|n*5;go_enter func97,ntmps97;go_wp2;go_loopw [4] (λi wr=>∃(k:Nat),k<=n/\i=J k/\B9 w wr/\(∃g,wr.rowIs w.heap.size 43 (n*5) g)/\∀j,j<k->EP wr w.heap.size (j*5) (f j)) λi _=>n-(intOf i).toNat
 .exact⟨0,om,rfl,n9,B,λj hj=>om⟩
 obtain⟨k,hk,rfl,hb,⟨g,d⟩,h⟩:=hrel;by_cases s:k<n
 .obtain⟨b,off,rfl,t,hcs⟩:=hA.resolve_left om;rcases (hcs k s).keep (λq=>hb.cell t),H8 d,O hb,O d,O h with⟨⟨e0,e1,e2,e3,E⟩,m,x,C,p⟩;go_wp2_with fail;refine m9 (Fx (f k).kind (f k).num (f k).Af (f k).str (f k).ref _) λw1 l=>?_;have c:=GW C<|l.block _ m;have d0:=c.cell (i:=k*5) om;have f0:=c.frozen<|k*5;have d1:=c.cell (i:=k*5+1) om;have f1:=c.frozen<|k*5+1;have d2:=c.cell (i:=k*5+2) om;have f2:=c.frozen<|k*5+2;have d3:=c.cell (i:=k*5+3) om;have f3:=c.frozen<|k*5+3;have d4:=c.cell (i:=k*5+4) om;have f4:=c.frozen<|k*5+4;obtain⟨u,v⟩:=ZD (f k) c (o:=k*5) om;have D:Hid<|∀j,j<k->EP w1 w.heap.size (j*5) (f j):=O λj hj=>(p j hj).EG λq _=>As<|l.block _ m;go_wp2_with fail;go_roundw
  .refine⟨k+1,om,ov,?_,z<|O u,λj hj=>?_⟩
   .repeat(refine NO ?_ (by exact Be _) _)
    exact z<|o8 x l
   by_cases e:j=k
   .subst e;exact v
   exact(D j om).EG λq hq=>UL (f k) om
  exact ow
 have r:k=n:=om;subst r;go_wp2_with fail;go_ret;exact⟨⟨rfl,⟨_,z<|O d⟩,z<|O h⟩,z<|O hb⟩
def WX s w:
  C9 56 #[SV s] w (R9 (SV s) w):=by
 go_enter func56,ntmps56;go_wp2;exact GO (v:=SV s) (by simp[results,results56,go_sem]) rfl ⟨rfl,((n9).alloc oq _).alloc ot _⟩
def U6{a:Option Addr}cap{f}{w}(hA:FX w a n f)(hn:n<=1048576):
  C9 24 #[.slice a n cap] w λe w'=>(e=.returned (S9 w.heap.size n n)/\RE w' w.heap.size n f)/\B9 w w':=by
 have A:=Ze n hn;have B:=O<|Zd w<|n*5;go_enter func24,ntmps24;go_wp2;go_loopw [4] (λi wr=>∃(k:Nat),k<=n/\i=J k/\B9 w wr/\(∃g,wr.rowIs w.heap.size 107 (n*5) g)/\∀j,j<k->Vt wr w.heap.size (j*5) (f j)) λi _=>n-(intOf i).toNat
 .exact⟨0,om,rfl,n9,B,λj hj=>om⟩
 obtain⟨k,hk,rfl,hb,⟨g,d⟩,h⟩:=hrel;by_cases s:k<n
 .obtain⟨b,off,rfl,t,hcs⟩:=hA.resolve_left om;rcases (hcs k s).keep (λq=>hb.cell t),H8 d,O hb,O d,O h with⟨⟨e0,e1,e2,e3,E⟩,m,x,C,p⟩;go_wp2_with fail;refine m9 (WX (f k) _) λw1 l=>?_;have c:=GW C<|l.block _ m;have d0:=c.cell (i:=k*5) om;have f0:=c.frozen<|k*5;have d1:=c.cell (i:=k*5+1) om;have f1:=c.frozen<|k*5+1;have d2:=c.cell (i:=k*5+2) om;have f2:=c.frozen<|k*5+2;have d3:=c.cell (i:=k*5+3) om;have f3:=c.frozen<|k*5+3;have d4:=c.cell (i:=k*5+4) om;have f4:=c.frozen<|k*5+4;obtain⟨u,v⟩:=ZC (f k) c (o:=k*5) om;have D:Hid<|∀j,j<k->Vt w1 w.heap.size (j*5) (f j):=O λj hj=>(p j hj).EG λq _=>As<|l.block _ m;go_wp2_with fail;go_roundw
  .refine⟨k+1,om,ov,?_,z<|O u,λj hj=>?_⟩
   .repeat(refine NO ?_ (by exact Be _) _)
    exact z<|o8 x l
   by_cases e:j=k
   .subst e;exact v
   exact(D j om).EG λq hq=>UK (f k) om
  exact ow
 have r:k=n:=om;subst r;go_wp2_with fail;go_ret;exact⟨⟨rfl,⟨_,z<|O d⟩,z<|O h⟩,z<|O hb⟩
def JX.of_block{f}(h:JX w (some<|G s 0) n f)(e:w'.heap[s]?=w.heap[s]?)(hl:s<w'.heap.size):JX w' (some<|G s 0) n f:=by
 rcases h with h|⟨b,off,e',a,hc⟩
 .exact .inl h
 cases e';exact .inr ⟨s,0,rfl,hl,λi hi=>(hc i hi).keep λq=>As e⟩
def JP.of_block{f}(h:JP w (some<|G s 0) n f)(e:w'.heap[s]?=w.heap[s]?)(hl:s<w'.heap.size):JP w' (some<|G s 0) n f:=by
 rcases h with h|⟨b,off,e',a,hc⟩
 .exact .inl h
 cases e';exact .inr ⟨s,0,rfl,hl,λi hi=>(As e).trans<|hc i hi⟩
def ED(e:w'.heap[b]?=w.heap[b]?)(hl:b<w.heap.size):b<w'.heap.size:=by
 grind
def Eb(B H:Nat)(w:Y)(b o:Nat)(t:Tb):Prop:=
 ∃a c s1 s2,IQ w b o (some<|G a 0) t.nv (some<|G c 0) t.d.n (some<|G s1 0) t.d.m (some<|G s2 0) t.d.x t/\(B<=a/\a<H/\c<H/\s1<H/\s2<H)/\NT w a t.nv t.V/\Ea w (some<|G c 0) (some<|G s1 0) (some<|G s2 0) t.d/\qL B w c s1 s2 t.d
def Eb.keep{t}(h:Eb B H w b o t)(k:H<=H')(hk:∀q,B<=q->q<H->q<w.heap.size->w'.heap[q]?=w.heap[q]?)(hc:∀j,j<8->w'.cell? (G b<|o+j)=w.cell? (G b<|o+j)):Eb B H' w' b o t:=by
 obtain⟨d,e,s1,s2,h1,⟨h2,h3,h4,h5,i⟩,f,c,a⟩:=h;obtain⟨l0,l1,l2⟩:=a.lt;rcases hk e a.b0 h4 l0,hk s1 a.b1 h5 l1,hk s2 a.b2 i l2 with⟨e0,e1,e2⟩;exact⟨d,e,s1,s2,h1.EG hc,⟨h2,om,om,om,om⟩,f.of_block<|hk d h2 h3 f.lt,⟨c.log.of_block e0<|ED e0 l0,c.ints.of_block e1<|ED e1 l1,c.index.of_block e2<|ED e2 l2⟩,
  ⟨a.b0,a.b1,a.b2,a.sP,a.rJ,a.sQ,a.r0.imp λg r=>GW r e0,a.r1.imp λg r=>GW r e1,a.r2.imp λg r=>GW r e2⟩⟩
theorem Eb.at{t}(h:Eb B H w b o t):Ys w b o t:=by
 obtain⟨d,e,s1,s2,h1,h2,a,c,f⟩:=h;exact⟨_,_,_,_,_,_,_,_,h1,a.at,c⟩
def LF(H:Nat)(w:Y)(b n:Nat)(f:Nat->Tb):Prop:=(∃g,w.rowIs b 105 (n*8) g)/\∀i,i<n->Eb (b+1) H w b (i*8) (f i)
def LF.lt{f}(h:LF H w b n f):b<w.heap.size:=by obtain⟨⟨g,r⟩,_⟩:=h;exact H8 r
def LF.below{f}(h:LF H w b n f)(hb:B9 w w')(a:H<=H'):LF H' w' b n f:=
 ⟨h.1.imp λg r=>GW r<|hb.block b h.lt,λi hi=>(h.2 i hi).keep a (λq _ _ hq=>hb.block q hq) λj _=>As<|hb.block b h.lt⟩
def LF.setOther{c}{f}(h:LF H w b n f)(hc:c<b):LF H (w.setCell (G c q) v) b n f:=
 ⟨h.1.imp λg r=>GW r<|At _ _ _ _<|by show b≠c;omega,λi hi=>(h.2 i hi).keep (Be _) (λa hq _ _=>At _ _ _ _<|by show a≠c;omega) λj _=>Al om⟩
theorem LF.at{f}(h:LF H w b n f):RH w (some<|G b 0) n f:=.inr ⟨b,0,rfl,h.lt,λi hi=>by rw[We];exact(h.2 i hi).at⟩
def U7{va:Option Addr}vc{la:Option Addr}lc{ia:Option Addr}ic{xa:Option Addr}xc t{w}(D:FA w va t.nv t.V)(hD:Ea w la ia xa t.d)(hn:t.nv<=1048576)(E:Small t.d):
  C9 55 #[TV va vc la lc ia ic xa xc t] w λe w'=>(∃k j s1 s2,e=.returned (TV (some<|G k 0) t.nv (some<|G j 0) t.d.n (some<|G s1 0) t.d.m (some<|G s2 0) t.d.x t)/\w.heap.size<=k/\NT w' k t.nv t.V/\Ea w' (some<|G j 0) (some<|G s1 0) (some<|G s2 0) t.d/\qL w.heap.size w' j s1 s2 t.d)/\B9 w w':=by
 have f:B9 w<|((w.alloc<|.cells #[J t.shape,.slice va t.nv vc,.slice la t.d.n lc,.slice ia t.d.m ic,.slice xa t.d.x xc,J t.d.used,J t.d.live,J t.d.turns] 95).alloc<|.cells #[J 0,N9,N9,N9,N9,J 0,J 0,J 0] 105).alloc<|.cells #[J t.shape,N9,N9,N9,N9,J 0,J 0,J 0] 105:=((n9).alloc oq _).alloc ot _;go_enter func55,ntmps55;go_wp2_with fail;refine(SR vc (D.below f rfl) hn).mono ?_;rintro e w1 ⟨⟨rfl,g⟩,h⟩;obtain⟨l,F⟩:=AM h;have o:=h.size;simp at o g;have H:w.heap.size+1<w1.heap.size:=om;have K:w.heap.size+1+1<w1.heap.size:=om;have a:Hid<|∀v,B9 w<|w1.setCell (Z9 w 1) v:=O λv=>(z<|o8 f h).setCell oy _;go_wp2_with fail;refine(WV lc ic xc (hD.below<|a _) E).mono ?_;rintro e w2 ⟨⟨j,s1,s2,rfl,i,b⟩,c⟩;obtain⟨p,I⟩:=AM c;have q:=c.size;simp at q;have z0:w.heap.size<w2.heap.size:=om;have r:=g.lt;have A:w1.heap.size<=j:=by have:=b.b0;simpa using this
 have B:w1.heap.size<=s1:=by have:=b.b1;simpa using this
 have C:w1.heap.size<=s2:=by have:=b.b2;simpa using this
 have s:=(g.of_block<|At _ _ _ _<|by show w.heap.size+1+1+1≠w.heap.size+1+1;omega).of_block<|c.block _ (by simpa using r);have u:=o8 (a _) c;go_wp2;refine GO (v:=TV (some<|G (w.heap.size+1+1+1) 0) t.nv (some<|G j 0) t.d.n (some<|G s1 0) t.d.m (some<|G s2 0) t.d.x t) (by simp[results,results55,go_sem,l,p,H]) rfl ⟨⟨_,_,_,_,rfl,om,?_,⟨?_,?_,?_⟩,?_⟩,?_⟩
 .repeat(refine NT.of_block ?_<|At _ _ _ _<|by first|(show w.heap.size+1+1+1≠w.heap.size+1;omega)|(show w.heap.size+1+1+1≠w.heap.size+1+1;omega))
  exact s
 .repeat(refine JX.setOther ?_ om)
  exact i.log
 .repeat(refine JP.setOther ?_ om)
  exact i.ints
 .repeat(refine JP.setOther ?_ om)
  exact i.index
 .obtain⟨_,_,_,sP,rJ,sQ,⟨g0,r0⟩,⟨g1,r1⟩,⟨g2,r2⟩⟩:=b;refine⟨om,om,om,sP,rJ,sQ,⟨g0,?_⟩,⟨g1,?_⟩,⟨g2,?_⟩⟩
  .repeat(refine FK ?_ om)
   exact r0
  .repeat(refine FK ?_ om)
   exact r1
  repeat(refine FK ?_ om)
  exact r2
 repeat(refine NO ?_ (by first|(show w.heap.size<=w.heap.size+1;omega)|(show w.heap.size<=w.heap.size+1+1;omega)) _)
 exact u
def SQ{a:Option Addr}cap{f}{w}(hA:RH w a n f)(hn:n<=1048576)(hs:∀i,i<n->(f i).nv<=1048576/\Small (f i).d):
  C9 23 #[.slice a n cap] w λe w'=>(e=.returned (S9 w.heap.size n n)/\LF w'.heap.size w' w.heap.size n f)/\B9 w w':=by
 rcases Wd n hn,O<|Wa w<|n*8,O hs with⟨U,V,R⟩;go_enter func23,ntmps23;go_wp2;go_loopw [4] (λi wr=>∃(k:Nat),k<=n/\i=J k/\B9 w wr/\(∃g,wr.rowIs w.heap.size 105 (n*8) g)/\∀j,j<k->Eb (w.heap.size+1) wr.heap.size wr w.heap.size (j*8) (f j)) λi _=>n-(intOf i).toNat
 .exact⟨0,om,rfl,n9,V,λj hj=>om⟩
 obtain⟨k,hk,rfl,hb,⟨g,l⟩,B⟩:=hrel;by_cases C:k<n
 .obtain⟨b,off,rfl,M,hcs⟩:=hA.resolve_left om;obtain⟨va,vc,la,lc,ia,ic,xa,xc,hc,W,X⟩:=(hcs k C).below hb M;obtain⟨e0,e1,e2,e3,e4,e5,e6,e7⟩:=hc;rcases H8 l,O<|qj W X,O hb,O l,O B with⟨F,H,S,Z,I⟩;go_wp2_with fail;refine(U7 vc lc ic xc (f k) H.1 H.2 (R k C).1 (R k C).2).mono ?_;rintro e w1 ⟨⟨D,E,s1,s2,rfl,K,t,p,h⟩,s⟩;have c:=GW Z<|s.block _ F;have d0:=c.cell (i:=k*8) om;have f0:=c.frozen<|k*8;have d1:=c.cell (i:=k*8+1) om;have f1:=c.frozen<|k*8+1;have d2:=c.cell (i:=k*8+2) om;have f2:=c.frozen<|k*8+2;have d3:=c.cell (i:=k*8+3) om;have f3:=c.frozen<|k*8+3;have d4:=c.cell (i:=k*8+4) om;have f4:=c.frozen<|k*8+4;have d5:=c.cell (i:=k*8+5) om;have f5:=c.frozen<|k*8+5;have d6:=c.cell (i:=k*8+6) om;have f6:=c.frozen<|k*8+6;have d7:=c.cell (i:=k*8+7) om;have f7:=c.frozen<|k*8+7;obtain⟨P,Q⟩:=ZE (some<|G D 0) (f k).nv (some<|G E 0) (f k).d.n (some<|G s1 0) (f k).d.m (some<|G s2 0) (f k).d.x (f k) c (o:=k*8) om;have HN:Hid<|∀j,j<k->Eb (w.heap.size+1) w1.heap.size w1 w.heap.size (j*8) (f j):=O λj hj=>(I j hj).keep s.size (λq _ _ hq=>s.block q hq) λq _=>As<|s.block _ F;go_wp2_with fail;go_roundw
  .refine⟨k+1,om,ov,?_,z<|O P,λj hj=>?_⟩
   .repeat(refine NO ?_ (by exact Be _) _)
    exact z<|o8 S s
   by_cases e:j=k
   .subst e;obtain⟨K,t,p,h⟩:=z<|O<|qj K<|qj t<|qj p h;rcases h.lt,h.b0,h.b1,h.b2 with⟨⟨t0,t1,t2⟩,q0,q1,q2⟩;have T:=Gh (w:=w1) (b:=w.heap.size) (b':=D) (o:=j*8) (some<|G D 0) (f j).nv (some<|G E 0) (f j).d.n (some<|G s1 0) (f j).d.m (some<|G s2 0) (f j).d.x (f j) om;have u:=Gh (w:=w1) (b:=w.heap.size) (b':=E) (o:=j*8) (some<|G D 0) (f j).nv (some<|G E 0) (f j).d.n (some<|G s1 0) (f j).d.m (some<|G s2 0) (f j).d.x (f j) om;have v:=Gh (w:=w1) (b:=w.heap.size) (b':=s1) (o:=j*8) (some<|G D 0) (f j).nv (some<|G E 0) (f j).d.n (some<|G s1 0) (f j).d.m (some<|G s2 0) (f j).d.x (f j) om;have A:=Gh (w:=w1) (b:=w.heap.size) (b':=s2) (o:=j*8) (some<|G D 0) (f j).nv (some<|G E 0) (f j).d.n (some<|G s1 0) (f j).d.m (some<|G s2 0) (f j).d.x (f j) om;refine⟨D,E,s1,s2,Q,⟨om,ED T t.lt,ED u t0,ED v t1,ED A t2⟩,t.of_block T,⟨p.log.of_block u<|ED u t0,p.ints.of_block v<|ED v t1,p.index.of_block A<|ED A t2⟩,⟨om,om,om,h.sP,h.rJ,h.sQ,h.r0.imp λg r=>GW r u,h.r1.imp λg r=>GW r v,h.r2.imp λg r=>GW r A⟩⟩
   refine(HN j om).keep oq (λq hq _ _=>?_) λq hq=>UM _ _ _ _ _ _ _ _ _ om;exact Gh _ _ _ _ _ _ _ _ _ om
  exact ow
 have L:k=n:=om;subst L;go_wp2_with fail;go_ret;exact⟨⟨rfl,⟨_,z<|O l⟩,z<|O B⟩,z<|O hb⟩
structure IP (B H:Nat) (w:Y) (m tb a:Nat) (s:AK):Prop where
 bm:B<=m
 mt:m<tb
 ts:tb<a
 sh:a<H
 fo:Bg w m s.nf s.F
 ta:LF H w tb s.nt s.T
 tr:∀i,i<s.nt->Eb (tb+1) H w tb (i*8) (s.T i)
 si:RE w a s.ns s.S
def IP.below{tb}{s}(h:IP B H w m tb a s)(hb:B9 w w'):IP B H w' m tb a s:=
 ⟨h.bm,h.mt,h.ts,h.sh,h.fo.below hb h.fo.lt,h.ta.below hb<|Be _,(h.ta.below hb<|Be _).2,h.si.of_block<|hb.block _ h.si.lt⟩
def GF{B:Option Addr}C{ta:Option Addr}tc{sa:Option Addr}sc{s}{w}(D:Tg w B ta sa s)(hs:Ey s):
  C9 7 #[PY B C ta tc sa sc s] w λe w'=>(∃m tb V,e=.returned (PY (some<|G m 0) s.nf (some<|G tb 0) s.nt (some<|G V 0) s.ns s)/\IP w.heap.size w'.heap.size w' m tb V s)/\B9 w w':=by
 have l:B9 w<|((w.alloc<|.cells #[.slice B s.nf C,.slice ta s.nt tc,.slice sa s.ns sc] 28).alloc<|.cells #[N9,N9,N9] 42).alloc<|.cells #[N9,N9,N9] 42:=((n9).alloc oq _).alloc ot _;go_enter func7,ntmps7;go_wp2_with fail;refine(SL C (D.below l).fo hs.f.1).mono ?_;rintro e w1 ⟨⟨m,rfl,hm,t⟩,k⟩;obtain⟨E,X⟩:=AM k;have F:=k.size;simp at F hm;have H:=t.lt;have y0:w.heap.size<w1.heap.size:=om;have y1:w.heap.size+1<w1.heap.size:=om;have y2:w.heap.size+1+1<w1.heap.size:=om;have I:=o8 l k;clear k;have d:Hid<|∀v,B9 w<|w1.setCell (G (w.heap.size+1+1) 0) v:=O λv=>I.setCell oy _;go_wp2_with fail;refine(SQ tc (D.below<|d _).ta hs.nt λi hi=>⟨hs.nv hi,hs.IY hi⟩).mono ?_;rintro e w2 ⟨⟨rfl,o⟩,h⟩;obtain⟨K,ad⟩:=AM h;have L:=h.size;simp at L o;have ae:=o.lt;have z0:w.heap.size<w2.heap.size:=om;have z1:w.heap.size+1<w2.heap.size:=om;have z2:w.heap.size+1+1<w2.heap.size:=om;have u:=O<|(t.setOther (a:=G (w.heap.size+1+1) 0) (by show m≠w.heap.size+1+1;omega)<|S9 m s.nf s.nf).below h (by simpa using H);have M:=o8 (d _) h;clear h;have j:Hid<|∀v,B9 w<|w2.setCell (G (w.heap.size+1+1) 1) v:=O λv=>M.setCell oy _;go_wp2_with fail;refine(U6 sc (D.below<|j _).si hs.n).mono ?_;rintro e w3 ⟨⟨rfl,p⟩,c⟩;obtain⟨P,af⟩:=AM c;have x:=c.size;simp at x p;have ag:=p.lt;have x0:w.heap.size<w3.heap.size:=om;have Q:=O<|(u.setOther (a:=G (w.heap.size+1+1) 1) (by show m≠w.heap.size+1+1;omega)<|S9 w1.heap.size s.nt s.nt).below c (by have:=u.lt;simpa using this);have R:=(o.setOther (q:=1) (v:=S9 w1.heap.size s.nt s.nt)<|show w.heap.size+1+1<w1.heap.size by omega).below c (by simpa using x);have S:=o8 (j _) c;clear c;go_wp2;have A:Hid (∀W:World,(∀b,b<w3.heap.size->b≠w.heap.size+1->b≠w.heap.size+1+1->W.heap[b]?=w3.heap[b]?)->W.heap.size=w3.heap.size->IP w.heap.size W.heap.size W m w1.heap.size w2.heap.size s):=O (λW hk hz=>by
  have Z:LF W.heap.size W w1.heap.size s.nt s.T:=by
   obtain⟨⟨g,r⟩,h2⟩:=z R;have e:=hk w1.heap.size (H8 r) om om;refine⟨⟨g,GW r e⟩,λi hi=>(h2 i hi).keep om (λq hq _ U=>hk q U om om) λq _=>As e⟩
  exact⟨om,om,om,om,Q.of_block (hk m om om om),Z,Z.2,p.of_block (hk _ om om om)⟩)
 refine GO (v:=PY (some<|G m 0) s.nf (some<|G w1.heap.size 0) s.nt (some<|G w2.heap.size 0) s.ns s) (by simp[results,results7,go_sem,E,K,P,y1,z1]) rfl ⟨⟨m,w1.heap.size,w2.heap.size,rfl,?_⟩,?_⟩
 .refine A _ (λb hb h1 h2=>?_) oq;repeat rw[At _ _ _ _ (by first|(show b≠w.heap.size+1;omega)|(show b≠w.heap.size+1+1;omega))]
 repeat(refine NO ?_ (by first|(show w.heap.size<=w.heap.size+1;omega)|(show w.heap.size<=w.heap.size+1+1;omega)) _)
 exact S
def Th(w:Y)(a:T9)(n:Nat)(f:Nat->Tb)(A:Nat->Ad):Prop:=
 n=0\/∃b off,a=some (G b off)/\b<w.heap.size/\∀i,i<n->IQ w b (off+i*8) (A i).va (A i).vc (A i).la (A i).lc (A i).ia (A i).ic (A i).xa (A i).xc (f i)/\FA w (A i).va (f i).nv (f i).V/\Ea w (A i).la (A i).ia (A i).xa (f i).d
def RH.addr{a:Option Addr}{f}(h:RH w a n f):∃A,Th w a n f A:=by
 rcases h with h|⟨b,off,e,c,hc⟩
 .exact⟨λ_=>default,.inl h⟩
 have h2:∀i,∃A:Ad,i<n->IQ w b (off+i*8) A.va A.vc A.la A.lc A.ia A.ic A.xa A.xc (f i)/\FA w A.va (f i).nv (f i).V/\Ea w A.la A.ia A.xa (f i).d:=λi=>by
  by_cases hi:i<n
  .obtain⟨va,vc,la,lc,ia,ic,xa,xc,h1⟩:=hc i hi;exact⟨⟨va,vc,la,lc,ia,ic,xa,xc⟩,λ_=>h1⟩
  exact⟨default,λh=>absurd h hi⟩
 obtain⟨A,hA⟩:=Classical.skolem.1 h2;exact⟨A,.inr ⟨b,off,e,c,hA⟩⟩
def Th.below{a:Option Addr}{f}{A}(h:Th w a n f A)(hb:B9 w w'):Th w' a n f A:=by
 rcases h with h|⟨b,off,e,c,hc⟩
 .exact .inl h
 exact .inr ⟨b,off,e,A0 c hb.size,λi hi=>⟨(hc i hi).1.EG λq _=>hb.cell c,(hc i hi).2.1.below hb rfl,(hc i hi).2.2.below hb⟩⟩
def AL(B:Nat->Nat)(A:Ad)(t:Tb):Value:=if t.shape=-1 then .iface 194 (KC A t)else .iface 197 (Cz (B t.shape.toNat) A t)
def kL(B:Nat->Nat)(A:Nat->Ad)(s:AK)(k:Nat):List Value:=(List.range k).map λi=>AL B (A i)<|s.T i
def Sa B A s k:kL B A s k++[AL B (A k) (s.T k)]=kL B A s (k+1):=by
 unfold kL;rw[List.range_succ,AaA];rfl
def LV{B}{A}{s}(h:i<k):(kL B A s k)[i]?=some (AL B (A i)<|s.T i):=by simp[kL,h]
def QW B A t:(AL B A t).oneCell'=true:=by
 unfold AL;split<;>rfl
def TX:(prog.info? 128).map (λi=>(i.zero,i.size,i.bytes))=some (some .nilIface,1,16):=ou
def Nd.OD{s}{B Z}(h:Nd w s b0 g B Z M)(hk:∀b,b0<=b->b<w.heap.size->w'.heap[b]?=w.heap[b]?)(a:w'.heap[g]?=w.heap[g]?):Nd w' s b0 g B Z M:=
 ⟨{h.ns with
  node:=λi hi hn=>(h.ns.node i hi hn).of_block (hk _ (h.ns.base i hi)<|H8<|h.ns.node i hi hn)
  kids:=λi m hi hn d=>by
   obtain⟨g,a,hK⟩:=h.ns.kids i m hi hn d;obtain⟨es,c,hc⟩:=a.isMap;exact⟨g,a.block (hk _ (h.ns.mbase i m hi hn d) (E1.1 hc).1),hK⟩},h.id,ED a h.lt,λi hi=>(As a).trans (h.qN i hi)⟩
def Nd.SB{s}{b1}{B Z}(h:Nd w s b0 g B Z M)(hb:b1<=b0):Nd w s b1 g B Z M:=⟨h.ns.SB hb,h.id,h.lt,h.qN⟩
def Wp{base size}(h:w.ownsRow base e size v n xs)(hk:∀q,base<=q->q<w.heap.size->w'.heap[q]?=w.heap[q]?):w'.ownsRow base e size v n xs:=by
 obtain⟨hl,⟨a,d⟩|⟨g',cap,cur,a,b,c,h1,h2,h3,h4⟩⟩:=h
 .exact⟨hl,.inl ⟨a,d⟩⟩
 refine⟨hl,.inr ⟨g',cap,cur,a,b,?_,h1,h2,h3,h4⟩⟩;grind
def iB(w0:Y)(s:AK)(D:Nat->Int)(A:Nat->Ad)(e:Ending)(w:Y):Prop:=
 (∃r:Int,e=.returned (.tuple #[.agg #[N9,N9],J r])/\r=Bz s D/\r≠0)\/
 (∃g a B Z M v b1,e=.returned (.tuple #[.agg #[S9 g s.nf a,v],J 0])/\Bz s D=0/\Nd w s w0.heap.size g B Z M/\(w0.heap.size<=b1/\w.ownsRow w0.heap.size 140 1 (S9 g s.nf a) s.nf (ptrs B s.nf))/\w.ownsRow b1 128 1 v s.nt (kL B A s s.nt))
section
open Go.RowKit Go.Shelf
attribute [local go_sem] Oper.semAt_some
structure PX (p n0:Nat) (A B:Y):Prop where
 size:A.heap.size<=B.heap.size
 block:∀b,b<n0->b≠p->B.heap[b]?=A.heap[b]?
def PX.refl p n0 A:PX p n0 A A:=⟨Be _,λ_ _ _=>rfl⟩
theorem PX.trans{B C}(h:PX p n0 A B)(k:PX p n0 B C):PX p n0 A C:=⟨GP h.size k.size,λb h1 h2=>(k.block b h1 h2).trans<|h.block b h1 h2⟩
def PX.put(hn:n0<=w.heap.size)W l o o'(hl:w.heap.size<=l)(h:W.heap[l]?=some o)(_:o.isCells=false)(_:o.isWalk=false):PX p n0 W<|W.putObj l o':=by
 have hb:=(BE n0 W).grown (NX W l o') (oS (E1.1 h).1) (λk e=>by cases e;omega);exact⟨hb.size,λb h1 _=>hb.block b h1⟩
def Kl{B:Y}{row}{c}{t}{fz}(h:A.heap[b]?=some (.cells c t fz))(d:A.grownBy B row)(f:∀r,row=some r->D<=r/\∃o,A.heap[r]?=some o/\o.isCells=false):B.heap[b]?=A.heap[b]?:=
 d.block b (E1.1 h).1 (λe=>by
  obtain⟨_,o,a,hc⟩:=f b e.symm;rw[h]at a;cases a;cases hc)
def Q8{B:Y}{row}{base size}(h:A.ownsRow base e size v n xs)(a:A.grownBy B row)(b:∀r,row=some r->D<=r/\∃o,A.heap[r]?=some o/\o.isCells=false):B.ownsRow base e size v n xs:=by
 obtain⟨hl,h|⟨g,cap,cur,h1,h2,h3,h4⟩⟩:=h
 .exact⟨hl,.inl h⟩
 exact⟨hl,.inr ⟨g,cap,cur,h1,h2,(Kl h3 a b).trans h3,h4⟩⟩
section
variable {P:Program}
end
def Qh(n)(hn:1<=n){bk s F R2}(A p n0){E S}{d}{w}(H:JN w bk s F R2 E S d)(I:Small d)(B:0<d.n->s<n0/\s≠p)(K:∀i,i<d.n->E i<n0/\E i≠p)
  (m0:w.cell? (G A 0)=some (Q9 bk)):
  SeqStopsK Fence.wide n prog 233 #[Q9 A] (λa=>#[Q9 (E a.1)]) (PX p n0)
   (aR d) (Te d) d.n w:=λl Z U W C V M P Q=>by
 have m0:=(C.cell<|IF _ _ m0).trans m0;have g:=H.below C;rcases g.c0,I.n,O K with⟨⟨a0,k0,c0,u⟩,R,D⟩;refine callsIn_of_wp func233 rfl trivial ?_ rfl;simp only[ntmps233,Aar,Aae,X9,Nat.reduceAdd,Nat.reduceSub,Aag,Aaf,Aas,Aai,Aad,Aaq];gi_wp2
 gi_loopw [10] (λi wr=>∃(k:Nat) (pre:List<|Ml d),k<=d.n/\i=J (k:Int)/\II d k pre/\Z pre wr/\PX p n0 W wr) λi _=>d.n-(intOf i).toNat
 case atStart=>exact⟨0,[],om,rfl,rfl,z<|O Q,PX.refl _ _ _⟩
 case round=>
  obtain⟨k,pre,hk,rfl,c,j,f⟩:=hrel;by_cases b:k<d.n
  .obtain rfl:=z (O u) om;have X:=(As (a:=G s k)<|f.block _ (B om).1 (B om).2).trans<|g.r0 k b;have t0:=(As (a:=G (E k) 10)<|f.block _ (D k b).1 (D k b).2).trans (g.Cw k b).tn;by_cases o:(d.L k).turn=0
   .have t:II d (k+1) pre:=by unfold II;rw[B7 o];exact c
    rw[o]at t0;gi_wp2;refine⟨λ_ h=>(by cases h),?_⟩;gi_wp2;go_roundw
    .exact⟨k+1,pre,om,ov,t,j,f⟩
    exact ow
   have T:((d.L k).turn !=0)=true:=by simp[o]
   obtain⟨fn,tmps,assign,body,hy,m⟩:=z (O P) pre ⟨k,b,o⟩ wr j (by
    have h1:=congrArg List.length c;rw[List.length_map]at h1;have:=FI d k;omega)
   have t:Hid<|II d (k+1)<|pre++[⟨k,b,o⟩]:=O (by
    unfold II;rw[Bi o,AaA,show pre.map (·.1)=AW d k from c];rfl)
   dsimp only at hy;gi_wp2;refine m.mono ?_;rintro e W3 (⟨rfl,v,x⟩|⟨rfl,q⟩)
   .clear hy m;gi_wp2;go_roundw
    .exact⟨k+1,_,om,ov,t,v,f.trans x⟩
    exact ow
   clear hy m;gi_wp2;refine GO (Aaw rfl _ _ _) rfl ?_;exact⟨⟨_,rfl⟩,.inr ⟨_,t.pre om,q⟩⟩
  have r:k=d.n:=om;subst r;gi_wp2;go_end0;exact⟨⟨_,rfl⟩,.inl ⟨pre,c,j⟩⟩
end
def cS s w:
  C9 91 #[.string s] w (R9 (V 4 0 0 s 0) w):=by
 go_enter func91,ntmps91;go_wp2;exact GO (v:=V 4 0 0 s 0) (by simp[results,results91,go_sem]) rfl ⟨rfl,n9⟩
def PF s w:
  C9 186 #[.string s] w (R9 (V 4 0 0 s 0) w):=by
 go_enter func186,ntmps186;go_wp2;exact GO (v:=V 4 0 0 s 0) (by simp[results,results186,go_sem]) rfl ⟨rfl,n9⟩
def Gl(s:AK)(j:Nat)(t:Tb)(i:Nat):Pr:=⟨⟨4,0,0,DK s.F j i,0⟩,t.V i,(i:Int)+1⟩
def Jg s b0 B Z M A t j{w}(hN:Cr w s.F b0 s.nf B Z M)(hid:∀i,i<s.nf->Z i=i)(h0:Aq s.nf s.F=0)(hj:j<s.nf)(hV:FA w A.va t.nv t.V)(E:t.nv=nf s.F j):
  C9 197 #[Cz (B j) A t] w λe w'=>(∃v,e=.returned v/\BP w' w.heap.size v (nf s.F j) (Gl s j t))/\B9 w w':=by
 obtain⟨h1,h2,h3,h4,h5⟩:=Av h0;have H:nf s.F j<=12:=by have:=(A7 (k:=s.nf) h2 (λq h1 h2=>h3 q h1 h2) j hj).2;unfold nf;omega
 obtain⟨i0,hi,S,T,U⟩:=ON EF;obtain⟨W,hW,l,_,o0⟩:=JQ w<|.cells #[.slice A.va t.nv A.vc,.slice A.la t.d.n A.lc,.slice A.ia t.d.m A.ic,.slice A.xa t.d.x A.xc,J t.d.used,J t.d.live,J t.d.turns,Q9 (B j)] 197;have lw:w.heap.size<W.heap.size:=om;rcases v8 o0,O<|qj (hN.below l) hid,O<|hV.below l rfl,O l,O h2,O h3,O E with⟨⟨x0,_,_,_,_,_,_,x7⟩,r,I,K,H2,H3,u⟩;clear l hV hN hid h0 h1 h2 h3 h4 h5 E;obtain⟨n,hn⟩:=o9<|nf s.F j;rw[<-hn]at H u ⊢;have a8:=O hn;go_enter func197,ntmps197;go_wp2_with fail;rw[<-hW];clear hW;refine(VD _ b0 B Z M r.1 r.2 H2 H3 j hj).mono ?_;rintro e w1 ⟨⟨m,rfl,hm,c⟩,f⟩;rw[<-hn]at c ⊢;clear hn;rcases (f.cell lw).trans x0,A0 lw f.size,H8 c,O<|I.below f rfl,O<|o8 K f,O c with⟨y0,X,ae,af,C,ag⟩;clear f x0 x7 c I r;go_wp2;go_loopw [3,10] (λv i wr=>∃(k:Nat),k<=n/\i=J k/\BP wr w1.heap.size v k (Gl s j t)/\B9 w1 wr) λ_ i _=>n-(intOf i).toNat
 .exact⟨0,om,rfl,NB _ _ _ _,BE _ _⟩
 obtain⟨k,hk,rfl,L,hb⟩:=hrel;by_cases P:k<n
 case neg=>
  have ah:k=n:=om;have D:=O<|o8 C hb;have HO:=O L;clear hb L P;subst ah;go_wp2;go_ret;exact⟨⟨_,rfl,D7 HO C.size⟩,D⟩
 obtain⟨b,off,Q,ai,hcs⟩:=af.resolve_left<|oS<|z u;have aj:k<t.nv:=oS<|z u;obtain⟨e0,e1,e2,e3,e4⟩:=(hcs k aj).keep λq=>hb.cell ai;have p0:wr.cell? (y w 0)=some (.slice (some<|G b off) t.nv A.vc):=by rw[<-Q];exact oT hb X y0
 have q0:=oT hb ae<|World.rowIs.cell ag P;have bb:=hb.size;have ak:w.heap.size<wr.heap.size:=om;have g:b<wr.heap.size:=om;have D:=O hb;have ao:Hid<|BP wr.drew w1.heap.size u3 k<|Gl s j t:=O L.drew;have R:=O L.lt;clear hb L hcs Q;go_wp2_with fail;have bc:IntKind.i64.wrap ((k:Int)+1)=(k:Int)+1:=oj
 go_region_law (first
  |(go_simp;go_at_call 186;refine m9 (PF (DK s.F j k) _) λw2 a=>?_;have bd:wr.heap.size<=w2.heap.size:=a.size;have aq:=oT a ak p0;have ar:=oT a g e0;have au:=oT a g e1;have av:=oT a g e2;have aw:=oT a g e3;have ax:=oT a g e4;have l2:w.heap.size<w2.heap.size:=om;have bf:b<w2.heap.size:=om;have ay:=O<|Wo ao a;have az:=O<|D.trans<|show Below w1.heap.size wr w2 from⟨a.os,a.tape,a.output,a.size,λk hk=>a.block k ot⟩;clear a)
  |(refine To _ rfl (.tmp 15) (.tmp 27) 101 rfl w1.heap.size 166 i0 PZ 11 104 underlying101 hi S T U rfl oo u3 k (pL (Gl s j t) k) oe (ay.alloc _) (y w2 0) 1 1 (De (Gl s j t k)) oe rfl (Is (DD _ _)) (Ff _) oo od om ot _ rfl ?_;intro g3 bg w3 h o ad a7;have aM:=O ((az.alloc om _).trans (CO o (λq e=>(R q e).1) ot));have a6:=O h;clear h o))
 all_goals
  clear e0 e1 e2 e3 e4 p0 q0 ar au av aw ax aq;go_wp2;go_roundw
  .exact⟨k+1,om,oq,a6,aM⟩
  exact ow
def VZ c{m}fc{ta}tc(s:AK){A}(i j:Nat){w:Y}(H:w.cell? (G c 0)=some (S9 m s.nf fc))(S:w.cell? (G c 1)=some (.slice ta s.nt tc))(U:c<w.heap.size)(V:Bg w m s.nf s.F)(hT:Th w ta s.nt s.T A)(h0:Aq s.nf s.F=0)(hi:i<s.nt)(bq:s.nt<=1048576)(I:(s.T i).shape=j)(hj:j<s.nf)(u:(s.T i).nv=nf s.F j):
  C9 53 #[Q9 c,J i] w λe w'=>(∃v,e=.returned v/\BP w' w.heap.size v (nf s.F j) (Gl s j<|s.T i))/\B9 w w':=by
 obtain⟨h1,h2,h3,h4,h5⟩:=Av h0;have K:nf s.F j<=12:=by have:=(A7 (k:=s.nf) h2 (λq h1 h2=>h3 q h1 h2) j hj).2;unfold nf;omega
 obtain⟨b1,bm,rfl,bn,hcs⟩:=hT.resolve_left om;obtain⟨a0,a1,a2,a3,a4,a5,a6,a7⟩:=(hcs i hi).1;have R:=(hcs i hi).2.1;rw[I]at a0;rcases V.lt,o9<|s.T i,o9 (A i) with⟨X,⟨t,ht⟩,⟨D,hD⟩⟩;rw[<-ht]at a1 a2 a3 a4 a5 a6 a7 R u ⊢;rw[<-hD]at a1 a2 a3 a4 R;obtain⟨i0,Z,ae,af,ag⟩:=ON EF;obtain⟨W,hW,h,_,o0⟩:=JQ w<|.cells #[J (j:Int),.slice D.va t.nv D.vc,.slice D.la t.d.n D.lc,.slice D.ia t.d.m D.ic,.slice D.xa t.d.x D.xc,J t.d.used,J t.d.live,J t.d.turns] 105;have lw:w.heap.size<W.heap.size:=om;obtain⟨x0,x1,_⟩:=v8 o0;have z0:=(h.cell U).trans H;have lc:c<W.heap.size:=om;have lm:m<W.heap.size:=om;rcases O (V.below h X),O<|R.below h rfl,O h,O h1,O h2,O h3,O u with⟨ah,ai,aj,H1,H2,H3,B⟩;clear h R h0 h1 h2 h3 h4 h5 u V hcs ht hD I hT;obtain⟨n,hn⟩:=o9<|nf s.F j;rw[<-hn]at K B ⊢;have ak:=O hn;go_enter func53,ntmps53;go_wp2_with fail;rw[<-hW];clear hW a0 a1 a2 a3 a4 a5 a6 a7 H S
 go_region_law (go_simp;go_at_call 95;refine(Hz fc j (ah.below (BE _ _).drew lm) H1 H2 H3 hj).mono ?_;rintro e w1 ⟨⟨m',rfl,hm,g⟩,f⟩;rw[<-hn]at g;have y1:=oT f lw x1;have ao:w.heap.size<w1.heap.size:=A0 lw f.size;have aq:=H8 g;have ar:=O<|(ai.below (BE _ _).drew rfl).below f rfl;have C:=O<|aj.trans<|show Below w.heap.size W w1 from⟨f.os,f.tape,f.output,f.size,λk hk=>f.block k ot⟩;have au:=O g;clear f g)
 all_goals
 clear hn x0 x1 z0;go_wp2;simp only[Act.put,AaQ,AaF,AaE,Aac,AaY,AaX];rw[<-z ak];go_loopw [6,30] (λv i wr=>∃(k:Nat),k<=n/\i=J k/\BP wr w1.heap.size v k (Gl s j t)/\B9 w1 wr) λ_ i _=>n-(intOf i).toNat
 .exact⟨0,om,rfl,NB _ _ _ _,BE _ _⟩
 obtain⟨k,hk,rfl,L,hb⟩:=hrel;by_cases M:k<n
 case neg=>
  have av:k=n:=om;have E:=O<|o8 C hb;have HO:=O L;clear hb L M;subst av;go_wp2;go_ret;exact⟨⟨_,rfl,D7 HO C.size⟩,E⟩
 obtain⟨b,off,P,aw,hcs⟩:=ar.resolve_left<|oS<|z B;have ax:k<t.nv:=oS<|z B;obtain⟨e0,e1,e2,e3,e4⟩:=(hcs k ax).keep λq=>hb.cell aw;have p0:wr.cell? (y w 1)=some (.slice (some<|G b off) t.nv D.vc):=by rw[<-P];exact oT hb ao y1
 have q0:=oT hb aq<|World.rowIs.cell au M;have br:=hb.size;have ay:w.heap.size<wr.heap.size:=om;have l:b<wr.heap.size:=om;have E:=O hb;have az:Hid<|BP wr.drew w1.heap.size u6 k<|Gl s j t:=O L.drew;have Q:=O L.lt;clear hb L hcs P;go_wp2_with fail;have bt:IntKind.i64.wrap ((k:Int)+1)=(k:Int)+1:=oj
 go_region_law (first
  |(go_simp;go_at_call 91;refine m9 (cS (DK s.F j k) _) λw2 a=>?_;have bu:wr.heap.size<=w2.heap.size:=a.size;have aM:=oT a ay p0;have a8:=oT a l e0;have bb:=oT a l e1;have bc:=oT a l e2;have bd:=oT a l e3;have bf:=oT a l e4;have l2:w.heap.size<w2.heap.size:=om;have bw:b<w2.heap.size:=om;have bg:=O<|Wo az a;have bh:=O<|E.trans<|show Below w1.heap.size wr w2 from⟨a.os,a.tape,a.output,a.size,λk hk=>a.block k ot⟩;clear a)
  |(refine To _ rfl (.tmp 35) (.tmp 46) 101 rfl w1.heap.size 166 i0 PZ 11 104 underlying101 Z ae af ag rfl oo u6 k (pL (Gl s j t) k) oe (bg.alloc _) (y w2 0) 1 1 (De (Gl s j t k)) oe rfl (Is (DD _ _)) (Ff _) oo od om ot _ rfl ?_;intro g3 bx w3 o r ad bp;have bj:=O ((bh.alloc om _).trans (CO r (λq e=>(Q q e).1) ot));have bk:=O o;clear o r))
 all_goals
  clear e0 e1 e2 e3 e4 p0 q0 a8 bb bc bd bf aM;go_wp2;go_roundw
  .exact⟨k+1,om,oq,bk,bj⟩
  exact ow
noncomputable def Dz(s:AK)(i:Nat):Int:=BI (s.T i).d<|hD (s.T i).d
def pK{s}(hs:J9 s)(a:gV s):∀i,i<s.nt->∀la lc ia ic xa xc,Xj la lc ia ic xa xc (s.T i).d<|Dz s i:=
 λi hi la lc ia ic xa xc W hA=>pN lc ic xc hA (hs.IY hi) (a i hi).2
def oE{s}(hs:J9 s)(a:gV s):∀i,i<s.nt->∀la lc ia ic xa xc,aQ B2 la lc ia ic xa xc (s.T i).d<|Dz s i:=
 λi hi la lc ia ic xa xc W b hA=>oG lc ic xc b hA (hs.IY hi) (a i hi).2
open Classical in
noncomputable def gI(s:AK)(t:Tb):Nat:=if t.shape=-1 then Kq t.d else nf s.F t.shape.toNat
open Classical in
noncomputable def mI(s:AK)(t:Tb):Nat->Pr:=if t.shape=-1 then Ev t.d else Gl s t.shape.toNat t
noncomputable def pF(s:AK)(i:Int):Nat->Pr:=mI s<|s.T i.toNat
def Zi{s}(h:Nv s (Dz s i)<|s.T i):((s.T i).shape=-1/\BI (s.T i).d (hD (s.T i).d)=0)\/∃j:Nat,(s.T i).shape=j/\j<s.nf/\(s.T i).nv=nf s.F j:=by
 rcases h with h|h
 .exact .inl ⟨h.1,h.2.2⟩
 refine .inr ⟨(s.T i).shape.toNat,om,om,?_⟩;have:=h.2.2.1;rw[nf];omega
def Se c{ta}tc(s:AK){A}i{w:Y}(p:w.cell? (G c 1)=some (.slice ta s.nt tc))(q:c<w.heap.size)(j:Th w ta s.nt s.T A)(hi:i<s.nt)(r:s.nt<=1048576)(a:(s.T i).shape=-1)(k:Small (s.T i).d)(h2:D2 (s.T i).d):
  C9 53 #[Q9 c,J i] w λe w'=>(∃v,e=.returned v/\BP w' w.heap.size v (Kq (s.T i).d) (Ev (s.T i).d))/\B9 w w':=by
 obtain⟨b1,l,rfl,m,hcs⟩:=j.resolve_left om;obtain⟨a0,a1,a2,a3,a4,a5,C,D⟩:=(hcs i hi).1;have t:=O (hcs i hi).2.2.log;rw[a]at a0;have u:=O k;have x:=O h2;have b:∀o,B9 w<|w.alloc o:=λo=>n9;have g:=O b;clear hcs j k h2 a b;go_enter func53,ntmps53;go_wp2_with fail;refine(Ua _ _ _ _ _ (t.below (g _) rfl) u x).mono ?_;rintro e w1 ⟨⟨v,rfl,n⟩,f⟩;have h:=O<|o8 (g _) f;have B:=O<|D7 n (g _).size;clear f n;go_wp2;go_ret;exact⟨⟨v,rfl,B⟩,h⟩
def Ud c{m}k{ta}tc{s}{A}i{w:Y}(f:w.cell? (G c 0)=some (S9 m s.nf k))(b:w.cell? (G c 1)=some (.slice ta s.nt tc))(d:c<w.heap.size)(n:Bg w m s.nf s.F)(l:Th w ta s.nt s.T A)(hs:J9 s)(o:Bz s (Dz s)=0)(hi:i<s.nt):
  C9 53 #[Q9 c,J i] w λe w'=>(∃v,e=.returned v/\BP w' w.heap.size v (gI s<|s.T i) (mI s<|s.T i))/\B9 w w':=by
 obtain⟨h1,h2,h3,h4⟩:=Lj o;rcases Zi (h3 i hi)with⟨a,p⟩|⟨j,a,hj,g⟩
 .have h:=Se c tc s i b d l hi hs.nt a (hs.IY hi) (Lg p).d2;rw[gI,mI,C3 a,C3 a];exact h
 have h:=VZ c k tc s i j f b d n l h1 hi hs.nt a hj g;rw[gI,mI];rw[Cs om,a];exact h
def pQ v W:Sem.run prog (Instr.typeAssert (.iface 197 v) 128 197 true) W=.ok (.tuple #[v,.bool true]) W:=by
 kernel_rfl
def wG v W:Sem.run prog (Instr.typeAssert (.iface 194 v) 128 194 true) W=.ok (.tuple #[v,.bool true]) W:=by
 kernel_rfl
def vD v W:Sem.run prog (Instr.typeAssert (.iface 194 v) 128 197 true) W=.ok (.tuple #[.agg #[N9,N9,N9,N9,J 0,J 0,J 0,.pointer none],.bool false]) W:=by
 kernel_rfl
structure Ac where
 op:Int
 t:Int
 site:Int
 n:Int
 k:Vl
 v:Vl
abbrev qf(a:Ac):Array Value:=#[J a.op,J a.t,J a.site,J a.n,J a.k.kind,J a.k.num,F9 a.k.Af,.string a.k.str,J a.k.ref,J a.v.kind,J a.v.num,F9 a.v.Af,.string a.v.str,J a.v.ref]
abbrev Kz(a:Ac):Value:=.agg<|qf a
def Kr(v:Vl):Bool:=(v.kind==0)&&v.ok
def DY(a:Ac)(t s n k v:Bool):Bool:=(t||a.t==0)&&(s||a.site==0)&&(n||a.n==0)&&(k||Kr a.k)&&(v||Kr a.v)
def JT(a:Ac):Bool:=!decide (a.t<0)&&!decide (100<=a.t)&&!decide (a.site<0)&&!decide (50<=a.site)&&!decide (a.n<0)&&!decide (1000000000000<a.n)&&a.k.ok&&a.v.ok
def CA(a:Ac):Bool:=
 JT a&&(if a.op=1 then DY a false false false false false
  else if a.op=2 then DY a true false false true true
  else if a.op=3 then DY a true false false true false
  else if a.op=4 then DY a true false true false false
  else if a.op=5 then DY a true false false false false
  else if a.op=6 then DY a true false false false false
  else if a.op=7 then DY a false false false true false&&a.k.kind==4
  else if a.op=8 then DY a true true false false false
  else if a.op=9 then DY a true true false false true
  else false)
def dH v w:
  C9 126 #[V v.kind v.num v.Af v.str v.ref] w (R9 (.bool<|Kr v) w):=by
 by_cases h:v.kind=0
 .have hk:(v.kind==0)=true:=by simp[h]
  have a:Hid<|Kr v=v.ok:=O (by unfold Kr;rw[hk];rfl);clear h;go_enter func126,ntmps126;go_wp2_with (go_at_call 81;refine m9 (Bq v.kind v.num v.Af v.str v.ref _) λw1 hb=>?_);go_ret;exact⟨qg a,(n9).trans<|hb.mono oq⟩
 have hk:(v.kind==0)=false:=by simp[h]
 have a:Hid<|Kr v=false:=O (by unfold Kr;rw[hk];rfl);clear h;go_enter func126,ntmps126;go_wp2;go_ret;exact⟨qg a,n9⟩
def Vv(a)w:∃W,W=w.alloc (.cells (qf a) 51)/\B9 w W/\∀w',B9 W w'->w.heap.size<w'.heap.size/\w'.cell? (y w 0)=some (J a.op)/\w'.cell? (y w 1)=some (J a.t)/\w'.cell? (y w 2)=some (J a.site)/\w'.cell? (y w 3)=some (J a.n)/\w'.cell? (y w 4)=some (J a.k.kind)/\w'.cell? (y w 5)=some (J a.k.num)/\w'.cell? (y w 6)=some (F9 a.k.Af)/\w'.cell? (y w 7)=some (.string a.k.str)/\w'.cell? (y w 8)=some (J a.k.ref)/\w'.cell? (y w 9)=some (J a.v.kind)/\w'.cell? (y w 10)=some (J a.v.num)/\w'.cell? (y w 11)=some (F9 a.v.Af)/\w'.cell? (y w 12)=some (.string a.v.str)/\w'.cell? (y w 13)=some (J a.v.ref):=by
 refine⟨_,rfl,n9,λw' hb=>?_⟩;have hl:w.heap.size<(w.alloc<|.cells (qf a) 51).heap.size:=oq;have b:∀j u,(w.alloc<|.cells (qf a) 51).cell? (y w j)=some u->w'.cell? (y w j)=some u:=λj u h=>(hb.cell hl).trans h;refine⟨A0 hl hb.size,?_,?_,?_,?_,?_,?_,?_,?_,?_,?_,?_,?_,?_,?_⟩<;>(refine b _ _ ?_;simp)
def bC a t s n k v w:
  C9 83 #[Kz a,.bool t,.bool s,.bool n,.bool k,.bool v] w (R9 (.bool<|DY a t s n k v) w):=by
 obtain⟨W,d,b,hk⟩:=Vv a w;have e:=O b;have HK:=O hk;have c:Hid<|B9 W W:=O<|BE _ _;obtain⟨l0,k0,k1,k2,k3,k4,f,g,h,i,v4,v5,v6,j,v8⟩:=hk W<|BE _ _;clear hk b;go_enter func83,ntmps83;go_upto_region 1 with fail
 rw[<-d];clear d;go_wp2_with (go_at_call 126;refine m9 (dH _ _) λw3 hb=>?_;have c:=O<|show B9 W w3 from o8 c hb;obtain⟨l0,k0,k1,k2,k3,k4,f,g,h,i,v4,v5,v6,j,v8⟩:=z HK w3 c;clear hb);all_goals
  go_ret;exact⟨by simp_all [DY],o8 e<|z (by assumption:Hid<|B9 W _)⟩
def tN(op:Int):Int:=if op=2 then 25 else if op=3 then 9 else if op=4 then 5 else if op=5 then 1 else if op=6 then 1 else if op=7 then 8 else if op=8 then 3 else if op=9 then 19 else 0
def EA(n a nm:Int):Bool:=decide (0<=n)&&decide (n<if nm=0 then 1 else a)
def G7(v:Vl)(nm:Int):Bool:=v.ok&&(nm !=0||v.kind==0)
abbrev bt(op m:Int):Int:=bits .and .i64 (tN op) m
def Es(a:Ac):Bool:=EA a.t 100 (bt a.op 1)&&EA a.site 50 (bt a.op 2)&&EA a.n 1000000000001 (bt a.op 4)&&G7 a.k (bt a.op 8)&&G7 a.v (bt a.op 16)&&(a.op !=7||a.k.kind==4)
theorem uN:bt 1 1=0/\bt 1 2=0/\bt 1 4=0/\bt 1 8=0/\bt 1 16=0:=oo
theorem uO:bt 2 1=1/\bt 2 2=0/\bt 2 4=0/\bt 2 8=8/\bt 2 16=16:=oo
theorem uP:bt 3 1=1/\bt 3 2=0/\bt 3 4=0/\bt 3 8=8/\bt 3 16=0:=oo
theorem uQ:bt 4 1=1/\bt 4 2=0/\bt 4 4=4/\bt 4 8=0/\bt 4 16=0:=oo
theorem uR:bt 5 1=1/\bt 5 2=0/\bt 5 4=0/\bt 5 8=0/\bt 5 16=0:=oo
theorem uS:bt 6 1=1/\bt 6 2=0/\bt 6 4=0/\bt 6 8=0/\bt 6 16=0:=oo
theorem uT:bt 7 1=0/\bt 7 2=0/\bt 7 4=0/\bt 7 8=8/\bt 7 16=0:=oo
theorem uU:bt 8 1=1/\bt 8 2=2/\bt 8 4=0/\bt 8 8=0/\bt 8 16=0:=oo
theorem uV:bt 9 1=1/\bt 9 2=2/\bt 9 4=0/\bt 9 8=0/\bt 9 16=16:=oo
theorem nV t s n k v:Es ⟨1,t,s,n,k,v⟩=CA ⟨1,t,s,n,k,v⟩:=by
 grind [Es,CA,uN,JT,DY,EA,G7,Kr]
theorem nW t s n k v:Es ⟨2,t,s,n,k,v⟩=CA ⟨2,t,s,n,k,v⟩:=by
 grind [Es,CA,uO,JT,DY,EA,G7]
theorem nX t s n k v:Es ⟨3,t,s,n,k,v⟩=CA ⟨3,t,s,n,k,v⟩:=by
 grind [Es,CA,uP,JT,DY,EA,G7,Kr]
theorem nY t s n k v:Es ⟨4,t,s,n,k,v⟩=CA ⟨4,t,s,n,k,v⟩:=by
 grind [Es,CA,uQ,JT,DY,EA,G7,Kr]
theorem nZ t s n k v:Es ⟨5,t,s,n,k,v⟩=CA ⟨5,t,s,n,k,v⟩:=by
 grind [Es,CA,uR,JT,DY,EA,G7,Kr]
theorem oA t s n k v:Es ⟨6,t,s,n,k,v⟩=CA ⟨6,t,s,n,k,v⟩:=by
 grind [Es,CA,uS,JT,DY,EA,G7,Kr]
theorem oB t s n k v:Es ⟨7,t,s,n,k,v⟩=CA ⟨7,t,s,n,k,v⟩:=by
 grind [Es,CA,uT,JT,DY,EA,G7,Kr]
theorem oC t s n k v:Es ⟨8,t,s,n,k,v⟩=CA ⟨8,t,s,n,k,v⟩:=by
 grind [Es,CA,uU,JT,DY,EA,G7,Kr]
theorem oD t s n k v:Es ⟨9,t,s,n,k,v⟩=CA ⟨9,t,s,n,k,v⟩:=by
 grind [Es,CA,uV,JT,DY,EA,G7,Kr]
def cH a(h1:1<=a.op)(b:a.op<=9):Es a=CA a:=by
 obtain⟨op,t,s,n,k,v⟩:=a;grind [CA,nV,nW,nX,nY,nZ,oA,oB,oC,oD]
def AX{α:Type}(f:Nat->α)(i:Nat)(a:α):Nat->α:=λj=>if j=i then a else f j
theorem Ai{α}f i(a:α):AX f i a i=a:=by simp[AX]
theorem Ak{α}f{i j}(a:α)(h:j≠i):AX f i a j=f j:=by simp[AX,h]
def Vy(p:Nat->Bool):Nat->Nat->Int
 |0,_=>-1
 |k+1,i=>if p i then(i:Int)else Vy p k (i+1)
abbrev Yv(p:Nat->Bool)(n:Nat):Int:=Vy p n 0
def iK{p}(h:i<n)(hp:p i=true):Vy p (n-i) i=i:=by
 obtain⟨k,hk⟩:∃k,n-i=k+1:=⟨n-i-1,om⟩;rw[hk,Vy,C3 hp]
def Tl{p}(h:i<n)(hp:p i=false):Vy p (n-i) i=Vy p (n-(i+1)) (i+1):=by
 obtain⟨k,hk⟩:∃k,n-i=k+1:=⟨n-i-1,om⟩;grind [Vy]
def iJ{p}(h:¬i<n):Vy p (n-i) i=-1:=by
 rw[show n-i=0 by omega,Vy]
theorem KH(p:Nat->Bool):∀k i,Vy p k i=-1\/∃j:Nat,Vy p k i=(j:Int)/\i<=j/\j<i+k/\p j=true/\∀q,i<=q->q<j->p q=false
 |0,i=>.inl rfl
 |k+1,i=>by
  rw[Vy];cases hp:p i
  .rw[Cs oq];rcases KH p k (i+1)with h|⟨j,h1,h2,h3,h4,h5⟩
   .exact .inl h
   refine .inr ⟨j,h1,om,om,h4,λq b a=>?_⟩;rcases(by omega:q=i\/i+1<=q)with rfl|h
   .exact hp
   exact h5 q h a
  rw[C3 rfl];exact .inr ⟨i,rfl,Be _,om,hp,λq h1 h2=>om⟩
theorem Jp p n:Yv p n=-1\/∃j:Nat,Yv p n=(j)/\j<n/\p j=true:=by
 grind [KH]
theorem GZ{p:Nat->Bool}:∀{k i},Vy p k i=-1->∀j,i<=j->j<i+k->p j=false
 |0,i,h,j,h1,h2=>om
 |k+1,i,h,j,h1,h2=>by
  rw[Vy]at h;cases hp:p i
  .rw[Cs (by rw[hp];simp)]at h;rcases(by omega:j=i\/i+1<=j)with rfl|h3
   .exact hp
   exact GZ h j h3 om
  rw[C3 hp]at h;omega
structure Pl where
 n:Nat
 P:Nat->Pr
 turns:Int
instance:Inhabited Pl:=⟨⟨0,λ_=>default,0⟩⟩
structure Ds where
 nt:Nat
 T:Nat->Pl
 ns:Nat
 S:Nat->ByteArray
structure An where
 code:Int
 num:Int
 key:Vl
 val:Vl
instance:Inhabited An:=⟨⟨0,0,default,default⟩⟩
abbrev M8:Vl:=⟨0,0,0,⟨#[]⟩,0⟩
abbrev Hk(a:An):Value:=.agg #[J a.code,J a.num,J a.key.kind,J a.key.num,F9 a.key.Af,.string a.key.str,J a.key.ref,J a.val.kind,J a.val.num,F9 a.val.Af,.string a.val.str,J a.val.ref]
def LL(a:An):List Value:=[J a.code,J a.num,J a.key.kind,J a.key.num,F9 a.key.Af,.string a.key.str,J a.key.ref,J a.val.kind,J a.val.num,F9 a.val.Af,.string a.val.str,J a.val.ref]
def BH(c:Int):An:=⟨c,0,M8,M8⟩
def DI(n:Int):An:=⟨0,n,M8,M8⟩
def GI(v:Vl):An:=⟨0,0,M8,v⟩
def Dg(v:Vl):Int:=if v.ok=true then(if v.kind=0 then 1 else if v.kind=3 then(if DU v.Af=true then 1 else 0)else 0)else 2
def DA(v:Vl):Vl:=if v.ok=true then(if v.kind=0 then M8 else if v.kind=3 then(if DU v.Af=true then M8 else if Cn v.Af=true then⟨2,MU v.Af,0,⟨#[]⟩,0⟩else v)else v)else M8
def Ei v:KQ v.kind v.num v.Af v.str v.ref=KV (Dg v) (DA v).kind (DA v).num (DA v).Af (DA v).str (DA v).ref:=by
 show(if v.ok=true then _ else _)=_;grind [KQ,Dg,DA]
def BL(s:ByteArray):Vl:=⟨4,0,0,s,0⟩
def Pl.G6(t:Pl)(n:Int):Int:=Yv (λj=>decide (n<(t.P j).turn)) t.n
def Pl.next(t:Pl)(n:Int):Pr:=if t.G6 n<0 then⟨M8,M8,0⟩else t.P (t.G6 n).toNat
def Pl.has(t:Pl)(m:Int):Bool:=decide (0<=Yv (λj=>(t.P j).key.kind==2&&(t.P j).key.num==m) t.n)
def jQ(t:Pl):Nat->Nat->Nat
 |0,m=>m
 |k+1,m=>if t.has ((m:Int)+1)then jQ t k (m+1)else m
def Pl.len(t:Pl):Nat:=jQ t (t.n+1) 0
def CV(op:Int):Bool:=op !=1&&op !=7
def El(op:Int):Bool:=op==8||op==9
def IV(a:Ac)(nt ns:Nat):Int:=
 if CA a=false then 1 else if CV a.op=true/\(nt:Int)<=a.t then 2 else if El a.op=true/\(ns:Int)<=a.site then 3
 else if(a.op=2\/a.op=3)/\Dg a.k≠0 then 4 else 0
def CL{a}(h:CA a=true):0<=a.t/\0<=a.site/\a.k.ok=true/\a.v.ok=true/\0<=a.n/\1<=a.op/\a.op<=9:=by
 have h1:JT a=true/\1<=a.op/\a.op<=9:=by
  unfold CA at h;cases b:JT a
  .simp[b]at h
  refine⟨rfl,?_⟩;by_cases e1:a.op=1;· omega
  grind
 grind [JT]
def kU{s}(h:s.size<=4000):(BL s).ok=true:=by
 have a:fz 0=true:=oo;grind [BL,Vl.ok,A8]
theorem pO{v:Vl}(h:v.ok=true)(hk:v.kind=4):v.str.size<=4000:=by
 unfold Vl.ok A8 at h;simp[hk]at h;omega
def Yt{a}(h:CA a=true)(b:a.op=7):a.k.kind=4:=by
 unfold CA at h;simp[b]at h;exact h.2.2
def FY{a}{nt ns}(h:IV a nt ns=0):CA a=true/\(CV a.op=true->a.t<nt)/\(El a.op=true->a.site<ns)/\((a.op=2\/a.op=3)->Dg a.k=0):=by
 unfold IV at h;grind [IV,CV,Dg]
theorem vB:∀(n m:Nat) (g:Nat->Nat),(∀j,j<m->g j<n)->(∀i j,i<m->j<m->g i=g j->i=j)->m<=n
 |0,m,g,h1,h2=>by
  rcases Aav m with h|h
  .omega
  have:=h1 0 h;omega
 |n+1,0,g,h1,h2=>om
 |n+1,m+1,g,h1,h2=>by
  have b:=h1 m om;have:=vB n m (λj=>if g j=n then g m else g j) (λj hj=>by
   show(if g j=n then g m else g j)<n;have a:=h1 j om;split
   .rename_i e
    have:g m≠n:=λe2=>oS<|h2 j m om om om;omega
   .omega) (λi j hi hj e=>by
   have e:(if g i=n then g m else g i)=(if g j=n then g m else g j):=e;split at e<;>split at e
   .exact h2 i j om om om
   .have:=h2 m j om om om;omega
   .have:=h2 i m om om om;omega
   exact h2 i j om om om)
  omega
def Pl.VM{t:Pl}(h:∀j,j<m->t.has ((j:Int)+1)=true):m<=t.n:=by
 have h':∀j,∃i,j<m->i<t.n/\(t.P i).key.num=(j:Int)+1:=λj=>by
  rcases Nat.lt_or_ge j m with hj|hj
  .have a:=h j hj;have a:=of_decide_eq_true a;rcases Jp (λq=>(t.P q).key.kind==2&&(t.P q).key.num==(j:Int)+1) t.n with e|⟨i,e,h1,h2⟩
   .omega
   have h2:(t.P i).key.kind=2/\(t.P i).key.num=(j:Int)+1:=by simpa using h2
   exact⟨i,λ_=>⟨h1,h2.2⟩⟩
  exact⟨0,λh=>om⟩
 refine vB t.n m (λj=>Classical.choose<|h' j) (λj hj=>(Classical.choose_spec (h' j) hj).1) λi j hi hj e=>?_;grind
theorem XW{t:Pl}:∀k m:Nat,(∃q:Nat,m<=q/\q<m+k/\t.has ((q:Int)+1)=false)->∃q:Nat,jQ t k m=q/\m<=q/\t.has ((q:Int)+1)=false/\∀j:Nat,m<=j->j<q->t.has ((j:Int)+1)=true
 |0,m,⟨q,h1,h2,_⟩=>om
 |k+1,m,⟨q,h1,h2,h3⟩=>by
  rw[jQ];cases a:t.has ((m:Int)+1)
  .rw[Cs oq];exact⟨m,rfl,Be _,a,λj h1 h2=>om⟩
  rw[C3 rfl];have:q≠m:=λe=>by rw[e,a]at h3;cases h3
  obtain⟨r,g1,g2,g3,g4⟩:=XW (t:=t) k (m+1) ⟨q,om,om,h3⟩;refine⟨r,g1,om,g3,λj h5 b=>?_⟩;rcases(by omega:j=m\/m+1<=j)with rfl|h
  .exact a
  exact g4 j h b
def Pl.oK(t:Pl):t.has ((t.len:Int)+1)=false/\∀j,j<t.len->t.has ((j:Int)+1)=true:=by
 have hex:∃q:Nat,0<=q/\q<0+(t.n+1)/\t.has ((q:Int)+1)=false:=by
  rcases Classical.em (∃q:Nat,q<t.n+1/\t.has ((q:Int)+1)=false)with⟨q,h1,h2⟩|h
  .grind
  have:=Pl.VM λj hj=>by
   cases e:t.has<|(j:Int)+1
   .exact absurd ⟨j,hj,e⟩ h
   rfl
  omega
 obtain⟨q,h1,h2,h3,h4⟩:=XW (t.n+1) 0 hex;have:t.len=q:=h1;grind
def Pl.V5{t:Pl}(h1:∀j,j<m->t.has ((j:Int)+1)=true)(h2:t.has ((m)+1)=false):t.len=m:=by
 obtain⟨g1,g2⟩:=t.oK;grind
abbrev mK(b:Bool)(p:Pr):Value:=.agg #[.bool b,J p.key.kind,J p.key.num,F9 p.key.Af,.string p.key.str,J p.key.ref,J p.val.kind,J p.val.num,F9 p.val.Af,.string p.val.str,J p.val.ref,J p.turn]
def Y6{a:Option Addr}L(t:Pl)m{w}(M:JX w a t.n t.P)(hn:t.n<=500)(T:0<=m):
  C9 93 #[.slice a t.n L,J m] w (R9 (mK (decide (0<=t.G6 m))<|t.next m) w):=by
 go_enter func93,ntmps93;go_wp2;go_loopw [9] (λi wr=>∃k:Nat,k<=t.n/\i=J k/\t.G6 m=Vy (λj=>decide (m<(t.P j).turn)) (t.n-k) k/\w.heap.size<wr.heap.size/\(∀o,o<12->wr.cell? (y w o)=(w.alloc<|.cells #[.bool false,J 0,J 0,F9 0,E9,J 0,J 0,J 0,F9 0,E9,J 0,J 0] 179).cell? (y w o))/\(∀o,wr.frozen? (y w o)=false)/\B9 w wr) λi _=>t.n-(intOf i).toNat
 .exact⟨0,om,rfl,rfl,oq,λo _=>rfl,λo=>oe,n9⟩
 obtain⟨k,hk,rfl,r,hz,c,s,hb⟩:=hrel;have e:=O r;have u:=O c;have r0:=(c 0 om).trans (by simp[go_sem]:_=some (.bool false));have r1:=(c 1 om).trans (by simp[go_sem]:_=some (J 0));have r2:=(c 2 om).trans (by simp[go_sem]:_=some (J 0));have r3:=(c 3 om).trans (by simp[go_sem]:_=some (F9 0));have C:=(c 4 om).trans (by simp[go_sem]:_=some E9);have D:=(c 5 om).trans (by simp[go_sem]:_=some (J 0));have E:=(c 6 om).trans (by simp[go_sem]:_=some (J 0));have F:=(c 7 om).trans (by simp[go_sem]:_=some (J 0));have H:=(c 8 om).trans (by simp[go_sem]:_=some (F9 0));have I:=(c 9 om).trans (by simp[go_sem]:_=some E9);have f:=(c 10 om).trans (by simp[go_sem]:_=some (J 0));have g:=(c 11 om).trans (by simp[go_sem]:_=some (J 0));by_cases d:k<t.n
 .obtain⟨b,off,rfl,x,hcs⟩:=(z<|O M).resolve_left om;obtain⟨e0,e1,e2,e3,U,V,W,X,Z,e9,Q⟩:=(hcs k d).keep λq=>hb.cell x;have l:=O hb;by_cases hp:0<(t.P k).turn
  focus
   by_cases R:m<(t.P k).turn
   .have A:Hid<|mK (decide (0<=t.G6 m)) (t.next m)=mK true (t.P k):=O (by
     have h:=e.trans (iK d (by simp[R]));unfold Pl.next;rw[h,Cs om];simp)
    go_wp2;refine GO (v:=mK true<|t.P k) (by simp[results,results93,go_sem,hz,r0,r1,r2,r3,C,D,E,F,H,I,f,g]) rfl ⟨qg A,?_⟩;refine Below.alloc ?_ (by have:=l.size;simpa using this) _;iterate 12 (refine NO ?_ (by exact Be _) _)
    exact l
   have K:=O<|e.trans<|Tl d ot
  rotate_left
  focus
   have K:=O<|e.trans<|Tl d ot
  all_goals
   go_wp2;go_roundw
   .exact⟨k+1,om,ov,K,ot,λo S=>(Hi _ _ _<|by exact hz).trans<|u o S,λo=>o7 ((BE wr.heap.size wr).alloc (Be _) _) hz<|s o,l.alloc l.size _⟩
   exact ow
 have A:Hid<|mK (decide (0<=t.G6 m)) (t.next m)=mK false ⟨M8,M8,0⟩:=O (by
  have h:=e.trans (iJ d);unfold Pl.next;rw[h,C3 om];simp)
 have B:k=t.n:=om;subst B;go_wp2;refine GO (v:=mK false ⟨M8,M8,0⟩) (by simp[results,results93,go_sem,r0,r1,r2,r3,C,D,E,F,H,I,f,g]) rfl ⟨qg A,?_⟩;iterate 12 (refine NO ?_ (by exact Be _) _)
 exact z<|O hb
def Pl.jC(t:Pl)m:t.has m=true↔∃j,j<t.n/\((t.P j).key.kind=2/\(t.P j).key.num=m):=by
 rw[Pl.has];constructor
 .grind [Jp]
 rintro⟨j,h1,h2,h3⟩;apply decide_eq_true;rcases Jp (λj=>(t.P j).key.kind==2&&(t.P j).key.num==m) t.n with e|⟨i,e,_,_⟩
 .have:=GZ e j (W9 _) om;simp[h2,h3]at this
 omega
abbrev GU(a:Ac):Array Value:=qf a
abbrev aF:Array Value:=#[J 0,J 0,J 0,J 0,F9 0,E9,J 0,J 0,J 0,F9 0,E9,J 0]
def Pl.ask(t:Pl)(a:Ac):An:=
 if a.op=4 then⟨0,(t.next a.n).turn,(t.next a.n).key,(t.next a.n).val⟩
 else if a.op=6 then DI t.n else DI t.len
def Ms{a:Y}(h:Below B a w)b(hb:B<=b)v0 v1 v2 v3 v4 v5 v6 e v8 v9 c d:
  Below B a ((((((((((((w.setCell (G b 0) v0).setCell (G b 1) v1).setCell (G b 2) v2).setCell (G b 3) v3).setCell (G b 4) v4).setCell (G b 5) v5).setCell (G b 6) v6).setCell (G b 7) e).setCell (G b 8) v8).setCell (G b 9) v9).setCell (G b 10) c).setCell (G b 11) d):=by
 iterate 12 (refine NO ?_ (by exact hb) _)
 exact h
def Zb cp(t:Pl)a{w}(hP:JX w la t.n t.P)(hn:t.n<=500)(hm:0<=a.n):
  C9 52 #[.slice la t.n cp,Kz a] w (R9 (Hk<|t.ask a) w):=by
 obtain⟨W,f,r,_⟩:=S7 w (.cells (GU a) 51)<|.cells aF 45;have hz:w.heap.size+1<W.heap.size:=by rw[f];simp
 obtain⟨c0,c3⟩:W.cell? (y w 0)=some (J a.op)/\W.cell? (y w 3)=some (J a.n):=by rw[f];simp[go_sem]
 have hA:∀j u,aF.toList[j]?=some u->W.cell? (Y9 w j)=some u:=λj u h=>by
  rw[f,World.cell?_alloc_at _ _ _ _ oq];simpa using h
 have hF:∀q,W.frozen? (Y9 w q)=false:=λq=>by rw[f];simp[go_sem]
 rcases O (hP.below r rfl),O r,O hA,O hF with⟨HP,g,HA,HF⟩;have AN:∀{w':Y},B9 W w'->(∀j u,aF.toList[j]?=some u->w'.cell? (Y9 w j)=some u)/\(∀q,w'.frozen? (Y9 w q)=false):=λ{w'} hb=>⟨λj u h=>oT hb hz<|HA j u h,λq=>o7 hb hz<|HF q⟩;have H:Hid (∀w':World,B9 W w'->(∀j u,aF.toList[j]?=some u->w'.cell? (Y9 w j)=some u)/\(∀q,w'.frozen? (Y9 w q)=false)):=O λw'=>AN;clear hP r hA hF AN;by_cases h4:a.op=4
 .have I:Hid<|t.ask a=⟨0,(t.next a.n).turn,(t.next a.n).key,(t.next a.n).val⟩:=O (by unfold Pl.ask;rw[C3 h4]);have d4:(a.op==4)=true:=by simp[h4]
  clear h4;go_enter func52,ntmps52;go_wp2_with fail;rw[<-f];clear f;go_wp2_with fail;refine m9 (Y6 cp t a.n HP hn hm) λw1 k=>?_;generalize t.next a.n=x at*;obtain⟨g1,g2⟩:=z H _ k;rcases qb g1,A0 hz k.size,O (o8 g k) with⟨⟨r0,r1,r2,r3,S,T,U,V,X,Z,s,A⟩,K,L⟩;have G2:=g2;clear k g1 c0 c3;go_wp2_with fail;refine GO (v:=Hk ⟨0,x.turn,x.key,x.val⟩) (by simp[results,results52,go_sem,K,r0,r1,r2,r3,S,T,U,V,X,Z,s,A]) rfl ⟨qg I,?_⟩;refine Below.alloc ?_ (by have:=L.size;simpa using this) _;exact Ms L _ om _ _ _ _ _ _ _ _ _ _ _ _
 by_cases D:a.op=6
 .have I:Hid<|t.ask a=DI t.n:=O (by unfold Pl.ask;rw[Cs h4,C3 D]);have d4:(a.op==4)=false:=by simp[h4]
  have d6:(a.op==6)=true:=by simp[D]
  clear h4 D;go_enter func52,ntmps52;go_wp2_with fail;refine GO (v:=Hk<|DI t.n) (by simp[results,results52,go_sem,DI]) rfl ⟨qg I,?_⟩;exact(n9).alloc oq _
 have I:Hid<|t.ask a=DI t.len:=O (by unfold Pl.ask;rw[Cs h4,Cs D]);have d4:(a.op==4)=false:=by simp[h4]
 have d6:(a.op==6)=false:=by simp[D]
 clear h4 D;go_enter func52,ntmps52;go_wp2_with fail;rw[<-f];clear f;go_wp2_with fail;clear c0 c3;go_loopw [6] (λi wr=>∃m:Nat,(∀j,j<m->t.has ((j:Int)+1)=true)/\i=J m/\B9 W wr) λi _=>501-(intOf i).toNat
 .exact⟨0,λj hj=>absurd hj<|Tn _,rfl,BE _ _⟩
 obtain⟨m,B,rfl,hb⟩:=hrel;rcases Pl.VM B,hb.size,O hb,O B with⟨ag,ah,HB,HM⟩;clear hb B;go_wp2_with fail;go_loopw [7,35] (λb i wq=>∃(C:Bool) (q:Nat),q<=t.n/\b=.bool C/\i=J q/\(C=true↔∃j,j<q/\((t.P j).key.kind=2/\(t.P j).key.num=(m:Int)+1))/\B9 W wq) λ_ i _=>t.n-(intOf i).toNat
 .exact⟨false,0,W9 _,rfl,rfl,⟨λh=>by(cases h),λ⟨j,h,_⟩=>absurd h<|Tn _⟩,HB⟩
 obtain⟨C,q,hq,rfl,rfl,l,d⟩:=hrel;rcases d.size,O d,O l with⟨c,e,ad⟩;by_cases M:q<t.n
 .obtain⟨b,off,rfl,ae,hcs⟩:=HP.resolve_left om;obtain⟨e0,e1,e2,e3,e4,e5,e6,e7,e8,e9,ai⟩:=(hcs q M).keep λj=>d.cell ae;clear hcs d l;have HS:∀x:Bool,(x=true↔C=true\/((t.P q).key.kind=2/\(t.P q).key.num=(m:Int)+1))->(x=true↔∃j,j<q+1/\((t.P j).key.kind=2/\(t.P j).key.num=(m:Int)+1)):=λx hx=>hx.trans ((or_congr ad Iff.rfl).trans ⟨λh=>h.elim (λ⟨j,h1,h2⟩=>⟨j,om,h2⟩) λh=>⟨q,om,h⟩,λ⟨j,h1,h2⟩=>by
   rcases(by omega:j<q\/j=q)with h|rfl
   .exact .inl ⟨j,h,h2⟩
   exact .inr h2⟩)
  have o:=O HS;clear HS;cases C
  .by_cases hk:(t.P q).key.kind=2
   focus
    by_cases E:(t.P q).key.num=(m:Int)+1
    .have F:=O<|o true (by simp[hk,E]);have d1:((t.P q).key.kind==2)=true:=by simp[hk]
     have d2:((t.P q).key.num==(m:Int)+1)=true:=by simp[E]
     clear hk E;go_wp2_with fail;go_roundw
     .exact⟨true,q+1,om,rfl,ov,F,e.alloc c _⟩
     exact ow
    have F:=O<|o false (by simp[hk,E]);have d1:((t.P q).key.kind==2)=true:=by simp[hk]
    have d2:((t.P q).key.num==(m:Int)+1)=false:=by simp[E]
    clear hk E
   rotate_left
   focus
    have F:=O<|o false (by simp[hk]);have d1:((t.P q).key.kind==2)=false:=by simp[hk]
    clear hk
   all_goals
    go_wp2_with fail
    go_roundw
    .exact⟨false,q+1,om,rfl,ov,F,e.alloc c _⟩
    exact ow
  have F:=O<|o true oq;go_wp2_with fail;go_roundw
  .exact⟨true,q+1,om,rfl,ov,F,e.alloc c _⟩
  exact ow
 have af:q=t.n:=om;subst af;have R:C=t.has ((m:Int)+1):=by
  rw[Bool.eq_iff_iff,l,Pl.jC]
 clear l M;obtain⟨g1,g2⟩:=z H _ d;obtain⟨r0,r1,r2,r3,S,T,U,V,X,Z,s,A⟩:=qb g1;have K:=A0 hz c;clear g1 d;cases C
 .have HL:=O<|Pl.V5 HM R.symm;clear R;go_wp2_with fail;refine GO (v:=Hk<|DI m) (by simp[results,results52,go_sem,r0,r1,r2,r3,S,T,U,V,X,Z,s,A,DI]) rfl ⟨by rw[z I,z HL],?_⟩;exact Ms (o8 g e) _ om _ _ _ _ _ _ _ _ _ _ _ _
 have Q:Hid<|∀j,j<m+1->t.has ((j:Int)+1)=true:=O (λj hj=>by
  rcases(by omega:j<m\/j=m)with h|rfl
  .exact HM j h
  exact R.symm)
 have aj:=Pl.VM Q;clear R;go_wp2_with fail;go_roundw
 .exact⟨m+1,Q,ov,e⟩
 exact ow
def Ta(f:Nat->A9)(n:Nat):List Value:=(List.range<|n*3).map<|cellOf f
def ND(h:j<n*3):(Ta f n)[j]?=some (cellOf f j):=by simp[Ta,h]
def Pv f n s(hs:f n=s):Ta f n++[J s.parent,.string s.key,J s.count]=Ta f (n+1):=by
 unfold Ta;grind [show(n+1)*3=n*3+1+1+1 by omega,List.range_succ,List.range_succ,List.range_succ,Ta,RO,Nl,RP]
theorem ZG{g}(h:∀i,i<n->f i=g i):Ta f n=Ta g n:=by
 refine List.map_congr_left λj hj=>?_;grind [cellOf]
abbrev EO(w:Y)(base:Nat)(v:V9)(n:Nat)(f:Nat->A9):Prop:=w.ownsRow base 142 3 v n<|Ta f n
def rK(w:Y)o x Z X:∀j u,[x,Z,X][j]?=some u->((w.alloc o).alloc<|.cells #[x,Z,X] 142).cell? (((Y9 w 0):Addr).add j)=some u:=λj u h=>by
 have hb:=DD (w.alloc o)<|.cells #[x,Z,X] 142;rw[Deep.nblk_alloc]at hb;exact Is hb j u h
def RM{wr w1:Y}{o1 o2}{u:V9}(a:∀q,v.ownBlock=some q->Z+3<=q/\q<wr.heap.size)(b:((wr.alloc o1).alloc o2).grownBy w1 v.ownBlock)(hz:Z+2<wr.heap.size)
  (x0:wr.cell? (G (Z+2) 0)=some u) (f0:wr.frozen? (G (Z+2) 0)=false):w1.cell? (G (Z+1+1) 0)=some u/\w1.frozen? (G (Z+1+1) 0)=false/\Hid (wr.grownBy w1 v.ownBlock/\∀q,q<Z+3->w1.heap[q]?=wr.heap[q]?):=by
 have c:=((AaV wr o1 _).trans<|AaV _ o2 _).trans b;have hq:∀q,q<Z+3->w1.heap[q]?=wr.heap[q]?:=λq hq=>c.block q om λe=>oS (a q e.symm).1;exact⟨(As<|hq _<|by show Z+1+1<Z+3;omega).trans x0,(ID<|hq _<|by show Z+1+1<Z+3;omega).trans f0,O ⟨c,hq⟩⟩
def VX cap{f}{w}(hA:Bg w b n f)(hn:n<=200):
  C9 44 #[.agg #[S9 b n cap]] w λe w'=>(∃v,e=.returned (.agg #[v])/\EO w' w.heap.size v n f)/\B9 w w':=by
 have hl:=hA.lt;obtain⟨i0,hi,s,c,t⟩:=ON JA;go_enter func44,ntmps44;go_wp2;go_loopw [9] (λi wr=>∃(k:Nat) (v:V9),k<=n/\i=J k/\wr.cell? (G (w.heap.size+2) 0)=some v/\wr.frozen? (G (w.heap.size+2) 0)=false/\wr.cell? (Y9 w 0)=some (N9)/\wr.frozen? (Y9 w 0)=false/\w.heap.size+2<wr.heap.size/\EO wr (w.heap.size+3) v k f/\B9 w wr) λi _=>n-(intOf i).toNat
 .refine⟨0,N9,om,rfl,oe,oe,oe,oe,oq,?_,((n9).alloc oq _).alloc ot _⟩;exact NB _ _ _ _
 obtain⟨k,v,hk,rfl,x0,f0,x1,f1,hz,r,hb⟩:=hrel;have c0:k<n->wr.cell? (G b<|k*3)=some (J (f k).parent):=λh=>((hA.below hb hl).cells h).1;have c1:k<n->wr.cell? (G b<|k*3+1)=some (.string (f k).key):=λh=>((hA.below hb hl).cells h).2.1;have c2:k<n->wr.cell? (G b<|k*3+2)=some (J (f k).count):=λh=>((hA.below hb hl).cells h).2.2;have u:=r.lt;by_cases d:k<n
 case neg=>
  have j:k=n:=om;subst j;have E:=x1;rcases r.2 with⟨x,A⟩|⟨g,l,cur,x,F,_⟩
  .subst x;go_wp2;refine GO (v:=.agg #[N9]) (by simp[results,results44,go_sem,x1]) rfl ⟨⟨_,rfl,?_⟩,hb.setCell (by show _<=w.heap.size+1;omega) _⟩;subst A;exact NB _ _ _ _
  subst x;go_wp2;refine GO (v:=.agg #[S9 g k l]) (by simp[results,results44,go_sem,x1]) rfl ⟨⟨_,rfl,?_⟩,hb.setCell (by show _<=w.heap.size+1;omega) _⟩;have hk:EO (wr.setCell (Y9 w 0)<|S9 g k l) (w.heap.size+3) (S9 g k l) k f:=r.kept (Cx wr _ _)<|.inr (by simp[Value.ownBlock];omega);exact D7 hk om
 rcases c0 d,c1 d,c2 d with⟨d0,d1,d2⟩;go_wp2_with (first|(at_builtin;refine RC _ rfl _ _ 36 rfl (w.heap.size+3) 142 i0 (Sh 0 ⟨#[]⟩ 0) 3 32 underlying36 hi s c t rfl oo v k (Ta f k) rfl ((r.alloc _).alloc _) (Y9 wr 0) 1 1 [J (f k).parent,.string (f k).key,J (f k).count] rfl rfl (rK wr _ _ _ _) oh oo od om ot _ rfl ?_;intro g l w1 a m C D;obtain⟨H,e0,I⟩:=RM u m hz x0 f0;have B:=O a;clear a m)|go_in);obtain⟨o,hq⟩:=z I;have a:=z B;rw[Pv f k (f k) rfl]at a;have K:=(a.lt g rfl).1;have p:=hb.trans ⟨o.os,o.tape,o.output,o.size,λq L=>hq q om⟩;have c:=A0 hz o.size;go_roundw
 .refine⟨k+1,S9 g (k+1) l,om,ov,?_,?_,?_,?_,by simpa using c,a.kept (Cx w1 _ _)<|.inr<|by simp[Value.ownBlock];omega,p.setCell (by show _<=w.heap.size+1+1;omega) _⟩
  .show(w1.setCell (Z9 w 0) _).cell? (Z9 w 0)=_;simp[go_sem,H]
  .rw[PC];exact e0
  .exact(As<|(At _ _ _ _<|by show w.heap.size+1≠w.heap.size+1+1;omega).trans<|hq _<|by show w.heap.size+1<w.heap.size+3;omega).trans x1
  rw[PC];exact(ID<|hq _<|by show w.heap.size+1<w.heap.size+3;omega).trans f1
 exact ow
def MQ(n:Nat)(f:Nat->A9)(i:Nat)(key:ByteArray)(j:Nat):Prop:=0<j/\j<n/\(f j).parent=i/\(f j).key.toList=key.toList
def MQ.unique(h4:FW n f)(hj:MQ n f i key j)(hk:MQ n f i key k):j=k:=by
 obtain⟨a1,a2,a3,a4⟩:=hj;obtain⟨b1,b2,b3,b4⟩:=hk;rcases Nat.lt_trichotomy j k with h|h|h
 .exact absurd ⟨a3.trans b3.symm,a4.trans b4.symm⟩ (h4 k j a1 h b2)
 .exact h
 exact absurd ⟨b3.trans a3.symm,b4.trans a4.symm⟩<|h4 j k b1 h a2
def grown(f:Nat->A9)(n i:Nat)(key:ByteArray)(j:Nat):A9:=if j=n then⟨i,key,(f i).count+1⟩else f j
def NK(n:Nat)(f:Nat->A9)(i:Nat)(key:ByteArray)(n':Nat)(f':Nat->A9)(r:Int):Prop:=
 (∃j,MQ n f i key j/\r=j/\n'=n/\f'=f)\/
 ((∀j,¬MQ n f i key j)/\((f i).count=12\/n=200)/\r=-1/\n'=n/\f'=f)\/
 ((∀j,¬MQ n f i key j)/\(f i).count≠12/\n≠200/\r=n/\n'=n+1/\f'=grown f n i key)
def NK.unique{f1 f2}{r1 r2}(h4:FW n f)(h:NK n f i key a f1 r1)(h':NK n f i key b f2 r2):a=b/\f1=f2/\r1=r2:=by
 rcases h with⟨j,a1,a2,a3,a4⟩|⟨a1,a2,a3,a4,a5⟩|⟨a1,a2,a3,a4,a5,c⟩
 .rcases h' with⟨k,b1,b2,b3,b4⟩|⟨b1,_⟩|⟨b1,_⟩
  .have:=a1.unique h4 b1;all_goals grind [NK]
  all_goals grind [NK]
 all_goals grind [NK]
def ZH f(n i:Nat)key:Ta f n++[J (i),.string key,J ((f i).count+1)]=Ta (grown f n i key) (n+1):=by
 rw[<-Pv (grown f n i key) n ⟨i,key,(f i).count+1⟩ (by simp[grown])];grind [grown,ZG]
def EO.cells{base}(h:EO w base (S9 b n a) n f){i}(hi:i<n):
  w.cell? (G b<|i*3)=some (J (f i).parent)/\w.cell? (G b<|i*3+1)=some (.string (f i).key)/\w.cell? (G b<|i*3+2)=some (J (f i).count):=
 ⟨by rw[Ok h _ om,ND om,RO],by rw[Ok h _ om,ND om,Nl],by rw[Ok h _ om,ND om,RP]⟩
def Kc{o}{a}(h:w.cell? a=some v):(w.alloc o).cell? a=some v:=by rw[Hi _ _ _ (IF w a h)];exact h
structure Ym (ob b:Nat) (w w':Y):Prop where
 os:w'.os=w.os
 tape:w'.tape=w.tape
 output:w'.output=w.output
 size:w.heap.size<=w'.heap.size
 block:∀k,k<w.heap.size->k≠ob->k≠b->w'.heap[k]?=w.heap[k]?
 box:w'.heap[ob]?=w.heap[ob]?\/∃u,∀cs ty,w.heap[ob]?=some (.cells cs ty (0,0))->w'.heap[ob]?=some (.cells (cs.setIfInBounds 0 u) ty (0,0))
def Ym.of{ob}(h:B9 w w')(a:ob<w.heap.size):Ym ob b w w':=⟨h.os,h.tape,h.output,h.size,λk hk _ _=>h.block k hk,.inl<|h.block ob a⟩
def Uc(ob b){n}(g i base)(key){f}(w)(K:w.cell? (G ob 0)=some (S9 b n g))(ae:w.frozen? (G ob 0)=false)(hO:EO w base (S9 b n g) n f)(x:ob≠b)(l:ob<w.heap.size)(ad:base<=w.heap.size)
  (h1:Dw n) (h2:Bp f) (h3:Bf n f) (hi:i<n):
  C9 87 #[Q9 ob,J i,.string key] w λe w'=>(∃r n' f',e=.returned (J r)/\NK n f i key n' f' r/\∃b' L,ob≠b'/\(b'=b\/w.heap.size<=b')/\w'.frozen? (G ob 0)=false/\w'.cell? (G ob 0)=some (S9 b' n' L)/\EO w' base (S9 b' n' L) n' f')/\Ym ob b w w':=by
 rcases h1.2,ON JA,A7 h2 (λj h1 h2=>h3 j h1 h2) i hi with⟨ay,⟨i0,af,ag,ah,ai⟩,⟨az,aM⟩⟩;clear h1 h2 h3;go_enter func87,ntmps87;go_wp2;go_loopw [14] (λv wr=>∃k:Nat,k<=n/\v=J k/\B9 w wr/\∀j,j<k->¬MQ n f i key j) λv _=>n-(intOf v).toNat
 .exact⟨0,om,rfl,BE _ _,λj hj=>om⟩
 obtain⟨k,hk,rfl,hb,B⟩:=hrel;have hOr:EO wr base (S9 b n g) n f:=hO.kept ⟨hb.os,hb.tape,hb.output,hb.size,λq hq _=>hb.block q hq⟩ (.inr<|by simp[Value.ownBlock]) (row:=none);have xb:=(hb.cell<|by show ob<w.heap.size;omega).trans K;have xf:wr.frozen? (G ob 0)=false:=(ID<|hb.block ob om).trans ae;have hz:=hb.size;have C:=O B;clear B;by_cases M:k<n
 .obtain⟨d0,d1,d2⟩:=hOr.cells M;by_cases aj:k=0
  .subst aj;go_wp2;go_roundw
   .exact⟨1,om,ov,hb.alloc om _,λj hj hK=>oS hK.1⟩
   exact ow
  have Dt:0<k:=om;by_cases D:(f k).parent=i
  focus
   by_cases hK:(f k).key.toList=key.toList
   .have e1:((f k).parent==(i:Int))=true:=by simp[D]
    have e2:((f k).key.toList==key.toList)=true:=by simp[hK]
    have ak:Hid<|MQ n f i key k:=O ⟨Dt,M,D,hK⟩;clear D hK;go_wp2;go_ret;exact⟨⟨k,n,f,rfl,.inl ⟨k,ak,rfl,rfl,rfl⟩,b,g,x,.inl rfl,(ID (w:=wr)<|DO _ _ _<|by show ob<wr.heap.size;omega).trans xf,Kc xb,hOr.alloc _⟩,.of (hb.alloc om _) l⟩
   have e1:((f k).parent==(i:Int))=true:=by simp[D]
   have e2:((f k).key.toList==key.toList)=false:=by simp[hK]
   have P:Hid<|¬MQ n f i key k:=O λh=>hK h.2.2.2;clear D hK
  rotate_left
  focus
   have e1:((f k).parent==(i:Int))=false:=by simp[D]
   have P:Hid<|¬MQ n f i key k:=O λh=>D h.2.2.1;clear D
  all_goals
   go_wp2;go_roundw
   .refine⟨k+1,om,ov,hb.alloc om _,λj hj=>?_⟩;by_cases e:j=k
    .rw[e];exact P
    exact C j om
   exact ow
 have F:Hid<|∀j,¬MQ n f i key j:=O λj hK=>C j (oS hK.2.1) hK;obtain⟨d0,d1,d2⟩:=hOr.cells hi;by_cases d:(f i).count=12
 .have e1:((f i).count==12)=true:=by simp[d]
  have ao:=O d;clear d;go_wp2;go_ret;exact⟨⟨-1,n,f,rfl,.inr<|.inl ⟨F,.inl ao,rfl,rfl,rfl⟩,b,g,x,.inl rfl,xf,xb,hOr⟩,.of hb l⟩
 have e1:((f i).count==12)=false:=by simp[d]
 by_cases a:n=200
 .have e2:((n:Int)==200)=true:=by simp[a]
  have Q:=O a;clear a;go_wp2;go_ret;exact⟨⟨-1,n,f,rfl,.inr<|.inl ⟨F,.inr Q,rfl,rfl,rfl⟩,b,g,x,.inl rfl,xf,xb,hOr⟩,.of hb l⟩
 have e2:((n:Int)==200)=false:=ot;have HX:=O<|qj d a;have hw:IntKind.i64.wrap ((f i).count+1)=(f i).count+1:=oj;have a6:n+1<=200:=om;clear d d0 d1;go_wp2;have R:ob<wr.heap.size:=om;obtain⟨ns,m⟩:∃ns:List Value,ns=[J (i:Int),.string key,J ((f i).count+1)]:=⟨_,rfl⟩;have S:Hid<|(wr.alloc<|.cells #[J (i:Int),.string key,J ((f i).count+1)] 142).drew.ownsRow base 142 3 (S9 b n g) n<|Ta f n:=O (hOr.alloc _).drew;have T:Hid<|∀j u,ns[j]?=some u->(wr.alloc<|.cells #[J (i:Int),.string key,J ((f i).count+1)] 142).drew.cell? (((y wr 0):Addr).add j)=some u:=O (by rw[m];exact Is<|DD wr<|.cells #[J (i:Int),.string key,J ((f i).count+1)] 142);have U:ns.length=1*3:=qh m
 have E:∀u∈ns,u.oneCell'=true:=by rw[m];simp[Value.oneCell']
 have V:base<=(wr.alloc<|.cells #[J (i:Int),.string key,J ((f i).count+1)] 142).drew.heap.size:=ot;have aq:=O m;have H:Hid<|(wr.alloc<|.cells #[J (i:Int),.string key,J ((f i).count+1)] 142).drew.cell? (G ob 0)=some (S9 b n g)/\(wr.alloc<|.cells #[J (i:Int),.string key,J ((f i).count+1)] 142).drew.frozen? (G ob 0)=false:=O ⟨Kc xb,(ID (w:=wr)<|DO _ _ _ R).trans xf⟩;have o:some ob≠(Value.slice (some<|G b 0) n g).ownBlock:=oF x;clear m
 go_region_law (refine To _ rfl (.tmp 56) (.tmp 69) 36 rfl base 142 i0 (Sh 0 ⟨#[]⟩ 0) 3 32 underlying36 af ag ah ai rfl oo (S9 b n g) n (Ta f n) og S (y wr 0) 1 1 ns og U T E oo od om V _ rfl ?_;intro g3 A w3 p c s ax;have y3:w3.cell? (G ob 0)=some (S9 b n g):=c.cell H.1 o;have e3:w3.frozen? (G ob 0)=false:=(ID<|c.block ob ot o).trans H.2;have W:=O p;have X:=O c;clear p c)
 all_goals
  have ar:EO w3 base (S9 g3 (n+1) A) (n+1)<|grown f n i key:=by
   have h:=z W;rw[z aq,ZH]at h;exact h
  have au:g3≠ob:=by
   rcases s with h|h
   .simp[Value.ownBlock]at h;omega
   simp at h;omega
  have Z:Ym ob b w<|w3.setCell (G ob 0)<|S9 g3 (n+1) A:=by
   have I:=z X;have t:=hb;have a7:wr.heap.size+1<=w3.heap.size:=by have:=I.size;simpa using this
   refine⟨I.os.trans t.os,I.tape.trans t.tape,I.output.trans t.output,ot,λq hq av a8=>?_,.inr ⟨S9 g3 (n+1) A,λcs ty e=>?_⟩⟩
   .rw[At _ _ _ _ av,I.block q ot (by simp[Value.ownBlock];omega)];exact(DO wr _ q om).trans (t.block q om)
   have e':=((I.block ob ot o).trans<|(DO wr _ ob om).trans<|t.block ob om).trans e;simp[World.setCell,Array.getElem?_modify,e']
  have aw:g3=b\/w.heap.size<=g3:=by
   rcases s with h|h
   .simp[Value.ownBlock]at h;omega
   simp at h;omega
  clear X W S T H U E V;go_wp2;go_ret;refine⟨⟨n,n+1,grown f n i key,by first|rfl|simp,.inr<|.inr ⟨F,HX.1,HX.2,rfl,rfl,rfl⟩,g3,A,λe=>au e.symm,aw,by rw[PC];exact e3,?_,ar.kept (Cx w3 _ _)<|.inr<|by simp[Value.ownBlock];omega⟩,Z⟩;simp[go_sem,y3]
def OV b n cap Z g w(hA:w.rowIs b 142 Z g)(hN:n*3<=Z)(hn:n<=1048576):
  C9 67 #[S9 b n cap,J 1] w λe w'=>e=.returned (J<|1+3*(n:Int))/\Bt b w w':=by
 have p:=O hA;clear hA;go_enter func67,ntmps67;go_wp2;go_loopw [1,5] (λq i wr=>∃(k:Nat) (g:Nat->Value),k<=n/\i=J k/\q=J ((1+3*k:Nat):Int)/\Bt b w wr/\wr.rowIs b 142 Z g) λ_ i _=>n-(intOf i).toNat
 .exact⟨0,g,om,rfl,rfl,Bt.refl _ _,p⟩
 obtain⟨k,g,hk,rfl,rfl,hb,c⟩:=hrel;have d0:k<n->wr.cell? (G b<|k*3)=some (g<|k*3):=λh=>c.cell om;have d1:k<n->wr.cell? (G b<|k*3+1)=some (g<|k*3+1):=λh=>c.cell om;have d2:k<n->wr.cell? (G b<|k*3+2)=some (g<|k*3+2):=λh=>c.cell om;rcases c.frozen (k*3),c.frozen<|k*3+1,c.frozen<|k*3+2,c.lt,O hb,O c with⟨e0,e1,e2,j,o,r⟩;clear hb c;go_wp2_with fail
 .have s:k<n:=ol;have d:=BA (2+3*k) om<|wr.setCell (G b<|k*3)<|J<|1+3*(k:Int);rw[show((2+3*k:Nat):Int)=1+3*(k:Int)+1 by omega]at d;refine d.mono ?_;rintro e w1 ⟨rfl,f⟩;have a:=(r.set (k*3)<|J<|1+3*(k:Int)).of_block<|f.block b (by simpa using j);have f1:=a.cell (i:=k*3+1) om;rcases a.cell (i:=k*3+2) om,a.frozen<|k*3+1,a.frozen<|k*3+2,O<|o.trans<|(Bt.set b (k*3) wr<|J<|1+3*(k:Int)).trans<|Bt.of f,O a with⟨f2,f3,f4,l,m⟩;clear d f a d0 d1 d2 e0 e1 e2;go_wp2;go_roundw
  .exact⟨k+1,_,om,ov,ov,(l.trans<|Bt.set b _ _ _).trans<|Bt.set b _ _ _,(m.set _ _).set _ _⟩
  exact ow
 have:k=n:=om;subst this;go_ret;exact⟨by show Ending.returned (Value.int .i64 ((1+3*k:Nat):Int))=_;congr 2,o⟩
def OT cap{f}{w}(hA:Bg w b n f)(hn:n<=1048576):
  C9 34 #[.agg #[S9 b n cap],J 1] w λe w'=>e=.returned (J<|1+3*(n:Int))/\Bt b w w':=by
 have hl:=hA.lt;have a:B9 w<|w.alloc<|.cells #[S9 b n cap] 38:=n9;obtain⟨Z,g,hN,i,_⟩:=hA.below a hl;have j:=O i;have d:=O a;clear hA a i;go_enter func34,ntmps34;go_wp2_with fail;refine(OV b n cap Z g _ j hN hn).mono ?_;rintro e w1 ⟨rfl,c⟩;have h:=O<|(Bt.of d).trans c;clear c;go_wp2;go_ret;exact⟨rfl,h⟩
abbrev RF(w:Y)(b n:Nat)(f:Nat->A9):Prop:=Bg w b n f
def RF.lt(h:RF w b n f):b<w.heap.size:=Bg.lt h
def RF.cells(h:RF w b n f){i}(hi:i<n):
  w.cell? (G b<|i*3)=some (J (f i).parent)/\w.cell? (G b<|i*3+1)=some (.string (f i).key)/\w.cell? (G b<|i*3+2)=some (J (f i).count):=Bg.cells h hi
def RF.of_block(h:RF w b n f)(e:w'.heap[b]?=w.heap[b]?):RF w' b n f:=Bg.of_block h e
theorem EO.in{base d}(h:EO w base (S9 b n d) n f):base<=b/\RF w b n f:=by
 obtain⟨hl,⟨c,_⟩|⟨g',cap,cur,c,hb,a,h1,h2,h3,h4⟩⟩:=h
 .cases c
 cases c;refine⟨hb,d*3,λj=>(cur[j]?).getD undef,om,⟨cur,a,h3,λi hi=>by simp[UP (show i<cur.size by omega)]⟩,λj hj=>?_⟩;have h5:=ND (f:=f) hj;grind
def GV(f:Nat->A9)(n:Nat)(w:Y)(v:V9)(lo hi:Nat):Prop:=
 (n=0/\v=N9)\/(0<n/\∃b a,v=S9 b n a/\lo<=b/\b<hi/\RF w b n f)
def GV.keep(h:GV f n w v lo hi)(hk:∀b,lo<=b->b<hi->w'.heap[b]?=w.heap[b]?):GV f n w' v lo hi:=by
 rcases h with h|⟨a,b,c,h1,h2,h3,h4⟩
 .exact .inl h
 exact .inr ⟨a,b,c,h1,h2,h3,h4.of_block<|hk b h2 h3⟩
def GV.below(h:GV f n w v lo hi)(hb:Below B w w')(a:hi<=B):GV f n w' v lo hi:=h.keep λb _ h2=>hb.block b om
def GV.form(h:GV f n w v lo hi):∃a b,v=.slice a n b:=by
 grind [GV]
def Xp(h2:Bp f)(h3:Bf n f){i}(hi:i<n):∀t,Ed f i t<n:=by
 intro t
 induction t with
 |zero=>exact hi
 |succ t ih=>
  show(f<|Ed f i t).parent.toNat<n;rcases Aav (Ed f i t)with e|e
  .rw[e,h2.1];exact Aan (W9 _) hi
  have:=(h3 _ e ih).2.1;omega
def Yu{g}(h2:Bp f)(h3:Bf n f)(a:∀j,j<n->g j=f j){i}(hi:i<n):∀t,Ed g i t=Ed f i t:=by
 intro t
 induction t with
 |zero=>rfl
 |succ t ih=>
  show(g<|Ed g i t).parent.toNat=(f<|Ed f i t).parent.toNat;rw[ih,a _ (Xp h2 h3 hi t)]
theorem Kt{g}(h2:Bp f)(h3:Bf n f)(h:∀j,j<n->g j=f j){i}(hi:i<n)key:Bc g i key=Bc f i key:=by
 refine aB.eq ?_;have e:=Yu h2 h3 h hi;have hf:∀t,g (Ed g i t)=f (Ed f i t):=λt=>by rw[e t,h _ (Xp h2 h3 hi t)]
 rcases JJ f i key with⟨t,a,b,c,d⟩|⟨a,b⟩
 .exact .inl ⟨t,λs hs=>by rw[e s];exact a s hs,by rw[hf t];exact b,λs hs=>by rw[hf s];exact c s hs,by rw[hf t];exact d⟩
 exact .inr ⟨a,λt k=>by rw[hf t];exact b t λs hs=>by rw[<-e s];exact k s hs⟩
theorem EC:∀j,j<n->grown f n k key j=f j:=λj hj=>by unfold grown;rw[Cs om]
theorem QS:grown f n k key n=⟨k,key,(f k).count+1⟩:=by simp[grown]
theorem VK(h:Aq n f=0){k}(hk:k<n){key}(hs:key.size<=4000)(hp:Bc f k key<0)(q:∀j,¬MQ n f k key j)(hc:(f k).count≠12)(hn:n≠200):Aq (n+1) (grown f n k key)=0:=by
 obtain⟨h1,h2,h3,h4,h5⟩:=Av h;have B:=A7 h2 (λj a b=>h3 j a b) k hk;have r:0<n:=om;have C:Dw<|n+1:=⟨om,oS h1.2⟩;have x:Bp<|grown f n k key:=by
  rw[Bp,EC 0 r];exact h2
 have A:Bf (n+1)<|grown f n k key:=by
  intro i s hi;rw[Yp];by_cases e:i=n
  .grind [Bc,grown,EC]
  have g:i<n:=om;obtain⟨a,b,c,d,e⟩:=h3 i s g;grind [Bc,grown]
 have D:FW (n+1)<|grown f n k key:=by
  intro i j t l hi m;unfold Twin at m;by_cases e:i=n
  .subst e;rw[EC j l,QS]at m;exact q j ⟨om,l,m.1,m.2⟩
  rw[EC i om,EC j om]at m;exact h4 i j t l om m
 refine LS C x A D<|AaO λu=>?_;obtain⟨i,o,hi,p⟩:=(Fv x A).2 u;by_cases e:i=n
 .grind [Bc,grown,Kt]
 have g:i<n:=om;have v:AD (grown f n k key) i=AD f i:=by unfold AD;rw[EC i g]
 have w:AD f i<n:=by have:=(h3 i o g).2.1;unfold AD;omega
 rw[v,Kt h2 h3 (λj hj=>EC j hj) w,EC i g]at p;exact(Fv h2 h3).1 ⟨i,o,g,p⟩ h5
def oQ(h2:Bp f)(h3:Bf n f){k r}{key}(hK:MQ n f k key r):nf f r=nf f k+1:=by
 obtain⟨a,b,c,d⟩:=hK;have h:=(h3 r a b).2.2.1;have hp:=(h3 r a b).2.1;have hk:k<n:=om;grind [Bf,nf,A7]
def dG{g}(a:∀j,j<n->g j=f j){i}(hi:i<n):nf g i=nf f i:=by unfold nf;rw[a i hi]
def Dq(n:Int):Vl:=⟨2,n,0,⟨#[]⟩,0⟩
def AU{α:Type}(f:Nat->α)(i:Nat)(v:α):Nat->α:=λj=>if j=i then v else f j
theorem Au{α}f i(v:α):AU f i v i=v:=C3 rfl
theorem Ao{α}f{i j}(v:α)(h:j≠i):AU f i v j=f j:=Cs h
structure KeyLaw (K:Vl->Prop) (hf:Vl->Nat):Prop where
 refl:∀a,K a->AF a a=true
 symm:∀a b,K a->K b->AF a b=true->AF b a=true
 trans:∀a b c,K a->K b->K c->AF a b=true->AF b c=true->AF a c=true
 hash:∀a b,K a->K b->AF a b=true->hf a=hf b
 int:∀a b,K a->K b->a.kind=2->b.kind=2->a.num=b.num->AF a b=true
 own:∀n:Int,K<|Dq n
 none:DH (default:Vl)=true
theorem FP{a b}(h:AF a b=true):a.kind=b.kind:=by
 grind [AF]
theorem F4{a b}(h:AF a b=true):a.num=b.num:=by
 grind [AF]
theorem H7{a b}(h:AF a b=true):Ay m a↔Ay m b:=by
 unfold Ay;rw[FP h,F4 h]
def Reach(x:Nat)(X:Nat->Int)(a s:Nat):Prop:=∃t,t<x/\s=(a+t)%x/\∀j,j<t->X ((a+j)%x)≠0
def Reach.mono{Z}(h:Reach x X a s)(e:∀j,j<x->X j≠0->Z j≠0):Reach x Z a s:=by
 obtain⟨t,h1,h2,h3⟩:=h;exact⟨t,h1,h2,λj hj=>e _ (VC _ om)<|h3 j hj⟩
structure Idx (hf:Vl->Nat) (L:Nat->Pr) (x:Nat) (X:Nat->Int) (P:Nat->Prop):Prop where
 range:∀s,s<x->X s=0\/X s=-1\/(0<X s/\P (X s-1).toNat)
 has:∀i,P i->∃s,s<x/\X s=i+1/\Reach x X (hf (L i).key%x) s
 uniq:∀s s',s<x->s'<x->0<X s->X s=X s'->s=s'
theorem Idx.congr{L'}{b}(h:Idx hf L x X P)(a:∀i,b i↔P i)(c:∀i,P i->(L' i).key=(L i).key):Idx hf L' x X b:=
 ⟨λs hs=>(h.range s hs).imp id<|Or.imp id λe=>⟨e.1,(a _).2 e.2⟩,λi hi=>by rw[c i ((a i).1 hi)];exact h.has i<|(a i).1 hi,h.uniq⟩
def Idx.empty hf L x P(a:∀i,¬P i):Idx hf L x (λ_=>0) P:=
 ⟨λs _=>.inl rfl,λi hi=>absurd hi<|a i,λs s' _ _ h=>absurd h oq⟩
def Idx.put(h:Idx hf L x X P){p s}(hp:¬P p)(hs:s<x)(f:X s<=0)(g:Reach x X (hf (L p).key%x) s):Idx hf L x (AU X s<|(p)+1) λi=>P i\/i=p:=by
 have a:∀j,j<x->X j≠0->AU X s ((p:Int)+1) j≠0:=by grind [AU]
 have b:∀t,t<x->X t≠(p:Int)+1:=by grind [Idx.range]
 refine⟨λt c=>?_,λi hi=>?_,λt t' c d h1 h2=>?_⟩
 .grind [AU,Idx.range]
 .by_cases e:i=p
  .grind [Reach,AU]
  obtain⟨t,h1,h2,h3⟩:=h.has i<|hi.resolve_right e;grind [Reach,AU]
 grind [AU,Idx.uniq]
def Idx.leave(h:Idx hf L x X P){s}(hs:s<x)(d:0<X s):Idx hf L x (AU X s (-1)) λi=>P i/\(i:Int)+1≠X s:=by
 have a:∀j,j<x->X j≠0->AU X s (-1) j≠0:=by grind [AU]
 refine⟨λt b=>?_,λi hi=>?_,λt t' b c h1 h2=>?_⟩
 .grind [AU,Idx.uniq,Idx.range]
 .obtain⟨t,h1,h2,h3⟩:=h.has i hi.1;refine⟨t,h1,?_,h3.mono a⟩;grind [AU]
 grind [AU,Idx.uniq]
def B1(X:Nat->Int):Nat->Nat
 |0=>0
 |k+1=>if X k=0 then B1 X k else B1 X k+1
theorem Fy d k:BT d k=B1 d.X k:=by
 induction k with
 |zero=>rfl
 |succ k ih=>show(if _ then _ else _)=(if _ then _ else _);rw[ih]
def Yl X k:B1 X k<=k:=by
 induction k with
 |zero=>exact Be _
 |succ k ih=>
  show(if X k=0 then B1 X k else B1 X k+1)<=k+1;by_cases e:X k=0
  .rw[C3 e];omega
  rw[Cs e];omega
theorem Gm{X'}(h:∀j,j<k->(X j=0↔X' j=0)):B1 X k=B1 X' k:=by
 induction k with
 |zero=>rfl
 |succ k ih=>
  show(if _ then _ else _)=(if _ then _ else _);rw[ih (λj hj=>h j om)];by_cases e:X k=0
  .rw[C3 e,C3 ((h k om).1 e)]
  rw[Cs e,Cs (λe'=>e ((h k om).2 e'))]
def JM k:B1 (λ_=>0) k=0:=by
 induction k with
 |zero=>rfl
 |succ k ih=>show(if _ then _ else _)=_;rw[C3 rfl];exact ih
def PI{v}(a:v≠0)(b:X s=0):∀k,B1 (AU X s v) k=B1 X k+(if s<k then 1 else 0):=by
 intro k
 induction k with
 |zero=>rfl
 |succ k ih=>
  show(if _ then _ else _)=(if _ then _ else _)+_;rw[ih];by_cases e:k=s
  .subst e;rw[Au,Cs a,C3 b,Cs om,C3 om]
  rw[Ao _ _ e];by_cases e1:X k=0
  focus
   rw[C3 e1,C3 e1]
  rotate_left
  focus
   rw[Cs e1,Cs e1]
  all_goals
   by_cases e2:s<k
   .rw[C3 e2,C3 om]
   rw[Cs e2,Cs om]
def Z1(h:B1 X k<k):∃j,j<k/\X j=0:=by
 induction k with
 |zero=>omega
 |succ k ih=>
  by_cases e:X k=0
  .exact⟨k,om,e⟩
  have h':(if X k=0 then B1 X k else B1 X k+1)<k+1:=h;rw[Cs e]at h';obtain⟨j,h1,h2⟩:=ih om;exact⟨j,om,h2⟩
def Zy(b:a<x)(hs:s<x):∃t,t<x/\s=(a+t)%x:=by
 by_cases h:a<=s
 .exact⟨s-a,om,by rw[show a+(s-a)=s by omega,TC hs]⟩
 refine⟨s+x-a,om,?_⟩;rw[show a+(s+x-a)=s+x by omega,Nat.add_mod_right,TC hs]
def Dp(x:Nat)(X:Nat->Int)(a:Nat):Option Nat:=(E4 x a x).find? λs=>decide (X s<=0)
def WG{f t}(h:t<f):E4 x a f=E4 x a t++((a+t)%x)::(List.range' (t+1)<|f-t-1).map λj=>(a+j)%x:=by
 unfold E4;have:List.range f=List.range t++t::List.range' (t+1) (f-t-1):=by
  rw[List.range_eq_range',List.range_eq_range',show f=t+(f-t) by omega,<-List.range'_append_1];obtain⟨g,b⟩:∃g,f-t=g+1:=⟨f-t-1,om⟩;simp[b,List.range'_succ]
 simp[this]
theorem Mx{t}(b:t<x)(h:∀j,j<t->0<X ((a+j)%x))(c:X ((a+t)%x)<=0):Dp x X a=some ((a+t)%x):=by
 rw[Dp,WG b,List.find?_append];grind [E4]
def least:∀n,(∃t,t<n/\P t)->∃t,t<n/\P t/\∀j,j<t->¬P j:=by
 intro n
 induction n with
 |zero=>rintro⟨t,h,_⟩;omega
 |succ n ih=>
  rintro⟨t,h,hp⟩;by_cases e:∃t,t<n/\P t
  .obtain⟨t,h1,h2,h3⟩:=ih e;exact⟨t,om,h2,h3⟩
  exact⟨t,h,hp,λj hj a=>e ⟨j,om,a⟩⟩
def E5(b:a<x)(hu:B1 X x<x):∃t,t<x/\Dp x X a=some ((a+t)%x)/\X ((a+t)%x)<=0/\∀j,j<t->0<X ((a+j)%x):=by
 obtain⟨s,hs,d⟩:=Z1 hu;obtain⟨t,c,e⟩:=Zy b hs;obtain⟨t,h1,h2,h3⟩:=least (P:=λt=>X ((a+t)%x)<=0) x ⟨t,c,by rw[<-e];omega⟩;grind [Mx]
def AR(hf:Vl->Nat)(d:Dc)(k:Vl)(p:Nat):Dc:=
 match Dp d.x d.X (hf k%d.x)with
 |none=>d
 |some a=>{d with X:=AU d.X a ((p:Int)+1),used:=if d.X a=0 then d.used+1 else d.used}
def Fm{k}(h:Dp d.x d.X (hf k%d.x)=some a):AR hf d k p={d with X:=AU d.X a ((p:Int)+1),used:=if d.X a=0 then d.used+1 else d.used}:=by
 unfold AR;rw[h]
def N8{k}(h:Idx hf L d.x d.X P)(hp:¬P p)(hk:hf (L p).key=hf k)(b:B1 d.X d.x<d.x)(hu:(B1 d.X d.x:Int)=d.used):
  Idx hf L (AR hf d k p).x (AR hf d k p).X (λi=>P i\/i=p)/\(B1 (AR hf d k p).X (AR hf d k p).x:Int)=(AR hf d k p).used/\(AR hf d k p).x=d.x/\(AR hf d k p).n=d.n/\(AR hf d k p).L=d.L/\(AR hf d k p).m=d.m/\(AR hf d k p).I=d.I/\(AR hf d k p).live=d.live/\(AR hf d k p).turns=d.turns/\B1 (AR hf d k p).X d.x<=B1 d.X d.x+1:=by
 have a:0<d.x:=om;obtain⟨t,h1,h2,h3,h4⟩:=E5 (VC _ a) b;rw[Fm h2];have hs:(hf k%d.x+t)%d.x<d.x:=VC _ a;refine⟨h.put hp hs h3 ⟨t,h1,by rw[hk],λj hj=>by rw[hk];have:=h4 j hj;omega⟩,?_,rfl,rfl,rfl,rfl,rfl,rfl,rfl,?_⟩
 focus
  show(B1 (AU d.X ((hf k%d.x+t)%d.x)<|(p:Int)+1) d.x:Int)=if d.X ((hf k%d.x+t)%d.x)=0 then d.used+1 else d.used
  by_cases e:d.X ((hf k%d.x+t)%d.x)=0
  .rw[PI om e,C3 hs];omega
  rw[Cs e,<-hu,Gm (λj hj=>?_)]
 rotate_left
 focus
  by_cases e:d.X ((hf k%d.x+t)%d.x)=0
  .rw[PI om e,C3 hs];omega
  rw[Gm (X:=AU d.X _ _) (X':=d.X) (λj hj=>?_)]
  .omega
 all_goals
  by_cases e':j=(hf k%d.x+t)%d.x
  .subst e';rw[Au];constructor<;>intro h<;>omega
  rw[Ao _ _ e']
structure KE (d:Dc):Prop where
 Cw:∀i,i<d.n->Entry d i
 ord:∀i j,i<j->j<d.n->(d.L i).turn≠0->(d.L j).turn≠0->(d.L i).turn<(d.L j).turn
 CI:(Kq d:Int)=d.live
def V8:∀(k) {l last:Int},CZ d k=some (l,last)->((AW d k).length:Int)=l/\(∀i j,i<j->j<k->(d.L i).turn≠0->(d.L j).turn≠0->(d.L i).turn<(d.L j).turn)/\∀i,i<k->(d.L i).turn≠0->(d.L i).turn<=last:=by
 intro k
 induction k with
 |zero=>
  intro l last h;cases h;exact⟨rfl,λi j _ hj=>om,λi hi=>om⟩
 |succ k ih=>
  intro l last h;cases e:CZ d k with
  |none=>
   have:CZ d (k+1)=none:=by show(match CZ d k with|none=>none|some (live,last)=>_)=none;rw[e]
   rw[this]at h;cases h
  |some p=>
   obtain⟨n,i2,i3⟩:=ih e;by_cases f:(d.L k).turn=0
   .rw[F5 e f]at h;split at h
    .cases h;refine⟨by rw[B7 f];exact n,λi j c hj hi a=>?_,λi hi b=>?_⟩
     .by_cases g:j=k
      .subst g;exact absurd f a
      exact i2 i j c om hi a
     by_cases m:i=k
     .subst m;exact absurd f b
     exact i3 i om b
    cases h
   rw[F6 e f]at h;split at h
   .next hp=>
    cases h;unfold EI at hp;simp only[AaJ,decide_eq_true_eq]at hp;refine⟨by rw[Bi f,P9,Aak];omega,λi j c hj hi a=>?_,λi hi b=>?_⟩
    .by_cases g:j=k
     .subst g;have:=i3 i om hi;omega
     exact i2 i j c om hi a
    by_cases m:i=k
    .subst m;exact AaC _
    have:=i3 i om b;omega
   cases h
def D2.lU(h:D2 d):KE d:=by
 obtain⟨last,e⟩:=h;obtain⟨h1,h2,h3⟩:=V8 _ e;exact⟨λi hi=>D2.entry ⟨last,e⟩ hi,λi j a hj=>h2 i j a hj,h1⟩
def KE.d2(h:KE d):D2 d:=by
 have main:∀k,k<=d.n->∃last,CZ d k=some (((AW d k).length:Int),last)/\(last=0\/∃i,i<k/\(d.L i).turn≠0/\(d.L i).turn=last):=by
  intro k
  induction k with
  |zero=>intro _;exact⟨0,rfl,.inl rfl⟩
  |succ k ih=>
   intro hk;obtain⟨last,e,hl⟩:=ih om;rcases h.Cw k om with⟨b,c,f⟩|⟨b,h1,h2,h3,h4⟩
   .refine⟨last,?_,?_⟩
    .rw[F5 e b,c,f,B7 b];rfl
    rcases hl with hl|⟨i,h1,h2⟩
    .exact .inl hl
    exact .inr ⟨i,om,h2⟩
   have a:(d.L k).turn≠0:=om;have g:last<(d.L k).turn:=by
    rcases hl with hl|⟨i,g1,g2,g3⟩
    .omega
    have:=h.ord i k g1 om g2 a;omega
   refine⟨(d.L k).turn,?_,.inr ⟨k,om,a,rfl⟩⟩;have hp:EI d.turns last (d.L k)=true:=by unfold EI;simp[g,h1,h2,h3,h4]
   rw[F6 e a,C3 hp,Bi a,P9];congr 1
 obtain⟨last,e,_⟩:=main d.n<|Be _;exact⟨last,by rw[e];congr 1;rw[<-h.CI];rfl⟩
def TU(d:Dc)(i:Nat):Prop:=i<d.n/\(d.L i).turn≠0/\¬Ay d.m (d.L i).key
structure BN (K:Vl->Prop) (hf:Vl->Nat) (d:Dc):Prop where
 log:KE d
 keys:∀i,i<d.n->(d.L i).turn≠0->K (d.L i).key
 JR:∀i j,i<d.n->j<d.n->(d.L i).turn≠0->(d.L j).turn≠0->AF (d.L i).key (d.L j).key=true->i=j
 ints:∀j,j<d.m->Fu d j
 last:d.m=0\/0<d.I (d.m-1)
 small:∀i,i<d.n->(d.L i).turn≠0->Ay d.m (d.L i).key->d.I ((d.L i).key.num-1).toNat=i+1
 sz:Gr d.x
 idx:Idx hf d.L d.x d.X<|TU d
 used:(B1 d.X d.x:Int)=d.used
 half:2*B1 d.X d.x<=d.x
 turns:0<=d.turns/\d.turns<=1000000000000
 le:d.live<=500
def Next(d:Dc):Prop:=∀i,i<d.n->(d.L i).turn≠0->¬((d.L i).key.kind=2/\(d.L i).key.num=(d.m:Int)+1)
def aX(d:Dc):Prop:=(d.n:Int)<=8\/(d.n:Int)<=2*d.live
structure Inv (K:Vl->Prop) (hf:Vl->Nat) (d:Dc):Prop where
 i0:BN K hf d
 next:Next d
 tight:aX d
def BN.d3(h:BN K hf d):D3 d:=⟨h.ints,h.last⟩
def BN.d4(h:BN K hf d):D4 d:=by
 refine⟨h.sz,λj hj=>?_,by rw[Fy];exact h.used,by rw[Fy];exact h.half⟩;rcases h.idx.range j hj with e|e|⟨e,h1,h2,h3⟩
 .exact .inl e
 .exact .inr (.inl e)
 exact .inr<|.inr ⟨e,om,h2,h3⟩
def Inv.d1(h:Inv K hf d):D1 d:=⟨oS h.i0.log.CI,h.i0.le,h.i0.turns.1,h.i0.turns.2,h.tight⟩
def Wv{v}(e:0<d.x):∀(f a s),a<d.x->f<=d.x->probe d v a f=some s->0<d.X s/\AF (d.at<|d.X s).key v=true/\∃t,t<f/\s=(a+t)%d.x/\∀j,j<t->d.X ((a+j)%d.x)≠0:=by
 intro f
 induction f with
 |zero=>intro a s _ _ h;cases h
 |succ f ih=>
  intro a s c hf h;by_cases b:d.X a=0
  .rw[EZ b]at h;cases h
  by_cases hl:0<d.X a/\AF (d.at<|d.X a).key v=true
  .rw[FR hl.1 hl.2]at h;cases h;exact⟨hl.1,hl.2,0,om,by rw[Aau,TC c],λj hj=>om⟩
  rw[CQ b hl]at h;obtain⟨h1,h2,t,h3,h4,h5⟩:=ih _ _ (VC _ e) om h;refine⟨h1,h2,t+1,om,?_,λj hj=>?_⟩
  .rw[h4,Nat.mod_add_mod];congr 1;omega
  cases j with
  |zero=>rw[Aau,TC c];exact b
  |succ j=>
   have:=h5 j om;rw[Nat.mod_add_mod]at this
   rwa [show a+(j+1)=a+1+j by omega]
def dX{v}(i:0<d.x):∀(t a f),a<d.x->t<f->(∀j,j<t->d.X ((a+j)%d.x)≠0/\¬(0<d.X ((a+j)%d.x)/\AF (d.at<|d.X<|(a+j)%d.x).key v=true))->0<d.X ((a+t)%d.x)->AF (d.at<|d.X<|(a+t)%d.x).key v=true->probe d v a f=some ((a+t)%d.x):=by
 intro t
 induction t with
 |zero=>
  intro a f b hf _ h1 h2;obtain⟨g,rfl⟩:∃g,f=g+1:=⟨f-1,om⟩;have e:(a+0)%d.x=a:=TC b;rw[e]at h1 h2 ⊢;exact FR h1 h2
 |succ t ih=>
  intro a f b hf h h1 h2;obtain⟨g,rfl⟩:∃g,f=g+1:=⟨f-1,om⟩;have c:=h 0 om;rw[Aau,TC b]at c;rw[CQ c.1 c.2];have e:∀j,((a+1)%d.x+j)%d.x=(a+(j+1))%d.x:=λj=>by rw[Nat.mod_add_mod];congr 1;omega
  have:=ih ((a+1)%d.x) g (VC _ i) om (λj hj=>by rw[e];exact h (j+1) om) (by rw[e];exact h1) (by rw[e];exact h2);rw[this,e]
def Wu{v}(c:0<d.x)(h:∀s,s<d.x->¬(0<d.X s/\AF (d.at<|d.X s).key v=true)):∀(f a),a<d.x->probe d v a f=none:=by
 intro f
 induction f with
 |zero=>intro a _;rfl
 |succ f ih=>
  intro a e;by_cases b:d.X a=0
  .exact EZ b
  rw[CQ b (h a e)];exact ih _<|VC _ c
section
variable {K:Vl->Prop} {hf:Vl->Nat} {d:Dc}
def BN.found(h:BN K hf d)(l:KeyLaw K hf){v}(m:K v){i}(hi:TU d i)(hl:AF (d.L i).key v=true):∃s,s<d.x/\d.X s=i+1/\A5 d v (hf v)=some s:=by
 obtain⟨s,hs,c,t,w,rfl,a⟩:=h.idx.has i hi;have b:=h.keys i hi.1 hi.2.1;have g:0<d.x:=om;rw[l.hash _ _ b m hl]at hs c a;refine⟨_,hs,c,?_⟩;rw[A5,Cs om];have n:(d.at<|(i:Int)+1)=d.L i:=by unfold Dc.at;congr 1;omega
 refine dX g t _ _ (VC _ g) w (λj hj=>⟨a j hj,λhc=>?_⟩) (by rw[c];omega) (by rw[c,n];exact hl);have f:(hf v%d.x+j)%d.x<d.x:=VC _ g;rcases h.idx.range _ f with e|e|⟨e,k⟩
 .exact a j hj e
 .omega
 have o:=h.keys _ k.1 k.2.1;have p:=l.trans _ _ _ o m b hc.2<|l.symm _ _ b m hl;have:=h.JR _ _ k.1 hi.1 k.2.1 hi.2.1 p;have r:d.X ((hf v%d.x+j)%d.x)=d.X ((hf v%d.x+t)%d.x):=by rw[c];omega
 have u:=h.idx.uniq _ _ f hs e r;have:j=t:=by
  have h1:(hf v%d.x)<d.x:=VC _ g;have e1:∀q,q<d.x->(hf v%d.x+q)%d.x=if hf v%d.x+q<d.x then hf v%d.x+q else hf v%d.x+q-d.x:=by
   intro q hq;by_cases e:hf v%d.x+q<d.x
   .rw[C3 e,TC e]
   rw[Cs e,Nat.mod_eq_sub_mod om,TC om]
  rw[e1 j om]at u;grind
 omega
def BN.lost(h:BN K hf d){v}{a}(c:∀i,TU d i->AF (d.L i).key v=false):A5 d v a=none:=by
 rw[A5];by_cases b:d.x=0
 .rw[C3 b]
 rw[Cs b];refine Wu om (λs hs hc=>?_) _ _<|VC _ om;rcases h.idx.range s hs with e|e|⟨e,f⟩;all_goals grind
def ML{v}(e:A5 d v a=some s):s<d.x/\0<d.X s/\AF (d.at<|d.X s).key v=true/\Reach d.x d.X (a%d.x) s:=by
 unfold A5 at e;split at e
 .cases e
 obtain⟨h1,h2,t,h3,h4,h5⟩:=Wv om _ _ _ (VC _ om) (Be _) e;exact⟨by rw[h4];exact VC _ om,h1,h2,t,h3,h4,h5⟩
def BN.place(h:BN K hf d)(b:KeyLaw K hf){v}(c:K v):
  (∃i,i<d.n/\(d.L i).turn≠0/\AF (d.L i).key v=true/\Aw d v (hf v)=i)\/((∀i,i<d.n->(d.L i).turn≠0->AF (d.L i).key v=false)/\Aw d v (hf v)=-1):=by
 rw[Aw];by_cases hs:Ay d.m v
 .rw[C3 hs];obtain⟨k1,k2,k3⟩:=hs;have hq:(v.num-1).toNat<d.m:=om;rcases h.ints _ hq with e|⟨e1,e2,e3,j,k⟩
  .right;refine⟨λi hi f=>?_,om⟩;cases hl:AF (d.L i).key v
   .rfl
   have:=h.small i hi f<|(H7 hl).2 ⟨k1,k2,k3⟩;rw[F4 hl]at this;omega
  grind [BN.keys,KeyLaw.int]
 rw[Cs hs];by_cases hex:∃i,i<d.n/\(d.L i).turn≠0/\AF (d.L i).key v=true
 .obtain⟨i,h1,h2,h3⟩:=hex;obtain⟨s,g1,g2,g3⟩:=h.found b c ⟨h1,h2,λg=>hs<|(H7 h3).1 g⟩ h3;left;refine⟨i,h1,h2,h3,?_⟩;rw[g3];show d.X s-1=_;omega
 have a:∀i,i<d.n->(d.L i).turn≠0->AF (d.L i).key v=false:=λi h1 h2=>by
  cases hl:AF (d.L i).key v
  .rfl
  exact absurd ⟨i,h1,h2,hl⟩ hex
 right;refine⟨a,?_⟩;rw[h.lost (λi hi=>a i hi.1 hi.2.1)];rfl
end
def N4{f:Nat->Int}(h:∀j,j<k->f j≠(i)+1):CI f i k=0:=by
 induction k with
 |zero=>rfl
 |succ k ih=>
  show(if _ then _ else _)=0;rw[Cs (h k om)];exact ih λj hj=>h j om
def Xu{f:Nat->Int}:∀{k:Nat},s<k->f s=(i)+1->(∀j,j<k->f j=(i)+1->j=s)->CI f i k=1:=by
 intro k
 induction k with
 |zero=>intro h;omega
 |succ k ih=>
  intro hs h1 h2;show(if _ then _ else _)=1;by_cases e:k=s
  .subst e;rw[C3 h1,N4 (λj hj e'=>oS (h2 j om e'))]
  rw[Cs (λe'=>e (h2 k om e'))];exact ih om h1 λj hj=>h2 j om
def iP{f:Nat->Int}(hs:s<k)(h:f s=(i)+1):1<=CI f i k:=by
 induction k with
 |zero=>omega
 |succ k ih=>
  show 1<=(if f k=(i:Int)+1 then CI f i k+1 else CI f i k);by_cases e:f k=(i:Int)+1
  .rw[C3 e];omega
  rw[Cs e];exact ih (by
   have:s≠k:=λe'=>e (e'▸h);omega)
theorem Xv{f:Nat->Int}{t}(hs:s<t)(a:t<k)(h:f s=(i)+1)(h':f t=(i)+1):2<=CI f i k:=by
 induction k with
 |zero=>omega
 |succ k ih=>
  show 2<=(if f k=(i:Int)+1 then CI f i k+1 else CI f i k);by_cases e:k=t
  .subst e;rw[C3 h'];have:=iP hs h;omega
  have:=ih om;by_cases e':f k=(i:Int)+1
  .rw[C3 e'];omega
  rw[Cs e'];exact this
def Inv.sound(h:Inv K hf d)(f:KeyLaw K hf):Sound d λi=>hf (d.L i).key:=by
 refine⟨h.d1,h.i0.log.d2,h.i0.d3,h.i0.d4,λi hi a=>⟨?_,?_,h.next i hi a⟩⟩
 .by_cases hs:Ay d.m (d.L i).key
  .have h1:=h.i0.small i hi a hs;obtain⟨k1,k2,k3⟩:=hs;have hq:((d.L i).key.num-1).toNat<d.m:=om;rw[Xu hq h1 (λj hj e=>?_),N4 (λj hj e=>?_)]
   .rcases h.i0.idx.range j hj with e'|e'|⟨e',g⟩
    .omega
    .omega
    rw[e,show(((i:Int)+1-1).toNat)=i by omega]at g;exact g.2.2 ⟨k1,k2,k3⟩
   rcases h.i0.ints j hj with e'|⟨e1,e2,e3,b,c⟩;all_goals grind
  obtain⟨s,h1,h2,h3⟩:=h.i0.idx.has i ⟨hi,a,hs⟩;rw[Xu h1 h2 (λj hj e=>h.i0.idx.uniq j s hj h1 om om),N4 (λj hj e=>?_)];rcases h.i0.ints j hj with e'|⟨e1,e2,e3,b,c⟩
  .omega
  unfold Dc.at at b c;rw[e,show(((i:Int)+1-1).toNat)=i by omega]at b c;exact hs ⟨b,om,om⟩
 rcases h.i0.place f (h.i0.keys i hi a)with⟨j,h1,h2,h3,h4⟩|⟨h1,_⟩
 .rw[h4,h.i0.JR j i h1 hi h2 a h3]
 have:=h1 i hi a;rw[f.refl _ (h.i0.keys i hi a)]at this;cases this
def Sound.inv(h:Sound d λi=>hf (d.L i).key)(t:KeyLaw K hf)(hK:∀i,i<d.n->(d.L i).turn≠0->K (d.L i).key):Inv K hf d:=by
 have same:∀a b,K a->K b->AF a b=true->(∀i,i<d.n->(d.L i).turn≠0->AF (d.L i).key a=AF (d.L i).key b):=by all_goals grind [AF,KeyLaw.symm,KeyLaw.trans]
 have g:∀s,s<d.x->0<d.X s->TU d (d.X s-1).toNat:=λs hs k=>by
  rcases h.d4.2.1 s hs with e|e|⟨e1,e2,e3,u⟩
  .omega
  .omega
  exact⟨om,e3,u⟩
 have c:∀a b,K a->K b->AF a b=true->0<d.x->∀f q,q<d.x->probe d a q f=probe d b q f:=by
  intro a b p hb hab l f
  induction f with
  |zero=>intro q _;rfl
  |succ f ih=>
   intro q hq;by_cases k:d.X q=0
   .rw[EZ k,EZ k]
   by_cases hp:0<d.X q
   .have JS:=g q hq hp;have hs:=same a b p hb hab _ JS.1 JS.2.1;by_cases hl:AF (d.at<|d.X q).key a=true
    .rw[FR hp hl,FR hp (hs▸hl)]
    rw[CQ k (λh=>hl h.2),CQ k (λh=>hl (hs.symm▸h.2)),ih _ (VC _ l)]
   rw[CQ k (λh=>hp h.1),CQ k (λh=>hp h.1),ih _ (VC _ l)]
 have o:∀a b,K a->K b->AF a b=true->Aw d a (hf a)=Aw d b (hf b):=by
  intro a b p hb hab;unfold Aw;by_cases hs:Ay d.m a
  .all_goals grind [H7,F4]
  rw[Cs hs,Cs (λh=>hs ((H7 hab).2 h)),t.hash a b p hb hab];congr 1;unfold A5;by_cases l:d.x=0
  .rw[C3 l,C3 l]
  rw[Cs l,Cs l];exact c a b p hb hab om _ _<|VC _ om
 refine⟨⟨h.d2.lU,hK,λi j hi hj ti v hl=>?_,h.d3.1,h.d3.2,λi hi r hs=>?_,h.d4.1,⟨λs hs=>?_,λi hi=>?_,λs s' hs w k e=>?_⟩,by rw[<-Fy];exact h.d4.2.2.1,by rw[<-Fy];exact h.d4.2.2.2,⟨h.d1.2.2.1,h.d1.2.2.2.1⟩,h.d1.2.1⟩,λi hi r=>(h.d5 i hi r).2.2,h.d1.2.2.2.2⟩
 .have h1:=(h.d5 i hi ti).2.1;have h2:=(h.d5 j hj v).2.1;all_goals grind
 .have h1:=(h.d5 i hi r).2.1;all_goals grind [Aw]
 .rcases h.d4.2.1 s hs with e|e|e;all_goals grind
 .have h1:=(h.d5 i hi.1 hi.2.1).2.1;unfold Aw at h1;rw[Cs hi.2.2]at h1;cases e:A5 d (d.L i).key (hf (d.L i).key)with
  |none=>rw[e]at h1;have h1:(-1:Int)=i:=h1;omega
  |some s=>
   rw[e]at h1;have h1:d.X s-1=i:=h1;obtain⟨g1,g2,g3,g4⟩:=ML e;exact⟨s,g1,om,g4⟩
 have JS:=g s hs k;have h1:=(h.d5 _ JS.1 JS.2.1).1;by_cases e':s=s'
 .exact e'
 have e1:d.X s=(((d.X s-1).toNat:Nat):Int)+1:=om;by_cases A:s<s'
 .all_goals grind [Xv]
 have:=Xv (s:=s') om hs om e1;omega
structure Core (K:Vl->Prop) (d:Dc):Prop where
 log:KE d
 keys:∀i,i<d.n->(d.L i).turn≠0->K (d.L i).key
 JR:∀i j,i<d.n->j<d.n->(d.L i).turn≠0->(d.L j).turn≠0->AF (d.L i).key (d.L j).key=true->i=j
 ints:∀j,j<d.m->Fu d j
 last:d.m=0\/0<d.I (d.m-1)
 small:∀i,i<d.n->(d.L i).turn≠0->Ay d.m (d.L i).key->d.I ((d.L i).key.num-1).toNat=i+1
 turns:0<=d.turns/\d.turns<=1000000000000
 le:d.live<=500
structure Ix (hf:Vl->Nat) (d:Dc):Prop where
 sz:Gr d.x
 idx:Idx hf d.L d.x d.X<|TU d
 used:(B1 d.X d.x:Int)=d.used
 half:2*B1 d.X d.x<=d.x
theorem BN.core(h:BN K hf d):Core K d:=⟨h.log,h.keys,h.JR,h.ints,h.last,h.small,h.turns,h.le⟩
def Core.T0(h:Core K d)(g:Ix hf d):BN K hf d:=⟨h.log,h.keys,h.JR,h.ints,h.last,h.small,g.sz,g.idx,g.used,g.half,h.turns,h.le⟩
theorem Core.pos(h:Core K d){i}(hi:i<d.n)(a:(d.L i).turn≠0):0<(d.L i).turn:=by
 rcases h.log.Cw i hi with e|e;all_goals omega
open Classical in
noncomputable def BV(d:Dc):Nat->Nat
 |0=>0
 |k+1=>if AP d k then BV d k+1 else BV d k
def EE(h:AP d k):BV d (k+1)=BV d k+1:=C3 h
def Gu(h:¬AP d k):BV d (k+1)=BV d k:=Cs h
def XR d k:BV d k<=(AW d k).length:=by
 induction k with
 |zero=>exact Be _
 |succ k ih=>
  by_cases h:AP d k
  .have:=h.1;rw[EE h,Bi om,P9,Aak];omega
  rw[Gu h];refine GP ih ?_;exact(Ft om).length_le
def FN d{k n}(h:k<=n):BV d k<=BV d n:=by
 obtain⟨j,rfl⟩:∃j,n=k+j:=⟨n-k,om⟩;clear h
 induction j with
 |zero=>exact Be _
 |succ j ih=>
  refine GP ih ?_;by_cases h:AP d<|k+j
  .rw[show k+(j+1)=k+j+1 by omega,EE h];omega
  rw[show k+(j+1)=k+j+1 by omega,Gu h];exact Be _
def CS:Nat->Nat->Nat->Nat
 |0,s,_=>s
 |f+1,s,q=>if s<q then CS f (2*s) q else s
def Ck(n:Nat):Nat:=CS 9 8<|4*n
def UR:∀(f s q),q<=2000->GY s->8<=s->s<=4000->2000<=s*2^f->q<=CS f s q/\8<=CS f s q/\CS f s q<=4000/\GY (CS f s q):=by
 intro f
 induction f with
 |zero=>
  exactλs q h1 h2 h3 h4 h5=>⟨by show q<=s;omega,h3,h4,h2⟩
 |succ f ih=>
  intro s q h1 h2 h3 h4 h5;show q<=(if s<q then CS f (2*s) q else s)/\_<=(if s<q then CS f (2*s) q else s)/\(if s<q then CS f (2*s) q else s)<=_/\GY (if s<q then CS f (2*s) q else s);by_cases e:s<q
  .rw[C3 e];obtain⟨k,rfl⟩:=h2;refine ih _ _ h1 ⟨k+1,by rw[Aax];omega⟩ om om ?_;rw[Aax,<-Re,AaL (2^k*2^f) 2,<-Re]at h5;exact h5
  rw[Cs e];exact⟨om,h3,h4,h2⟩
theorem Dn(h:n<=500):4*n<=Ck n/\8<=Ck n/\Ck n<=4000/\GY (Ck n):=
 UR 9 8 (4*n) om ⟨3,rfl⟩ om om oo
open Classical in
noncomputable def Bl(hf:Vl->Nat)(d:Dc)(x:Nat):Nat->Dc
 |0=>{d with x:=x,X:=λ_=>0,used:=0}
 |k+1=>if AP d k then AR hf (Bl hf d x k) (d.L k).key k else Bl hf d x k
def E3(h:AP d k):Bl hf d x (k+1)=AR hf (Bl hf d x k) (d.L k).key k:=C3 h
theorem E0(h:¬AP d k):Bl hf d x (k+1)=Bl hf d x k:=Cs h
theorem Dj:∀k,BV d k<x->
  Idx hf d.L x (Bl hf d x k).X (λi=>i<k/\AP d i)/\(B1 (Bl hf d x k).X x:Int)=(Bl hf d x k).used/\B1 (Bl hf d x k).X x<=BV d k/\(Bl hf d x k).x=x/\(Bl hf d x k).n=d.n/\(Bl hf d x k).L=d.L/\(Bl hf d x k).m=d.m/\(Bl hf d x k).I=d.I/\(Bl hf d x k).live=d.live/\(Bl hf d x k).turns=d.turns:=by
 intro k
 induction k with
 |zero=>
  exactλ_=>⟨Idx.empty _ _ _ _ λi h=>om,by show(B1 (λ_=>0) x:Int)=0;rw[JM];rfl,by show B1 (λ_=>0) x<=0;rw[JM];exact Be _,rfl,rfl,rfl,rfl,rfl,rfl,rfl⟩
 |succ k ih=>
  intro a;by_cases h:AP d k
  .rw[EE h]at a;obtain⟨h1,h2,h3,h4,h5,c,f,g,j,b⟩:=ih om;rw[E3 h,EE h];obtain⟨g1,g2,g3,g4,g5,g6,g7,g8,g9,g10⟩:=N8 (p:=k) (by rw[h4];exact h1) (λe=>om) rfl (by rw[h4];omega) (by rw[h4];exact h2);rw[h4]at g3;rw[g3]at g1 g2;rw[h4]at g10;refine⟨g1.congr (λi=>?_) λ_ _=>rfl,g2,om,g3,g4.trans h5,g5.trans c,g6.trans f,g7.trans g,g8.trans j,g9.trans b⟩;constructor
   .rintro⟨e1,e2⟩;by_cases e:i=k
    .exact .inr e
    exact .inl ⟨om,e2⟩
   rintro(⟨e1,e2⟩|rfl)
   .exact⟨om,e2⟩
   exact⟨om,h⟩
  rw[Gu h]at a ⊢;obtain⟨h1,h2,h3⟩:=ih a;rw[E0 h];refine⟨h1.congr (λi=>?_) λ_ _=>rfl,h2,h3⟩;constructor
  .rintro⟨e1,e2⟩;exact⟨by
    have:i≠k:=λe=>h (e▸e2);omega,e2⟩
  rintro⟨e1,e2⟩;exact⟨om,e2⟩
noncomputable def A3(hf:Vl->Nat)(d:Dc)(more:Nat):Dc:=
 if BV d d.n+more=0 then{d with x:=0,used:=0}else Bl hf d (Ck<|BV d d.n+more) d.n
def D8{more}(h:BV d d.n+more=0):A3 hf d more={d with x:=0,used:=0}:=C3 h
theorem Cy{more}(h:BV d d.n+more≠0):A3 hf d more=Bl hf d (Ck<|BV d d.n+more) d.n:=Cs h
structure Dx (d c:Dc):Prop where
 n:d.n=c.n
 L:d.L=c.L
 m:d.m=c.m
 I:d.I=c.I
 live:d.live=c.live
 turns:d.turns=c.turns
def Core.of_same(h:Core K c)(e:Dx d c):Core K d:=by
 obtain⟨n,L,m,I,x,X,used,live,turns⟩:=d;obtain⟨rfl,rfl,rfl,rfl,rfl,rfl⟩:=e;exact⟨⟨h.log.Cw,h.log.ord,h.log.CI⟩,h.keys,h.JR,h.ints,h.last,h.small,h.turns,h.le⟩
theorem Fg{more}(h:Core K d)(b:BV d d.n+more<=500):Dx (A3 hf d more) d:=by
 by_cases e:BV d d.n+more=0
 .rw[D8 e];exact⟨rfl,rfl,rfl,rfl,rfl,rfl⟩
 rw[Cy e];obtain⟨s1,s2,j,k⟩:=Dn b;obtain⟨h1,h2,h3,h4,h5,c,f,g,i,a⟩:=Dj (d:=d) (x:=Ck<|BV d d.n+more) d.n om;exact⟨h5,c,f,g,i,a⟩
theorem MI{more}(h:Core K d)(b:BV d d.n+more<=500):Ix hf (A3 hf d more)/\(0<more->2*(B1 (A3 hf d more).X (A3 hf d more).x+1)<=(A3 hf d more).x):=by
 by_cases e:BV d d.n+more=0
 .rw[D8 e];refine⟨⟨.inl rfl,⟨λs hs=>absurd hs oq,λi hi=>?_,λs s' hs=>absurd hs oq⟩,rfl,Be _⟩,λh=>om⟩;have hi:i<d.n/\(d.L i).turn≠0/\¬Ay d.m (d.L i).key:=hi;have h1:AP d i:=⟨h.pos hi.1 hi.2.1,hi.2.2⟩;have h2:=FN d (k:=i+1) (n:=d.n) om;rw[EE h1]at h2;omega
 rw[Cy e];obtain⟨s1,s2,c,f⟩:=Dn b;obtain⟨h1,h2,h3,h4,h5,a,g,l,o,j⟩:=Dj (d:=d) (x:=Ck<|BV d d.n+more) d.n om;refine⟨⟨by rw[h4];exact .inr ⟨s2,c,f⟩,?_,by rw[h4];exact h2,by rw[h4];omega⟩,λhp=>by rw[h4];omega⟩;rw[h4,a];refine h1.congr (λi=>?_) λ_ _=>rfl;rw[TU,AP,h5,a,g];constructor
 .rintro⟨e1,e2,e3⟩;exact⟨e1,h.pos e1 e2,e3⟩
 grind [BV,B1]
theorem Lc{more}(h:Core K d)(a:BV d d.n+more<=500):BN K hf<|A3 hf d more:=
 (h.of_same<|Fg h a).T0 (MI h a).1
def Cu(d:Dc)(i:Nat):Nat:=(AW d i).length
def La(a:i<j)(b:(d.L i).turn≠0):Cu d i<Cu d j:=by
 have h:=(Ft (d:=d) (k:=i+1) (n:=j) om).length_le;grind [Cu,Bi]
def FT:∀(k) {j:Nat},j<(AW d k).length->∃i,i<k/\(d.L i).turn≠0/\Cu d i=j:=by
 intro k
 induction k with
 |zero=>intro j h;exact absurd h<|by simp[AW]
 |succ k ih=>
  intro j h;by_cases a:(d.L k).turn=0
  .rw[B7 a]at h;obtain⟨i,h1,h2⟩:=ih h;exact⟨i,om,h2⟩
  by_cases e:j<(AW d k).length
  .obtain⟨i,h1,h2⟩:=ih e;exact⟨i,om,h2⟩
  rw[Bi a,P9,Aak]at h;exact⟨k,om,a,by unfold Cu;omega⟩
def Cj(d:Dc):Dc:={d with n:=Kq d,L:=Ev d,I:=λj=>if 0<d.I j then(Cu d (d.I j-1).toNat:Int)+1 else d.I j}
noncomputable def Ap(hf:Vl->Nat)(d:Dc):Dc:=if(d.n:Int)<8\/(d.n:Int)<=2*d.live then d else A3 hf (Cj d) 0
def cZ:∀k,(∀i,i<k->(d.L i).turn≠0)->(AW d k).length=k:=by
 intro k
 induction k with
 |zero=>intro _;rfl
 |succ k ih=>
  intro h;rw[Bi (h k om),P9,Aak,ih (λi hi=>h i om)]
def Gb(h:Core K d):Core K<|Cj d:=by
 have hs:∀j,j<Kq d->∃i,i<d.n/\(d.L i).turn≠0/\Cu d i=j/\Ev d j=d.L i:=λj hj=>by
  obtain⟨i,h1,h2,h3⟩:=FT d.n hj;exact⟨i,h1,h2,h3,by rw[<-h3];exact FB h1 h2⟩
 have q:∀i,i<d.n->(d.L i).turn≠0->Cu d i<Kq d/\Ev d (Cu d i)=d.L i:=λi hi f=>⟨La hi f,FB hi f⟩;have g:∀i j,i<d.n->j<d.n->(d.L i).turn≠0->(d.L j).turn≠0->Cu d i<Cu d j->i<j:=by
  intro i j hi hj ti k r;by_cases e:i<j
  .exact e
  by_cases e':i=j
  .subst e';omega
  have:=La (j:=i) om k;omega
 refine⟨⟨λj hj=>?_,λi j s hj ti k=>?_,?_⟩,λj hj f=>?_,λi j hi hj ti k hl=>?_,λj hj=>?_,?_,λj hj f c=>?_,h.turns,h.le⟩
 .obtain⟨i,h1,h2,h3,h4⟩:=hs j hj;have:=h.log.Cw i h1;show((Ev d j).turn=0/\DH (Ev d j).key=true/\DH (Ev d j).val=true)\/(0<(Ev d j).turn/\(Ev d j).turn<=d.turns/\Cc (Ev d j).key=true/\(Ev d j).val.ok=true/\(Ev d j).val.kind≠0);rw[h4];exact this
 .have l:j<Kq d:=hj;obtain⟨a,a1,a2,a3,a4⟩:=hs i om;obtain⟨b,b1,b2,b3,b4⟩:=hs j l;show(Ev d i).turn<(Ev d j).turn;rw[a4,b4];exact h.log.ord a b (g a b a1 b1 a2 b2 om) b1 a2 b2
 .show((AW (Cj d)<|Kq d).length:Int)=d.live;rw[cZ (Kq d) (λj hj=>?_)]
  .exact h.log.CI
  obtain⟨i,h1,h2,h3,h4⟩:=hs j hj;show(Ev d j).turn≠0;rw[h4];exact h2
 .obtain⟨i,h1,h2,h3,h4⟩:=hs j hj;show K (Ev d j).key;rw[h4];exact h.keys i h1 h2
 .obtain⟨a,a1,a2,a3,a4⟩:=hs i hi;obtain⟨b,b1,b2,b3,b4⟩:=hs j hj;have hl:AF (Ev d i).key (Ev d j).key=true:=hl;rw[a4,b4]at hl;have:=h.JR a b a1 b1 a2 b2 hl;subst this;omega
 .rcases h.ints j hj with e|⟨e1,e2,e3,t,u⟩
  .left;show(if 0<d.I j then(Cu d (d.I j-1).toNat:Int)+1 else d.I j)=0;rw[Cs om];exact e
  right;have v:(Cj d).I j=(Cu d (d.I j-1).toNat:Int)+1:=C3 e1;have o:=q (d.I j-1).toNat om e3;have p:(Cj d).at ((Cj d).I j)=d.at (d.I j):=by
   show Ev d ((Cj d).I j-1).toNat=d.L (d.I j-1).toNat;rw[v,show((Cu d (d.I j-1).toNat:Int)+1-1).toNat=Cu d (d.I j-1).toNat by omega];exact o.2
  rw[p];exact⟨om,by show _<=((Kq d:Nat):Int);omega,e3,t,u⟩
 .rcases h.last with e|e
  .exact .inl e
  right;show 0<(if 0<d.I (d.m-1)then(Cu d (d.I (d.m-1)-1).toNat:Int)+1 else d.I (d.m-1));omega
 obtain⟨i,h1,h2,h3,h4⟩:=hs j hj;have c:Ay d.m (Ev d j).key:=c;show(if 0<d.I ((Ev d j).key.num-1).toNat then(Cu d (d.I ((Ev d j).key.num-1).toNat-1).toNat:Int)+1 else _)=_;rw[h4]at c ⊢;have:=h.small i h1 h2 c;rw[this,C3 om,show((i:Int)+1-1).toNat=i by omega,h3]
def Core.Ko(h:Core K d):(Kq d)=d.live:=h.log.CI
def JI(h:Core K d):BV (Cj d) (Cj d).n+0<=500:=by
 have h1:=XR (Cj d) (Cj d).n;have h2:=FI (Cj d) (Cj d).n;have h3:(Cj d).n=Kq d:=rfl;have h4:=h.Ko;have h5:=h.le;omega
def DJ(h:BN K hf d):BN K hf<|Ap hf d:=by
 rw[Ap];split
 .exact h
 exact Lc (Gb h.core)<|JI h.core
def BO(h:Core K d):(Ap hf d).live=d.live/\(Ap hf d).turns=d.turns/\(Ap hf d).m=d.m/\(((Ap hf d).n:Int)<8\/((Ap hf d).n:Int)<=2*d.live):=by
 rw[Ap];split
 .next e=>exact⟨rfl,rfl,rfl,e⟩
 have:=Fg (hf:=hf) (Gb h)<|JI h;refine⟨this.live,this.turns,this.m,.inr ?_⟩;rw[this.n];have h4:=h.Ko;show((Kq d:Nat):Int)<=_;omega
def DE(h:Core K d)(Q:Pr->Prop):(∃i,i<(Ap hf d).n/\((Ap hf d).L i).turn≠0/\Q ((Ap hf d).L i))↔∃i,i<d.n/\(d.L i).turn≠0/\Q (d.L i):=by
 rw[Ap];split
 .exact Iff.rfl
 have e:=Fg (hf:=hf) (Gb h)<|JI h;rw[e.n,e.L];constructor
 .rintro⟨j,hj,a,hq⟩;obtain⟨i,h1,h2,h3⟩:=FT d.n<|show j<(AW d d.n).length from hj;have h4:Ev d j=d.L i:=by rw[<-h3];exact FB h1 h2
  have hq:Q<|Ev d j:=hq;rw[h4]at hq;exact⟨i,h1,h2,hq⟩
 rintro⟨i,hi,a,hq⟩;refine⟨Cu d i,La hi a,?_,?_⟩
 .show(Ev d<|Cu d i).turn≠0;rw[show Ev d (Cu d i)=d.L i from FB hi a];exact a
 show Q (Ev d<|Cu d i);rw[show Ev d (Cu d i)=d.L i from FB hi a];exact hq
def DZ(h:Core K d)(hn:Next d):Next<|Ap hf d:=by
 intro i hi a hc;rw[(BO h).2.2.1]at hc;obtain⟨j,h1,h2,h3⟩:=(DE h λp=>p.key.kind=2/\p.key.num=(d.m:Int)+1).1 ⟨i,hi,a,hc⟩;exact hn j h1 h2 h3
def Kn:∀(k),(∀i,i<k->((d.L i).turn=0↔(c.L i).turn=0))->AW d k=AW c k:=by
 intro k
 induction k with
 |zero=>intro _;rfl
 |succ k ih=>
  intro h;have:=h k om;by_cases e:(d.L k).turn=0
  .rw[B7 e,B7 (this.1 e),ih (λi hi=>h i om)]
  rw[Bi e,Bi (λe'=>e (this.2 e')),ih (λi hi=>h i om)]
def B3(c:Dc)(k v:Vl):Dc:={c with n:=c.n+1,L:=AU c.L c.n ⟨k,v,c.turns+1⟩,live:=c.live+1,turns:=c.turns+1}
section
variable {K:Vl->Prop} {hf:Vl->Nat} {c:Dc} {k v:Vl}
theorem BD(h:i<c.n):(B3 c k v).L i=c.L i:=Ao _ _ om
theorem BX:(B3 c k v).L c.n=⟨k,v,c.turns+1⟩:=Au _ _ _
def NV(h:KE c)(f:0<=c.turns)(hk:Cc k=true)(l:v.ok=true)(d:v.kind≠0):KE<|B3 c k v:=by
 refine⟨λi hi=>?_,λi j a hj ti b=>?_,?_⟩
 .have hi:i<c.n+1:=hi;by_cases e:i=c.n
  .right;all_goals grind [B3,BX,Core.turns]
  have:=h.Cw i om;all_goals grind [B3,Entry,BD,Core.turns]
 .have hj:j<c.n+1:=hj;by_cases e:j=c.n
  .subst e;rw[BD a]at ti ⊢;rw[BX];rcases h.Cw i a with g|g;all_goals grind
  rw[BD om]at ti ⊢;rw[BD om]at b ⊢;exact h.ord i j a om ti b
 show((AW (B3 c k v)<|c.n+1).length:Int)=c.live+1;rw[Bi (by rw[BX];show c.turns+1≠0;omega),P9,Aak,Kn (c:=c) c.n (λi hi=>by rw[BD hi])];have:((AW c c.n).length:Int)=c.live:=h.CI;omega
def LH(h:Core K c)(hk:K k):∀i,i<(B3 c k v).n->((B3 c k v).L i).turn≠0->K ((B3 c k v).L i).key:=by
 grind [B3,BX,BD,Core.keys,Dx.n]
def LG(b:KeyLaw K hf)(h:Core K c)(hk:K k)(a:∀i,i<c.n->(c.L i).turn≠0->AF (c.L i).key k=false):∀i j,i<(B3 c k v).n->j<(B3 c k v).n->((B3 c k v).L i).turn≠0->((B3 c k v).L j).turn≠0->AF ((B3 c k v).L i).key ((B3 c k v).L j).key=true->i=j:=by
 grind [B3,BX,BD,KeyLaw.symm,Core.keys,Core.JR,BN.JR]
def Co(c:Dc)(k v:Vl):Dc:={B3 c k v with I:=AU c.I (k.num-1).toNat ((c.n:Int)+1)}
def L4(h:Fu c j){d}(hn:d.n=c.n+1)(a:∀i,i<c.n->d.L i=c.L i)(b:d.I j=c.I j):Fu d j:=by
 grind [Fu,Dx.I]
def RJ(q:KeyLaw K hf)(h:BN K hf c)(hk:K k)(d:Cc k=true)(r:v.ok=true)(f:v.kind≠0)(g:∀i,i<c.n->(c.L i).turn≠0->AF (c.L i).key k=false)(hs:Ay c.m k)(hl:c.live<500)(s:c.turns<1000000000000):BN K hf<|Co c k v:=by
 have a:=NV h.log h.turns.1 d r f;obtain⟨k1,k2,k3⟩:=hs;refine(Core.T0 ⟨⟨a.Cw,a.ord,a.CI⟩,LH h.core hk,LG q h.core hk g,λj hj=>?_,?_,λi hi l b=>?_,⟨by show 0<=c.turns+1;have:=h.turns.1;omega,by show c.turns+1<=_;omega⟩,by show c.live+1<=500;omega⟩ ⟨h.sz,?_,h.used,h.half⟩)
 .by_cases e:j=(k.num-1).toNat
  .right;have t:(Co c k v).I j=(c.n:Int)+1:=by subst e;exact Au _ _ _
   have o:(Co c k v).at ((Co c k v).I j)=⟨k,v,c.turns+1⟩:=by grind [AF,Co,BX,Dx.L]
   rw[o];refine⟨om,by show _<=((c.n+1:Nat):Int);omega,?_,k1,by show k.num=_;omega⟩;show c.turns+1≠0;have:=h.turns.1;omega
  exact L4 (h.ints j hj) rfl (λi hi=>BD hi) (Ao _ _ e)
 .rcases h.last with e|e
  .exact .inl e
  right;show 0<AU c.I (k.num-1).toNat ((c.n:Int)+1) (c.m-1);grind [Cc,Ay,Au,Ao]
 .have hi:i<c.n+1:=hi;show AU c.I (k.num-1).toNat ((c.n:Int)+1) _=_;by_cases e:i=c.n
  .subst e;have:(Co c k v).L c.n=⟨k,v,c.turns+1⟩:=BX;rw[this,Au]
  have p:(Co c k v).L i=c.L i:=BD om;rw[p]at l b ⊢;have b:Ay c.m (c.L i).key:=b;grind [Cc,Ay,Ao,KeyLaw.int,BN.keys,BN.small,Core.keys,Dx.L]
 refine h.idx.congr (λi=>?_) (λi hi=>by rw[show(Co c k v).L i=c.L i from BD hi.1]);unfold TU;show(i<c.n+1/\((B3 c k v).L i).turn≠0/\¬Ay c.m ((B3 c k v).L i).key)↔_;grind [Cc,Ay,BX,BD]
def Ch(c:Dc)(k v:Vl):Dc:={B3 c k v with m:=c.m+1,I:=AU c.I c.m ((c.n:Int)+1)}
theorem Pz{k}:Ay (m+1) k↔Ay m k\/(k.kind=2/\k.num=(m:Int)+1):=by
 grind [Ay]
def IU(l:KeyLaw K hf)(h:BN K hf c)(hk:K k)(b:Cc k=true)(o:v.ok=true)(d:v.kind≠0)(f:∀i,i<c.n->(c.L i).turn≠0->AF (c.L i).key k=false)(k1:k.kind=2)(k2:k.num=(c.m:Int)+1)(hl:c.live<500)(t:c.turns<1000000000000):BN K hf<|Ch c k v:=by
 have a:=NV h.log h.turns.1 b o d;have p:∀i,i<c.n->(c.L i).turn≠0->¬((c.L i).key.kind=2/\(c.L i).key.num=(c.m:Int)+1):=by grind [AF,KeyLaw.int,BN.keys]
 refine(Core.T0 ⟨⟨a.Cw,a.ord,a.CI⟩,LH h.core hk,LG l h.core hk f,λj hj=>?_,?_,λi hi q r=>?_,⟨by show 0<=c.turns+1;have:=h.turns.1;omega,by show c.turns+1<=_;omega⟩,by show c.live+1<=500;omega⟩ ⟨h.sz,?_,h.used,h.half⟩)
 .have hj:j<c.m+1:=hj;by_cases e:j=c.m
  .right;have u:(Ch c k v).I j=(c.n:Int)+1:=by subst e;exact Au _ _ _
   have g:(Ch c k v).at ((Ch c k v).I j)=⟨k,v,c.turns+1⟩:=by grind [Cc,Ch,BX,Dx.L]
   rw[g];refine⟨om,by show _<=((c.n+1:Nat):Int);omega,?_,k1,by show k.num=_;omega⟩;show c.turns+1≠0;have:=h.turns.1;omega
  exact L4 (h.ints j om) rfl (λi hi=>BD hi) (Ao _ _ e)
 .right;show 0<AU c.I c.m ((c.n:Int)+1) (c.m+1-1);rw[show c.m+1-1=c.m by omega,Au];omega
 .have hi:i<c.n+1:=hi;show AU c.I c.m ((c.n:Int)+1) _=_;by_cases e:i=c.n
  .subst e;have:(Ch c k v).L c.n=⟨k,v,c.turns+1⟩:=BX;rw[this,show((Pr.mk k v (c.turns+1)).key.num-1).toNat=c.m by show(k.num-1).toNat=_;omega,Au]
  have s:(Ch c k v).L i=c.L i:=BD om;grind [Cc,Ch,Ay,Ao,BN.small,Dx.m]
 refine h.idx.congr (λi=>?_) (λi hi=>by rw[show(Ch c k v).L i=c.L i from BD hi.1]);unfold TU;show(i<c.n+1/\((B3 c k v).L i).turn≠0/\¬Ay (c.m+1) ((B3 c k v).L i).key)↔_;grind [AF,Pz,BX,BD]
end
def DT(d:Dc)(s:Nat):Dc:={d with m:=d.m+1,I:=AU d.I d.m (d.X s),X:=AU d.X s (-1)}
def CP(hf:Vl->Nat):Nat->Dc->Dc
 |0,d=>d
 |f+1,d=>match A5 d (Dq<|(d.m:Int)+1) (hf<|Dq<|(d.m:Int)+1)with
  |none=>d
  |some s=>CP hf f<|DT d s
def F7{f}(h:A5 d (Dq<|(d.m:Int)+1) (hf<|Dq<|(d.m:Int)+1)=none):CP hf f d=d:=by
 cases f with
 |zero=>rfl
 |succ f=>show(match A5 d (Dq<|(d.m:Int)+1) (hf<|Dq<|(d.m:Int)+1)with|none=>d|some s=>CP hf f<|DT d s)=d;rw[h]
def F8{f}(h:A5 d (Dq<|(d.m:Int)+1) (hf<|Dq<|(d.m:Int)+1)=some s):CP hf (f+1) d=CP hf f (DT d s):=by
 grind [Dq,CP,DT]
def FJ(X:Nat->Int):Nat->Nat
 |0=>0
 |k+1=>if 0<X k then FJ X k+1 else FJ X k
def Nx X k:FJ X k<=k:=by
 induction k with
 |zero=>exact Be _
 |succ k ih=>
  show(if 0<X k then FJ X k+1 else FJ X k)<=k+1;by_cases e:0<X k
  .rw[C3 e];omega
  rw[Cs e];omega
def Ku(a:0<X s):∀k,FJ (AU X s (-1)) k+(if s<k then 1 else 0)=FJ X k:=by
 intro k
 induction k with
 |zero=>rfl
 |succ k ih=>
  show(if 0<AU X s (-1) k then FJ (AU X s (-1)) k+1 else FJ (AU X s (-1)) k)+_=(if 0<X k then FJ X k+1 else FJ X k);by_cases e:k=s
  .subst e;rw[Au,Cs om,C3 a,C3 om];rw[Cs om]at ih;omega
  rw[Ao _ _ e];by_cases e2:s<k
  focus
   rw[C3 (show s<k+1 by omega)];rw[C3 e2]at ih
  rotate_left
  focus
   rw[Cs (show¬s<k+1 by omega)];rw[Cs e2]at ih
  all_goals
   by_cases e1:0<X k
   .rw[C3 e1,C3 e1];omega
   rw[Cs e1,Cs e1];omega
section
variable {K:Vl->Prop} {hf:Vl->Nat} {d:Dc}
def BN.slot(h:BN K hf d){v}{a s}(e:A5 d v a=some s):s<d.x/\0<d.X s/\TU d (d.X s-1).toNat/\AF (d.L (d.X s-1).toNat).key v=true:=by
 obtain⟨h1,h2,h3,h4⟩:=ML e;rcases h.idx.range s h1 with g|g|g;all_goals grind [TU]
def L0(o:KeyLaw K hf)(h:BN K hf d){s}(e:A5 d (Dq<|(d.m:Int)+1) (hf<|Dq<|(d.m:Int)+1)=some s):BN K hf<|DT d s:=by
 obtain⟨h1,h2,h3,h4⟩:=h.slot e;have c:=FP h4;have p:(d.L (d.X s-1).toNat).key.num=(d.m:Int)+1:=F4 h4;have a:∀i,i<d.n->(d.L i).turn≠0->(d.L i).key.kind=2->(d.L i).key.num=(d.m:Int)+1->i=(d.X s-1).toNat:=λi hi f g1 g2=>
  h.JR _ _ hi h3.1 f h3.2.1 (o.int _ _ (h.keys i hi f) (h.keys _ h3.1 h3.2.1) g1 c om)
 refine Core.T0 ⟨⟨h.log.Cw,h.log.ord,h.log.CI⟩,h.keys,h.JR,λj hj=>?_,?_,λi hi f b=>?_,h.turns,h.le⟩ ⟨h.sz,?_,?_,?_⟩
 .have hj:j<d.m+1:=hj;unfold Fu;by_cases e:j=d.m
  .right;have k:(DT d s).I j=d.X s:=by subst e;exact Au _ _ _
   rw[k];have l:(DT d s).at (d.X s)=d.L (d.X s-1).toNat:=rfl;rw[l];exact⟨h2,by show _<=(d.n:Int);have:=h3.1;omega,h3.2.1,c,om⟩
  have k:(DT d s).I j=d.I j:=Ao _ _ e;rw[k];exact h.ints j om
 .right;show 0<AU d.I d.m (d.X s) (d.m+1-1);rw[show d.m+1-1=d.m by omega,Au];exact h2
 .have b:Ay (d.m+1) (d.L i).key:=b;show AU d.I d.m (d.X s) ((d.L i).key.num-1).toNat=_;rcases Pz.1 b with g|⟨g1,g2⟩
  .have:=g.2.1;have:=g.2.2;rw[Ao _ _ om];exact h.small i hi f g
  have:=a i hi f g1 g2;rw[g2,show((d.m:Int)+1-1).toNat=d.m by omega,Au];omega
 .refine(h.idx.leave h1 h2).congr (λi=>?_) λ_ _=>rfl;unfold TU;grind [Dq,DT,Ay,Dx.n,Dx.m]
 .show(B1 (AU d.X s (-1)) d.x:Int)=d.used;grind [Dq,Gm,AU,Au,BN.used]
 show 2*B1 (AU d.X s (-1)) d.x<=d.x;grind [Dq,Gm,AU,Au,BN.half]
def BN.kC(a:KeyLaw K hf)(h:BN K hf d)(e:A5 d (Dq<|(d.m:Int)+1) (hf<|Dq<|(d.m:Int)+1)=none):Next d:=by
 intro i hi b ⟨h1,h2⟩;obtain⟨s,_,_,g⟩:=h.found a (a.own<|(d.m:Int)+1) ⟨hi,b,λg=>oS g.2.2⟩<|a.int _ _ (h.keys i hi b) (a.own _) h1 rfl h2;rw[e]at g;cases g
def Zf(a:KeyLaw K hf):∀(f) (d),BN K hf d->FJ d.X d.x<f->BN K hf (CP hf f d)/\Next (CP hf f d)/\(CP hf f d).n=d.n/\(CP hf f d).L=d.L/\(CP hf f d).live=d.live/\(CP hf f d).turns=d.turns:=by
 intro f
 induction f with
 |zero=>intro d _ h;omega
 |succ f ih=>
  intro d h hp;cases e:A5 d (Dq<|(d.m:Int)+1) (hf<|Dq<|(d.m:Int)+1)with
  |none=>rw[F7 e];exact⟨h,h.kC a e,rfl,rfl,rfl,rfl⟩
  |some s=>
   rw[F8 e];obtain⟨h1,h2,h3,h4⟩:=h.slot e;have:=Ku h2 d.x;rw[C3 h1]at this;exact ih _ (L0 a h e)<|by show FJ (AU d.X s (-1)) d.x<f;omega
end
noncomputable def C4(hf:Vl->Nat)(c:Dc):Dc:=if(c.x:Int)<2*(c.used+1)then A3 hf c 1 else c
open Classical in
noncomputable def Bx(hf:Vl->Nat)(c:Dc)(k v:Vl):Dc:=
 if Ay c.m k then Co c k v
 else if k.kind=2/\k.num=(c.m:Int)+1 then CP hf (c.x+1) (Ch c k v)
 else AR hf (B3 (C4 hf c) k v) k c.n
noncomputable def IX(hf:Vl->Nat)(d:Dc)(k v:Vl):Dc:=Bx hf (Ap hf d) k v
section
variable {K:Vl->Prop} {hf:Vl->Nat} {c d:Dc} {k v:Vl}
def Core.cG(h:Core K c):(BV c c.n:Int)<=c.live:=by
 have h1:=XR c c.n;have h2:=h.Ko;unfold Kq at h2;omega
def Hb(h:BN K hf c)(hl:c.live<500):BN K hf (C4 hf c)/\2*(B1 (C4 hf c).X (C4 hf c).x+1)<=(C4 hf c).x/\Dx (C4 hf c) c:=by
 rw[C4];split
 .have h1:=h.core.cG;grind [B1,Lc,MI,Fg,BN.core]
 have:=h.used;exact⟨h,om,rfl,rfl,rfl,rfl,rfl,rfl⟩
def Jr(w:KeyLaw K hf)(h:BN K hf c)(hn:Next c)(hk:K k)(o:Cc k=true)(A:v.ok=true)(p:v.kind≠0)(q:∀i,i<c.n->(c.L i).turn≠0->AF (c.L i).key k=false)(hl:c.live<500)(E:c.turns<1000000000000):
  BN K hf (Bx hf c k v)/\Next (Bx hf c k v)/\(Bx hf c k v).n=c.n+1/\(Bx hf c k v).L=AU c.L c.n ⟨k,v,c.turns+1⟩/\(Bx hf c k v).live=c.live+1/\(Bx hf c k v).turns=c.turns+1:=by
 rw[Bx];by_cases hs:Ay c.m k
 .rw[C3 hs];refine⟨RJ w h hk o A p q hs hl E,λi hi b=>?_,rfl,rfl,rfl,rfl⟩;have hi:i<c.n+1:=hi;by_cases e:i=c.n
  .subst e;rw[show(Co c k v).L c.n=⟨k,v,c.turns+1⟩from BX];rintro⟨_,g⟩;have:=hs.2.2;have g:k.num=(c.m:Int)+1:=g;omega
  rw[show(Co c k v).L i=c.L i from BD om]at b ⊢;exact hn i om b
 rw[Cs hs];by_cases s:k.kind=2/\k.num=(c.m:Int)+1
 .rw[C3 s];obtain⟨g1,g2,g3,g4,g5,g6⟩:=Zf w (c.x+1) (Ch c k v) (IU w h hk o A p q s.1 s.2 hl E) (by have:=Nx c.X c.x;show FJ c.X c.x<_;omega);exact⟨g1,g2,g3,g4,g5,g6⟩
 rw[Cs s];obtain⟨r1,r2,r3⟩:=Hb h hl;generalize F:C4 hf c=a at r1 r2 r3;have t:∀i,i<a.n->(a.L i).turn≠0->AF (a.L i).key k=false:=by rw[r3.n,r3.L];exact q
 have l:=NV r1.log r1.turns.1 o A p;have H:¬TU a c.n:=by rintro⟨g,_⟩;have:=r3.n;omega
 have B:(B3 a k v).L c.n=⟨k,v,a.turns+1⟩:=by rw[<-r3.n];exact BX
 have u:Idx hf (B3 a k v).L a.x a.X<|TU a:=r1.idx.congr (λ_=>Iff.rfl) (λi hi=>by rw[BD hi.1]);obtain⟨g1,g2,g3,g4,g5,g6,g7,g8,g9,g10⟩:=N8 (d:=B3 a k v) (k:=k) u H (by rw[B]) (by show B1 a.X a.x<a.x;omega) r1.used;have C:(B3 a k v).x=a.x:=rfl;have D:(B3 a k v).X=a.X:=rfl;rw[C]at g3 g10;rw[D]at g10;have r:=Core.of_same ⟨⟨l.Cw,l.ord,l.CI⟩,LH r1.core hk,LG w r1.core hk t,λj hj=>L4 (r1.ints j hj) rfl (λi hi=>BD hi) rfl,r1.last,λi hi b f=>by
   have hi:i<a.n+1:=hi;by_cases e:i=a.n
   .subst e;rw[BX]at f;have f:Ay a.m k:=f;rw[r3.m]at f;exact absurd f hs
   rw[BD om]at b f ⊢;exact r1.small i om b f,⟨by show 0<=a.turns+1;have:=r1.turns.1;omega,by show a.turns+1<=_;rw[r3.turns];omega⟩,by show a.live+1<=500;rw[r3.live];omega⟩ ⟨g4,g5,g6,g7,g8,g9⟩
 refine⟨r.T0 ⟨by rw[g3];exact r1.sz,?_,g2,by rw[g3];omega⟩,λi hi b=>?_,?_,?_,?_,?_⟩
 .rw[g5];refine g1.congr (λi=>?_) λ_ _=>rfl;rw[TU,g4,g5,g6];show(i<a.n+1/\((B3 a k v).L i).turn≠0/\¬Ay a.m ((B3 a k v).L i).key)↔_;by_cases e:i=a.n
  .subst e;rw[BX];constructor
   .rintro _;exact .inr r3.n
   rintro _;refine⟨om,?_,?_⟩
   .show a.turns+1≠0;have:=r1.turns.1;omega
   rw[r3.m];exact hs
  constructor
  .rintro⟨e1,e2⟩;rw[BD om]at e2;exact .inl ⟨om,e2⟩
  rintro(⟨e1,e2⟩|e1)
  .rw[BD e1];exact⟨om,e2⟩
  rw[<-r3.n]at e1;exact absurd e1 e
 .rw[g4]at hi;rw[g5]at b ⊢;rw[g6];have hi:i<a.n+1:=hi;show¬(_/\_=(a.m:Int)+1);rw[r3.m];by_cases e:i=a.n
  .subst e;rw[BX];exact s
  rw[BD om]at b ⊢;rw[r3.L]at b ⊢;exact hn i (by rw[<-r3.n];omega) b
 .rw[g4];show a.n+1=_;rw[r3.n]
 .rw[g5];show AU a.L a.n ⟨k,v,a.turns+1⟩=_;rw[r3.L,r3.n,r3.turns]
 .rw[g8];show a.live+1=_;rw[r3.live]
 rw[g9];show a.turns+1=_;rw[r3.turns]
theorem Yx(g:KeyLaw K hf)(h:Inv K hf d)(hk:K k)(b:Cc k=true)(l:v.ok=true)(c:v.kind≠0)(m:∀i,i<d.n->(d.L i).turn≠0->AF (d.L i).key k=false)(hl:d.live<500)(o:d.turns<1000000000000):Inv K hf<|IX hf d k v:=by
 obtain⟨c1,c2,c3,c4⟩:=BO (hf:=hf) h.i0.core;have a:∀i,i<(Ap hf d).n->((Ap hf d).L i).turn≠0->AF ((Ap hf d).L i).key k=false:=by
  intro i hi f;cases e:AF ((Ap hf d).L i).key k
  .rfl
  obtain⟨j,g1,g2,g3⟩:=(DE h.i0.core λp=>AF p.key k=true).1 ⟨i,hi,f,e⟩;grind
 obtain⟨g1,g2,g3,g4,g5,g6⟩:=Jr g (DJ h.i0) (DZ h.i0.core h.next) hk b l c a om om;refine⟨g1,g2,?_⟩;grind [Cc,IX,aX,Ap,Dx.n]
end
def shrink(I:Nat->Int):Nat->Nat
 |0=>0
 |m+1=>if I m=0 then shrink I m else m+1
def Jj(h:I m=0):shrink I (m+1)=shrink I m:=C3 h
def Ji(h:I m≠0):shrink I (m+1)=m+1:=Cs h
def Jh I m:shrink I m<=m/\(shrink I m=0\/I (shrink I m-1)≠0)/\∀j,shrink I m<=j->j<m->I j=0:=by
 induction m with
 |zero=>exact⟨Be _,.inl rfl,λj _ h=>om⟩
 |succ m ih=>
  by_cases e:I m=0
  .rw[Jj e];refine⟨om,ih.2.1,λj h1 h2=>?_⟩;by_cases e':j=m
   .subst e';exact e
   exact ih.2.2 j h1 om
  rw[Ji e];exact⟨Be _,.inr<|by rw[show m+1-1=m by omega];exact e,λj h1 h2=>om⟩
def Iz(d:Dc)(p:Nat):Dc:={d with L:=AU d.L p default,live:=d.live-1}
section
variable {K:Vl->Prop} {hf:Vl->Nat} {d:Dc} {p:Nat}
theorem CN(h:i≠p):(Iz d p).L i=d.L i:=Ao _ _ h
theorem Ke:(Iz d p).L p=default:=Au _ _ _
theorem Yy:(default:Pr).turn=0:=rfl
def BQ(h:((Iz d p).L i).turn≠0):i≠p/\(Iz d p).L i=d.L i:=by
 grind [Ke,Yy,CN]
def Tm(b:(d.L p).turn≠0):∀k,(AW (Iz d p) k).length+(if p<k then 1 else 0)=(AW d k).length:=by
 intro k
 induction k with
 |zero=>rfl
 |succ k ih=>
  by_cases e:k=p
  .subst e;rw[B7 (qh Ke),Bi b,P9,Aak,C3 om];rw[Cs om]at ih;omega
  have a:(Iz d p).L k=d.L k:=CN e;by_cases e0:(d.L k).turn=0
  focus
   rw[B7 (by rw[a];exact e0),B7 e0,<-ih]
  rotate_left
  focus
   rw[Bi (by rw[a];exact e0),Bi e0,P9,P9,Aak,<-ih]
  all_goals
   by_cases e2:p<k
   .rw[C3 e2,C3 (show p<k+1 by omega)]
   rw[Cs e2,Cs (show¬p<k+1 by omega)]
def QH(c:KeyLaw K hf)(h:KE d)(hp:p<d.n)(f:(d.L p).turn≠0):KE<|Iz d p:=by
 refine⟨λi hi=>?_,λi j a hj ti b=>?_,?_⟩
 .by_cases e:i=p
  .subst e;left;rw[Ke];exact⟨rfl,c.none,c.none⟩
  have:=h.Cw i hi;grind [Iz,Entry,CN]
 .obtain⟨_,e1⟩:=BQ ti;obtain⟨_,e2⟩:=BQ b;rw[e1]at ti ⊢;rw[e2]at b ⊢;exact h.ord i j a hj ti b
 have h1:=Tm f d.n;rw[C3 hp]at h1;have h2:((AW d d.n).length:Int)=d.live:=h.CI;show((AW (Iz d p) d.n).length:Int)=d.live-1;omega
def goSmall(d:Dc)(p:Nat):Dc:={Iz d p with m:=shrink (AU d.I ((d.L p).key.num-1).toNat 0) d.m,I:=AU d.I ((d.L p).key.num-1).toNat 0}
def TL(w:KeyLaw K hf)(h:BN K hf d)(hn:Next d)(hp:p<d.n)(v:(d.L p).turn≠0)(hs:Ay d.m (d.L p).key):BN K hf (goSmall d p)/\Next (goSmall d p):=by
 have l:=QH w h.log hp v;have x:=h.small p hp v hs;obtain⟨k1,k2,k3⟩:=hs;obtain⟨q,hq⟩:=o9<|((d.L p).key.num-1).toNat;obtain⟨s1,s2,A⟩:=Jh (AU d.I q 0) d.m;have s:(goSmall d p).m=shrink (AU d.I q 0) d.m:=qh hq
 have r:(goSmall d p).I=AU d.I q 0:=qh hq
 rw[<-hq]at x;have still:∀i,i<d.n->(d.L i).turn≠0->i≠p->Ay d.m (d.L i).key->((d.L i).key.num-1).toNat≠q/\Ay (goSmall d p).m (d.L i).key:=by
  intro i hi a B b;have h1:=h.small i hi a b;have c:((d.L i).key.num-1).toNat≠q:=λe=>by rw[e]at h1;omega
  refine⟨c,b.1,b.2.1,?_⟩;have a2:=b.2.2;rw[s];by_cases e:(d.L i).key.num<=((shrink (AU d.I q 0) d.m:Nat):Int)
  .exact e
  have:=A ((d.L i).key.num-1).toNat om om;rw[Ao _ _ c]at this;omega
 have f:∀k:Vl,Ay (goSmall d p).m k->Ay d.m k:=λk g=>⟨g.1,g.2.1,by have:=g.2.2;rw[s]at this;omega⟩;refine⟨Core.T0 ⟨⟨l.Cw,l.ord,l.CI⟩,λi hi a=>?_,λi j hi hj ti t hl=>?_,λj hj=>?_,?_,λi hi a b=>?_,h.turns,by show d.live-1<=500;have:=h.le;omega⟩ ⟨h.sz,?_,h.used,h.half⟩,λi hi a hc=>?_⟩
 .obtain⟨_,e1⟩:=BQ a;have e1:(goSmall d p).L i=d.L i:=e1;rw[e1]at a ⊢;exact h.keys i hi a
 .obtain⟨_,e1⟩:=BQ ti;obtain⟨_,e2⟩:=BQ t;have e1:(goSmall d p).L i=d.L i:=e1;have e2:(goSmall d p).L j=d.L j:=e2;rw[e1]at ti hl;rw[e2]at t hl;exact h.JR i j hi hj ti t hl
 .rw[Fu,r];by_cases e:j=q
  .left;subst e;exact Au _ _ _
  rw[Ao _ _ e];rcases h.ints j om with g|⟨g1,g2,g3,g4,g5⟩
  .exact .inl g
  right;have c:(d.I j-1).toNat≠p:=λe'=>by
   have g5:(d.L (d.I j-1).toNat).key.num=j+1:=g5;rw[e']at g5;omega
  have u:(goSmall d p).at (d.I j)=d.at (d.I j):=CN c;rw[u];exact⟨g1,g2,g3,g4,g5⟩
 .rw[s,r];rcases s2 with e|e
  .exact .inl e
  right;by_cases e0:shrink (AU d.I q 0) d.m=0
  focus
   have hj:shrink (AU d.I q 0) d.m-1<d.m:=om
  rotate_left
  focus
   have hj:shrink (AU d.I q 0) d.m-1<d.m:=om
  all_goals
   by_cases e1:shrink (AU d.I q 0) d.m-1=q
   .rw[e1,Au]at e;exact absurd rfl e
   rw[Ao _ _ e1]at e ⊢;rcases h.ints _ hj with g|g
   .exact absurd g e
   exact g.1
 .obtain⟨e0,e1⟩:=BQ a;have e1:(goSmall d p).L i=d.L i:=e1;rw[e1]at a b ⊢;have o:=f _ b;rw[r,Ao _ _ (still i hi a e0 o).1];exact h.small i hi a o
 .refine h.idx.congr (λi=>?_) λi hi=>?_
  .rw[TU];constructor
   .rintro⟨g1,g2,g3⟩;obtain⟨e0,e1⟩:=BQ g2;have e1:(goSmall d p).L i=d.L i:=e1;rw[e1]at g2 g3;exact⟨g1,g2,λg=>g3 (still i g1 g2 e0 g).2⟩
   rintro⟨g1,g2,g3⟩;have c:i≠p:=λe=>by subst e;exact g3 ⟨k1,k2,k3⟩
   have e1:(goSmall d p).L i=d.L i:=CN c;rw[e1];exact⟨g1,g2,λg=>g3<|f _ g⟩
  have c:i≠p:=λe=>by subst e;exact hi.2.2 ⟨k1,k2,k3⟩
  rw[show(goSmall d p).L i=d.L i from CN c]
 obtain⟨e0,e1⟩:=BQ a;have e1:(goSmall d p).L i=d.L i:=e1;rw[e1]at a hc;rw[s]at hc;by_cases e:shrink (AU d.I q 0) d.m=d.m
 .rw[e]at hc;exact hn i hi a hc
 have b:Ay d.m (d.L i).key:=⟨hc.1,om,om⟩;have:=(still i hi a e0 b).2.2.2;omega
def DW(d:Dc)(p s:Nat):Dc:={Iz d p with X:=AU d.X s (-1)}
def VJ(q:KeyLaw K hf)(h:BN K hf d)(hn:Next d)(hp:p<d.n)(r:(d.L p).turn≠0)(hs:¬Ay d.m (d.L p).key){s}(k:s<d.x)(t:d.X s=p+1):BN K hf (DW d p s)/\Next (DW d p s):=by
 have b:=QH q h.log hp r;have c:B1 (AU d.X s (-1)) d.x=B1 d.X d.x:=Gm (λj hj=>by
  by_cases e:j=s
  .subst e;rw[Au];constructor<;>intro g<;>omega
  rw[Ao _ _ e])
 refine⟨Core.T0 ⟨⟨b.Cw,b.ord,b.CI⟩,λi hi a=>?_,λi j hi hj ti l hl=>?_,λj hj=>?_,h.last,λi hi a f=>?_,h.turns,by show d.live-1<=500;have:=h.le;omega⟩ ⟨h.sz,?_,?_,?_⟩,λi hi a hc=>?_⟩
 .obtain⟨_,e1⟩:=BQ a;have e1:(DW d p s).L i=d.L i:=e1;rw[e1]at a ⊢;exact h.keys i hi a
 .obtain⟨_,e1⟩:=BQ ti;obtain⟨_,e2⟩:=BQ l;have e1:(DW d p s).L i=d.L i:=e1;have e2:(DW d p s).L j=d.L j:=e2;rw[e1]at ti hl;rw[e2]at l hl;exact h.JR i j hi hj ti l hl
 .rcases h.ints j hj with g|⟨g1,g2,g3,g4,g5⟩
  .exact .inl g
  right;have hj:j<d.m:=hj;have o:(d.I j-1).toNat≠p:=λe'=>by
   have g4:(d.L (d.I j-1).toNat).key.kind=2:=g4;have g5:(d.L (d.I j-1).toNat).key.num=j+1:=g5;rw[e']at g4 g5;exact hs ⟨g4,om,om⟩
  have u:(DW d p s).at (d.I j)=d.at (d.I j):=CN o;show 0<d.I j/\d.I j<=d.n/\((DW d p s).at<|d.I j).turn≠0/\((DW d p s).at<|d.I j).key.kind=2/\((DW d p s).at<|d.I j).key.num=j+1;grind
 .obtain⟨e0,e1⟩:=BQ a;have e1:(DW d p s).L i=d.L i:=e1;rw[e1]at a f ⊢;exact h.small i hi a f
 .refine(h.idx.leave k om).congr (λi=>?_) λi hi=>?_
  .rw[TU];constructor
   .rintro⟨g1,g2,g3⟩;obtain⟨e0,e1⟩:=BQ g2;have e1:(DW d p s).L i=d.L i:=e1;rw[e1]at g2 g3;exact⟨⟨g1,g2,g3⟩,om⟩
   rintro⟨⟨g1,g2,g3⟩,g4⟩;have e1:(DW d p s).L i=d.L i:=CN om;rw[e1];exact⟨g1,g2,g3⟩
  rw[show(DW d p s).L i=d.L i from CN (oS hi.2)]
 .show(B1 (AU d.X s (-1)) d.x:Int)=d.used;rw[c];exact h.used
 .show 2*B1 (AU d.X s (-1)) d.x<=d.x;rw[c];exact h.half
 obtain⟨e0,e1⟩:=BQ a;have e1:(DW d p s).L i=d.L i:=e1;rw[e1]at a hc;exact hn i hi a hc
end
open Classical in
noncomputable def Hj(hf:Vl->Nat)(d:Dc)(p:Nat):Dc:=
 if Ay d.m (d.L p).key then goSmall d p
 else match A5 d (d.L p).key (hf (d.L p).key)with
  |none=>d
  |some s=>DW d p s
noncomputable def aE(hf:Vl->Nat)(d:Dc)(p:Nat):Dc:=Ap hf<|Hj hf d p
def Ju(h:Ay d.m (d.L p).key):Hj hf d p=goSmall d p:=C3 h
def KK(h:¬Ay d.m (d.L p).key)(e:A5 d (d.L p).key (hf (d.L p).key)=some s):Hj hf d p=DW d p s:=by
 unfold Hj;rw[Cs h,e]
section
variable {K:Vl->Prop} {hf:Vl->Nat} {d:Dc} {p:Nat}
def E7(b:KeyLaw K hf)(h:BN K hf d)(hn:Next d)(hp:p<d.n)(a:(d.L p).turn≠0):BN K hf (Hj hf d p)/\Next (Hj hf d p)/\(Hj hf d p).n=d.n/\(Hj hf d p).L=AU d.L p default/\(Hj hf d p).live=d.live-1/\(Hj hf d p).turns=d.turns:=by
 by_cases hs:Ay d.m (d.L p).key
 .rw[Ju hs];obtain⟨g1,g2⟩:=TL b h hn hp a hs;exact⟨g1,g2,rfl,rfl,rfl,rfl⟩
 obtain⟨s,h1,h2,h3⟩:=h.found b (h.keys p hp a) ⟨hp,a,hs⟩<|b.refl _<|h.keys p hp a;rw[KK hs h3];obtain⟨g1,g2⟩:=VJ b h hn hp a hs h1 h2;exact⟨g1,g2,rfl,rfl,rfl,rfl⟩
theorem jB(a:KeyLaw K hf)(h:Inv K hf d)(hp:p<d.n)(b:(d.L p).turn≠0):Inv K hf<|aE hf d p:=by
 obtain⟨g1,g2,g3,g4,g5,g6⟩:=E7 a h.i0 h.next hp b;obtain⟨c1,c2,c3,c4⟩:=BO g1.core;refine⟨DJ g1,DZ g1.core g2,?_⟩;rw[aX,aE];rw[c1];omega
end
def Jf(d:Dc)(p:Nat)(v:Vl):Dc:={d with L:=AU d.L p ⟨(d.L p).key,v,(d.L p).turn⟩}
section
variable {K:Vl->Prop} {hf:Vl->Nat} {d:Dc} {p:Nat} {v:Vl}
theorem Gj i:((Jf d p v).L i).key=(d.L i).key:=by
 show(AU d.L p _ i).key=_;grind [Au,Ao]
theorem DP i:((Jf d p v).L i).turn=(d.L i).turn:=by
 show(AU d.L p _ i).turn=_;grind [Au,Ao]
theorem eW(h:Inv K hf d)(hp:p<d.n)(m:(d.L p).turn≠0)(q:v.ok=true)(o:v.kind≠0):Inv K hf<|Jf d p v:=by
 have b:=h.i0;refine⟨Core.T0 ⟨⟨λi hi=>?_,λi j k hj ti l=>?_,?_⟩,λi hi a=>?_,λi j hi hj ti l hl=>?_,λj hj=>?_,b.last,λi hi a f=>?_,b.turns,b.le⟩ ⟨b.sz,?_,b.used,b.half⟩,λi hi a hc=>?_,h.tight⟩
 .by_cases e:i=p
  .subst e;rcases b.log.Cw i hi with g|g
   .exact absurd g.1 m
   right;grind [show(Jf d i v).L i=⟨(d.L i).key,v,(d.L i).turn⟩from Au _ _ _,Jf]
  have:=b.log.Cw i hi;unfold Entry at this ⊢;rw[show(Jf d p v).L i=d.L i from Ao _ _ e];exact this
 .rw[DP]at ti l ⊢;rw[DP];exact b.log.ord i j k hj ti l
 .show((AW (Jf d p v) d.n).length:Int)=d.live;rw[Kn (c:=d) d.n (λi _=>by rw[DP])];exact b.log.CI
 .rw[DP]at a;rw[Gj];exact b.keys i hi a
 .grind [Jf,DP,Gj,BN.JR]
 .have:=b.ints j hj;unfold Fu Dc.at at this ⊢;rw[DP,Gj];exact this
 .rw[DP]at a;rw[Gj]at f ⊢;exact b.small i hi a f
 .refine b.idx.congr (λi=>?_) λi _=>Gj i;rw[TU,DP,Gj];exact Iff.rfl
 rw[DP]at a;rw[Gj]at hc;exact h.next i hi a hc
end
open Classical in
noncomputable def Ce(hf:Vl->Nat)(d:Dc)(k v:Vl):Dc:=
 if 0<=Aw d k (hf k)then(if v.kind=0 then aE hf d (Aw d k<|hf k).toNat else Jf d (Aw d k<|hf k).toNat v)
 else if v.kind≠0/\d.live<500/\d.turns<1000000000000 then IX hf d k v else d
def Nz{k v}(h:0<=Aw d k (hf k))(a:v.kind=0):Ce hf d k v=aE hf d (Aw d k<|hf k).toNat:=by
 unfold Ce;rw[C3 h,C3 a]
def K8{k v}(h:0<=Aw d k (hf k))(a:v.kind≠0):Ce hf d k v=Jf d (Aw d k<|hf k).toNat v:=by
 unfold Ce;rw[C3 h,Cs a]
def G8{k v}(h:¬0<=Aw d k (hf k))(a:v.kind≠0/\d.live<500/\d.turns<1000000000000):Ce hf d k v=IX hf d k v:=by
 unfold Ce;rw[Cs h,C3 a]
theorem G9{k v}(h:¬0<=Aw d k (hf k))(a:¬(v.kind≠0/\d.live<500/\d.turns<1000000000000)):Ce hf d k v=d:=by
 unfold Ce;rw[Cs h,Cs a]
def Jb{k v}(a:KeyLaw K hf)(h:Inv K hf d)(hk:K k)(b:Cc k=true)(c:v.ok=true):Inv K hf<|Ce hf d k v:=by
 rcases h.i0.place a hk with⟨i,h1,h2,h3,h4⟩|⟨h1,h2⟩;all_goals grind [Ce,Aw,jB,eW,Yx,G9,Core.turns,Dx.live]
end Go.Proofs.YtoobllcjfinmoaaGreatDoor
