import Derived.Test.YtkpfgniijbgkoaaGreatDoorSSAJ
set_option linter.all false
set_option maxHeartbeats 40000000
set_option maxRecDepth 100000
namespace Go.Proofs.YtkpfgniijbgkoaaGreatDoor
open Go.Proofs.Tryz
open Go.RowKit
attribute [local go_sem] AB Aw CU
variable {s:AE}{B0 t c g ab b n rb l B cp i lo hi tc:Nat}{A:Nat->Ad}{vT vN vS vU v vF:V9}{w w' W W' w1 w2:Y}{Z O':Nat->Prop}{x:Tb}{a:Ac}{f:Nat->Si}{H:Nat->Hs}{ta sa fa:Option Addr}{e:Ending}
def WM{Bk}{A}(hf:Ar s.nf s.F=0)(c:Qo s<|s.T t)n:
  (AX Bk A (s.T t)=.iface 153 (Le A<|s.T t)/\∃b,∀w,Y1 w s B0 Bk A (s.T t)->C9 226 #[Le A (s.T t),J n] w (R9 (qD b<|(RL s t).next n) w))\/
  (∃p,AX Bk A (s.T t)=.iface 156 (CK p A<|s.T t)/\∃b,∀w,Y1 w s B0 Bk A (s.T t)->C9 249 #[CK p A (s.T t),J n] w (R9 (qD b<|(RL s t).next n) w)):=by
 rcases c.way with⟨h1,h2,h3⟩|⟨j,h1,h2,h3,h4,h5⟩
 .refine .inl ⟨DD h1,(LM (s.T t).d n).1,λw a=>?_⟩;rw[gO h1 h3];exact Ma A (s.T t) n a.tb a.d c.small c.wf<|Ft h3
 refine .inr ⟨Bk j,?_,SP s j (s.T t) n,λw a=>?_⟩
 .unfold AX;rw[C3 om,h1];rfl
 rw[Xk h1];exact NQ A (s.T t) j n a.nd hf h2 h3 a.v
def Ih(c g ab t:Nat)(vT a:V9)(n:Int)(W:Y):Prop:=W.cell? (G c 1)=some vT/\W.cell? (G g t)=some a/\W.cell? (G ab 1)=some (J (t:Int))/\W.cell? (G ab 3)=some (J n)
def Ih.keep{b}{n}(h:Ih c g ab t vT b n w)(hc:w'.heap[c]?=w.heap[c]?)(e:w'.heap[g]?=w.heap[g]?)(d:w'.heap[ab]?=w.heap[ab]?):Ih c g ab t vT b n w':=by
 obtain⟨h1,h2,h3,h4⟩:=h;exact⟨(As (a:=G c 1) hc).trans h1,(As (a:=G g t) e).trans h2,(As (a:=G ab 1) d).trans h3,(As (a:=G ab 3) d).trans h4⟩
theorem dX b p w:(Instr.field 170 (qD b p) 1).run prog w=.ok (.agg (DA p).toArray) w:=ou
def jM(hb:w.heap[b]?=some (.cells uA.toArray 168 (0,0)))p:∃w',(Instr.storeAt 168 (Q9 b)<|.agg (DA p).toArray).run prog w=.ok () w'/\Bu w w' b (DA p).toArray 168:=
 BP (old:=uA) (vs:=DA p) YT hb rfl rfl (EZ p) rfl
def qN(p:Pr):An:=⟨0,p.turn,p.key,p.val⟩
attribute [local go_sem] dX
def XI{Bk}(a:Ac)t{w}(I:Bg Z w c B0 vN vT vS vU Bk A s)(hf:Ar s.nf s.F=0)(hx:Qo s<|s.T t)(hT:BZ w)(et:a.t=t)(ht:t<s.nt)(ai:s.nt<=100):
  C9 53 #[Q9 c,I5 a] w (R9 (.tuple #[H9 (qN<|(RL s t).next a.n),CP 0]) w):=by
 obtain⟨g,cp,hv,S,aj,L,U⟩:=I.CA ht;subst hv;obtain⟨W,hW,q,hA,hR,hz⟩:=boxes w a;have V:=I.lt;have M:=(I.xD hT ht).below q;have f:∀X,AX Bk (A t) (s.T t)=X->Ih c g w.heap.size t (S9 g s.nt cp) X a.n W.drew:=λX e=>by
  obtain⟨a0,a1,a2,a3,_⟩:=hA.all;rw[et]at a1;exact⟨(q.cell (p:=G c 1) V).trans I.cells.2.1,(q.cell (p:=G g t) S).trans<|L.trans<|by rw[e],a1,a3⟩
 rcases O f,O<|WM (B0:=B0) (Bk:=Bk) (A:=A t) hf hx a.n,qa ((RL s t).next a.n) with⟨ad,P,⟨p,hp⟩⟩;rw[<-hp]at P ⊢;clear I hA f hf hx hT L U et hp;go_enter func53,ntmps53;go_wp2_with fail;rw[<-hW];clear hW;rcases z P with⟨C,fb,hC⟩|⟨pn,C,fb,hC⟩
 case' inl=>refine DL (Ih c g w.heap.size t (S9 g s.nt cp) (.iface 153<|Le (A t)<|s.T t) a.n) ou ?_
 case' inr=>refine DL (Ih c g w.heap.size t (S9 g s.nt cp) (.iface 156<|CK pn (A t)<|s.T t) a.n) ou ?_
 all_goals
  have f:=z ad _ C;have HC:=O hC;clear hC C;change wpAnyH _ _ _ _ _ _ _ _ (World.drew _);refine tz 0 (h:=tz 1 (h:=tz 2 (h:=tz 3 (h:=tz 4 (h:=tz 5 (h:=tz 6 (h:=tz 7 (h:=tz 8 (h:=tz 9 (h:=tz 10 (h:=?_)))))))))));refine Aaz (rs:=[11,13]) ou oq ?_;refine OK rfl (λK hK=>?_) (OK rfl (λK hK=>?_) Aay)
  focus
   go_simp;refine(HC _<|M.below (BE _ _).drew).mono ?_;rintro e w3 ⟨rfl,d⟩;have d:B9 W w3:=Below.trans (BE _ _).drew d;have i:=f.keep (d.block c om) (d.block g om)<|d.block w.heap.size om;have z3:=d.size;have u:Ih c g w.heap.size t _ _ a.n<|w3.alloc<|.cells uA.toArray 168:=i.keep (E1 _ _ _ om) (E1 _ _ _ om)<|E1 _ _ _ om;have j:Ih c g w.heap.size t _ _ a.n<|w3.alloc<|.cells (DA p).toArray 168:=i.keep (E1 _ _ _ om) (E1 _ _ _ om)<|E1 _ _ _ om;have ae:=O d;refine hK.out _ _ i λ_=>?_;clear hK K f d;refine tz 12 (h:=?_);refine ry 13 λK hK=>?_;go_simp;refine hK.out _ _ u λ_=>?_;clear hK K;refine ry 14 λK hK=>?_;refine BK rfl rfl _ (Qa w3 p) ?_;refine hK.out _ _ j λ_=>?_;clear hK K;refine FI ?_;obtain⟨w4,D,_,_,b⟩:=Ll w3<|.cells (DA p).toArray 168;have E:B9 W w4:=by rw[D];exact ae.alloc z3 _
   rw[<-D];obtain⟨l,r⟩:=qa w3.heap.size;rw[<-r]at b ⊢;clear D i u j r
  rotate_left
  focus
   go_simp;have m:B9 W (W.alloc<|.cells uA.toArray 168).drew:=(n9).drew;have v:Ih c g w.heap.size t _ _ a.n (W.alloc<|.cells uA.toArray 168).drew:=f.keep (m.block c om) (m.block g om)<|m.block w.heap.size om;refine hK.out _ _ v λ_=>?_;clear hK K;refine ry 11 λK hK=>?_;go_simp;refine(HC _<|M.below m).mono ?_;rintro e w3 ⟨rfl,d⟩;have k:=o9 m d;have Q:=(d.block _ oq).trans<|DO W _;have i:=f.keep (k.block c om) (k.block g om)<|k.block w.heap.size om;obtain⟨w4,x,o⟩:=jM Q p;rcases i.keep (o.other c om) (o.other g om) (o.other w.heap.size om),o.BH,o.below k<|Be _,O x with⟨j,b,E,R⟩;refine hK.out _ _ i λ_=>?_;clear hK K f d k m v x o Q;refine tz 12 (h:=?_);refine ry 14 λK hK=>?_;refine BK rfl rfl _ R ?_;refine hK.out _ _ j λ_=>?_;clear hK K i j;refine FI ?_;obtain⟨l,r⟩:=qa W.heap.size;rw[<-r]at b ⊢;clear r
  all_goals
   have p0:w4.cell? (G l 0)=some (J p.key.kind):=by rw[Hi w4 _ _ _ _ _ b];rfl
   have p1:w4.cell? (G l 1)=some (J p.key.num):=by rw[Hi w4 _ _ _ _ _ b];rfl
   have p2:w4.cell? (G l 2)=some (F9 p.key.Ah):=by rw[Hi w4 _ _ _ _ _ b];rfl
   have p3:w4.cell? (G l 3)=some (.string p.key.str):=by rw[Hi w4 _ _ _ _ _ b];rfl
   have p4:w4.cell? (G l 4)=some (J p.key.ref):=by rw[Hi w4 _ _ _ _ _ b];rfl
   have p5:w4.cell? (G l 5)=some (J p.val.kind):=by rw[Hi w4 _ _ _ _ _ b];rfl
   have p6:w4.cell? (G l 6)=some (J p.val.num):=by rw[Hi w4 _ _ _ _ _ b];rfl
   have p7:w4.cell? (G l 7)=some (F9 p.val.Ah):=by rw[Hi w4 _ _ _ _ _ b];rfl
   have p8:w4.cell? (G l 8)=some (.string p.val.str):=by rw[Hi w4 _ _ _ _ _ b];rfl
   have p9:w4.cell? (G l 9)=some (J p.val.ref):=by rw[Hi w4 _ _ _ _ _ b];rfl
   have sR:w4.cell? (G l 10)=some (J p.turn):=by rw[Hi w4 _ _ _ _ _ b];rfl
   obtain⟨w5,B,H⟩:=BL (hR.below E om)<|qN p;rcases O B,O H,O (H.BH) with⟨af,ag,ah⟩;clear B H b;go_wp2_with (refine Af rfl rfl _ af ?_);refine G9 results53 underlying40 ah ⟨rfl,?_⟩;exact ag.below (o9 q E) om
noncomputable def WX(x:Tb):Int:=if x.shape=-1 then Ge x.d else 0
def Wh(x:Tb):Int:=if x.shape=-1 then x.d.live else x.nv
def MU p A t w:C9 253 #[CK p A t] w<|R9 (J 0) w:=by
 go_enter func253,ntmps253;go_wp2;go_ret;exact⟨rfl,n9⟩
def NR p A t w:C9 250 #[CK p A t] w<|R9 (J (t.nv:Int)) w:=by
 go_enter func250,ntmps250;go_wp2;go_ret;exact⟨rfl,n9⟩
def Mb A t w:C9 227 #[Le A t] w<|R9 (J t.d.live) w:=by
 go_enter func227,ntmps227;go_wp2;go_ret;exact⟨rfl,n9⟩
def La A t{w}(f:BZ w)(hA:FJ w A.la A.ia A.xa t.d)(g:Small t.d)(a:M9 t.d)(h:BI t.d (hD t.d)=0):C9 230 #[Le A t] w<|R9 (J<|Ge t.d) w:=by
 have hb:∀o,B9 w<|w.alloc o:=λo=>n9;have j:Hid<|∀o,C9 236 #[Dv A.la A.lc A.ia A.ic A.xa A.xc t.d] (w.alloc o) λe w'=>e=.returned (J<|Ge t.d)/\Below (w.alloc o).heap.size (w.alloc o) w':=O λo=>eZ A.lc A.ic A.xc (Bb _ _ f<|hb o) (hA.below<|hb o) g a h;have i:=O hb;clear f hA g a hb h;go_enter func230,ntmps230;go_wp2_with fail;refine(j _).mono ?_;rintro e w1 ⟨rfl,b⟩;have c:=O<|o9 (i _) b;clear b;go_wp2;go_ret;exact⟨rfl,c⟩
def fK{Bk}{A}(a:Qo s x):
  (AX Bk A x=.iface 153 (Le A x)/\∀w,Y1 w s B0 Bk A x->C9 230 #[Le A x] w (R9 (J<|WX x) w))\/
  (∃p,AX Bk A x=.iface 156 (CK p A x)/\∀w,Y1 w s B0 Bk A x->C9 253 #[CK p A x] w (R9 (J<|WX x) w)):=by
 rcases a.way with⟨h1,h2,h3⟩|⟨j,h1,h2,h3,h4,h5⟩
 .have e:WX x=Ge x.d:=DD h1;rw[e];exact .inl ⟨DD h1,λw b=>La A x b.tb b.d a.small a.wf<|Ft h3⟩
 have e:WX x=0:=C3 om;rw[e];refine .inr ⟨Bk j,?_,λw b=>MU (Bk j) A x w⟩;unfold AX;rw[C3 om,h1];rfl
def VH{Bk}(a:Ac)t{w}(m:Bg Z w c B0 vN vT vS vU Bk A s)(M:Qo s<|s.T t)(P:BZ w)(et:a.t=t)(Q:t<s.nt)(U:s.nt<=100):
  C9 54 #[Q9 c,I5 a] w (R9 (.tuple #[H9 (Dx<|WX<|s.T t),CP 0]) w):=by
 obtain⟨g,cp,V,u,X,n,v⟩:=m.CA Q;subst V;obtain⟨W,R,d,hA,hR,hz⟩:=boxes w a;have x:=m.lt;have B:=(m.xD P Q).below d;have f:∀C,AX Bk (A t) (s.T t)=C->IU c g w.heap.size t (S9 g s.nt cp) C a.k W.drew:=λC e=>by
  obtain⟨a0,a1,a2,a3,a4,a5,a6,a7,a8,a9⟩:=hA.all;rw[et]at a1;exact⟨(d.cell (p:=G c 1) x).trans m.cells.2.1,(d.cell (p:=G g t) u).trans<|n.trans<|by rw[e],a1,a4,a5,a6,a7,a8⟩
 have D:=O f;have E:=O<|fK (B0:=B0) (Bk:=Bk) (A:=A t) M;clear m hA f M P n v et;go_enter func54,ntmps54;go_wp2_with fail;rw[<-R];clear R;rcases z E with⟨o,S⟩|⟨p,o,S⟩
 case' inl=>refine DL (IU c g w.heap.size t (S9 g s.nt cp) (.iface 153<|Le (A t)<|s.T t) a.k) ou ?_
 case' inr=>refine DL (IU c g w.heap.size t (S9 g s.nt cp) (.iface 156<|CK p (A t)<|s.T t) a.k) ou ?_
 all_goals
  have f:=z D _ o;have HC:=O S;change wpAnyH _ _ _ _ _ _ _ _ (World.drew _);refine tz 0 (h:=tz 1 (h:=tz 2 (h:=tz 3 (h:=tz 4 (h:=tz 5 (h:=tz 6 (h:=tz 7 (h:=tz 8 (h:=?_)))))))));refine ry 9 λK hK=>?_;go_simp;refine(HC _<|B.below (BE _ _).drew).mono ?_;rintro e w3 ⟨rfl,b⟩;have b:B9 W w3:=Below.trans (BE _ _).drew b;have q:=f.keep (b.block c om) (b.block g om)<|b.block w.heap.size om;obtain⟨F,l⟩:=qa<|WX<|s.T t;rw[<-l];have H:=O l;clear l;obtain⟨w4,j,i⟩:=BL (hR.below b om)<|Dx F;have r:=q.keep (i.other c om) (i.other g om)<|i.other w.heap.size om;have I:=O j;refine hK.out _ _ q λ_=>?_;clear hK K f j;refine tz 10 (h:=?_);refine ry 11 λK hK=>?_;refine BK rfl rfl _ I ?_;refine hK.out _ _ r λad=>?_;clear hK K;refine tz 12 (h:=?_);refine FI ?_;have L:=O<|i.BH;go_wp2_with fail;refine G9 results54 underlying40 L ⟨(ql H),?_⟩;exact i.below (o9 d b) om
def fJ{Bk}{A}(a:Qo s x):
  (AX Bk A x=.iface 153 (Le A x)/\∀w,Y1 w s B0 Bk A x->C9 227 #[Le A x] w (R9 (J<|Wh x) w))\/
  (∃p,AX Bk A x=.iface 156 (CK p A x)/\∀w,Y1 w s B0 Bk A x->C9 250 #[CK p A x] w (R9 (J<|Wh x) w)):=by
 rcases a.way with⟨h1,h2,h3⟩|⟨j,h1,h2,h3,h4,h5⟩
 .have e:Wh x=x.d.live:=DD h1;rw[e];exact .inl ⟨DD h1,λw b=>Mb A x w⟩
 have e:Wh x=(x.nv:Int):=C3 om;rw[e];refine .inr ⟨Bk j,?_,λw b=>NR (Bk j) A x w⟩;unfold AX;rw[C3 om,h1];rfl
def XJ{Bk}(a:Ac)t{w}(m:Bg Z w c B0 vN vT vS vU Bk A s)(M:Qo s<|s.T t)(P:BZ w)(et:a.t=t)(Q:t<s.nt)(U:s.nt<=100):
  C9 55 #[Q9 c,I5 a] w (R9 (.tuple #[H9 (Dx<|Wh<|s.T t),CP 0]) w):=by
 obtain⟨g,cp,V,u,X,n,v⟩:=m.CA Q;subst V;obtain⟨W,R,d,hA,hR,hz⟩:=boxes w a;have x:=m.lt;have B:=(m.xD P Q).below d;have f:∀C,AX Bk (A t) (s.T t)=C->IU c g w.heap.size t (S9 g s.nt cp) C a.k W.drew:=λC e=>by
  obtain⟨a0,a1,a2,a3,a4,a5,a6,a7,a8,a9⟩:=hA.all;rw[et]at a1;exact⟨(d.cell (p:=G c 1) x).trans m.cells.2.1,(d.cell (p:=G g t) u).trans<|n.trans<|by rw[e],a1,a4,a5,a6,a7,a8⟩
 have D:=O f;have E:=O<|fJ (B0:=B0) (Bk:=Bk) (A:=A t) M;clear m hA f M P n v et;go_enter func55,ntmps55;go_wp2_with fail;rw[<-R];clear R;rcases z E with⟨o,S⟩|⟨p,o,S⟩
 case' inl=>refine DL (IU c g w.heap.size t (S9 g s.nt cp) (.iface 153<|Le (A t)<|s.T t) a.k) ou ?_
 case' inr=>refine DL (IU c g w.heap.size t (S9 g s.nt cp) (.iface 156<|CK p (A t)<|s.T t) a.k) ou ?_
 all_goals
  have f:=z D _ o;have HC:=O S;change wpAnyH _ _ _ _ _ _ _ _ (World.drew _);refine tz 0 (h:=tz 1 (h:=tz 2 (h:=tz 3 (h:=tz 4 (h:=tz 5 (h:=tz 6 (h:=tz 7 (h:=tz 8 (h:=?_)))))))));refine ry 9 λK hK=>?_;go_simp;refine(HC _<|B.below (BE _ _).drew).mono ?_;rintro e w3 ⟨rfl,b⟩;have b:B9 W w3:=Below.trans (BE _ _).drew b;have q:=f.keep (b.block c om) (b.block g om)<|b.block w.heap.size om;obtain⟨F,l⟩:=qa<|Wh<|s.T t;rw[<-l];have H:=O l;clear l;obtain⟨w4,j,i⟩:=BL (hR.below b om)<|Dx F;have r:=q.keep (i.other c om) (i.other g om)<|i.other w.heap.size om;have I:=O j;refine hK.out _ _ q λ_=>?_;clear hK K f j;refine tz 10 (h:=?_);refine ry 11 λK hK=>?_;refine BK rfl rfl _ I ?_;refine hK.out _ _ r λad=>?_;clear hK K;refine tz 12 (h:=?_);refine FI ?_;have L:=O<|i.BH;go_wp2_with fail;refine G9 results55 underlying40 L ⟨(ql H),?_⟩;exact i.below (o9 d b) om
section
attribute [local go_sem] Ye
def FK(Z:Nat->Prop)(c B0:Nat)(vN vT vS:V9)(s':AE)(x0:An)(w:Y)(e:Ending)(w':Y):Prop:=
 ∃x d a BT B1 b,e=.returned (.tuple #[H9 x,CP d])/\BB (AD B0 c vN vT vS w) w (AD B0 c a BT B1 w') w'/\
  ((d=0/\x=x0/\∃f A',Bg Z w' c B0 a BT B1 b f A' s')\/(d≠0/\x0=BD d/\Qv Z w' c B0 a BT B1 b s'))
section
variable {Z:Nat->Prop} {w w2 w3 w4:Y} {c B0:Nat} {vN vT vS vU:V9} {Bk:Nat->Nat} {A:Nat->Ad} {s:AE} {t:Nat} {k v:Vl} {e:Ending}
def FK.read(a:Bg Z w c B0 vN vT vS vU Bk A s)(hb:B9 w w2)x:FK Z c B0 vN vT vS s x w (.returned<|.tuple #[H9 x,CP 0]) w2:=by
 obtain⟨m1,d1⟩:=a.below hb;grind [FK,CP]
def XV.uU(a:BB (AD B0 c vN vT vS w) w (AD B0 c vN vT vS w2) w2)(h:XV (ZB Z w.heap.size l) c B0 vN vT vS s t k v w2 e w3)(b:B0<=w.heap.size)(d:w.heap.size<=rb)(hz:rb<l)(m:IV w3 rb)(f:Bu w3 w4 rb (Mx<|BD 0).toArray 40):FK Z c B0 vN vT vS (Ci s t k v) (BD<|Ct s t k v) w (.returned<|.tuple #[H9 (BD 0),CP (Ct s t k v)]) w4:=by
 obtain⟨g,BT,B1,i,_,n,h⟩:=h;rcases h with⟨e1,j,A',m3⟩|⟨e1,u3⟩
 .obtain⟨f1,f2⟩:=m3.KQ (a.trans n) b d hz m f;exact⟨BD 0,_,g,BT,B1,i,rfl,f2,.inl ⟨e1,by rw[e1],j,A',f1⟩⟩
 obtain⟨f1,f2⟩:=u3.KQ (a.trans n) b d hz m f;exact⟨BD 0,_,g,BT,B1,i,rfl,f2,.inr ⟨e1,rfl,f1⟩⟩
end
def Mm(ab:Nat)(t:Int)(k v:Vl)(W:Y):Prop:=W.cell? (G ab 1)=some (J t)/\W.cell? (G ab 4)=some (J k.kind)/\W.cell? (G ab 5)=some (J k.num)/\W.cell? (G ab 6)=some (F9 k.Ah)/\W.cell? (G ab 7)=some (.string k.str)/\W.cell? (G ab 8)=some (J k.ref)/\W.cell? (G ab 9)=some (J v.kind)/\W.cell? (G ab 10)=some (J v.num)/\W.cell? (G ab 11)=some (F9 v.Ah)/\W.cell? (G ab 12)=some (.string v.str)/\W.cell? (G ab 13)=some (J v.ref)
def Mm.keep{t}{k v}(h:Mm ab t k v W)(h1:W'.heap[ab]?=W.heap[ab]?):Mm ab t k v W':=by
 have e:∀q,W'.cell? (G ab q)=W.cell? (G ab q):=λq=>As (a:=G ab q) h1;grind [Mm]
def kH{Bk}(a:Ac)(t:Nat){w}(B:Bg Z w c B0 vN vT vS (N9) Bk A s)(T:Kl s)(U:BZ w)(et:a.t=t)(ht:t<s.nt)(hk:Ky<|CZ a.k)(V:a.v.ok=true)(C:M5 (CZ a.k) a.v)(D:5<=B0):
  C9 51 #[Q9 c,I5 a] w λe w'=>FK Z c B0 vN vT vS (Ci s t (CZ a.k) a.v) (BD<|Ct s t (CZ a.k) a.v) w e w':=by
 obtain⟨W,X,l,hA,hR,hz⟩:=boxes w a;obtain⟨hE,p⟩:=B.enter l;have q:Mm w.heap.size (t:Int) a.k a.v W.drew:=by
  obtain⟨a0,a1,a2,a3,a4,a5,a6,a7,a8,a9,E,F,a12,H⟩:=hA.all;rw[et]at a1;exact⟨a1,a4,a5,a6,a7,a8,a9,E,F,a12,H⟩
 obtain⟨g,b⟩:=qa<|CZ a.k;have I:Hid<|∀w2,B9 W w2->C9 97 #[Q9 c,J (t:Int),Ga g,Ga a.v] w2 λe w3=>e=.returned (CP<|Ct s t g a.v)/\w3.heap[w.heap.size]?=w2.heap[w.heap.size]?/\IV w3 (w.heap.size+1)/\∀w4,Bu w3 w4 (w.heap.size+1) (Mx<|BD 0).toArray 40->FK Z c B0 vN vT vS (Ci s t g a.v) (BD<|Ct s t g a.v) w (.returned<|.tuple #[H9 (BD 0),CP (Ct s t g a.v)]) w4:=O (λw2 h2=>by
  obtain⟨m2,d2⟩:=hE.below h2;refine(Qj t g a.v m2 T ht (Bb _ _ U (l.trans (h2.mono om))) (by rw[b];exact hk) V (by rw[b];exact C) D).mono ?_;intro e w3 hP;obtain⟨ad,BT,B1,ae,he,hd,_⟩:=id hP;have L:=(h2.block _ om).trans hA;have r:=(h2.block _ om).trans hR;have d:IV w3 (w.heap.size+1):=(hd.boxes m2 r (.inr (.inr (.inl rfl)))).trans r;exact⟨he,hd.boxes m2 L (.inr (.inr (.inr rfl))),d,λw4 h4=>XV.uU (p.trans d2) hP B.base om om d h4⟩)
 have M:=O b;rw[<-b];have lW:w.heap.size<W.heap.size:=om;clear B T U et hk V hE p hA hR l b;go_enter func51,ntmps51;go_wp2_with fail;rw[<-X];clear X;refine Hx (Mm w.heap.size (t:Int) a.k a.v) ?_;refine tz 0 (h:=tz 1 (h:=tz 2 (h:=tz 3 (h:=tz 4 (h:=tz 5 (h:=tz 8 (h:=tz 9 (h:=?_))))))));refine ry 6 λK hK=>?_;go_simp;refine m9 (Gd a.k.kind a.k.num a.k.Ah a.k.str a.k.ref _) λw2 i=>?_;have i:B9 W w2:=Below.trans (BE _ _).drew i;have m:=q.keep<|i.block _ lW;rw[EF,<-z M];obtain⟨kc,P⟩:=qa<|De a.k;rw[<-P];refine hK.out _ _ m λ_=>?_;clear hK K q;refine tz 7 (h:=?_);refine ry 10 λK hK=>?_;go_simp;refine(I _ i).mono ?_;rintro e w3 ⟨rfl,hab,d,f⟩;have u:=m.keep hab;obtain⟨cd,n⟩:=qa<|Ct s t g a.v;rw[<-n]at f ⊢;have Q:=O n;obtain⟨w4,j,o⟩:=BL d<|BD 0;have R:=f w4 o;have x:=u.keep<|o.other _ om;have S:=O j;refine hK.out _ _ u λ_=>?_;clear hK K m hab d f j n;refine ry 11 λK hK=>?_;refine BK rfl rfl _ S ?_;refine hK.out _ _ x λ_=>?_;clear hK K;refine tz 12 (h:=?_);refine FI ?_;go_wp2_with fail;refine G9 results51 underlying40 (z<|O<|o.BH) ?_;have h:=z R;rw[z Q]at h ⊢;exact h
end
theorem Tq(f:Nat->Si):∀n,∀u∈JI f n,u.oneCell'=true
 |0,u,h=>by cases h
 |n+1,u,h=>by
  rcases AaG.1 h with h|h
  .exact Tq f n u h
  simp only[Hr,List.mem_cons,AaK,or_false]at h;rcases h with h|h|h|h|h<;>(rw[h];rfl)
def Lh.news{a:Option Addr}(h:Lh w a n f):n=0\/∃d,a=some d/\∀j u,(JI f n)[j]?=some u->w.cell? (d.add j)=some u:=by
 rcases h with h|⟨b,off,e,g,hc⟩
 .exact .inl h
 refine .inr ⟨_,e,λj u hu=>?_⟩;have c:((G b off):Addr).add j=(G b<|off+j):=by unfold Addr.add;split<;>simp_all
 rw[c];have hj:j<n*5:=by grind [Lh,JI,Gu]
 obtain⟨i,r,hi,k,e⟩:∃i r,i<n/\r<5/\j=i*5+r:=⟨j/5,j%5,om,om,om⟩;subst e;rw[Om hi k]at hu;obtain⟨c0,c1,c2,c3,c4⟩:=hc i hi;rw[<-Nat.add_assoc];rcases r with _|_|_|_|_|r;all_goals first|(cases hu;assumption)|omega
def M6.news{a}(h:M6 w B (.slice a n cp) n f):n=0\/∃c,a=some c/\∀j u,(JI f n)[j]?=some u->w.cell? (c.add j)=some u:=by
 obtain⟨hl,⟨d,g⟩|⟨g',cap,cur,d,hb,e,h1,h2,h3,h4⟩⟩:=id h
 .exact .inl g
 cases d;refine .inr ⟨_,rfl,λj u hu=>?_⟩;have hj:j<n*5:=by grind [JI,Gu]
 have b:((G g' 0):Addr).add j=(G g' j):=by unfold Addr.add;split<;>simp_all
 rw[b,Lo h j hj];exact hu
def cO.of(h:M6 w B v n f):cO f n w v B w.heap.size:=by
 have b:=h.lt;obtain⟨hl,⟨c,d⟩|⟨g',cap,cur,c,hb,a,h1,h2,h3,h4⟩⟩:=h
 .exact .inl ⟨d,c⟩
 subst c;refine .inr ⟨g',cap,cap*5,λj=>(cur[j]?).getD undef,rfl,hb,(b g' rfl).2,⟨cur,a,h3,λi hi=>by simp[AaP (show i<cur.size by omega)]⟩,om,λj hj=>?_⟩;have h5:=Om (f:=f) (n:=n) (i:=j/5) (j:=j%5) om om;rw[show j/5*5+j%5=j by omega,<-h4,List.getElem?_take,DD hj,Array.getElem?_toList]at h5;show(cur[j]?).getD undef=_;rw[h5];rfl
def GV.of{f}(h:ER w B v n f)(hn:0<n):GV f n w v B w.heap.size:=by
 have b:=h.lt;obtain⟨hl,⟨c,d⟩|⟨g',cap,cur,c,hb,a,h1,h2,h3,h4⟩⟩:=id h;all_goals grind [GV,ER.in]
def IX.fD{a:Option Addr}{f}(h:IX w a n f)(hs:w.heap.size<=w'.heap.size)(hk:∀b,b<w.heap.size->w'.heap[b]?=w.heap[b]?):IX w' a n f:=by
 rcases h with h|⟨b,off,e,c,hc⟩
 .exact .inl h
 exact .inr ⟨b,off,e,A0 c hs,λi hi=>(hc i hi).keep λq=>As (a:=G b q)<|hk b c⟩
def FJ.fD{la ia xa:Option Addr}{d}(h:FJ w la ia xa d)(hs:w.heap.size<=w'.heap.size)(hk:∀b,b<w.heap.size->w'.heap[b]?=w.heap[b]?):FJ w' la ia xa d:=by
 have hi:∀{a:Option Addr} {n:Nat} {f:Nat->Int},TK w a n f->TK w' a n f:=λh=>by
  rcases h with h|⟨b,off,e,c,hc⟩
  .exact .inl h
  exact .inr ⟨b,off,e,A0 c hs,λi hi=>(As (a:=G b<|off+i)<|hk b c).trans<|hc i hi⟩
 refine⟨?_,hi h.ints,hi h.index⟩;rcases h.log with h|⟨b,off,e,c,hc⟩
 .exact .inl h
 exact .inr ⟨b,off,e,A0 c hs,λi hi=>(hc i hi).keep λq=>As (a:=G b q)<|hk b c⟩
def Rd.arg{w0}{A}{t}(c:IX w0 A.va t.nv t.V)(hD:FJ w0 A.la A.ia A.xa t.d)(hb:B9 w0 w)(f:∀k,Z k->w0.heap.size<=k):Rd Z w A t:=λw' hs hk=>by
 have a:∀b,b<w0.heap.size->w'.heap[b]?=w0.heap[b]?:=λk a=>(hk k (A0 a hb.size) λe=>oT<|f k e).trans<|hb.block k a;exact⟨c.fD (GO hb.size hs) a,hD.fD (GO hb.size hs) a⟩
def OC(a:Nat)(vN vT:V9)(W:Y):Prop:=W.cell? (G a 0)=some vN/\W.cell? (G a 1)=some vT
def Ti B0 d f nc ta tn tc{sa:Option Addr}sc Bk A s{w}(hB:B0<=w.heap.size)(V:s.ns<=50)(hn:cL w B0 (.slice d f nc) s.nf Bk)(o:Lc w s B0 Bk)(R:cT w B0 (.slice ta tn tc) s.nt Bk A s)(hS:Lh w sa s.ns s.S)(hr:∀w' (X),B9 w w'->(∀k,X k->B0<=k)->∀i,i<s.nt->Rd X w' (A i) (s.T i)):
  C9 26 #[.agg #[.slice d f nc,.slice ta tn tc],.slice sa s.ns sc] w λe w'=>(∃c vS,e=.returned (Q9 c)/\Bg (λ_=>False) w' c B0 (.slice d f nc) (.slice ta tn tc) vS N9 Bk A s)/\B9 w w':=by
 obtain⟨i0,p,r,t,u⟩:=Ok Jo;obtain⟨W,x,g,B,_⟩:=Ll w<|.cells #[.slice d f nc,.slice ta tn tc] 61;have x0:W.cell? (y w 0)=some (.slice d f nc):=by rw[x];simp[go_sem]
 have x1:W.cell? (y w 1)=some (.slice ta tn tc):=by rw[x];simp[go_sem]
 have ad:OC w.heap.size (.slice d f nc) (.slice ta tn tc) W.drew:=⟨x0,x1⟩;have C:=O<|Lh.news<|hS.below g rfl;have HF:Hid (∀a3 c3 w3,w3.ownsRow B0 57 5 (.slice a3 s.ns c3) s.ns (JI s.S s.ns)->W.drew.grownBy w3 none->(∀q,(Value.slice a3 s.ns c3).ownBlock=some q->q=w.heap.size+1)->
   OC w.heap.size (.slice d f nc) (.slice ta tn tc) w3/\OC w.heap.size (.slice d f nc) (.slice ta tn tc) (w3.alloc (.cells #[.slice d f nc,.slice ta tn tc,.slice a3 s.ns c3,N9] 117))/\Bg (λ_=>False) (w3.alloc (.cells #[.slice d f nc,.slice ta tn tc,.slice a3 s.ns c3,N9] 117)) w3.heap.size B0 (.slice d f nc) (.slice ta tn tc) (.slice a3 s.ns c3) N9 Bk A s/\B9 w (w3.alloc (.cells #[.slice d f nc,.slice ta tn tc,.slice a3 s.ns c3,N9] 117))):=O (by
  intro a3 c3 w3 h1 h2 h3;have hk:∀k,k<W.heap.size->w3.heap[k]?=W.heap[k]?:=λk hk=>h2.block k hk oq;have ae:W.heap.size<=w3.heap.size:=h2.size;have D:B9 w w3:=⟨h2.os.trans g.os,h2.tape.trans g.tape,h2.output.trans g.output,om,λk E=>(hk k om).trans<|g.block k E⟩;have b:B9 w<|w3.alloc<|.cells #[.slice d f nc,.slice ta tn tc,.slice a3 s.ns c3,N9] 117:=D.alloc om _;have F:OC w.heap.size (.slice d f nc) (.slice ta tn tc) w3:=⟨(As (a:=y w 0)<|hk w.heap.size om).trans x0,(As (a:=y w 1)<|hk w.heap.size om).trans x1⟩;obtain⟨Z,M,H,I⟩:=o;refine⟨F,⟨(As (a:=y w 0)<|E1 _ _ w.heap.size om).trans F.1,(As (a:=y w 1)<|E1 _ _ w.heap.size om).trans F.2⟩,⟨DO _ _,om,Xf hn b,⟨Z,M,H.below b,I⟩,Xf R b,NX h1 _,⟨_,_,_,rfl⟩,λk e=>e.elim,λi hi=>?_⟩,b⟩;refine hr _ _ b (λk e=>?_) i hi;rcases e with e|e
  .rcases e with e|e|e|e|⟨e,_⟩
   .omega
   .exact(hn.lt k e).1
   .exact(R.lt k e).1
   .exact(h1.lt k e).1
   exact e
  exact e.elim)
 have L:B0<=W.heap.size:=om;go_enter func26,ntmps26;go_wp2_with fail;rw[<-x];refine Hx (OC w.heap.size (.slice d f nc)<|.slice ta tn tc) ?_;refine tz 0 (h:=tz 1 (h:=?_));refine ry 2 λK hK=>?_;refine Hv _ rfl (.const N9) (.tmp 6) 27 rfl B0 57 i0 (.agg #[E9,J 0,J 0,J 0,J 0]) 5 48 underlying27 p r t u rfl oo og sa s.ns sc (JI s.S s.ns) og (Gu _ _) C (Tq _ _) od om L (w.heap.size+1) B ?_;intro a3 c3 w3 j m l;obtain⟨P,Q,n,b⟩:=z HF a3 c3 w3 j m l;have U:=O<|qp n b;refine hK.out _ _ P λ_=>?_;clear hK K j m l n b;simp only[Act.put,AaQ,AaI,AaH,XN,AaW,AaV];refine tz 3 (h:=?_);refine ry 4 λK hK=>?_;go_simp;refine hK.out _ _ Q λ_=>?_;clear hK K;refine tz 5 (h:=?_);refine FI ?_;go_wp2_with fail;refine Fs (v:=Q9 w3.heap.size) (by simp[results,results26,go_sem]) rfl ⟨⟨_,_,rfl,U.1⟩,U.2⟩
def Ml(c g ab t i:Nat)(vT a:V9)(W:Y):Prop:=W.cell? (G c 1)=some vT/\W.cell? (G g t)=some a/\W.cell? (G ab 1)=some (J (t:Int))/\W.cell? (G ab 2)=some (J (i:Int))
def Ml.keep{b}(h:Ml c g ab t i vT b w)(hc:w'.heap[c]?=w.heap[c]?)(e:w'.heap[g]?=w.heap[g]?)(d:w'.heap[ab]?=w.heap[ab]?):Ml c g ab t i vT b w':=by
 obtain⟨h1,h2,h3,h4⟩:=h;exact⟨(As (a:=G c 1) hc).trans h1,(As (a:=G g t) e).trans h2,(As (a:=G ab 1) d).trans h3,(As (a:=G ab 2) d).trans h4⟩
def jN(w:Y){vs:List Value}(a:vs.length=8)(h1:∀u∈vs,u.oneCell'=true):(Instr.storeAt 156 (Q9 w.heap.size)<|.agg vs.toArray).run prog (w.alloc<|.cells Fa 156)=.ok () (w.alloc<|.cells vs.toArray 156):=
 FG (old:=Fa.toList) EN w (qm a) a h1 rfl
def QW{Bk}(a:Ac)(t i:Nat){w}(hM:Bg Z w c B0 vN vT vS vU Bk A s)(v:Kl s)(hT:BZ w)(et:a.t=t)(C:t<s.nt)(ei:a.site=i)(hi:i<s.ns)(ca:5<=B0):
  C9 57 #[Q9 c,I5 a] w λe w'=>FK Z c B0 vN vT vS (A7 s i t) (FL<|if 0<=Bd s i t then(s.T t).V (Bd s i t).toNat else Cb s.F (s.T t) (Bz (s.S i).key)) w e w':=by
 obtain⟨X,hX⟩:=qa<|FL<|if 0<=Bd s i t then(s.T t).V (Bd s i t).toNat else Cb s.F (s.T t) (Bz (s.S i).key);rw[<-hX];have au:=O hX;clear hX;obtain⟨g,cp,bm,cb,cc,bn,bp⟩:=hM.CA C;subst bm;rcases boxes w a,hM.lt,hM.base with⟨⟨W,hW,Q,hA,hR,hz⟩,cd,R⟩;rcases hM.enter Q,v.t t C,v.ns,v.nt,v.f with⟨⟨hE,bq⟩,hx,av,br,hf⟩;have aw:0<=Bd s i t->∃q:Nat,Bd s i t=q/\q<(s.T t).nv:=λh=>by
  obtain⟨_,q,_,_,h1,h2,_⟩:=JW v hi C h;exact⟨q,h1,h2⟩
 have ak:=O<|R5 i t hE hf hi av C br hx<|v.si i hi;obtain⟨a0,a1,a2,a3,_⟩:=hA.all;rw[et]at a1;rw[ei]at a2;rcases O hR,Bb _ _ hT Q,O aw,O (UH (B0:=B0) (Bk:=Bk) (A:=A t) hf hx<|G4 (v.si i hi).1) with⟨HR,bt,ax,bu⟩;have D:Hid<|∀w3 w5 x,Bg (ZB Z w.heap.size W.heap.size) w3 c B0 vN (S9 g s.nt cp) vS vU Bk A (A7 s i t)->BB (AD B0 c vN (S9 g s.nt cp) vS w) w (AD B0 c vN (S9 g s.nt cp) vS w3) w3->IV w3 (w.heap.size+1)->Bu w3 w5 (w.heap.size+1) (Mx x).toArray 40->FK Z c B0 vN (S9 g s.nt cp) vS (A7 s i t) x w (.returned<|.tuple #[H9 x,CP 0]) w5:=O (λw3 w5 x m3 d3 hr bw=>by
  obtain⟨f1,f2⟩:=m3.KQ d3 R om om hr bw;exact⟨x,0,_,_,_,_,rfl,f2,.inl ⟨rfl,rfl,Bk,A,f1⟩⟩)
 clear hM v hT et ei hR Q bn bp hx hf aw;go_enter func57,ntmps57;go_upto_region 1 with fail
 rw[<-hW];clear hW;go_wp2_with fail;refine ak.mono ?_;rintro e w3 ⟨vs,h8,h1,rfl,ay,m3,d3⟩;rcases (d3.boxes hE hA<|.inr<|.inr<|.inr rfl),(d3.boxes hE HR<|.inr<|.inr<|.inl rfl),d3.size,Ll w3 (.cells vs.toArray 156) with⟨hab,az,z3,⟨n,aM,m,_,a6⟩⟩;have E:Hid<|(Instr.storeAt 156 (Q9 w3.heap.size)<|.agg vs.toArray).run prog (w3.alloc<|.cells Fa 156)=.ok () n:=O (by rw[aM];exact jN w3 h8 h1);obtain⟨m4,d4⟩:=m3.below m;have a7:=(bq.trans d3).trans d4;have U:IV n<|w.heap.size+1:=(m.block _ om).trans<|az.trans HR;have b1:n.cell? (y w 1)=some (J (t:Int)):=(As (a:=y w 1)<|(m.block w.heap.size om).trans hab).trans a1;have b2:n.cell? (y w 2)=some (J (i:Int)):=(As (a:=y w 2)<|(m.block w.heap.size om).trans hab).trans a2;have a8:=O ay;have bx:=O a6;have bz:Hid<|BZ n:=O (by
  have h3:=bt.below (B:=B0) ⟨d3.os,d3.tape,d3.output,d3.size,λq hq=>d3.block q om (λe=>oT (hE.IC e).1)⟩ om;exact Bb _ _ h3 m)
 obtain⟨fi,o⟩:=qa<|Bd s i t;rw[<-o]at a8 ax ⊢;clear m3 d3 hab az m a6 aM d4 ay a0 a1 a2 a3;by_cases H:0<=fi
 .obtain⟨q,hq,b0⟩:=z ax H;obtain⟨j,hj,bb⟩:=z a8 H;have bc:decide (0<=fi)=true:=by simp[H]
  have hc:=E4 (by rw[<-bb];exact bx);have p0:=hc 0 _ rfl;have hV:IX n (A t).va (s.T t).nv (s.T t).V:=(m4.rd t C).now.1;obtain⟨vb,off,bd,cg,bf⟩:=hV.resolve_left om;obtain⟨y0,y1,y2,y3,y4⟩:=bf q b0;rw[bd]at p0;have bg:(fi.toNat)=q:=om;have HR:Hid<|X=FL ((s.T t).V q):=O (by rw[z au,<-o,DD H,bg]);obtain⟨w5,I,k⟩:=BL U<|FL<|(s.T t).V q;rcases O I,O<|k.BH,z D n w5 (FL<|(s.T t).V q) m4 a7 U k with⟨ao,ad,ae⟩;rw[hq]at bc ⊢;generalize (s.T t).V q=x at*;clear hc hV bf bd bb I k bg H o hq;go_upto_region 2 with(refine Af rfl rfl _ E ?_)
  go_wp2_with (refine Af rfl rfl _ ao ?_)
  refine G9 results57 underlying40 ad ?_;rw[z HR];exact ae
 have bc:decide (0<=fi)=false:=by simp[H]
 have b3:Hid<|X=FL (Cb s.F (s.T t)<|Bz (s.S i).key):=O (by rw[z au,<-o,C3 H]);clear H o;have l:=m4;obtain⟨_,_,bh,af,_,L,_⟩:=l.CA C;have b4:Value.slice (some<|G g 0) s.nt cp=_:=bh;clear bh;cases b4;rcases l.cells.2.1,l.lt,O (Nx (ZB Z w.heap.size W.heap.size) c B0 vN (S9 g s.nt cp) vS vU Bk A (A7 s i t) i) with⟨x1,ag,b5⟩;have b6:Hid<|Y1 n s B0 Bk (A t)<|s.T t:=O ⟨l.nd,(l.rd t C).now.1,(l.rd t C).now.2,bz⟩;have bj:((A7 s i t).S i).key=(s.S i).key:=by
  show(AM s.S i (En s i t) i).key=_;rw[Aj];unfold En;split
  .rfl
  split<;>rfl
 have b7:=O bj;have r:∀kv,AX Bk (A t) (s.T t)=kv->Ml c g w.heap.size t i (S9 g s.nt cp) kv n.drew:=λkv e=>⟨x1,L.trans<|by rw[<-e];rfl,b1,b2⟩;have b8:=O r;clear l L r bj x1 b1 b2;go_upto_region 4 with(refine Af rfl rfl _ E ?_)
 rcases z bu with⟨ah,hC⟩|⟨p,ah,hC⟩
 case' inl=>refine DL (Ml c g w.heap.size t i (S9 g s.nt cp)<|.iface 153<|Le (A t)<|s.T t) ou ?_
 case' inr=>refine DL (Ml c g w.heap.size t i (S9 g s.nt cp)<|.iface 156<|CK p (A t)<|s.T t) ou ?_
 all_goals
  have r:=z b8 _ ah;have HC:=O hC;clear hC ah;change wpAnyH _ _ _ _ _ _ _ _ (World.drew _);refine tz 0 (h:=tz 1 (h:=tz 2 (h:=tz 3 (h:=tz 4 (h:=tz 5 (h:=tz 6 (h:=tz 7 (h:=tz 8 (h:=tz 9 (h:=tz 10 (h:=tz 11 (h:=?_))))))))))));refine tz 13 (h:=tz 14 (h:=?_));refine ry 12 λK hK=>?_;go_simp;have M:B9 n n.drew:=(BE _ _).drew;refine(b5 _ (m4.below M).1 hi av).mono ?_;rintro e w5 ⟨rfl,b⟩;have b:B9 n w5:=Below.trans (BE _ _).drew b;have k:=r.keep (b.block c ag) (b.block g af)<|b.block w.heap.size om;rw[z b7];refine hK.out _ _ k λ_=>?_;clear hK K r M;refine ry 15 λK hK=>?_;go_simp;refine(HC _<|b6.below b).mono ?_;rintro e w6 ⟨rfl,d⟩;have d:=o9 b d;have bk:=k.keep ((d.block c ag).trans (b.block c ag).symm) ((d.block g af).trans (b.block g af).symm)<|(d.block w.heap.size om).trans (b.block w.heap.size om).symm;obtain⟨gv,ai⟩:=qa<|Cb s.F (s.T t)<|Bz (s.S i).key;rw[<-ai];have b9:=O ai;obtain⟨m6,d6⟩:=m4.below d;have aj:IV w6<|w.heap.size+1:=(d.block _ om).trans U;obtain⟨w7,P,u⟩:=BL aj<|FL gv;have ae:=z D w6 w7 (FL gv) m6 (a7.trans d6) aj u;have aq:=bk.keep (u.other c om) (u.other g om)<|u.other w.heap.size om;have ar:=O P;refine hK.out _ _ bk λ_=>?_;clear hK K k d m6 d6 aj P ai;refine tz 16 (h:=?_);refine ry 17 λK hK=>?_;refine BK rfl rfl _ ar ?_;refine hK.out _ _ aq λ_=>?_;clear hK K;refine tz 18 (h:=?_);refine FI ?_;have ad:=O<|u.BH;go_wp2_with fail;refine G9 results57 underlying40 ad ?_;rw[z b3,<-z b9];exact ae
def Mo(ab rb p t:Nat)(v:Vl)(A:Ad)(x:Tb)(W:Y):Prop:=W.cell? (G ab 1)=some (J (t:Int))/\W.cell? (G ab 9)=some (J v.kind)/\W.cell? (G ab 10)=some (J v.num)/\W.cell? (G ab 11)=some (F9 v.Ah)/\W.cell? (G ab 12)=some (.string v.str)/\W.cell? (G ab 13)=some (J v.ref)/\
 W.cell? (G rb 0)=some (.slice A.va x.nv A.vc)/\W.cell? (G rb 1)=some (.slice A.la x.d.n A.lc)/\W.cell? (G rb 2)=some (.slice A.ia x.d.m A.ic)/\W.cell? (G rb 3)=some (.slice A.xa x.d.x A.xc)/\W.cell? (G rb 4)=some (J x.d.used)/\W.cell? (G rb 5)=some (J x.d.live)/\W.cell? (G rb 6)=some (J x.d.turns)/\W.cell? (G rb 7)=some (Q9 p)
def Mo.keep{p}{v}{A}(h:Mo ab rb p t v A x W)(h1:W'.heap[ab]?=W.heap[ab]?)(h2:W'.heap[rb]?=W.heap[rb]?):Mo ab rb p t v A x W':=by
 have e1:∀q,W'.cell? (G ab q)=W.cell? (G ab q):=λq=>As (a:=G ab q) h1;have e2:∀q,W'.cell? (G rb q)=W.cell? (G rb q):=λq=>As (a:=G rb q) h2;grind [Mo]
def Mp(ab t i:Nat)(v:Vl)(W:Y):Prop:=W.cell? (G ab 1)=some (J (t:Int))/\W.cell? (G ab 2)=some (J (i:Int))/\W.cell? (G ab 9)=some (J v.kind)/\W.cell? (G ab 10)=some (J v.num)/\W.cell? (G ab 11)=some (F9 v.Ah)/\W.cell? (G ab 12)=some (.string v.str)/\W.cell? (G ab 13)=some (J v.ref)
def Mp.keep{v}(h:Mp ab t i v W)(h1:W'.heap[ab]?=W.heap[ab]?):Mp ab t i v W':=by
 have e1:∀q,W'.cell? (G ab q)=W.cell? (G ab q):=λq=>As (a:=G ab q) h1;grind [Mp]
def eD s i t:((A7 s i t).S i).key=(s.S i).key:=by
 show(AM s.S i (En s i t) i).key=_;grind [A7,Aj,En]
def QX{Bk}(a:Ac)(t i:Nat){w}(hM:Bg Z w c B0 vN vT vS (N9) Bk A s)(hG:Kl s)(hT:BZ w)(et:a.t=t)(ht:t<s.nt)(ei:a.site=i)(hi:i<s.ns)(hv:a.v.ok=true)(b4:5<=B0):
  C9 58 #[Q9 c,I5 a] w λe w'=>FK Z c B0 vN vT vS (if 0<=Bd s i t/\a.v.kind≠0 then Bm (A7 s i t) t (E7 (s.T t) (Bd s i t).toNat a.v)else Ci (A7 s i t) t (Bz (s.S i).key) a.v) (if 0<=Bd s i t/\a.v.kind≠0 then BD 0 else BD (Ct (A7 s i t) t (Bz (s.S i).key) a.v)) w e w':=by
 obtain⟨S',aj⟩:=qa<|if 0<=Bd s i t/\a.v.kind≠0 then Bm (A7 s i t) t (E7 (s.T t) (Bd s i t).toNat a.v)else Ci (A7 s i t) t (Bz (s.S i).key) a.v;obtain⟨X,hX⟩:=qa<|if 0<=Bd s i t/\a.v.kind≠0 then BD 0 else BD (Ct (A7 s i t) t (Bz (s.S i).key) a.v);rw[<-aj,<-hX];have ag:=O<|qp aj hX;clear aj hX;obtain⟨W,hW,ak,hA,hR,hz⟩:=boxes w a;have E:=hM.base;rcases hM.enter ak,hG.t t ht,hG.ns,hG.nt,hG.f with⟨⟨hE,b5⟩,hx,bd,bf,hf⟩;have aM:=Qo.nv hx hf;have bb:=O<|R5 i t hE hf hi bd ht bf hx<|hG.si i hi;have b6:Hid (0<=Bd s i t->∃j q:Nat,(s.T t).shape=j/\j<s.nf/\Bd s i t=q/\q<(s.T t).nv/\Bj s.F j (s.S i).key=q):=O λh=>JW hG hi ht h;rcases O (JX hG hi ht),G4 (hG.si i hi).1,Bb _ _ hT ak,O hv,hA.all with⟨b7,b8,ca,cb,⟨a0,a1,a2,a3,a4,a5,a6,a7,a8,a9,bg,bh,a12,bj⟩⟩;rw[et]at a1;rw[ei]at a2;clear hM hG hT et ei ak hf hv;go_enter func58,ntmps58;go_upto_region 1 with fail
 rw[<-hW];clear hW;go_wp2_with fail;refine bb.mono ?_;rintro e w3 ⟨vs,h8,h1,rfl,bk,m3,d3⟩;rcases (d3.boxes hE hA<|.inr<|.inr<|.inr rfl),(d3.boxes hE hR<|.inr<|.inr<|.inl rfl),d3.size,Ll w3 (.cells vs.toArray 156) with⟨hab,bm,z3,⟨m,bn,D,_,ao⟩⟩;have ad:Hid<|(Instr.storeAt 156 (Q9 w3.heap.size)<|.agg vs.toArray).run prog (w3.alloc<|.cells Fa 156)=.ok () m:=O (by rw[bn];exact jN w3 h8 h1);obtain⟨m4,d4⟩:=m3.below D;have bp:=(b5.trans d3).trans d4;have aq:IV m<|w.heap.size+1:=(D.block _ om).trans<|bm.trans hR;have ar:Qs m w.heap.size a:=(D.block _ om).trans<|hab.trans hA;have ae:=(D.block _ om).trans hab;have eb:∀q,m.cell? (y w q)=W.cell? (y w q):=λq=>As (a:=y w q) ae;rcases (eb 1).trans a1,(eb 2).trans a2,(eb 9).trans a9,(eb 10).trans bg,(eb 11).trans bh,(eb 12).trans a12,(eb 13).trans bj,O bk,O ao with⟨b1,b2,b9,bq,br,bt,bu,cc,cg⟩;have ch:Hid<|BZ m:=O (by
  have h3:=ca.below (B:=B0) ⟨d3.os,d3.tape,d3.output,d3.size,λq hq=>d3.block q om (λe=>oT (hE.IC e).1)⟩ om;exact Bb _ _ h3 D)
 rcases Ai ao,Ai ar,Ai aq with⟨z4,ah,bw⟩;clear m3 d3 hab bm D ao bn d4 ae eb bk a0 a1 a2 a3 a4 a5 a6 a7 a8 a9 bg bh a12 bj;by_cases b:0<=Bd s i t/\a.v.kind≠0
 .obtain⟨j,q,hj,c5,hq,cj,_⟩:=z b6 b.1;obtain⟨j',ck,bx⟩:=z cc b.1;have cl:j'=j:=om;subst cl;have au:decide (0<=Bd s i t)=true:=by simp[b.1]
  have cm:(a.v.kind !=0)=true:=by simp[b.2]
  have H:Hid<|S'=Bm (A7 s i t) t (E7 (s.T t) q a.v)/\X=BD 0:=O (by rw[(z ag).1,(z ag).2,DD b,DD b,hq];exact⟨rfl,rfl⟩);have hr:m.heap[w3.heap.size]?=some (.cells (C2 (Bk j') (A t)<|s.T t).toArray 156 (0,0)):=by rw[<-bx];exact cg
  have hc:=E4 hr;have I:Mo w.heap.size w3.heap.size (Bk j') t a.v (A t) (s.T t) m.drew:=⟨b1,b9,bq,br,bt,bu,hc 0 _ rfl,hc 1 _ rfl,hc 2 _ rfl,hc 3 _ rfl,hc 4 _ rfl,hc 5 _ rfl,hc 6 _ rfl,hc 7 _ rfl⟩;have cn:Hid<|IX m (A t).va (s.T t).nv (s.T t).V:=O (m4.rd t ht).now.1;have bz:bare (s.T t).d:=by
   rcases hx.way with⟨e,_⟩|⟨_,_,_,_,h,_⟩
   .omega
   exact h
  rcases O bz,O hr,O hj with⟨cq,cr,HJ⟩;rw[hq]at au ⊢;clear b hq hc hr bx hj ck bz;go_upto_region 3 with(refine Af rfl rfl _ ad ?_)
  refine Hx (Mo w.heap.size w3.heap.size (Bk j') t a.v (A t)<|s.T t) ?_;refine tz 0 (h:=tz 1 (h:=tz 2 (h:=tz 3 (h:=tz 4 (h:=tz 5 (h:=tz 6 (h:=?_)))))));refine ry 7 λK hK=>?_;go_simp;refine(VJ (Bk j') (A t) (s.T t) q a.v (cn.below (w':=m.drew) (B:=m.heap.size) (BE _ _).drew rfl) cj aM).mono ?_;rintro e w5 ⟨⟨gg,cp,rfl,C⟩,g⟩;have g:B9 m w5:=Below.trans (BE _ _).drew g;rcases I.keep (g.block _ ah) (g.block _ z4),m4.below g,(C.lt gg rfl).1 with⟨u,⟨m5,d5⟩,ct⟩;have L:Rd (OZ (ZB Z w.heap.size W.heap.size) B0 c vN vT vS w5) w5 {A t with va:=some (G gg 0),vc:=cp}<|E7 (s.T t) q a.v:=Rd.tR (t:=E7 (s.T t) q a.v) C rfl (m5.Xc (w0:=m) (λk e=>by have:=m4.z k e;exact this) C ct) cq;have x:AX Bk {A t with va:=some (G gg 0),vc:=cp} (E7 (s.T t) q a.v)=.iface 156 (CK (Bk j') {A t with va:=some (G gg 0),vc:=cp}<|E7 (s.T t) q a.v):=by
   unfold AX;rw[C3 (by show¬(s.T t).shape=-1;rw[z HJ];omega)];show Value.iface _ (CK (Bk (s.T t).shape.toNat) _ _)=_;rw[z HJ];rfl
  have b0:=O<|JA _ c B0 vN vT vS Bk A (A7 s i t) t {A t with va:=some (G gg 0),vc:=cp} (E7 (s.T t) q a.v) w5 m5 ht bf L;rw[x]at b0;rcases O m5,O<|bp.trans d5,(g.block _ ah).trans ar,(g.block _ z4).trans cr with⟨av,cu,n,o⟩;have l:IV w5<|w.heap.size+1:=(g.block _ bw).trans aq;have cv:=O<|qp n<|qp o l;refine hK.out _ _ u λ_=>?_;clear hK K I g m5 d5 C L x n o l;refine tz 8 (h:=?_);refine ry 9 λK hK=>?_;go_simp;refine b0.mono ?_;rintro e w6 ⟨⟨uu,rfl⟩,cw,m6,d6,cx,_⟩;obtain⟨n,o,l⟩:=z cv;have ai:=u.keep (d6.boxes av n<|.inr<|.inr<|.inr rfl)<|d6.boxes av o<|.inl rfl;have M:IV w6<|w.heap.size+1:=(d6.boxes av l<|.inr<|.inr<|.inl rfl).trans l;obtain⟨w7,p,r⟩:=BL M<|BD 0;obtain⟨f1,f2⟩:=m6.KQ (cu.trans d6) E om om M r;have aw:Hid<|FK Z c B0 vN vT vS (Bm (A7 s i t) t<|E7 (s.T t) q a.v) (BD 0) w (.returned<|.tuple #[H9 (BD 0),CP 0]) w7:=O ⟨BD 0,0,_,_,_,_,rfl,f2,.inl ⟨rfl,rfl,Bk,_,f1⟩⟩;have P:=O p;have ax:=O r;refine hK.out _ _ ai λ_=>?_;clear hK K u m6 d6 cx n o l M p r f1 f2;refine FI ?_;have ay:=O<|ax.BH;go_wp2_with (refine Af rfl rfl _ P ?_);refine G9 results58 underlying40 ay ?_;rw[(z H).1,(z H).2];exact aw
 have H:Hid<|S'=Ci (A7 s i t) t (Bz (s.S i).key) a.v/\X=BD (Ct (A7 s i t) t (Bz (s.S i).key) a.v):=O (by rw[(z ag).1,(z ag).2,C3 b,C3 b];exact⟨rfl,rfl⟩);have I:Mp w.heap.size t i a.v m.drew:=⟨b1,b2,b9,bq,br,bt,bu⟩;obtain⟨kv,x⟩:=qa<|Bz (s.S i).key;have cy:=O<|Nx (ZB Z w.heap.size W.heap.size) c B0 vN vT vS N9 Bk A (A7 s i t) i;have cz:Hid<|Bz ((A7 s i t).S i).key=kv:=O (by rw[eD,x]);have cD:Hid<|∀w5,B9 m w5->C9 97 #[Q9 c,J (t:Int),Ga kv,Ga a.v] w5 λe w6=>e=.returned (CP<|Ct (A7 s i t) t kv a.v)/\w6.heap[w.heap.size]?=w5.heap[w.heap.size]?/\IV w6 (w.heap.size+1)/\∀w7,Bu w6 w7 (w.heap.size+1) (Mx<|BD 0).toArray 40->FK Z c B0 vN vT vS (Ci (A7 s i t) t kv a.v) (BD<|Ct (A7 s i t) t kv a.v) w (.returned<|.tuple #[H9 (BD 0),CP (Ct (A7 s i t) t kv a.v)]) w7:=O (λw5 h5=>by
  obtain⟨m5,d5⟩:=m4.below h5;refine(Qj t kv a.v m5 b7 ht (Bb _ _ ch h5) (by rw[x];exact b8) cb (pW _ _) b4).mono ?_;intro e w6 hP;rcases id hP,(h5.block _ ah).trans ar,(h5.block _ bw).trans aq with⟨⟨c6,BT,B1,cw,he,hd,_⟩,cN,L⟩;have Q:IV w6 (w.heap.size+1):=(hd.boxes m5 L (.inr (.inr (.inl rfl)))).trans L;exact⟨he,hd.boxes m5 cN (.inr (.inr (.inr rfl))),Q,λw7 h7=>XV.uU (bp.trans d5) hP E om om Q h7⟩)
 have c0:=O x;have R:(0<=Bd s i t/\a.v.kind=0)\/¬0<=Bd s i t:=by
  by_cases h:0<=Bd s i t
  .exact .inl ⟨h,Classical.not_not.1 λe=>b ⟨h,e⟩⟩
  exact .inr h
 clear b x;obtain⟨fi,b3⟩:=qa<|Bd s i t;rw[<-b3]at R ⊢;clear b3;rcases R with⟨q1,q2⟩|q1
 case' inl=>
  have au:decide (0<=fi)=true:=by simp[q1]
  have cm:(a.v.kind !=0)=false:=by simp[q2]
  clear q1 q2
 case' inr=>
  have au:decide (0<=fi)=false:=by simp[q1]
  clear q1
 all_goals
  go_upto_region 5 with(refine Af rfl rfl _ ad ?_)
  refine Hx (Mp w.heap.size t i a.v) ?_;refine tz 0 (h:=tz 1 (h:=tz 2 (h:=tz 3 (h:=tz 4 (h:=tz 5 (h:=tz 6 (h:=tz 8 (h:=tz 9 (h:=?_)))))))));refine ry 7 λK hK=>?_;go_simp;have af:B9 m m.drew:=(BE _ _).drew;refine(cy _ (m4.below af).1 hi bd).mono ?_;rintro e w5 ⟨rfl,g⟩;have g:B9 m w5:=Below.trans (BE _ _).drew g;have u:=I.keep<|g.block _ ah;rw[z cz];have c3:=O g;refine hK.out _ _ u λ_=>?_;clear hK K I g af;refine ry 10 λK hK=>?_;go_simp;refine(cD _ c3).mono ?_;rintro e w6 ⟨rfl,hab,Q,U⟩;have ai:=u.keep hab;obtain⟨cd,az⟩:=qa<|Ct (A7 s i t) t kv a.v;rw[<-az]at U ⊢;have c4:=O az;obtain⟨w7,p,r⟩:=BL Q<|BD 0;have aw:=O<|U w7 r;rcases ai.keep (r.other _ om),O p,O r with⟨bc,P,ax⟩;refine hK.out _ _ ai λ_=>?_;clear hK K u hab Q U p r az;refine ry 11 λK hK=>?_;refine BK rfl rfl _ P ?_;refine hK.out _ _ bc λ_=>?_;clear hK K;refine tz 12 (h:=?_);refine FI ?_;have ay:=O<|ax.BH;go_wp2_with fail;refine G9 results58 underlying40 ay ?_;rw[(z H).1,(z H).2,<-z c0];have h:=z aw;rw[z c4]at h ⊢;exact h
def Yc{c}(h:c≠0):CP c=.iface 164 (.agg #[J c]):=by unfold CP;rw[C3 h]
section
section
variable {Z:Nat->Prop} {w w2 w3:Y} {c B0:Nat} {vN vT vS:V9} {Bk:Nat->Nat} {A:Nat->Ad} {s s':AE} {x0:An} {e:Ending}
def FK.fin(b:BB (AD B0 c vN vT vS w) w (AD B0 c vN vT vS w2) w2)(h:FK (ZB Z w.heap.size l) c B0 vN vT vS s' x0 w2 e w3)(d:B0<=w.heap.size)(f:w.heap.size<=rb)(hz:rb<l)(m:IV w3 rb):
  ∃x a,e=.returned (.tuple #[H9 x,CP a])/\∀w4,Bu w3 w4 rb (Mx x).toArray 40->FK Z c B0 vN vT vS s' x0 w (.returned<|.tuple #[H9 x,CP a]) w4:=by
 obtain⟨x,a,g,BT,B1,i,o,n,h⟩:=h;refine⟨x,a,o,λw4 j=>?_⟩;rcases h with⟨e1,e2,k,A',m3⟩|⟨e1,e2,u3⟩
 .obtain⟨f1,f2⟩:=m3.KQ (b.trans n) d f hz m j;exact⟨x,a,g,BT,B1,i,rfl,f2,.inl ⟨e1,e2,k,A',f1⟩⟩
 obtain⟨f1,f2⟩:=u3.KQ (b.trans n) d f hz m j;exact⟨x,a,g,BT,B1,i,rfl,f2,.inr ⟨e1,e2,f1⟩⟩
def FK.dst{s'}(h:FK Z c B0 vN vT vS s' x0 w2 e w3):∃a BT B1,BB (AD B0 c vN vT vS w2) w2 (AD B0 c a BT B1 w3) w3:=by
 grind [FK,AD]
end
def Ff(a:Ac):Prop:=∀(Z:Nat->Prop) (c B0:Nat) (vN vT vS:V9) (Bk:Nat->Nat) (A:Nat->Ad) (s:AE) (w:Y),Bg Z w c B0 vN vT vS (N9) Bk A s->Kl s->BZ w->H7 a s.nt s.ns=0->Wf a.k->5<=B0->
  ∃F:Nat,(∀w,(Instr.index 77 ED<|J a.op).run prog w=.ok (.agg #[J (xV a.op),.func (.func F) #[] #[]]) w)/\(∀args w,(callFunc F args).run prog w=.ok (.enter F args) w)/\∀w2,B9 w w2->C9 F #[Q9 c,I5 a] w2 λe w3=>FK Z c B0 vN vT vS (BJ s a) (Dh s a) w2 e w3
theorem qV(h:a.op=1):Ff a:=by
 intro Z c B0 vN vT vS Bk A s w k g q hc l m;obtain⟨c1,c2,c3,c4⟩:=FM hc;obtain⟨r1,r2,r,t,u,v,x⟩:=CO c1;have d:∀w2,B9 w w2->Bg Z w2 c B0 vN vT vS N9 Bk A s:=λw2 h=>(k.below h).1;refine⟨50,by rw[h];exactλw=>ou,λargs w=>ou,λw2 h2=>?_⟩;have j:BJ s a=if s.nt=100 then s else{s with nt:=s.nt+1,T:=AM s.T s.nt Ja}:=by unfold BJ;rw[DD h]
 have hN:Dh s a=if s.nt=100 then BD 5 else Dx s.nt:=by unfold Dh;rw[DD h]
 obtain⟨f1,_⟩:=Av g.f;refine(QV a (d w2 h2) g.nt<|oT f1.1).mono ?_;rintro e w3 ⟨BT,b,A',m3,d3,e1,e2⟩;by_cases hn:s.nt=100
 .obtain⟨e3,n,cu,bw,o,p⟩:=e2 hn;rw[j,hN,DD hn,DD hn];refine⟨BD 0,5,vN,BT,vS,b,e3,d3,.inr ⟨oo,rfl,Bk,A',_,m3,.inr<|.inl ⟨s.nt,n,cu,bw,o,p,UP _,Nat.succ_pos _,by show s.nt+1<=200;omega,⟨rfl,rfl,rfl,rfl,λi hi=>?_,λ_ _=>rfl⟩⟩⟩⟩;exact Ak _ _ (by have hi:i<s.nt:=hi;omega)
 rw[j,hN,C3 hn,C3 hn];exact⟨Dx s.nt,0,vN,BT,vS,b,e1 hn,d3,.inl ⟨rfl,rfl,Bk,A',m3⟩⟩
theorem qW(h:a.op=2)(d:M5 (CZ a.k) a.v):Ff a:=by
 intro Z c B0 vN vT vS Bk A s w j l m hc e f;obtain⟨c1,c2,c3,c4⟩:=FM hc;obtain⟨r1,r2,q,n,r,u,x⟩:=CO c1;have g:∀w2,B9 w w2->Bg Z w2 c B0 vN vT vS N9 Bk A s:=λw2 h=>(j.below h).1;have i:∀w2,B9 w w2->BZ w2:=λw2 h=>Bb _ _ m h;have b:Dl a.op=true->∃t:Nat,a.t=t/\t<s.nt/\a.t.toNat=t:=λh=>⟨a.t.toNat,om,oT<|c2 h,rfl⟩;refine⟨51,by rw[h];exactλw=>ou,λargs w=>ou,λw2 h2=>?_⟩;obtain⟨t,et,o,en⟩:=b (by simp[Dl,h]);have p:BJ s a=Ci s t (CZ a.k) a.v:=by unfold BJ;rw[C3 om,C3 om,DD h,en]
 have hN:Dh s a=BD (Ct s t (CZ a.k) a.v):=by unfold Dh;rw[C3 om,C3 om,DD h,en]
 rw[p,hN];exact kH a t (g w2 h2) l (i w2 h2) et o (LD e<|c4<|.inl h) n d f
theorem qX(h:a.op=3):Ff a:=by
 intro Z c B0 vN vT vS Bk A s w l e m hc g n;obtain⟨c1,c2,c3,c4⟩:=FM hc;obtain⟨r1,r2,p,q,r,u,v⟩:=CO c1;have b:∀w2,B9 w w2->Bg Z w2 c B0 vN vT vS N9 Bk A s:=λw2 h=>(l.below h).1;have i:∀w2,B9 w w2->BZ w2:=λw2 h=>Bb _ _ m h;have d:Dl a.op=true->∃t:Nat,a.t=t/\t<s.nt/\a.t.toNat=t:=λh=>⟨a.t.toNat,om,oT<|c2 h,rfl⟩;refine⟨52,by rw[h];exactλw=>ou,λargs w=>ou,λw2 h2=>?_⟩;obtain⟨t,et,j,en⟩:=d (by simp[Dl,h]);have o:BJ s a=s:=by unfold BJ;rw[C3 om,C3 om,C3 om,C3 om,C3 om]
 have hN:Dh s a=FL (Cb s.F (s.T t)<|CZ a.k):=by unfold Dh;rw[C3 om,C3 om,C3 om,C3 om,DD h,en]
 rw[o,hN];refine m9 (kG a t (b w2 h2) e.f (e.t t j) (i w2 h2) et j e.nt<|LD g<|c4<|.inr h) λw3 hb=>?_;exact FK.read (b w2 h2) hb _
theorem qY(h:a.op=4):Ff a:=by
 intro Z c B0 vN vT vS Bk A s w j e k hc l m;obtain⟨c1,c2,c3,c4⟩:=FM hc;obtain⟨r1,r2,p,q,r,u,v⟩:=CO c1;have b:∀w2,B9 w w2->Bg Z w2 c B0 vN vT vS N9 Bk A s:=λw2 h=>(j.below h).1;have g:∀w2,B9 w w2->BZ w2:=λw2 h=>Bb _ _ k h;have d:Dl a.op=true->∃t:Nat,a.t=t/\t<s.nt/\a.t.toNat=t:=λh=>⟨a.t.toNat,om,oT<|c2 h,rfl⟩;refine⟨53,by rw[h];exactλw=>ou,λargs w=>ou,λw2 h2=>?_⟩;obtain⟨t,et,i,en⟩:=d (by simp[Dl,h]);have o:BJ s a=s:=by unfold BJ;rw[C3 om,C3 om,C3 om,C3 om,C3 om]
 have hN:Dh s a=qN ((RL s t).next a.n):=by unfold Dh;rw[C3 om,C3 om,C3 om,C3 om,C3 om,C3 om,en];unfold Pl.ask;rw[DD h];rfl
 rw[o,hN];refine m9 (XI a t (b w2 h2) e.f (e.t t i) (g w2 h2) et i e.nt) λw3 hb=>?_;exact FK.read (b w2 h2) hb _
theorem qZ(h:a.op=5):Ff a:=by
 intro Z c B0 vN vT vS Bk A s w i e j hc k l;obtain⟨c1,c2,c3,c4⟩:=FM hc;obtain⟨r1,r2,n,o,p,q,r⟩:=CO c1;have b:∀w2,B9 w w2->Bg Z w2 c B0 vN vT vS N9 Bk A s:=λw2 h=>(i.below h).1;have f:∀w2,B9 w w2->BZ w2:=λw2 h=>Bb _ _ j h;have d:Dl a.op=true->∃t:Nat,a.t=t/\t<s.nt/\a.t.toNat=t:=λh=>⟨a.t.toNat,om,oT<|c2 h,rfl⟩;refine⟨54,by rw[h];exactλw=>ou,λargs w=>ou,λw2 h2=>?_⟩;obtain⟨t,et,g,en⟩:=d (by simp[Dl,h]);have m:BJ s a=s:=by unfold BJ;rw[C3 om,C3 om,C3 om,C3 om,C3 om]
 have hN:Dh s a=Dx (WX<|s.T t):=by unfold Dh;rw[C3 om,C3 om,C3 om,C3 om,C3 om,C3 om,en];unfold Pl.ask;rw[C3 om,C3 om,nP (e.t t g)];rfl
 rw[m,hN];refine m9 (VH a t (b w2 h2) (e.t t g) (f w2 h2) et g e.nt) λw3 hb=>?_;exact FK.read (b w2 h2) hb _
theorem rA(h:a.op=6):Ff a:=by
 intro Z c B0 vN vT vS Bk A s w i e j hc k l;obtain⟨c1,c2,c3,c4⟩:=FM hc;obtain⟨r1,r2,n,o,p,q,r⟩:=CO c1;have b:∀w2,B9 w w2->Bg Z w2 c B0 vN vT vS N9 Bk A s:=λw2 h=>(i.below h).1;have f:∀w2,B9 w w2->BZ w2:=λw2 h=>Bb _ _ j h;have d:Dl a.op=true->∃t:Nat,a.t=t/\t<s.nt/\a.t.toNat=t:=λh=>⟨a.t.toNat,om,oT<|c2 h,rfl⟩;refine⟨55,by rw[h];exactλw=>ou,λargs w=>ou,λw2 h2=>?_⟩;obtain⟨t,et,g,en⟩:=d (by simp[Dl,h]);have m:BJ s a=s:=by unfold BJ;rw[C3 om,C3 om,C3 om,C3 om,C3 om]
 have hN:Dh s a=Dx (Wh<|s.T t):=by unfold Dh;rw[C3 om,C3 om,C3 om,C3 om,C3 om,C3 om,en];unfold Pl.ask;rw[C3 om,DD h,nO (e.t t g)];rfl
 rw[m,hN];refine m9 (XJ a t (b w2 h2) (e.t t g) (f w2 h2) et g e.nt) λw3 hb=>?_;exact FK.read (b w2 h2) hb _
theorem rB(h:a.op=7):Ff a:=by
 intro Z c B0 vN vT vS Bk A s w g j q hc l m;obtain⟨c1,c2,c3,c4⟩:=FM hc;obtain⟨r1,r2,r,t,u,v,x⟩:=CO c1;have d:∀w2,B9 w w2->Bg Z w2 c B0 vN vT vS N9 Bk A s:=λw2 h=>(g.below h).1;refine⟨56,by rw[h];exactλw=>ou,λargs w=>ou,λw2 h2=>?_⟩;have f:BJ s a=if s.ns=50 then s else{s with ns:=s.ns+1,S:=AM s.S s.ns ⟨a.k.str,-1,0,0,0⟩}:=by unfold BJ;rw[C3 om,DD h]
 have hN:Dh s a=if s.ns=50 then BD 5 else Dx s.ns:=by unfold Dh;rw[C3 om,DD h]
 refine(TE a (d w2 h2) j.ns).mono ?_;rintro e w3 ⟨B1,b,m3,d3,e1,e2⟩;by_cases hn:s.ns=50
 .obtain⟨e3,n,cu,bw,o,p⟩:=e2 hn;rw[f,hN,DD hn,DD hn];refine⟨BD 0,5,vN,vT,B1,b,e3,d3,.inr ⟨oo,rfl,Bk,A,_,m3,.inr<|.inr<|.inl ⟨s.ns,n,cu,bw,o,p,UP _,Nat.succ_pos _,by show s.ns+1<=200;omega,⟨rfl,rfl,rfl,rfl,λ_ _=>rfl,λi hi=>?_⟩⟩⟩⟩;exact Ak _ _ (by have hi:i<s.ns:=hi;omega)
 rw[f,hN,C3 hn,C3 hn];exact⟨Dx s.ns,0,vN,vT,B1,b,e1 hn,d3,.inl ⟨rfl,rfl,Bk,A,m3⟩⟩
theorem rC(h:a.op=8):Ff a:=by
 intro Z c B0 vN vT vS Bk A s w k l m hc n f;obtain⟨c1,c2,c3,c4⟩:=FM hc;obtain⟨r1,r2,r,u,v,x,B⟩:=CO c1;have g:∀w2,B9 w w2->Bg Z w2 c B0 vN vT vS N9 Bk A s:=λw2 h=>(k.below h).1;have j:∀w2,B9 w w2->BZ w2:=λw2 h=>Bb _ _ m h;have b:Dl a.op=true->∃t:Nat,a.t=t/\t<s.nt/\a.t.toNat=t:=λh=>⟨a.t.toNat,om,oT<|c2 h,rfl⟩;have d:EH a.op=true->∃i:Nat,a.site=i/\i<s.ns/\a.site.toNat=i:=λh=>⟨a.site.toNat,om,oT<|c3 h,rfl⟩;refine⟨57,by rw[h];exactλw=>ou,λargs w=>ou,λw2 h2=>?_⟩;obtain⟨t,et,o,en⟩:=b (by simp[Dl,h]);obtain⟨i,p,hi,e⟩:=d (by simp[EH,h]);have q:BJ s a=A7 s i t:=by unfold BJ;rw[C3 om,C3 om,C3 om,DD h,en,e]
 have hN:Dh s a=FL (if 0<=Bd s i t then(s.T t).V (Bd s i t).toNat else Cb s.F (s.T t) (Bz (s.S i).key)):=by unfold Dh;rw[C3 om,C3 om,C3 om,C3 om,C3 om,DD h,en,e]
 rw[q,hN];exact QW a t i (g w2 h2) l (j w2 h2) et o p hi f
theorem rD(h:a.op=9):Ff a:=by
 intro Z c B0 vN vT vS Bk A s w k l m hc n f;obtain⟨c1,c2,c3,c4⟩:=FM hc;obtain⟨r1,r2,u,o,x,B,C⟩:=CO c1;have g:∀w2,B9 w w2->Bg Z w2 c B0 vN vT vS N9 Bk A s:=λw2 h=>(k.below h).1;have j:∀w2,B9 w w2->BZ w2:=λw2 h=>Bb _ _ m h;have b:Dl a.op=true->∃t:Nat,a.t=t/\t<s.nt/\a.t.toNat=t:=λh=>⟨a.t.toNat,om,oT<|c2 h,rfl⟩;have d:EH a.op=true->∃i:Nat,a.site=i/\i<s.ns/\a.site.toNat=i:=λh=>⟨a.site.toNat,om,oT<|c3 h,rfl⟩;refine⟨58,by rw[h];exactλw=>ou,λargs w=>ou,λw2 h2=>?_⟩;obtain⟨t,et,p,en⟩:=b (by simp[Dl,h]);obtain⟨i,q,hi,e⟩:=d (by simp[EH,h]);have r:BJ s a=if 0<=Bd s i t/\a.v.kind≠0 then Bm (A7 s i t) t (E7 (s.T t) (Bd s i t).toNat a.v)else Ci (A7 s i t) t (Bz (s.S i).key) a.v:=by unfold BJ;rw[C3 om,C3 om,C3 om,C3 om,DD h,en,e]
 have hN:Dh s a=if 0<=Bd s i t/\a.v.kind≠0 then BD 0 else BD (Ct (A7 s i t) t (Bz (s.S i).key) a.v):=by unfold Dh;rw[C3 om,C3 om,C3 om,DD h,en,e]
 rw[r,hN];exact QX a t i (g w2 h2) l (j w2 h2) et p q hi o f
def lO a:Ff a:=by
 by_cases h:1<=a.op/\a.op<=9
 .grind [Ff,qV,qW,pW,qX,qY,qZ,rA,rB,rC,rD]
 intro Z c B0 vN vT vS Bk A s w e f g hc;obtain⟨c1,_⟩:=FM hc;obtain⟨_,_,_,_,_,b,d⟩:=CO c1;exact absurd ⟨b,d⟩ h
def Mj.of(h:Qs W ab a):Mj ab a W:=by
 obtain⟨a0,a1,a2,a3,a4,a5,e,f,g,a9,b,c,a12,d⟩:=h.all;grind [Qs,Mj]
theorem dW x fn w:(Instr.field 76 (.agg #[J x,fn]) 1).run prog w=.ok fn w:=ou
attribute [local go_sem] dW
def kI{Bk}(D:Bg Z w c B0 vN vT vS (N9) Bk A s)(V:Kl s)(hT:BZ w)(X:Wf a.k)(ad:5<=B0)(hD:Ff a):
  C9 62 #[Q9 c,I5 a] w λe w'=>FK Z c B0 vN vT vS (AR s a) (Dg s a) w e w':=by
 have n:=O hD;clear hD;obtain⟨ta,tc,rfl⟩:=Au D.t;obtain⟨sa,sc,rfl⟩:=Au D.si;rcases V.nt,V.ns,boxes w a,D.lt,D.base with⟨ae,af,⟨W,hW,o,hA,hR,hz⟩,aM,j⟩;obtain⟨hE,H⟩:=D.enter o;obtain⟨_,c1,c2,_,_⟩:=hE.cells;obtain⟨a0,a1,a2,a3,a4,a5,a6,a7,a8,a9,ag,ah,a12,ai⟩:=hA.all;have aj:w.heap.size<W.heap.size:=om;have ak:c<W.heap.size:=om;have HT:=Bb _ _ hT o;clear D o hT;go_enter func62,ntmps62;go_wp2_with fail;rw[<-hW];clear hW;refine qr W ?_;(iterate 12 refine N (h:=?_));refine GS λK hK=>?_;go_simp;refine⟨_,λw' ao=>qk ao<|Y7 a s.nt s.ns _ ae af,hK _ ?_⟩;clear hK K;refine N (h:=?_);refine Hz ?_;intro w1 g;have z1:=g.size;clear a0 a1 a2 a3 a4 a5 a6 a7 a8 a9 ag ah a12 ai c1 c2 ak aj;by_cases hc:H7 a s.nt s.ns=0
 case neg=>
  have b:Hid<|AR s a=s/\Dg s a=BD (H7 a s.nt s.ns):=O (by unfold AR Dg;rw[C3 hc,C3 hc];exact⟨rfl,rfl⟩);have U:=O hc;clear hc;rw[Yc (z U)];obtain⟨E,I⟩:=qa<|H7 a s.nt s.ns;rw[<-I]at U b ⊢;clear I;have p:=hR.below g om;obtain⟨w4,d,f⟩:=BL p<|BD 0;obtain⟨m1,d1⟩:=hE.below g;have hu:Qv (ZB Z w.heap.size W.heap.size) w1 c B0 vN (.slice ta s.nt tc) (.slice sa s.ns sc) N9 s:=⟨Bk,A,s,m1,.inl ⟨rfl,OE.refl s⟩⟩;obtain⟨f1,f2⟩:=hu.KQ (H.trans d1) j om om p f;have q:Hid<|FK Z c B0 vN (.slice ta s.nt tc) (.slice sa s.ns sc) s (BD E) w (.returned<|.tuple #[H9 (BD 0),.iface 164 (.agg #[J E])]) w4:=O ⟨BD 0,E,_,_,_,_,by rw[Yc (z U)],f2,.inr ⟨U,rfl,f1⟩⟩;have r:=O d;have u:=O<|f.BH;clear p d f m1 d1 hu f1 f2;go_wp2_with (refine Af rfl rfl _ r ?_);refine G9 results62 underlying40 u ?_;rw[(z b).1,(z b).2];exact q
 have b:Hid<|AR s a=BJ s a/\Dg s a=Dh s a:=O (by unfold AR Dg;rw[DD hc,DD hc];exact⟨rfl,rfl⟩);obtain⟨m1,d1⟩:=hE.below g;obtain⟨F,bb,bc,l⟩:=n _ c B0 vN _ _ Bk A s w1 m1 V (Bb _ _ HT g) hc X ad;have L:=hA.below g om;have aq:=hR.below g om;have ar:Mj w.heap.size a w1.drew:=Mj.of (W:=w1) L;rcases O m1,O<|H.trans d1,O l with⟨au,av,n⟩;rw[hc];clear hc m1 d1 l;have e0:CP 0=.nilIface:=rfl;rw[e0];clear e0;go_wp2_with fail;refine Hx (Mj w.heap.size a) ?_;refine tz 1 (h:=tz 2 (h:=tz 5 (h:=tz 6 (h:=?_))));refine ry 0 λK hK=>?_;go_simp;refine m9 (MA _) λw2 i=>?_;have i:B9 w1 w2:=Below.trans (BE _ _).drew i;have v:=L.below i om;rcases aq.below i om,Mj.of v,au.below i with⟨M,P,⟨m2,d2⟩⟩;rcases O m2,O<|av.trans d2,O v,O M,O (n w2 i) with⟨Q,aw,R,S,ax⟩;refine hK.out _ _ P λ_=>?_;clear hK K ar i m2 d2 v M;refine tz 3 (h:=tz 4 (h:=?_));refine ry 7 λK hK=>?_;go_simp;refine ax.mono ?_;intro e w3 hD;obtain⟨_,_,_,hd⟩:=hD.dst;have B:Qs w3 w.heap.size a:=(hd.boxes Q R<|.inr<|.inr<|.inr rfl).trans R;have C:IV w3<|w.heap.size+1:=(hd.boxes Q S<|.inr<|.inr<|.inl rfl).trans S;have ay:=Mj.of B;obtain⟨x,E,rfl,m⟩:=FK.fin aw hD j om om C;obtain⟨w4,d,f⟩:=BL C x;have q:=O<|m w4 f;rcases Mj.of (W:=w4) ((f.other _ om).trans B),O d,O f with⟨T,r,az⟩;refine hK.out _ _ ay λ_=>?_;clear hK K P hD hd B C m d f;refine tz 8 (h:=tz 9 (h:=?_));refine ry 10 λK hK=>?_;refine BK rfl rfl _ r ?_;refine hK.out _ _ T λ_=>?_;clear hK K;refine tz 11 (h:=?_);refine FI ?_;have u:=O<|az.BH;go_wp2_with fail;refine G9 results62 underlying40 u ?_;rw[(z b).1,(z b).2];exact q
end
def Ib.dst(h:Ib w)(a:BB Z w O' w')(b:¬Z 0):Ib w':=
 (As<|a.block _ h.lt b).trans h
def qA(Z:Nat->Prop)(c B0:Nat)(vN vT vS:V9)(s':AE)(x:An)(w:Y)(e:Ending)(w':Y):Prop:=
 e=.returned (H9 x)/\∃a BT B1 b d A',Bg Z w' c B0 a BT B1 b d A' s'/\BB (AD B0 c vN vT vS w) w (AD B0 c a BT B1 w') w'
def kD{Bk}(P:Bg Z w c B0 vN vT vS vU Bk A s)(hG:Kl s)(hT:BZ w)(ai:Wf a.k)(aj:5<=B0)(r:Ib w)(bf:0<B0)(hD:Ff a):
  C9 27 #[Q9 c,I5 a] w λe w'=>qA Z c B0 vN vT vS (AR s a) (Dg s a) w e w':=by
 rcases boxes w a,P.lt,P.base with⟨⟨W,hW,j,hA,hR,hz⟩,bg,d⟩;obtain⟨hE,Q⟩:=P.enter j;obtain⟨_,_,_,c3,cf⟩:=hE.cells;rcases cf 3,hE.wM (ua:=none) (un:=0) (uc:=0),qa (W.setCell (G c 3) N9) with⟨f3,⟨mU,n⟩,⟨l,f⟩⟩;rw[<-f]at mU n;have b:∀k,k≠c->l.heap[k]?=W.heap[k]?:=λk hk=>by rw[f];exact At _ _ _ _<|by exact hk
 have R:Qs l w.heap.size a:=(b _ om).trans hA;have S:IV l<|w.heap.size+1:=(b _ om).trans hR;have T:BZ l:=by
  have t:=Bb _ _ hT j;exact t.below (B:=B0) ⟨n.os,n.tape,n.output,n.size,λq hq=>n.block q om λe=>oT (hE.IC e).1⟩ om
 have ak:Ib l:=(As (a:=G 0 0)<|b 0<|oT P.ge).trans<|r.below j r.lt;obtain⟨a0,a1,a2,a3,a4,a5,a6,a7,a8,a9,ao,aq,a12,ar⟩:=R.all;have au:=O<|kI mU hG T ai aj hD;clear hD;rcases O mU,O<|Q.trans n,O f with⟨U,av,V⟩;have z0:l.heap.size=W.heap.size:=by rw[f];simp
 have bh:w.heap.size+1<l.heap.size:=om;clear P hG hT r j hA hR hE Q mU n b R T cf z0 f;go_enter func27,ntmps27;go_upto_region 1 with fail
 rw[<-hW];clear hW;go_upto_region 2 with fail
 rw[<-z V];clear V c3 f3;go_wp2_with fail;refine au.mono ?_;rintro e w1 ⟨x,X,bj,BT,B1,bk,rfl,hd,g⟩;have aw:IV w1<|w.heap.size+1:=(hd.boxes U S<|.inr<|.inr<|.inl rfl).trans S;rcases av.trans hd,O g,hd.size with⟨ad,ax,z1⟩;have ae:=O<|ak.dst hd λh=>oT (U.IC h).1;clear hd g a0 a1 a2 a3 a4 a5 a6 a7 a8 a9 ao aq a12 ar;rw[show H9 x=uC x from rfl];have HF:Hid<|∀w4,w4=w1.alloc (.cells (Mx x).toArray 40)->B9 w1 w4/\w4.heap[w1.heap.size]?=some (.cells (Mx x).toArray 40 (0,0)):=O (λw4 h=>by
  exact⟨by rw[h];exact(BE _ _).alloc (Be _) _,by rw[h];exact DO _ _⟩)
 go_upto_region 3 with(refine Af rfl rfl _ (Xy w1 x) ?_)
 generalize af:w1.alloc (.cells (Mx x).toArray 40)=w4;obtain⟨u,ag⟩:=z HF _ af.symm;rcases O ag,O u,u.size with⟨v,C,z4⟩;clear af u ag HF;go_wp2_with fail;refine m9 (Wj X<|ae.below C<|by have:=ae.lt;exact this) λw5 D=>?_;have ay:=O<|(D.block _<|Ai v).trans v;have E:=O<|C.trans<|D.mono z4;have ah:=aw.below E om;have m:=O ah;clear D v C ah;rcases z ax with⟨t,hx,bm,A',m3⟩|⟨t,hx,u3⟩
 .have d0:(X !=0)=false:=by simp[t]
  obtain⟨m5,i⟩:=m3.below E;obtain⟨w6,o,F⟩:=BL m x;obtain⟨f1,f2⟩:=m5.KQ (ad.trans i) d om om m F;have H:Hid<|qA Z c B0 vN vT vS (AR s a) (Dg s a) w (.returned<|H9 x) w6:=O ⟨by rw[hx],_,_,_,_,_,_,f1,f2⟩;have I:=O o;have K:=O<|F.BH;have az:Hid<|w5.heap[w1.heap.size]?=some (.cells #[J x.code,J x.num,J x.key.kind,J x.key.num,F9 x.key.Ah,.string x.key.str,J x.key.ref,J x.val.kind,J x.val.num,F9 x.val.Ah,.string x.val.str,J x.val.ref] 40 (0,0)):=O ay;clear t hx m3 m5 i o F f1 f2;go_wp2_with (first|(refine Aah rfl 40 _ rfl w1.heap.size rfl _ _ _ _ az underlying40 rfl ou ?_)|(refine Af rfl rfl _ I ?_));refine FP results27 underlying40 K H
 have d0:(X !=0)=true:=by simp[t]
 obtain⟨u5,i⟩:=u3.below E;rcases O (bK u5),O hx,O<|ad.trans i,O u5 with⟨aM,bb,bc,bd⟩;clear t hx u3 u5 i;go_wp2_with fail;refine aM.mono ?_;rintro e w6 ⟨⟨uu,rfl⟩,bn,bp,bq,br,A2,m6,d6⟩;obtain⟨_,_,_,mu,_⟩:=z bd;have L:IV w6<|w.heap.size+1:=(d6.boxes mu m<|.inr<|.inr<|.inl rfl).trans m;obtain⟨w7,p,M⟩:=BL L<|BD X;obtain⟨f1,f2⟩:=m6.KQ (bc.trans d6) d om om L M;have H:Hid<|qA Z c B0 vN vT vS (AR s a) (Dg s a) w (.returned<|H9<|BD X) w7:=O ⟨ql bb,_,_,_,_,_,_,f1,f2⟩;have I:=O p;have K:=O<|M.BH;clear m6 d6 mu L p M f1 f2;go_wp2_with (refine Af rfl rfl _ I ?_);refine FP results27 underlying40 K H
def jU w:(sizeOf 29).run prog w=.ok 3 w:=ou
def vP:(prog.info? 29).map (·.size)=some 3:=ou
abbrev yM:Array Value:=#[N9,N9,N9]
def WN{Bk}{A}(hf:Ar s.nf s.F=0)(a:Qo s x):
  (AX Bk A x=.iface 153 (Le A x)/\∀w,Lc w s B0 Bk->IX w A.va x.nv x.V->FJ w A.la A.ia A.xa x.d->C9 231 #[Le A x] w λe w'=>Y3 x w e w')\/
  (∃p,AX Bk A x=.iface 156 (CK p A x)/\∀w,Lc w s B0 Bk->IX w A.va x.nv x.V->FJ w A.la A.ia A.xa x.d->C9 254 #[CK p A x] w λe w'=>Y3 x w e w'):=by
 rcases a.way with⟨h1,h2,h3⟩|⟨j,h1,h2,h3,h4,h5⟩
 .exact .inl ⟨DD h1,λw _ _ b=>Md A x h1 h2 b a.small⟩
 refine .inr ⟨Bk j,?_,λw hn c _=>NT A x j hn h2 h1 (Qo.nv a hf) h4 c⟩;unfold AX;rw[C3 om,h1];rfl
structure Il (w:Y) (b:Nat) (vF vT vS:V9) (s:AE) (n k:Nat) (H:Nat->Hs) (L:Nat->Nat) (wr:Y):Prop where
 box:wr.heap[b]?=some (.cells #[vF,vT,vS] 29 (0,0))
 res:wr.heap[w.heap.size]?=some (.cells yM 29 (0,0))
 lt:w.heap.size<b
 C7:B9 w wr
 f:ER wr w.heap.size vF n s.F
 si:M6 wr w.heap.size vS s.ns s.S
 t:wr.ownsRow w.heap.size 71 8 vT k<|JD (λi=>IL (H i)<|s.T i) k
 rows:∀i,i<k->Qp (L i) (L<|i+1) wr (H i) (s.T i)
 lo:w.heap.size<=L 0
 mono:∀i,i<k->L i<=L (i+1)
 hi:L k<=wr.heap.size
def N1.type{f}(h:N1 f n w v lo hi){b}(e:v.ownBlock=some b):∃cs,w.heap[b]?=some (.cells cs 168 (0,0)):=by
 rcases h with⟨_,rfl⟩|⟨b',cp,Z,g,rfl,h2,h3,⟨c,hc,_⟩,_⟩
 .cases e
 cases e;exact⟨_,hc⟩
def TL.type{f}(h:TL f n w v lo hi){b}(e:v.ownBlock=some b):∃cs,w.heap[b]?=some (.cells cs 32 (0,0)):=by
 rcases h with⟨_,rfl⟩|⟨b',cp,Z,g,rfl,h2,h3,⟨c,hc,_⟩,_⟩
 .cases e
 cases e;exact⟨_,hc⟩
def Kk.type{f}(h:Kk f n w v lo hi){b}(e:v.ownBlock=some b):∃cs,w.heap[b]?=some (.cells cs 3 (0,0)):=by
 rcases h with⟨_,rfl⟩|⟨b',cp,Z,g,rfl,h2,h3,⟨c,hc,_⟩,_⟩
 .cases e
 cases e;exact⟨_,hc⟩
def Qp.type{h}{t}(H:Qp lo hi w h t){q}(e:h.own q):∃cs ty,w.heap[q]?=some (.cells cs ty (0,0))/\(ty=32\/ty=168\/ty=3):=by
 rcases e with e|e|e|e
 .obtain⟨cs,h⟩:=H.v.type e;exact⟨cs,_,h,.inl rfl⟩
 .obtain⟨cs,h⟩:=H.l.type e;exact⟨cs,_,h,.inr<|.inl rfl⟩
 .obtain⟨cs,h⟩:=H.i.type e;exact⟨cs,_,h,.inr<|.inr rfl⟩
 obtain⟨cs,h⟩:=H.x.type e;exact⟨cs,_,h,.inr<|.inr rfl⟩
section
variable {w:Y} {b:Nat} {vF vT vS:V9} {s:AE} {n k:Nat} {H:Nat->Hs} {L:Nat->Nat} {wr w' X w3:Y}
def Il.below(h:Il w b vF vT vS s n k H L wr)(hb:B9 wr w'):Il w b vF vT vS s n k H L w':=
 ⟨(hb.block _<|Ai h.box).trans h.box,(hb.block _<|Ai h.res).trans h.res,h.lt,o9 h.C7 hb,Xf h.f hb,Xf h.si hb,Xf h.t hb,λi hi=>(h.rows i hi).keep λq e=>hb.block q ((h.rows i hi).own e).2.2,h.lo,h.mono,GO h.hi hb.size⟩
def Il.shape(h:Il w b vF vT vS s n k H L wr)(A:B9 wr X)(g:X.grownBy w3 vF.ownBlock){g3 c}(d:w3.ownsRow w.heap.size 108 3 (S9 g3 (n+1) c) (n+1)<|Ol s.F n++[J (s.F n).parent,.string (s.F n).key,J (s.F n).count])(j:vF.ownBlock=some g3\/X.heap.size<=g3):
  w3.heap[b]?=some (.cells #[vF,vT,vS] 29 (0,0))/\Il w b (S9 g3 (n+1) c) vT vS s (n+1) k H L (w3.setCell (G b 0)<|S9 g3 (n+1) c):=by
 have a:=h.below A;have p:∀(q:Nat) (cs:Array Value) (ty:TypeId),X.heap[q]?=some (Obj.cells cs ty (0,0))->ty≠108->w3.heap[q]?=X.heap[q]?:=λq cs ty hq B=>g.block q (Ai hq) (λe=>by
  obtain⟨cur,hc,_⟩:=A5 a.f e.symm;rw[hc]at hq;cases hq;exact B rfl)
 have o:∀q,q≠b->(w3.setCell (G b 0)<|S9 g3 (n+1) c).heap[q]?=w3.heap[q]?:=λq hq=>At _ _ _ _ (by exact hq);have l:=(p _ _ _ a.box oo).trans a.box;have C:=Ai a.box;have r:g3≠b:=λe=>by
  rcases j with h1|h1
  .obtain⟨cur,hc,_⟩:=A5 a.f h1;rw[e,a.box]at hc;cases hc
  omega
 have u:∀{e Z m:Nat} {v:V9} {xs:List Value},X.ownsRow w.heap.size e Z v m xs->e≠108->e≠29->(w3.setCell (G b 0)<|S9 g3 (n+1) c).ownsRow w.heap.size e Z v m xs:=λx h1 h2=>Ae x (λq e=>by
  obtain⟨cur,hc,_⟩:=A5 x e;exact(o q (λe'=>by rw[e',a.box]at hc;cases hc;exact h2 rfl)).trans (p _ _ _ hc h1))
 have hz:=g.size;refine⟨l,⟨(IH _ _ _ _ _ _ l).trans oq,(o _<|oT h.lt).trans<|(p _ _ _ a.res oo).trans a.res,h.lt,?_,?_,u a.si oo oo,u a.t oo oo,λi hi=>(a.rows i hi).keep λq e=>?_,h.lo,h.mono,by have:=a.hi;simp;omega⟩⟩
 .refine On ?_ (by show w.heap.size<=b;have:=h.lt;omega) _;exact⟨g.os.trans a.C7.os,g.tape.trans a.C7.tape,g.output.trans a.C7.output,oT a.C7.size,λq hq=>(g.block q (oT a.C7.size) λe=>oT (a.f.lt q e.symm).1).trans<|a.C7.block q hq⟩
 .rw[LY s.F n (s.F n) rfl]at d;exact Ae d λq e=>o q<|by cases e;exact r
 obtain⟨cs,ty,hc,hty⟩:=(a.rows i hi).type e;grind [Ol,Il.box]
def Il.table(h:Il w b vF vT vS s n k H L wr)(x:B9 wr X){hh}(F:Qp wr.heap.size X.heap.size X hh<|s.T k)(d:X.grownBy w3 vT.ownBlock){g3 c}(g:w3.ownsRow w.heap.size 71 8 (S9 g3 (k+1) c) (k+1)<|JD (λi=>IL (H i)<|s.T i) k++IL hh (s.T k))(j:vT.ownBlock=some g3\/X.heap.size<=g3):
  w3.heap[b]?=some (.cells #[vF,vT,vS] 29 (0,0))/\Il w b vF (S9 g3 (k+1) c) vS s n (k+1) (AM H k hh) (λi=>if i<=k then(if i=k then wr.heap.size else L i)else X.heap.size) (w3.setCell (G b 1)<|S9 g3 (k+1) c):=by
 have a:=h.below x;have r:∀(q:Nat) (cs:Array Value) (ty:TypeId),X.heap[q]?=some (Obj.cells cs ty (0,0))->ty≠71->w3.heap[q]?=X.heap[q]?:=λq cs ty hq B=>d.block q (Ai hq) (λe=>by
  obtain⟨cur,hc,_⟩:=A5 a.t e.symm;rw[hc]at hq;cases hq;exact B rfl)
 have o:∀q,q≠b->(w3.setCell (G b 1)<|S9 g3 (k+1) c).heap[q]?=w3.heap[q]?:=λq hq=>At _ _ _ _ (by exact hq);have l:=(r _ _ _ a.box oo).trans a.box;have C:=Ai a.box;have u:g3≠b:=λe=>by
  rcases j with h1|h1
  .obtain⟨cur,hc,_⟩:=A5 a.t h1;rw[e,a.box]at hc;cases hc
  omega
 have A:∀{e Z m:Nat} {v:V9} {xs:List Value},X.ownsRow w.heap.size e Z v m xs->e≠71->e≠29->(w3.setCell (G b 1)<|S9 g3 (k+1) c).ownsRow w.heap.size e Z v m xs:=λp h1 h2=>Ae p (λq e=>by
  obtain⟨cur,hc,_⟩:=A5 p e;exact(o q (λe'=>by rw[e',a.box]at hc;cases hc;exact h2 rfl)).trans (r _ _ _ hc h1))
 have hz:=d.size;have D:∀{lo hi:Nat} {hq:Hs} {t:Tb},Qp lo hi X hq t->Qp lo hi (w3.setCell (G b 1)<|S9 g3 (k+1) c) hq t:=λp=>p.keep (λq e=>by
  obtain⟨cs,ty,hc,hty⟩:=p.type e;refine(o q λe'=>?_).trans (r _ _ _ hc ?_)
  .rw[e',a.box]at hc;cases hc;rcases hty with h|h|h<;>cases h
  rcases hty with rfl|rfl|rfl<;>decide)
 refine⟨l,⟨(IH _ _ _ _ _ _ l).trans oq,(o _<|oT h.lt).trans<|(r _ _ _ a.res oo).trans a.res,h.lt,?_,A a.f oo oo,A a.si oo oo,?_,λi hi=>?_,?_,λi hi=>?_,?_⟩⟩
 .refine On ?_ (by show w.heap.size<=b;have:=h.lt;omega) _;exact⟨d.os.trans a.C7.os,d.tape.trans a.C7.tape,d.output.trans a.C7.output,oT a.C7.size,λq hq=>(d.block q (oT a.C7.size) λe=>oT (a.t.lt q e.symm).1).trans<|a.C7.block q hq⟩
 .have e:JD (λi=>IL (AM H k hh i)<|s.T i) (k+1)=JD (λi=>IL (H i)<|s.T i) k++IL hh (s.T k):=by grind [JD,IL,AM,Aj,Dt,Ak]
  rw[e];exact Ae g λq e=>o q<|by cases e;exact u
 .grind [JD,IL,AM,Aj,Ak,Il.hi,Il.rows,Qp.wide]
 .show w.heap.size<=if 0<=k then(if 0=k then wr.heap.size else L 0)else X.heap.size
  rw[DD (To _)];split
  .exact h.C7.size
  exact h.lo
 .have E:=h.hi;show(if i<=k then(if i=k then wr.heap.size else L i)else X.heap.size)<=(if i+1<=k then(if i+1=k then wr.heap.size else L (i+1))else X.heap.size);rw[DD om];by_cases e:i=k
  .rw[DD e,C3 om];exact x.size
  rw[C3 e,DD om];by_cases e2:i+1=k
  .rw[DD e2];have h3:=h.mono i om;rw[e2]at h3;omega
  rw[C3 e2];exact h.mono i om
 show(if k+1<=k then(if k+1=k then wr.heap.size else L (k+1))else X.heap.size)<=_;rw[C3 om];simp;omega
def Il.whole(h:Il w b vF vT vS s s.nf s.nt H L wr)(hn:0<s.nf){w4}(c:Bu wr w4 w.heap.size #[vF,vT,vS] 29):XS w.heap.size w4.heap.size w4 vF vT vS s H/\B9 w w4:=by
 have D:∀{e Z m:Nat} {v:V9} {xs:List Value},wr.ownsRow w.heap.size e Z v m xs->e≠29->w4.ownsRow w.heap.size e Z v m xs:=λr h1=>Ae r (λq e=>by
  obtain⟨cur,hc,_⟩:=A5 r e;exact c.other q (λe'=>by rw[e',h.res]at hc;cases hc;exact h1 rfl))
 have a:∀i,i<s.nt->Qp (L i) (L<|i+1) w4 (H i) (s.T i):=λi hi=>(h.rows i hi).keep (λq e=>c.other q (λe'=>by
  obtain⟨cs,ty,hc,hty⟩:=(h.rows i hi).type e;rw[e',h.res]at hc;cases hc;rcases hty with h|h|h<;>cases h))
 have hmono:∀i j,i<=j->j<=s.nt->L i<=L j:=λi j I=>by
  induction j with
  |zero=>
   intro _;have:i=0:=om;subst this;exact Be _
  |succ j ih=>
   intro hj;by_cases e:i=j+1
   .subst e;exact Be _
   exact GO (ih om om)<|h.mono j om
 have g:∀i,i<s.nt->Qp w.heap.size w4.heap.size w4 (H i) (s.T i):=λi hi=>(a i hi).wide (GO h.lo<|hmono 0 i (To _) om) (by
  rw[c.size];exact GO (hmono (i+1) s.nt om (Be _)) h.hi)
 have n:=D h.t oo;have A:=D h.f oo;have B:=D h.si oo;have E:∀i q,i<s.nt->(H i).own q->∀{e Z m:Nat} {v:V9} {xs:List Value},w4.ownsRow w.heap.size e Z v m xs->e≠32->e≠168->e≠3->v.ownBlock≠some q:=λi q hi hq e Z m v xs r h1 h2 h3 k=>by
  obtain⟨cs,ty,hc,hty⟩:=(a i hi).type hq;obtain⟨cur,o,_⟩:=A5 r k;rw[hc]at o;cases o;rcases hty with h|h|h
  .exact h1 h
  .exact h2 h
  exact h3 h
 have d:∀i j q,i<s.nt->j<s.nt->(H i).own q->(H j).own q->i=j:=λi j q hi hj h1 h2=>by
  have a1:=(a i hi).own h1;have a2:=(a j hj).own h2;rcases Nat.lt_trichotomy i j with h3|h3|h3
  .have:=hmono (i+1) j om om;omega
  .exact h3
  have:=hmono (j+1) i om om;omega
 refine⟨⟨GV.of A hn,?_,cO.of B,λq e=>Cv A n oo e,λq e=>Cv A B oo e,λq i e hi k=>E i q hi k A oo oo oo e,λq e=>Cv B n oo e,λq i e hi k=>E i q hi k B oo oo oo e⟩,c.below h.C7<|Be _⟩;obtain⟨hl,⟨F,K⟩|⟨g',cap,cur,F,hb,p,h1,h2,h3,h4⟩⟩:=id n
 .exact .inl ⟨K,F⟩
 subst F;refine .inr ⟨g',cap,cap*8,λj=>(cur[j]?).getD undef,rfl,hb,(n.lt g' rfl).2,⟨cur,p,h3,λi hi=>by simp[AaP (show i<cur.size by omega)]⟩,om,λi hi=>?_,⟨λi hi k=>E i g' hi k n oo oo oo rfl,d,λi q hi=>(a i hi).vl q,λi q hi=>(a i hi).vi q,λi q hi=>(a i hi).vx q,λi q hi=>(a i hi).li q,λi q hi=>(a i hi).lx q,λi q hi=>(a i hi).ix q⟩⟩;have hc:∀j u,(IL (H i)<|s.T i)[j]?=some u->w4.cell? (G g'<|i*8+j)=some u:=λj u hu=>by
  have hj:j<8:=(SO.1 hu).1;rw[Lo n (i*8+j) om,IE (m:=8) (λ_=>rfl) hi hj,hu]
 have C:=g i hi;exact⟨hc 0 _ rfl,hc 1 _ rfl,hc 2 _ rfl,hc 3 _ rfl,hc 4 _ rfl,hc 5 _ rfl,hc 6 _ rfl,hc 7 _ rfl,C.v,C.l,C.i,C.x⟩
end
def Ii(nb:Nat)(p:Br)(W:Y):Prop:=W.cell? (G nb 1)=some (J p.parent)/\W.cell? (G nb 2)=some (.string p.key)/\W.cell? (G nb 3)=some (J p.count)
def Ii.keep{nb}{p}(h:Ii nb p W)(hk:W'.heap[nb]?=W.heap[nb]?):Ii nb p W':=
 ⟨(As (a:=G nb 1) hk).trans h.1,(As (a:=G nb 2) hk).trans h.2.1,(As (a:=G nb 3) hk).trans h.2.2⟩
def NZ(_:Y):Prop:=True
def Lc.shape{b0}{B}(h:Lc w s b0 B){j}(hj:j<s.nf):Ii (B j) (s.F j) w/\∃cs,w.heap[B j]?=some (.cells cs 125 (0,0)):=by
 obtain⟨Z,M,h1,h2⟩:=h;have a:=h1.node j hj<|h2 j hj;refine⟨⟨a.cell (i:=1) om,a.cell (i:=2) om,a.cell (i:=3) om⟩,?_⟩;obtain⟨c,hc,_⟩:=a;exact⟨c,hc⟩
def Bg.wB{Bk}(h:Bg Z w c B0 vN vT vS vU Bk A s)(hn:0<s.nf):∃g cp,vN=.slice (some<|G g 0) s.nf cp/\g<w.heap.size/\∀i,i<s.nf->w.cell? (G g i)=some (.pointer<|some<|G (Bk i) 0):=by
 obtain⟨hl,⟨b,d⟩|⟨g,cap,cur,b,hb,a,h1,h2,h3,h4⟩⟩:=h.n
 .omega
 exact⟨g,cap,b,(GC.1 a).1,λi hi=>by rw[Lo (b▸h.n) i om,LO hi]⟩
def XM{Bk}(hM:Bg Z w c B0 vN vT vS vU Bk A s)(hG:Kl s):
  C9 28 #[Q9 c] w λe w'=>(∃vF BT B1 H,e=.returned (.agg #[vF,BT,B1])/\XS w.heap.size w'.heap.size w' vF BT B1 s H)/\B9 w w':=by
 rcases Ok Jo,Ok J5,Ok MC,Av hG.f with⟨⟨i0,br,bt,bu,bw⟩,⟨k0,bz,b1,b2,b3⟩,⟨t0,b4,b5,b6,b7⟩,⟨f1,_⟩⟩;have ai:0<s.nf:=oT f1.1;rcases f1.2,hG.ns,hG.nt with⟨cn,cp,cq⟩;obtain⟨gN,cN,rfl,b8,bb⟩:=hM.wB ai;obtain⟨ta,tc,rfl⟩:=Au hM.t;obtain⟨sa,sc,rfl⟩:=Au hM.si;obtain⟨W,hW,av,b9,b0⟩:=Ll w<|.cells yM 29;have aw:=(hM.below av).1;rcases aw.cells.2.2.1,O<|M6.news aw.si,O bb with⟨c2,bc,ca⟩;have a6:w.heap.size<=W.heap.size:=om;have bd:Hid<|∀a1 c1 w1,w1.ownsRow w.heap.size 57 5 (.slice a1 s.ns c1) s.ns (JI s.S s.ns)->W.grownBy w1 none->(∀q,(Value.slice a1 s.ns c1).ownBlock=some q->q=w.heap.size+1)->Il w w1.heap.size N9 N9 (.slice a1 s.ns c1) s 0 0 (λ_=>⟨.nilFunc,.nilFunc,.nilFunc,.nilFunc⟩) (λ_=>w.heap.size) (w1.alloc<|.cells #[N9,N9,.slice a1 s.ns c1] 29):=O (by
  intro a1 c1 w1 h1 h2 h3;have U:=J1 av om h2;have hz:=h2.size;have u:B9 w (w1.alloc (.cells #[N9,N9,.slice a1 s.ns c1] 29)):=U.alloc U.size _;refine⟨DO _ _,(E1 _ _ _ om).trans ((h2.block _ om oq).trans b0),om,u,IF _ _ _ _,NX h1 _,IF _ _ _ _,λi hi=>absurd hi (P9 _),Be _,λi hi=>absurd hi (P9 _),u.size⟩)
 clear aw bb av b0;go_enter func28,ntmps28;go_upto_region 1 with fail
 rw[<-hW];clear hW;go_upto_region 2 with(at_builtin;refine CV rfl _ _ 27 rfl w.heap.size 57 i0 (.agg #[E9,J 0,J 0,J 0,J 0]) 5 48 underlying27 br bt bu bw rfl oo rfl sa s.ns sc (JI s.S s.ns) rfl (Gu _ _) bc (Tq _ _) od om a6 (w.heap.size+1) b9 ?_;intro a1 c1 w1 V X ad;have HI:=O<|bd a1 c1 w1 V X ad;have zz:=X.size;clear V X ad)
 obtain⟨w2,bf⟩:=qa<|w1.alloc<|.cells #[N9,N9,.slice a1 s.ns c1] 29;rw[<-bf]at HI ⊢;obtain⟨j,bg⟩:=qa w1.heap.size;rw[<-bg]at HI ⊢;obtain⟨B1,aj⟩:=qa<|Value.slice a1 s.ns c1;rw[<-aj]at HI;have cm:=HI.lt;have c0:=((hM.below HI.C7).1).cells.1;clear bf bg aj c2 bd bc zz;go_wp2_with fail;go_loopw [20] (λi wr=>∃(k:Nat) (vF:V9),k<=s.nf/\i=J k/\Il w j vF N9 B1 s k 0 (λ_=>⟨.nilFunc,.nilFunc,.nilFunc,.nilFunc⟩) (λ_=>w.heap.size) wr) λi _=>s.nf-(intOf i).toNat
 .exact⟨0,_,om,rfl,HI⟩
 clear HI c0;obtain⟨k,vF,hk,rfl,a⟩:=hrel;rcases (hM.below a.C7).1,O a,a.C7.size with⟨B,R,bh⟩;by_cases r:k<s.nf
 ·
  obtain⟨ax,cs,hcs⟩:=Lc.shape B.nd r;have xN:=o7 a.C7 b8<|ca k r;have bj:=Ai hcs;obtain⟨M,P,rfl⟩:=Au a.f;have g:=a.box;have y0:wr.cell? (G j 0)=some (.slice M k P):=by simp[World.cell?,g]
  have ay:=Ai g;have cb:Bk k≠j:=λe=>by rw[e,g]at hcs;cases hcs
  have ak:Ii (Bk k) (s.F k) wr.drew:=ax;have aq:B9 wr<|(wr.alloc<|.cells #[J (s.F k).parent,.string (s.F k).key,J (s.F k).count] 108).drew:=(n9).drew;rcases ax.keep (aq.block _ bj),o7 aq ay y0,O a.f with⟨C,yX,ar⟩;have HF:Hid (∀g3 b w3,w3.ownsRow w.heap.size 108 3 (S9 g3 (k+1) b) (k+1) (Ol s.F k++[J (s.F k).parent,.string (s.F k).key,J (s.F k).count])->(wr.alloc<|.cells #[J (s.F k).parent,.string (s.F k).key,J (s.F k).count] 108).drew.grownBy w3 (Value.ownBlock<|.slice M k P)->(Value.ownBlock (.slice M k P)=some g3\/g3=(wr.alloc<|.cells #[J (s.F k).parent,.string (s.F k).key,J (s.F k).count] 108).drew.heap.size)->
    Ii (Bk k) (s.F k) w3/\Ii (Bk k) (s.F k) (w3.setCell (G j 0) (S9 g3 (k+1) b))/\w3.cell? (G j 0)=some (.slice M k P)/\w3.frozen? (G j 0)=false/\j<w3.heap.size/\Il w j (S9 g3 (k+1) b) N9 B1 s (k+1) 0 (λ_=>⟨.nilFunc,.nilFunc,.nilFunc,.nilFunc⟩) (λ_=>w.heap.size) (w3.setCell (G j 0) (S9 g3 (k+1) b))):=O (by
   intro g3 b w3 h1 h2 h3;obtain⟨p1,p2⟩:=a.shape aq h2 h1<|h3.imp id λe=>om;have ae:Ii (Bk k) (s.F k) w3:=C.keep (h2.block _ (A0 bj aq.size) (λe=>by
    obtain⟨cur,hc,_⟩:=A5 a.f e.symm;rw[hc]at hcs;cases hcs))
   exact⟨ae,ae.keep (At _ _ _ _ (by exact cb)),by simp[World.cell?,p1],by simp[World.frozen?,p1],Ai p1,p2⟩)
  clear B a ax hcs g R;go_wp2_with fail;refine Hx (Ii (Bk k)<|s.F k) ?_;refine tz 0 (h:=tz 1 (h:=tz 3 (h:=tz 4 (h:=tz 5 (h:=tz 6 (h:=?_))))));refine Aaz (rs:=[2,7]) ou oq ?_;refine OK rfl (λK hK=>?armA) (OK rfl (λK hK=>?armB) Aay)
  case' armA=>
   go_simp;refine hK.out _ _ ak λ_=>?_;clear hK K;refine ry 7 λK hK=>?_;go_simp;refine hK.out _ _ C λbk=>?_;clear hK K
  case' armB=>
   go_simp;refine hK.out _ _ C λbk=>?_;clear hK K;refine ry 2 λK hK=>?_;go_simp;refine hK.out _ _ C λ_=>?_;clear hK K
  all_goals
   refine ry 8 λK hK=>?_;refine Re _ rfl (.tmp 26) (.tmp 31) 23 rfl w.heap.size 108 k0 (Sh 0 ⟨#[]⟩ 0) 3 32 underlying23 bz b1 b2 b3 rfl oo (.slice M k P) k (Ol s.F k) og (World.ownsRow.drew<|NX ar _) (y wr 0) 1 1 [J (s.F k).parent,.string (s.F k).key,J (s.F k).count] og rfl (Is (w:=(wr.alloc<|.cells #[J (s.F k).parent,.string (s.F k).key,J (s.F k).count] 108).drew)<|DO wr _) oh oo od om ot _ rfl ?_;intro g3 b w3 l D o a7;obtain⟨ae,E,x3,f3,cc,I⟩:=z HF g3 b w3 l D o;have af:=O I;clear l D o I;refine hK.out _ _ ae λa8=>?_;clear hK K;simp only[Act.put,AaQ,AaI,AaH,XN,AaW,AaV];refine tz 9 (h:=tz 10 (h:=?_));refine ry 11 λK hK=>?_;go_simp;refine hK.out _ _ E λ_=>?_;clear hK K;refine FI ?_;clear ae E a8 x3 f3 bk ak C yX y0 xN;obtain⟨w4,ag⟩:=qa<|w3.setCell (G j 0)<|S9 g3 (k+1) b;rw[<-ag]at af ⊢;clear ag;go_wp2;go_roundw
   .exact⟨k+1,_,om,ov,af⟩
   exact ow
 have az:k=s.nf:=om;subst az;have c1:=B.cells.2.1;clear B a r;go_wp2_with fail;go_loopw [42] (λi wr=>∃(k:Nat) (vT:V9) (H:Nat->Hs) (L:Nat->Nat),k<=s.nt/\i=J k/\Il w j vF vT B1 s s.nf k H L wr) λi _=>s.nt-(intOf i).toNat
 .exact⟨0,_,_,_,om,rfl,R⟩
 clear R c1 bh;obtain⟨k,vT,H,L,hk,rfl,a⟩:=hrel;rcases (hM.below a.C7).1,(hM.below a.C7.drew).1,a.C7.size,O a with⟨B,ah,bh,R⟩;by_cases r:k<s.nt
 .obtain⟨gT,cr,cd,ct,_,xT,_⟩:=B.CA r;cases cd;obtain⟨M,P,rfl⟩:=Au a.t;have g:=a.box;have ay:=Ai g;have y1:wr.cell? (G j 1)=some (.slice M k P):=by simp[World.cell?,g]
  have ar:=O a.t;have HF:Hid (∀w2 hh g3 b w3,Qp wr.heap.size w2.heap.size w2 hh (s.T k)->Below wr.heap.size wr.drew w2->w3.ownsRow w.heap.size 71 8 (S9 g3 (k+1) b) (k+1) (JD (λi=>IL (H i)<|s.T i) k++IL hh (s.T k))->(w2.alloc<|.cells (IL hh<|s.T k).toArray 71).grownBy w3 (Value.ownBlock<|.slice M k P)->(Value.ownBlock (.slice M k P)=some g3\/g3=(w2.alloc<|.cells (IL hh<|s.T k).toArray 71).heap.size)->
    w3.cell? (G j 1)=some (.slice M k P)/\w3.frozen? (G j 1)=false/\j<w3.heap.size/\∃H' L',Il w j vF (S9 g3 (k+1) b) B1 s s.nf (k+1) H' L' (w3.setCell (G j 1) (S9 g3 (k+1) b))):=O (by
   intro w2 hh g3 b w3 hR hb h1 h2 h3;have U:=(BE _ _).drew.trans hb;have u:B9 wr (w2.alloc (.cells (IL hh (s.T k)).toArray 71)):=U.alloc U.size _;have cg:Qp wr.heap.size (w2.alloc (.cells (IL hh (s.T k)).toArray 71)).heap.size (w2.alloc (.cells (IL hh (s.T k)).toArray 71)) hh (s.T k):=(hR.keep (λq e=>E1 _ _ _ (hR.own e).2.2)).wide (Be _) oq;obtain⟨p1,p2⟩:=a.table u cg h2 h1 (h3.imp id (λe=>om));exact⟨by simp[World.cell?,p1],by simp[World.frozen?,p1],Ai p1,_,_,p2⟩)
  have ch:NZ wr.drew:=trivial;rcases WN (B0:=B0) (Bk:=Bk) (A:=A k) hG.f (hG.t k r)with⟨aM,Q⟩|⟨pk,aM,Q⟩;all_goals
   rw[aM]at xT;have HC:=O<|Q wr.drew ah.nd (ah.rd k r).now.1 (ah.rd k r).now.2;clear aM Q B ah a g R;go_wp2_with fail;refine Hx NZ ?_;refine tz 0 (h:=tz 2 (h:=?_));refine Aaz (rs:=[1,3]) ou oq ?_;refine OK rfl (λK hK=>?_) (OK rfl (λK hK=>?_) Aay);go_simp;refine hK.out _ _ ch λ_=>?_;clear hK K;refine ry 3 λK hK=>?_;go_simp;rotate_left;go_simp;all_goals
    refine HC.mono ?_;rintro e w2 ⟨⟨hh,rfl,hR⟩,u⟩;obtain⟨a1,c1,a2,c2,a3,c3,a4,c4,rfl⟩:=hR.one;have au:B9 wr w2:=(BE _ _).drew.trans u;have z2:=au.size;have y2:=o7 au ay y1;have y3:(w2.alloc<|.cells #[J (s.T k).shape,.slice a1 (s.T k).nv c1,.slice a2 (s.T k).d.n c2,.slice a3 (s.T k).d.m c3,.slice a4 (s.T k).d.x c4,J (s.T k).d.used,J (s.T k).d.live,J (s.T k).d.turns] 71).cell? (G j 1)=some (.slice M k P):=Io y2;have bm:=Xf ar au;have bn:=O λg3 b w3=>HF w2 _ g3 b w3 hR u;have bp:NZ w2:=trivial;have e8:(IL ⟨.slice a1 (s.T k).nv c1,.slice a2 (s.T k).d.n c2,.slice a3 (s.T k).d.m c3,.slice a4 (s.T k).d.x c4⟩<|s.T k).toArray=#[J (s.T k).shape,.slice a1 (s.T k).nv c1,.slice a2 (s.T k).d.n c2,.slice a3 (s.T k).d.m c3,.slice a4 (s.T k).d.x c4,J (s.T k).d.used,J (s.T k).d.live,J (s.T k).d.turns]:=rfl;rw[e8];refine hK.out _ _ bp λ_=>?_;clear hK K hR u au e8
   refine Aaz (rs:=[1,4]) ou oq ?_;refine OK rfl (λK hK=>?_) (OK rfl (λK hK=>?_) Aay);go_simp;refine hK.out _ _ bp λ_=>?_;clear hK K;refine ry 4 λK hK=>?_;go_simp;refine hK.out _ _ trivial (λ_=>?_);clear hK K;rotate_left;go_simp;refine hK.out _ _ trivial (λ_=>?_);clear hK K;refine ry 1 λK hK=>?_;go_simp;refine hK.out _ _ trivial (λ_=>?_);clear hK K;rotate_left;refine ry 4 λK hK=>?_;go_simp;refine hK.out _ _ trivial (λ_=>?_);clear hK K;all_goals
    clear HC HF ar;refine ry 5 λK hK=>?_;refine Re _ rfl (.tmp 47) (.tmp 50) 26 rfl w.heap.size 71 t0 (.agg uO) 8 128 underlying26 b4 b5 b6 b7 rfl oo (.slice M k P) k (JD (λi=>IL (H i)<|s.T i) k) og (NX bm _) (y w2 0) 1 1 [J (s.T k).shape,.slice a1 (s.T k).nv c1,.slice a2 (s.T k).d.n c2,.slice a3 (s.T k).d.m c3,.slice a4 (s.T k).d.x c4,J (s.T k).d.used,J (s.T k).d.live,J (s.T k).d.turns] og rfl (Is<|DO w2 _) oh oo od om ot _ rfl ?_;intro g3 b w3 l D o a7;obtain⟨x3,f3,cc,H',L',I⟩:=z bn g3 b w3 l D o;have af:=O I;have cj:NZ w3:=trivial;clear l D o I bn bm y1 y2 y3 xT;refine hK.out _ _ cj λ_=>?_;clear hK K;simp only[Act.put,AaQ,AaI,AaH,XN,AaW,AaV];refine tz 6 (h:=?_);refine ry 7 λK hK=>?_;go_simp;refine hK.out _ _ trivial (λ_=>?_);clear hK K;refine FI ?_;clear x3 f3;obtain⟨w4,ag⟩:=qa<|w3.setCell (G j 1)<|S9 g3 (k+1) b;rw[<-ag]at af ⊢;clear ag;go_wp2;go_roundw
    .exact⟨k+1,_,_,_,om,ov,af⟩
    exact ow
 have az:k=s.nt:=om;subst az;obtain⟨ga,gc,rfl⟩:=Au a.f;obtain⟨M,P,rfl⟩:=Au a.t;obtain⟨za,zc,rfl⟩:=Au a.si;obtain⟨w4,ao,E⟩:=BP (v:=.agg #[.slice ga s.nf gc,.slice M s.nt P,.slice za s.ns zc]) (vs:=[.slice ga s.nf gc,.slice M s.nt P,.slice za s.ns zc]) jU a.res rfl rfl oh rfl;rcases O ao,O a.box,O<|a.whole ai E,A9 E 0 _ rfl,A9 E 1 _ rfl,A9 E 2 _ rfl with⟨ck,cl,bq,r0,r1,r2⟩;clear B ah a R ao E r;go_wp2_with (first|(refine Aah rfl 29 _ rfl j rfl _ _ _ _ cl underlying29 rfl vP ?_)|(refine Af rfl rfl _ ck ?_));refine Fs (v:=.agg #[.slice ga s.nf gc,.slice M s.nt P,.slice za s.ns zc]) (by simp[results,results28,go_sem,r0,r1,r2]) rfl ⟨⟨_,_,_,_,rfl,bq.1⟩,bq.2⟩
def XS.forms(h:XS lo hi w vF vT vS s H):∃c d ta tc sa sc,vF=.slice c s.nf d/\vT=.slice ta s.nt tc/\vS=.slice sa s.ns sc:=by
 obtain⟨c,d,hf⟩:=h.f.form;have i:∃ta tc,vT=.slice ta s.nt tc:=by
  rcases h.t with⟨e,a⟩|⟨b,cp,Z,g,a,_⟩;all_goals grind
 have hs:∃ta tc,vS=.slice ta s.ns tc:=by
  rcases h.si with⟨e,a⟩|⟨b,cp,Z,g,a,_⟩;all_goals grind
 all_goals grind
def Pk{T}(hL:EJ T){m}(fc){ta:Option Addr}(tc){sa:Option Addr}(sc){s}(D){A}{w:Y}(bn:T w)(hF:BQ w m s.nf s.F)(hT:Sm w ta s.nt s.T A)(hS:Lh w sa s.ns s.S)(hs:Hc s)(hk:∀i,i<s.ns->(s.S i).key.size<=maxLen)
  (hD:∀i,i<s.nt->∀la lc ia ic xa xc,cJ T la lc ia ic xa xc (s.T i).d<|D i):
  C9 17 #[NF (some<|G m 0) fc ta tc sa sc s] w λe w'=>XQ w s D A e w'/\B9 w w':=by
 rcases hF.lt,hs.nt,hs.n,hs.f.1,Ok Uy,O hs,O hk,O hD,TM w (.cells #[.slice (some<|G m 0) s.nf fc,.slice ta s.nt tc,.slice sa s.ns sc] 29) (.cells #[N9,N9] 61) with⟨b8,cv,cw,b9,⟨i0,hi,bp,bq,br⟩,ca,HK,HD,⟨W,hW,ai,bt,o0,_⟩⟩;obtain⟨_,x1,x2⟩:=v3 o0;have r0:W.cell? (Y9 w 0)=some (N9):=by rw[hW];simp[go_sem]
 obtain⟨r1,f0,f1⟩:W.cell? (Y9 w 1)=some (N9)/\W.frozen? (Y9 w 0)=false/\W.frozen? (Y9 w 1)=false:=by rw[hW];simp[go_sem]
 have lw:w.heap.size<W.heap.size:=om;have lr:w.heap.size+1<W.heap.size:=om;rcases O (hF.below ai b8),O<|hT.below ai,O<|hS.below ai rfl,O<|hL _ _ bn ai,O bt with⟨HF,HT,HS,cb,HZ⟩;clear hs hk hD hF hT hS bn bt;go_enter func17,ntmps17;go_wp2_with fail;rw[<-hW];clear hW;refine(ZG fc HF b9).mono ?_;rintro e w1 ⟨hj,E⟩;rcases (E.cell lw).trans x1,(E.cell lw).trans x2,(E.cell lr).trans r0,(E.cell lr).trans r1,(E.frozen lr).trans f0,(E.frozen lr).trans f1,A0 lw E.size,A0 lr E.size,o9 ai E with⟨y1,y2,s0,s1,g0,g1,bu,l,ak⟩;rcases hj with⟨r,rfl,hr,ay⟩|⟨g,cp,B,Z,M,rfl,h1,hN,hid,⟨cc,av⟩,az⟩
 .have cx:(r !=0)=true:=by simpa using ay
  have HO:=O<|JL (D:=D) (by rw[<-hr];exact ay);clear E hr ay;go_wp2;refine Fs (v:=.tuple #[.agg #[N9,N9],J 1]) (by simp[results,results17,go_sem,s0,s1]) rfl ⟨.inl ⟨1,rfl,HO.symm,oo⟩,?_⟩;repeat(refine On ?_ ox _)
  exact ak
 have H1:=O h1;have cd:w1.ownsRow w.heap.size 122 1 (.slice (some<|G g 0) s.nf cp) s.nf<|ptrs B s.nf:=PM av<|oT<|z HZ;clear av;have af:g≠w.heap.size+1:=λe=>by
  have bw:=az 0<|oT (Av h1).1.1;rw[e,s0]at bw;cases bw
 have bx:Hid<|Nd w1 s (w.heap.size+1+1) g B Z M:=O ⟨(z HZ)▸hN,hid,cc,az⟩;rcases HT.below E,O<|HS.below E rfl,O (hL _ _ cb E) with⟨cg,ch,bg⟩;clear h1 hN hid az E x1 x2 r0 r1 f0 f1 HF HT HS;by_cases h2:100<s.nt
 .have HO:=O<|JM (D:=D) H1 λh=>om;go_wp2;refine Fs (v:=.tuple #[.agg #[N9,N9],J 2]) (by simp[results,results17,go_sem,s0,s1]) rfl ⟨.inl ⟨2,rfl,HO.symm,oo⟩,?_⟩;repeat(refine On ?_ ox _)
  exact ak
 by_cases h3:50<s.ns
 .have HO:=O<|JM (D:=D) H1 λh=>om;go_wp2;refine Fs (v:=.tuple #[.agg #[N9,N9],J 2]) (by simp[results,results17,go_sem,s0,s1]) rfl ⟨.inl ⟨2,rfl,HO.symm,oo⟩,?_⟩;repeat(refine On ?_ ox _)
  exact ak
 have H2:Hid<|s.nt<=100/\s.ns<=50:=O ⟨om,om⟩;go_wp2;go_loopw [6,35] (λv i wr=>∃(k:Nat),k<=s.nt/\i=J k/\wr.ownsRow w1.heap.size 103 1 v k (kL B A s k)/\B9 w1 wr/\∀q,q<k->Ld s (D q) (s.T q)) λ_ i _=>s.nt-(intOf i).toNat
 .exact⟨0,om,rfl,IF _ _ _ _,BE _ _,λq hq=>om⟩
 obtain⟨k,hk,rfl,ho,hb,H⟩:=hrel;rcases (hb.cell bu).trans y1,(hb.cell bu).trans y2,hb.size with⟨p1,p2,cy⟩;by_cases I:k<s.nt
 case pos=>
  obtain⟨b,off,rfl,aM,hcs⟩:=cg.resolve_left om;obtain⟨e0,e1,e2,e3,e4,e5,e6,e7⟩:=(hcs k I).1.WJ λq _=>hb.cell aM;have ae:Hid<|∀o,B9 w<|wr.alloc o:=O λo=>(ak.trans<|hb.mono om).alloc om _;have R:Hid<|∀o,B9 w1<|wr.alloc o:=O λo=>hb.alloc om _;have ah:Hid<|IX wr (A k).va (s.T k).nv (s.T k).V/\FJ wr (A k).la (A k).ia (A k).xa (s.T k).d/\T wr/\Nd wr s (w.heap.size+1+1) g B Z M:=O ⟨(hcs k I).2.1.below hb rfl,(hcs k I).2.2.below hb,hL _ _ bg hb,bx.below hb⟩;rcases O H,O ho,O ho.lt,ca.nv I with⟨ag,aw,ar,bz⟩;clear hcs H ho;by_cases U:(s.T k).shape=-1
  .have a6:Hid<|AX B (A k) (s.T k)=.iface 153 (Le (A k)<|s.T k):=O<|DD U;have ao:Hid<|Ld s (D k) (s.T k)↔((s.T k).nv=0/\D k=0):=O ⟨λh=>by rcases h with h|h;exact h.2;omega,λh=>.inl ⟨U,h⟩⟩;rw[U]at e0;clear U hb;go_wp2_with fail;refine m9 (UG (some<|G g 0) s.nf cp (A k) (s.T k) _) λw3 t=>?_;have z3:=t.size;simp at z3;have K:=O<|o9 (ae _) t;have X:=O<|o9 (R _) t;have C:=O<|((BE wr.heap.size wr).alloc (Be _)<|.cells #[J (-1),.slice (A k).va (s.T k).nv (A k).vc,.slice (A k).la (s.T k).d.n (A k).lc,.slice (A k).ia (s.T k).d.m (A k).ic,.slice (A k).xa (s.T k).d.x (A k).xc,J (s.T k).d.used,J (s.T k).d.live,J (s.T k).d.turns] 71).trans<|t.mono oq;clear e0 e1 e2 e3 e4 e5 e6 e7 p1 p2 t;go_wp2_with fail;refine m9 (Mc hL (A k).vc (s.T k) (hL _ _ ah.2.2.1 C) (ah.1.below C rfl) bz (ah.2.1.below C)<|HD k I _ _ _ _ _ _) λw4 L=>?_;have z4:=L.size;have a7:=O<|o9 K L;have P:=O<|X.trans<|L.mono om;have a8:=O<|Xf aw<|C.trans<|L.mono om;clear L;by_cases hO:Ld s (D k)<|s.T k
   case neg=>
    rw[Ag (λc=>hO ((z ao).2 c))];rcases O (JN H1 H2 λh=>hO<|h k I),(P.cell l).trans s0,(P.cell l).trans s1,(P.frozen l).trans g0,(P.frozen l).trans g1 with⟨HO,s0,s1,g0,g1⟩;clear hO;go_wp2;refine Fs (v:=.tuple #[.agg #[N9,N9],J 3]) (by simp[results,results17,go_sem,s0,s1]) rfl ⟨.inl ⟨3,rfl,HO.symm,oo⟩,?_⟩;repeat(refine On ?_ ox _)
    exact a7
   rw[Al ((z ao).1 hO)];have aq:=O hO;clear hO;go_wp2_with (first|(at_builtin;refine ON _ rfl _ _ 59 rfl w1.heap.size 103 i0 .nilIface 1 16 underlying59 hi bp bq br rfl oo u6 k (kL B A s k) rfl (a8.alloc _) (y w4 0) 1 1 [AX B (A k) (s.T k)] rfl rfl (by rw[z a6];exact Is<|DO _ _) (by intro u hu;rw[List.mem_singleton]at hu;subst hu;exact Ru _ _ _) oo od om ot _ rfl ?_;intro g3 cj w5 Q ad au bh;have bb:=O<|(P.alloc om _).trans<|Dd ad (λq e=>(ar q e).1) ot;have bc:=O Q;clear Q ad)|go_in);go_roundw
   .refine⟨k+1,om,ov,?_,bb,λq hq=>?_⟩
    .rw[<-SX];exact bc
    by_cases e:q=k
    .subst e;exact aq
    exact ag q om
   exact ow
  by_cases aj:0<=(s.T k).shape/\(s.T k).shape<s.nf
  case neg=>
   rcases O (JN (D:=D) H1 H2 λh=>by rcases h k I with q|q;exact U q.1;exact aj ⟨q.1,q.2.1⟩),O U,O aj with⟨HO,ck,cl⟩;clear U aj hb;go_wp2_with fail;refine m9 (WK (some<|G g 0) s.nf cp (A k) (s.T k) (s.T k).shape _ ck cl) λw3 t=>?_;have K:=O<|o9 (ae _) t;have X:=o9 (R _) t;clear e0 e1 e2 e3 e4 e5 e6 e7 p1 p2 t;rcases (X.cell l).trans s0,(X.cell l).trans s1,(X.frozen l).trans g0,(X.frozen l).trans g1 with⟨s0,s1,g0,g1⟩;go_wp2;refine Fs (v:=.tuple #[.agg #[N9,N9],J 3]) (by simp[results,results17,go_sem,s0,s1]) rfl ⟨.inl ⟨3,rfl,HO.symm,oo⟩,?_⟩;repeat(refine On ?_ ox _)
   exact K
  obtain⟨j,hj⟩:∃j:Nat,(s.T k).shape=j:=⟨(s.T k).shape.toNat,om⟩;have bd:j<s.nf:=om;have a6:Hid<|AX B (A k) (s.T k)=.iface 156 (CK (B j) (A k)<|s.T k):=O (by unfold AX;rw[C3 U,hj];rfl);have ao:Hid<|Ld s (D k) (s.T k)↔U5 s j (s.T k):=O ⟨λh=>by
   rcases h with h|h
   .exact absurd h.1 U
   have:=h.2.2;rwa [hj]at this,λh=>.inr ⟨aj.1,aj.2,by rw[hj];exact h⟩⟩
  rw[hj]at e0;have ax:=ah.2.2.2;rcases ax.uR j bd,ax.CX bd,ax.lt with⟨b1,⟨cm,b2⟩,bj⟩;clear U aj hj ax hb;have cn:=O b1;have bk:=O b2;clear b1 b2;go_wp2_with fail;refine m9 (ZN g s.nf cp (B j) (A k) (s.T k) j _ bd ot<|(It _ _ _<|by exact bj).trans cn) λw3 t=>?_;have z3:=t.size;simp at z3;have K:=o9 (ae _) t;have X:=o9 (R _) t;have C:=((BE wr.heap.size wr).alloc (Be _)<|.cells #[J (j:Int),.slice (A k).va (s.T k).nv (A k).vc,.slice (A k).la (s.T k).d.n (A k).lc,.slice (A k).ia (s.T k).d.m (A k).ic,.slice (A k).xa (s.T k).d.x (A k).xc,J (s.T k).d.used,J (s.T k).d.live,J (s.T k).d.turns] 71).trans<|t.mono oq;clear e0 e1 e2 e3 e4 e5 e6 e7 p1 p2 t;go_wp2_with fail;refine m9 (NS (A k).vc (A k).la (A k).lc (A k).ia (A k).ic (A k).xa (A k).xc (s.T k) s j (B j) (ah.1.below C rfl) bz om<|o7 C cm bk) λw4 L=>?_;have z4:=L.size;have a7:=O<|o9 K L;have P:=O<|X.trans<|L.mono om;have a8:=O<|Xf aw<|C.trans<|L.mono om;clear L;by_cases hO:Ld s (D k)<|s.T k
  case neg=>
   rw[Ag (λc=>hO ((z ao).2 c))];rcases O (JN H1 H2 λh=>hO<|h k I),(P.cell l).trans s0,(P.cell l).trans s1,(P.frozen l).trans g0,(P.frozen l).trans g1 with⟨HO,s0,s1,g0,g1⟩;clear hO;go_wp2;refine Fs (v:=.tuple #[.agg #[N9,N9],J 3]) (by simp[results,results17,go_sem,s0,s1]) rfl ⟨.inl ⟨3,rfl,HO.symm,oo⟩,?_⟩;repeat(refine On ?_ ox _)
   exact a7
  rw[Al ((z ao).1 hO)];have aq:=O hO;clear hO;go_wp2_with (first|(at_builtin;refine ON _ rfl _ _ 59 rfl w1.heap.size 103 i0 .nilIface 1 16 underlying59 hi bp bq br rfl oo u6 k (kL B A s k) rfl (a8.alloc _) (y w4 0) 1 1 [AX B (A k) (s.T k)] rfl rfl (by rw[z a6];exact Is<|DO _ _) (by intro u hu;rw[List.mem_singleton]at hu;subst hu;exact Ru _ _ _) oo od om ot _ rfl ?_;intro g3 cj w5 Q ad au bh;have bb:=O<|(P.alloc om _).trans<|Dd ad (λq e=>(ar q e).1) ot;have bc:=O Q;clear Q ad)|go_in);go_roundw
  .refine⟨k+1,om,ov,?_,bb,λq hq=>?_⟩
   .rw[<-SX];exact bc
   by_cases e:q=k
   .subst e;exact aq
   exact ag q om
  exact ow
 have bf:k=s.nt:=om;have H3:Hid<|∀q,q<s.nt->Ld s (D q) (s.T q):=O λq hq=>H q om;have cz:w.heap.size<wr.heap.size:=om;have b3:=O<|bx.below hb;have cq:=ch.below hb rfl;rcases ak.trans (hb.mono om),O ho,O hb with⟨b4,aw,b5⟩;subst bf;clear hb H I y1 y2 ho;obtain⟨w2,rfl⟩:∃u,u=wr:=⟨wr,rfl⟩;go_wp2;go_loopw [58] (λi wr=>∃(k:Nat),k<=s.ns/\i=J k/\B9 w2 wr/\∀q,q<k->Ob s (s.S q)) λi _=>s.ns-(intOf i).toNat
 .exact⟨0,om,rfl,BE _ _,λq hq=>om⟩
 obtain⟨k,hk,rfl,hb,H⟩:=hrel;have cu:=hb.size;by_cases I:k<s.ns
 case pos=>
  obtain⟨b,off,rfl,aM,hcs⟩:=cq.resolve_left om;obtain⟨e0,e1,e2,e3,e4⟩:=(hcs k I).keep λq=>hb.cell aM;have ae:Hid<|∀o,B9 w<|wr.alloc o:=O λo=>(b4.trans<|hb.mono om).alloc om _;have R:Hid<|∀o,B9 w2<|wr.alloc o:=O λo=>hb.alloc om _;have b6:Hid<|∀o,B9 w1<|wr.alloc o:=O λo=>(b5.trans<|hb.mono om).alloc om _;have ah:Hid<|∀o,Nd (wr.alloc o) s (w.heap.size+1+1) g B Z M:=O λo=>b3.below<|R o;have ag:=O H;clear hcs hb H p1 p2;go_wp2_with fail;refine m9 (QS cp (s.S k) (HK k I) (ah _) H1) λw3 t=>?_;rcases o9 (ae _) t,o9 (R _) t,o9 (b6 _) t with⟨K,X,C⟩;clear t e0 e1 e2 e3 e4;by_cases hO:Ob s<|s.S k
  .rw[Al hO];have aq:=O hO;clear hO;go_wp2;go_roundw
   .refine⟨k+1,om,ov,X,λq hq=>?_⟩;by_cases e:q=k
    .subst e;exact aq
    exact ag q om
   exact ow
  rw[Ag hO];have HO:=O<|L5 H1 H2 H3 λh=>hO<|h k I;clear hO;rcases (C.cell l).trans s0,(C.cell l).trans s1,(C.frozen l).trans g0,(C.frozen l).trans g1 with⟨s0,s1,g0,g1⟩;go_wp2;refine Fs (v:=.tuple #[.agg #[N9,N9],J 4]) (by simp[results,results17,go_sem,s0,s1]) rfl ⟨.inl ⟨4,rfl,HO.symm,oo⟩,?_⟩;repeat(refine On ?_ ox _)
  exact K
 have HO:=O<|JK H1 H2 H3 λq hq=>H q om;have K:=b4.trans<|hb.mono om;rcases b5.trans (hb.mono om),b3.below hb,Xf aw hb with⟨C,cr,b7⟩;have bf:k=s.ns:=om;clear hb H I p1 p2;subst bf;rcases (C.cell l).trans s0,(C.cell l).trans s1,(C.frozen l).trans g0,(C.frozen l).trans g1 with⟨s0,s1,g0,g1⟩;obtain⟨ka,kc,rfl⟩:∃a c,u6=.slice a s.nt c:=by
  obtain⟨_,⟨hv,h0⟩|⟨g',cap,cur,hv,_⟩⟩:=z b7
  .exact⟨none,0,by rw[hv,h0]⟩
  exact⟨_,_,hv⟩
 go_wp2;refine Fs (v:=.tuple #[.agg #[.slice (some<|G g 0) s.nf cp,.slice ka s.nt kc],J 0]) (by simp[results,results17,go_sem,s0,s1]) rfl ⟨.inr ⟨g,cp,B,Z,M,_,w1.heap.size,rfl,HO,?_,⟨om,?_⟩,?_⟩,?_⟩
 .refine Nd.Tl (b0:=w.heap.size+1+1) (cr.Po (λb hb _=>?_) ?_) om
  .exact(At _ _ _ _<|by show b≠w.heap.size+1;omega).trans (At _ _ _ _<|by show b≠w.heap.size+1;omega)
  exact(At _ _ _ _<|by exact af).trans (At _ _ _ _<|by exact af)
 .have av:=Xf cd C;obtain⟨hl,⟨hv,h0⟩|⟨g',cap,cur,hv,ct,bm,h1,h2,h3,h4⟩⟩:=av
  .cases hv
  cases hv;exact⟨hl,.inr ⟨g,_,cur,rfl,ct,((At _ _ _ _<|by exact af).trans<|At _ _ _ _<|by exact af).trans bm,h1,h2,h3,h4⟩⟩
 .refine Xg b7 λb hb _=>?_;exact(At _ _ _ _<|by show b≠w.heap.size+1;omega).trans (At _ _ _ _<|by show b≠w.heap.size+1;omega)
 repeat(refine On ?_ ox _)
 exact K
def MW(a:T9)b(w:Y):C9 18 #[.agg #[.slice a 0 b]] w<|R9 (J 1) w:=by
 go_enter func18,ntmps18;go_wp2;go_ret;exact⟨rfl,n9⟩
def ZH(a:T9)b(w:Y):C9 43 #[.agg #[.slice a 0 b]] w<|R9 (.tuple #[N9,J 1]) w:=by
 go_enter func43,ntmps43;go_wp2
 go_ret2
 exact⟨oq,n9⟩
def NU(c:T9)d(ta:T9)tn tc(sa:T9)e sc(w:Y):C9 6 #[.agg #[.slice c 0 d,.slice ta tn tc,.slice sa e sc]] w<|R9 (J 1) w:=by
 have a:B9 w<|w.alloc<|.cells #[.slice c 0 d,.slice ta tn tc,.slice sa e sc] 29:=n9;go_enter func6,ntmps6;go_wp2_with fail;refine m9 (MW _ _ _) λw1 b=>?_;go_wp2;go_ret;exact⟨rfl,z<|o9 a b⟩
def Pm(e:T9)f(ta:T9)tn tc(sa:T9)g sc(w:Y):C9 17 #[.agg #[.slice e 0 f,.slice ta tn tc,.slice sa g sc]] w<|R9 (.tuple #[.agg #[N9,N9],J 1]) w:=by
 obtain⟨W,d⟩:=qa<|(w.alloc<|.cells #[.slice e 0 f,.slice ta tn tc,.slice sa g sc] 29).alloc<|.cells #[N9,N9] 61;have b:B9 w W:=by rw[d];exact(n9).alloc oq _
 have h:W.heap[w.heap.size+1]?=some (.cells #[N9,N9] 61 (0,0)):=by
  rw[d];have:=DO (w.alloc<|.cells #[.slice e 0 f,.slice ta tn tc,.slice sa g sc] 29)<|.cells #[N9,N9] 61;simpa using this
 go_enter func17,ntmps17;go_wp2_with fail;rw[<-d];have hz:w.heap.size+1<W.heap.size:=by rw[d];simp
 refine m9 (ZH _ _ _) λw1 c=>?_;have a:=(c.block _ hz).trans<|z<|O h;have i:w1.cell? (Y9 w 0)=some (N9):=by rw[Hi w1 _ 0 _ _ _ a];rfl
 have s1:w1.cell? (Y9 w 1)=some (N9):=by rw[Hi w1 _ 1 _ _ _ a];rfl
 have j:∀o,w1.frozen? (Y9 w o)=false:=λo=>by simp[World.frozen?,a]
 go_wp2;exact Fs (v:=.tuple #[.agg #[N9,N9],J 1]) (by simp[results,results17,go_sem,i,s1]) rfl ⟨rfl,by
  repeat(refine On ?_ ox _)
  exact z (o9 b c)⟩
structure VO (w:Y) (a ta sa:T9) (s:AE):Prop where
 f:s.nf=0\/∃m,a=some (G m 0)/\BQ w m s.nf s.F
 t:cR w ta s.nt s.T
 si:Lh w sa s.ns s.S
def VO.below{a:Option Addr}(h:VO w a ta sa s)(hb:B9 w w'):VO w' a ta sa s:=by
 refine⟨?_,h.t.below hb rfl,h.si.below hb rfl⟩;rcases h.f with e|⟨m,e,b⟩
 .exact .inl e
 exact .inr ⟨m,e,b.below hb b.lt⟩
def Yh(h:s.nf=0):A6 s (Dz s)=1:=JL λe=>by
 have:=(Av e).1.1;omega
def KD{a:Option Addr}(b tc sc){s}{w}(h:VO w a ta sa s)(hs:Hc s)(c:Y2 s)(hk:∀i,i<s.ns->(s.S i).key.size<=maxLen):
  C9 6 #[NF a b ta tc sa sc s] w (R9 (J<|A6 s<|Dz s) w):=by
 rcases h.f with e|⟨m,rfl,d⟩
 .rw[Yh e];unfold NF;rw[e];exact NU _ _ _ _ _ _ _ _ _
 exact Vu b tc sc (Dz s) d h.t h.si hs hk<|tF hs c
def LA{b:Option Addr}(c tc sc){s}{A}{w}(a:BZ w)(h:VO w b ta sa s)(hA:Sm w ta s.nt s.T A)(hs:Hc s)(d:Y2 s)(hk:∀i,i<s.ns->(s.S i).key.size<=maxLen):
  C9 17 #[NF b c ta tc sa sc s] w λe w'=>XQ w s (Dz s) A e w'/\B9 w w':=by
 rcases h.f with e|⟨m,rfl,g⟩
 .have h1:=Yh e;unfold NF;rw[e];exact(Pm _ _ _ _ _ _ _ _ _).mono λe w' ⟨j,hb⟩=>⟨.inl ⟨1,j,h1.symm,oo⟩,hb⟩
 .exact Pk Bb c tc sc (Dz s) a g hA h.si hs hk (rZ hs d)
def Tp{M}(h:A6 s (Dz s)=0)(a:Y2 s)(b:∀i,i<s.nt->(s.T i).d.m<=M):GA M s:=by
 obtain⟨h1,⟨h2,h3⟩,h4,h5⟩:=L6 h;refine⟨h1,h2,h3,λi hi=>⟨?_,(a i hi).2,b i hi⟩,h5⟩;rcases h4 i hi with⟨e1,e2,e3⟩|⟨e1,e2,e3,c,e⟩
 .exact .inl ⟨e1,e2,aP (Hu e3) (a i hi).2⟩
 obtain⟨j,hj⟩:=Int.eq_ofNat_of_zero_le e1;rw[hj,NO]at e3;refine .inr ⟨j,hj,om,?_,c,λq hq=>⟨e q hq,(a i hi).1 q hq⟩⟩;grind [A6,Dz,Y2,Av,Bh,nf]
abbrev oW:List Value:=[N9,N9,N9,J 0,J 0,J 0,J 0,F9 0,E9,J 0,J 0,J 0,F9 0,E9,J 0]
def uV(vF vT vS:V9)(x:An):List Value:=[vF,vT,vS,J x.code,J x.num,J x.key.kind,J x.key.num,F9 x.key.Ah,.string x.key.str,J x.key.ref,J x.val.kind,J x.val.num,F9 x.val.Ah,.string x.val.str,J x.val.ref]
abbrev kV(vF vT vS:V9)(x:An):Value:=.agg (uV vF vT vS x).toArray
def qL:An:=⟨0,0,default,default⟩
def oK w:(sizeOf 42).run prog w=.ok 15 w:=ou
def Kh(h:w.heap[b]?=some (.cells oW.toArray 42 (0,0)))a ta sa fn c tn tc d sc x:∃w',(Instr.storeAt 42 (Q9 b)<|kV (.slice a fn c) (.slice ta tn tc) (.slice sa d sc) x).run prog w=.ok () w'/\Bu w w' b (uV (.slice a fn c) (.slice ta tn tc) (.slice sa d sc) x).toArray 42:=
 BP (old:=oW) (vs:=uV (.slice a fn c) (.slice ta tn tc) (.slice sa d sc) x) oK h rfl rfl (by simp[uV,Value.oneCell']) rfl
def Hf{x}(h:w.heap[b]?=some (.cells (uV vF vT vS x).toArray 42 (0,0))):w.cell? (G b 0)=some vF/\w.cell? (G b 1)=some vT/\w.cell? (G b 2)=some vS/\w.cell? (G b 3)=some (J x.code)/\w.cell? (G b 4)=some (J x.num)/\w.cell? (G b 5)=some (J x.key.kind)/\w.cell? (G b 6)=some (J x.key.num)/\w.cell? (G b 7)=some (F9 x.key.Ah)/\w.cell? (G b 8)=some (.string x.key.str)/\w.cell? (G b 9)=some (J x.key.ref)/\w.cell? (G b 10)=some (J x.val.kind)/\w.cell? (G b 11)=some (J x.val.num)/\w.cell? (G b 12)=some (F9 x.val.Ah)/\w.cell? (G b 13)=some (.string x.val.str)/\w.cell? (G b 14)=some (J x.val.ref):=by
 refine⟨?_,?_,?_,?_,?_,?_,?_,?_,?_,?_,?_,?_,?_,?_,?_⟩<;>(rw[Hi w b _ _ _ _ h];rfl)
def Oz(b:Nat)(x:An)(w:Y):Prop:=w.cell? (G b 0)=some (J x.code)/\w.cell? (G b 1)=some (J x.num)/\w.cell? (G b 2)=some (J x.key.kind)/\w.cell? (G b 3)=some (J x.key.num)/\w.cell? (G b 4)=some (F9 x.key.Ah)/\w.cell? (G b 5)=some (.string x.key.str)/\w.cell? (G b 6)=some (J x.key.ref)/\w.cell? (G b 7)=some (J x.val.kind)/\w.cell? (G b 8)=some (J x.val.num)/\w.cell? (G b 9)=some (F9 x.val.Ah)/\w.cell? (G b 10)=some (.string x.val.str)/\w.cell? (G b 11)=some (J x.val.ref)
def cA(w:Y)(s:AE)(a:Ac)(e:Ending)(w':Y):Prop:=
 ((A6 s (Dz s)≠0/\e=.returned (kV N9 N9 N9 qL))\/(A6 s (Dz s)=0/\∃vF vT vS H lo,e=.returned (kV vF vT vS<|Dg s a)/\XS lo w'.heap.size w' vF vT vS (AR s a) H/\w.heap.size<=lo))/\B9 w w'
def WE fc{ta:Option Addr}tc{sa:Option Addr}sc{s}a{w}(hF:VO w fa ta sa s)(hs:Hc s)(hw:Y2 s)(hk:∀i,i<s.ns->(s.S i).key.size<=maxLen)(hm:∀i,i<s.nt->(s.T i).d.m<=3000000)(aj:Wf a.k)(bf:Wf a.v)(R:BZ w)(hE:Ib w):
  C9 9 #[NF fa fc ta tc sa sc s,I5 a] w λe w'=>cA w s a e w':=by
 have b0:=R.sz;obtain⟨W,hW,f,hz,_,o1,hR⟩:=kS w (.cells #[.slice fa s.nf fc,.slice ta s.nt tc,.slice sa s.ns sc] 29) (.cells (Bn a) 34)<|.cells oW.toArray 42;have hA:Qs W (w.heap.size+1) a:=o1;have s2:W.cell? (y w 2)=some (.slice sa s.ns sc):=by rw[hW];simp[go_sem]
 obtain⟨A,ak⟩:=(hF.below f).t.addr;have bg:Hid<|A6 s (Dz s)=0->GA 3000000 s:=O λh=>Tp h hw hm;have HR:=O hR;go_enter func9,ntmps9;go_wp2_with fail;rw[<-hW];refine(z<|O<|LA fc tc sc (Bb _ _ R f) (hF.below f) ak hs hw hk).mono ?_;rintro e w1 ⟨hj,o⟩;have z1:=o.size;have ao:=O o;have bh:=O<|(o.block _ om).trans HR;rcases hj with⟨r,rfl,hr,U⟩|⟨g,cp,Bk,Z,M,kv,b1,rfl,h0,hN,⟨o,aq⟩,ad⟩
 .have bj:=O<|hr▸U;have dr:(r !=0)=true:=by simpa using U
  obtain⟨X,hX,j,_⟩:=Ll w1<|.cells #[N9,N9] 61;obtain⟨w9,D,l⟩:=Kh ((j.block _ om).trans bh) none none none 0 0 0 0 0 0 qL;have bk:=O D;rcases O (l.below (o9 f<|ao.trans<|j.mono z1) om),O<|l.BH,O hX with⟨E,ae,af⟩;clear hr U D l j hX;go_upto_region 2 with fail
  rw[<-z af];go_wp2_with (refine Af rfl rfl _ bk ?_);refine FP results9 underlying42 ae ⟨.inl ⟨bj,rfl⟩,E⟩
 obtain⟨ka,kc,rfl⟩:=Au ad;obtain⟨X,hX,j,_⟩:=Ll w1<|.cells #[.slice (some<|G g 0) s.nf cp,.slice ka s.nt kc] 61;have x0:X.cell? (y w1 0)=some (.slice (some<|G g 0) s.nf cp):=by rw[hX];simp[go_sem]
 have x1:X.cell? (y w1 1)=some (.slice ka s.nt kc):=by rw[hX];simp[go_sem]
 have F:=ao.trans<|j.mono z1;have b2:=o7 F (by show w.heap.size<W.heap.size;omega) s2;have I:=z bg h0;have HO:=O (Ti W.heap.size _ _ _ _ _ kc sc Bk A s om I.ns (Xf aq j) ⟨Z,M,hN.ns.below j,hN.id⟩ (Eu (Xf ad j) o) ((z<|O (hF.below f).si).below F rfl) (λw' V h1 h2 i hi=>by
  obtain⟨b,off,_,_,hcs⟩:=ak.resolve_left om;exact Rd.arg (hcs i hi).2.1 (hcs i hi).2.2 (F.trans (h1.mono om)) h2))
 have HG:Kl s:=I.mono om;have bm:=O h0;have bn:Kl<|AR s a:=(Hw I a aj bf).mono om;have af:=O hX;clear hN aq ad o j hX I h0;go_upto_region 4 with fail
 rw[<-z af];go_wp2_with fail;refine HO.mono ?_;rintro e w3 ⟨⟨c,vS,rfl,ar⟩,au⟩;have z3:=au.size;have n:=F.trans<|au.mono om;have bp:=hA.below n om;have ah:=O<|kD ar HG (Bb _ _ (Bb _ _ R f) n) aj om ((hE.below f hE.lt).below n om) om<|lO a;obtain⟨a0,a1,a2,a3,a4,a5,a6,a7,a8,a9,b3,b4,a12,b5⟩:=bp.all;have lA:w.heap.size+1<w3.heap.size:=om;have ai:Hid<|∀k,AD W.heap.size c (.slice (some<|G g 0) s.nf cp) (.slice ka s.nt kc) vS w3 k->W.heap.size<=k:=O λk e=>(ar.IC e).1;go_wp2_with fail;refine ah.mono ?_;rintro e w4 ⟨rfl,b6,b7,b8,b9,ca,A4,bq,u⟩;have z4:=u.size;obtain⟨x,hx⟩:=qd<|Dg s a;rw[hx,show H9 x=uC x from rfl];have br:=O hx;have bt:Below W.heap.size w3 w4:=⟨u.os,u.tape,u.output,u.size,λk hk=>u.block k om λe=>oT<|z ai k e⟩;have av:=n.trans bt;go_simp
 rename_i bu
 refine bu _ _ ?_;refine wpList_plain rfl λK hK=>?_;go_simp;refine hK _ _ ?_;clear hK K;refine Af rfl rfl _ (Xy w4 x) ?_;obtain⟨w5,L⟩:=qa<|w4.alloc<|.cells (Mx x).toArray 40;rw[<-L];have ag:B9 w4 w5:=by rw[L];exact(BE _ _).alloc (Be _) _
 have P:w5.heap[w4.heap.size]?=some (.cells (Mx x).toArray 40 (0,0)):=by rw[L];exact DO _ _
 have cb:Oz w4.heap.size x w5.drew:=An.read (w:=w5.drew) P;rcases Ai P,O<|XM (bq.below ag.drew).1 bn,o9 av ag,O P with⟨z5,bw,aw,ax⟩;clear ag P L;go_upto_region 6 with fail
 refine Hx (Oz w4.heap.size x) ?_;refine tz 0 (h:=tz 2 (h:=?_));refine ry 1 λK hK=>?_;go_simp;refine bw.mono ?_;rintro e w6 ⟨⟨vF,vT,cc,H,rfl,ay⟩,B⟩;obtain⟨fa,az,aM,bb,bc,bd,rfl,rfl,rfl⟩:=ay.forms;have C:B9 w5 w6:=⟨B.os,B.tape,B.output,B.size,λk hk=>B.block k hk⟩;have bx:Oz w4.heap.size x w6:=An.read<|(C.block _ z5).trans ax;have Q:=o9 aw C;obtain⟨w9,D,l⟩:=Kh ((Q.block _ om).trans HR) fa aM bc (AR s a).nf az (AR s a).nt bb (AR s a).ns bd x;have bz:Oz w4.heap.size x w9:=An.read<|(l.other _ om).trans<|(C.block _ z5).trans ax;have E:Hid<|XS w5.heap.size w9.heap.size w9 (.slice fa (AR s a).nf az) (.slice aM (AR s a).nt bb) (.slice bc (AR s a).ns bd) (AR s a) H/\B9 w w9:=O ⟨by rw[l.size];exact ay.keep λq h1 _ _=>l.other q (by have:w5.heap.size<=q:=h1;omega),l.below (o9 f Q) om⟩;refine hK.out _ _ bx λ_=>?_;clear hK K;refine tz 3 (h:=?_);refine ry 4 λK hK=>?_;refine BK rfl rfl w9 D ?_;refine hK.out _ _ bz λ_=>?_;clear hK K;refine FI ?_;have ae:=O<|l.BH;go_wp2_with fail;refine FP results9 underlying42 ae ⟨.inr ⟨bm,_,_,_,H,_,ql br,E.1,om⟩,E.2⟩
def N0:AE:=⟨0,λ_=>default,0,λ_=>Ja,0,λ_=>default⟩
def XS.sat{a}{sc}(h:XS lo hi w (.slice a s.nf b) (.slice ta s.nt tc) (.slice sa s.ns sc) s H):kO w a ta sa s:=by
 rcases h.f.at,h.t.at,h.si.at with⟨⟨a1,c1,e1,h1⟩,⟨a2,c2,e2,h2⟩,⟨a3,c3,e3,h3⟩⟩;cases e1;cases e2;cases e3;exact⟨h1,h2,h3⟩
def SM.sat{d sc}{b}(h:SM w c B (.slice b s.nf d) (.slice ta s.nt tc) (.slice sa s.ns sc) H s):kO w b ta sa s:=by
 refine⟨?_,h.zF,?_⟩
 .rcases Aas s.nf with e|e
  .exact .inl e
  obtain⟨g,cp,a,_,_,f⟩:=h.Lq e;cases a;exact f.at
 rcases Aas s.ns with e|e
 .exact .inl e
 obtain⟨g,cp,a,j,_,_,_⟩:=h.Ex e;cases a;refine .inr ⟨g,0,rfl,j,λi hi=>?_⟩;obtain⟨g',cp',hv',_,_,hc,_⟩:=h.Ex hi;cases hv';rw[X9];exact⟨hc 0 _ rfl,hc 1 _ rfl,hc 2 _ rfl,hc 3 _ rfl,hc 4 _ rfl⟩
def kX(B:Nat)(w:Y)(a ta sa:T9)(s:AE):Prop:=∀w':World,w.heap.size<=w'.heap.size->(∀k,B<=k->k<w.heap.size->w'.heap[k]?=w.heap[k]?)->kO w' a ta sa s
def kX.now{a:Option Addr}(h:kX B w a ta sa s):kO w a ta sa s:=h w (Be _) λ_ _ _=>rfl
def kX.lower{B'}{a:Option Addr}(h:kX B w a ta sa s)(b:B'<=B):kX B' w a ta sa s:=λw' hs hk=>h w' hs λk h1 h2=>hk k om h2
def SM.zU{sc}{a}(h:SM w c B (.slice a s.nf b) (.slice ta s.nt tc) (.slice sa s.ns sc) H s):kX B w a ta sa s:=λw' _ hk=>(h.keep λk e=>hk k (h.IC e).1 (h.IC e).2).sat
def bZ(w:Y)(s:AE)(a:Ac)(e:Ending)(w':Y):Prop:=
 ((A6 s (Dz s)≠0/\e=.returned (kV N9 N9 N9 qL))\/(A6 s (Dz s)=0/\∃b c ta tc sa sc,e=.returned (kV (.slice b (AR s a).nf c) (.slice ta (AR s a).nt tc) (.slice sa (AR s a).ns sc)<|Dg s a)/\kX w.heap.size w' b ta sa (AR s a)))/\B9 w w'
def VY(c b:Nat)(vF vT vS:V9)(x:An)(w:Y):Prop:=w.cell? (G c 0)=some vF/\w.cell? (G c 1)=some vT/\w.cell? (G c 2)=some vS/\Oz b x w
def Xw fc{ta:Option Addr}tc{sa:Option Addr}sc{s}a{w}(hF:VO w fa ta sa s)(hs:Hc s)(hw:Y2 s)(hk:∀i,i<s.ns->(s.S i).key.size<=maxLen)(hm:∀i,i<s.nt->(s.T i).d.m<=3000000)(ah:Wf a.k)(av:Wf a.v):
  C9 10 #[NF fa fc ta tc sa sc s,I5 a] w λe w'=>bZ w s a e w':=by
 obtain⟨W,hW,j,hz,o0,o1,hR⟩:=kS w (.cells #[.slice fa s.nf fc,.slice ta s.nt tc,.slice sa s.ns sc] 29) (.cells (Bn a) 34)<|.cells oW.toArray 42;have hA:Qs W (w.heap.size+1) a:=o1;obtain⟨s0,s1,s2⟩:=v3 o0;have q:=hF.below j;have ai:Hid<|A6 s (Dz s)=0->GA 3000000 s:=O λh=>Tp h hw hm;have HR:=O hR;go_enter func10,ntmps10;go_wp2_with fail;rw[<-hW];refine(z<|O<|KD fc tc sc (hF.below j) hs hw hk).mono ?_;rintro e w1 ⟨rfl,b⟩;have z1:=b.size;have lW:w.heap.size<W.heap.size:=om;rcases (b.cell lW).trans s0,(b.cell lW).trans s1,(b.cell lW).trans s2,q.below b with⟨t0,t1,t2,q⟩;by_cases U:A6 s (Dz s)=0
 case neg=>
  obtain⟨r,hr⟩:=qd<|A6 s<|Dz s;rw[hr];have dr:(r !=0)=true:=by rw[<-hr];simpa using U
  obtain⟨R,P,g⟩:=Kh (z<|O<|(b.block _ om).trans HR) none none none 0 0 0 0 0 0 qL;have V:=O P;have E:=O<|g.below (o9 j b) om;have aj:=O<|g.BH;go_wp2_with (refine Af rfl rfl _ V ?_);refine FP results10 underlying42 aj ⟨.inl ⟨z<|O U,rfl⟩,E⟩
 case pos=>
  rw[U];have u:=z ai U;have HG:Kl s:=u.mono om;obtain⟨m,rfl,hr⟩:=q.f.resolve_left<|oT (Av u.f).1.1;have ak:=O<|Pz fc tc sc hr (oT (Av u.f).1.2) q.t q.si hs u.nt u.ns;go_wp2_with fail;refine ak.mono ?_;rintro e w3 ⟨⟨c,vF,vT,vS,H,rfl,X⟩,Z⟩;have z3:=Z.size;have L:=b.trans<|Z.mono z1;obtain⟨a0,a1,a2,a3,a4,a5,a6,a7,a8,a9,aw,ax,a12,ay⟩:=(hA.below L om).all;have lA:w.heap.size+1<w3.heap.size:=om;have ad:Hid<|∀k,Ba c vF vT vS H s.nt k->w1.heap.size<=k:=O λk e=>(X.IC e).1;go_wp2_with fail;refine(z<|O<|US a X HG ah).mono ?_;rintro e w4 ⟨rfl,az,aM,bb,H4,F,l⟩;have z4:=l.size;obtain⟨x,hx⟩:=qd<|Dg s a;rw[hx,show H9 x=uC x from rfl];have ao:Below W.heap.size w3 w4:=⟨l.os,l.tape,l.output,l.size,λk hk=>l.block k om λe=>oT<|z ad k e⟩;have ae:=L.trans ao;obtain⟨n,A,rfl⟩:=Au F.f;obtain⟨o,B,rfl⟩:=Au F.t;obtain⟨p,C,rfl⟩:=Au F.si;go_simp
  rename_i aq
  refine aq _ _ ?_;refine wpList_plain rfl λK hK=>?_;go_simp;refine hK _ _ ?_;clear hK K;refine Af rfl rfl _ (Xy w4 x) ?_;obtain⟨w5,Q⟩:=qa<|w4.alloc<|.cells (Mx x).toArray 40;rw[<-Q];have af:B9 w4 w5:=by rw[Q];exact(BE _ _).alloc (Be _) _
  have ag:w5.heap[w4.heap.size]?=some (.cells (Mx x).toArray 40 (0,0)):=by rw[Q];exact DO _ _
  have D:=F.below af;have bc:VY c w4.heap.size (.slice n (AR s a).nf A) (.slice o (AR s a).nt B) (.slice p (AR s a).ns C) x w5.drew:=⟨D.cells.1,D.cells.2.1,D.cells.2.2.1,An.read (w:=w5.drew) ag⟩;have M:=o9 ae af;obtain⟨R,P,g⟩:=Kh (w:=w5.drew) ((M.block _ om).trans HR) n o p (AR s a).nf A (AR s a).nt B (AR s a).ns C x;have ar:∀k,Ba c (.slice n (AR s a).nf A) (.slice o (AR s a).nt B) (.slice p (AR s a).ns C) H4 (AR s a).nt k->R.heap[k]?=w5.heap[k]?:=λk e=>g.other k<|oT (D.IC e).1;have I:=D.keep ar;have au:VY c w4.heap.size (.slice n (AR s a).nf A) (.slice o (AR s a).nt B) (.slice p (AR s a).ns C) x R:=⟨I.cells.1,I.cells.2.1,I.cells.2.2.1,An.read<|(g.other _ om).trans ag⟩;have E:Hid<|kX w.heap.size R n o p (AR s a)/\B9 w R:=O ⟨I.zU.lower om,g.below ((o9 j M).drew) om⟩;go_upto_region 5 with fail
  refine Hx (VY c w4.heap.size (.slice n (AR s a).nf A) (.slice o (AR s a).nt B) (.slice p (AR s a).ns C) x) ?_;refine tz 0 (h:=tz 1 (h:=tz 2 (h:=tz 3 (h:=tz 4 (h:=?_)))));refine ry 5 λK hK=>?_;refine BK rfl rfl R (z<|O P) ?_;refine hK.out _ _ au λ_=>?_;clear hK K;refine FI ?_;go_wp2_with fail;refine FP results10 underlying42 (z<|O<|g.BH) ⟨.inr ⟨z<|O U,_,_,_,_,_,_,by rw[z (O hx)],E.1⟩,E.2⟩
open Classical in
noncomputable def Nh(s:AE)(a:Ac):AE:=if A6 s (Dz s)=0 then AR s a else N0
open Classical in
noncomputable def Wn(s:AE)(a:Ac):An:=if A6 s (Dz s)=0 then Dg s a else qL
def lQ(f:Y2 s)(g:∀i,i<s.nt->(s.T i).d.m<=3000000)(b:Wf a.k)(c:Wf a.v):Hc (Nh s a)/\(Nh s a).nt<=100:=by
 unfold Nh;split
 .rename_i h
  have e:Kl<|AR s a:=(Hw (Tp h f g) a b c).mono om;exact⟨GA.TQ e,e.nt⟩
 exact⟨⟨⟨oo,λi hi=>absurd hi<|P9 _⟩,oo,λhi=>absurd hi<|P9 _,λhi=>absurd hi<|P9 _,oo⟩,oo⟩
def Ov(w:Y)(s:AE)(x:An)(e:Ending)(w':Y):Prop:=
 ∃a b ta tc sa sc H lo,e=.returned (kV (.slice a s.nf b) (.slice ta s.nt tc) (.slice sa s.ns sc) x)/\XS lo w'.heap.size w' (.slice a s.nf b) (.slice ta s.nt tc) (.slice sa s.ns sc) s H/\w.heap.size<=lo/\B9 w w'
def Ou(w:Y)(s:AE)(x:An)(e:Ending)(w':Y):Prop:=
 ∃a b ta tc sa sc,e=.returned (kV (.slice a s.nf b) (.slice ta s.nt tc) (.slice sa s.ns sc) x)/\kX w.heap.size w' a ta sa s/\B9 w w'
def cA.says(h:cA w s a e w'):Ov w (Nh s a) (Wn s a) e w':=by
 obtain⟨⟨b,c⟩|⟨b,vF,vT,vS,H,lo,c,d,hl⟩,hb⟩:=h
 .have e1:Nh s a=N0:=C3 b;have e2:Wn s a=qL:=C3 b;unfold Ov;rw[e1,e2];exact⟨none,0,none,0,none,0,λ_=>Mh,w.heap.size,c,⟨.inl ⟨rfl,rfl⟩,.inl ⟨rfl,rfl⟩,.inl ⟨rfl,rfl⟩,λq e=>(by cases e),λq e=>(by cases e),λq i e=>(by cases e),λq e=>(by cases e),λq i e=>by cases e⟩,Be _,hb⟩
 have e1:Nh s a=AR s a:=DD b;have e2:Wn s a=Dg s a:=DD b;obtain⟨f,g,ta,tc,sa,sc,rfl,rfl,rfl⟩:=d.forms;unfold Ov;grind
def bZ.says(h:bZ w s a e w'):Ou w (Nh s a) (Wn s a) e w':=by
 obtain⟨⟨b,c⟩|⟨b,d,f,ta,tc,sa,sc,c,g⟩,hb⟩:=h
 .have e1:Nh s a=N0:=C3 b;have e2:Wn s a=qL:=C3 b;unfold Ou;rw[e1,e2];exact⟨none,0,none,0,none,0,c,λ_ _ _=>⟨.inl rfl,.inl rfl,.inl rfl⟩,hb⟩
 have e1:Nh s a=AR s a:=DD b;have e2:Wn s a=Dg s a:=DD b;unfold Ou;grind
def Dy(t:Tb):Tb:={t with V:=λi=>Bl (t.V i),d:=AP t.d}
def AU(s:AE):AE:={s with T:=λi=>Dy (s.T i)}
def Jt(x:An):An:={x with key:=Bl x.key,val:=Bl x.val}
def L7 s:Bl (Bz s)=Bz s:=GM _ _ _ _
theorem Qd F x k:Cb F (Dy x) (Bl k)=Bl (Cb F x k):=by
 unfold Cb;show(if x.shape<0 then Eb (AP x.d) (Ay (AP x.d) (Bl k)<|hN<|Bl k)else if k.kind=4/\0<=Bj F x.shape.toNat k.str then Bl (x.V (Bj F x.shape.toNat k.str).toNat)else Cd)=_;rw[IA,T7];split
 .rfl
 split
 .rfl
 exact Df.symm
theorem aZ F x k:Cb F (Dy x) (Bz k)=Bl (Cb F x<|Bz k):=by rw[<-Qd,L7]
theorem PD(F:Nat->Br)(j:Nat)(W:Nat->Vl):∀i,Az F j (λi=>Bl<|W i) i=AP (Az F j W i)
 |0=>Yw.symm
 |i+1=>by
  show Ca hN (Az F j (λi=>Bl<|W i) i) (Bz<|DU F j i) (Bl<|W i)=AP (Ca hN (Az F j W i) (Bz<|DU F j i)<|W i);rw[PD F j W i,<-Vg,L7]
theorem Zu d k v:D6 (AP d) (Bl k) (Bl v)=D6 d k v:=by
 unfold D6;rw[IA];rfl
def Rf x d k v:DT (Dy x) (AP d) (Bl k) (Bl v)=Dy (DT x d k v):=by
 show(⟨-1,0,_,Ca hN (AP d) (Bl k)<|Bl v⟩:Tb)=_;rw[Vg];rfl
def FF s t x:Bm (AU s) t (Dy x)=AU (Bm s t x):=by
 show(⟨s.nf,s.F,s.nt,AM (λi=>Dy<|s.T i) t<|Dy x,s.ns,s.S⟩:AE)=⟨s.nf,s.F,s.nt,λi=>Dy<|AM s.T t x i,s.ns,s.S⟩;rw[Me Dy s.T t x]
def VG x i v:E7 (Dy x) i (Bl v)=Dy (E7 x i v):=by
 show(⟨x.shape,x.nv,AM (λi=>Bl<|x.V i) i<|Bl v,AP x.d⟩:Tb)=⟨x.shape,x.nv,λj=>Bl<|AM x.V i v j,AP x.d⟩;rw[Me Bl x.V i v]
def Zx x r v:GH (Dy x) r (Bl v)=Dy (GH x r v):=by
 show(⟨r,x.nv+1,AM (λi=>Bl<|x.V i) x.nv<|Bl v,AP x.d⟩:Tb)=⟨r,x.nv+1,λj=>Bl<|AM x.V x.nv v j,AP x.d⟩;rw[Me Bl x.V x.nv v]
theorem R6 s x k v:BX (AU s) (Dy x) (Bl k) (Bl v)=BX s x k v:=by
 grind [BX,AU,Dy,Bl,Qd,AP,Zu]
def Vh s t k v:Ci (AU s) t (Bl k) (Bl v)=AU (Ci s t k v):=by
 unfold Ci;rw[show(AU s).T t=Dy (s.T t)from rfl,R6];cases BX s (s.T t) k v with
 |no=>rfl
 |full=>rfl
 |DU=>
  show Bm (AU s) t (E7 (Dy<|s.T t) (Bj s.F (s.T t).shape.toNat k.str).toNat<|Bl v)=_;rw[VG,FF]
 |grow=>
  show({Bm (AU s) t (GH (Dy (s.T t)) (Es s.nf s.F (s.T t).shape.toNat k.str) (Bl v))with nf:=_,F:=_}:AE)=_;rw[Zx,FF];rfl
 |loose=>
  show Bm (AU s) t (DT (Dy<|s.T t) (Az s.F (s.T t).shape.toNat (λi=>Bl<|(s.T t).V i) (s.T t).nv) (Bl k)<|Bl v)=_;rw[PD,Rf,FF]
 |Km=>
  show Bm (AU s) t (DT (Dy<|s.T t) (AP (s.T t).d) (Bl k)<|Bl v)=_;rw[Rf,FF]
def Vf s t k v:Ct (AU s) t (Bl k) (Bl v)=Ct s t k v:=by
 grind [Ct,AU,Bl,Dy,R6]
def Tw:Dy Ja=Ja:=by
 show(⟨0,0,λ_=>Bl default,AP bU⟩:Tb)=_;rw[LK,Yw];rfl
theorem aR s a:BJ (AU s) (Bv a)=AU (BJ s a):=by
 unfold BJ;have e1:CZ (Bv a).k=Bl (CZ a.k):=UI _;have e2:(Bv a).v=Bl a.v:=rfl;rw[e1,e2,Vh];have e3:∀s':AE,∀t k,Ci (AU s') t (Bz k) (Bl a.v)=AU (Ci s' t (Bz k) a.v):=λs' t k=>by rw[<-Vh,L7]
 have b:E7 ((AU s).T a.t.toNat) (Bd s a.site.toNat a.t.toNat).toNat (Bl a.v)=Dy (E7 (s.T a.t.toNat) (Bd s a.site.toNat a.t.toNat).toNat a.v):=VG _ _ _;show(if a.op=1 then(if s.nt=100 then AU s else{AU s with nt:=s.nt+1,T:=AM (λi=>Dy (s.T i)) s.nt Ja})else if a.op=7 then(if s.ns=50 then AU s else AU {s with ns:=s.ns+1,S:=AM s.S s.ns ⟨a.k.str,-1,0,0,0⟩})else if a.op=2 then AU (Ci s a.t.toNat (CZ a.k) a.v)else if a.op=8 then AU (A7 s a.site.toNat a.t.toNat)else if a.op=9 then(if 0<=Bd s a.site.toNat a.t.toNat/\a.v.kind≠0 then Bm (AU<|A7 s a.site.toNat a.t.toNat) a.t.toNat (E7 ((AU s).T a.t.toNat) (Bd s a.site.toNat a.t.toNat).toNat<|Bl a.v)else Ci (AU<|A7 s a.site.toNat a.t.toNat) a.t.toNat (Bz (s.S a.site.toNat).key) (Bl a.v))else AU s)=_;rw[b,FF,e3];split
 .split
  .rfl
  show _=(⟨s.nf,s.F,s.nt+1,λi=>Dy<|AM s.T s.nt Ja i,s.ns,s.S⟩:AE);rw[Me Dy s.T s.nt Ja,Tw];rfl
 grind [BJ,AU,Bv]
def RX s a:AR (AU s) (Bv a)=AU (AR s a):=by
 grind [AR,AU,Bv,X2,aR,H7]
def qC:AU E0=E0:=by
 show(⟨1,f1,0,λ_=>Dy Ja,0,λ_=>default⟩:AE)=_;rw[Tw];rfl
def qF:AU N0=N0:=by
 show(⟨0,λ_=>default,0,λ_=>Dy Ja,0,λ_=>default⟩:AE)=_;rw[Tw];rfl
theorem T2(f:Nat->Ac):∀q,AU (KH E0 f q)=KH E0 (λi=>Bv<|f i) q
 |0=>qC
 |q+1=>by
  show AU (AR (KH E0 f q)<|f q)=AR (KH E0 (λi=>Bv<|f i) q) (Bv<|f q);rw[<-RX,T2 f q]
def UZ(t:Pl):Pl:={t with P:=λi=>Gy (t.P i)}
def oM s x:jZ (AU s) (Dy x)=λi=>Gy<|jZ s x i:=by
 unfold jZ;show(if x.shape=-1 then EL (AP x.d)else FZ (AU s) x.shape.toNat (Dy x))=_;split
 .rfl
 funext i
 show(⟨⟨4,0,0,DU s.F x.shape.toNat i,0⟩,Bl<|x.V i,(i:Int)+1⟩:Pr)=⟨Bl ⟨4,0,0,DU s.F x.shape.toNat i,0⟩,Bl<|x.V i,(i:Int)+1⟩;rw[GM]
theorem nQ s t:RL (AU s) t=UZ (RL s t):=by
 show(⟨bV s<|s.T t,jZ (AU s)<|Dy<|s.T t,0⟩:Pl)=_;rw[oM];rfl
theorem UW(t:Pl):∀k m,WW (UZ t) k m=WW t k m
 |0,_=>rfl
 |k+1,m=>by
  show(if t.has ((m:Int)+1)then WW (UZ t) k (m+1)else m)=_;rw[UW t k];rfl
def fZ t n:(UZ t).next n=Gy (t.next n):=by
 show(if t.FC n<0 then⟨Cd,Cd,0⟩else Gy (t.P (t.FC n).toNat))=Gy (if t.FC n<0 then⟨Cd,Cd,0⟩else t.P (t.FC n).toNat);grind [UZ,Gy,Bl,Df]
theorem T4 c:Jt (BD c)=BD c:=by show(⟨c,0,Bl Cd,Bl Cd⟩:An)=_;rw[Df];rfl
theorem T5 c:Jt (Dx c)=Dx c:=by show(⟨0,c,Bl Cd,Bl Cd⟩:An)=_;rw[Df];rfl
theorem dF v:Jt (FL v)=FL (Bl v):=by show(⟨0,0,Bl Cd,Bl v⟩:An)=_;rw[Df];rfl
theorem lH t a:(UZ t).ask (Bv a)=Jt (t.ask a):=by
 unfold Pl.ask;rw[fZ,show(UZ t).len=t.len from UW t _ _];show(if a.op=4 then⟨0,(t.next a.n).turn,Bl (t.next a.n).key,Bl (t.next a.n).val⟩else if a.op=6 then Dx t.n else Dx t.len)=_;grind [UZ,Bv,Jt,T5]
theorem dE s a:Dh (AU s) (Bv a)=Jt (Dh s a):=by
 unfold Dh;have e1:CZ (Bv a).k=Bl (CZ a.k):=UI _;have e2:(Bv a).v=Bl a.v:=rfl;have e3:∀s':AE,∀t k,Ct (AU s') t (Bz k) (Bl a.v)=Ct s' t (Bz k) a.v:=λs' t k=>by rw[<-Vf s',L7]
 rw[e1,e2,Vf];show(if a.op=1 then(if s.nt=100 then BD 5 else Dx s.nt)else if a.op=7 then(if s.ns=50 then BD 5 else Dx s.ns)else if a.op=2 then BD (Ct s a.t.toNat (CZ a.k) a.v)else if a.op=9 then(if 0<=Bd s a.site.toNat a.t.toNat/\a.v.kind≠0 then BD 0 else BD (Ct (AU<|A7 s a.site.toNat a.t.toNat) a.t.toNat (Bz (s.S a.site.toNat).key)<|Bl a.v))else if a.op=3 then FL (Cb s.F (Dy<|s.T a.t.toNat)<|Bl<|CZ a.k)else if a.op=8 then FL (if 0<=Bd s a.site.toNat a.t.toNat then Bl ((s.T a.t.toNat).V (Bd s a.site.toNat a.t.toNat).toNat)else Cb s.F (Dy<|s.T a.t.toNat) (Bz (s.S a.site.toNat).key))else(RL (AU s) a.t.toNat).ask (Bv a))=_;grind [Dh,AU,Bv,Jt,Qd,aZ,nQ,lH,T4,T5,dF]
def dD s a:Dg (AU s) (Bv a)=Jt (Dg s a):=by
 grind [Dg,AU,Bv,Jt,X2,dE,H7,BD,T4]
def cB s i:Dz (AU s) i=Dz s i:=Wl (s.T i).d
def YC s D t:Ld (AU s) D (Dy t)↔Ld s D t:=by
 unfold Ld U5;show(t.shape=-1/\t.nv=0/\D=0)\/(0<=t.shape/\t.shape<s.nf/\(t.nv:Int)=(s.F t.shape.toNat).count/\bare t.d/\∀i,i<t.nv->Jb (Bl<|t.V i)=true)↔_;simp only[nH]
def GR s:A6 (AU s) (Dz<|AU s)=A6 s (Dz s):=by
 have e3:(∀i,i<(AU s).nt->Ld (AU s) (Dz (AU s) i) ((AU s).T i))↔∀i,i<s.nt->Ld s (Dz s i) (s.T i):=
  ⟨λh i hi=>by have:=h i hi;rw[cB]at this;exact(YC _ _ _).1 this,λh i hi=>by rw[cB];exact(YC _ _ _).2 (h i hi)⟩
 by_cases h1:Ar s.nf s.F=0
 .by_cases h2:s.nt<=100/\s.ns<=50
  .by_cases h3:∀i,i<s.nt->Ld s (Dz s i) (s.T i)
   .by_cases h4:∀i,i<s.ns->Ob s (s.S i)
    .rw[JK h1 h2 h3 h4,JK (s:=AU s) h1 h2 (e3.2 h3) h4]
    rw[L5 h1 h2 h3 h4,L5 (s:=AU s) h1 h2 (e3.2 h3) h4]
   grind [A6,AU,Dz,JN]
  grind [A6,AU,Dz,JM]
 rw[JL h1,JL (s:=AU s) h1]
def X7 s a:Nh (AU s) (Bv a)=AU (Nh s a):=by
 unfold Nh;rw[GR,RX];split
 .rfl
 exact qF.symm
def X5 s a:Wn (AU s) (Bv a)=Jt (Wn s a):=by
 unfold Wn;rw[GR,dD];split
 .rfl
 show _=(⟨0,0,Bl default,Bl default⟩:An);rw[LK];rfl
def JZ(K:Kd)(i:Nat)(Z:Int×Cs)(s:AE):AE×Cs:=
 if Z.1=0 then({s with F:=AM s.F i ⟨(Ab K ((s.nf:Int)+2) Z.2).1-1,(s.F i).key,(s.F i).count⟩},(Ab K ((s.nf:Int)+2) Z.2).2)
 else if Z.1=1 then({s with F:=AM s.F i ⟨(s.F i).parent,(Hy K Z.2).1,(s.F i).count⟩},(Hy K Z.2).2)
 else if Z.1=2 then({s with F:=AM s.F i ⟨(s.F i).parent,(s.F i).key,(s.F i).count+((Ab K 3 Z.2).1-1)⟩},(Ab K 3 Z.2).2)
 else({s with nf:=s.nf+1,F:=AM s.F s.nf (s.F i)},Z.2)
def Ls(K:Kd)(c:Cs)(s:AE):AE×Cs:=
 if(Ab K 8 c).1=0 then({s with nf:=0},(Ab K 8 c).2)
 else JZ K (Ab K s.nf (Ab K 8 c).2).1.toNat (Ab K 4 (Ab K s.nf (Ab K 8 c).2).2) s
structure qI (s s':AE):Prop where
 nf:s'.nf<=s.nf+1
 nt:s'.nt=s.nt
 ns:s'.ns=s.ns
 key:∀i,i<s'.nf->(∃j,j<s.nf/\(s'.F i).key=(s.F j).key)\/(s'.F i).key.size<=4000
 nv:∀i,i<s.nt->(s'.T i).nv<=(s.T i).nv+1
 dn:∀i,i<s.nt->(s'.T i).d.n<=(s.T i).d.n+1
 dm:∀i,i<s.nt->(s'.T i).d.m<=(s.T i).d.m+1
 dx:∀i,i<s.nt->(s'.T i).d.x<=(s.T i).d.x+9
 bW:∀i,i<s.nt->M9 (s'.T i).d
 bX:∀i,i<s.nt->∀j,j<(s'.T i).nv->Wf ((s'.T i).V j)
 sk:∀i,i<s.ns->(s'.S i).key=(s.S i).key
structure pC (s:AE):Prop where
 bW:∀i,i<s.nt->M9 (s.T i).d
 bX:∀i,i<s.nt->∀j,j<(s.T i).nv->Wf ((s.T i).V j)
theorem pC.same(h:pC s):qI s s:=⟨om,rfl,rfl,λi hi=>.inl ⟨i,hi,rfl⟩,λ_ _=>om,λ_ _=>om,λ_ _=>om,λ_ _=>om,h.bW,h.bX,λ_ _=>rfl⟩
structure TT (b:Nat) (O:Nat->Prop) (w:Y) (O':Nat->Prop) (w':Y):Prop where
 os:w'.os=w.os
 tape:w'.tape=w.tape
 output:w'.output=w.output
 size:w.heap.size<=w'.heap.size
 block:∀k,k<w.heap.size->k≠b->¬O k->w'.heap[k]?=w.heap[k]?
 own:∀k,O' k->O k\/w.heap.size<=k
def TT.of{d}(a:Gr b w d)(c:BB Z d O' w'):TT b Z w O' w':=
 ⟨c.os.trans a.os,c.tape.trans a.tape,c.output.trans a.output,GO a.size c.size,λk hk hb f=>(c.block k (A0 hk a.size) f).trans<|a.block k hb hk,λk e=>(c.own k e).imp id λh=>GO a.size h⟩
def TT.gr(h:TT b Z w O' w1)(a:Gr b w1 w2):TT b Z w O' w2:=
 ⟨a.os.trans h.os,a.tape.trans h.tape,a.output.trans h.output,GO h.size a.size,λk hk hb c=>(a.block k hb<|A0 hk h.size).trans<|h.block k hk hb c,h.own⟩
def TT.pre(h:TT b Z w1 O' w2)(a:Gr b w w1):TT b Z w O' w2:=
 ⟨h.os.trans a.os,h.tape.trans a.tape,h.output.trans a.output,GO a.size h.size,λk hk hb c=>(h.block k (A0 hk a.size) hb c).trans<|a.block k hb hk,λk e=>(h.own k e).imp id λe=>GO a.size e⟩
theorem TT.trans{a}(h:TT b Z w O' w1)(g:BB O' w1 a w2):TT b Z w a w2:=
 ⟨g.os.trans h.os,g.tape.trans h.tape,g.output.trans h.output,GO h.size g.size,λk hk hb c=>(g.block k (A0 hk h.size) λe=>(h.own k e).elim c λe'=>absurd hk om).trans<|h.block k hk hb c,λk e=>(g.own k e).elim (h.own k) λe=>.inr<|GO h.size e⟩
def uB(K:Kd)(P:AE×Cs)(s:AE)(b Z:Nat)(w:Y)(bl B:Nat)(vF vT vS:V9)(H:Nat->Hs)(w':Y):Prop:=
 ∃s' c' FT BT B1 H',P=(AU s',c')/\TT b (Ba bl vF vT vS H s.nt) w (Ba bl FT BT B1 H' s'.nt) w'/\SM w' bl B FT BT B1 H' s'/\Cq K c' b Z w'/\qI s s'
section
variable {K:Kd} {c:Cs} {b n0 bl B:Nat} {w w':Y} {vF vT vS FT BT B1:V9} {H H':Nat->Hs} {s s':AE}
def SM.gr(h:SM w bl B vF vT vS H s)(a:Gr b w w')(hb:b<B):SM w' bl B vF vT vS H s:=
 h.keep λk hk=>a.block k (oT (h.IC hk).1) (h.IC hk).2
def SM.drew(h:SM w bl B vF vT vS H s):SM w.drew bl B vF vT vS H s:=h.below<|(BE w.heap.size w).drew
def BB.drew(h:BB Z w O' w'):BB Z w O' w'.drew:=h.below<|(BE w'.heap.size w').drew
theorem BB.DP(h:BB Z w O' w')(a:∀k,Z k->B<=k)(b:B<=w.heap.size):Below B w w':=
 ⟨h.os,h.tape,h.output,h.size,λk hk=>h.block k om λe=>oT<|a k e⟩
def Gw{a}{c'}{P}(f:P=(AU s',c'))(g:Gr b w a)(d:BB (Ba bl vF vT vS H s.nt) a (Ba bl FT BT B1 H' s'.nt) w')(c:SM a bl B vF vT vS H s)(h:SM w' bl B FT BT B1 H' s')(hc:Cq K c' b n0 a)(hb:b<B)(i:qI s s'):uB K P s b n0 w bl B vF vT vS H w':=
 ⟨s',c',FT,BT,B1,H',f,TT.of g d,h,hc.below (d.DP (B:=B) (λk e=>(c.IC e).1)<|GO c.base<|Aaa c.lt) hb,i⟩
def SM.zC(h:SM w bl B vF vT vS H s):SM (w.setCell (G bl 0)<|N9) bl B (N9) vT vS H {s with nf:=0}/\BB (Ba bl vF vT vS H s.nt) w (Ba bl (N9) vT vS H s.nt) (w.setCell (G bl 0)<|N9):=by
 have k:∀q,q≠bl->(w.setCell (G bl 0) N9).heap[q]?=w.heap[q]?:=λq hq=>At _ _ _ _ (by exact hq);have a:∀i,i<s.nt->∀q,(H i).own q->q≠bl:=λi hi q e=>(h.apart hi e).1;refine⟨⟨h.base,by simp[World.setCell,Aap,h.BH],IF _ _ _ _,Ae h.t λq e=>k q λe'=>h.Bc h.t oo<|by rw[<-e'];exact e,Ae h.si λq e=>k q λe'=>h.Bc h.si oo<|by rw[<-e'];exact e,λi hi=>Ae (h.v i hi) λq e=>k q<|a i hi q<|.inl e,λi hi=>Ae (h.l i hi) λq e=>k q<|a i hi q<|.inr<|.inl e,λi hi=>Ae (h.i i hi) λq e=>k q<|a i hi q<|.inr<|.inr<|.inl e,λi hi=>Ae (h.x i hi) λq e=>k q<|a i hi q<|.inr<|.inr<|.inr e,h.ap,h.ij⟩,?_⟩;refine⟨rfl,rfl,rfl,oq,λq _ hq=>k q λe=>hq<|.inl e,λq e=>.inl ?_⟩;rcases e with e|e|e
 .exact .inl e
 .cases e
 exact .inr<|.inr e
end
def KJ f q:cellOf f q=cellOf (λ_=>f<|q/3) (q%3):=by
 unfold cellOf;have h:q%3%3=q%3:=Nat.mod_mod _ _;rw[h]
def nX(f)(n i o)(s)(hi:i<n)(a:o<3)(hs:∀q,q<3->q≠o->cellOf (λ_=>s) q=cellOf (λ_=>f i) q):
  (Ol f n).set (i*3+o) (cellOf (λ_=>s) o)=Ol (λj=>if j=i then s else f j) n:=by
 apply AaF;intro q;rw[List.getElem?_set];by_cases hq:q<n*3
 .by_cases e:i*3+o=q
  .rw[DD e,DD (by rw[K7];omega),IJ hq,KJ _ q];have h1:q/3=i:=om;have h2:q%3=o:=om;rw[h1,h2,DD rfl]
  rw[C3 e,IJ hq,IJ hq,KJ f q,KJ _ q];by_cases h1:q/3=i
  .rw[DD h1,h1,hs (q%3) om om]
  rw[C3 h1]
 rw[C3 om,Aab (by rw[K7];omega),Aab (by rw[K7];omega)]
def SM.iO{bl}(h:SM w bl B (S9 g s.nf cp) vT vS H s){i}(hi:i<s.nf)(p)(o)(b:o<3)(hs:∀q,q<3->q≠o->cellOf (λ_=>p) q=cellOf (λ_=>s.F i) q):
  SM (w.setCell (G g<|i*3+o)<|cellOf (λ_=>p) o) bl B (S9 g s.nf cp) vT vS H {s with F:=AM s.F i p}/\BB (Ba bl (S9 g s.nf cp) vT vS H s.nt) w (Ba bl (S9 g s.nf cp) vT vS H s.nt) (w.setCell (G g<|i*3+o)<|cellOf (λ_=>p) o):=by
 have a:g≠bl:=λe=>h.Bc h.f oo<|qm e;have k:∀q,q≠g->(w.setCell (G g<|i*3+o)<|cellOf (λ_=>p) o).heap[q]?=w.heap[q]?:=λq hq=>At _ _ _ _ (by exact hq);have h1:=(h.f.stored (i*3+o)<|cellOf (λ_=>p) o).1;rw[nX s.F s.nf i o p hi b hs]at h1;exact h.Wt (w':=w.setCell (G g<|i*3+o)<|cellOf (λ_=>p) o) ⟨rfl,rfl,rfl,oq,λq _ _ hq=>k q hq,.inl<|k bl a.symm⟩ (.inl rfl) ((As<|k bl a.symm).trans h.cells.1) h1
def lK{cs}{ty}(h:W.heap[ab]?=some (.cells cs ty (0,0)))(v:V9):(W.setCell (G ab 0) v).heap[ab]?=some (.cells (cs.setIfInBounds 0 v) ty (0,0)):=by
 simp[World.setCell,Aap,h]
def rK(hA:pC s){k}{p}(hk:k<s.nf)(hp:p.key=(s.F k).key\/p.key.size<=4000):qI s {s with F:=AM s.F k p}:=
 ⟨UP _,rfl,rfl,λi hi=>by
  show(∃j,j<s.nf/\(AM s.F k p i).key=(s.F j).key)\/(AM s.F k p i).key.size<=4000;unfold AM;split
  .exact hp.imp (λe=>⟨k,hk,e⟩) id
  exact .inl ⟨i,hi,rfl⟩,λ_ _=>UP _,λ_ _=>UP _,λ_ _=>UP _,λ_ _=>Aal _ _,hA.bW,hA.bX,λ_ _=>rfl⟩
def eG{K}{c}(b Z)(w){bl B}{vF vT vS}{H}{s}(hC:Cq K c b Z w)(hM:SM w bl B vF vT vS H s)(h1:1<=s.nf)(h2:s.nf<=200)(ag:∀i,i<s.nf->0<=(s.F i).count/\(s.F i).count<=12)(hA:pC s)(hb:b<B)(hN:Z<=1099511000000):
  C9 77 #[Q9 b,Q9 bl] w λe w'=>(∃v,e=.returned v)/\uB K (Ls K c<|AU s) s b (Z+20) w bl B vF vT vS H w':=by
 obtain⟨g,cp,rfl,bd,b6,_⟩:=hM.Lq om;have au:g≠bl:=λe=>hM.Bc hM.f oo<|qm e;go_enter func77,ntmps77;go_wp2_with fail;refine(AF b Z 8 _ hC om om om).mono ?_;rintro e w1 ⟨x,c1,rfl,b7,b8,bg,av,aw⟩;have A:=hM.gr aw.gr hb;rcases A.cells.1,A.cells.2.2.2 0,O aw.gr,O bg with⟨bx,bf,ax,ay⟩;by_cases x0:x=0
 .subst x0;go_wp2;exact Fs (v:=.tuple #[]) (by simp[results,results77,go_sem]) rfl ⟨⟨_,rfl⟩,Gw (s':={s with nf:=0}) (by simp only[Ls,z ay];rfl) ax A.zC.2 A A.zC.1 (av.mono om) hb ⟨by show 0<=_;omega,rfl,rfl,λi hi=>absurd hi<|P9 _,λ_ _=>UP _,λ_ _=>UP _,λ_ _=>UP _,λ_ _=>Aal _ _,hA.bW,hA.bX,λ_ _=>rfl⟩⟩
 have hx:(x==0)=false:=by simp[x0]
 have b9:((s.nf:Int)==0)=false:=ot;go_wp2_with fail
 refine(AF b (Z+2) s.nf _ av om om om).mono ?_;rintro e w2 ⟨i,c2,rfl,ca,cb,bh,bj,az⟩;obtain⟨k,rfl⟩:∃k:Nat,i=k:=⟨i.toNat,om⟩;have d:k<s.nf:=om;go_wp2_with fail
 refine(AF b (Z+2+2) 4 _ bj om om om).mono ?_;rintro e w3 ⟨X,c3,rfl,cc,cd,bk,Q,aM⟩;have l:=(z<|A.gr az.gr hb).gr aM.gr hb;rcases l.cells.1,l.lt,l.f.cells d,(l.f.lt g rfl).2,(z<|ax.trans az.gr).trans aM.gr with⟨bx,U,⟨q0,q1,q2⟩,bd,R⟩;have S:Hid<|Ls K c (AU s)=JZ K k (X,c3) (AU s):=O (by simp only[Ls,z ay,C3 x0];show JZ K (Ab K s.nf c1).1.toNat (Ab K 4 (Ab K s.nf c1).2) (AU s)=_;simp only[z (O bh),bk,NO]);by_cases y0:X=0
 .subst y0;go_wp2;have cg:IntKind.i64.wrap ((s.nf:Int)+2)=(s.nf:Int)+2:=oj;rcases O l.drew,O Q.drew,O R.drew with⟨V,ad,ae⟩
  go_region_law (first
   |(go_simp;go_at_call 15;refine(AF b (Z+2+2+2) ((s.nf:Int)+2) _ ad om om om).mono ?_;rintro e w4 ⟨W,c4,rfl,bm,bn,n,o,m⟩;have bp:IntKind.i64.wrap (W-1)=W-1:=oj;have a:=V.gr m.gr hb;have kT:=a.cells.1;have e0:=(a.f.cells d).1;have e1:=a.f.frozenAt (k*3);have e2:=(a.f.lt g rfl).2;have a6:=a.lt;have p:=O a;have C:=O o;have D:=O (ae.trans m.gr);have E:=O n;clear a o m n))
  all_goals
   go_wp2;have r:=p.iO d ⟨W-1,(s.F k).key,(s.F k).count⟩ 0 om (λq hq I=>by
    match q,hq,I with
    |1,_,_=>rfl
    |2,_,_=>rfl)
   exact Aan (v:=.tuple #[]) (by simp[results,results77,go_sem]) rfl ⟨⟨_,rfl⟩,Gw (s':={s with F:=AM s.F k ⟨W-1,(s.F k).key,(s.F k).count⟩}) (S.trans<|by simp only[JZ,show(AU s).nf=s.nf from rfl,z E];rfl) D r.2 p r.1 (C.mono om) hb<|rK hA d<|.inl rfl⟩
 have b2:(X==0)=false:=by simp[y0]
 by_cases y1:X=1
 .subst y1;go_wp2;rcases O l.drew,O Q.drew,O R.drew with⟨V,ad,ae⟩
  go_region_law (first
   |(go_simp;go_at_call 37;refine(TI b (Z+2+2+2) _ ad om).mono ?_;rintro e w4 ⟨ws,c4,rfl,bq,n,o,m⟩;have a:=V.gr m hb;have kT:=a.cells.1;have e0:=(a.f.cells d).2.1;have e1:=a.f.frozenAt (k*3+1);have e2:=(a.f.lt g rfl).2;have a6:=a.lt;have p:=O a;have C:=O o;have D:=O (ae.trans m);have E:=O n;clear a o m n))
  all_goals
   go_wp2;have r:=p.iO d ⟨(s.F k).parent,ws,(s.F k).count⟩ 1 om (λq hq I=>by
    match q,hq,I with
    |0,_,_=>rfl
    |2,_,_=>rfl)
   exact Aan (v:=.tuple #[]) (by simp[results,results77,go_sem]) rfl ⟨⟨_,rfl⟩,Gw (s':={s with F:=AM s.F k ⟨(s.F k).parent,ws,(s.F k).count⟩}) (S.trans<|by simp only[JZ,z E];rfl) D r.2 p r.1 (C.mono om) hb<|rK hA d<|.inr bq⟩
 have b3:(X==1)=false:=by simp[y1]
 by_cases y2:X=2
 .subst y2;go_wp2;have ch:=ag k d
  go_region_law (first
   |(go_simp;go_at_call 15;refine(AF b (Z+2+2+2) 3 _ (z (O Q.drew)) om om om).mono ?_;rintro e w4 ⟨W,c4,rfl,bm,bn,n,o,m⟩;have bp:IntKind.i64.wrap (W-1)=W-1:=oj;have cj:IntKind.i64.wrap ((s.F k).count+(W-1))=(s.F k).count+(W-1):=oj;have a:=(z (O l.drew)).gr m.gr hb;have kT:=a.cells.1;have e0:=(a.f.cells d).2.2;have e1:=a.f.frozenAt (k*3+2);have e2:=(a.f.lt g rfl).2;have a6:=a.lt;have p:=O a;have C:=O o;have D:=O ((z (O R.drew)).trans m.gr);have E:=O n;clear a o m n))
  all_goals
   go_wp2;have r:=p.iO d ⟨(s.F k).parent,(s.F k).key,(s.F k).count+(W-1)⟩ 2 om (λq hq I=>by
    rcases(show q=0\/q=1 by omega)with rfl|rfl<;>rfl)
   exact Aan (v:=.tuple #[]) (by simp[results,results77,go_sem]) rfl ⟨⟨_,rfl⟩,Gw (s':={s with F:=AM s.F k ⟨(s.F k).parent,(s.F k).key,(s.F k).count+(W-1)⟩}) (S.trans<|by simp only[JZ,z E];rfl) D r.2 p r.1 (C.mono om) hb<|rK hA d<|.inl rfl⟩
 have b4:(X==2)=false:=by simp[y2]
 obtain rfl:X=3:=om;obtain⟨i0,ah,ai,aj,ak⟩:=Ok J5;go_wp2;obtain⟨ns,T⟩:∃ns:List Value,ns=[J (s.F k).parent,.string (s.F k).key,J (s.F k).count]:=⟨_,rfl⟩;have br:Hid<|(w3.alloc<|.cells #[J (s.F k).parent,.string (s.F k).key,J (s.F k).count] 108).drew.ownsRow B 108 3 (S9 g s.nf cp) s.nf<|Ol s.F s.nf:=O (l.f.alloc _).drew;have bt:Hid<|∀j u,ns[j]?=some u->(w3.alloc<|.cells #[J (s.F k).parent,.string (s.F k).key,J (s.F k).count] 108).drew.cell? (((y w3 0):Addr).add j)=some u:=O (by rw[T];exact Is<|DO w3<|.cells #[J (s.F k).parent,.string (s.F k).key,J (s.F k).count] 108);have bu:ns.length=1*3:=qm T
 have ao:∀u∈ns,u.oneCell'=true:=by rw[T];simp[Value.oneCell']
 have bw:B<=(w3.alloc<|.cells #[J (s.F k).parent,.string (s.F k).key,J (s.F k).count] 108).drew.heap.size:=ot;have a7:Hid<|(w3.alloc<|.cells #[J (s.F k).parent,.string (s.F k).key,J (s.F k).count] 108).drew.cell? (G bl 0)=some (S9 g s.nf cp)/\(w3.alloc<|.cells #[J (s.F k).parent,.string (s.F k).key,J (s.F k).count] 108).drew.frozen? (G bl 0)=false:=O ⟨Io bx,(GW (w:=w3)<|E1 _ _ _ U).trans<|l.cells.2.2.2 0⟩;have L:some bl≠(Value.slice (some<|G g 0) s.nf cp).ownBlock:=by simpa[Value.ownBlock]using au.symm
 go_region_law (refine Re _ rfl (.tmp 32) (.tmp 40) 23 rfl B 108 i0 (Sh 0 ⟨#[]⟩ 0) 3 32 underlying23 ah ai aj ak rfl oo (S9 g s.nf cp) s.nf (Ol s.F s.nf) og br (y w3 0) 1 1 ns og bu bt ao oo od om bw _ rfl ?_;intro g5 af w5 M t P b5;have y5:w5.cell? (G bl 0)=some (S9 g s.nf cp):=t.cell a7.1 L;have e5:w5.frozen? (G bl 0)=false:=(GW<|t.block bl ot L).trans a7.2;have ck:bl<w5.heap.size:=A0 U<|GO oq t.size;have bz:=O M;have a8:=O t;clear M t)
 all_goals
  have b0:ER w5 B (S9 g5 (s.nf+1) af) (s.nf+1)<|AM s.F s.nf<|s.F k:=by
   have h:=z bz;rw[z (O T),RU (f:=s.F) (g:=AM s.F s.nf (s.F k)) (λj hj=>(Ak _ _ om).symm),LY _ s.nf (s.F k) (Aj _ _ _)]at h;exact h
  have b1:g5≠bl:=by
   rcases P with h|h
   .simp[Value.ownBlock]at h;omega
   simp at h;omega
  have bb:∀q,q<w3.heap.size->q≠g->w5.heap[q]?=w3.heap[q]?:=λq hq I=>by
   have hG:=z a8;rw[hG.block q ot (by simp[Value.ownBlock];omega)];exact E1 w3 _ q om
  have aq:VU bl g w3<|w5.setCell (G bl 0)<|S9 g5 (s.nf+1) af:=by
   have hG:=z a8;refine⟨hG.os,hG.tape,hG.output,GO oq<|GO hG.size oq,λq hq h1 h2=>(At _ _ _ _<|by exact h1).trans<|bb q hq h2,.inr ⟨_,λcs ty h=>lK ((bb bl U au.symm).trans h) _⟩⟩
  have ar:=l.Wt aq (b':=g5) (cp':=af) (n':=s.nf+1) (f':=AM s.F s.nf<|s.F k) (by
   rcases P with h|h
   .simp[Value.ownBlock]at h;exact .inl h.symm
   simp at h;exact .inr om) (by simp[go_sem,y5]) (Bi b0 _ (oS b1))
  have bc:=O ar;go_wp2;exact Aan (v:=.tuple #[]) (by simp[results,results77,go_sem]) rfl ⟨⟨_,rfl⟩,Gw (s':={s with nf:=s.nf+1,F:=AM s.F s.nf (s.F k)}) S R bc.2 l bc.1 (Q.mono om) hb ⟨Be _,rfl,rfl,λi hi=>by
   show(∃j,j<s.nf/\(AM s.F s.nf (s.F k) i).key=(s.F j).key)\/(AM s.F s.nf (s.F k) i).key.size<=4000;have hi:i<s.nf+1:=hi;by_cases e:i=s.nf
   .rw[e,Aj];exact .inl ⟨k,d,rfl⟩
   rw[Ak _ _ e];exact .inl ⟨i,om,rfl⟩,λ_ _=>UP _,λ_ _=>UP _,λ_ _=>UP _,λ_ _=>Aal _ _,hA.bW,hA.bX,λ_ _=>rfl⟩⟩
end Go.Proofs.YtkpfgniijbgkoaaGreatDoor
