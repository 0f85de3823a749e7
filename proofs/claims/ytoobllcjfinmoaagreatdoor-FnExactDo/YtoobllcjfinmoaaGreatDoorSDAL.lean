import Derived.Test.YtoobllcjfinmoaaGreatDoorSDAK
import Derived.Test.YtoobllcjfinmoaaGreatDoorSDAI
set_option linter.all false
set_option maxHeartbeats 40000000
set_option maxRecDepth 100000
namespace Go.Proofs.YtoobllcjfinmoaaGreatDoor
open Go.Proofs.Tryz
open Go.RowKit
attribute [local go_sem] Aw Ar Dd
variable {s:AL}{w w':Y}{b m lo hi tc c B ab p:Nat}{a:Ac}{ta sa:Option Addr}{H:Nat->Hs}{e:Ending}{ty:TypeId}{u0 u1 u2:V9}{cs:Array Value}
def WW{M}(h:BC s (Dz s)=0)(a:gY s)(b:∀i,i<s.nt->(s.T i).d.m<=M):LI M s:=by
 obtain⟨h1,⟨h2,h3⟩,h4,h5⟩:=Lx h;refine⟨h1,h2,h3,λi hi=>⟨?_,(a i hi).2,b i hi⟩,h5⟩;rcases h4 i hi with⟨e1,e2,e3⟩|⟨e1,e2,e3,c,e⟩
 .exact .inl ⟨e1,e2,ZS (Lu e3) (a i hi).2⟩
 obtain⟨j,hj⟩:=Int.eq_ofNat_of_zero_le e1;rw[hj,Ok]at e3;refine .inr ⟨j,hj,om,?_,c,λq hq=>⟨e q hq,(a i hi).1 q hq⟩⟩;grind [BC,Dz,gY,Au,Bb,nf]
abbrev qD:List Value:=[N9,N9,N9,J 0,J 0,J 0,J 0,F9 0,E9,J 0,J 0,J 0,F9 0,E9,J 0]
def iB(vF vT vS:V9)(x:An):List Value:=[vF,vT,vS,J x.code,J x.num,J x.key.kind,J x.key.num,F9 x.key.Af,.string x.key.str,J x.key.ref,J x.val.kind,J x.val.num,F9 x.val.Af,.string x.val.str,J x.val.ref]
abbrev aP(vF vT vS:V9)(x:An):Value:=.agg (iB vF vT vS x).toArray
def mT:An:=⟨0,0,default,default⟩
def kY w:(sizeOf 47).run prog w=.ok 15 w:=ou
def IE(h:w.heap[b]?=some (.cells qD.toArray 47 (0,0)))a ta sa fn c tn tc d sc x:∃w',(Instr.storeAt 47 (Q9 b)<|aP (.slice a fn c) (.slice ta tn tc) (.slice sa d sc) x).run prog w=.ok () w'/\Br w w' b (iB (.slice a fn c) (.slice ta tn tc) (.slice sa d sc) x).toArray 47:=
 BQ (old:=qD) (vs:=iB (.slice a fn c) (.slice ta tn tc) (.slice sa d sc) x) kY h rfl rfl (by simp[iB,Value.oneCell']) rfl
def Cg{vF vT vS}{x}(h:w.heap[b]?=some (.cells (iB vF vT vS x).toArray 47 (0,0))):w.cell? (G b 0)=some vF/\w.cell? (G b 1)=some vT/\w.cell? (G b 2)=some vS/\w.cell? (G b 3)=some (J x.code)/\w.cell? (G b 4)=some (J x.num)/\w.cell? (G b 5)=some (J x.key.kind)/\w.cell? (G b 6)=some (J x.key.num)/\w.cell? (G b 7)=some (F9 x.key.Af)/\w.cell? (G b 8)=some (.string x.key.str)/\w.cell? (G b 9)=some (J x.key.ref)/\w.cell? (G b 10)=some (J x.val.kind)/\w.cell? (G b 11)=some (J x.val.num)/\w.cell? (G b 12)=some (F9 x.val.Af)/\w.cell? (G b 13)=some (.string x.val.str)/\w.cell? (G b 14)=some (J x.val.ref):=by
 refine⟨?_,?_,?_,?_,?_,?_,?_,?_,?_,?_,?_,?_,?_,?_,?_⟩<;>(rw[MM w b _ _ _ _ h];rfl)
def Oe(b:Nat)(x:An)(w:Y):Prop:=w.cell? (G b 0)=some (J x.code)/\w.cell? (G b 1)=some (J x.num)/\w.cell? (G b 2)=some (J x.key.kind)/\w.cell? (G b 3)=some (J x.key.num)/\w.cell? (G b 4)=some (F9 x.key.Af)/\w.cell? (G b 5)=some (.string x.key.str)/\w.cell? (G b 6)=some (J x.key.ref)/\w.cell? (G b 7)=some (J x.val.kind)/\w.cell? (G b 8)=some (J x.val.num)/\w.cell? (G b 9)=some (F9 x.val.Af)/\w.cell? (G b 10)=some (.string x.val.str)/\w.cell? (G b 11)=some (J x.val.ref)
def aR(w:Y)(s:AL)(a:Ac)(e:Ending)(w':Y):Prop:=
 ((BC s (Dz s)≠0/\e=.returned (aP N9 N9 N9 mT))\/(BC s (Dz s)=0/\∃vF vT vS H lo,e=.returned (aP vF vT vS<|Di s a)/\Nh lo w'.heap.size w' vF vT vS (AP s a) H/\w.heap.size<=lo))/\B9 w w'
def O0 fc{ta:Option Addr}tc{sa:Option Addr}sc{s}a{w}(hF:Bd w m s.nf s.F)(hT:RV w ta s.nt s.T)(hS:FM w sa s.ns s.S)(hs:Kh s)(hw:gY s)(hk:∀i,i<s.ns->(s.S i).key.size<=maxLen)(hm:∀i,i<s.nt->(s.T i).d.m<=3000000)(aq:Wf a.k)(bn:Wf a.v)(ad:BO w)(hE:IW w):
  C9 9 #[Qk (some<|G m 0) fc ta tc sa sc s,KI a] w λe w'=>aR w s a e w':=by
 rcases hE.lt,hF.lt,ad.sz,gZ w (.cells #[.slice (some<|G m 0) s.nf fc,.slice ta s.nt tc,.slice sa s.ns sc] 42) (.cells (F6 a) 51) (.cells qD.toArray 47) with⟨bp,bq,cb,⟨W,hW,l,hz,_,o1,hR⟩⟩;have hA:Ng W (w.heap.size+1) a:=o1;have s2:W.cell? (y w 2)=some (.slice sa s.ns sc):=by rw[hW];simp[go_sem]
 obtain⟨A,ar⟩:=(hT.below l rfl).addr;have HJ:=O<|O3 A5 fc tc sc (Dz s) (A5 _ _ ad l) (hF.below l bq) ar (hS.below l rfl) hs hk<|oE hs hw;have br:=O<|hS.below l rfl;have bt:Hid<|BC s (Dz s)=0->LI 3000000 s:=O λh=>WW h hw hm;rcases O l,O hR,O hE with⟨HB,HR,HE⟩;clear l hR hF hT hS hs hw hk hm hE;go_enter func9,ntmps9;go_wp2_with fail;rw[<-hW];clear hW;refine HJ.mono ?_;rintro e w1 ⟨hj,n⟩;have z1:=n.size;have au:=O n;have bu:=O<|(n.block _ om).trans HR;clear n HJ;rcases hj with⟨r,rfl,hr,ae⟩|⟨g,cp,Bk,Z,M,kv,b1,rfl,h0,hN,⟨n,av⟩,af⟩
 .have bw:=O<|hr▸ae;have dr:(r !=0)=true:=by simpa using ae
  obtain⟨X,hX,j,_⟩:=JZ w1<|.cells #[N9,N9] 73;obtain⟨w9,C,f⟩:=IE ((j.block _ om).trans bu) none none none 0 0 0 0 0 0 mT;have bx:=O C;rcases O (f.below (o8 HB<|au.trans<|j.mono z1) om),O<|f.BB,O hX with⟨I,ag,L⟩;clear hr ae C f j hX;go_upto_region 2 with fail
  rw[<-z L];go_wp2_with (refine Ag rfl rfl _ bx ?_);refine FJ results9 underlying47 ag ⟨.inl ⟨bw,rfl⟩,I⟩
 obtain⟨ka,kc,rfl⟩:=AF af;obtain⟨X,hX,j,_⟩:=JZ w1<|.cells #[.slice (some<|G g 0) s.nf cp,.slice ka s.nt kc] 73;have x0:X.cell? (y w1 0)=some (.slice (some<|G g 0) s.nf cp):=by rw[hX];simp[go_sem]
 have x1:X.cell? (y w1 1)=some (.slice ka s.nt kc):=by rw[hX];simp[go_sem]
 have D:=au.trans<|j.mono z1;have bz:=oT D (by show w.heap.size<W.heap.size;omega) s2;have P:=z bt h0;have HO:=O (SI W.heap.size _ _ _ _ _ kc sc Bk A s om P.ns (WD av j) ⟨Z,M,hN.ns.below j,hN.id⟩ (Eg (WD af j) n) (br.below D rfl) (λw' V h1 h2 i hi=>by
  obtain⟨b,off,_,_,hcs⟩:=ar.resolve_left om;exact Rd.arg (hcs i hi).2.1 (hcs i hi).2.2 (D.trans (h1.mono om)) h2))
 have HG:LH s:=P.mono om;have b0:=O h0;have b2:LH<|AP s a:=(RG P a aq bn).mono om;have b3:=O D;have L:=O hX;clear hN av af n j D hX P h0;go_upto_region 4 with fail
 rw[<-z L];clear L;go_wp2_with fail;refine HO.mono ?_;rintro e w3 ⟨⟨c,vS,rfl,ah⟩,ai⟩;have z3:=ai.size;have t:=b3.trans<|ai.mono om;have aw:=hA.below t om;have U:=O<|gQ ah HG (A5 _ _ (A5 _ _ ad HB) t) aq om ((HE.below HB bp).below t om) om<|iV a;obtain⟨a0,a1,a2,a3,a4,a5,a6,a7,a8,a9,b4,b5,a12,b6⟩:=aw.all;have lA:w.heap.size+1<w3.heap.size:=om;have ao:Hid<|∀k,Az W.heap.size c (.slice (some<|G g 0) s.nf cp) (.slice ka s.nt kc) vS w3 k->W.heap.size<=k:=O λk e=>(ah.PK e).1;clear ah ai aw x0 x1 bz HO;go_wp2_with fail;refine U.mono ?_;rintro e w4 ⟨rfl,cc,cd,cg,ch,cj,A4,ax,o⟩;have z4:=o.size;obtain⟨x,hx⟩:=qa<|Di s a;rw[hx,show H7 x=qF x from rfl];have b7:=O hx;have ay:Below W.heap.size w3 w4:=⟨o.os,o.tape,o.output,o.size,λk hk=>o.block k om λe=>oS<|z ao k e⟩;have az:=t.trans ay;have b8:=O ax;clear hx ax o ay a0 a1 a2 a3 a4 a5 a6 a7 a8 a9 b4 b5 a12 b6 U;go_simp
 rename_i b9
 refine b9 _ _ ?_;refine wpList_plain rfl λK hK=>?_;go_simp;refine hK _ _ ?_;clear hK K;refine Ag rfl rfl _ (W7 w4 x) ?_;obtain⟨w5,Q⟩:=o9<|w4.alloc<|.cells (LJ x).toArray 45;rw[<-Q];have aj:B9 w4 w5:=by rw[Q];exact(BE _ _).alloc (Be _) _
 have R:w5.heap[w4.heap.size]?=some (.cells (LJ x).toArray 45 (0,0)):=by rw[Q];exact DD _ _
 have ca:Oe w4.heap.size x w5.drew:=An.read (w:=w5.drew) R;rcases Ah R,O<|Xo (b8.below aj.drew).1 b2,O<|o8 az aj,O R with⟨z5,aM,bb,bc⟩;clear aj R Q;go_upto_region 6 with fail
 refine GH (Oe w4.heap.size x) ?_;refine tz 0 (h:=tz 2 (h:=?_));refine ry 1 λK hK=>?_;go_simp;refine aM.mono ?_;rintro e w6 ⟨⟨vF,vT,ck,H,rfl,ak⟩,B⟩;obtain⟨fa,bd,bf,bg,bh,bj,rfl,rfl,rfl⟩:=ak.forms;have u:B9 w5 w6:=⟨B.os,B.tape,B.output,B.size,λk hk=>B.block k hk⟩;have bk:Oe w4.heap.size x w6:=An.read<|(u.block _ z5).trans bc;have E:=o8 bb u;obtain⟨w9,C,f⟩:=IE ((E.block _ om).trans HR) fa bf bh (AP s a).nf bd (AP s a).nt bg (AP s a).ns bj x;have bm:Oe w4.heap.size x w9:=An.read<|(f.other _ om).trans<|(u.block _ z5).trans bc;have I:Hid<|Nh w5.heap.size w9.heap.size w9 (.slice fa (AP s a).nf bd) (.slice bf (AP s a).nt bg) (.slice bh (AP s a).ns bj) (AP s a) H/\B9 w w9:=O ⟨by rw[f.size];exact ak.keep λq h1 _ _=>f.other q (by have:w5.heap.size<=q:=h1;omega),f.below (o8 HB E) om⟩;refine hK.out _ _ bk λ_=>?_;clear hK K;refine tz 3 (h:=?_);refine ry 4 λK hK=>?_;refine Bj rfl rfl w9 C ?_;refine hK.out _ _ bm λ_=>?_;clear hK K;refine FE ?_;have ag:=O<|f.BB;clear C f B u ak bk bm E ca aM;go_wp2_with fail;refine FJ results9 underlying47 ag ⟨.inr ⟨b0,_,_,_,H,_,qh b7,I.1,om⟩,I.2⟩
def N0:AL:=⟨0,λ_=>default,0,λ_=>Ly,0,λ_=>default⟩
theorem Vn{f:Nat->Tb}{n:Nat}(h:∀i,i<n->tw (f i)<=14000000):∀k,k<=n->Eu f k<=k*14000000
 |0,_=>W9 _
 |k+1,hk=>by
  have h1:=Vn h k om;have h2:=h k om;show Eu f k+tw (f k)<=_;omega
def Kh.marks(h:Kh s)(hn:s.nt<=100):bA s:=by
 refine⟨h.f.1,?_,h.n⟩;have:=Vn (f:=s.T) (n:=s.nt) (λi hi=>by
  have h1:=h.nv hi;have h2:=h.I5 hi;have:=h2.n;have:=h2.m;have:=h2.x;unfold tw dw;omega) s.nt (Be _)
 omega
def Nh.sat{a}{sc}(h:Nh lo hi w (.slice a s.nf b) (.slice ta s.nt tc) (.slice sa s.ns sc) s H):aL w a ta sa s:=by
 rcases h.f.at,h.t.at,h.si.at with⟨⟨a1,c1,e1,h1⟩,⟨a2,c2,e2,h2⟩,⟨a3,c3,e3,h3⟩⟩;cases e1;cases e2;cases e3;exact⟨h1,h2,h3⟩
def SM.sat{d sc}{b}(h:SM w c B (.slice b s.nf d) (.slice ta s.nt tc) (.slice sa s.ns sc) H s):aL w b ta sa s:=by
 refine⟨?_,h.vG,?_⟩
 .rcases Aax s.nf with e|e
  .exact .inl e
  obtain⟨g,f,a,_,_,j⟩:=h.OH e;cases a;exact j.at
 rcases Aax s.ns with e|e
 .exact .inl e
 obtain⟨g,f,a,k,_,_,_⟩:=h.GY e;cases a;refine .inr ⟨g,0,rfl,k,λi hi=>?_⟩;obtain⟨g',l,hv',_,_,hc,_⟩:=h.GY hi;cases hv';rw[VC];exact⟨hc 0 _ rfl,hc 1 _ rfl,hc 2 _ rfl,hc 3 _ rfl,hc 4 _ rfl⟩
def lP(B:Nat)(w:Y)(a ta sa:T9)(s:AL):Prop:=∀w':World,w.heap.size<=w'.heap.size->(∀k,B<=k->k<w.heap.size->w'.heap[k]?=w.heap[k]?)->aL w' a ta sa s
def lP.lower{B'}{a:Option Addr}(h:lP B w a ta sa s)(b:B'<=B):lP B' w a ta sa s:=λw' hs hk=>h w' hs λk h1 h2=>hk k om h2
def SM.uP{sc}{a}(h:SM w c B (.slice a s.nf b) (.slice ta s.nt tc) (.slice sa s.ns sc) H s):lP B w a ta sa s:=λw' _ hk=>(h.keep λk e=>hk k (h.PK e).1 (h.PK e).2).sat
def aQ(w:Y)(s:AL)(a:Ac)(e:Ending)(w':Y):Prop:=
 ((BC s (Dz s)≠0/\e=.returned (aP N9 N9 N9 mT))\/(BC s (Dz s)=0/\∃b c ta tc sa sc,e=.returned (aP (.slice b (AP s a).nf c) (.slice ta (AP s a).nt tc) (.slice sa (AP s a).ns sc)<|Di s a)/\lP w.heap.size w' b ta sa (AP s a)))/\B9 w w'
def VE(c b:Nat)(vF vT vS:V9)(x:An)(w:Y):Prop:=w.cell? (G c 0)=some vF/\w.cell? (G c 1)=some vT/\w.cell? (G c 2)=some vS/\Oe b x w
def W6 fc{ta:Option Addr}tc{sa:Option Addr}sc{s}a{w}(hF:Bd w m s.nf s.F)(hT:RV w ta s.nt s.T)(hS:FM w sa s.ns s.S)(hs:Kh s)(hw:gY s)(hk:∀i,i<s.ns->(s.S i).key.size<=maxLen)(hm:∀i,i<s.nt->(s.T i).d.m<=3000000)(ao:Wf a.k)(bf:Wf a.v):
  C9 6 #[Qk (some<|G m 0) fc ta tc sa sc s,KI a] w λe w'=>aQ w s a e w':=by
 have Z:=hF.lt;obtain⟨W,hW,b,hz,o0,o1,hR⟩:=gZ w (.cells #[S9 m s.nf fc,.slice ta s.nt tc,.slice sa s.ns sc] 42) (.cells (F6 a) 51)<|.cells qD.toArray 47;have hA:Ng W (w.heap.size+1) a:=o1;rcases v3 o0,O<|ql (hF.below b Z)<|ql (hT.below b rfl)<|hS.below b rfl,O (U8 fc tc sc (Dz s) (hF.below b Z) (hT.below b rfl) (hS.below b rfl) hs hk<|pK hs hw) with⟨⟨s0,s1,s2⟩,j,aq⟩;have ar:Hid<|BC s (Dz s)=0->LI 3000000 s:=O λh=>WW h hw hm;have HR:=O hR;go_enter func6,ntmps6;go_wp2_with fail;rw[<-hW];refine aq.mono ?_;rintro e w1 ⟨rfl,g⟩;have z1:=g.size;have af:=O g;have au:=O<|(g.block _ om).trans HR;have lW:w.heap.size<W.heap.size:=om;rcases (g.cell lW).trans s0,(g.cell lW).trans s1,(g.cell lW).trans s2 with⟨t0,t1,t2⟩;have j:=O<|ql (j.1.below g<|oS j.1.lt)<|ql (j.2.1.below g rfl)<|j.2.2.below g rfl;by_cases h0:BC s (Dz s)=0
 case neg=>
  obtain⟨r,hr⟩:=qa<|BC s<|Dz s;rw[hr];have dr:(r !=0)=true:=by rw[<-hr];simpa using h0
  have av:=O h0;obtain⟨X,R,l⟩:=IE au none none none 0 0 0 0 0 0 mT;have u:=O R;have E:=O<|l.below (o8 b af) om;have U:=O<|l.BB;go_wp2_with (refine Ag rfl rfl _ u ?_);refine FJ results6 underlying47 U ⟨.inl ⟨av,rfl⟩,E⟩
 case pos=>
  rw[h0];have aw:=O h0;have I:=z ar h0;have HG:LH s:=I.mono om;have ax:=O<|Wd fc tc sc j.1 (oS (Au I.f).1.2) j.2.1 j.2.2 hs I.nt I.ns;go_wp2_with fail;refine ax.mono ?_;rintro e w3 ⟨⟨c,vF,vT,vS,H,rfl,ag⟩,ah⟩;have z3:=ah.size;have P:=af.trans<|ah.mono z1;have ay:=hA.below P om;have ad:=O<|dA a ag HG ao;obtain⟨a0,a1,a2,a3,a4,a5,a6,a7,a8,a9,bg,bh,a12,bj⟩:=ay.all;have lA:w.heap.size+1<w3.heap.size:=om;have ae:Hid<|∀k,Bo c vF vT vS H s.nt k->w1.heap.size<=k:=O λk e=>(ag.PK e).1;go_wp2_with fail;refine ad.mono ?_;rintro e w4 ⟨rfl,bk,bm,bn,H4,L,n⟩;have z4:=n.size;obtain⟨x,hx⟩:=qa<|Di s a;rw[hx,show H7 x=qF x from rfl];have az:=O hx;have aM:Below W.heap.size w3 w4:=⟨n.os,n.tape,n.output,n.size,λk hk=>n.block k om λe=>oS<|z ae k e⟩;have ai:=P.trans aM;obtain⟨o,A,rfl⟩:=AF L.f;obtain⟨p,B,rfl⟩:=AF L.t;obtain⟨q,C,rfl⟩:=AF L.si;go_simp
  rename_i bb
  refine bb _ _ ?_;refine wpList_plain rfl λK hK=>?_;go_simp;refine hK _ _ ?_;clear hK K;refine Ag rfl rfl _ (W7 w4 x) ?_;obtain⟨w5,V⟩:=o9<|w4.alloc<|.cells (LJ x).toArray 45;rw[<-V];have aj:B9 w4 w5:=by rw[V];exact(BE _ _).alloc (Be _) _
  have ak:w5.heap[w4.heap.size]?=some (.cells (LJ x).toArray 45 (0,0)):=by rw[V];exact DD _ _
  have D:=L.below aj;have bp:VE c w4.heap.size (.slice o (AP s a).nf A) (.slice p (AP s a).nt B) (.slice q (AP s a).ns C) x w5.drew:=⟨D.cells.1,D.cells.2.1,D.cells.2.2.1,An.read (w:=w5.drew) ak⟩;have Q:=o8 ai aj;obtain⟨X,R,l⟩:=IE (w:=w5.drew) ((Q.block _ om).trans HR) o p q (AP s a).nf A (AP s a).nt B (AP s a).ns C x;have bc:∀k,Bo c (.slice o (AP s a).nf A) (.slice p (AP s a).nt B) (.slice q (AP s a).ns C) H4 (AP s a).nt k->X.heap[k]?=w5.heap[k]?:=λk e=>l.other k<|oS (D.PK e).1;have M:=D.keep bc;have bd:VE c w4.heap.size (.slice o (AP s a).nf A) (.slice p (AP s a).nt B) (.slice q (AP s a).ns C) x X:=⟨M.cells.1,M.cells.2.1,M.cells.2.2.1,An.read<|(l.other _ om).trans ak⟩;have E:Hid<|lP w.heap.size X o p q (AP s a)/\B9 w X:=O ⟨M.uP.lower om,l.below ((o8 b Q).drew) om⟩;have u:=O R;have U:=O<|l.BB;go_upto_region 5 with fail
  refine GH (VE c w4.heap.size (.slice o (AP s a).nf A) (.slice p (AP s a).nt B) (.slice q (AP s a).ns C) x) ?_;refine tz 0 (h:=tz 1 (h:=tz 2 (h:=tz 3 (h:=tz 4 (h:=?_)))));refine ry 5 λK hK=>?_;refine Bj rfl rfl X u ?_;refine hK.out _ _ bd λ_=>?_;clear hK K;refine FE ?_;go_wp2_with fail;refine FJ results6 underlying47 U ⟨.inr ⟨aw,_,_,_,_,_,_,qh az,E.1⟩,E.2⟩
open Classical in
noncomputable def iC(s:AL)(a:Ac):AL:=if BC s (Dz s)=0 then AP s a else N0
open Classical in
noncomputable def nK(s:AL)(a:Ac):An:=if BC s (Dz s)=0 then Di s a else mT
def iW(f:gY s)(g:∀i,i<s.nt->(s.T i).d.m<=3000000)(b:Wf a.k)(c:Wf a.v):Kh (iC s a)/\(iC s a).nt<=100:=by
 unfold iC;split
 .rename_i h
  have e:LH<|AP s a:=(RG (WW h f g) a b c).mono om;exact⟨LI.vD e,e.nt⟩
 exact⟨⟨⟨oo,λi hi=>absurd hi<|To _⟩,oo,λhi=>absurd hi<|To _,λhi=>absurd hi<|To _,oo⟩,oo⟩
def Oa(w:Y)(s:AL)(x:An)(e:Ending)(w':Y):Prop:=
 ∃a b ta tc sa sc H lo,e=.returned (aP (.slice a s.nf b) (.slice ta s.nt tc) (.slice sa s.ns sc) x)/\Nh lo w'.heap.size w' (.slice a s.nf b) (.slice ta s.nt tc) (.slice sa s.ns sc) s H/\w.heap.size<=lo/\B9 w w'
def RO(w:Y)(s:AL)(x:An)(e:Ending)(w':Y):Prop:=
 ∃a b ta tc sa sc,e=.returned (aP (.slice a s.nf b) (.slice ta s.nt tc) (.slice sa s.ns sc) x)/\lP w.heap.size w' a ta sa s/\B9 w w'
def aR.says(h:aR w s a e w'):Oa w (iC s a) (nK s a) e w':=by
 obtain⟨⟨b,c⟩|⟨b,vF,vT,vS,H,lo,c,d,hl⟩,hb⟩:=h
 .have e1:iC s a=N0:=Cs b;have e2:nK s a=mT:=Cs b;unfold Oa;rw[e1,e2];exact⟨none,0,none,0,none,0,λ_=>LK,w.heap.size,c,⟨.inl ⟨rfl,rfl⟩,.inl ⟨rfl,rfl⟩,.inl ⟨rfl,rfl⟩,λq e=>(by cases e),λq e=>(by cases e),λq i e=>(by cases e),λq e=>(by cases e),λq i e=>by cases e⟩,Be _,hb⟩
 have e1:iC s a=AP s a:=C3 b;have e2:nK s a=Di s a:=C3 b;obtain⟨f,g,ta,tc,sa,sc,rfl,rfl,rfl⟩:=d.forms;unfold Oa;grind
def aQ.says(h:aQ w s a e w'):RO w (iC s a) (nK s a) e w':=by
 obtain⟨⟨b,c⟩|⟨b,d,f,ta,tc,sa,sc,c,g⟩,hb⟩:=h
 .have e1:iC s a=N0:=Cs b;have e2:nK s a=mT:=Cs b;unfold RO;rw[e1,e2];exact⟨none,0,none,0,none,0,c,λ_ _ _=>⟨.inl rfl,.inl rfl,.inl rfl⟩,hb⟩
 have e1:iC s a=AP s a:=C3 b;have e2:nK s a=Di s a:=C3 b;unfold RO;grind
def L7{m c d f:Option Addr}n g tc i sc j{s}x{w}(h:aL w m ta sa s)(h':aL w c d f s)(hs:Kh s):
  C9 10 #[(aP (.slice m s.nf n) (.slice ta s.nt tc) (.slice sa s.ns sc) x),(aP (.slice c s.nf g) (.slice d s.nt i) (.slice f s.ns j) x)] w (R9 (.bool true) w):=by
 obtain⟨W,o,b,_,b0,b1⟩:=Tk w (.cells (iB (.slice m s.nf n) (.slice ta s.nt tc) (.slice sa s.ns sc) x).toArray 47)<|.cells (iB (.slice c s.nf g) (.slice d s.nt i) (.slice f s.ns j) x).toArray 47;have hz:w.heap.size+1<W.heap.size:=by rw[o];simp
 rcases O (OG n g tc i sc j (h.below b) (h'.below b) hs),O b,O b0,O b1,Cg b0,Cg b1 with⟨r,q,t,u,⟨x0,x1,x2,_⟩,⟨v,A,B,_⟩⟩;have l0:w.heap.size<W.heap.size:=om;clear b b0 b1 h h' hs;go_enter func10,ntmps10;go_upto_region 1 with fail
 rw[<-o];clear o;go_wp2_with fail;refine r.mono ?_;rintro e w1 ⟨rfl,a⟩;rcases a.size,Cg<|(a.block _ l0).trans t,Cg ((a.block _ hz).trans u) with⟨Q,⟨_,_,_,R,S,T,U,V,X,Z,rO,C,D,E,F⟩,⟨_,_,_,q3,q4,q5,q6,q7,q8,q9,H,I,K,L,M⟩⟩;have m0:w.heap.size<w1.heap.size:=om;have m1:w.heap.size+1<w1.heap.size:=om;have k:=O<|o8 q a;have P:=O<|TF x w1;clear a x0 x1 x2 v A B;go_wp2_with fail;refine P.mono ?_;rintro e w2 ⟨rfl,l⟩;have p:=O<|o8 k l;clear l;go_wp2;go_ret;exact⟨rfl,p⟩
def SA f ta sa g tc sc{s}x{H}{w}(h:Nh lo hi w (.slice f s.nf g) (.slice ta s.nt tc) (.slice sa s.ns sc) s H)(hs:bA s)(m:hi<=w.heap.size):
  C9 13 #[(aP (.slice f s.nf g) (.slice ta s.nt tc) (.slice sa s.ns sc) x),J 1] w λe w'=>(e=.returned (J (IM s 1:Int))/\Nh lo hi w' (.slice f s.nf g) (.slice ta s.nt tc) (.slice sa s.ns sc) (Uy s 1) H)/\Ou lo hi w w':=by
 obtain⟨W,l,a,_,b0⟩:=JZ w<|.cells (iB (.slice f s.nf g) (.slice ta s.nt tc) (.slice sa s.ns sc) x).toArray 47;have hz:=Ah b0;obtain⟨x0,x1,x2,_⟩:=Cg b0;have n:=O<|jW (h.below a m) hs 1 om om;have b:=O a;clear h hs a b0;go_enter func13,ntmps13;go_upto_region 1 with fail
 rw[<-l];clear l;go_wp2_with fail;refine n.mono ?_;rintro e w1 ⟨⟨rfl,c⟩,d⟩;have i:=O c;have j:=O<|Ou.trans ⟨b.os,b.tape,b.output,b.size,λk hk _=>b.block k hk⟩ d;clear c d;obtain⟨Z,hz⟩:=qa<|IM s 1;rw[hz];have o:=O hz;clear hz;go_wp2;go_ret;exact⟨⟨by rw[z o]<;>rfl,i⟩,j⟩
def MR c ta sa d tc sc{s}x{H}{w}(h:Nh lo hi w (.slice c s.nf d) (.slice ta s.nt tc) (.slice sa s.ns sc) (Uy s 1) H)(hs:bA s)(j:hi<=w.heap.size):
  C9 14 #[(aP (.slice c s.nf d) (.slice ta s.nt tc) (.slice sa s.ns sc) x),J 1] w (R9 (J (IM s 1:Int)) w):=by
 obtain⟨W,g,a,_,b0⟩:=JZ w<|.cells (iB (.slice c s.nf d) (.slice ta s.nt tc) (.slice sa s.ns sc) x).toArray 47;have hz:=Ah b0;obtain⟨x0,x1,x2,_⟩:=Cg b0;have k:=O<|jI (h.below a j) hs om om;have i:=O a;clear h hs a b0;go_enter func14,ntmps14;go_upto_region 1 with fail
 rw[<-g];clear g;go_wp2_with fail;refine k.mono ?_;rintro e w1 ⟨rfl,b⟩;have f:=O<|o8 i b;clear b;have d2:decide ((IM s 1:Int)<0)=false:=oq;obtain⟨Z,hz⟩:=qa<|IM s 1;rw[hz]at d2;rw[hz];have l:=O hz;clear hz;go_wp2;go_ret;exact⟨by rw[z l]<;>rfl,f⟩
structure aI (b ab:Nat) (ty tz:TypeId) (u0 u1 u2:V9) (a:Ac) (w:Y):Prop where
 st:w.heap[b]?=some (.cells #[u0,u1,u2] ty (0,0))
 ac:w.heap[ab]?=some (.cells (F6 a) tz (0,0))
def Xr(b ab:Nat)(u0 u1 u2:V9)(a:Ac)(w:Y):Prop:=w.cell? (G b 0)=some u0/\w.cell? (G b 1)=some u1/\w.cell? (G b 2)=some u2/\LM ab a w
def aI.held{tz}(h:aI b ab ty tz u0 u1 u2 a w):Xr b ab u0 u1 u2 a w:=by
 refine⟨?_,?_,?_,?_,?_,?_,?_,?_,?_,?_,?_,?_,?_,?_,?_,?_,?_⟩;iterate 3 (rw[MM w b _ _ _ _ h.st];rfl)
 all_goals(rw[MM w ab _ _ _ _ h.ac];rfl)
def aI.keep{tz}(h:aI b ab ty tz u0 u1 u2 a w)(hb:B9 w w'):aI b ab ty tz u0 u1 u2 a w':=⟨(hb.block _<|Ah h.st).trans h.st,(hb.block _<|Ah h.ac).trans h.ac⟩
def aI.other{tz ty'}(h:aI b ab ty tz u0 u1 u2 a w)(hs:Br w w' p cs ty')(h1:b<p)(h2:ab<p):aI b ab ty tz u0 u1 u2 a w':=⟨(hs.other _ om).trans h.st,(hs.other _ om).trans h.ac⟩
abbrev uV(w:Y)(p:Nat)(a:T9)(b:Nat)(ta:T9)(tc:Nat)(sa:T9)(sc:Nat)(s:AL)(x:An):Prop:=w.heap[p]?=some (.cells (iB (.slice a s.nf b) (.slice ta s.nt tc) (.slice sa s.ns sc) x).toArray 47 (0,0))
def EG Z:∃x p,x=Z.alloc (.cells qD.toArray 47)/\p=Z.heap.size/\B9 Z x/\x.heap[p]?=some (.cells qD.toArray 47 (0,0)):=
 ⟨_,_,rfl,rfl,n9,DD _ _⟩
def L4{x Z u:Y}(a:B9 x Z)(b:p<B\/x.heap.size<=p)(hs:Br Z u p cs ty):x.heap.size<=u.heap.size/\∀k,B<=k->k<x.heap.size->u.heap[k]?=x.heap[k]?:=
 ⟨by rw[hs.size];exact a.size,λk h1 h2=>(hs.other k om).trans<|a.block k h2⟩
def sH(W:Y)(s:AL)(x:An)(q:V9)(w:Y):Prop:=∃p a b ta tc sa sc,q=Q9 p/\uV w p a b ta tc sa sc s x/\aL w a ta sa s/\B9 W w
def uW(W:Y)(s:AL)(x:An)(q:V9)(w:Y):Prop:=∃p a b ta tc sa sc H lo hi,q=Q9 p/\(W.heap.size<=p/\(p<lo\/hi<=p)/\W.heap.size<=lo/\hi<=w.heap.size)/\uV w p a b ta tc sa sc s x/\Nh lo hi w (.slice a s.nf b) (.slice ta s.nt tc) (.slice sa s.ns sc) s H/\B9 W w
def Nh.uP{a}{sc}(h:Nh lo hi w (.slice a s.nf b) (.slice ta s.nt tc) (.slice sa s.ns sc) s H):lP lo w a ta sa s:=λw' _ hk=>(h.keep λq h1 _ h3=>hk q h1 h3).sat
def I2.sat{H}{tb a}(h:I2 B H w m tb a s):aL w (some<|G m 0) (some<|G tb 0) (some<|G a 0) s:=⟨h.fo.at,h.ta.at,h.si.at⟩
def KO(b c:Nat)(u0 u1 u2 v0 v1 v2:V9)(w:Y):Prop:=w.cell? (G b 0)=some u0/\w.cell? (G b 1)=some u1/\w.cell? (G b 2)=some u2/\w.cell? (G c 0)=some v0/\w.cell? (G c 1)=some v1/\w.cell? (G c 2)=some v2
def KO.mk{tz}{v0 v1 v2:V9}(h:w.heap[b]?=some (.cells #[u0,u1,u2] ty (0,0)))(k:w.heap[c]?=some (.cells #[v0,v1,v2] tz (0,0))):KO b c u0 u1 u2 v0 v1 v2 w:=by
 refine⟨?_,?_,?_,?_,?_,?_⟩;iterate 3 (rw[MM w b _ _ _ _ h];rfl)
 all_goals(rw[MM w c _ _ _ _ k];rfl)
def oJ{fa:Option Addr}fc{ta:Option Addr}tc{sa:Option Addr}sc{s}a{w}(hA:Tr w fa ta sa s)(hL:Xu s)(hW:gY s)(dp:Wf a.k)(dq:Wf a.v)(hT:BO w)(hE:IW w):
  C9 3 #[Qk fa fc ta tc sa sc s,KI a] w (R9 (.bool true) w):=by
 have dt:=hE.lt;obtain⟨W0,ct,cu,eS,_⟩:=Tk w (.cells #[.slice fa s.nf fc,.slice ta s.nt tc,.slice sa s.ns sc] 28)<|.cells (F6 a) 33;have c:aI w.heap.size (w.heap.size+1) 28 33 (.slice fa s.nf fc) (.slice ta s.nt tc) (.slice sa s.ns sc) a W0:=by
  rw[ct];refine⟨(DO _ _ _ oq).trans<|DD _ _,?_⟩;have h:=DD (w.alloc<|.cells #[.slice fa s.nf fc,.slice ta s.nt tc,.slice sa s.ns sc] 28)<|.cells (F6 a) 33;rw[show(w.alloc (.cells #[.slice fa s.nf fc,.slice ta s.nt tc,.slice sa s.ns sc] 28)).heap.size=w.heap.size+1 by simp]at h;exact h
 rcases O hA,O hL,O<|ql hW<|ql dp dq,O hT,O hE,O cu,O c,O<|Z0 fc tc sc (hA.below cu) hL,c.held with⟨HA,HL,HW,HT,HE,HB,HI,dv,⟨i0,i1,i2,_⟩⟩;clear hA hL hW dp dq hT hE cu c;go_enter func3,ntmps3;go_upto_region 1 with fail
 rw[<-ct];clear ct;go_wp2_with fail;refine dv.mono ?_;rintro e w1 ⟨⟨r,rfl,hr⟩,cd⟩;rcases O (o8 HB cd),HI.keep cd,cd.size with⟨cg,cv,z1⟩;clear cd dv HB HI i0 i1 i2;rcases hr with rfl|⟨eT,e0,hS⟩
 .go_wp2_with fail
  go_ret;exact⟨rfl,cg⟩
 have dr:decide (r<0)=false:=by grind
 have HS:=O hS;have ch:Hid<|∀i,i<s.nt->(s.T i).d.m<=3000000:=O (λi hi=>by have:=hS.uS hi;unfold tw dw at this;omega);obtain⟨_,_,_,a0,a1,a2,a3,a4,a5,a6,a7,a8,a9,e4,e5,a12,e6⟩:=cv.held;have dx:=O cv;clear hS cv;go_wp2_with fail;refine m9 (ZX a r _ HW.2.1.str HW.2.2.str eT e0) λW1 cj=>?_;rcases O (o8 cg cj),O<|dx.keep cj,cj.size with⟨g,HI,z2⟩;clear cj cg dx a0 a1 a2 a3 a4 a5 a6 a7 a8 a9 e4 e5 a12 e6 dr;have hu:mH a r<0\/¬mH a r<0:=om;generalize mH a r=u at hu;rcases hu with hu|hu
 .have du:decide (u<0)=true:=by grind
  go_wp2_with fail
  go_ret;exact⟨rfl,g⟩
 have du:decide (u<0)=false:=by grind
 rcases iW HW.1 ch HW.2.1 HW.2.2,qa<|iC s a,qa (nK s a) with⟨⟨ck,cw⟩,⟨S,cx⟩,⟨X,dy⟩⟩;rw[cx]at ck cw;rcases O ck,O<|ck.marks cw,O (ql cx dy) with⟨cy,cz,bc⟩;have l2:w.heap.size+1<W1.heap.size:=om;clear ck cw cx dy eS z1 z2;go_upto_region 8 with fail
 clear du hu
 go_cut [6] λq wx=>sH W1 S X q wx
 case first=>
  as_aux_lemma=>
   refine GH (Xr w.heap.size (w.heap.size+1) (.slice fa s.nf fc) (.slice ta s.nt tc) (.slice sa s.ns sc) a) ?_;obtain⟨Z,hy⟩:=o9<|World.drew W1;rw[<-hy];have b:B9 W1 Z:=by rw[hy];exact(BE _ _).drew
   have c:=HI.keep b;have j:=c.held;clear hy;refine tz 0 (h:=tz 2 (h:=?_));refine TO (rs:=[1,5]) ou oq ?_;refine IH rfl (λK hK=>?_) (IH rfl (λK hK=>?_) Tn);rotate_left;go_simp;obtain⟨x,p,hy,hp,hb,hz⟩:=EG Z;rw[<-hy,<-hp];have hq:W1.heap.size<=p:=by rw[hp];exact b.size
   (try have I:=Or.inr (a:=p<B) (by have:=f.size;omega:t.heap.size<=p))
   replace b:=o8 b hb;replace c:=c.keep hb
   (try replace l:=l.below hb)
   (try replace f:=o8 f hb)
   clear hy hp hb;replace j:=c.held;refine hK.out _ _ j λ_=>?_;clear hK K;obtain⟨Z,e⟩:=o9 x;subst e;refine ry 1 λK hK=>?_;go_simp;rotate_left;go_simp;all_goals(refine(GZ fc tc sc (HA.below<|o8 g b) HS).mono ?_;rintro e x ⟨⟨m,tb,sb,rfl,l⟩,hb⟩;(try replace hz:=(hb.block _<|Ah hz).trans hz);replace b:=o8 b hb;replace c:=c.keep hb;replace j:=c.held;refine hK.out _ _ j λ_=>?_;clear hK K hb;obtain⟨Z,e⟩:=o9 x;subst e)
   refine TO (rs:=[3,5]) ou oq ?_;refine IH rfl (λK hK=>?_) (IH rfl (λK hK=>?_) Tn);rotate_left;go_simp;obtain⟨x,p,hy,hp,hb,hz⟩:=EG Z;rw[<-hy,<-hp];have hq:W1.heap.size<=p:=by rw[hp];exact b.size
   (try have I:=Or.inr (a:=p<B) (by have:=f.size;omega:t.heap.size<=p))
   replace b:=o8 b hb;replace c:=c.keep hb
   (try replace l:=l.below hb)
   (try replace f:=o8 f hb)
   clear hy hp hb;replace j:=c.held;refine hK.out _ _ j λ_=>?_;clear hK K;obtain⟨Z,e⟩:=o9 x;subst e;refine ry 3 λK hK=>?_;go_simp;rotate_left;refine ry 3 λK hK=>?_;go_simp;rotate_left;go_simp;all_goals(refine m9 (My a Z) λx hb=>?_;replace l:=l.below hb;(try replace hz:=(hb.block _<|Ah hz).trans hz);replace b:=o8 b hb;replace c:=c.keep hb;replace j:=c.held;refine hK.out _ _ j λ_=>?_;clear hK K hb;obtain⟨Z,e⟩:=o9 x;subst e)
   refine TO (rs:=[4,5]) ou oq ?_;refine IH rfl (λK hK=>?_) (IH rfl (λK hK=>?_) Tn);rotate_left;go_simp;obtain⟨x,p,hy,hp,hb,hz⟩:=EG Z;rw[<-hy,<-hp];have hq:W1.heap.size<=p:=by rw[hp];exact b.size
   (try have I:=Or.inr (a:=p<B) (by have:=f.size;omega:t.heap.size<=p))
   replace b:=o8 b hb;replace c:=c.keep hb
   (try replace l:=l.below hb)
   (try replace f:=o8 f hb)
   clear hy hp hb;replace j:=c.held;refine hK.out _ _ j λ_=>?_;clear hK K;obtain⟨Z,e⟩:=o9 x;subst e;refine ry 4 λK hK=>?_;go_simp;rotate_left;refine ry 4 λK hK=>?_;go_simp;rotate_left;refine ry 4 λK hK=>?_;go_simp;rotate_left;go_simp;all_goals(refine(W6 s.nf s.nt s.ns a l.fo l.ta.at l.si.at HS.weak HW.1 HL.sk ch HW.2.1 HW.2.2).mono ?_;intro e x o;replace o:=o.says;rw[(z bc).1,(z bc).2]at o;unfold RO at o;obtain⟨ga,gc,ua,uc,va,vc,rfl,o,hb⟩:=o;obtain⟨B,eB⟩:=o9 Z.heap.size;obtain⟨t,eX⟩:=o9 x;(try have I:p<B\/t.heap.size<=p:=Or.inl<|by rw[eB];exact Ah hz);have f:B9 t x:=(by subst eX;exact BE _ _);rw[<-eB,<-eX]at o;clear eB eX l;(try replace hz:=(hb.block _<|Ah hz).trans hz);replace b:=o8 b hb;replace c:=c.keep hb;replace j:=c.held;refine hK.out _ _ j λ_=>?_;clear hK K hb;obtain⟨Z,e⟩:=o9 x;subst e)
   refine ry 5 λK hK=>?_;go_simp;obtain⟨x,p,hy,hp,hb,hz⟩:=EG Z;rw[<-hy,<-hp];have hq:W1.heap.size<=p:=by rw[hp];exact b.size
   (try have I:=Or.inr (a:=p<B) (by have:=f.size;omega:t.heap.size<=p))
   replace b:=o8 b hb;replace c:=c.keep hb
   (try replace l:=l.below hb)
   (try replace f:=o8 f hb)
   clear hy hp hb;replace j:=c.held;refine hK.out _ _ j λ_=>?_;clear hK K;obtain⟨Z,e⟩:=o9 x;subst e;all_goals(obtain⟨u,M,n⟩:=IE hz ga ua va S.nf gc S.nt uc S.ns vc X;have P:=(c.other n om om).held;obtain⟨h1,h2⟩:=L4 f I n;refine TO (rs:=[6]) ou oq ?_;refine IH rfl (λK hK=>?_) Tn;refine Bj rfl rfl u M ?_;refine hK.out _ _ P λ_=>?_;clear hK K M;refine wpAnyH_done ou ?_ _;refine QN.normal ?_;have HF:Hid<|sH W1 S X (Q9 p) u:=O ⟨p,ga,gc,ua,uc,va,vc,rfl,n.BB,o u h1 h2,n.below b hq⟩;clear P j hz h1 h2 n b c f I o;go_wp2_with fail;go_meet;exact HF)
 case rest=>
 as_aux_lemma=>
 obtain⟨p0,ga,gc,ua,uc,va,vc,rfl,dC,LK,cl⟩:=hcut;obtain⟨U,e⟩:=o9 wc;subst e;rcases O (o8 g cl),HI.keep cl,cl.size,O dC,O LK with⟨cm,cD,z3,cn,cN⟩;have dU:=O cD;obtain⟨i0,i1,i2,_⟩:=cD.held;have l3:w.heap.size<U.heap.size:=om;have ea:=O<|GZ fc tc sc (HA.below cm) HS;clear cl cD dC LK HI g;go_wp2_with fail;refine ea.mono ?_;rintro e w4 ⟨⟨m,tb,sb,rfl,eb⟩,c0⟩;have z4:=c0.size;obtain⟨V,hV,c3,_,c4⟩:=JZ w4<|.cells #[S9 m s.nf s.nf,S9 tb s.nt s.nt,S9 sb s.ns s.ns] 42;have ae:=c0.trans<|c3.mono z4;rcases O ae,O<|o8 cm ae,O (dU.keep ae) with⟨c5,g,c6⟩;have HI:Hid<|aI w4.heap.size (w.heap.size+1) 42 33 (S9 m s.nf s.nf) (S9 tb s.nt s.nt) (S9 sb s.ns s.ns) a V:=O ⟨c4,c6.ac⟩;have HR:=O<|eb.below c3;have zV:=Ah c4;clear c0 ae c3 c4 eb ea cm dU i0 i1 i2;go_upto_region 10 with fail
 rw[<-hV];clear hV
 go_cut [8] λq wx=>uW V S X q wx
 case first=>
  as_aux_lemma=>
   refine GH (Xr w4.heap.size (w.heap.size+1) (S9 m s.nf s.nf) (S9 tb s.nt s.nt) (S9 sb s.ns s.ns) a) ?_;obtain⟨Z,hy⟩:=o9<|World.drew V;rw[<-hy];have b:B9 V Z:=by rw[hy];exact(BE _ _).drew
   have c:=HI.keep b;have j:=c.held;have l:=HR.below b;clear hy;refine tz 0 (h:=tz 1 (h:=?_));refine TO (rs:=[2,4]) ou oq ?_;refine IH rfl (λK hK=>?_) (IH rfl (λK hK=>?_) Tn);rotate_left;go_simp;obtain⟨x,p,hy,hp,hb,hz⟩:=EG Z;rw[<-hy,<-hp];have hq:V.heap.size<=p:=by rw[hp];exact b.size
   (try have I:=Or.inr (a:=p<B) (by have:=f.size;omega:t.heap.size<=p))
   replace b:=o8 b hb;replace c:=c.keep hb
   (try replace l:=l.below hb)
   (try replace f:=o8 f hb)
   clear hy hp hb;replace j:=c.held;refine hK.out _ _ j λ_=>?_;clear hK K;obtain⟨Z,e⟩:=o9 x;subst e;refine ry 2 λK hK=>?_;go_simp;rotate_left;go_simp;all_goals(refine m9 (My a Z) λx hb=>?_;replace l:=l.below hb;(try replace hz:=(hb.block _<|Ah hz).trans hz);replace b:=o8 b hb;replace c:=c.keep hb;replace j:=c.held;refine hK.out _ _ j λ_=>?_;clear hK K hb;obtain⟨Z,e⟩:=o9 x;subst e)
   refine TO (rs:=[3,4]) ou oq ?_;refine IH rfl (λK hK=>?_) (IH rfl (λK hK=>?_) Tn);rotate_left;go_simp;obtain⟨x,p,hy,hp,hb,hz⟩:=EG Z;rw[<-hy,<-hp];have hq:V.heap.size<=p:=by rw[hp];exact b.size
   (try have I:=Or.inr (a:=p<B) (by have:=f.size;omega:t.heap.size<=p))
   replace b:=o8 b hb;replace c:=c.keep hb
   (try replace l:=l.below hb)
   (try replace f:=o8 f hb)
   clear hy hp hb;replace j:=c.held;refine hK.out _ _ j λ_=>?_;clear hK K;obtain⟨Z,e⟩:=o9 x;subst e;refine ry 3 λK hK=>?_;go_simp;rotate_left;refine ry 3 λK hK=>?_;go_simp;rotate_left;go_simp;all_goals(refine(O0 s.nf s.nt s.ns a l.fo l.ta.at l.si.at HS.weak HW.1 HL.sk ch HW.2.1 HW.2.2 (A5 _ _ HT<|o8 g b)<|HE.below (o8 g b) dt).mono ?_;intro e x o;replace o:=o.says;rw[(z bc).1,(z bc).2]at o;unfold Oa at o;obtain⟨ga,gc,ua,uc,va,vc,H,lo,rfl,o,hl,hb⟩:=o;obtain⟨B,eB⟩:=o9 Z.heap.size;obtain⟨t,eX⟩:=o9 x;(try have I:p<B\/t.heap.size<=p:=Or.inl<|by rw[eB];exact Ah hz);have f:B9 t x:=(by subst eX;exact BE _ _);rw[<-eX]at o;rw[<-eB]at hl;have fh:V.heap.size<=B:=(by rw[eB];exact b.size);clear eB eX l;(try replace hz:=(hb.block _<|Ah hz).trans hz);replace b:=o8 b hb;replace c:=c.keep hb;replace j:=c.held;refine hK.out _ _ j λ_=>?_;clear hK K hb;obtain⟨Z,e⟩:=o9 x;subst e)
   refine ry 4 λK hK=>?_;go_simp;obtain⟨x,p,hy,hp,hb,hz⟩:=EG Z;rw[<-hy,<-hp];have hq:V.heap.size<=p:=by rw[hp];exact b.size
   (try have I:=Or.inr (a:=p<B) (by have:=f.size;omega:t.heap.size<=p))
   replace b:=o8 b hb;replace c:=c.keep hb
   (try replace l:=l.below hb)
   (try replace f:=o8 f hb)
   clear hy hp hb;replace j:=c.held;refine hK.out _ _ j λ_=>?_;clear hK K;obtain⟨Z,e⟩:=o9 x;subst e;all_goals(obtain⟨u,M,n⟩:=IE hz ga ua va S.nf gc S.nt uc S.ns vc X;have P:=(c.other n om om).held;obtain⟨h1,h2⟩:=L4 f I n;refine TO (rs:=[5]) ou oq ?_;refine IH rfl (λK hK=>?_) Tn;refine Bj rfl rfl u M ?_;refine hK.out _ _ P λ_=>?_;clear hK K M;refine wpAnyH_done ou ?_ _;refine QN.normal ?_;have HF:Hid<|uW V S X (Q9 p) u:=O ⟨p,ga,gc,ua,uc,va,vc,H,lo,t.heap.size,rfl,⟨hq,om,om,h1⟩,n.BB,o.keep λq e1 e2 _=>h2 q om e2,n.below b hq⟩;clear P j hz h1 h2 n b c f I o;go_wp2_with fail;go_meet;exact HF)
 case rest=>
 as_aux_lemma=>
 obtain⟨p1,c7,bf,pQ,bg,c8,bh,H1,lo,hi,rfl,⟨k0,k1,k2,k3⟩,cp,ec,ai⟩:=hcut;obtain⟨w5,e⟩:=o9 wc;subst e;rcases ai.size,O<|o8 g ai,O<|o8 c5 ai,O<|HI.keep ai,O<|c6.keep ai,O<|HR.below ai,O cp,O ec with⟨z5,c9,bj,ef,eh,ei,ej,da⟩;have bz:=O<|cN.below bj;have y0:=Ah cn;have aj:=(bj.block _ y0).trans cn;have y1:=Ah cp;rcases Ah aj,Cg cp,Cg aj with⟨fj,⟨g0,g1,g2,g3,g4,g5,g6,g7,g8,g9,g10,g11,g12,g13,g14⟩,⟨h0,h1,h2,h3,h4,h5,h6,h7,h8,h9,bk,bm,bn,bp,bq⟩⟩;clear cp ec ai aj g c5 HI c6 HR;go_wp2_with fail;refine m9 (L7 bf gc bg uc bh vc X da.sat bz cy) λw6 L=>?_;rcases L.size,O<|o8 c9 L,O<|o8 bj L,O<|ef.keep L,O<|eh.keep L,O<|ei.below L,O<|(L.block _ y1).trans ej,O (da.below L k3) with⟨z6,br,dc,cq,bt,dd,df,ek⟩;clear L g0 g1 g2 g3 g4 g5 g6 g7 g8 g9 g10 g11 g12 g13 g14 h0 h1 h2 h3 h4 h5 h6 h7 h8 h9 bk bm bn bp bq c9 bj ef eh ei ej da bz;go_upto_region 13 with fail
 refine GH (KO w.heap.size w4.heap.size (.slice fa s.nf fc) (.slice ta s.nt tc) (.slice sa s.ns sc) (S9 m s.nf s.nf) (S9 tb s.nt s.nt)<|S9 sb s.ns s.ns) ?_;obtain⟨Z,hy⟩:=o9<|World.drew w6;rw[<-hy];have b:B9 w6 Z:=by rw[hy];exact(BE _ _).drew
 clear hy;have j:=KO.mk (bt.keep b).st (cq.keep b).st;refine tz 0 (h:=tz 1 (h:=?_));refine ry 2 λK hK=>?_;go_simp;refine(GZ fc tc sc (HA.below<|o8 br b) HS).mono ?_;rintro e w7 ⟨⟨m7,t7,s7,rfl,eo⟩,ep⟩;have bd:=o8 b ep;replace j:=KO.mk (bt.keep bd).st (cq.keep bd).st;refine hK.out _ _ j λ_=>?_;clear hK K ep b;refine ry 3 λK hK=>?_;go_simp;refine m9 (OG s.nf s.nf s.nt s.nt s.ns s.ns (dd.below bd).sat eo.sat HS.weak) λw8 eu=>?_;have E:=o8 bd eu;replace j:=KO.mk (bt.keep E).st (cq.keep E).st;refine hK.out _ _ j λ_=>?_;clear hK K eu bd eo;refine tz 4 (h:=?_);refine FE ?_;rcases E.size,O<|o8 br E,O<|o8 dc E,O<|bt.keep E,O<|dd.below E,O ((E.block _<|Ah df).trans df) with⟨z8,ev,ew,dh,ey,di⟩;have ez:=O<|ek.below E om;obtain⟨_,_,_,i0,i1,i2⟩:=j;have l8:w4.heap.size<w8.heap.size:=om;clear E br dc cq bt dd df ek;go_wp2_with fail;refine(QF ey HS om).mono ?_;rintro e w9 ⟨⟨r9,rfl⟩,bu⟩;have z9:=bu.size;have bw:=bu.below om;have dj:=O<|ev.trans<|bw.mono om;have bx:=O<|ew.trans bw;have cr:=(bu.block p1 (Ah di)<|.inr om).trans di;have dk:=O<|ez.keep λq e1 e2 e3=>bu.block q e3<|.inr om;have eA:Hid<|aI w.heap.size (w.heap.size+1) 28 33 (.slice fa s.nf fc) (.slice ta s.nt tc) (.slice sa s.ns sc) a w9:=O ⟨(bw.block _ om).trans dh.st,(bw.block _ om).trans dh.ac⟩;rcases O cr,O<|cN.below bx,(bx.block _ y0).trans cn with⟨eF,b0,ak⟩;have d9:decide ((r9:Int)<0)=false:=oq;rcases Ah cr,Ah ak,Cg cr,Cg ak with⟨y9,fk,⟨g0,g1,g2,g3,g4,g5,g6,g7,g8,g9,g10,g11,g12,g13,g14⟩,⟨h0,h1,h2,h3,h4,h5,h6,h7,h8,h9,bk,bm,bn,bp,bq⟩⟩;clear bw bu cr ak i0 i1 i2 ev ew dh ey di ez;go_wp2_with fail;refine m9 (L7 bf gc bg uc bh vc X dk.sat b0 cy) λe7 C=>?_;rcases C.size,O<|o8 dj C,O<|o8 bx C,O<|eA.keep C,(C.block _ y9).trans eF with⟨fl,b1,b2,ao,af⟩;rcases O (dk.below C om),O af,Ah af with⟨b3,b4,e8⟩;clear C g0 g1 g2 g3 g4 g5 g6 g7 g8 g9 g10 g11 g12 g13 g14 h0 h1 h2 h3 h4 h5 h6 h7 h8 h9 bk bm bn bp bq d9 dj bx eA eF dk b0;obtain⟨g0,g1,g2,g3,g4,g5,g6,g7,g8,g9,g10,g11,g12,g13,g14⟩:=Cg af;clear af;go_wp2_with fail;refine(SA c7 pQ c8 bf bg bh X b3 cz om).mono ?_;rintro e eI ⟨⟨rfl,b5⟩,A⟩;have fm:=A.size;have Q:Below V.heap.size e7 eI:=⟨A.os,A.tape,A.output,A.size,λk hk=>A.block k om<|.inl om⟩;have aq:=O<|b1.trans<|Q.mono om;have ar:=O<|b2.trans<|Q.mono om;have b6:Hid<|aI w.heap.size (w.heap.size+1) 28 33 (.slice fa s.nf fc) (.slice ta s.nt tc) (.slice sa s.ns sc) a eI:=O ⟨(Q.block _ om).trans ao.st,(Q.block _ om).trans ao.ac⟩;have ag:=(A.block p1 e8 k1).trans b4;rcases O ag,O b5,Ah ag with⟨b7,au,e9⟩;clear Q A b5 g0 g1 g2 g3 g4 g5 g6 g7 g8 g9 g10 g11 g12 g13 g14 b1 b2 ao b4 b3;obtain⟨W,hz⟩:=qa<|IM S 1;have HZ:=O hz;rw[hz];clear hz;have dz:decide ((W:Int)<0)=false:=oq;obtain⟨g0,g1,g2,g3,g4,g5,g6,g7,g8,g9,g10,g11,g12,g13,g14⟩:=Cg ag;clear ag;go_wp2_with fail;refine(MR c7 pQ c8 bf bg bh X au cz om).mono ?_;rw[z HZ];rintro e W2 ⟨rfl,D⟩;rcases D.size,O<|o8 aq D,O<|o8 ar D,O<|b6.keep D,O ((D.block _ e9).trans b7) with⟨z12,g,av,HI,aw⟩;have b8:=O<|au.below D om;clear D g0 g1 g2 g3 g4 g5 g6 g7 g8 g9 g10 g11 g12 g13 g14 aq ar b6 b7 au;go_upto_region 27 with fail
 go_cut [12] λq wx=>sH W2 S X q wx
 case first=>
  as_aux_lemma=>
   refine GH (Xr w.heap.size (w.heap.size+1) (.slice fa s.nf fc) (.slice ta s.nt tc) (.slice sa s.ns sc) a) ?_;obtain⟨Z,hy⟩:=o9<|World.drew W2;rw[<-hy];have b:B9 W2 Z:=by rw[hy];exact(BE _ _).drew
   have c:=HI.keep b;have j:=c.held;clear hy;refine tz 0 (h:=tz 2 (h:=?_));refine TO (rs:=[1,5]) ou oq ?_;refine IH rfl (λK hK=>?_) (IH rfl (λK hK=>?_) Tn);rotate_left;go_simp;obtain⟨x,p,hy,hp,hb,hz⟩:=EG Z;rw[<-hy,<-hp];have hq:W2.heap.size<=p:=by rw[hp];exact b.size
   (try have I:=Or.inr (a:=p<B) (by have:=f.size;omega:t.heap.size<=p))
   replace b:=o8 b hb;replace c:=c.keep hb
   (try replace l:=l.below hb)
   (try replace f:=o8 f hb)
   clear hy hp hb;replace j:=c.held;refine hK.out _ _ j λ_=>?_;clear hK K;obtain⟨Z,e⟩:=o9 x;subst e;refine ry 1 λK hK=>?_;go_simp;rotate_left;go_simp;all_goals(refine(GZ fc tc sc (HA.below<|o8 g b) HS).mono ?_;rintro e x ⟨⟨m,tb,sb,rfl,l⟩,hb⟩;(try replace hz:=(hb.block _<|Ah hz).trans hz);replace b:=o8 b hb;replace c:=c.keep hb;replace j:=c.held;refine hK.out _ _ j λ_=>?_;clear hK K hb;obtain⟨Z,e⟩:=o9 x;subst e)
   refine TO (rs:=[3,5]) ou oq ?_;refine IH rfl (λK hK=>?_) (IH rfl (λK hK=>?_) Tn);rotate_left;go_simp;obtain⟨x,p,hy,hp,hb,hz⟩:=EG Z;rw[<-hy,<-hp];have hq:W2.heap.size<=p:=by rw[hp];exact b.size
   (try have I:=Or.inr (a:=p<B) (by have:=f.size;omega:t.heap.size<=p))
   replace b:=o8 b hb;replace c:=c.keep hb
   (try replace l:=l.below hb)
   (try replace f:=o8 f hb)
   clear hy hp hb;replace j:=c.held;refine hK.out _ _ j λ_=>?_;clear hK K;obtain⟨Z,e⟩:=o9 x;subst e;refine ry 3 λK hK=>?_;go_simp;rotate_left;refine ry 3 λK hK=>?_;go_simp;rotate_left;go_simp;all_goals(refine m9 (My a Z) λx hb=>?_;replace l:=l.below hb;(try replace hz:=(hb.block _<|Ah hz).trans hz);replace b:=o8 b hb;replace c:=c.keep hb;replace j:=c.held;refine hK.out _ _ j λ_=>?_;clear hK K hb;obtain⟨Z,e⟩:=o9 x;subst e)
   refine TO (rs:=[4,5]) ou oq ?_;refine IH rfl (λK hK=>?_) (IH rfl (λK hK=>?_) Tn);rotate_left;go_simp;obtain⟨x,p,hy,hp,hb,hz⟩:=EG Z;rw[<-hy,<-hp];have hq:W2.heap.size<=p:=by rw[hp];exact b.size
   (try have I:=Or.inr (a:=p<B) (by have:=f.size;omega:t.heap.size<=p))
   replace b:=o8 b hb;replace c:=c.keep hb
   (try replace l:=l.below hb)
   (try replace f:=o8 f hb)
   clear hy hp hb;replace j:=c.held;refine hK.out _ _ j λ_=>?_;clear hK K;obtain⟨Z,e⟩:=o9 x;subst e;refine ry 4 λK hK=>?_;go_simp;rotate_left;refine ry 4 λK hK=>?_;go_simp;rotate_left;refine ry 4 λK hK=>?_;go_simp;rotate_left;go_simp;all_goals(refine(O0 s.nf s.nt s.ns a l.fo l.ta.at l.si.at HS.weak HW.1 HL.sk ch HW.2.1 HW.2.2 (A5 _ _ HT<|o8 g b)<|HE.below (o8 g b) dt).mono ?_;intro e x o;replace o:=o.says;rw[(z bc).1,(z bc).2]at o;unfold Oa at o;obtain⟨ga,gc,ua,uc,va,vc,H,lo,rfl,o,hl,hb⟩:=o;obtain⟨B,eB⟩:=o9 Z.heap.size;obtain⟨t,eX⟩:=o9 x;(try have I:p<B\/t.heap.size<=p:=Or.inl<|by rw[eB];exact Ah hz);have f:B9 t x:=(by subst eX;exact BE _ _);replace o:=o.uP.lower hl;rw[<-eB,<-eX]at o;clear eB eX l;(try replace hz:=(hb.block _<|Ah hz).trans hz);replace b:=o8 b hb;replace c:=c.keep hb;replace j:=c.held;refine hK.out _ _ j λ_=>?_;clear hK K hb;obtain⟨Z,e⟩:=o9 x;subst e)
   refine ry 5 λK hK=>?_;go_simp;obtain⟨x,p,hy,hp,hb,hz⟩:=EG Z;rw[<-hy,<-hp];have hq:W2.heap.size<=p:=by rw[hp];exact b.size
   (try have I:=Or.inr (a:=p<B) (by have:=f.size;omega:t.heap.size<=p))
   replace b:=o8 b hb;replace c:=c.keep hb
   (try replace l:=l.below hb)
   (try replace f:=o8 f hb)
   clear hy hp hb;replace j:=c.held;refine hK.out _ _ j λ_=>?_;clear hK K;obtain⟨Z,e⟩:=o9 x;subst e;all_goals(obtain⟨u,M,n⟩:=IE hz ga ua va S.nf gc S.nt uc S.ns vc X;have P:=(c.other n om om).held;obtain⟨h1,h2⟩:=L4 f I n;refine TO (rs:=[6]) ou oq ?_;refine IH rfl (λK hK=>?_) Tn;refine Bj rfl rfl u M ?_;refine hK.out _ _ P λ_=>?_;clear hK K M;refine wpAnyH_done ou ?_ _;refine QN.normal ?_;have HF:Hid<|sH W2 S X (Q9 p) u:=O ⟨p,ga,gc,ua,uc,va,vc,rfl,n.BB,o u h1 h2,n.below b hq⟩;clear P j hz h1 h2 n b c f I o;go_wp2_with fail;go_meet;exact HF)
 case rest=>
 as_aux_lemma=>
 obtain⟨p2,fq,fb,fr,fe,ft,ff,rfl,dm,eP,F⟩:=hcut;obtain⟨fu,e⟩:=o9 wc;subst e;rcases F.size,O<|o8 g F,O<|o8 av F,O ((F.block _<|Ah aw).trans aw) with⟨fw,ax,ay,az⟩;rcases O (b8.below F om),O eP,O<|cN.below ay,(ay.block _ y0).trans cn,Ah dm with⟨b9,ca,ah,ad,fx⟩;rcases Ah ad,Cg dm,Cg ad with⟨fg,⟨g0,g1,g2,g3,g4,g5,g6,g7,g8,g9,g10,g11,g12,g13,g14⟩,⟨h0,h1,h2,h3,h4,h5,h6,h7,h8,h9,bk,bm,bn,bp,bq⟩⟩;clear dm eP F ad g av aw b8;go_wp2_with fail;refine m9 (L7 fb gc fe uc ff vc X ca ah cy) λfy R=>?_;rcases R.size,O<|o8 ax R,(R.block _<|Ah az).trans az with⟨fz,aM,bb⟩;have cb:=O<|b9.below R om;have fE:=Ah bb;clear R g0 g1 g2 g3 g4 g5 g6 g7 g8 g9 g10 g11 g12 g13 g14 h0 h1 h2 h3 h4 h5 h6 h7 h8 h9 bk bm bn bp bq ax ay az b9 ca ah;obtain⟨g0,g1,g2,g3,g4,g5,g6,g7,g8,g9,g10,g11,g12,g13,g14⟩:=Cg bb;clear bb;go_wp2_with fail;refine(MR c7 pQ c8 bf bg bh X cb cz om).mono ?_;rw[z HZ];rintro e fF ⟨rfl,cc⟩;have dn:=O<|o8 aM cc;clear cc g0 g1 g2 g3 g4 g5 g6 g7 g8 g9 g10 g11 g12 g13 g14 aM cb;go_wp2;go_ret;exact⟨rfl,dn⟩
end Go.Proofs.YtoobllcjfinmoaaGreatDoor
