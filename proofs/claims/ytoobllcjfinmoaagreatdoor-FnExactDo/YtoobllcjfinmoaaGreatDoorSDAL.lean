import Derived.Test.YtoobllcjfinmoaaGreatDoorSDAK
import Derived.Test.YtoobllcjfinmoaaGreatDoorSDAI
set_option linter.all false
set_option maxHeartbeats 40000000
set_option maxRecDepth 100000
namespace Go.Proofs.YtoobllcjfinmoaaGreatDoor
open Go.Proofs.Tryz
open Go.RowKit
attribute [local go_sem] Ar Am C5
variable {s:AK}{w w':Y}{b m lo hi tc c B ab p:Nat}{a:Ac}{ta sa:Option Addr}{H:Nat->Hs}{e:Ending}{ty:TypeId}{u0 u1 u2:V9}{cs:Array Value}
def WH{M}(h:Bz s (Dz s)=0)(a:gV s)(b:∀i,i<s.nt->(s.T i).d.m<=M):Lt M s:=by
 obtain⟨h1,⟨h2,h3⟩,h4,h5⟩:=Lj h;refine⟨h1,h2,h3,λi hi=>⟨?_,(a i hi).2,b i hi⟩,h5⟩;rcases h4 i hi with⟨e1,e2,e3⟩|⟨e1,e2,e3,c,e⟩
 .exact .inl ⟨e1,e2,ZJ (Lg e3) (a i hi).2⟩
 obtain⟨j,hj⟩:=Int.eq_ofNat_of_zero_le e1;rw[hj,On]at e3;refine .inr ⟨j,hj,om,?_,c,λq hq=>⟨e q hq,(a i hi).1 q hq⟩⟩;grind [Bz,Dz,gV,Av,A7,nf]
abbrev qD:List Value:=[N9,N9,N9,J 0,J 0,J 0,J 0,F9 0,E9,J 0,J 0,J 0,F9 0,E9,J 0]
def gY(vF vT vS:V9)(x:An):List Value:=[vF,vT,vS,J x.code,J x.num,J x.key.kind,J x.key.num,F9 x.key.Af,.string x.key.str,J x.key.ref,J x.val.kind,J x.val.num,F9 x.val.Af,.string x.val.str,J x.val.ref]
abbrev aG(vF vT vS:V9)(x:An):Value:=.agg (gY vF vT vS x).toArray
def mS:An:=⟨0,0,default,default⟩
def kX w:(sizeOf 47).run prog w=.ok 15 w:=ou
def Io(h:w.heap[b]?=some (.cells qD.toArray 47 (0,0)))a ta sa fn c tn tc d sc x:∃w',(Instr.storeAt 47 (Q9 b)<|aG (.slice a fn c) (.slice ta tn tc) (.slice sa d sc) x).run prog w=.ok () w'/\Bj w w' b (gY (.slice a fn c) (.slice ta tn tc) (.slice sa d sc) x).toArray 47:=
 BM (old:=qD) (vs:=gY (.slice a fn c) (.slice ta tn tc) (.slice sa d sc) x) kX h rfl rfl (by simp[gY,Value.oneCell']) rfl
def B5{vF vT vS}{x}(h:w.heap[b]?=some (.cells (gY vF vT vS x).toArray 47 (0,0))):w.cell? (G b 0)=some vF/\w.cell? (G b 1)=some vT/\w.cell? (G b 2)=some vS/\w.cell? (G b 3)=some (J x.code)/\w.cell? (G b 4)=some (J x.num)/\w.cell? (G b 5)=some (J x.key.kind)/\w.cell? (G b 6)=some (J x.key.num)/\w.cell? (G b 7)=some (F9 x.key.Af)/\w.cell? (G b 8)=some (.string x.key.str)/\w.cell? (G b 9)=some (J x.key.ref)/\w.cell? (G b 10)=some (J x.val.kind)/\w.cell? (G b 11)=some (J x.val.num)/\w.cell? (G b 12)=some (F9 x.val.Af)/\w.cell? (G b 13)=some (.string x.val.str)/\w.cell? (G b 14)=some (J x.val.ref):=by
 refine⟨?_,?_,?_,?_,?_,?_,?_,?_,?_,?_,?_,?_,?_,?_,?_⟩<;>(rw[MM w b _ _ _ _ h];rfl)
def NM(b:Nat)(x:An)(w:Y):Prop:=w.cell? (G b 0)=some (J x.code)/\w.cell? (G b 1)=some (J x.num)/\w.cell? (G b 2)=some (J x.key.kind)/\w.cell? (G b 3)=some (J x.key.num)/\w.cell? (G b 4)=some (F9 x.key.Af)/\w.cell? (G b 5)=some (.string x.key.str)/\w.cell? (G b 6)=some (J x.key.ref)/\w.cell? (G b 7)=some (J x.val.kind)/\w.cell? (G b 8)=some (J x.val.num)/\w.cell? (G b 9)=some (F9 x.val.Af)/\w.cell? (G b 10)=some (.string x.val.str)/\w.cell? (G b 11)=some (J x.val.ref)
def aI(w:Y)(s:AK)(a:Ac)(e:Ending)(w':Y):Prop:=
 ((Bz s (Dz s)≠0/\e=.returned (aG N9 N9 N9 mS))\/(Bz s (Dz s)=0/\∃vF vT vS H lo,e=.returned (aG vF vT vS<|Dd s a)/\MR lo w'.heap.size w' vF vT vS (AO s a) H/\w.heap.size<=lo))/\B9 w w'
def Oy fc{ta:Option Addr}tc{sa:Option Addr}sc{s}a{w}(hF:Bg w m s.nf s.F)(hT:RH w ta s.nt s.T)(hS:FX w sa s.ns s.S)(hs:J9 s)(hw:gV s)(hk:∀i,i<s.ns->(s.S i).key.size<=maxLen)(hm:∀i,i<s.nt->(s.T i).d.m<=3000000)(aq:Wf a.k)(bn:Wf a.v)(ad:B2 w)(hE:JO w):
  C9 9 #[PY (some<|G m 0) fc ta tc sa sc s,Kz a] w λe w'=>aI w s a e w':=by
 rcases hE.lt,hF.lt,ad.sz,gW w (.cells #[.slice (some<|G m 0) s.nf fc,.slice ta s.nt tc,.slice sa s.ns sc] 42) (.cells (GU a) 51) (.cells qD.toArray 47) with⟨bp,bq,cb,⟨W,hW,l,hz,_,o1,hR⟩⟩;have hA:PU W (w.heap.size+1) a:=o1;have s2:W.cell? (y w 2)=some (.slice sa s.ns sc):=by rw[hW];simp[go_sem]
 obtain⟨A,ar⟩:=(hT.below l rfl).addr;have HJ:=O<|OB A1 fc tc sc (Dz s) (A1 _ _ ad l) (hF.below l bq) ar (hS.below l rfl) hs hk<|oE hs hw;have br:=O<|hS.below l rfl;have bt:Hid<|Bz s (Dz s)=0->Lt 3000000 s:=O λh=>WH h hw hm;rcases O l,O hR,O hE with⟨HB,HR,HE⟩;clear l hR hF hT hS hs hw hk hm hE;go_enter func9,ntmps9;go_wp2_with fail;rw[<-hW];clear hW;refine HJ.mono ?_;rintro e w1 ⟨hj,n⟩;have z1:=n.size;have au:=O n;have bu:=O<|(n.block _ om).trans HR;clear n HJ;rcases hj with⟨r,rfl,hr,ae⟩|⟨g,cp,Bk,Z,M,kv,b1,rfl,h0,hN,⟨n,av⟩,af⟩
 .have bw:=O<|hr▸ae;have dr:(r !=0)=true:=by simpa using ae
  obtain⟨X,hX,j,_⟩:=JQ w1<|.cells #[N9,N9] 73;obtain⟨w9,C,f⟩:=Io ((j.block _ om).trans bu) none none none 0 0 0 0 0 0 mS;have bx:=O C;rcases O (f.below (o8 HB<|au.trans<|j.mono z1) om),O<|f.Bw,O hX with⟨I,ag,L⟩;clear hr ae C f j hX;go_upto_region 2 with fail
  rw[<-z L];go_wp2_with (refine Ag rfl rfl _ bx ?_);refine FD results9 underlying47 ag ⟨.inl ⟨bw,rfl⟩,I⟩
 obtain⟨ka,kc,rfl⟩:=AE af;obtain⟨X,hX,j,_⟩:=JQ w1<|.cells #[.slice (some<|G g 0) s.nf cp,.slice ka s.nt kc] 73;have x0:X.cell? (y w1 0)=some (.slice (some<|G g 0) s.nf cp):=by rw[hX];simp[go_sem]
 have x1:X.cell? (y w1 1)=some (.slice ka s.nt kc):=by rw[hX];simp[go_sem]
 have D:=au.trans<|j.mono z1;have bz:=oT D (by show w.heap.size<W.heap.size;omega) s2;have P:=z bt h0;have HO:=O (Sw W.heap.size _ _ _ _ _ kc sc Bk A s om P.ns (Wo av j) ⟨Z,M,hN.ns.below j,hN.id⟩ (D7 (Wo af j) n) (br.below D rfl) (λw' V h1 h2 i hi=>by
  obtain⟨b,off,_,_,hcs⟩:=ar.resolve_left om;exact Rd.arg (hcs i hi).2.1 (hcs i hi).2.2 (D.trans (h1.mono om)) h2))
 have HG:Ls s:=P.mono om;have b0:=O h0;have b2:Ls<|AO s a:=(Rn P a aq bn).mono om;have b3:=O D;have L:=O hX;clear hN av af n j D hX P h0;go_upto_region 4 with fail
 rw[<-z L];clear L;go_wp2_with fail;refine HO.mono ?_;rintro e w3 ⟨⟨c,vS,rfl,ah⟩,ai⟩;have z3:=ai.size;have t:=b3.trans<|ai.mono om;have aw:=hA.below t om;have U:=O<|gK ah HG (A1 _ _ (A1 _ _ ad HB) t) aq om ((HE.below HB bp).below t om) om<|iQ a;obtain⟨a0,a1,a2,a3,a4,a5,a6,a7,a8,a9,b4,b5,a12,b6⟩:=aw.all;have lA:w.heap.size+1<w3.heap.size:=om;have ao:Hid<|∀k,Az W.heap.size c (.slice (some<|G g 0) s.nf cp) (.slice ka s.nt kc) vS w3 k->W.heap.size<=k:=O λk e=>(ah.Pm e).1;clear ah ai aw x0 x1 bz HO;go_wp2_with fail;refine U.mono ?_;rintro e w4 ⟨rfl,cc,cd,cg,ch,cj,A4,ax,o⟩;have z4:=o.size;obtain⟨x,hx⟩:=qa<|Dd s a;rw[hx,show Hk x=qF x from rfl];have b7:=O hx;have ay:Below W.heap.size w3 w4:=⟨o.os,o.tape,o.output,o.size,λk hk=>o.block k om λe=>oS<|z ao k e⟩;have az:=t.trans ay;have b8:=O ax;clear hx ax o ay a0 a1 a2 a3 a4 a5 a6 a7 a8 a9 b4 b5 a12 b6 U;go_simp
 rename_i b9
 refine b9 _ _ ?_;refine wpList_plain rfl λK hK=>?_;go_simp;refine hK _ _ ?_;clear hK K;refine Ag rfl rfl _ (WM w4 x) ?_;obtain⟨w5,Q⟩:=o9<|w4.alloc<|.cells (LL x).toArray 45;rw[<-Q];have aj:B9 w4 w5:=by rw[Q];exact(BE _ _).alloc (Be _) _
 have R:w5.heap[w4.heap.size]?=some (.cells (LL x).toArray 45 (0,0)):=by rw[Q];exact DD _ _
 have ca:NM w4.heap.size x w5.drew:=An.read (w:=w5.drew) R;rcases Ah R,O<|Xc (b8.below aj.drew).1 b2,O<|o8 az aj,O R with⟨z5,aM,bb,bc⟩;clear aj R Q;go_upto_region 6 with fail
 refine Gq (NM w4.heap.size x) ?_;refine tz 0 (h:=tz 2 (h:=?_));refine ry 1 λK hK=>?_;go_simp;refine aM.mono ?_;rintro e w6 ⟨⟨vF,vT,ck,H,rfl,ak⟩,B⟩;obtain⟨fa,bd,bf,bg,bh,bj,rfl,rfl,rfl⟩:=ak.forms;have u:B9 w5 w6:=⟨B.os,B.tape,B.output,B.size,λk hk=>B.block k hk⟩;have bk:NM w4.heap.size x w6:=An.read<|(u.block _ z5).trans bc;have E:=o8 bb u;obtain⟨w9,C,f⟩:=Io ((E.block _ om).trans HR) fa bf bh (AO s a).nf bd (AO s a).nt bg (AO s a).ns bj x;have bm:NM w4.heap.size x w9:=An.read<|(f.other _ om).trans<|(u.block _ z5).trans bc;have I:Hid<|MR w5.heap.size w9.heap.size w9 (.slice fa (AO s a).nf bd) (.slice bf (AO s a).nt bg) (.slice bh (AO s a).ns bj) (AO s a) H/\B9 w w9:=O ⟨by rw[f.size];exact ak.keep λq h1 _ _=>f.other q (by have:w5.heap.size<=q:=h1;omega),f.below (o8 HB E) om⟩;refine hK.out _ _ bk λ_=>?_;clear hK K;refine tz 3 (h:=?_);refine ry 4 λK hK=>?_;refine Bd rfl rfl w9 C ?_;refine hK.out _ _ bm λ_=>?_;clear hK K;refine Fj ?_;have ag:=O<|f.Bw;clear C f B u ak bk bm E ca aM;go_wp2_with fail;refine FD results9 underlying47 ag ⟨.inr ⟨b0,_,_,_,H,_,qg b7,I.1,om⟩,I.2⟩
def N0:AK:=⟨0,λ_=>default,0,λ_=>Lv,0,λ_=>default⟩
theorem U8{f:Nat->Tb}{n:Nat}(h:∀i,i<n->tw (f i)<=14000000):∀k,k<=n->Em f k<=k*14000000
 |0,_=>W9 _
 |k+1,hk=>by
  have h1:=U8 h k om;have h2:=h k om;show Em f k+tw (f k)<=_;omega
def J9.marks(h:J9 s)(hn:s.nt<=100):aS s:=by
 refine⟨h.f.1,?_,h.n⟩;have:=U8 (f:=s.T) (n:=s.nt) (λi hi=>by
  have h1:=h.nv hi;have h2:=h.IY hi;have:=h2.n;have:=h2.m;have:=h2.x;unfold tw dw;omega) s.nt (Be _)
 omega
def MR.sat{a}{sc}(h:MR lo hi w (.slice a s.nf b) (.slice ta s.nt tc) (.slice sa s.ns sc) s H):aC w a ta sa s:=by
 rcases h.f.at,h.t.at,h.si.at with⟨⟨a1,c1,e1,h1⟩,⟨a2,c2,e2,h2⟩,⟨a3,c3,e3,h3⟩⟩;cases e1;cases e2;cases e3;exact⟨h1,h2,h3⟩
def SM.sat{d sc}{b}(h:SM w c B (.slice b s.nf d) (.slice ta s.nt tc) (.slice sa s.ns sc) H s):aC w b ta sa s:=by
 refine⟨?_,h.vE,?_⟩
 .rcases Aav s.nf with e|e
  .exact .inl e
  obtain⟨g,f,a,_,_,j⟩:=h.Ob e;cases a;exact j.at
 rcases Aav s.ns with e|e
 .exact .inl e
 obtain⟨g,f,a,k,_,_,_⟩:=h.GB e;cases a;refine .inr ⟨g,0,rfl,k,λi hi=>?_⟩;obtain⟨g',l,hv',_,_,hc,_⟩:=h.GB hi;cases hv';rw[We];exact⟨hc 0 _ rfl,hc 1 _ rfl,hc 2 _ rfl,hc 3 _ rfl,hc 4 _ rfl⟩
def lO(B:Nat)(w:Y)(a ta sa:T9)(s:AK):Prop:=∀w':World,w.heap.size<=w'.heap.size->(∀k,B<=k->k<w.heap.size->w'.heap[k]?=w.heap[k]?)->aC w' a ta sa s
def lO.lower{B'}{a:Option Addr}(h:lO B w a ta sa s)(b:B'<=B):lO B' w a ta sa s:=λw' hs hk=>h w' hs λk h1 h2=>hk k om h2
def SM.uC{sc}{a}(h:SM w c B (.slice a s.nf b) (.slice ta s.nt tc) (.slice sa s.ns sc) H s):lO B w a ta sa s:=λw' _ hk=>(h.keep λk e=>hk k (h.Pm e).1 (h.Pm e).2).sat
def aH(w:Y)(s:AK)(a:Ac)(e:Ending)(w':Y):Prop:=
 ((Bz s (Dz s)≠0/\e=.returned (aG N9 N9 N9 mS))\/(Bz s (Dz s)=0/\∃b c ta tc sa sc,e=.returned (aG (.slice b (AO s a).nf c) (.slice ta (AO s a).nt tc) (.slice sa (AO s a).ns sc)<|Dd s a)/\lO w.heap.size w' b ta sa (AO s a)))/\B9 w w'
def Vp(c b:Nat)(vF vT vS:V9)(x:An)(w:Y):Prop:=w.cell? (G c 0)=some vF/\w.cell? (G c 1)=some vT/\w.cell? (G c 2)=some vS/\NM b x w
def WK fc{ta:Option Addr}tc{sa:Option Addr}sc{s}a{w}(hF:Bg w m s.nf s.F)(hT:RH w ta s.nt s.T)(hS:FX w sa s.ns s.S)(hs:J9 s)(hw:gV s)(hk:∀i,i<s.ns->(s.S i).key.size<=maxLen)(hm:∀i,i<s.nt->(s.T i).d.m<=3000000)(ao:Wf a.k)(bf:Wf a.v):
  C9 6 #[PY (some<|G m 0) fc ta tc sa sc s,Kz a] w λe w'=>aH w s a e w':=by
 have Z:=hF.lt;obtain⟨W,hW,b,hz,o0,o1,hR⟩:=gW w (.cells #[S9 m s.nf fc,.slice ta s.nt tc,.slice sa s.ns sc] 42) (.cells (GU a) 51)<|.cells qD.toArray 47;have hA:PU W (w.heap.size+1) a:=o1;rcases v3 o0,O<|qj (hF.below b Z)<|qj (hT.below b rfl)<|hS.below b rfl,O (UT fc tc sc (Dz s) (hF.below b Z) (hT.below b rfl) (hS.below b rfl) hs hk<|pK hs hw) with⟨⟨s0,s1,s2⟩,j,aq⟩;have ar:Hid<|Bz s (Dz s)=0->Lt 3000000 s:=O λh=>WH h hw hm;have HR:=O hR;go_enter func6,ntmps6;go_wp2_with fail;rw[<-hW];refine aq.mono ?_;rintro e w1 ⟨rfl,g⟩;have z1:=g.size;have af:=O g;have au:=O<|(g.block _ om).trans HR;have lW:w.heap.size<W.heap.size:=om;rcases (g.cell lW).trans s0,(g.cell lW).trans s1,(g.cell lW).trans s2 with⟨t0,t1,t2⟩;have j:=O<|qj (j.1.below g<|oS j.1.lt)<|qj (j.2.1.below g rfl)<|j.2.2.below g rfl;by_cases h0:Bz s (Dz s)=0
 case neg=>
  obtain⟨r,hr⟩:=qa<|Bz s<|Dz s;rw[hr];have dr:(r !=0)=true:=by rw[<-hr];simpa using h0
  have av:=O h0;obtain⟨X,R,l⟩:=Io au none none none 0 0 0 0 0 0 mS;have u:=O R;have E:=O<|l.below (o8 b af) om;have U:=O<|l.Bw;go_wp2_with (refine Ag rfl rfl _ u ?_);refine FD results6 underlying47 U ⟨.inl ⟨av,rfl⟩,E⟩
 case pos=>
  rw[h0];have aw:=O h0;have I:=z ar h0;have HG:Ls s:=I.mono om;have ax:=O<|VY fc tc sc j.1 (oS (Av I.f).1.2) j.2.1 j.2.2 hs I.nt I.ns;go_wp2_with fail;refine ax.mono ?_;rintro e w3 ⟨⟨c,vF,vT,vS,H,rfl,ag⟩,ah⟩;have z3:=ah.size;have P:=af.trans<|ah.mono z1;have ay:=hA.below P om;have ad:=O<|cT a ag HG ao;obtain⟨a0,a1,a2,a3,a4,a5,a6,a7,a8,a9,bg,bh,a12,bj⟩:=ay.all;have lA:w.heap.size+1<w3.heap.size:=om;have ae:Hid<|∀k,Bn c vF vT vS H s.nt k->w1.heap.size<=k:=O λk e=>(ag.Pm e).1;go_wp2_with fail;refine ad.mono ?_;rintro e w4 ⟨rfl,bk,bm,bn,H4,L,n⟩;have z4:=n.size;obtain⟨x,hx⟩:=qa<|Dd s a;rw[hx,show Hk x=qF x from rfl];have az:=O hx;have aM:Below W.heap.size w3 w4:=⟨n.os,n.tape,n.output,n.size,λk hk=>n.block k om λe=>oS<|z ae k e⟩;have ai:=P.trans aM;obtain⟨o,A,rfl⟩:=AE L.f;obtain⟨p,B,rfl⟩:=AE L.t;obtain⟨q,C,rfl⟩:=AE L.si;go_simp
  rename_i bb
  refine bb _ _ ?_;refine wpList_plain rfl λK hK=>?_;go_simp;refine hK _ _ ?_;clear hK K;refine Ag rfl rfl _ (WM w4 x) ?_;obtain⟨w5,V⟩:=o9<|w4.alloc<|.cells (LL x).toArray 45;rw[<-V];have aj:B9 w4 w5:=by rw[V];exact(BE _ _).alloc (Be _) _
  have ak:w5.heap[w4.heap.size]?=some (.cells (LL x).toArray 45 (0,0)):=by rw[V];exact DD _ _
  have D:=L.below aj;have bp:Vp c w4.heap.size (.slice o (AO s a).nf A) (.slice p (AO s a).nt B) (.slice q (AO s a).ns C) x w5.drew:=⟨D.cells.1,D.cells.2.1,D.cells.2.2.1,An.read (w:=w5.drew) ak⟩;have Q:=o8 ai aj;obtain⟨X,R,l⟩:=Io (w:=w5.drew) ((Q.block _ om).trans HR) o p q (AO s a).nf A (AO s a).nt B (AO s a).ns C x;have bc:∀k,Bn c (.slice o (AO s a).nf A) (.slice p (AO s a).nt B) (.slice q (AO s a).ns C) H4 (AO s a).nt k->X.heap[k]?=w5.heap[k]?:=λk e=>l.other k<|oS (D.Pm e).1;have M:=D.keep bc;have bd:Vp c w4.heap.size (.slice o (AO s a).nf A) (.slice p (AO s a).nt B) (.slice q (AO s a).ns C) x X:=⟨M.cells.1,M.cells.2.1,M.cells.2.2.1,An.read<|(l.other _ om).trans ak⟩;have E:Hid<|lO w.heap.size X o p q (AO s a)/\B9 w X:=O ⟨M.uC.lower om,l.below ((o8 b Q).drew) om⟩;have u:=O R;have U:=O<|l.Bw;go_upto_region 5 with fail
  refine Gq (Vp c w4.heap.size (.slice o (AO s a).nf A) (.slice p (AO s a).nt B) (.slice q (AO s a).ns C) x) ?_;refine tz 0 (h:=tz 1 (h:=tz 2 (h:=tz 3 (h:=tz 4 (h:=?_)))));refine ry 5 λK hK=>?_;refine Bd rfl rfl X u ?_;refine hK.out _ _ bd λ_=>?_;clear hK K;refine Fj ?_;go_wp2_with fail;refine FD results6 underlying47 U ⟨.inr ⟨aw,_,_,_,_,_,_,qg az,E.1⟩,E.2⟩
open Classical in
noncomputable def gZ(s:AK)(a:Ac):AK:=if Bz s (Dz s)=0 then AO s a else N0
open Classical in
noncomputable def nK(s:AK)(a:Ac):An:=if Bz s (Dz s)=0 then Dd s a else mS
def iR(f:gV s)(g:∀i,i<s.nt->(s.T i).d.m<=3000000)(b:Wf a.k)(c:Wf a.v):J9 (gZ s a)/\(gZ s a).nt<=100:=by
 unfold gZ;split
 .rename_i h
  have e:Ls<|AO s a:=(Rn (WH h f g) a b c).mono om;exact⟨Lt.vC e,e.nt⟩
 exact⟨⟨⟨oo,λi hi=>absurd hi<|Tn _⟩,oo,λhi=>absurd hi<|Tn _,λhi=>absurd hi<|Tn _,oo⟩,oo⟩
def NI(w:Y)(s:AK)(x:An)(e:Ending)(w':Y):Prop:=
 ∃a b ta tc sa sc H lo,e=.returned (aG (.slice a s.nf b) (.slice ta s.nt tc) (.slice sa s.ns sc) x)/\MR lo w'.heap.size w' (.slice a s.nf b) (.slice ta s.nt tc) (.slice sa s.ns sc) s H/\w.heap.size<=lo/\B9 w w'
def Rv(w:Y)(s:AK)(x:An)(e:Ending)(w':Y):Prop:=
 ∃a b ta tc sa sc,e=.returned (aG (.slice a s.nf b) (.slice ta s.nt tc) (.slice sa s.ns sc) x)/\lO w.heap.size w' a ta sa s/\B9 w w'
def aI.says(h:aI w s a e w'):NI w (gZ s a) (nK s a) e w':=by
 obtain⟨⟨b,c⟩|⟨b,vF,vT,vS,H,lo,c,d,hl⟩,hb⟩:=h
 .have e1:gZ s a=N0:=Cs b;have e2:nK s a=mS:=Cs b;unfold NI;rw[e1,e2];exact⟨none,0,none,0,none,0,λ_=>Lu,w.heap.size,c,⟨.inl ⟨rfl,rfl⟩,.inl ⟨rfl,rfl⟩,.inl ⟨rfl,rfl⟩,λq e=>(by cases e),λq e=>(by cases e),λq i e=>(by cases e),λq e=>(by cases e),λq i e=>by cases e⟩,Be _,hb⟩
 have e1:gZ s a=AO s a:=C3 b;have e2:nK s a=Dd s a:=C3 b;obtain⟨f,g,ta,tc,sa,sc,rfl,rfl,rfl⟩:=d.forms;unfold NI;grind
def aH.says(h:aH w s a e w'):Rv w (gZ s a) (nK s a) e w':=by
 obtain⟨⟨b,c⟩|⟨b,d,f,ta,tc,sa,sc,c,g⟩,hb⟩:=h
 .have e1:gZ s a=N0:=Cs b;have e2:nK s a=mS:=Cs b;unfold Rv;rw[e1,e2];exact⟨none,0,none,0,none,0,c,λ_ _ _=>⟨.inl rfl,.inl rfl,.inl rfl⟩,hb⟩
 have e1:gZ s a=AO s a:=C3 b;have e2:nK s a=Dd s a:=C3 b;unfold Rv;grind
def LQ{m c d f:Option Addr}n g tc i sc j{s}x{w}(h:aC w m ta sa s)(h':aC w c d f s)(hs:J9 s):
  C9 10 #[(aG (.slice m s.nf n) (.slice ta s.nt tc) (.slice sa s.ns sc) x),(aG (.slice c s.nf g) (.slice d s.nt i) (.slice f s.ns j) x)] w (R9 (.bool true) w):=by
 obtain⟨W,o,b,_,b0,b1⟩:=S7 w (.cells (gY (.slice m s.nf n) (.slice ta s.nt tc) (.slice sa s.ns sc) x).toArray 47)<|.cells (gY (.slice c s.nf g) (.slice d s.nt i) (.slice f s.ns j) x).toArray 47;have hz:w.heap.size+1<W.heap.size:=by rw[o];simp
 rcases O (Oa n g tc i sc j (h.below b) (h'.below b) hs),O b,O b0,O b1,B5 b0,B5 b1 with⟨r,q,t,u,⟨x0,x1,x2,_⟩,⟨v,A,B,_⟩⟩;have l0:w.heap.size<W.heap.size:=om;clear b b0 b1 h h' hs;go_enter func10,ntmps10;go_upto_region 1 with fail
 rw[<-o];clear o;go_wp2_with fail;refine r.mono ?_;rintro e w1 ⟨rfl,a⟩;rcases a.size,B5<|(a.block _ l0).trans t,B5 ((a.block _ hz).trans u) with⟨Q,⟨_,_,_,R,S,T,U,V,X,Z,rP,C,D,E,F⟩,⟨_,_,_,q3,q4,q5,q6,q7,q8,q9,H,I,K,L,M⟩⟩;have m0:w.heap.size<w1.heap.size:=om;have m1:w.heap.size+1<w1.heap.size:=om;have k:=O<|o8 q a;have P:=O<|Tt x w1;clear a x0 x1 x2 v A B;go_wp2_with fail;refine P.mono ?_;rintro e w2 ⟨rfl,l⟩;have p:=O<|o8 k l;clear l;go_wp2;go_ret;exact⟨rfl,p⟩
def Sm f ta sa g tc sc{s}x{H}{w}(h:MR lo hi w (.slice f s.nf g) (.slice ta s.nt tc) (.slice sa s.ns sc) s H)(hs:aS s)(m:hi<=w.heap.size):
  C9 13 #[(aG (.slice f s.nf g) (.slice ta s.nt tc) (.slice sa s.ns sc) x),J 1] w λe w'=>(e=.returned (J (IA s 1:Int))/\MR lo hi w' (.slice f s.nf g) (.slice ta s.nt tc) (.slice sa s.ns sc) (Ul s 1) H)/\Ou lo hi w w':=by
 obtain⟨W,l,a,_,b0⟩:=JQ w<|.cells (gY (.slice f s.nf g) (.slice ta s.nt tc) (.slice sa s.ns sc) x).toArray 47;have hz:=Ah b0;obtain⟨x0,x1,x2,_⟩:=B5 b0;have n:=O<|jS (h.below a m) hs 1 om om;have b:=O a;clear h hs a b0;go_enter func13,ntmps13;go_upto_region 1 with fail
 rw[<-l];clear l;go_wp2_with fail;refine n.mono ?_;rintro e w1 ⟨⟨rfl,c⟩,d⟩;have i:=O c;have j:=O<|Ou.trans ⟨b.os,b.tape,b.output,b.size,λk hk _=>b.block k hk⟩ d;clear c d;obtain⟨Z,hz⟩:=qa<|IA s 1;rw[hz];have o:=O hz;clear hz;go_wp2;go_ret;exact⟨⟨by rw[z o]<;>rfl,i⟩,j⟩
def Mz c ta sa d tc sc{s}x{H}{w}(h:MR lo hi w (.slice c s.nf d) (.slice ta s.nt tc) (.slice sa s.ns sc) (Ul s 1) H)(hs:aS s)(j:hi<=w.heap.size):
  C9 14 #[(aG (.slice c s.nf d) (.slice ta s.nt tc) (.slice sa s.ns sc) x),J 1] w (R9 (J (IA s 1:Int)) w):=by
 obtain⟨W,g,a,_,b0⟩:=JQ w<|.cells (gY (.slice c s.nf d) (.slice ta s.nt tc) (.slice sa s.ns sc) x).toArray 47;have hz:=Ah b0;obtain⟨x0,x1,x2,_⟩:=B5 b0;have k:=O<|jE (h.below a j) hs om om;have i:=O a;clear h hs a b0;go_enter func14,ntmps14;go_upto_region 1 with fail
 rw[<-g];clear g;go_wp2_with fail;refine k.mono ?_;rintro e w1 ⟨rfl,b⟩;have f:=O<|o8 i b;clear b;have d2:decide ((IA s 1:Int)<0)=false:=oq;obtain⟨Z,hz⟩:=qa<|IA s 1;rw[hz]at d2;rw[hz];have l:=O hz;clear hz;go_wp2;go_ret;exact⟨by rw[z l]<;>rfl,f⟩
structure Z8 (b ab:Nat) (ty tz:TypeId) (u0 u1 u2:V9) (a:Ac) (w:Y):Prop where
 st:w.heap[b]?=some (.cells #[u0,u1,u2] ty (0,0))
 ac:w.heap[ab]?=some (.cells (GU a) tz (0,0))
def Xe(b ab:Nat)(u0 u1 u2:V9)(a:Ac)(w:Y):Prop:=w.cell? (G b 0)=some u0/\w.cell? (G b 1)=some u1/\w.cell? (G b 2)=some u2/\Lx ab a w
def Z8.held{tz}(h:Z8 b ab ty tz u0 u1 u2 a w):Xe b ab u0 u1 u2 a w:=by
 refine⟨?_,?_,?_,?_,?_,?_,?_,?_,?_,?_,?_,?_,?_,?_,?_,?_,?_⟩;iterate 3 (rw[MM w b _ _ _ _ h.st];rfl)
 all_goals(rw[MM w ab _ _ _ _ h.ac];rfl)
def Z8.keep{tz}(h:Z8 b ab ty tz u0 u1 u2 a w)(hb:B9 w w'):Z8 b ab ty tz u0 u1 u2 a w':=⟨(hb.block _<|Ah h.st).trans h.st,(hb.block _<|Ah h.ac).trans h.ac⟩
def Z8.other{tz ty'}(h:Z8 b ab ty tz u0 u1 u2 a w)(hs:Bj w w' p cs ty')(h1:b<p)(h2:ab<p):Z8 b ab ty tz u0 u1 u2 a w':=⟨(hs.other _ om).trans h.st,(hs.other _ om).trans h.ac⟩
abbrev uJ(w:Y)(p:Nat)(a:T9)(b:Nat)(ta:T9)(tc:Nat)(sa:T9)(sc:Nat)(s:AK)(x:An):Prop:=w.heap[p]?=some (.cells (gY (.slice a s.nf b) (.slice ta s.nt tc) (.slice sa s.ns sc) x).toArray 47 (0,0))
def Ez Z:∃x p,x=Z.alloc (.cells qD.toArray 47)/\p=Z.heap.size/\B9 Z x/\x.heap[p]?=some (.cells qD.toArray 47 (0,0)):=
 ⟨_,_,rfl,rfl,n9,DD _ _⟩
def LN{x Z u:Y}(a:B9 x Z)(b:p<B\/x.heap.size<=p)(hs:Bj Z u p cs ty):x.heap.size<=u.heap.size/\∀k,B<=k->k<x.heap.size->u.heap[k]?=x.heap[k]?:=
 ⟨by rw[hs.size];exact a.size,λk h1 h2=>(hs.other k om).trans<|a.block k h2⟩
def sI(W:Y)(s:AK)(x:An)(q:V9)(w:Y):Prop:=∃p a b ta tc sa sc,q=Q9 p/\uJ w p a b ta tc sa sc s x/\aC w a ta sa s/\B9 W w
def uK(W:Y)(s:AK)(x:An)(q:V9)(w:Y):Prop:=∃p a b ta tc sa sc H lo hi,q=Q9 p/\(W.heap.size<=p/\(p<lo\/hi<=p)/\W.heap.size<=lo/\hi<=w.heap.size)/\uJ w p a b ta tc sa sc s x/\MR lo hi w (.slice a s.nf b) (.slice ta s.nt tc) (.slice sa s.ns sc) s H/\B9 W w
def MR.uC{a}{sc}(h:MR lo hi w (.slice a s.nf b) (.slice ta s.nt tc) (.slice sa s.ns sc) s H):lO lo w a ta sa s:=λw' _ hk=>(h.keep λq h1 _ h3=>hk q h1 h3).sat
def IP.sat{H}{tb a}(h:IP B H w m tb a s):aC w (some<|G m 0) (some<|G tb 0) (some<|G a 0) s:=⟨h.fo.at,h.ta.at,h.si.at⟩
def Qz(b c:Nat)(u0 u1 u2 v0 v1 v2:V9)(w:Y):Prop:=w.cell? (G b 0)=some u0/\w.cell? (G b 1)=some u1/\w.cell? (G b 2)=some u2/\w.cell? (G c 0)=some v0/\w.cell? (G c 1)=some v1/\w.cell? (G c 2)=some v2
def Qz.mk{tz}{v0 v1 v2:V9}(h:w.heap[b]?=some (.cells #[u0,u1,u2] ty (0,0)))(k:w.heap[c]?=some (.cells #[v0,v1,v2] tz (0,0))):Qz b c u0 u1 u2 v0 v1 v2 w:=by
 refine⟨?_,?_,?_,?_,?_,?_⟩;iterate 3 (rw[MM w b _ _ _ _ h];rfl)
 all_goals(rw[MM w c _ _ _ _ k];rfl)
def oJ{fa:Option Addr}fc{ta:Option Addr}tc{sa:Option Addr}sc{s}a{w}(hA:Tg w fa ta sa s)(hL:Xi s)(hW:gV s)(dp:Wf a.k)(dq:Wf a.v)(hT:B2 w)(hE:JO w):
  C9 3 #[PY fa fc ta tc sa sc s,Kz a] w (R9 (.bool true) w):=by
 have dt:=hE.lt;obtain⟨W0,ct,cu,eS,_⟩:=S7 w (.cells #[.slice fa s.nf fc,.slice ta s.nt tc,.slice sa s.ns sc] 28)<|.cells (GU a) 33;have c:Z8 w.heap.size (w.heap.size+1) 28 33 (.slice fa s.nf fc) (.slice ta s.nt tc) (.slice sa s.ns sc) a W0:=by
  rw[ct];refine⟨(DO _ _ _ oq).trans<|DD _ _,?_⟩;have h:=DD (w.alloc<|.cells #[.slice fa s.nf fc,.slice ta s.nt tc,.slice sa s.ns sc] 28)<|.cells (GU a) 33;rw[show(w.alloc (.cells #[.slice fa s.nf fc,.slice ta s.nt tc,.slice sa s.ns sc] 28)).heap.size=w.heap.size+1 by simp]at h;exact h
 rcases O hA,O hL,O<|qj hW<|qj dp dq,O hT,O hE,O cu,O c,O<|ZR fc tc sc (hA.below cu) hL,c.held with⟨HA,HL,HW,HT,HE,HB,HI,dv,⟨i0,i1,i2,_⟩⟩;clear hA hL hW dp dq hT hE cu c;go_enter func3,ntmps3;go_upto_region 1 with fail
 rw[<-ct];clear ct;go_wp2_with fail;refine dv.mono ?_;rintro e w1 ⟨⟨r,rfl,hr⟩,cd⟩;rcases O (o8 HB cd),HI.keep cd,cd.size with⟨cg,cv,z1⟩;clear cd dv HB HI i0 i1 i2;rcases hr with rfl|⟨eT,e0,hS⟩
 .go_wp2_with fail
  go_ret;exact⟨rfl,cg⟩
 have dr:decide (r<0)=false:=by grind
 have HS:=O hS;have ch:Hid<|∀i,i<s.nt->(s.T i).d.m<=3000000:=O (λi hi=>by have:=hS.uF hi;unfold tw dw at this;omega);obtain⟨_,_,_,a0,a1,a2,a3,a4,a5,a6,a7,a8,a9,e4,e5,a12,e6⟩:=cv.held;have dx:=O cv;clear hS cv;go_wp2_with fail;refine m9 (ZO a r _ HW.2.1.str HW.2.2.str eT e0) λW1 cj=>?_;rcases O (o8 cg cj),O<|dx.keep cj,cj.size with⟨g,HI,z2⟩;clear cj cg dx a0 a1 a2 a3 a4 a5 a6 a7 a8 a9 e4 e5 a12 e6 dr;have hu:mH a r<0\/¬mH a r<0:=om;generalize mH a r=u at hu;rcases hu with hu|hu
 .have du:decide (u<0)=true:=by grind
  go_wp2_with fail
  go_ret;exact⟨rfl,g⟩
 have du:decide (u<0)=false:=by grind
 rcases iR HW.1 ch HW.2.1 HW.2.2,qa<|gZ s a,qa (nK s a) with⟨⟨ck,cw⟩,⟨S,cx⟩,⟨X,dy⟩⟩;rw[cx]at ck cw;rcases O ck,O<|ck.marks cw,O (qj cx dy) with⟨cy,cz,bc⟩;have l2:w.heap.size+1<W1.heap.size:=om;clear ck cw cx dy eS z1 z2;go_upto_region 8 with fail
 clear du hu
 go_cut [6] λq wx=>sI W1 S X q wx
 case first=>
  as_aux_lemma=>
   refine Gq (Xe w.heap.size (w.heap.size+1) (.slice fa s.nf fc) (.slice ta s.nt tc) (.slice sa s.ns sc) a) ?_;obtain⟨Z,hy⟩:=o9<|World.drew W1;rw[<-hy];have b:B9 W1 Z:=by rw[hy];exact(BE _ _).drew
   have c:=HI.keep b;have j:=c.held;clear hy;refine tz 0 (h:=tz 2 (h:=?_));refine TO (rs:=[1,5]) ou oq ?_;refine IH rfl (λK hK=>?_) (IH rfl (λK hK=>?_) SO);rotate_left;go_simp;obtain⟨x,p,hy,hp,hb,hz⟩:=Ez Z;rw[<-hy,<-hp];have hq:W1.heap.size<=p:=by rw[hp];exact b.size
   (try have I:=Or.inr (a:=p<B) (by have:=f.size;omega:t.heap.size<=p))
   replace b:=o8 b hb;replace c:=c.keep hb
   (try replace l:=l.below hb)
   (try replace f:=o8 f hb)
   clear hy hp hb;replace j:=c.held;refine hK.out _ _ j λ_=>?_;clear hK K;obtain⟨Z,e⟩:=o9 x;subst e;refine ry 1 λK hK=>?_;go_simp;rotate_left;go_simp;all_goals(refine(GF fc tc sc (HA.below<|o8 g b) HS).mono ?_;rintro e x ⟨⟨m,tb,sb,rfl,l⟩,hb⟩;(try replace hz:=(hb.block _<|Ah hz).trans hz);replace b:=o8 b hb;replace c:=c.keep hb;replace j:=c.held;refine hK.out _ _ j λ_=>?_;clear hK K hb;obtain⟨Z,e⟩:=o9 x;subst e)
   refine TO (rs:=[3,5]) ou oq ?_;refine IH rfl (λK hK=>?_) (IH rfl (λK hK=>?_) SO);rotate_left;go_simp;obtain⟨x,p,hy,hp,hb,hz⟩:=Ez Z;rw[<-hy,<-hp];have hq:W1.heap.size<=p:=by rw[hp];exact b.size
   (try have I:=Or.inr (a:=p<B) (by have:=f.size;omega:t.heap.size<=p))
   replace b:=o8 b hb;replace c:=c.keep hb
   (try replace l:=l.below hb)
   (try replace f:=o8 f hb)
   clear hy hp hb;replace j:=c.held;refine hK.out _ _ j λ_=>?_;clear hK K;obtain⟨Z,e⟩:=o9 x;subst e;refine ry 3 λK hK=>?_;go_simp;rotate_left;refine ry 3 λK hK=>?_;go_simp;rotate_left;go_simp;all_goals(refine m9 (Mh a Z) λx hb=>?_;replace l:=l.below hb;(try replace hz:=(hb.block _<|Ah hz).trans hz);replace b:=o8 b hb;replace c:=c.keep hb;replace j:=c.held;refine hK.out _ _ j λ_=>?_;clear hK K hb;obtain⟨Z,e⟩:=o9 x;subst e)
   refine TO (rs:=[4,5]) ou oq ?_;refine IH rfl (λK hK=>?_) (IH rfl (λK hK=>?_) SO);rotate_left;go_simp;obtain⟨x,p,hy,hp,hb,hz⟩:=Ez Z;rw[<-hy,<-hp];have hq:W1.heap.size<=p:=by rw[hp];exact b.size
   (try have I:=Or.inr (a:=p<B) (by have:=f.size;omega:t.heap.size<=p))
   replace b:=o8 b hb;replace c:=c.keep hb
   (try replace l:=l.below hb)
   (try replace f:=o8 f hb)
   clear hy hp hb;replace j:=c.held;refine hK.out _ _ j λ_=>?_;clear hK K;obtain⟨Z,e⟩:=o9 x;subst e;refine ry 4 λK hK=>?_;go_simp;rotate_left;refine ry 4 λK hK=>?_;go_simp;rotate_left;refine ry 4 λK hK=>?_;go_simp;rotate_left;go_simp;all_goals(refine(WK s.nf s.nt s.ns a l.fo l.ta.at l.si.at HS.weak HW.1 HL.sk ch HW.2.1 HW.2.2).mono ?_;intro e x o;replace o:=o.says;rw[(z bc).1,(z bc).2]at o;unfold Rv at o;obtain⟨ga,gc,ua,uc,va,vc,rfl,o,hb⟩:=o;obtain⟨B,eB⟩:=o9 Z.heap.size;obtain⟨t,eX⟩:=o9 x;(try have I:p<B\/t.heap.size<=p:=Or.inl<|by rw[eB];exact Ah hz);have f:B9 t x:=(by subst eX;exact BE _ _);rw[<-eB,<-eX]at o;clear eB eX l;(try replace hz:=(hb.block _<|Ah hz).trans hz);replace b:=o8 b hb;replace c:=c.keep hb;replace j:=c.held;refine hK.out _ _ j λ_=>?_;clear hK K hb;obtain⟨Z,e⟩:=o9 x;subst e)
   refine ry 5 λK hK=>?_;go_simp;obtain⟨x,p,hy,hp,hb,hz⟩:=Ez Z;rw[<-hy,<-hp];have hq:W1.heap.size<=p:=by rw[hp];exact b.size
   (try have I:=Or.inr (a:=p<B) (by have:=f.size;omega:t.heap.size<=p))
   replace b:=o8 b hb;replace c:=c.keep hb
   (try replace l:=l.below hb)
   (try replace f:=o8 f hb)
   clear hy hp hb;replace j:=c.held;refine hK.out _ _ j λ_=>?_;clear hK K;obtain⟨Z,e⟩:=o9 x;subst e;all_goals(obtain⟨u,M,n⟩:=Io hz ga ua va S.nf gc S.nt uc S.ns vc X;have P:=(c.other n om om).held;obtain⟨h1,h2⟩:=LN f I n;refine TO (rs:=[6]) ou oq ?_;refine IH rfl (λK hK=>?_) SO;refine Bd rfl rfl u M ?_;refine hK.out _ _ P λ_=>?_;clear hK K M;refine wpAnyH_done ou ?_ _;refine QN.normal ?_;have HF:Hid<|sI W1 S X (Q9 p) u:=O ⟨p,ga,gc,ua,uc,va,vc,rfl,n.Bw,o u h1 h2,n.below b hq⟩;clear P j hz h1 h2 n b c f I o;go_wp2_with fail;go_meet;exact HF)
 case rest=>
 as_aux_lemma=>
 obtain⟨p0,ga,gc,ua,uc,va,vc,rfl,dC,Lu,cl⟩:=hcut;obtain⟨U,e⟩:=o9 wc;subst e;rcases O (o8 g cl),HI.keep cl,cl.size,O dC,O Lu with⟨cm,cD,z3,cn,cN⟩;have dU:=O cD;obtain⟨i0,i1,i2,_⟩:=cD.held;have l3:w.heap.size<U.heap.size:=om;have ea:=O<|GF fc tc sc (HA.below cm) HS;clear cl cD dC Lu HI g;go_wp2_with fail;refine ea.mono ?_;rintro e w4 ⟨⟨m,tb,sb,rfl,eb⟩,c0⟩;have z4:=c0.size;obtain⟨V,hV,c3,_,c4⟩:=JQ w4<|.cells #[S9 m s.nf s.nf,S9 tb s.nt s.nt,S9 sb s.ns s.ns] 42;have ae:=c0.trans<|c3.mono z4;rcases O ae,O<|o8 cm ae,O (dU.keep ae) with⟨c5,g,c6⟩;have HI:Hid<|Z8 w4.heap.size (w.heap.size+1) 42 33 (S9 m s.nf s.nf) (S9 tb s.nt s.nt) (S9 sb s.ns s.ns) a V:=O ⟨c4,c6.ac⟩;have HR:=O<|eb.below c3;have zV:=Ah c4;clear c0 ae c3 c4 eb ea cm dU i0 i1 i2;go_upto_region 10 with fail
 rw[<-hV];clear hV
 go_cut [8] λq wx=>uK V S X q wx
 case first=>
  as_aux_lemma=>
   refine Gq (Xe w4.heap.size (w.heap.size+1) (S9 m s.nf s.nf) (S9 tb s.nt s.nt) (S9 sb s.ns s.ns) a) ?_;obtain⟨Z,hy⟩:=o9<|World.drew V;rw[<-hy];have b:B9 V Z:=by rw[hy];exact(BE _ _).drew
   have c:=HI.keep b;have j:=c.held;have l:=HR.below b;clear hy;refine tz 0 (h:=tz 1 (h:=?_));refine TO (rs:=[2,4]) ou oq ?_;refine IH rfl (λK hK=>?_) (IH rfl (λK hK=>?_) SO);rotate_left;go_simp;obtain⟨x,p,hy,hp,hb,hz⟩:=Ez Z;rw[<-hy,<-hp];have hq:V.heap.size<=p:=by rw[hp];exact b.size
   (try have I:=Or.inr (a:=p<B) (by have:=f.size;omega:t.heap.size<=p))
   replace b:=o8 b hb;replace c:=c.keep hb
   (try replace l:=l.below hb)
   (try replace f:=o8 f hb)
   clear hy hp hb;replace j:=c.held;refine hK.out _ _ j λ_=>?_;clear hK K;obtain⟨Z,e⟩:=o9 x;subst e;refine ry 2 λK hK=>?_;go_simp;rotate_left;go_simp;all_goals(refine m9 (Mh a Z) λx hb=>?_;replace l:=l.below hb;(try replace hz:=(hb.block _<|Ah hz).trans hz);replace b:=o8 b hb;replace c:=c.keep hb;replace j:=c.held;refine hK.out _ _ j λ_=>?_;clear hK K hb;obtain⟨Z,e⟩:=o9 x;subst e)
   refine TO (rs:=[3,4]) ou oq ?_;refine IH rfl (λK hK=>?_) (IH rfl (λK hK=>?_) SO);rotate_left;go_simp;obtain⟨x,p,hy,hp,hb,hz⟩:=Ez Z;rw[<-hy,<-hp];have hq:V.heap.size<=p:=by rw[hp];exact b.size
   (try have I:=Or.inr (a:=p<B) (by have:=f.size;omega:t.heap.size<=p))
   replace b:=o8 b hb;replace c:=c.keep hb
   (try replace l:=l.below hb)
   (try replace f:=o8 f hb)
   clear hy hp hb;replace j:=c.held;refine hK.out _ _ j λ_=>?_;clear hK K;obtain⟨Z,e⟩:=o9 x;subst e;refine ry 3 λK hK=>?_;go_simp;rotate_left;refine ry 3 λK hK=>?_;go_simp;rotate_left;go_simp;all_goals(refine(Oy s.nf s.nt s.ns a l.fo l.ta.at l.si.at HS.weak HW.1 HL.sk ch HW.2.1 HW.2.2 (A1 _ _ HT<|o8 g b)<|HE.below (o8 g b) dt).mono ?_;intro e x o;replace o:=o.says;rw[(z bc).1,(z bc).2]at o;unfold NI at o;obtain⟨ga,gc,ua,uc,va,vc,H,lo,rfl,o,hl,hb⟩:=o;obtain⟨B,eB⟩:=o9 Z.heap.size;obtain⟨t,eX⟩:=o9 x;(try have I:p<B\/t.heap.size<=p:=Or.inl<|by rw[eB];exact Ah hz);have f:B9 t x:=(by subst eX;exact BE _ _);rw[<-eX]at o;rw[<-eB]at hl;have fh:V.heap.size<=B:=(by rw[eB];exact b.size);clear eB eX l;(try replace hz:=(hb.block _<|Ah hz).trans hz);replace b:=o8 b hb;replace c:=c.keep hb;replace j:=c.held;refine hK.out _ _ j λ_=>?_;clear hK K hb;obtain⟨Z,e⟩:=o9 x;subst e)
   refine ry 4 λK hK=>?_;go_simp;obtain⟨x,p,hy,hp,hb,hz⟩:=Ez Z;rw[<-hy,<-hp];have hq:V.heap.size<=p:=by rw[hp];exact b.size
   (try have I:=Or.inr (a:=p<B) (by have:=f.size;omega:t.heap.size<=p))
   replace b:=o8 b hb;replace c:=c.keep hb
   (try replace l:=l.below hb)
   (try replace f:=o8 f hb)
   clear hy hp hb;replace j:=c.held;refine hK.out _ _ j λ_=>?_;clear hK K;obtain⟨Z,e⟩:=o9 x;subst e;all_goals(obtain⟨u,M,n⟩:=Io hz ga ua va S.nf gc S.nt uc S.ns vc X;have P:=(c.other n om om).held;obtain⟨h1,h2⟩:=LN f I n;refine TO (rs:=[5]) ou oq ?_;refine IH rfl (λK hK=>?_) SO;refine Bd rfl rfl u M ?_;refine hK.out _ _ P λ_=>?_;clear hK K M;refine wpAnyH_done ou ?_ _;refine QN.normal ?_;have HF:Hid<|uK V S X (Q9 p) u:=O ⟨p,ga,gc,ua,uc,va,vc,H,lo,t.heap.size,rfl,⟨hq,om,om,h1⟩,n.Bw,o.keep λq e1 e2 _=>h2 q om e2,n.below b hq⟩;clear P j hz h1 h2 n b c f I o;go_wp2_with fail;go_meet;exact HF)
 case rest=>
 as_aux_lemma=>
 obtain⟨p1,c7,bf,pQ,bg,c8,bh,H1,lo,hi,rfl,⟨k0,k1,k2,k3⟩,cp,ec,ai⟩:=hcut;obtain⟨w5,e⟩:=o9 wc;subst e;rcases ai.size,O<|o8 g ai,O<|o8 c5 ai,O<|HI.keep ai,O<|c6.keep ai,O<|HR.below ai,O cp,O ec with⟨z5,c9,bj,ef,eh,ei,ej,da⟩;have bz:=O<|cN.below bj;have y0:=Ah cn;have aj:=(bj.block _ y0).trans cn;have y1:=Ah cp;rcases Ah aj,B5 cp,B5 aj with⟨fj,⟨g0,g1,g2,g3,g4,g5,g6,g7,g8,g9,g10,g11,g12,g13,g14⟩,⟨h0,h1,h2,h3,h4,h5,h6,h7,h8,h9,bk,bm,bn,bp,bq⟩⟩;clear cp ec ai aj g c5 HI c6 HR;go_wp2_with fail;refine m9 (LQ bf gc bg uc bh vc X da.sat bz cy) λw6 L=>?_;rcases L.size,O<|o8 c9 L,O<|o8 bj L,O<|ef.keep L,O<|eh.keep L,O<|ei.below L,O<|(L.block _ y1).trans ej,O (da.below L k3) with⟨z6,br,dc,cq,bt,dd,df,ek⟩;clear L g0 g1 g2 g3 g4 g5 g6 g7 g8 g9 g10 g11 g12 g13 g14 h0 h1 h2 h3 h4 h5 h6 h7 h8 h9 bk bm bn bp bq c9 bj ef eh ei ej da bz;go_upto_region 13 with fail
 refine Gq (Qz w.heap.size w4.heap.size (.slice fa s.nf fc) (.slice ta s.nt tc) (.slice sa s.ns sc) (S9 m s.nf s.nf) (S9 tb s.nt s.nt)<|S9 sb s.ns s.ns) ?_;obtain⟨Z,hy⟩:=o9<|World.drew w6;rw[<-hy];have b:B9 w6 Z:=by rw[hy];exact(BE _ _).drew
 clear hy;have j:=Qz.mk (bt.keep b).st (cq.keep b).st;refine tz 0 (h:=tz 1 (h:=?_));refine ry 2 λK hK=>?_;go_simp;refine(GF fc tc sc (HA.below<|o8 br b) HS).mono ?_;rintro e w7 ⟨⟨m7,t7,s7,rfl,eo⟩,ep⟩;have bd:=o8 b ep;replace j:=Qz.mk (bt.keep bd).st (cq.keep bd).st;refine hK.out _ _ j λ_=>?_;clear hK K ep b;refine ry 3 λK hK=>?_;go_simp;refine m9 (Oa s.nf s.nf s.nt s.nt s.ns s.ns (dd.below bd).sat eo.sat HS.weak) λw8 eu=>?_;have E:=o8 bd eu;replace j:=Qz.mk (bt.keep E).st (cq.keep E).st;refine hK.out _ _ j λ_=>?_;clear hK K eu bd eo;refine tz 4 (h:=?_);refine Fj ?_;rcases E.size,O<|o8 br E,O<|o8 dc E,O<|bt.keep E,O<|dd.below E,O ((E.block _<|Ah df).trans df) with⟨z8,ev,ew,dh,ey,di⟩;have ez:=O<|ek.below E om;obtain⟨_,_,_,i0,i1,i2⟩:=j;have l8:w4.heap.size<w8.heap.size:=om;clear E br dc cq bt dd df ek;go_wp2_with fail;refine(Qm ey HS om).mono ?_;rintro e w9 ⟨⟨r9,rfl⟩,bu⟩;have z9:=bu.size;have bw:=bu.below om;have dj:=O<|ev.trans<|bw.mono om;have bx:=O<|ew.trans bw;have cr:=(bu.block p1 (Ah di)<|.inr om).trans di;have dk:=O<|ez.keep λq e1 e2 e3=>bu.block q e3<|.inr om;have eA:Hid<|Z8 w.heap.size (w.heap.size+1) 28 33 (.slice fa s.nf fc) (.slice ta s.nt tc) (.slice sa s.ns sc) a w9:=O ⟨(bw.block _ om).trans dh.st,(bw.block _ om).trans dh.ac⟩;rcases O cr,O<|cN.below bx,(bx.block _ y0).trans cn with⟨eF,b0,ak⟩;have d9:decide ((r9:Int)<0)=false:=oq;rcases Ah cr,Ah ak,B5 cr,B5 ak with⟨y9,fk,⟨g0,g1,g2,g3,g4,g5,g6,g7,g8,g9,g10,g11,g12,g13,g14⟩,⟨h0,h1,h2,h3,h4,h5,h6,h7,h8,h9,bk,bm,bn,bp,bq⟩⟩;clear bw bu cr ak i0 i1 i2 ev ew dh ey di ez;go_wp2_with fail;refine m9 (LQ bf gc bg uc bh vc X dk.sat b0 cy) λe7 C=>?_;rcases C.size,O<|o8 dj C,O<|o8 bx C,O<|eA.keep C,(C.block _ y9).trans eF with⟨fl,b1,b2,ao,af⟩;rcases O (dk.below C om),O af,Ah af with⟨b3,b4,e8⟩;clear C g0 g1 g2 g3 g4 g5 g6 g7 g8 g9 g10 g11 g12 g13 g14 h0 h1 h2 h3 h4 h5 h6 h7 h8 h9 bk bm bn bp bq d9 dj bx eA eF dk b0;obtain⟨g0,g1,g2,g3,g4,g5,g6,g7,g8,g9,g10,g11,g12,g13,g14⟩:=B5 af;clear af;go_wp2_with fail;refine(Sm c7 pQ c8 bf bg bh X b3 cz om).mono ?_;rintro e eI ⟨⟨rfl,b5⟩,A⟩;have fm:=A.size;have Q:Below V.heap.size e7 eI:=⟨A.os,A.tape,A.output,A.size,λk hk=>A.block k om<|.inl om⟩;have aq:=O<|b1.trans<|Q.mono om;have ar:=O<|b2.trans<|Q.mono om;have b6:Hid<|Z8 w.heap.size (w.heap.size+1) 28 33 (.slice fa s.nf fc) (.slice ta s.nt tc) (.slice sa s.ns sc) a eI:=O ⟨(Q.block _ om).trans ao.st,(Q.block _ om).trans ao.ac⟩;have ag:=(A.block p1 e8 k1).trans b4;rcases O ag,O b5,Ah ag with⟨b7,au,e9⟩;clear Q A b5 g0 g1 g2 g3 g4 g5 g6 g7 g8 g9 g10 g11 g12 g13 g14 b1 b2 ao b4 b3;obtain⟨W,hz⟩:=qa<|IA S 1;have HZ:=O hz;rw[hz];clear hz;have dz:decide ((W:Int)<0)=false:=oq;obtain⟨g0,g1,g2,g3,g4,g5,g6,g7,g8,g9,g10,g11,g12,g13,g14⟩:=B5 ag;clear ag;go_wp2_with fail;refine(Mz c7 pQ c8 bf bg bh X au cz om).mono ?_;rw[z HZ];rintro e W2 ⟨rfl,D⟩;rcases D.size,O<|o8 aq D,O<|o8 ar D,O<|b6.keep D,O ((D.block _ e9).trans b7) with⟨z12,g,av,HI,aw⟩;have b8:=O<|au.below D om;clear D g0 g1 g2 g3 g4 g5 g6 g7 g8 g9 g10 g11 g12 g13 g14 aq ar b6 b7 au;go_upto_region 27 with fail
 go_cut [12] λq wx=>sI W2 S X q wx
 case first=>
  as_aux_lemma=>
   refine Gq (Xe w.heap.size (w.heap.size+1) (.slice fa s.nf fc) (.slice ta s.nt tc) (.slice sa s.ns sc) a) ?_;obtain⟨Z,hy⟩:=o9<|World.drew W2;rw[<-hy];have b:B9 W2 Z:=by rw[hy];exact(BE _ _).drew
   have c:=HI.keep b;have j:=c.held;clear hy;refine tz 0 (h:=tz 2 (h:=?_));refine TO (rs:=[1,5]) ou oq ?_;refine IH rfl (λK hK=>?_) (IH rfl (λK hK=>?_) SO);rotate_left;go_simp;obtain⟨x,p,hy,hp,hb,hz⟩:=Ez Z;rw[<-hy,<-hp];have hq:W2.heap.size<=p:=by rw[hp];exact b.size
   (try have I:=Or.inr (a:=p<B) (by have:=f.size;omega:t.heap.size<=p))
   replace b:=o8 b hb;replace c:=c.keep hb
   (try replace l:=l.below hb)
   (try replace f:=o8 f hb)
   clear hy hp hb;replace j:=c.held;refine hK.out _ _ j λ_=>?_;clear hK K;obtain⟨Z,e⟩:=o9 x;subst e;refine ry 1 λK hK=>?_;go_simp;rotate_left;go_simp;all_goals(refine(GF fc tc sc (HA.below<|o8 g b) HS).mono ?_;rintro e x ⟨⟨m,tb,sb,rfl,l⟩,hb⟩;(try replace hz:=(hb.block _<|Ah hz).trans hz);replace b:=o8 b hb;replace c:=c.keep hb;replace j:=c.held;refine hK.out _ _ j λ_=>?_;clear hK K hb;obtain⟨Z,e⟩:=o9 x;subst e)
   refine TO (rs:=[3,5]) ou oq ?_;refine IH rfl (λK hK=>?_) (IH rfl (λK hK=>?_) SO);rotate_left;go_simp;obtain⟨x,p,hy,hp,hb,hz⟩:=Ez Z;rw[<-hy,<-hp];have hq:W2.heap.size<=p:=by rw[hp];exact b.size
   (try have I:=Or.inr (a:=p<B) (by have:=f.size;omega:t.heap.size<=p))
   replace b:=o8 b hb;replace c:=c.keep hb
   (try replace l:=l.below hb)
   (try replace f:=o8 f hb)
   clear hy hp hb;replace j:=c.held;refine hK.out _ _ j λ_=>?_;clear hK K;obtain⟨Z,e⟩:=o9 x;subst e;refine ry 3 λK hK=>?_;go_simp;rotate_left;refine ry 3 λK hK=>?_;go_simp;rotate_left;go_simp;all_goals(refine m9 (Mh a Z) λx hb=>?_;replace l:=l.below hb;(try replace hz:=(hb.block _<|Ah hz).trans hz);replace b:=o8 b hb;replace c:=c.keep hb;replace j:=c.held;refine hK.out _ _ j λ_=>?_;clear hK K hb;obtain⟨Z,e⟩:=o9 x;subst e)
   refine TO (rs:=[4,5]) ou oq ?_;refine IH rfl (λK hK=>?_) (IH rfl (λK hK=>?_) SO);rotate_left;go_simp;obtain⟨x,p,hy,hp,hb,hz⟩:=Ez Z;rw[<-hy,<-hp];have hq:W2.heap.size<=p:=by rw[hp];exact b.size
   (try have I:=Or.inr (a:=p<B) (by have:=f.size;omega:t.heap.size<=p))
   replace b:=o8 b hb;replace c:=c.keep hb
   (try replace l:=l.below hb)
   (try replace f:=o8 f hb)
   clear hy hp hb;replace j:=c.held;refine hK.out _ _ j λ_=>?_;clear hK K;obtain⟨Z,e⟩:=o9 x;subst e;refine ry 4 λK hK=>?_;go_simp;rotate_left;refine ry 4 λK hK=>?_;go_simp;rotate_left;refine ry 4 λK hK=>?_;go_simp;rotate_left;go_simp;all_goals(refine(Oy s.nf s.nt s.ns a l.fo l.ta.at l.si.at HS.weak HW.1 HL.sk ch HW.2.1 HW.2.2 (A1 _ _ HT<|o8 g b)<|HE.below (o8 g b) dt).mono ?_;intro e x o;replace o:=o.says;rw[(z bc).1,(z bc).2]at o;unfold NI at o;obtain⟨ga,gc,ua,uc,va,vc,H,lo,rfl,o,hl,hb⟩:=o;obtain⟨B,eB⟩:=o9 Z.heap.size;obtain⟨t,eX⟩:=o9 x;(try have I:p<B\/t.heap.size<=p:=Or.inl<|by rw[eB];exact Ah hz);have f:B9 t x:=(by subst eX;exact BE _ _);replace o:=o.uC.lower hl;rw[<-eB,<-eX]at o;clear eB eX l;(try replace hz:=(hb.block _<|Ah hz).trans hz);replace b:=o8 b hb;replace c:=c.keep hb;replace j:=c.held;refine hK.out _ _ j λ_=>?_;clear hK K hb;obtain⟨Z,e⟩:=o9 x;subst e)
   refine ry 5 λK hK=>?_;go_simp;obtain⟨x,p,hy,hp,hb,hz⟩:=Ez Z;rw[<-hy,<-hp];have hq:W2.heap.size<=p:=by rw[hp];exact b.size
   (try have I:=Or.inr (a:=p<B) (by have:=f.size;omega:t.heap.size<=p))
   replace b:=o8 b hb;replace c:=c.keep hb
   (try replace l:=l.below hb)
   (try replace f:=o8 f hb)
   clear hy hp hb;replace j:=c.held;refine hK.out _ _ j λ_=>?_;clear hK K;obtain⟨Z,e⟩:=o9 x;subst e;all_goals(obtain⟨u,M,n⟩:=Io hz ga ua va S.nf gc S.nt uc S.ns vc X;have P:=(c.other n om om).held;obtain⟨h1,h2⟩:=LN f I n;refine TO (rs:=[6]) ou oq ?_;refine IH rfl (λK hK=>?_) SO;refine Bd rfl rfl u M ?_;refine hK.out _ _ P λ_=>?_;clear hK K M;refine wpAnyH_done ou ?_ _;refine QN.normal ?_;have HF:Hid<|sI W2 S X (Q9 p) u:=O ⟨p,ga,gc,ua,uc,va,vc,rfl,n.Bw,o u h1 h2,n.below b hq⟩;clear P j hz h1 h2 n b c f I o;go_wp2_with fail;go_meet;exact HF)
 case rest=>
 as_aux_lemma=>
 obtain⟨p2,fq,fb,fr,fe,ft,ff,rfl,dm,eP,F⟩:=hcut;obtain⟨fu,e⟩:=o9 wc;subst e;rcases F.size,O<|o8 g F,O<|o8 av F,O ((F.block _<|Ah aw).trans aw) with⟨fw,ax,ay,az⟩;rcases O (b8.below F om),O eP,O<|cN.below ay,(ay.block _ y0).trans cn,Ah dm with⟨b9,ca,ah,ad,fx⟩;rcases Ah ad,B5 dm,B5 ad with⟨fg,⟨g0,g1,g2,g3,g4,g5,g6,g7,g8,g9,g10,g11,g12,g13,g14⟩,⟨h0,h1,h2,h3,h4,h5,h6,h7,h8,h9,bk,bm,bn,bp,bq⟩⟩;clear dm eP F ad g av aw b8;go_wp2_with fail;refine m9 (LQ fb gc fe uc ff vc X ca ah cy) λfy R=>?_;rcases R.size,O<|o8 ax R,(R.block _<|Ah az).trans az with⟨fz,aM,bb⟩;have cb:=O<|b9.below R om;have fE:=Ah bb;clear R g0 g1 g2 g3 g4 g5 g6 g7 g8 g9 g10 g11 g12 g13 g14 h0 h1 h2 h3 h4 h5 h6 h7 h8 h9 bk bm bn bp bq ax ay az b9 ca ah;obtain⟨g0,g1,g2,g3,g4,g5,g6,g7,g8,g9,g10,g11,g12,g13,g14⟩:=B5 bb;clear bb;go_wp2_with fail;refine(Mz c7 pQ c8 bf bg bh X cb cz om).mono ?_;rw[z HZ];rintro e fF ⟨rfl,cc⟩;have dn:=O<|o8 aM cc;clear cc g0 g1 g2 g3 g4 g5 g6 g7 g8 g9 g10 g11 g12 g13 g14 aM cb;go_wp2;go_ret;exact⟨rfl,dn⟩
end Go.Proofs.YtoobllcjfinmoaaGreatDoor
