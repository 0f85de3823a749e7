import Derived.Test.YtkpfgniijbgkoaaGreatDoorSSAB
import Derived.Test.YtkpfgniijbgkoaaGreatDoorRows
set_option linter.all false
set_option maxHeartbeats 40000000
set_option maxRecDepth 100000
namespace Go.Proofs.YtkpfgniijbgkoaaGreatDoor
open Go.Proofs.Tryz
open Go.RowKit
attribute [local go_sem] AB Aw
variable {x m i n k b g e b0 r cp b1 lo hi n0:Nat}{s:AE}{kind:Int}{v:V9}{la va:Option Addr}{W w w' A:Y}{f:Nat->Br}{B Z:Nat->Nat}{a K t:TypeId}{P:Program}{M:Nat->Option Nat}{xs:List Value}{p:Prop}{D:Nat->Int}
def Xe{s}{i}(a:Ieee.double.read x=.number s m i)(hi:-1074<=i)(hz:fz x=false):m≠0:=by
 intro e;subst e;have h:(Ieee.double.order x 0==some .eq)=false:=hz;rw[Fl.BR a Fl.CD hi om,Fl.EA,Fl.EA]at h;simp at h
def ZE(d:x<18446744073709551616)(hn:C1 x=false)(hz:fz x=false){w}(g:BZ w):
  C9 166 #[F9 x] w (R9 (.string ⟨(EE x).toArray⟩) w):=by
 rcases Fl.CB x with⟨s,m,i,a,hi,c,f,_⟩|⟨s,a⟩|⟨s,t,a⟩
 .have b:=Xe a hi hz;obtain⟨M,E,j,hc⟩:=Qz x d s m i a hi c f b;obtain⟨e1,e2⟩:=Nt j<|U0 m i b f;have e:EE x=Lt s (2*M+1) E:=by unfold EE;rw[a,e1,e2]
  rw[e];exact hc w g
 .cases s
  .have e:EE x=[105,110,102]:=by unfold EE;rw[a];rfl
   rw[e];exact(ZF x w<|Fl.Rr a).mono λe w' ⟨h1,h2⟩=>⟨h1,h2▸BE _ _⟩
  have e:EE x=[45,105,110,102]:=by unfold EE;rw[a];rfl
  rw[e];exact(WI x w (Fl.Xb a)<|Fl.Rr<|by rw[Fl.LU x d,a];rfl).mono λe w' ⟨h1,h2⟩=>⟨h1,h2▸BE _ _⟩
 have h:(!(Ieee.double.order x x==some .eq))=false:=hn;unfold Ieee.Format.order at h;rw[a]at h;simp[Ieee.Datum.order]at h
def aS(l:x<18446744073709551616)(hn:C1 x=false)(hz:fz x=false)w:
  C9 163 #[F9 x] w (R9 (.string ⟨(EE x).toArray⟩) w):=by
 rcases Fl.CB x with⟨s,m,i,c,hi,d,j,_⟩|⟨s,c⟩|⟨s,t,c⟩
 .have a:=Xe c hi hz;have fin:∀M E,TW m i M E->EE x=(if s then[45]else[])++Lib.itoa ((2*M+1:Nat):Int)++[112]++Lib.itoa E:=by
   intro M E k;obtain⟨e1,e2⟩:=Nt k<|U0 m i a j;rw[<-eK];unfold EE;rw[c,e1,e2]
  cases s
  focus
   have b:Fl.St x m i:=⟨m,i,c,hi,d,j,rfl⟩;obtain⟨g3,g2,g1⟩:=Qb b a;obtain⟨r0,g,g5⟩:=Fl.Yk b a;refine(RV false x x m r0 i w rfl b a j hi d g1 g2 g3 g3 g g5).mono ?_
  rotate_left
  focus
   have f:Ieee.double.read (Op.negFloat .f64 x)=.number false m i:=by rw[Fl.LU x l,c];rfl
   have b:Fl.St (Op.negFloat .f64 x) m i:=⟨m,i,f,hi,d,j,rfl⟩;obtain⟨g4,_,_⟩:=Qb b a;obtain⟨r0,g,g5⟩:=Fl.Yk b a;have n:(0:Int)<((m*2^(i+1074).toNat:Nat):Int):=Int.ofNat_lt.2<|Nat.mul_pos om<|Of _;have g2:(O9 x 0==some .lt)=true:=by
    show(Ieee.double.order x 0==some .lt)=true;rw[Fl.BR c Fl.CD hi om,Fl.Jg,Fl.EA,Fl.EG,Fl.Cw];simp only[decide_eq_true_eq];omega
   refine(RV true x (Op.negFloat .f64 x) m r0 i w rfl b a j hi d hn g2 hz g4 g g5).mono ?_
  all_goals
   rintro e w' ⟨⟨M,E,k,rfl⟩,hb⟩;refine⟨?_,hb⟩;rw[fin M E k];rfl
 .cases s
  .have e:EE x=[105,110,102]:=by unfold EE;rw[c];rfl
   rw[e];obtain⟨r0,h1,h2⟩:=Ux c;have g2:(O9 x 0==some .lt)=false:=by
    show(Ieee.double.order x 0==some .lt)=false;unfold Ieee.Format.order;rw[c];rfl
   exact(aT x r0 w hn g2 hz h1 h2).mono λe w' ⟨h1,h2⟩=>⟨h1,h2▸BE _ _⟩
  have e:EE x=[45,105,110,102]:=by unfold EE;rw[c];rfl
  rw[e];have f:Ieee.double.read (Op.negFloat .f64 x)=.infinity false:=by rw[Fl.LU x l,c];rfl
  obtain⟨r0,h1,h2⟩:=Ux f;have g2:(O9 x 0==some .lt)=true:=by
   show(Ieee.double.order x 0==some .lt)=true;unfold Ieee.Format.order;rw[c];rfl
  have g4:(O9 (Op.negFloat .f64 x) 0==some .eq)=false:=by
   show(Ieee.double.order _ 0==some .eq)=false;unfold Ieee.Format.order;rw[f];rfl
  exact(XB x r0 w hn g2 g4 h1 h2).mono λe w' ⟨h1,h2⟩=>⟨h1,h2▸BE _ _⟩
 have h:(!(Ieee.double.order x x==some .eq))=false:=hn;unfold Ieee.Format.order at h;rw[c]at h;simp[Ieee.Datum.order]at h
def qU x(a:x≠0)(h:x<2^53):Lib.ctz 64 x<=53:=by
 obtain⟨M,_,h2⟩:=Fl.OX false x om h;have:Fl.uw false x=x:=rfl;rw[this]at h2;omega
def Un(hn:C1 x=false)(hz:fz x=false):(EE x).length<=60:=by
 rcases Fl.CB x with⟨s,m,i,a,hi,c,d,_⟩|⟨s,a⟩|⟨s,t,a⟩
 .have b:=Xe a hi hz;have hc:=qU m b d;unfold EE;rw[a];unfold Lt;have e:m/2^Lib.ctz 64 m/2<=m:=GO (Nat.div_le_self _ _)<|Nat.div_le_self _ _;have h1:=AaX (Fl.sg s<|2*(m/2^Lib.ctz 64 m/2)+1) (by cases s<;>simp only[Fl.sg,Aad]<;>omega) (by cases s<;>simp only[Fl.sg,Aad]<;>omega);have h2:=AaX (i+Lib.ctz 64 m) om om;grind
 .unfold EE;rw[a];cases s<;>decide
 unfold EE;rw[a];exact To _
def DK(kind num:Int)(Ah:Nat)(s:ByteArray)(ref:Int):Int:=
 if kind=4 then SN s.data.toList
 else if kind=3 then SN (EE Ah)
 else if kind=2 then QL (IntKind.u64.wrap num)
 else QL (IntKind.u64.wrap<|IntKind.u64.wrap (kind*1099511627776+IntKind.u64.wrap num)+IntKind.u64.wrap ref)
structure HK (kind:Int) (Ah:Nat) (s:ByteArray):Prop where
 str:s.size<=maxLen
 yZ:0<=kind
 yY:kind<=8
 Ah:kind=3->Ah<18446744073709551616/\C1 Ah=false/\fz Ah=false
def Ut num{Ah}{s}ref{w}(h:HK kind Ah s)(c:BZ w):
  C9 154 #[V kind num Ah s ref] w (R9 (.int .u64<|DK kind num Ah s ref) w):=by
 have d:=h.yZ;have DM:=h.yY;by_cases k4:kind=4
 .subst k4;have e:DK 4 num Ah s ref=SN s.data.toList:=by unfold DK;rw[DD rfl]
  rw[e];go_enter func154,ntmps154;go_wp2_with (go_at_call 165;refine(Lw s _ h.str).mono ?_;rintro e w1 ⟨rfl,rfl⟩);go_ret;exact⟨rfl,n9⟩
 have b4:(kind==4)=false:=by simp[k4]
 by_cases k3:kind=3
 .subst k3;obtain⟨f1,f2,f3⟩:=h.Ah rfl;have e:DK 3 num Ah s ref=SN (EE Ah):=by unfold DK;rw[C3 oo,DD rfl]
  rw[e];have hl:=Un f2 f3;have b:Hid<|BZ w:=c;go_enter func154,ntmps154;go_wp2_with fail;refine m9 (ZE f1 f2 f3<|b.out.below n9 b.out.sz) λw1 hb=>?_;go_wp2_with fail
  refine(Lw ⟨(EE Ah).toArray⟩ _<|by unfold maxLen;rw[show(ByteArray.mk (EE Ah).toArray).size=(EE Ah).length from by simp[ByteArray.size]];omega).mono ?_;rintro e w2 ⟨rfl,rfl⟩;go_wp2_with fail;go_ret;exact⟨oq,(n9).trans<|hb.mono oq⟩
 have b3:(kind==3)=false:=by simp[k3]
 by_cases k2:kind=2
 focus
  subst k2;have e:DK 2 num Ah s ref=QL (IntKind.u64.wrap num):=by unfold DK;rw[C3 oo,C3 oo,DD rfl]
  rw[e];have a:=CW num;go_enter func154,ntmps154
 rotate_left
 focus
  have b2:(kind==2)=false:=by simp[k2]
  have e:DK kind num Ah s ref=QL (IntKind.u64.wrap<|IntKind.u64.wrap (kind*1099511627776+IntKind.u64.wrap num)+IntKind.u64.wrap ref):=by unfold DK;rw[C3 k4,C3 k3,C3 k2]
  rw[e];go_enter func154,ntmps154;have a:=CW<|IntKind.u64.wrap (kind*1099511627776+IntKind.u64.wrap num)+IntKind.u64.wrap ref
 all_goals
  go_wp2_with (go_at_call 167;refine(mV _ _ a.1 a.2).mono ?_;rintro e w1 ⟨rfl,rfl⟩)
  go_ret;exact⟨rfl,n9⟩
def WO num{Ah}{s}ref w(h:HK kind Ah s):
  C9 151 #[V kind num Ah s ref] w (R9 (.int .u64<|DK kind num Ah s ref) w):=by
 have b:=h.yZ;have DM:=h.yY;by_cases k4:kind=4
 .subst k4;have e:DK 4 num Ah s ref=SN s.data.toList:=by unfold DK;rw[DD rfl]
  rw[e];go_enter func151,ntmps151;go_wp2_with (go_at_call 162;refine(Nq s _ h.str).mono ?_;rintro e w1 ⟨rfl,rfl⟩);go_ret;exact⟨rfl,n9⟩
 have b4:(kind==4)=false:=by simp[k4]
 by_cases k3:kind=3
 .subst k3;obtain⟨f1,f2,f3⟩:=h.Ah rfl;have e:DK 3 num Ah s ref=SN (EE Ah):=by unfold DK;rw[C3 oo,DD rfl]
  rw[e];have hl:=Un f2 f3;go_enter func151,ntmps151;go_wp2_with fail;refine m9 (aS f1 f2 f3 _) λw1 hb=>?_;go_wp2_with fail
  refine(Nq ⟨(EE Ah).toArray⟩ _<|by unfold maxLen;rw[show(ByteArray.mk (EE Ah).toArray).size=(EE Ah).length from by simp[ByteArray.size]];omega).mono ?_;rintro e w2 ⟨rfl,rfl⟩;go_wp2_with fail;go_ret;exact⟨oq,(n9).trans<|hb.mono oq⟩
 have b3:(kind==3)=false:=by simp[k3]
 by_cases k2:kind=2
 focus
  subst k2;have e:DK 2 num Ah s ref=QL (IntKind.u64.wrap num):=by unfold DK;rw[C3 oo,C3 oo,DD rfl]
  rw[e];have a:=CW num;go_enter func151,ntmps151
 rotate_left
 focus
  have b2:(kind==2)=false:=by simp[k2]
  have e:DK kind num Ah s ref=QL (IntKind.u64.wrap<|IntKind.u64.wrap (kind*1099511627776+IntKind.u64.wrap num)+IntKind.u64.wrap ref):=by unfold DK;rw[C3 k4,C3 k3,C3 k2]
  rw[e];go_enter func151,ntmps151;have a:=CW<|IntKind.u64.wrap (kind*1099511627776+IntKind.u64.wrap num)+IntKind.u64.wrap ref
 all_goals
  go_wp2_with (go_at_call 164;refine(ZR _ _ a.1 a.2).mono ?_;rintro e w1 ⟨rfl,rfl⟩)
  go_ret;exact⟨rfl,n9⟩
def eN(h:fz x=true):Ce x=true:=by
 have h':(Ieee.double.order x 0==some .eq)=true:=h;rcases Fl.CB x with⟨s,m,i,a,hi,b,d,_⟩|⟨s,a⟩|⟨s,t,a⟩
 .rw[Fl.BR a Fl.CD hi om,Fl.EA]at h';have c:Fl.sc s m i=0:=by simpa using h'
  have hu:=Fl.M8;have g:VR x=true:=by
   show(Ieee.double.order x 14114281232179134464==some .gt||Ieee.double.order x 14114281232179134464==some .eq)=true;rw[Fl.BR a Fl.Gq hi om,Fl.P0,Fl.KK,c];grind [fz]
  have l:TP x=true:=by
   show(Ieee.double.order x 4890909195324358656==some .lt)=true;rw[Fl.BR a Fl.Hm hi om,Fl.PY,Fl.Jg];grind [fz]
  have hn:C1 x=false:=by
   show(!(Ieee.double.order x x==some .eq))=false;rw[Fl.BR a a hi hi];simp
  grind [Ce,My,KI]
 .unfold Ieee.Format.order at h';rw[a,Fl.CD]at h';cases s<;>simp[Ieee.Datum.order]at h'
 unfold Ieee.Format.order at h';rw[a]at h';simp[Ieee.Datum.order]at h'
def XH{num}{Ah}{s}{ref}(h:Bf kind num Ah s ref=true):0<=kind/\kind<=8:=by
 by_cases k0:kind=0;all_goals grind [Bf]
def Jl k n f s r:0<=DK k n f s r/\DK k n f s r<18446744073709551616:=by
 rw[DK];split
 .exact Rk _
 split
 .exact Rk _
 split
 .exact PG _
 exact PG _
def hN(v:Vl):Nat:=(DK v.kind v.num v.Ah v.str v.ref).toNat
def Yj v:((hN v):Int)=DK v.kind v.num v.Ah v.str v.ref:=by
 have:=Jl v.kind v.num v.Ah v.str v.ref;rw[hN];omega
structure Wf (v:Vl):Prop where
 Ah:v.Ah<18446744073709551616
 str:v.str.size<=maxLen
def eO{v}(h:Ch v=true)(a:Wf v):HK v.kind v.Ah v.str:=by
 unfold Ch Vl.ok at h;simp only[AaC,ne_eq,Bool.not_eq_true',Bool.and_eq_false_iff,Bool.or_eq_false_iff,beq_eq_false_iff_ne]at h;obtain⟨⟨b,c⟩,h3⟩:=h;have hk:=XH b;refine⟨a.str,hk.1,hk.2,λe=>?_⟩;rcases h3 with h3|h3
 .exact absurd e h3
 refine⟨a.Ah,h3.1,?_⟩;rw[Bool.eq_false_iff];intro hz;rw[eN hz]at h3;exact absurd h3.2 oo
def xR{v}(h:Ch v=true)(a:Wf v):YZ v<|hN v:=
 ⟨by have:=Jl v.kind v.num v.Ah v.str v.ref;have:=Yj v;omega,λw=>by rw[Yj];exact WO v.num v.ref w<|eO h a⟩
def vE{v}(h:Ch v=true)(a:Wf v):Qt BZ v<|hN v:=
 ⟨by have:=Jl v.kind v.num v.Ah v.str v.ref;have:=Yj v;omega,λw b=>by rw[Yj];exact Ut v.num v.ref (eO h a) b⟩
def Bb:EJ BZ:=λw w' a hb=>a.below hb a.sz
def M9(d:Dc):Prop:=∀i,i<d.n->Wf (d.L i).key/\Wf (d.L i).val
def hD(d:Dc)(i:Nat):Nat:=hN (d.L i).key
def tG lc{ia:Option Addr}ic{xa:Option Addr}xc{d}{w}(hA:FJ w la ia xa d)(a:Small d)(b:M9 d):
  C9 46 #[Dv la lc ia ic xa xc d] w (R9 (J<|BI d<|hD d) w):=
 Xv lc ic xc (hD d) hA a λi hi hk=>xR hk (b i hi).1
def sD lc{ia:Option Addr}ic{xa:Option Addr}xc{d}{w}(a:BZ w)(hA:FJ w la ia xa d)(b:Small d)(c:M9 d):
  C9 235 #[Dv la lc ia ic xa xc d] w (R9 (J<|BI d<|hD d) w):=
 Pg Bb lc ic xc (hD d) a hA b λi hi hk=>vE hk (c i hi).1
section
open Go.ChangeShapes Go.WideShapes Go.ChangeAt Go.RowKit
theorem own:ownKnob prog.godebug=none:=ou
def laidOut:laidOutB prog=true:=ou
def Nr:List (String×DataW Unit):=[("math/bits.deBruijn32tab",Rows.laid_math_bits_deBruijn32tab),("math/bits.deBruijn64tab",Rows.laid_math_bits_deBruijn64tab),("internal/strconv.uint64pow10",Rows.laid_internal_strconv_uint64pow10)]
def jW:List Nat:=[0,1,28,2,29,14,24,3,30,22,20,15,25,17,4,8,31,27,13,23,21,19,16,7,26,12,18,6,11,5,10,9]
def Gs(cs:Array Value):Obj->Obj
 |.cells _ t frozen=>.cells cs t frozen
 |o=>o
def VI(w:Y):World:=
 {w with heap:=((w.heap.modify 4 (Gs (jW.map λn:Nat=>Value.int .u8 (n:Int)).toArray)).modify 2 (Gs (Lib.deBruijn64tab.map λn:Nat=>Value.int .u8 (n:Int)).toArray)).modify 3 (Gs (Lib.pow10Tab.map λn=>Value.int .u64 n).toArray)}
def wE(h:laidMetH prog Nr W):Lib.TabIs prog W "math/bits.deBruijn64tab" .u8 (Lib.deBruijn64tab.map λn:Nat=>(n:Int)):=by
 have h1:=laidMetH.filter (λx=>x.1== "math/bits.deBruijn64tab") h;have e:(Nr.filter λx=>x.1== "math/bits.deBruijn64tab")=[("math/bits.deBruijn64tab",Lib.tabData .u8 (Lib.deBruijn64tab.map λn:Nat=>(n:Int)))]:=ou;rw[e]at h1;exact Lib.tabIs_of_head (rest:=[]) (g:=2) ou (t:=275) ou underlying275 underlying5 ou ou h1
def pU(h:laidMetH prog Nr W):Lib.TabIs prog W "internal/strconv.uint64pow10" .u64 Lib.pow10Tab:=by
 have h1:=laidMetH.filter (λx=>x.1== "internal/strconv.uint64pow10") h;have e:(Nr.filter λx=>x.1== "internal/strconv.uint64pow10")=[("internal/strconv.uint64pow10",Lib.tabData .u64 Lib.pow10Tab)]:=ou;rw[e]at h1;exact Lib.tabIs_of_head (rest:=[]) (g:=3) ou (t:=282) ou underlying282 underlying48 ou ou h1
def yW:prog.globalNamed "math/bits.deBruijn64tab" =some 2:=ou
def g10:prog.globalNamed "internal/strconv.uint64pow10" =some 3:=ou
def zL:prog.globalNamed "math/bits.deBruijn32tab" =some 4:=ou
def wD(h:laidMetH prog Nr W):Lib.TabIs prog W "math/bits.deBruijn32tab" .u8 (jW.map λn:Nat=>(n:Int)):=by
 have h1:=laidMetH.filter (λx=>x.1== "math/bits.deBruijn32tab") h;have e:(Nr.filter λx=>x.1== "math/bits.deBruijn32tab")=[("math/bits.deBruijn32tab",Lib.tabData .u8 (jW.map λn:Nat=>(n:Int)))]:=ou;rw[e]at h1;exact Lib.tabIs_of_head (rest:=[]) (g:=4) ou (t:=287) ou underlying287 underlying5 ou ou h1
def oL(h:laidMetH prog Nr W):BZ W:=by
 have a:=wE h;have b:=wD h;refine⟨?_,pU h,?_⟩
 .intro j hj;have:=a.cell yW j (by simpa using hj);rw[this];simp[hj]
 have c1:=I9 _ _<|b.cell zL 0 oo;have c2:=I9 _ _<|a.cell yW 0 oo;have c3:=I9 _ _<|(pU h).cell g10 0 oo;simp only at c1 c2 c3;omega
end
section
open Go.ChangeShapes Go.WideShapes Go.ChangeAt Go.RowKit Go.Deep
section
variable {H:Type} {enc:TypeId×Value->H} {P:Program} {w:Y} {base:Nat} {spare:Nat->Bool} {held:Bool}
end
end
def DR(n:Nat):Prop:=n≠0/\n<=200
def Bw(f:Nat->Br):Prop:=(f 0).parent=-1/\(f 0).key.toList=[]/\(f 0).count=0
def Y0(f:Nat->Br)(i:Nat):Prop:=0<=(f i).parent/\(f i).parent<i/\(f i).count=(f (f i).parent.toNat).count+1/\(f i).count<=12/\(f i).key.size<=4000
def Bq(n:Nat)(f:Nat->Br):Prop:=∀i,1<=i->i<n->Y0 f i
def Twin(f:Nat->Br)(k i:Nat):Prop:=(f k).parent=(f i).parent/\(f k).key.toList=(f i).key.toList
def F8(n:Nat)(f:Nat->Br):Prop:=∀i k,1<=k->k<i->i<n->¬Twin f k i
def Qr(f:Nat->Br)(i:Nat):Nat->Int
 |0=>(f i).parent
 |t+1=>(f (Qr f i t).toNat).parent
def Je(n:Nat)(f:Nat->Br):Prop:=∀i t,1<=i->i<n->(∀s,s<=t->0<Qr f i s)->(f (Qr f i t).toNat).key.toList≠(f i).key.toList
open Classical in
noncomputable def Ar(n:Nat)(f:Nat->Br):Int:=
 if DR n then if Bw f then if Bq n f then if F8 n f then if Je n f then 0 else 5 else 4 else 3 else 2 else 1
def Rl(h:¬DR n):Ar n f=1:=C3 h
def Rm(h1:DR n)(h:¬Bw f):Ar n f=2:=by unfold Ar;rw[DD h1,C3 h]
def F1(h1:DR n)(h2:Bw f)(h:¬Bq n f):Ar n f=3:=by unfold Ar;rw[DD h1,DD h2,C3 h]
def Rn(h1:DR n)(h2:Bw f)(h3:Bq n f)(h:¬F8 n f):Ar n f=4:=by unfold Ar;rw[DD h1,DD h2,DD h3,C3 h]
def Ro(h1:DR n)(h2:Bw f)(h3:Bq n f)(h4:F8 n f)(h:¬Je n f):Ar n f=5:=by unfold Ar;rw[DD h1,DD h2,DD h3,DD h4,C3 h]
def JY(h1:DR n)(h2:Bw f)(h3:Bq n f)(h4:F8 n f)(h:Je n f):Ar n f=0:=by unfold Ar;rw[DD h1,DD h2,DD h3,DD h4,DD h]
def below_drewN{B}{a:Y}(h:Below B a w)m:Below B a<|w.drewN m:=⟨h.os,h.tape,h.output,h.size,h.block⟩
theorem Bh(h2:Bw f)(h:∀j,1<=j->j<k->Y0 f j):∀j,j<k->0<=(f j).count/\(f j).count<=12:=by
 intro j
 induction j using Nat.strongRecOn with
 |ind j ih=>
  intro hj;by_cases e:j=0
  .subst e;have:=h2.2.2;omega
  obtain⟨a,b,c,d,_⟩:=h j om hj;have:=(ih (f j).parent.toNat om om).1;omega
def VD(h3:Bq n f){i}(h1:1<=i)(hi:i<n):∀t,(∀s,s<t->0<Qr f i s)->0<=Qr f i t/\Qr f i t<i:=by
 intro t
 induction t with
 |zero=>intro _;obtain⟨a,b,_⟩:=h3 i h1 hi;exact⟨a,b⟩
 |succ t ih=>
  intro h;obtain⟨_,hb⟩:=ih λs hs=>h s om;have c:=h t om;obtain⟨a,b,_⟩:=h3 (Qr f i t).toNat om om;exact⟨a,by show(f (Qr f i t).toNat).parent<i;omega⟩
def Tt cap{f}{w}(hA:BQ w b n f)(hn:n<=1048576):
  C9 18 #[.agg #[S9 b n cap]] w (R9 (J<|Ar n f) w):=by
 have hl:=hA.lt;have x:=O hA;have D:0<n->w.cell? (G b 0)=some (J (f 0).parent):=λh=>by simpa using (hA.cells h).1
 have E:0<n->w.cell? (G b 1)=some (.string (f 0).key):=λh=>by simpa using (hA.cells h).2.1
 have F:0<n->w.cell? (G b 2)=some (J (f 0).count):=λh=>by simpa using (hA.cells h).2.2
 clear hA;by_cases h1:DR n
 case neg=>
  have HR:=O<|Rl (f:=f) h1;by_cases h0:n=0
  focus
   subst h0
  rotate_left
  focus
   have h2:200<n:=by unfold DR at h1;omega
  all_goals
   clear h1 D E F;go_enter func18,ntmps18;go_wp2;go_ret;exact⟨ql HR,n9⟩
 have H:0<n:=by unfold DR at h1;omega
 rcases D H,E H,F H with⟨c0,c1,c2⟩;have h2:((n:Int)==0)=false:=by grind
 have h3:(n:Int)<=200:=by unfold DR at h1;omega
 clear D E F;go_enter func18,ntmps18;go_wp2;all_goals try(go_ret;refine⟨?_,(n9).alloc oq _⟩;rw[Rm h1 (by simp_all [Bw])];rfl)
 have A:Bw f:=by simp_all [Bw]
 clear c0 c1 c2;go_loopw [5] (λi wr=>∃k:Nat,1<=k/\k<=n/\i=J k/\B9 w wr/\wr.cell? (y w 0)=some (S9 b n cap)/\w.heap.size<wr.heap.size/\∀j,1<=j->j<k->Y0 f j) λi _=>n-(intOf i).toNat
 .exact⟨1,om,om,rfl,(n9).alloc oq _,oe,oe,λj h1 h2=>om⟩
 obtain⟨k,q,hk,rfl,hb,a,L,o⟩:=hrel;have c0:k<n->wr.cell? (G b<|k*3)=some (J (f k).parent):=λh=>((x.below hb hl).cells h).1;have c1:k<n->wr.cell? (G b<|k*3+1)=some (.string (f k).key):=λh=>((x.below hb hl).cells h).2.1;have c2:k<n->wr.cell? (G b<|k*3+2)=some (J (f k).count):=λh=>((x.below hb hl).cells h).2.2;have d:=O hb;have c:=O o;clear hb o;go_wp2
 .have g:k<n:=ol;by_cases hA:(f k).parent<0
  .have r:=O<|F1 h1 A λh=>oT (h k q g).1;have I:decide ((f k).parent<0)=true:=by simp_all
   go_quiet (fail);go_wp2;go_ret;exact⟨ql r,below_drewN (d.alloc om _) _⟩
  have I:decide ((f k).parent<0)=false:=by simp_all
  by_cases hB:(k:Int)<=(f k).parent
  .have r:=O<|F1 h1 A λh=>oT (h k q g).2.1;have B:decide ((k:Int)<=(f k).parent)=true:=by simp_all
   go_quiet (fail);go_wp2;go_ret;exact⟨ql r,below_drewN (d.alloc om _) _⟩
  have B:decide ((k:Int)<=(f k).parent)=false:=by simp_all
  obtain⟨p,hp⟩:∃p:Nat,(f k).parent=p:=⟨(f k).parent.toNat,om⟩;have U:p<k:=om;have C:p<n:=om;obtain⟨V,ad⟩:=Bh A c p U;have e2:=((x.below d hl).cells C).2.2;rw[hp]at hA hB I B c0 ⊢;have v:=O hp;have ae:=A0 hl d.size;clear hp;have hw:IntKind.i64.wrap ((f p).count+1)=(f p).count+1:=oj;by_cases M:(f k).count=(f p).count+1
  case neg=>
   have r:=O<|F1 h1 A (λh=>by have:=(h k q g).2.2.1;rw[z v]at this;exact M this);go_quiet (fail);go_wp2;go_ret;exact⟨ql r,below_drewN (d.alloc om _) _⟩
  have af:((f k).count !=(f p).count+1)=false:=by simp_all
  by_cases hD:12<(f k).count
  .have r:=O<|F1 h1 A λh=>oT (h k q g).2.2.2.1;clear M;go_quiet (fail);go_wp2;go_ret;exact⟨ql r,below_drewN (d.alloc om _) _⟩
  by_cases hE:(4000:Int)<(f k).key.size
  .have r:=O<|F1 h1 A λh=>oT (h k q g).2.2.2.2;clear M;go_quiet (fail);go_wp2;go_ret;exact⟨ql r,below_drewN (d.alloc om _) _⟩
  have HO:Hid<|Y0 f k:=O ⟨by rw[z v];omega,by rw[z v];omega,by rw[z v];exact M,om,om⟩;clear M;go_quiet (fail);go_wp2;go_roundw
  .refine⟨k+1,om,om,oq,below_drewN (d.alloc om _) _,by simp[go_sem,a,L],ot,λj h1 h2=>?_⟩;by_cases e:j=k
   .rw[e];exact HO
   exact c j h1 om
  exact ow
 have K:Bq n f:=λi h1 h2=>c i h1 om;clear c c0 c1 c2;go_loopw [7] (λi wr=>∃k:Nat,1<=k/\k<=n/\i=J k/\B9 w wr/\wr.cell? (y w 0)=some (S9 b n cap)/\∀i j,1<=j->j<i->i<k->¬Twin f j i) λi _=>n-(intOf i).toNat
 .exact⟨1,om,om,rfl,d,a,λi j h1 h2 h3=>om⟩
 clear d a L q hk;obtain⟨k2,q,hk,rfl,hb,a,o⟩:=hrel;have d:=O hb;have c:=O o;clear hb o;go_wp2
 .have g:k2<n:=ol;go_loopw [8] (λi wr=>∃j:Nat,1<=j/\j<=k2/\i=J j/\B9 w wr/\wr.cell? (y w 0)=some (S9 b n cap)/\∀l,1<=l->l<j->¬Twin f l k2) λi _=>k2-(intOf i).toNat
  .exact⟨1,om,om,rfl,d,a,λl h1 h2=>om⟩
  clear d a;obtain⟨j,W,hj,rfl,hb,a,Ko⟩:=hrel;have d:=O hb;have u:=O Ko;clear hb Ko;go_wp2
  .have P:j<k2:=ol;obtain⟨a0,a1,_⟩:=(x.below d hl).cells (show j<n by omega);obtain⟨b0,b1,_⟩:=(x.below d hl).cells g;have ag:j<n:=om;by_cases Q:(f j).parent=(f k2).parent
   focus
    have I:((f j).parent==(f k2).parent)=true:=by simp_all
    by_cases hK:(f j).key.toList=(f k2).key.toList
    .have B:((f j).key.toList==(f k2).key.toList)=true:=by simp_all
     have r:=O<|Rn h1 A K λh=>h k2 j W P g ⟨Q,hK⟩;clear Q hK;go_quiet (fail);go_wp2;go_ret;exact⟨ql r,below_drewN d _⟩
    have B:((f j).key.toList==(f k2).key.toList)=false:=by simp_all
    have HT:Hid<|¬Twin f j k2:=O λh=>hK h.2;clear Q hK
   rotate_left
   focus
    have I:((f j).parent==(f k2).parent)=false:=by simp_all
    have HT:Hid<|¬Twin f j k2:=O λh=>Q h.1;clear Q
   all_goals
    go_quiet (fail);go_wp2;go_roundw
    .refine⟨j+1,om,om,oq,below_drewN d _,by simp_all,λl h1 h2=>?_⟩;by_cases e:l=j
     .rw[e];exact HT
     exact u l h1 om
    exact ow
  go_roundw
  case rel=>
   refine⟨k2+1,om,om,oq,d,a,λi l h1 h2 h3=>?_⟩;by_cases e:i=k2
   .rw[e]at h2 ⊢;exact u l h1 om
   exact c i l h1 h2 om
  case measure=>exact ow
 have H4:F8 n f:=λi j h1 h2 h3=>c i j h1 h2 om;clear c;go_loopw [9] (λi wr=>∃k:Nat,1<=k/\k<=n/\i=J k/\B9 w wr/\wr.cell? (y w 0)=some (S9 b n cap)/\∀i t,1<=i->i<k->(∀s,s<=t->0<Qr f i s)->(f (Qr f i t).toNat).key.toList≠(f i).key.toList) λi _=>n-(intOf i).toNat
 .exact⟨1,om,om,rfl,d,a,λi t h1 h2 h3=>om⟩
 clear d a q hk;obtain⟨k3,q,hk,rfl,hb,a,o⟩:=hrel;have a0:k3<n->wr.cell? (G b<|k3*3)=some (J (f k3).parent):=λh=>((x.below hb hl).cells h).1;have d:=O hb;have c:=O o;clear hb o;go_wp2
 .have g:k3<n:=ol;clear a0;go_loopw [10] (λm wr=>∃t:Nat,m=J (Qr f k3 t)/\B9 w wr/\wr.cell? (y w 0)=some (S9 b n cap)/\∀s,s<t->0<Qr f k3 s/\(f (Qr f k3 s).toNat).key.toList≠(f k3).key.toList) λm _=>(intOf m).toNat
  .exact⟨0,rfl,d,a,λs h=>om⟩
  clear d a;obtain⟨t,rfl,hb,a,Ko⟩:=hrel;obtain⟨X,Z⟩:=VD K q g t λs hs=>(Ko s hs).1;obtain⟨p,hp⟩:∃p:Nat,Qr f k3 t=p:=⟨(Qr f k3 t).toNat,om⟩;have C:p<n:=om;rw[hp];have v:=O hp;clear hp X Z;rcases (x.below hb hl).cells C,(x.below hb hl).cells g,O hb,O Ko with⟨⟨a0,a1,_⟩,⟨_,b1,_⟩,d,u⟩;clear hb Ko;go_wp2
  .have V:0<p:=ol;have R:∀s,s<=t->0<Qr f k3 s:=λs hs=>by
    by_cases e:s=t
    .rw[e,z v];omega
    exact(u s om).1
   have S:=O R;clear R;by_cases hK:(f p).key.toList=(f k3).key.toList
   .have I:((f p).key.toList==(f k3).key.toList)=true:=by simp_all
    have r:=O<|Ro h1 A K H4 λh=>h k3 t q g S (by rw[z v];exact hK);clear hK;go_quiet (fail);go_wp2;go_ret;exact⟨ql r,below_drewN d _⟩
   have I:((f p).key.toList==(f k3).key.toList)=false:=by simp_all
   have HK:=O hK;have T:Qr f k3 (t+1)=(f p).parent:=by show(f (Qr f k3 t).toNat).parent=_;rw[z v];rfl
   have HX:=O T;clear hK T;go_quiet (fail);go_wp2;go_roundw
   .refine⟨t+1,ql HX,below_drewN d _,by simp_all,λs hs=>?_⟩;by_cases e:s=t
    .rw[e,z v];exact⟨om,HK⟩
    exact u s om
   have:=(VD K q g (t+1) λs hs=>S s om).1;obtain⟨_,h5,_⟩:=z K p om C;exact ow
  go_roundw
  .refine⟨k3+1,om,om,oq,d,a,λi s h1 h2 h3=>?_⟩;by_cases e:i=k3
   .rw[e]at h3 ⊢;by_cases hs:s<t
    .exact(u s hs).2
    have:=h3 t om;rw[z v]at this;omega
   exact c i s h1 om h3
  exact ow
 have H5:Je n f:=λi t h1 h2 h3=>c i t h1 om h3;have r:=O<|JY h1 A K H4 H5;go_ret;exact⟨ql r,d⟩
def Ey(f:Nat->Br)(i:Nat):Nat->Nat
 |0=>i
 |t+1=>(f<|Ey f i t).parent.toNat
def nf(f:Nat->Br)(i:Nat):Nat:=(f i).count.toNat
def DU(f:Nat->Br)(i j:Nat):ByteArray:=(f<|Ey f i<|nf f i-1-j).key
theorem F0(h2:Bw f)(h3:Bq n f){i}(hi:i<n)(e:0<i):1<=(f i).count/\(f i).count<=12:=by
 obtain⟨a,b,c,d,_⟩:=h3 i e hi;have:=(Bh h2 (λj h1 h2=>h3 j h1 h2) (f i).parent.toNat om).1;omega
theorem Fg(h2:Bw f)(h3:Bq n f){i}(hi:i<n):∀t,t<=nf f i->Ey f i t<n/\(f<|Ey f i t).count=nf f i-t:=by
 intro t
 induction t with
 |zero=>
  intro _;have:=(Bh h2 (λj h1 h2=>h3 j h1 h2) i hi).1;exact⟨hi,by show(f i).count=_;unfold nf;omega⟩
 |succ t ih=>
  intro h;obtain⟨d,hc⟩:=ih om;have g:0<Ey f i t:=by
   rcases Aas (Ey f i t)with e|e
   .rw[e,h2.2.2]at hc;omega
   exact e
  obtain⟨a,b,c,_⟩:=h3 _ g d;exact⟨by show(f<|Ey f i t).parent.toNat<n;omega,by show(f (f<|Ey f i t).parent.toNat).count=_;omega⟩
def Ys:(prog.info? 9).map (λi=>(i.zero,i.size,i.bytes))=some (some<|E9,1,16):=ou
def pE(w:Y)(b n:Nat)(g:Nat->ByteArray):Prop:=w.rowIs b 9 n λj=>.string<|g j
def Iq cap i{f}{w}(hA:BQ w b n f)(h1:DR n)(h2:Bw f)(h3:Bq n f)(hi:i<n):
  C9 94 #[.agg #[S9 b n cap],J i] w λe w'=>(∃m,e=.returned (S9 m (nf f i)<|nf f i)/\w.heap.size<=m/\pE w' m (nf f i) (DU f i))/\B9 w w':=by
 have hl:=hA.lt;obtain⟨H,I⟩:=Bh h2 (λj h1 h2=>h3 j h1 h2) i hi;obtain⟨c,hc⟩:∃c:Nat,(f i).count=c:=⟨(f i).count.toNat,om⟩;have A:nf f i=c:=by unfold nf;omega
 have E:c<=12:=om;have K:=run_make_row' 160 9 E9 16 underlying160 Ys rfl .i64 .i64 c om om;obtain⟨a0,a1,a2⟩:=hA.cells hi;rw[hc]at a2;have k:=O A;go_enter func94,ntmps94;go_wp2;go_loopw [5,7] (λq s wr=>∃(t:Nat) (g:Nat->Value),t<=c/\q=J ((c:Int)-t)/\s=J (Ey f i t)/\B9 w wr/\wr.cell? (y w 0)=some (S9 b n cap)/\wr.rowIs (w.heap.size+1) 9 c g/\∀j,c-t<=j->j<c->g j=.string (DU f i j)) λq s _=>(intOf s).toNat
 .exact⟨0,λ_=>E9,om,oq,rfl,(n9).alloc oq _,oe,by simpa using World.rowIs_made (w.alloc<|.cells #[S9 b n cap] 25) E9 c 9,λj h1 h2=>om⟩
 obtain⟨t,g,L,rfl,rfl,hb,l,a,h⟩:=hrel;obtain⟨d,o⟩:=Fg h2 h3 hi t (by rw[z k];exact L);rw[z k]at o;obtain⟨p,hp⟩:=qd<|Ey f i t;rw[hp]at d o ⊢;have F:=O hp;obtain⟨a0,a1,a2⟩:=(hA.below hb hl).cells d;by_cases B:p=0
 .subst B;have u:c=t:=oT h2.2.2;subst u;rcases O hb,O a,O h with⟨M,P,v⟩;go_wp2;go_ret;refine⟨⟨w.heap.size+1,ql k,om,?_⟩,M⟩;rw[z k];exact P.congr λj hj=>v j om hj
 have x:0<p:=om;obtain⟨C,Q,_⟩:=h3 p x d;have u:t<c:=oT (F0 h2 h3 d x).1;obtain⟨r,S⟩:∃r:Nat,r+1=c-t:=⟨c-t-1,om⟩;have er:(c:Int)-t=(r:Int)+1:=om;rw[er];have D:r<c:=om;have d0:=a.cell D;have d1:=a.frozen r;have R:Hid<|DU f i r=(f p).key:=O (by unfold DU;rw[z k,show c-1-r=t by omega,z F]);have T:=O er;go_wp2;go_roundw
 .refine⟨t+1,_,om,by congr 1;omega,?_,(z<|O hb).setCell (by show _<=w.heap.size+1;omega) _,by simpa[go_sem]using l,(z<|O a).set r _,λj h1 h2=>?_⟩
  .show Value.int .i64 (f p).parent=J ((f<|Ey f i t).parent.toNat:Int);rw[z F,Int.toNat_of_nonneg C]
  by_cases e:j=r
  .subst e;simp[z R]
  simp only[e,Aad];exact z (O h) j om h2
 exact ow
def D8 b n cap i w:
  C9 47 #[.agg #[S9 b n cap],J i] w (R9 (.bool<|decide (0<=i)&&decide (i<n)) w):=by
 go_enter func47,ntmps47;go_wp2;all_goals(go_ret;refine⟨?_,n9⟩;first|(simp_all;done)|(simp_all;omega))
theorem Av(h:Ar n f=0):DR n/\Bw f/\Bq n f/\F8 n f/\Je n f:=by
 grind [Ar,Bw,F8]
section
open Go.Maps Keyed
def tM(v:V9):Option<|DataW Value×List MemPlace:=some (.held v,[])
def Dn(P:Program)(K:TypeId)(w:Y)(m n:Nat)(g:Value->Value):Prop:=
 ∃D,w.ownsMap P K tM m n D/\∀key a,keyOf P K key=some a->D.atKey a (.held<|.pointer none)=.held (g key)
def Dn.made P K(w:Y):Dn P K (w.alloc<|.map #[] 0) w.heap.size 0 λ_=>.pointer none:=
 ⟨_,World.ownsMap_made w P K tM,λkey a h=>rfl⟩
def Dn.isMap{g}(h:Dn P K w m n g):∃es c,w.heap[m]?=some (.map es c):=by
 obtain⟨D,⟨es,c,hb,_⟩,_⟩:=h;exact⟨es,c,hb⟩
def Dn.block{g}(h:Dn P K w m n g)(e:w'.heap[m]?=w.heap[m]?):Dn P K w' m n g:=by
 obtain⟨D,⟨es,c,hb,F,hs,hD⟩,hl⟩:=h;exact⟨D,⟨es,c,e.trans hb,F,hs,hD⟩,hl⟩
def Dn.mono{n'}{g}(h:Dn P K w m n g)(hn:n<=n'):Dn P K w m n' g:=by
 obtain⟨D,a,hl⟩:=h;exact⟨D,a.mono hn,hl⟩
def Dn.look{e}{g}(h:Dn P K w m n g)(L:Keyed P K)(d:P.underlying t=some (.map K e))(hz:(zeroValue e).run P w=.ok (.pointer none) w){key:V9}{c}(hk:keyOf P K key=some c):
  (Instr.lookup t (.map<|some m) key false).run P w=.ok (g key) w:=by
 obtain⟨D,f,hl⟩:=h;obtain⟨v,ps,a,b⟩:=f.lookup L d hz rfl hk;rw[hl key c hk]at b;unfold tM at b;simp at b;rw[a,b.1]
open Classical in
def Dn.put{e:TypeId}{g:Value->Value}(h:Dn P K w m n g)(L:Keyed P K)(l:P.underlying t=some (.map K e))(hn:n<maxLen){key:V9}(val:V9){i:Lit}(hk:keyOf P K key=some i):
  ∃w',(Instr.mapUpdate t (.map<|some m) key val).run P w=.ok () w'/\Dn P K w' m (n+1) (λk=>if k=key then val else g k)/\w.grownBy w' (some m):=by
 obtain⟨D,j,hl⟩:=h;obtain⟨w',b,f,o⟩:=j.update L l hn hk (d:=.held val) (ps:=[]) rfl;refine⟨w',b,⟨_,f,λk' c a=>?_⟩,o⟩;by_cases e:k'=key
 .subst e;have:c=i:=by rw[hk]at a;exact(Aai a).symm
  subst this;show _=DataW.held (if k'=k' then val else g k');rw[DD rfl];exact Maps.atKey_put_same j.isMap (L.key hk) _ _
 show _=DataW.held (if k'=key then val else g k');rw[C3 e,Maps.atKey_put_other (λe2=>e (L.inj a (by rw[e2];exact hk)))];exact hl k' c a
def B8(i:Nat)(s:Br)(par:T9)(m:Option Nat):Nat->Value
 |0=>J i
 |1=>J s.parent
 |2=>.string s.key
 |3=>J s.count
 |4=>.pointer par
 |_=>.map m
abbrev KG(s:Br):Value:=Sh s.parent s.key s.count
abbrev AJ(f:Nat->Br)(i:Nat):Nat:=(f i).parent.toNat
def Sj{a b}(h:KG a=KG b):a=b:=by
 cases a;cases b;simp at h;simp[h]
def Kids(f:Nat->Br)(k:Nat)(B Z:Nat->Nat)(i:Nat)(g:Value->Value):Prop:=
 ∀v,(∃j,0<j/\j<k/\Z j=j/\Z (AJ f j)=i/\v=KG (f j)/\g v=Q9 (B j))\/
  (g v=.pointer none/\∀j,0<j->j<k->Z j=j->Z (AJ f j)=i->KG (f j)≠v)
def Dm(f:Nat->Br)(B:Nat->Nat)(i:Nat):Option Addr:=if i=0 then none else some (G (B<|AJ f i) 0)
structure Nodes (P:Program) (K a:TypeId) (w:Y) (f:Nat->Br) (b0 k:Nat) (B N:Nat->Nat) (M:Nat->Option Nat):Prop where
 pos:0<k
 n0:N 0=0
 le:∀i,i<k->N i<=i
 own:∀i,i<k->N (N i)=N i
 same:∀i,i<k->f (N i)=f i
 one:∀i j,i<k->j<k->f i=f j->N i=N j
 BH:∀i,i<k->B (N i)=B i
 base:∀i,i<k->b0<=B i
 node:∀i,i<k->N i=i->w.rowIs (B i) a 6 (B8 i (f i) (Dm f B i)<|M i)
 apart:∀i j,i<k->j<k->N i=i->N j=j->B i=B j->i=j
 mbase:∀i m,i<k->N i=i->M i=some m->b0<=m
 MJ:∀i j m,i<k->j<k->N i=i->N j=j->M i=some m->M j=some m->i=j
 bare:∀i,i<k->N i=i->M i=none->∀j,0<j->j<k->N j=j->N (AJ f j)≠i
 kids:∀i m,i<k->N i=i->M i=some m->∃g,Dn P K w m k g/\Kids f k B N i g
def Ej(a:TypeId)(w:Y)(b:Nat):Prop:=(∃c,w.heap[b]?=some (.cells c a (0,0)))\/∃es c,w.heap[b]?=some (.map es c)
def Nodes.keep(h:Nodes P K a w f b0 k B Z M)(hk:∀b,Ej a w b->w'.heap[b]?=w.heap[b]?):Nodes P K a w' f b0 k B Z M:=
 {h with
  node:=λi hi hn=>(h.node i hi hn).of_block (hk _<|by obtain⟨c,hb,_⟩:=h.node i hi hn;exact .inl ⟨c,hb⟩)
  kids:=λi m hi hn e=>by
   obtain⟨g,d,hK⟩:=h.kids i m hi hn e;exact⟨g,d.block (hk _ (.inr d.isMap)),hK⟩}
structure Grown (a:TypeId) (b0:Nat) (w w':Y):Prop where
 os:w'.os=w.os
 tape:w'.tape=w.tape
 output:w'.output=w.output
 size:w.heap.size<=w'.heap.size
 block:∀b,b<w.heap.size->b<b0\/¬Ej a w b->w'.heap[b]?=w.heap[b]?
def Nodes.found{o}(h:Nodes P K o w f b0 k B Z M){j}(hj:j<k)(hp:AJ f k<k)(r:Z j=j)(hs:f j=f k)
  (a:∀i,0<i->i<k->AJ f i<i):
  Nodes P K o w f b0 (k+1) (λi=>if i=k then B j else B i) (λi=>if i=k then j else Z i) M:=by
 have d:∀i,i<k->(if i=k then B j else B i)=B i:=λi hi=>C3 om;have c:∀i,i<k->(if i=k then j else Z i)=Z i:=λi hi=>C3 om;have FO:∀i,i<k+1->(if i=k then j else Z i)=i->i<k/\Z i=i:=λi hi e=>by
  by_cases e2:i=k
  .rw[DD e2]at e;omega
  rw[C3 e2]at e;exact⟨om,e⟩
 have p:∀i,i<k->Dm f (λi=>if i=k then B j else B i) i=Dm f B i:=λi hi=>by
  unfold Dm;by_cases e:i=0
  .simp[e]
  have:=a i om hi;simp only[e,Aad];rw[C3 om]
 constructor
 .exact Nat.succ_pos _
 .grind [Nodes.pos,Nodes.n0]
 .grind [Nodes.le]
 .grind [Nodes.le,Nodes.own]
 .grind [Nodes.same]
 .grind [Nodes.one]
 .grind [Nodes.le,Nodes.BH]
 .intro i hi;show b0<=(if i=k then B j else B i);split
  .exact h.base j hj
  exact h.base i om
 .grind [Nodes.node]
 .intro i l hi hl hn b e;obtain⟨h1,h2⟩:=FO i hi hn;obtain⟨h3,h4⟩:=FO l hl b;have e:=e;rw[d i h1,d l h3]at e;exact h.apart i l h1 h3 h2 h4 e
 .intro i m hi hn b;obtain⟨h1,h2⟩:=FO i hi hn;exact h.mbase i m h1 h2 b
 .intro i l m hi hl hn b e1 e2;obtain⟨h1,h2⟩:=FO i hi hn;obtain⟨h3,h4⟩:=FO l hl b;exact h.MJ i l m h1 h3 h2 h4 e1 e2
 .intro i hi hn b l q hl n;obtain⟨h1,h2⟩:=FO i hi hn;obtain⟨h3,h4⟩:=FO l hl n;show(if AJ f l=k then j else Z (AJ f l))≠i;have:=a l q h3;rw[c _ om];exact h.bare i h1 h2 b l q h3 h4
 intro i m hi hn b;obtain⟨h1,h2⟩:=FO i hi hn;obtain⟨g,s,hK⟩:=h.kids i m h1 h2 b;refine⟨g,s.mono<|UP _,λv=>?_⟩;rcases hK v with⟨l,a1,a2,a3,a4,a5,t⟩|⟨a1,a2⟩
 .have:=a l a1 a2;exact .inl ⟨l,a1,om,by show(if l=k then j else Z l)=l;rw[c l a2];exact a3,by show(if AJ f l=k then j else Z (AJ f l))=i;rw[c _ om];exact a4,a5,by show _=Value.pointer (some<|G (if l=k then B j else B l) 0);rw[d l a2];exact t⟩
 refine .inr ⟨a1,λl b1 b2 b3 b4=>?_⟩;obtain⟨h3,h4⟩:=FO l b2 b3;have:=a l b1 h3;have b4:(if AJ f l=k then j else Z (AJ f l))=i:=b4;rw[c _ om]at b4;exact a2 l b1 h3 h4 b4
open Classical in
def Nodes.fresh{u:TypeId}(h:Nodes P K u w f b0 k B Z M)(hp:AJ f k<k)
  (n:∀i,0<i->i<k->AJ f i<i) (A:∀j,j<k->f j≠f k) {a r o:Nat} {g:Value->Value} (s:a=Z (AJ f k))
  (T:w'.rowIs (B a) u 6<|B8 a (f a) (Dm f B a)<|some o)
  (ro:∀i,i<k->Z i=i->i≠a->w'.heap[B i]?=w.heap[B i]?)
  (H:∀i m,i<k->Z i=i->i≠a->M i=some m->w'.heap[m]?=w.heap[m]?/\m≠o)
  (rn:w'.rowIs r u 6<|B8 k (f k) (some<|G (B<|AJ f k) 0) none)
  (U:b0<=r) (C:∀i,i<k->B i≠r) (I:b0<=o) (hK:Kids f k B Z a g)
  (V:Dn P K w' o (k+1) λv=>if v=KG (f k)then Q9 r else g v):
  Nodes P K u w' f b0 (k+1) (λi=>if i=k then r else B i) (λi=>if i=k then k else Z i) λi=>if i=k then none else if i=a then some o else M i:=by
 have W:a<k:=by rw[s];exact Aar (h.le _ hp) hp
 have ad:Z a=a:=by rw[s];exact h.own _ hp
 have t:∀i,i<k->(if i=k then r else B i)=B i:=λi hi=>C3 om;have p:∀i,i<k->(if i=k then k else Z i)=Z i:=λi hi=>C3 om;have q:∀i,i<k->i≠a->(if i=k then none else if i=a then some o else M i)=M i:=λi hi s=>by rw[C3 om,C3 s]
 have c:(if a=k then none else if a=a then some o else M a)=some o:=by rw[C3 om,DD rfl]
 have FO:∀i,i<k+1->(if i=k then k else Z i)=i->i=k\/i<k/\Z i=i:=λi hi e=>by
  by_cases e2:i=k
  .exact .inl e2
  rw[C3 e2]at e;exact .inr ⟨om,e⟩
 have D:∀i,i<k->Dm f (λi=>if i=k then r else B i) i=Dm f B i:=λi hi=>by
  unfold Dm;by_cases e:i=0
  .simp[e]
  have:=n i om hi;simp only[e,Aad];rw[C3 om]
 have d:∀i,0<i->i<k+1->AJ f i<k:=λi F hi=>by
  by_cases e:i=k
  .rw[e];exact hp
  have:=n i F om;omega
 constructor
 .exact Nat.succ_pos _
 .show(if 0=k then k else Z 0)=0;rw[p 0 h.pos];exact h.n0
 .intro i hi;show(if i=k then k else Z i)<=i;split
  .omega
  exact h.le i om
 .intro i hi;show(if(if i=k then k else Z i)=k then k else Z (if i=k then k else Z i))=(if i=k then k else Z i);by_cases e:i=k
  .rw[DD e,DD rfl]
  rw[C3 e,C3 (oT (h.le i om))];exact h.own i om
 .intro i hi;show f (if i=k then k else Z i)=f i;by_cases e:i=k
  .rw[DD e,e]
  rw[C3 e];exact h.same i om
 .intro i l hi hl e;show(if i=k then k else Z i)=(if l=k then k else Z l);by_cases e1:i=k
  .by_cases e2:l=k
   .rw[DD e1,DD e2]
   exact absurd (by rw[<-e1];exact e.symm)<|A l om
  by_cases e2:l=k
  .exact absurd (by rw[<-e2];exact e) (A i om)
  rw[C3 e1,C3 e2];exact h.one _ _ om om e
 .intro i hi;show(if(if i=k then k else Z i)=k then r else B (if i=k then k else Z i))=(if i=k then r else B i);by_cases e:i=k
  .rw[DD e,DD rfl,DD e]
  rw[C3 e,C3 (oT (h.le i om)),C3 e];exact h.BH i om
 .intro i hi;show b0<=(if i=k then r else B i);split
  .exact U
  exact h.base i om
 .intro i hi hn;show w'.rowIs (if i=k then r else B i) u 6 (B8 i (f i) (Dm f (λi=>if i=k then r else B i) i)<|if i=k then none else if i=a then some o else M i);rcases FO i hi hn with h1|⟨h1,h2⟩
  .rw[DD h1,DD h1,h1];have:Dm f (λi=>if i=k then r else B i) k=some (G (B<|AJ f k) 0):=by
    unfold Dm;rw[C3 om];show some ((G (if AJ f k=k then r else B (AJ f k)) 0):Addr)=_;rw[C3 om]
   rw[this];exact rn
  rw[D i h1,t i h1];by_cases e:i=a
  .rw[e,c];exact T
  rw[q i h1 e];exact(h.node i h1 h2).of_block (ro i h1 h2 e)
 .intro i l hi hl hn b e;have e:=e;rcases FO i hi hn with h1|⟨h1,h2⟩
  .rcases FO l hl b with h3|⟨h3,h4⟩
   .omega
   rw[DD h1,t l h3]at e;exact absurd e.symm<|C l h3
  rcases FO l hl b with h3|⟨h3,h4⟩
  .rw[DD h3,t i h1]at e;exact absurd e<|C i h1
  rw[t i h1,t l h3]at e;exact h.apart i l h1 h3 h2 h4 e
 .intro i m hi hn b;have b:=b;rcases FO i hi hn with h1|⟨h1,h2⟩
  .rw[DD h1]at b;cases b
  by_cases e:i=a
  .rw[e,c]at b;cases b;exact I
  rw[q i h1 e]at b;exact h.mbase i m h1 h2 b
 .intro i l m hi hl hn b e1 e2;have e1:=e1;have e2:=e2;rcases FO i hi hn with h1|⟨h1,h2⟩
  .rw[DD h1]at e1;cases e1
  rcases FO l hl b with h3|⟨h3,h4⟩
  .rw[DD h3]at e2;cases e2
  by_cases x:i=a
  .by_cases X:l=a
   .omega
   rw[x,c]at e1;cases e1;rw[q l h3 X]at e2;exact absurd rfl (H l _ h3 h4 X e2).2
  by_cases X:l=a
  .rw[X,c]at e2;cases e2;rw[q i h1 x]at e1;exact absurd rfl (H i _ h1 h2 x e1).2
  rw[q i h1 x]at e1;rw[q l h3 X]at e2;exact h.MJ i l m h1 h3 h2 h4 e1 e2
 .intro i hi hn b l F hl L;have b:=b;show(if AJ f l=k then k else Z (AJ f l))≠i;have E:=d l F hl;rw[p _ E];rcases FO i hi hn with h1|⟨h1,h2⟩
  .have:=h.le _ E;omega
  have x:i≠a:=λx=>by rw[x,c]at b;cases b
  rw[q i h1 x]at b;rcases FO l hl L with h3|⟨h3,h4⟩
  .rw[h3,<-s];exactλe=>x e.symm
  exact h.bare i h1 h2 b l F h3 h4
 intro i m hi hn b;have b:=b;rcases FO i hi hn with h1|⟨h1,h2⟩
 .rw[DD h1]at b;cases b
 by_cases x:i=a
 .rw[x,c]at b;cases b;refine⟨_,V,λv=>?_⟩;show(∃j,0<j/\j<k+1/\(if j=k then k else Z j)=j/\(if AJ f j=k then k else Z (AJ f j))=i/\v=KG (f j)/\(if v=KG (f k)then Value.pointer (some<|G r 0)else g v)=Q9 (if j=k then r else B j))\/((if v=KG (f k)then Value.pointer (some<|G r 0)else g v)=.pointer none/\∀j,0<j->j<k+1->(if j=k then k else Z j)=j->(if AJ f j=k then k else Z (AJ f j))=i->KG (f j)≠v);by_cases e:v=KG (f k)
  .refine .inl ⟨k,h.pos,om,by rw[DD rfl],by rw[p _ hp,<-s,x],e,by rw[DD e,DD rfl]⟩
  rw[C3 e];rcases hK v with⟨l,a1,a2,a3,a4,a5,Q⟩|⟨a1,a2⟩
  .have:=n l a1 a2;exact .inl ⟨l,a1,om,by rw[p l a2];exact a3,by rw[p _ om,x];exact a4,a5,by rw[t l a2];exact Q⟩
  refine .inr ⟨a1,λl b1 b2 b3 b4=>?_⟩;rw[p _ (d l b1 b2)]at b4;rcases FO l b2 b3 with h3|⟨h3,h4⟩
  .rw[h3];exactλe2=>e e2.symm
  exact a2 l b1 h3 h4<|by rw[b4,x]
 rw[q i h1 x]at b;obtain⟨g1,R,S⟩:=h.kids i m h1 h2 b;refine⟨g1,(R.block (H i m h1 h2 x b).1).mono<|UP _,λv=>?_⟩;rcases S v with⟨l,a1,a2,a3,a4,a5,Q⟩|⟨a1,a2⟩
 .have:=n l a1 a2;exact .inl ⟨l,a1,om,by show(if l=k then k else Z l)=l;rw[p l a2];exact a3,by show(if AJ f l=k then k else Z (AJ f l))=i;rw[p _ om];exact a4,a5,by show _=Value.pointer (some<|G (if l=k then r else B l) 0);rw[t l a2];exact Q⟩
 refine .inr ⟨a1,λl b1 b2 b3 b4=>?_⟩;have b4:(if AJ f l=k then k else Z (AJ f l))=i:=b4;rw[p _ (d l b1 b2)]at b4;rcases FO l b2 b3 with h3|⟨h3,h4⟩
 .rw[h3,<-s]at b4;exact absurd b4.symm x
 exact a2 l b1 h3 h4 b4
end
section
open Go.Maps Keyed
def fN:laidOutB prog=true:=ou
def iI:108<prog.types.size:=of_decide_eq_true ou
def iY:prog.keyTypeAt 2 108=true:=ou
def P3:Keyed prog 108:=Keyed.of_law<|deep_law_laid fN (m:=2) om iI iY<|by rw[underlying108]
def VM w:(zeroValue 122).run prog w=.ok (.pointer none) w:=ou
def fG{k ti ts}{fs}{f0 f1 f2}(hu:P.underlying k=some (.struct fs))(a:fs=#[f0,f1,f2])(hi:P.underlying ti=some (.int .i64))(hs:P.underlying ts=some .string)
  (hc:P.cellsOf k=3) (b:P.cellsOf ti=1) (hcs:P.cellsOf ts=1) (t0:f0.type=ti) (t1:f1.type=ts) (t2:f2.type=ti) (o0:f0.offset=0) (o1:f1.offset=1) (o2:f2.offset=2)
  (n0:f0.name != "_") (c:f1.name != "_") (d:f2.name != "_") (s:Br) (h1:(Lit.int .i64 s.parent).wf=true) (h2:s.key.size<=maxLen) (h3:(Lit.int .i64 s.count).wf=true) (n):
  P.keyLits (n+2) k [.int .i64 s.parent,.string s.key,.int .i64 s.count]=some [.int .i64 s.parent,.string s.key.data.toList,.int .i64 s.count]:=by
 subst a;have a0:P.keyLits (n+1) ti [.int .i64 s.parent]=some [.int .i64 s.parent]:=by unfold Program.keyLits;simp[hi,h1]
 have a1:P.keyLits (n+1) ts [.string s.key]=some [.string s.key.data.toList]:=by unfold Program.keyLits;simp[hs,h2]
 have a2:P.keyLits (n+1) ti [.int .i64 s.count]=some [.int .i64 s.count]:=by unfold Program.keyLits;simp[hi,h3]
 have m0:f0.name≠ "_" :=by simpa using n0
 have m1:f1.name≠ "_" :=by simpa using c
 have m2:f2.name≠ "_" :=by simpa using d
 rw[Program.keyLits.eq_def];simp[hu,hc,t0,t1,t2,o0,o1,o2,b,hcs,a0,a1,a2,m0,m1,m2]
def OV:prog.cellsOf 108=3:=ou
def dI:prog.cellsOf 3=1:=ou
def dJ:prog.cellsOf 9=1:=ou
def Xu:prog.keyType 108=true:=ou
def Pp s(h1:(Lit.int .i64 s.parent).wf=true)(h2:s.key.size<=maxLen)(h3:(Lit.int .i64 s.count).wf=true):∃b,keyOf prog 108 (KG s)=some b:=by
 have hn:1<prog.types.size:=of_decide_eq_true ou;obtain⟨n,hn⟩:∃n,prog.types.size+1=n+2:=⟨prog.types.size-1,om⟩;have hf:(KG s).formed prog 108=true:=by simp[Value.formed,underlying108,OV]
 have hl:=fG underlying108 rfl underlying3 underlying9 OV dI dJ rfl rfl rfl rfl rfl rfl rfl rfl rfl s h1 h2 h3 n;rw[<-hn]at hl;have a:(KG s).cells.toList=[.int .i64 s.parent,.string s.key,.int .i64 s.count]:=rfl;unfold keyOf;rw[underlying108];simp only[Xu,hf,Bool.and_self,if_true];rw[a,hl];exact⟨_,rfl⟩
abbrev CE(w:Y)(f:Nat->Br)(b0 k:Nat)(B Z:Nat->Nat)(M:Nat->Option Nat):Prop:=Nodes prog 108 125 w f b0 k B Z M
abbrev Sa(b0:Nat)(w w':Y):Prop:=Grown 125 b0 w w'
def Nj{a c:Y}{row}(h:a.grownBy c row)n:a.grownBy (c.drewN n) row:=⟨h.os,h.tape,h.output,h.size,h.block⟩
def PB{g}(h:Dn prog 108 w m n g){s}(h1:(Lit.int .i64 s.parent).wf=true)(h2:s.key.size<=maxLen)(h3:(Lit.int .i64 s.count).wf=true):
  ∀q,(Instr.lookup 123 (.map<|some m) (KG s) false).run prog (w.drewN q)=.ok (g<|KG s) (w.drewN q):=by
 intro q;obtain⟨b,a⟩:=Pp s h1 h2 h3;exact(h.block (w':=w.drewN q) rfl).look P3 underlying123 (VM _) a
def Rz{s}(h1:(Lit.int .i64 s.parent).wf=true)(h2:s.key.size<=maxLen)(h3:(Lit.int .i64 s.count).wf=true):
  ∀q,(Instr.lookup 123 (.map none) (KG s) false).run prog (w.drewN q)=.ok (.pointer none) (w.drewN q):=by
 intro q;obtain⟨b,a⟩:=Pp s h1 h2 h3;simpa using Maps.look_nil (w:=w.drewN q) false P3 underlying123 (VM _) a
def SU(r e j:Nat){m}{g}{n}(s)(num:Nat)(k)(par)(l)
  (a:w.rowIs e 125 6<|B8 l k par<|some m) (b:Dn prog 108 w m n g) (h:g (KG s)=Q9 r)
  (h1:(Lit.int .i64 s.parent).wf=true) (h2:s.key.size<=maxLen) (h3:(Lit.int .i64 s.count).wf=true):
  C9 117 #[Q9 e,KG s,.int .i64 num] w (R9 (Q9 r) w):=by
 have hl:=RC a;have d:=b.block (w':=w.alloc<|.cells #[.int .i64 s.parent,.string s.key,.int .i64 s.count] 108) (by obtain⟨es,c,o⟩:=b.isMap;exact E1 _ _ _ (GC.1 o).1);have f:=PB d h1 h2 h3;rw[h]at f;have c5:w.cell? (G e 5)=some (.map<|some m):=a.cell (i:=5) om;clear b d a h h1 h2 h3;go_enter func117,ntmps117;go_wp2;go_quiet (fail);go_wp2;go_ret;exact⟨rfl,below_drewN ((BE _ _).alloc (Be _) _) _⟩
open Classical in
def YL{g:Value->Value}(h:Dn prog 108 w m n g)(hn:n<=1000){s:Br}(h1:(Lit.int .i64 s.parent).wf=true)(h2:s.key.size<=maxLen)(h3:(Lit.int .i64 s.count).wf=true)(v:V9):
  ∃w',(Instr.mapUpdate 123 (.map<|some m) (KG s) v).run prog w=.ok () w'/\Dn prog 108 w' m (n+1) (λk=>if k=KG s then v else g k)/\w.grownBy w' (some m):=by
 obtain⟨b,a⟩:=Pp s h1 h2 h3;exact h.put P3 underlying123 od v a
open Classical in
def UA(f:Nat){m:Nat}{g:Value->Value}{n:Nat}(s:Br)(num:Nat)(x:Br)(par:T9)(A:Nat)(hn:n<=1000)
  (j:w.rowIs f 125 6<|B8 A x par<|some m) (l:Dn prog 108 w m n g) (B:g (KG s)=.pointer none)
  (h1:(Lit.int .i64 s.parent).wf=true) (h2:s.key.size<=maxLen) (h3:(Lit.int .i64 s.count).wf=true):
  C9 117 #[Q9 f,KG s,.int .i64 num] w λe w'=>∃r,e=.returned (Q9 r)/\w.heap.size<=r/\w'.rowIs r 125 6 (B8 num s (some<|G f 0) none)/\
   Dn prog 108 w' m (n+1) (λk=>if k=KG s then Q9 r else g k)/\w.grownBy w' (some m):=by
 have hl:=RC j;obtain⟨es,F,C⟩:=l.isMap;have o:m<w.heap.size:=(GC.1 C).1;have b:=l.block (w':=w.alloc<|.cells #[.int .i64 s.parent,.string s.key,.int .i64 s.count] 108)<|E1 _ _ _ o;have q:=PB b h1 h2 h3;rw[B]at q;have c5:w.cell? (G f 5)=some (.map<|some m):=j.cell (i:=5) om;have H:∀(w:Y),(binOp .eql 123 (.map<|some m)<|.map none).run prog w=.ok (.bool false) w:=λw=>run_eql_map_nil w _ _ _ (some m) underlying123;go_enter func117,ntmps117;go_wp2;go_quiet (fail);go_wp2;obtain⟨d,a⟩:=qa<|((w.alloc<|.cells #[.int .i64 s.parent,.string s.key,.int .i64 s.count] 108).drewN nq).alloc<|.cells #[.int .i64 num,.int .i64 s.parent,.string s.key,.int .i64 s.count,Q9 f,.map none] 125;rw[<-a];have D:d.heap.size=w.heap.size+2:=by rw[a];simp
 have h:w.grownBy d none:=by rw[a];exact(Nj (AaT w _ none) nq).trans (AaT _ _ none)
 have d5:d.cell? (G f 5)=some (.map<|some m):=by rw[<-c5];exact As<|h.block f hl oq
 obtain⟨x0,x1,x2⟩:d.cell? (y w 0)=some (.int .i64 s.parent)/\d.cell? (y w 1)=some (.string s.key)/\d.cell? (y w 2)=some (.int .i64 s.count):=by rw[a];simp[go_sem]
 have u:d.rowIs (w.heap.size+1) 125 6<|B8 num s (some<|G f 0) none:=by
  have:=World.rowIs_alloc ((w.alloc<|.cells #[.int .i64 s.parent,.string s.key,.int .i64 s.count] 108).drewN nq) #[.int .i64 num,.int .i64 s.parent,.string s.key,.int .i64 s.count,Q9 f,.map none] 125 (B8 num s (some<|G f 0) none) (λi hi=>by
   have:i<6:=hi
   match i,this with
   |0,_=>rfl
   |1,_=>rfl
   |2,_=>rfl
   |3,_=>rfl
   |4,_=>rfl
   |5,_=>rfl)
  rw[a];simpa using this
 have t:Dn prog 108 d.drew m n g:=b.block (by
  show d.heap[m]?=_;rw[h.block m o oq];exact(E1 _ _ _ o).symm)
 obtain⟨w2,v,p,c⟩:=YL t hn (z<|O h1) (z<|O h2) (z<|O h3)<|Q9<|w.heap.size+1;have E:=h.but<|some m;clear a h t q b
 go_region
 go_wp2;go_ret;refine⟨w.heap.size+1,rfl,om,u.of_block<|c.block _ (by show _<d.heap.size;omega) ot,p,E.trans ?_⟩;exact⟨c.os,c.tape,c.output,c.size,c.block⟩
def wK(w:Y)(num:Nat)s par:(w.alloc<|.cells #[J num,J s.parent,.string s.key,J s.count,.pointer par,.map none] 125).rowIs w.heap.size 125 6<|B8 num s par none:=
 World.rowIs_alloc w _ 125 _ (λi hi=>by
   have:i<6:=hi
   match i,this with
   |0,_=>rfl
   |1,_=>rfl
   |2,_=>rfl
   |3,_=>rfl
   |4,_=>rfl
   |5,_=>rfl)
def Te num s par o m i(hi:i<6):(if i=5 then Value.map m else B8 num s par o i)=B8 num s par m i:=by
 match i,hi with
 |0,_=>rfl
 |1,_=>rfl
 |2,_=>rfl
 |3,_=>rfl
 |4,_=>rfl
 |5,_=>rfl
open Classical in
def SS(w:Y)(b:Nat)(s:Br)(num:Nat)(n:Br)(par:T9)(o:Nat)
  (c:w.rowIs b 125 6<|B8 o n par none)
  (h1:(Lit.int .i64 s.parent).wf=true) (h2:s.key.size<=maxLen) (h3:(Lit.int .i64 s.count).wf=true):
  C9 117 #[Q9 b,KG s,.int .i64 num] w λe w'=>∃r p,e=.returned (Q9 r)/\w.heap.size<=r/\w.heap.size<=p/\w'.rowIs r 125 6 (B8 num s (some<|G b 0) none)/\
   w'.rowIs b 125 6 (B8 o n par<|some p)/\
   Dn prog 108 w' p 1 (λk=>if k=KG s then Q9 r else .pointer none)/\w.grownBy w' (some b):=by
 have hl:=RC c;have q:=Rz (w:=w.alloc<|.cells #[.int .i64 s.parent,.string s.key,.int .i64 s.count] 108) h1 h2 h3;have c5:w.cell? (G b 5)=some (.map none):=c.cell (i:=5) om;have f5:=c.frozen 5;have B:=@run_makeMap prog;have D:∀(w:Y),(binOp .eql 123 (.map none)<|.map none).run prog w=.ok (.bool true) w:=λw=>run_eql_map_nil w _ _ _ none underlying123;go_enter func117,ntmps117;go_wp2;go_quiet (fail);go_wp2;obtain⟨f,a⟩:=qa<|((((w.alloc<|.cells #[.int .i64 s.parent,.string s.key,.int .i64 s.count] 108).drewN nq).setCell (G b 5)<|.map<|some<|w.heap.size+1).alloc<|.map #[] 0).alloc<|.cells #[.int .i64 num,.int .i64 s.parent,.string s.key,.int .i64 s.count,Q9 b,.map none] 125;rw[<-a];have C:f.heap.size=w.heap.size+3:=by rw[a];simp
 have h:w.grownBy ((w.alloc<|.cells #[.int .i64 s.parent,.string s.key,.int .i64 s.count] 108).drewN nq) none:=Nj (AaT w _ none) nq;have rb:=((c.of_block<|h.block b hl oq).set 5<|.map<|some<|w.heap.size+1).congr λi hi=>Te o n par none (some<|w.heap.size+1) i hi;have gb:w.grownBy (((w.alloc<|.cells #[.int .i64 s.parent,.string s.key,.int .i64 s.count] 108).drewN nq).setCell (G b 5)<|.map<|some<|w.heap.size+1)<|some b:=
  ⟨h.os,h.tape,h.output,oq,λi hi t=>by rw[At _ _ _ _ (λe=>t (by rw[e]))];exact h.block i hi oq⟩
 have u:w.grownBy f<|some b:=by rw[a];exact(gb.trans<|AaT _ _ _).trans (AaT _ _ _)
 have l:f.rowIs b 125 6<|B8 o n par<|some<|w.heap.size+1:=by rw[a];exact(rb.alloc _).alloc _
 have d5:f.cell? (G b 5)=some (.map<|some<|w.heap.size+1):=l.cell (i:=5) om;have x0:f.cell? (y w 0)=some (.int .i64 s.parent):=by rw[a];simp[go_sem]
 obtain⟨x1,x2⟩:f.cell? (y w 1)=some (.string s.key)/\f.cell? (y w 2)=some (.int .i64 s.count):=by rw[a];simp[go_sem]
 have v:f.rowIs (w.heap.size+2) 125 6<|B8 num s (some<|G b 0) none:=by
  have:=wK ((((w.alloc<|.cells #[.int .i64 s.parent,.string s.key,.int .i64 s.count] 108).drewN nq).setCell (G b 5)<|.map<|some<|w.heap.size+1).alloc<|.map #[] 0) num s<|some<|G b 0;rw[a];simpa using this
 have m:Dn prog 108 f.drew (w.heap.size+1) 0 λ_=>.pointer none:=by
  have x:=Dn.made prog 108<|((w.alloc<|.cells #[.int .i64 s.parent,.string s.key,.int .i64 s.count] 108).drewN nq).setCell (G b 5)<|.map<|some<|w.heap.size+1;have hz:(((w.alloc<|.cells #[.int .i64 s.parent,.string s.key,.int .i64 s.count] 108).drewN nq).setCell (G b 5)<|.map<|some<|w.heap.size+1).heap.size=w.heap.size+1:=oq;rw[hz]at x;refine x.block ?_;show f.heap[w.heap.size+1]?=_;rw[a];exact E1 _ _ _ oq
 obtain⟨w2,A,g,d⟩:=YL m om (z<|O h1) (z<|O h2) (z<|O h3)<|Q9<|w.heap.size+1+1;clear a m q h rb gb c
 go_region
 go_wp2;go_ret;refine⟨w.heap.size+2,w.heap.size+1,rfl,om,om,v.of_block<|d.block _ (by show _<f.heap.size;omega) oq,l.of_block<|d.block _ (by show _<f.heap.size;omega) ot,g,?_⟩;refine World.grownBy.andThen u (row':=some<|w.heap.size+1) ?_ (λj hj=>by cases hj;exact .inl om);exact⟨d.os,d.tape,d.output,d.size,d.block⟩
end
section
open Go.Maps Keyed
def oV{x}(a:-1000000<=x)(h1:x<=1000000):(Lit.int .i64 x).wf=true:=WalkArith.wf_i64 om
def Nodes.lt(h:Nodes P K a w f b0 k B Z M){i}(hi:i<k):B i<w.heap.size:=by
 rw[<-h.BH i hi];exact(h.node (Z i) (Aar (h.le i hi) hi)<|h.own i hi).lt
def Grown.Am{a:Nat}(h:B9 w w'):Grown a b0 w w':=⟨h.os,h.tape,h.output,h.size,λb hb _=>h.block b hb⟩
def Grown.of_grownBy{a:Nat}(h:w.grownBy w'<|some x)(c:b0<=x)(hn:Ej a w x):Grown a b0 w w':=
 ⟨h.os,h.tape,h.output,h.size,λb hb hc=>h.block b hb (λe=>by
  cases e;rcases hc with hc|hc
  .omega
  exact hc hn)⟩
def Uk(h:Nodes P K a w f b0 k B Z M)(h2:Bw f)(b:Y0 f k)
  (c:∀j,0<j->j<k->Z j=j->Z (AJ f j)=Z (AJ f k)->f j≠f k):∀j,j<k->f j≠f k:=by
 intro j hj e;have e1:=(h.same j hj).trans e;grind [Bw,Y0,Nodes.le,Nodes.own]
open Classical in
def Pj w{f}b0 k B Z M(h:CE w f b0 k B Z M)(hk:k<=200)(h2:Bw f)(h3:∀i,1<=i->i<=k->Y0 f i):
  C9 117 #[Q9 (B<|AJ f k),KG<|f k,.int .i64 k] w λe w'=>∃r B' N' M',e=.returned (Q9 r)/\CE w' f b0 (k+1) B' N' M'/\B' k=r/\(∀i,i<k->B' i=B i)/\Sa b0 w w':=by
 have t:=h.pos;have I:=h3 k t<|Be _;obtain⟨p0,p1,cc,ah,ks⟩:=h3 k t<|Be _;have hp:AJ f k<k:=by unfold AJ;omega
 have D:∀i,0<i->i<k->AJ f i<i:=λi E hi=>by
  obtain⟨a,b,_⟩:=h3 i E om;unfold AJ;omega
 have T:=Bh h2 (λj h1 h4=>h3 j h1 om) (AJ f k) hp;have w1:(Lit.int .i64 (f k).parent).wf=true:=oV om om;have w2:(f k).key.size<=maxLen:=od;have w3:(Lit.int .i64 (f k).count).wf=true:=oV (by unfold AJ at T;omega) om;obtain⟨a,F⟩:=qa<|Z<|AJ f k;have d:a<k:=by rw[F];exact Aar (h.le _ hp) hp
 have n:Z a=a:=by rw[F];exact h.own _ hp
 have S:B (AJ f k)=B a:=by rw[F];exact(h.BH _ hp).symm
 have l:=h.node a d n;have H:∀x,w.heap.size<=x->b0<=x:=λx hx=>GO (h.base 0 t)<|GO (Aaa<|h.lt t) hx;have U:∀i,i<k->Z i=i->Ej 125 w (B i):=λi hi hn=>by obtain⟨c,hb,_⟩:=h.node i hi hn;exact .inl ⟨c,hb⟩
 cases u:M a with
 |none=>
  rw[u]at l;rw[S];refine(SS w (B a) (f k) k (f a) _ a l w1 w2 w3).mono ?_;rintro e w' ⟨r,mm,rfl,V,W,rn,ra,K,A⟩;have X:=Uk h h2 I λj E hj hn p _=>h.bare a d n u j E hj hn (by rw[p,F]);refine⟨r,_,_,_,rfl,h.fresh hp D X F ra (λi hi hn q=>A.block _ (h.lt hi) λe=>?_) (λi m hi hn q K=>?_) (by rw[S];exact rn) (H r V) (λi hi e=>?_) (H mm W) (λv=>.inr ⟨rfl,λj E hj hn p=>absurd p<|h.bare a d n u j E hj hn⟩)<|K.mono om,oq,λi hi=>ot,Grown.of_grownBy A (h.base a d)<|U a d n⟩
  .exact q (h.apart i a hi d hn n<|Aai e)
  .obtain⟨g,s,_⟩:=h.kids i m hi hn K;obtain⟨es,c,o⟩:=s.isMap;have ad:=(GC.1 o).1;refine⟨A.block m ad λe=>?_,om⟩;cases e;obtain⟨c,hb,_⟩:=l;rw[hb]at o;cases o
  have:=h.lt hi;omega
 |some m=>
  rw[u]at l;obtain⟨g,s,hK⟩:=h.kids a m d n u;obtain⟨es,c,o⟩:=s.isMap;rw[S];rcases hK (KG<|f k)with⟨j,j0,jk,jn,jp,jv,jg⟩|⟨jg,ae⟩
  .refine m9 (SU (B j) (B a) j (f k) k (f a) _ a l s jg w1 w2 w3) λw' hb=>?_;have af:∀b,Ej 125 w b->w'.heap[b]?=w.heap[b]?:=λb ag=>hb.block b (by
    rcases ag with⟨c,hc⟩|⟨es,c,hc⟩
    .exact(GC.1 hc).1
    exact(GC.1 hc).1)
   exact⟨B j,_,_,_,rfl,(h.keep af).found jk hp jn (Sj jv).symm D,oq,λi hi=>ot,Grown.Am hb⟩
  refine(UA (B a) (f k) k (f a) _ a om l s jg w1 w2 w3).mono ?_;rintro e w' ⟨r,rfl,V,rn,K,A⟩;have L:∀i,i<k->Z i=i->B i≠m:=λi hi hn e=>by
   obtain⟨c,hb,_⟩:=h.node i hi hn;rw[e,o]at hb;cases hb
  refine⟨r,_,_,_,rfl,h.fresh hp D (Uk h h2 I λj E hj hn p e=>ae j E hj hn (by rw[p,F])<|by rw[e]) F (l.of_block<|A.block _ (h.lt d) λe=>L a d n<|Aai e) (λi hi hn q=>A.block _ (h.lt hi) λe=>L i hi hn<|Aai e) (λi m' hi hn q P=>?_) (by rw[S];exact rn) (H r V) (λi hi e=>?_) (h.mbase a m d n u) hK K,oq,λi hi=>ot,Grown.of_grownBy A (h.mbase a m d n u)<|.inr ⟨es,c,o⟩⟩
  .obtain⟨g',Q,_⟩:=h.kids i m' hi hn P;obtain⟨ai,c',R⟩:=Q.isMap;have C:m'≠m:=λe=>q<|h.MJ i a m hi d hn n (by rw[P,e]) u;exact⟨A.block m' (GC.1 R).1 λe=>C<|Aai e,C⟩
  have:=h.lt hi;omega
end
section
open Go.Maps Keyed
def KB w:C9 81 #[] w<|R9 (Sh (-1) ⟨#[]⟩ 0) w:=by
 go_enter func81,ntmps81;go_wp2;exact Fs (v:=Sh (-1) ⟨#[]⟩ 0) (by simp[results,results81,go_sem]) rfl ⟨rfl,n9⟩
def ptrs(B:Nat->Nat)(n:Nat):List Value:=(List.range n).map λi=>Q9<|B i
def LO(h:i<n):(ptrs B n)[i]?=some (Q9<|B i):=by simp[ptrs,h]
def RN{B'}(h:∀i,i<n->B' i=B i)(a:B' n=r):ptrs B n++[Q9 r]=ptrs B' (n+1):=by
 simp only[ptrs,List.range_succ,Aaj];congr 1
 .exact List.map_congr_left λi hi=>by rw[h i (List.mem_range.1 hi)]
 simp
def Vj(h2:Bw f):f 0=⟨-1,⟨#[]⟩,0⟩:=by
 obtain⟨a,b,c⟩:=h2;cases hf:f 0 with
 |mk p k cc=>
  rw[hf]at a b c;subst a;subst c;have:k=⟨#[]⟩:=WideShapes.bytes_inj (by rw[<-AaU,b]);rw[this]
def Nodes.root{b:TypeId}(c:b0<=r)(a:w.rowIs r b 6<|B8 0 (f 0) none none):Nodes P K b w f b0 1 (λ_=>r) (λ_=>0) (λ_=>none) where
 pos:=om
 n0:=rfl
 le:=λi hi=>om
 own:=λi hi=>rfl
 same:=λi hi=>by rw[show i=0 by omega]
 one:=λi j hi hj _=>rfl
 BH:=λi hi=>rfl
 base:=λi hi=>c
 node:=λi hi hn=>by
  rw[show i=0 by omega];exact a
 apart:=λi j hi hj _ _ _=>om
 mbase:=λi m _ _ h=>by cases h
 MJ:=λi j m _ _ _ _ h=>by cases h
 bare:=λi hi _ _ j d hj=>om
 kids:=λi m _ _ h=>by cases h
def aA{d base:Nat}(h:w.ownsRow base e 1 (S9 g n cp) n xs)(f:Grown d b0 w w')(i:e≠d):w'.ownsRow base e 1 (S9 g n cp) n xs:=by
 obtain⟨hl,⟨b,_⟩|⟨g',cap,cur,b,hb,a,h1,h2,h3,h4⟩⟩:=h
 .cases b
 cases b;refine⟨hl,.inr ⟨g,cp,cur,rfl,hb,?_,h1,h2,h3,h4⟩⟩;rw[f.block g (GC.1 a).1 (.inr ?_)]
 .exact a
 rintro(⟨c,hc⟩|⟨es,c,hc⟩);all_goals grind
def nJ{a base}(h:w.ownsRow base e 1 (S9 g n cp) n xs)(d:e≠a):¬Ej a w g:=by
 obtain⟨hl,⟨c,_⟩|⟨g',cap,cur,c,hb,b,h1,h2,h3,h4⟩⟩:=h;all_goals grind [Ej]
def Grown.below{a:Nat}(h:Grown a b0 w w')(hb:b0<=w.heap.size):Below b0 w w':=⟨h.os,h.tape,h.output,h.size,λk hk=>h.block k om<|.inl hk⟩
def Yr:(prog.info? 122).map (λi=>(i.zero,i.size,i.bytes))=some (some<|.pointer none,1,8):=ou
def aD cap{f}{w}(hA:BQ w b n f)(h1:DR n)(h2:Bw f)(h3:Bq n f):
  C9 83 #[.agg #[S9 b n cap]] w λe w'=>(∃g cp B Z M,e=.returned (S9 g n cp)/\CE w' f w.heap.size n B Z M/\(g<w'.heap.size/\w'.ownsRow w.heap.size 122 1 (S9 g n cp) n (ptrs B n))/\∀i,i<n->w'.cell? (G g i)=some (Q9<|B i))/\B9 w w':=by
 have hl:=hA.lt;have bb:0<n:=oT h1.1;rcases h1.2,O hA,O h2,O h3,Vj h2 with⟨bc,HA,H2,H3,ao⟩;clear hA h1 h2 h3;obtain⟨i0,hi,aq,l,ar⟩:=Ok Yr;have C:B9 w<|w.alloc<|.cells #[S9 b n cap] 25:=n9;go_enter func83,ntmps83;go_wp2_with fail;refine m9 (KB _) λw1 m=>?_;obtain⟨H,au⟩:=BF m;have l:=m.size;simp at l;have I:=O<|o9 C m;have y1:w.heap.size<w1.heap.size:=om;have a1:w1.cell? (y w 0)=some (S9 b n cap):=by rw[H _ _ oq];simp[go_sem]
 clear m H au l C;go_wp2;clear a1;go_loopw [3,13] (λv i wr=>∃(k L g cp:Nat) (B Z:Nat->Nat) (M:Nat->Option Nat),k<=n/\i=J k/\v=S9 g L cp/\1<=L/\(L=k\/(k=0/\L=1))/\wr.ownsRow w.heap.size 122 1 (S9 g L cp) L (ptrs B L)/\CE wr f w.heap.size L B Z M/\B9 w wr) λ_ i _=>n-(intOf i).toNat
 .have hr:=wK w1 0 (f 0) none;have K:(w1.alloc<|.cells #[J 0,J (-1),E9,J 0,.pointer none,.map none] 125).rowIs w1.heap.size 125 6<|B8 0 (f 0) none none:=by rw[ao]at hr ⊢;exact hr
  have hb:=(I.alloc I.size<|.cells #[J 0,J (-1),E9,J 0,.pointer none,.map none] 125).alloc ot<|.cells #[Q9 w1.heap.size] 122;have ho:=World.ownsRow_lit (base:=w.heap.size) (e:=122) (size:=1) (w1.alloc<|.cells #[J 0,J (-1),E9,J 0,.pointer none,.map none] 125) #[Q9 w1.heap.size] 1 ot od rfl;refine⟨0,1,w1.heap.size+1,1,λ_=>w1.heap.size,λ_=>0,λ_=>none,om,rfl,rfl,om,.inr ⟨rfl,rfl⟩,?_,Nodes.root om<|K.alloc _,hb⟩;simpa[ptrs]using ho
 obtain⟨k,L,g,cp,B,Z,M,hk,rfl,rfl,bd,hL,x,hN,hb⟩:=hrel;have c0:k<n->wr.cell? (G b<|k*3)=some (J (f k).parent):=λh=>((HA.below hb hl).cells h).1;have c1:k<n->wr.cell? (G b<|k*3+1)=some (.string (f k).key):=λh=>((HA.below hb hl).cells h).2.1;have c2:k<n->wr.cell? (G b<|k*3+2)=some (J (f k).count):=λh=>((HA.below hb hl).cells h).2.2;rcases O hb,O x,O hN with⟨E,F,HN⟩;clear hb x hN;go_wp2
 .have P:k<n:=ol;have o:0<k:=ol;have av:L=k:=om;subst av;have p0:=(H3 L o P).1;have p1:=(H3 L o P).2.1;obtain⟨p,hp⟩:∃p:Nat,(f L).parent=p:=⟨(f L).parent.toNat,om⟩;have aw:p<L:=om;rw[hp];obtain⟨W,q⟩:=qa<|wr.alloc<|.cells #[J p,.string (f L).key,J (f L).count] 108;rw[<-q];have x0:W.cell? (y wr 0)=some (J p):=by rw[q];simp[go_sem]
  obtain⟨x1,x2⟩:W.cell? (y wr 1)=some (.string (f L).key)/\W.cell? (y wr 2)=some (J (f L).count):=by rw[q];simp[go_sem]
  have bf:W.heap.size=wr.heap.size+1:=by rw[q];simp
  have Q:B9 w W:=by rw[q];exact E.alloc E.size _
  have d:W.drew.ownsRow w.heap.size 122 1 (S9 g L cp) L<|ptrs B L:=by rw[q];exact(F.alloc _).drew
  have xp:W.cell? (G g p)=some (Q9<|B p):=(d.cellAt p om).trans<|LO aw;have R:CE W.drew f w.heap.size L B Z M:=HN.keep (λb hb=>by
   show W.heap[b]?=_;rw[q];exact E1 _ _ _ (by
    rcases hb with⟨c,hc⟩|⟨es,c,hc⟩
    .exact(GC.1 hc).1
    exact(GC.1 hc).1))
  have hC:=Pj W.drew w.heap.size L B Z M R om H2 λi h1 h4=>H3 i h1 om;rw[show AJ f L=p by unfold AJ;rw[hp];rfl,show KG (f L)=.agg #[J p,.string (f L).key,J (f L).count] by unfold KG;rw[hp]]at hC;rcases O hC,O d,O Q,O hp with⟨HC,S,s,HP⟩;clear hC d Q R q HN F E c0 c1 c2 p0 p1 hp
  go_region_law (first
   |(go_simp;refine HC.mono ?_;rintro e w2 ⟨r,B',N',M',rfl,T,U,V,t⟩;have X:=O T;have ae:=O U;have af:=O V;have ag:=O t;have u:=O<|(aA S t oo).alloc<|.cells #[Q9 r] 122;have bg:w.heap.size<=w2.heap.size:=GO s.size t.size;clear T U V t)
   |(refine Re _ rfl (.tmp 20) (.tmp 29) 58 rfl w.heap.size 122 i0 (.pointer none) 1 8 underlying58 hi aq l ar rfl oo (S9 g L cp) L (ptrs B L) og u (y w2 0) 1 1 [Q9 r] og rfl (Is (DO _ _)) oh oo od om ot _ rfl ?_;intro g3 ax w3 j a ak a8))
  all_goals
   have A:=nJ u (show 122≠125 by decide);have bh:=(u.lt g rfl).1;have ah:CE w3 f w.heap.size (L+1) B' N' M':=(X.keep (w':=w3) (λb hb=>by
    have ay:b<w2.heap.size:=by
     rcases hb with⟨c,hc⟩|⟨es,c,hc⟩
     .exact(GC.1 hc).1
     exact(GC.1 hc).1
    have D:=E1 w2 (.cells #[Q9 r] 122) b ay;rw[<-D];refine a.block b ot λe=>A ?_;have e:b=g:=Aai e;rw[<-e];rcases hb with⟨c,hc⟩|⟨es,c,hc⟩
    .exact .inl ⟨c,D.trans hc⟩
    exact .inr ⟨es,c,D.trans hc⟩))
   have ai:B9 w w2:=s.trans (by
    have:=ag.below s.size;exact⟨this.os,this.tape,this.output,this.size,this.block⟩)
   have aj:B9 w w3:=ai.trans ⟨a.os,a.tape,a.output,GO oq a.size,λk hk=>by
    rw[a.block k ot (λe=>by have e:k=g:=Aai e;omega)];exact E1 _ _ _ om⟩
   rw[RN (z af) (z ae)]at j;rcases O ah,O aj,O j with⟨az,aM,a6⟩;clear ah ai aj j a A u X ag af ae HC S s x0 x1 x2 xp;go_wp2;go_roundw
   .exact⟨L+1,L+1,g3,ax,B',N',M',om,ov,rfl,om,.inl rfl,a6,az,aM⟩
   exact ow
 .have o:k=0:=om;subst o;have ad:L=1:=om;subst ad;go_roundw
  .refine⟨1,1,g,cp,B,Z,M,om,ov,rfl,om,.inl rfl,F.alloc _,HN.keep λb hb=>E1 _ _ _ ?_,E.alloc E.size _⟩;rcases hb with⟨c,hc⟩|⟨es,c,hc⟩
   .exact(GC.1 hc).1
   exact(GC.1 hc).1
  exact ow
 have a7:L=n:=om;subst a7;go_ret;exact⟨⟨g,cp,B,Z,M,rfl,HN,⟨(F.lt g rfl).2,F⟩,λi hi=>(F.cellAt i om).trans<|LO hi⟩,E⟩
def bS(f:Nat->Br)(i:Nat)(key:ByteArray)(r:Int):Prop:=
 (∃t,(∀s,s<=t->0<Ey f i s)/\(f<|Ey f i t).key.toList=key.toList/\(∀s,s<t->(f<|Ey f i s).key.toList≠key.toList)/\r=(f<|Ey f i t).count-1)\/
 (r=-1/\∀t,(∀s,s<=t->0<Ey f i s)->(f<|Ey f i t).key.toList≠key.toList)
open Classical in
noncomputable def Bj(f:Nat->Br)(i:Nat)(key:ByteArray):Int:=if h:∃r,bS f i key r then h.choose else 0
def bS.eq{key}{r}(h:bS f i key r):Bj f i key=r:=by
 have h1:∃r,bS f i key r:=⟨r,h⟩;grind [bS,Bj]
def Yx(v:V9)(w:Y):Nat:=
 match v with
 |.pointer (some a)=>(match w.cell? a with|some (.int _ n)=>n.toNat|_=>0)
 |_=>0
def LL{a}(h:w.cell? a=some (J n)):Yx (.pointer<|some a) w=n:=by
 unfold Yx;simp[h]
def DH(h:CE w f b0 n B Z M)(hid:∀i,i<n->Z i=i){j}(hj:j<n):
  w.cell? (G (B j) 0)=some (J j)/\w.cell? (G (B j) 2)=some (.string (f j).key)/\w.cell? (G (B j) 3)=some (J (f j).count)/\w.cell? (G (B j) 4)=some (.pointer<|Dm f B j)/\w.cell? (G (B j) 5)=some (.map<|M j):=by
 have a:=h.node j hj<|hid j hj;exact⟨a.cell om,a.cell om,a.cell om,a.cell om,a.cell om⟩
def GN w{f}b0{n}B Z M(h:CE w f b0 n B Z M)(hid:∀i,i<n->Z i=i)(h2:Bw f)(h3:Bq n f)i(hi:i<n)key:
  C9 88 #[Q9 (B i),.string key] w λe w'=>(e=.returned (J<|Bj f i key)/\bS f i key (Bj f i key))/\w'=w:=by
 have D:Hid<|∀j,j<n->w.cell? (G (B j) 0)=some (J j)/\w.cell? (G (B j) 2)=some (.string (f j).key)/\w.cell? (G (B j) 3)=some (J (f j).count)/\w.cell? (G (B j) 4)=some (.pointer<|Dm f B j)/\w.cell? (G (B j) 5)=some (.map<|M j):=O λj hj=>DH h hid hj;go_enter func88,ntmps88;go_wp2;go_loopw [5] (λv wr=>∃(t j:Nat),v=Q9 (B j)/\j=Ey f i t/\j<n/\wr=w/\∀s,s<t->0<Ey f i s/\(f<|Ey f i s).key.toList≠key.toList) λv wr=>Yx v wr
 .exact⟨0,i,rfl,rfl,hi,rfl,λs hs=>om⟩
 obtain⟨t,j,rfl,hj,b,rfl,d⟩:=hrel;rcases z D j b,O hj,O d with⟨⟨c0,c2,c3,c4,_⟩,g,a⟩;clear hj d;by_cases k:j=0
 .subst k;rw[show Dm f B 0=none by unfold Dm;rw[DD rfl]]at c4;go_wp2;go_ret;have l:bS f i key (-1):=by
   refine .inr ⟨rfl,λu hu e=>?_⟩;by_cases q:u<t
   .exact(a u q).2 e
   have:=hu t om;rw[<-z g]at this;omega
  rw[l.eq];exact⟨⟨rfl,l⟩,rfl⟩
 rw[show Dm f B j=some (G (B (AJ f j)) 0) by unfold Dm;rw[C3 k]]at c4;have c:0<j:=om;rcases F0 h2 h3 b c,(h3 j c b).1,(h3 j c b).2.1 with⟨⟨m,o⟩,K,L⟩;have r:∀s,s<=t->0<Ey f i s:=λs hs=>by
  by_cases e:s=t
  .rw[e,<-z g];exact c
  exact(a s om).1
 have x:Ey f i (t+1)=AJ f j:=by show(f<|Ey f i t).parent.toNat=_;rw[<-z g]
 have H:=LL (D (AJ f j)<|by unfold AJ;omega).1;have A:=LL c0;have C:AJ f j<j:=by unfold AJ;omega
 rcases O r,O<|qp H A,O (qp m o) with⟨p,E,F⟩;by_cases hK:(f j).key.toList=key.toList
 .have I:((f j).key.toList==key.toList)=true:=by simp[hK]
  rcases O hK,F.1,F.2 with⟨HK,m,o⟩;clear hK;go_wp2;go_ret;have l:bS f i key<|(f j).count-1:=.inl ⟨t,p,by rw[<-z g];exact HK,λs hs=>(a s hs).2,by rw[<-z g]⟩;rw[l.eq];exact⟨⟨rfl,l⟩,rfl⟩
 have I:((f j).key.toList==key.toList)=false:=by simp[hK]
 have HK:=O hK;clear hK;go_wp2;go_roundw
 .refine⟨t+1,AJ f j,rfl,(z<|O x).symm,om,trivial,λs hs=>?_⟩;by_cases e:s=t
  .rw[e];exact⟨p t<|Be _,by rw[<-z g];exact HK⟩
  exact a s om
 rw[(z E).1,(z E).2];exact C
def SQ w f b0 n g cp B Z M(h:CE w f b0 n B Z M)(hp:∀i,i<n->w.cell? (G g i)=some (Q9<|B i))(hn:n<=200):
  C9 84 #[S9 g n cp] w λe w'=>(∃r,e=.returned (.bool r)/\(r=false↔∀i,i<n->Z i=i))/\w'=w:=by
 have l:Hid<|∀i,i<n->w.cell? (G (B i) 0)=some (J<|Z i):=O (λi hi=>by
  rw[<-h.BH i hi];exact(h.node (Z i) (Aar (h.le i hi) hi) (h.own i hi)).cell (i:=0) om)
 have m:=O hp;clear h hp;go_enter func84,ntmps84;go_wp2;go_loopw [7] (λi wr=>∃k:Nat,k<=n/\i=J k/\wr=w/\∀j,j<k->Z j=j) λi _=>n-(intOf i).toNat
 .exact⟨0,om,rfl,rfl,λj hj=>om⟩
 obtain⟨k,hk,rfl,o,a⟩:=hrel;subst o;have c0:k<n->wr.cell? (G g k)=some (Q9<|B k):=λh=>m k h;have c1:k<n->wr.cell? (G (B k) 0)=some (J<|Z k):=λh=>l k h;have b:=O a;clear a;go_wp2
 .have c:k<n:=ol;have d:Z k≠k:=by
   intro e;have h':((Z k:Int)!=(k:Int))=true:=ol;rw[e]at h';simp at h'
  go_ret;exact⟨⟨true,rfl,⟨λh=>(by cases h),λh=>absurd (h k c) d⟩⟩,rfl⟩
 .have p:Z k=k:=by
   have h':((Z k:Int)!=(k:Int))=false:=ol;simp at h';omega
  go_roundw
  .refine⟨k+1,om,ov,trivial,λj hj=>?_⟩;by_cases e:j=k
   .rw[e];exact p
   exact b j om
  exact ow
 go_ret;exact⟨⟨false,rfl,⟨λ_ i hi=>b i om,λ_=>rfl⟩⟩,rfl⟩
def Sg(n:Nat)(f:Nat->Br):Prop:=∃i,0<i/\i<n/\0<=Bj f (AJ f i) (f i).key
def MS w{f}b0{n}g cp B Z M(h:CE w f b0 n B Z M)(hid:∀i,i<n->Z i=i)(h2:Bw f)(h3:Bq n f)(hp:∀i,i<n->w.cell? (G g i)=some (Q9<|B i))(hn:n<=200):
  C9 85 #[S9 g n cp] w λe w'=>(∃r,e=.returned (.bool r)/\(r=true↔Sg n f))/\B9 w w':=by
 have u:=O hid;go_enter func85,ntmps85;go_wp2;go_loopw [7] (λi wr=>∃(k q:Nat),k<=n/\i=J k/\wr=w.drewN q/\∀j,0<j->j<k->Bj f (AJ f j) (f j).key<0) λi _=>n-(intOf i).toNat
 .exact⟨0,0,om,rfl,rfl,λj l hj=>om⟩
 obtain⟨k,q,hk,rfl,s,a⟩:=hrel;have m:CE wr f b0 n B Z M:=h.keep λb _=>qm s;have c0:k<n->wr.cell? (G g k)=some (Q9<|B k):=λh=>by rw[s];exact z (O hp) k h
 have t:=O s;have c:=O a;clear a s;go_wp2
 .have d:k<n:=ol;obtain⟨_,c2,_,c4,_⟩:=DH m u d;by_cases o:k=0
  .subst o;rw[show Dm f B 0=none by unfold Dm;rw[DD rfl]]at c4;go_quiet (fail);go_wp2;go_roundw
   .exact⟨1,q+nq,om,rfl,by rw[z t,World.drewN_drewN],λj l h1=>om⟩
   exact ow
  rw[show Dm f B k=some (G (B (AJ f k)) 0) by unfold Dm;rw[C3 o]]at c4;have p:0<k:=om;have hs:AJ f k<n:=by have:=(h3 k p d).2.1;unfold AJ;omega
  have v:Hid<|∀q,C9 88 #[Q9 (B<|AJ f k),.string (f k).key] (wr.drewN q) λe w'=>e=.returned (J<|Bj f (AJ f k) (f k).key)/\w'=wr.drewN q:=
   O λq=>(GN (wr.drewN q) b0 B Z M (m.keep λb _=>rfl) u (z<|O h2) h3 (AJ f k) hs (f k).key).mono λe w' h=>⟨h.1.1,h.2⟩
  go_quiet (first|(go_at_call 88;exact Calls.quiet_of_same<|v _));by_cases x:0<=Bj f (AJ f k) (f k).key
  .go_wp2;go_ret;exact⟨⟨true,rfl,⟨λ_=>⟨k,p,d,x⟩,λ_=>rfl⟩⟩,by rw[z t];exact below_drewN (below_drewN (BE _ _) _) _⟩
  go_wp2;go_roundw
  .refine⟨k+1,q+nq,om,ov,by rw[z t,World.drewN_drewN],λj l h1=>?_⟩;by_cases e:j=k
   .rw[e];omega
   exact c j l om
  exact ow
 go_ret;refine⟨⟨false,rfl,⟨λh=>(by cases h),?_⟩⟩,?_⟩
 .rintro⟨i,l,h1,h2⟩;have:=z c i l om;omega
 rw[z t];exact below_drewN (BE _ _) _
end
section
open Go.Maps Keyed
def M7(e:Ending)(p:Prop):Prop:=∃r:Bool,e=.returned (.bool r)/\(r=true↔p)
theorem M7.no(h:¬p):M7 (.returned<|.bool false) p:=⟨false,rfl,⟨λe=>(by cases e),λe=>absurd e h⟩⟩
def M7.yes(h:p):M7 (.returned<|.bool true) p:=⟨true,rfl,⟨λ_=>h,λ_=>rfl⟩⟩
def QR cap{f}{w}(hA:BQ w b n f)(hn:n<=200)(h2:Bw f):
  C9 82 #[.agg #[S9 b n cap]] w λe w'=>M7 e (Bq n f)/\B9 w w':=by
 rcases hA.lt,O hA,O h2 with⟨hl,r,D⟩;clear hA h2;go_enter func82,ntmps82;go_wp2;go_loopw [8] (λi wr=>∃k:Nat,k<=n/\i=J k/\B9 w wr/\wr.cell? (y w 0)=some (S9 b n cap)/\w.heap.size<wr.heap.size/\∀j,1<=j->j<k->Y0 f j) λi _=>n-(intOf i).toNat
 .exact⟨0,om,rfl,n9,oe,oq,λj h1 h2=>om⟩
 obtain⟨k,hk,rfl,hb,l,o,m⟩:=hrel;have c0:k<n->wr.cell? (G b<|k*3)=some (J (f k).parent):=λh=>((r.below hb hl).cells h).1;have c1:k<n->wr.cell? (G b<|k*3+1)=some (.string (f k).key):=λh=>((r.below hb hl).cells h).2.1;have c2:k<n->wr.cell? (G b<|k*3+2)=some (J (f k).count):=λh=>((r.below hb hl).cells h).2.2;have d:=O hb;have c:=O m;clear hb m;by_cases a:k<n
 case neg=>
  go_wp2;go_ret;exact⟨.yes λi h1 h2=>c i h1 om,d⟩
 by_cases u:k=0
 .subst u;go_wp2;go_roundw
  .exact⟨1,om,ov,d.alloc om _,by simp[go_sem,l,o],ot,λj h1 h2=>om⟩
  exact ow
 have E:((k:Int)==0)=false:=ot;by_cases hA:(f k).parent<0
 .have B:decide ((f k).parent<0)=true:=by simp[hA]
  have g:Hid<|¬Bq n f:=O λh=>oT (h k om a).1;go_wp2;go_ret;exact⟨.no g,d.alloc om _⟩
 have B:decide ((f k).parent<0)=false:=by simp[hA]
 by_cases C:(k:Int)<=(f k).parent
 .have q:decide ((k:Int)<=(f k).parent)=true:=by simp[C]
  have g:Hid<|¬Bq n f:=O λh=>oT (h k om a).2.1;go_wp2;go_ret;exact⟨.no g,d.alloc om _⟩
 have q:decide ((k:Int)<=(f k).parent)=false:=ot;by_cases F:(4000:Int)<(f k).key.size
 .have H:decide ((4000:Int)<(f k).key.size)=true:=by simp[F]
  have g:Hid<|¬Bq n f:=O λh=>oT (h k om a).2.2.2.2;go_wp2;go_ret;exact⟨.no g,d.alloc om _⟩
 obtain⟨p,hp⟩:∃p:Nat,(f k).parent=p:=⟨(f k).parent.toNat,om⟩;have v:p<k:=om;have x:p<n:=om;obtain⟨I,K⟩:=Bh D c p v;have e2:=((r.below d hl).cells x).2.2;rw[hp]at hA C B q c0;rcases O hp,A0 hl d.size,c0 a,c1 a,c2 a with⟨s,L,d0,d1,d2⟩;clear hp c0 c1 c2;have Q:IntKind.i64.wrap ((f p).count+1)=(f p).count+1:=oj;by_cases hD:12<(f k).count
 .have g:Hid<|¬Bq n f:=O λh=>oT (h k om a).2.2.2.1;have A:decide (12<(f k).count)=true:=by simp[hD]
  go_wp2;go_quiet (fail);go_wp2;go_ret;exact⟨.no g,below_drewN (d.alloc om _) _⟩
 have A:decide (12<(f k).count)=false:=ot;by_cases t:(f k).count=(f p).count+1
 case neg=>
  have g:Hid<|¬Bq n f:=O (λh=>by have:=(h k om a).2.2.1;rw[z s]at this;exact t this);go_wp2;go_quiet (fail);go_wp2;go_ret;exact⟨.no g,below_drewN (d.alloc om _) _⟩
 have M:((f k).count !=(f p).count+1)=false:=by simp[t]
 have P:Hid<|Y0 f k:=O ⟨by rw[z s];omega,by rw[z s];omega,by rw[z s];exact t,om,om⟩;clear t;go_wp2;go_quiet (fail);go_wp2;go_roundw
 .refine⟨k+1,om,ov,below_drewN (d.alloc om _) _,by simp[go_sem,l,o],ot,λj h1 h2=>?_⟩;by_cases e:j=k
  .rw[e];exact P
  exact c j h1 om
 exact ow
def Wo{p:Nat->Prop}(h:∃t,p t):∃t,p t/\∀s,s<t->¬p s:=by
 obtain⟨t,c⟩:=h
 induction t using Nat.strongRecOn with
 |ind t ih=>
  by_cases hs:∃s,s<t/\p s
  .obtain⟨s,a,hs⟩:=hs;exact ih s a hs
  exact⟨t,c,λs a b=>hs ⟨s,a,b⟩⟩
def Kb f i key:bS f i key<|Bj f i key:=by
 by_cases h:∃t,(∀s,s<=t->0<Ey f i s)/\(f<|Ey f i t).key.toList=key.toList
 .obtain⟨t,⟨h1,h2⟩,h3⟩:=Wo h;have hp:bS f i key<|(f<|Ey f i t).count-1:=.inl ⟨t,h1,h2,λs hs e=>h3 s hs ⟨λu hu=>h1 u om,e⟩,rfl⟩;rw[hp.eq];exact hp
 have hp:bS f i key (-1):=.inr ⟨rfl,λt a e=>h ⟨t,a,e⟩⟩;rw[hp.eq];exact hp
theorem dB(h3:Bq n f){i}(hi:i<n):∀t,(∀s,s<t->0<Ey f i s)->Ey f i t<=i:=by
 intro t
 induction t with
 |zero=>intro _;exact Be _
 |succ t ih=>
  intro h;have h1:=ih λs hs=>h s om;have a:=h t om;have:=(h3 (Ey f i t) a om).2.1;show(f<|Ey f i t).parent.toNat<=i;omega
def Tk(h2:Bw f)(h3:Bq n f){i}(hi:i<n)key:0<=Bj f i key↔∃t,(∀s,s<=t->0<Ey f i s)/\(f<|Ey f i t).key.toList=key.toList:=by
 have hp:=Kb f i key;constructor
 .intro h;rcases hp with⟨t,a,b,_⟩|⟨a,_⟩
  .exact⟨t,a,b⟩
  omega
 rcases hp with⟨u,a',_,_,d⟩|⟨_,c⟩;all_goals grind [Bq,Ey,dB,F0]
theorem Tz(h3:Bq n f){i}(h1:1<=i)(hi:i<n):∀t,(∀s,s<t->0<Ey f (AJ f i) s)->Qr f i t=Ey f (AJ f i) t:=by
 intro t
 induction t with
 |zero=>
  intro _;have:=(h3 i h1 hi).1;show(f i).parent=((f i).parent.toNat:Int);omega
 |succ t ih=>
  intro h;have e:=ih λs hs=>h s om;have hp:AJ f i<n:=by have:=(h3 i h1 hi).2.1;unfold AJ;omega
  have hl:=dB h3 hp t λs hs=>h s om;have:=(h3 (Ey f (AJ f i) t) (h t om) om).1;show(f (Qr f i t).toNat).parent=((f<|Ey f (AJ f i) t).parent.toNat:Int);rw[e,NO];omega
def XF(h3:Bq n f){i}(h1:1<=i)(hi:i<n)t:(∀s,s<=t->0<Qr f i s)↔∀s,s<=t->0<Ey f (AJ f i) s:=by
 constructor
 .intro h s
  induction s using Nat.strongRecOn with
  |ind s ih=>
   intro hs;have:=Tz h3 h1 hi s λu hu=>ih u hu om;have:=h s hs;omega
 grind [Qr,Tz]
def FE(h2:Bw f)(h3:Bq n f):Sg n f↔¬Je n f:=by
 have d:∀i,0<i->i<n->AJ f i<n:=λi c hi=>by have:=(h3 i c hi).2.1;unfold AJ;omega
 constructor
 .rintro⟨i,c,hi,hp⟩ h5;obtain⟨t,a,b⟩:=(Tk h2 h3 (d i c hi) _).1 hp;refine h5 i t c hi ((XF h3 c hi t).2 a) ?_;grind [Bq,Je,Tz]
 intro h5;by_cases h:Sg n f
 .exact h
 refine absurd (λi t c hi hu e=>h ⟨i,c,hi,(Tk h2 h3 (d i c hi) _).2 ⟨t,(XF h3 c hi t).1 hu,?_⟩⟩) h5;have a:=(XF h3 c hi t).1 hu;rw[Tz h3 c hi t (λs hs=>a s om)]at e;exact e
def RZ{d}(h:Nodes P K d w f b0 n B Z M)(h2:Bw f)(h3:Bq n f):(∀i,i<n->Z i=i)↔F8 n f:=by
 constructor
 .intro hid i k h1 g hi j;have a:=h3 i om hi;have b:=h3 k h1 om;have e:f k=f i:=by
   obtain⟨e1,e2⟩:=j;have o:(f k).key=(f i).key:=WideShapes.bytes_inj (by rw[<-AaU,<-AaU];exact e2);have p:(f k).count=(f i).count:=by rw[b.2.2.1,a.2.2.1,e1]
   cases hk:f k;cases l:f i;grind [Bq]
  grind [Bq,Nodes.one]
 intro h4 i hi;by_cases e:Z i=i
 .exact e
 have c:Z i<i:=oT<|h.le i hi;have hs:=h.same i hi;have m:1<=Z i:=by
  rcases Aas (Z i)with e0|e0
  .rw[e0]at hs;have:=h2.1;rw[hs]at this;have:=(h3 i om hi).1;omega
  exact e0
 exact absurd ⟨by rw[hs],by rw[hs]⟩<|h4 i (Z i) m c hi
def Nodes.Tl(h:Nodes P K a w f b0 n B Z M)(hb:b1<=b0):Nodes P K a w f b1 n B Z M:=
 {h with base:=λi hi=>GO hb (h.base i hi),mbase:=λi m hi hn b=>GO hb (h.mbase i m hi hn b)}
def Ej.lt(h:Ej a w b):b<w.heap.size:=by
 grind [Ej]
def Nodes.below(h:Nodes P K a w f b0 n B Z M)(hb:B9 w w'):Nodes P K a w' f b0 n B Z M:=
 h.keep λb hn=>hb.block b hn.lt
def PM{base Kt size}(h:w.ownsRow base e size v n xs)(hb:Kt<=base):w.ownsRow Kt e size v n xs:=by
 obtain⟨hl,⟨b,d⟩|⟨g',cap,cur,b,c,a,h1,h2,h3,h4⟩⟩:=h
 .exact⟨hl,.inl ⟨b,d⟩⟩
 exact⟨hl,.inr ⟨g',cap,cur,b,GO hb c,a,h1,h2,h3,h4⟩⟩
def Xf{base size}(h:w.ownsRow base e size v n xs)(hb:B9 w w'):w'.ownsRow base e size v n xs:=by
 obtain⟨hl,⟨b,d⟩|⟨g',cap,cur,b,c,a,h1,h2,h3,h4⟩⟩:=h
 .exact⟨hl,.inl ⟨b,d⟩⟩
 refine⟨hl,.inr ⟨g',cap,cur,b,c,?_,h1,h2,h3,h4⟩⟩;rw[hb.block g' (GC.1 a).1];exact a
def qE(w0:Y)(n:Nat)(f:Nat->Br)(e:Ending)(w:Y):Prop:=
 (∃r:Int,e=.returned (.tuple #[N9,J r])/\r=Ar n f/\r≠0)\/
 (∃g cp B Z M,e=.returned (.tuple #[S9 g n cp,J 0])/\Ar n f=0/\CE w f w0.heap.size n B Z M/\(∀i,i<n->Z i=i)/\(g<w.heap.size/\w.ownsRow w0.heap.size 122 1 (S9 g n cp) n (ptrs B n))/\∀i,i<n->w.cell? (G g i)=some (Q9<|B i))
def PJ p q k l c d w:(binOp .neq 108 (Sh p k c)<|Sh q l d).run prog w=.ok (.bool<|!(p==q&&(k.toList==l.toList&&c==d))) w:=by
 go_simp;by_cases h1:p=q<;>by_cases h2:k.toList=l.toList<;>by_cases h3:c=d<;>simp[h1,h2,h3]
def M7.cases{e}(h:M7 e p):(e=.returned (.bool true)/\p)\/(e=.returned (.bool false)/\¬p):=by
 grind [M7]
def ZG cap{f}{w}(hA:BQ w b n f)(hn:n<=1048576):
  C9 43 #[.agg #[S9 b n cap]] w λe w'=>qE w n f e w'/\B9 w w':=by
 have hl:=hA.lt;have A:0<n->w.cell? (G b 0)=some (J (f 0).parent):=λh=>by simpa using (hA.cells h).1
 have C:0<n->w.cell? (G b 1)=some (.string (f 0).key):=λh=>by simpa using (hA.cells h).2.1
 have D:0<n->w.cell? (G b 2)=some (J (f 0).count):=λh=>by simpa using (hA.cells h).2.2
 by_cases h1:DR n
 case neg=>
  have S:=O<|Rl (f:=f) h1;by_cases T:n=0
  focus
   subst T
  rotate_left
  focus
   have h2:200<n:=by unfold DR at h1;omega
  all_goals
   go_enter func43,ntmps43;go_wp2
   go_ret2
   exact⟨.inl ⟨1,oq,S.symm,om⟩,n9⟩
 have q:0<n:=by unfold DR at h1;omega
 have h3:(n:Int)<=200:=by unfold DR at h1;omega
 have j:=(BE w.heap.size w).alloc (Be _)<|.cells #[S9 b n cap] 25;go_enter func43,ntmps43;go_wp2;obtain⟨W,o⟩:=qa<|w.alloc<|.cells #[S9 b n cap] 25;rw[<-o];have x0:W.cell? (y w 0)=some (S9 b n cap):=by rw[o];simp[go_sem]
 have d0:W.cell? (G b 0)=some (J (f 0).parent):=by rw[o,It _ _ _ hl];exact A q
 have d1:W.cell? (G b 1)=some (.string (f 0).key):=by rw[o,It _ _ _ hl];exact C q
 have d2:W.cell? (G b 2)=some (J (f 0).count):=by rw[o,It _ _ _ hl];exact D q
 have E:W.heap.size=w.heap.size+1:=by rw[o];simp
 have U:b<W.heap.size:=om;have v:w.heap.size<W.heap.size:=om;rw[<-o]at j;clear o E;refine qr W ?_;(iterate 4 refine N (h:=?_));refine GS λK hK=>?_;go_simp;refine⟨_,λw' s=>qk s<|KB _,hK _ ?_⟩;clear hK K;refine GS λK hK=>?_;by_cases h2:Bw f
 case neg=>
  have p:∀w:World,(binOp .neq 108 (Sh (f 0).parent (f 0).key (f 0).count)<|Sh (-1) ⟨#[]⟩ 0).run prog w=.ok (.bool true) w:=λw=>by
   rw[PJ];have:((f 0).parent==-1&&((f 0).key.toList==(⟨#[]⟩:ByteArray).toList&&(f 0).count==0))=false:=by
    cases hb:((f 0).parent==-1&&((f 0).key.toList==(⟨#[]⟩:ByteArray).toList&&(f 0).count==0))with
    |false=>rfl
    |true=>simp at hb;exact absurd ⟨hb.1,by simpa using hb.2.1,hb.2.2⟩ h2
   rw[this];rfl
  go_simp;refine⟨_,λw' s=>rfl,hK _ ?_⟩;clear hK K;refine Hz ?_;intro w2 c;have t:=O<|Rm h1 h2;have k:=o9 j c;clear c p h2;go_wp2
  go_ret2
  exact⟨.inl ⟨2,oq,t.symm,om⟩,k⟩
 have p:∀w:World,(binOp .neq 108 (Sh (f 0).parent (f 0).key (f 0).count)<|Sh (-1) ⟨#[]⟩ 0).run prog w=.ok (.bool false) w:=λw=>by
  rw[PJ,Vj h2];simp
 go_simp;refine⟨_,λw' s=>rfl,hK _ ?_⟩;clear hK K;refine Hz ?_;intro w2 c;have k:=o9 j c;have V:=(c.cell<|by exact v).trans x0;have z2:=A0 v c.size;go_wp2_with fail;refine(QR cap (hA.below k hl) om h2).mono ?_;rintro e w3 ⟨X,u⟩;rcases (u.cell<|by exact z2).trans V,A0 z2 u.size,o9 k u with⟨y3,z3,m⟩;rcases X.cases with⟨rfl,a⟩|⟨rfl,a⟩
 case inr=>
  have t:=O<|F1 h1 h2 a;go_wp2
  go_ret2
  exact⟨.inl ⟨3,oq,t.symm,om⟩,m⟩
 go_wp2_with fail
 refine(aD cap (hA.below m hl) h1 h2 a).mono ?_;rintro e w4 ⟨⟨g,cp,B,Z,M,rfl,hN,⟨L,F⟩,hp⟩,H⟩;rcases o9 m H,O hp,O (Aaa z3) with⟨l,I,P⟩;go_wp2_with fail;refine(SQ _ f _ n g cp B Z M hN I om).mono ?_;rintro e w5 ⟨⟨r,rfl,x⟩,rfl⟩;cases r
 case true=>
  have h4:¬F8 n f:=λh4=>by
   have:=x.2<|(RZ hN h2 a).2 h4;cases this
  have t:=O<|Rn h1 h2 a h4;go_wp2
  go_ret2
  exact⟨.inl ⟨4,oq,t.symm,om⟩,l⟩
 have hid:=x.1 rfl;have Q:=(RZ hN h2 a).1 hid;have R:=O hid;go_wp2_with fail;refine(MS _ _ g cp B Z M hN R h2 a I om).mono ?_;rintro e w6 ⟨⟨r,rfl,x⟩,d⟩;cases r
 case true=>
  have t:=O<|Ro h1 h2 a Q<|(FE h2 a).1<|x.1 rfl;go_wp2
  go_ret2
  exact⟨.inl ⟨5,oq,t.symm,om⟩,o9 l d⟩
 have h5:Je n f:=AaO λh5=>by
  have:=x.2<|(FE h2 a).2 h5;cases this
 go_wp2
 go_ret2
 refine⟨.inr ⟨g,cp,B,Z,M,oq,z<|O<|JY h1 h2 a Q h5,?_,R,⟨A0 L d.size,PM (Xf F d) P⟩,λi hi=>(d.cell<|by exact L).trans<|I i hi⟩,o9 l d⟩;exact(hN.below d).Tl P
def Wp w{f}b0{n}B Z M(h:CE w f b0 n B Z M)(hid:∀i,i<n->Z i=i)(h2:Bw f)(h3:Bq n f)i(hi:i<n):
  C9 159 #[Q9 (B i)] w λe w'=>(∃m,e=.returned (S9 m (nf f i)<|nf f i)/\w.heap.size<=m/\pE w' m (nf f i) (DU f i))/\B9 w w':=by
 obtain⟨R,S⟩:=Bh h2 (λj h1 h2=>h3 j h1 h2) i hi;obtain⟨c,hc⟩:∃c:Nat,(f i).count=c:=⟨(f i).count.toNat,om⟩;have u:nf f i=c:=by unfold nf;omega
 have K:c<=12:=om;have T:=run_make_row' 160 9 E9 16 underlying160 Ys rfl .i64 .i64 c om om;obtain⟨_,_,a3,_,_⟩:=DH h hid hi;rw[hc]at a3;have x:∀j,j<n->B j<w.heap.size:=λj hj=>h.lt hj;rcases O x,O hid,O u with⟨A,L,k⟩;go_enter func159,ntmps159;go_wp2;go_loopw [4] (λv wr=>∃(t j:Nat) (g:Nat->Value),t<=c/\v=Q9 (B j)/\j=Ey f i t/\j<n/\B9 w wr/\wr.rowIs w.heap.size 9 c g/\∀j,c-t<=j->j<c->g j=.string (DU f i j)) λv wr=>Yx v wr
 .exact⟨0,i,λ_=>E9,om,rfl,rfl,hi,n9,World.rowIs_made w E9 c 9,λj h1 h2=>om⟩
 obtain⟨t,p,g,U,rfl,hp,b,hb,a,d⟩:=hrel;obtain⟨C,D⟩:=Fg h2 h3 hi t (by rw[z k];exact U);rw[z k,<-hp]at D;have P:=O hp;clear hp C;obtain⟨c0,c2,c3,c4,_⟩:=DH (h.below hb) L b;have hq:∀j,j<n->wr.cell? (G (B j) 0)=some (J j):=λj hj=>(DH (h.below hb) L hj).1;have V:=A0 (A p b) hb.size;have Q:=Nat.ne_of_lt<|A p b;by_cases l:p=0
 .subst l;rw[show Dm f B 0=none by unfold Dm;rw[DD rfl]]at c4;have o:c=t:=oT h2.2.2;subst o;rcases O hb,O a,O d with⟨W,X,q⟩;go_wp2;go_ret;refine⟨⟨w.heap.size,ql k,Be _,?_⟩,W⟩;rw[z k];exact X.congr λj hj=>q j om hj
 rw[show Dm f B p=some (G (B (AJ f p)) 0) by unfold Dm;rw[C3 l]]at c4;have s:0<p:=om;have ad:=(h3 p s b).2.1;have o:t<c:=oT (F0 h2 h3 b s).1;obtain⟨r,hr⟩:∃r:Nat,r+1=c-t:=⟨c-t-1,om⟩;have er:(f p).count=(r:Int)+1:=om;rw[er]at c3;have E:r<c:=om;have d0:=a.cell E;have d1:=a.frozen r;have HF:Hid<|DU f i r=(f p).key:=O (by unfold DU;rw[z k,show c-1-r=t by omega,<-z P]);have F:Ey f i (t+1)=AJ f p:=by show(f<|Ey f i t).parent.toNat=_;rw[<-z P]
 have H:AJ f p<p:=by unfold AJ;omega
 have HE:=O er;go_wp2
 go_region
 go_wp2;go_roundw
 .refine⟨t+1,AJ f p,_,om,rfl,(z<|O F).symm,om,((z<|O hb).setCell (by exact Be _) _).drew,((z<|O a).set r _).drew,λj h1 h2=>?_⟩;by_cases e:j=r
  .subst e;simp[z HF]
  simp only[e,Aad];exact z (O d) j om h2
 have hs:AJ f p<n:=om;have I:=Nat.ne_of_lt<|A _ hs;rw[LL c0,LL (n:=AJ f p)]
 .exact H
 exact(As<|At _ _ _ _ I).trans (z (O hq) _ hs)
end
theorem XZ(f:Nat->Br)(i t:Nat):∀s,Ey f (Ey f i t) s=Ey f i (t+s)
 |0=>rfl
 |s+1=>by
  show(f<|Ey f (Ey f i t) s).parent.toNat=_;rw[XZ f i t s];rfl
theorem Sy(h2:Bw f)(h3:Bq n f){i}(hi:i<n){t}(a:t<nf f i):0<Ey f i t:=by
 have:=(Fg h2 h3 hi t om).2;grind [Bw,nf]
def dA(h2:Bw f)(h3:Bq n f){i}(hi:i<n){t}(a:∀s,s<=t->0<Ey f i s):t<nf f i:=by
 grind [Bq,nf,Fg,F0]
theorem Q8(h2:Bw f)(h3:Bq n f)(h5:Je n f){i}(hi:i<n){t u}(d:t<u)(hu:u<nf f i):(f<|Ey f i t).key.toList≠(f<|Ey f i u).key.toList:=by
 intro e;have b:=Sy h2 h3 hi (show t<nf f i by omega);have c:=(Fg h2 h3 hi t om).1;have hs:AJ f (Ey f i t)=Ey f i (t+1):=rfl;have a:AJ f (Ey f i t)<n:=by have:=(h3 _ b c).2.1;unfold AJ;omega
 refine(FE h2 h3).1 ⟨Ey f i t,b,c,?_⟩ h5;refine(Tk h2 h3 a _).2 ⟨u-t-1,λs g=>?_,?_⟩;all_goals grind [Bq,nf,XZ,Sy]
theorem gQ(h2:Bw f)(h3:Bq n f)(h5:Je n f){i}(hi:i<n)key{j}(hj:j<nf f i)(e:(DU f i j).toList=key.toList):Bj f i key=j:=by
 have hp:=Kb f i key;rcases hp with⟨t,a,b,_,d⟩|⟨_,c⟩;all_goals grind [Bw,Bq,nf,DU,Bj,Q8,Fg]
theorem Vc(h2:Bw f)(h3:Bq n f){i}(hi:i<n)key(e:∀j,j<nf f i->(DU f i j).toList≠key.toList):Bj f i key=-1:=by
 have hp:=Kb f i key;rcases hp with⟨t,a,b,_,d⟩|⟨c,_⟩
 .have g:=dA h2 h3 hi a;refine absurd ?_<|e (nf f i-1-t) om;grind [Bq,DU,Ey]
 exact c
def LF cap i key{f}{w}(hA:BQ w b n f)(h1:DR n)(h2:Bw f)(h3:Bq n f)(h5:Je n f)(hi:i<n):
  C9 49 #[.agg #[S9 b n cap],J i,.string key] w (R9 (J<|Bj f i key) w):=by
 have u:nf f i<=12:=by have:=(Bh (k:=n) h2 (λj h1 h2=>h3 j h1 h2) i hi).2;unfold nf;omega
 obtain⟨m,x⟩:=qd<|nf f i;have p:=O x;have t:m<=12:=om;have c:B9 w<|w.alloc<|.cells #[S9 b n cap] 25:=n9;go_enter func49,ntmps49;go_wp2_with fail;refine(Iq cap i (hA.below c hA.lt) h1 h2 h3 hi).mono ?_;rintro e w1 ⟨⟨g,rfl,D,q⟩,r⟩;rw[z p]at q ⊢;have A:=RC q;have d:=o9 c r;go_wp2;go_loopw [13] (λv wr=>∃k:Nat,k<=m/\v=J k/\wr=w1/\∀j,j<k->(DU f i j).toList≠key.toList) λv _=>m-(intOf v).toNat
 .exact⟨0,om,rfl,rfl,λj hj=>om⟩
 obtain⟨k,hk,rfl,B,l⟩:=hrel;subst B;have c0:k<m->wr.cell? (G g k)=some (.string<|DU f i k):=λh=>World.rowIs.cell q h;have a:=O l;by_cases o:k<m
 .have d0:=c0 o;by_cases hK:(DU f i k).toList=key.toList
  .have C:((DU f i k).toList==key.toList)=true:=by simp[hK]
   have s:=O<|gQ h2 h3 h5 hi key (by rw[z p];exact o) hK;clear hK;go_wp2;go_ret;exact⟨ql s,d⟩
  have C:((DU f i k).toList==key.toList)=false:=by simp[hK]
  have HK:=O hK;clear hK;go_wp2;go_roundw
  .refine⟨k+1,om,ov,trivial,λj hj=>?_⟩;by_cases e:j=k
   .rw[e];exact HK
   exact a j om
  exact ow
 have s:=O<|Vc h2 h3 hi key λj hj=>a j (by rw[z p]at hj;omega);go_wp2;go_ret;exact⟨ql s,d⟩
def bare(d:Dc):Prop:=d.n=0/\d.m=0/\d.x=0/\d.used=0/\d.live=0/\d.turns=0
def Jb(v:Vl):Bool:=v.ok&&v.kind !=0
def U5(s:AE)(j:Nat)(t:Tb):Prop:=(t.nv:Int)=(s.F j).count/\bare t.d/\∀i,i<t.nv->Jb (t.V i)=true
def Ld(s:AE)(D:Int)(t:Tb):Prop:=
 (t.shape=-1/\t.nv=0/\D=0)\/(0<=t.shape/\t.shape<s.nf/\U5 s t.shape.toNat t)
def Ob(s:AE)(x:Si):Prop:=x.key.size<=4000/\0<=x.BO/\0<=x.misses/\x.BO<=1000000000000/\x.misses<=1000000000000/\((x.shape=-1/\x.place=0)\/(0<=x.shape/\x.shape<s.nf/\0<=x.place/\Bj s.F x.shape.toNat x.key=x.place))
open Classical in
noncomputable def A6(s:AE)(D:Nat->Int):Int:=
 if Ar s.nf s.F=0 then if s.nt<=100/\s.ns<=50 then if∀i,i<s.nt->Ld s (D i) (s.T i)then if∀i,i<s.ns->Ob s (s.S i)then 0 else 4 else 3 else 2 else 1
def JL(h:Ar s.nf s.F≠0):A6 s D=1:=C3 h
theorem JM(h1:Ar s.nf s.F=0)(h:¬(s.nt<=100/\s.ns<=50)):A6 s D=2:=by unfold A6;rw[DD h1,C3 h]
theorem JN(h1:Ar s.nf s.F=0)(h2:s.nt<=100/\s.ns<=50)(h:¬∀i,i<s.nt->Ld s (D i) (s.T i)):A6 s D=3:=by unfold A6;rw[DD h1,DD h2,C3 h]
def L5(h1:Ar s.nf s.F=0)(h2:s.nt<=100/\s.ns<=50)(h3:∀i,i<s.nt->Ld s (D i) (s.T i))(h:¬∀i,i<s.ns->Ob s (s.S i)):A6 s D=4:=by unfold A6;rw[DD h1,DD h2,DD h3,C3 h]
def JK(h1:Ar s.nf s.F=0)(h2:s.nt<=100/\s.ns<=50)(h3:∀i,i<s.nt->Ld s (D i) (s.T i))(h:∀i,i<s.ns->Ob s (s.S i)):A6 s D=0:=by unfold A6;rw[DD h1,DD h2,DD h3,DD h]
def L6(h:A6 s D=0):Ar s.nf s.F=0/\(s.nt<=100/\s.ns<=50)/\(∀i,i<s.nt->Ld s (D i) (s.T i))/\∀i,i<s.ns->Ob s (s.S i):=by
 grind [A6,Ar,Ld,Ob]
def Py la lc ia ic xa xc d w:
  C9 48 #[Dv la lc ia ic xa xc d] w (R9 (.bool<|tells<|bare d) w):=by
 have e:∀o,B9 w<|w.alloc o:=λo=>n9;have b:=O e;by_cases h1:((d.n:Int)==0)=true
 case neg=>
  have a:=O<|Ag (p:=bare d) (λh=>by unfold bare at h;simp at h1;omega);have f:((d.n:Int)==0)=false:=by simpa using h1
  go_enter func48,ntmps48;go_wp2;go_ret;exact⟨ql a,b _⟩
 by_cases h2:((d.m:Int)==0)=true
 case neg=>
  have a:=O<|Ag (p:=bare d) (λh=>by unfold bare at h;simp at h2;omega);have g:((d.m:Int)==0)=false:=by simpa using h2
  go_enter func48,ntmps48;go_wp2;go_ret;exact⟨ql a,b _⟩
 by_cases h3:((d.x:Int)==0)=true
 case neg=>
  have a:=O<|Ag (p:=bare d) (λh=>by unfold bare at h;simp at h3;omega);have i:((d.x:Int)==0)=false:=by simpa using h3
  go_enter func48,ntmps48;go_wp2;go_ret;exact⟨ql a,b _⟩
 by_cases h4:(d.used==0)=true
 case neg=>
  have a:=O<|Ag (p:=bare d) (λh=>by unfold bare at h;simp at h4;omega);have j:(d.used==0)=false:=by simpa using h4
  go_enter func48,ntmps48;go_wp2;go_ret;exact⟨ql a,b _⟩
 by_cases h5:(d.live==0)=true
 case neg=>
  have a:=O<|Ag (p:=bare d) (λh=>by unfold bare at h;simp at h5;omega);have k:(d.live==0)=false:=by simpa using h5
  go_enter func48,ntmps48;go_wp2;go_ret;exact⟨ql a,b _⟩
 by_cases c:(d.turns==0)=true
 case neg=>
  have a:=O<|Ag (p:=bare d) (λh=>by unfold bare at h;simp at c;omega);have l:(d.turns==0)=false:=by simpa using c
  go_enter func48,ntmps48;go_wp2;go_ret;exact⟨ql a,b _⟩
 have a:=O<|Al (p:=bare d) (by simp at h1 h2 h3 h4 h5 c;exact⟨h1,h2,h3,h4,h5,c⟩);go_enter func48,ntmps48;go_wp2;go_ret;exact⟨ql a,b _⟩
def XT(la:T9)(lc:Nat)(ia:T9)(ic:Nat)(xa:T9)(xc:Nat)(d:Dc)(D:Int):Prop:=
 ∀W:World,FJ W la ia xa d->C9 46 #[Dv la lc ia ic xa xc d] W (R9 (J D) W)
def S4 m k ta tc sa sc s va vc{la:Option Addr}{lc}{ia:Option Addr}{ic}{xa:Option Addr}{xc}t{D}{w}(hA:FJ w la ia xa t.d)(hD:XT la lc ia ic xa xc t.d D)(j:t.shape<0):
  C9 19 #[NF (some<|G m 0) k ta tc sa sc s,TV va vc la lc ia ic xa xc t] w (R9 (.bool<|tells<|Ld s D t) w):=by
 have a:∀o1 o2,B9 w<|(w.alloc o1).alloc o2:=λo1 o2=>(n9).alloc oq _;rcases O a,O hA,O hD with⟨b,l,n⟩;clear a hA hD;by_cases h2:(t.shape==-1)=true
 case neg=>
  have f:=O<|Ag (p:=Ld s D t) (λh=>by simp at h2;rcases h with h|h<;>omega);have o:(t.shape==-1)=false:=by simpa using h2
  clear h2;go_enter func19,ntmps19;go_wp2;go_ret;exact⟨ql f,b _ _⟩
 by_cases h3:((t.nv:Int)==0)=true
 case neg=>
  have f:=O<|Ag (p:=Ld s D t) (λh=>by simp at h2 h3;rcases h with h|h<;>omega);have q:((t.nv:Int)==0)=false:=by simpa using h3
  clear h3;go_enter func19,ntmps19;go_wp2;go_ret;exact⟨ql f,b _ _⟩
 have r:Hid<|tells (Ld s D t)=(D==0):=O (by
  simp at h2 h3;by_cases g:D=0
  .rw[Al (.inl ⟨h2,h3,g⟩)];simp[g]
  rw[Ag (λh=>by rcases h with h|h<;>omega)];simp[g])
 go_enter func19,ntmps19;go_wp2_with fail;refine(n _<|l.below<|b _ _).mono ?_;rintro e w1 ⟨rfl,c⟩;have i:=O<|o9 (b _ _) c;clear c;go_wp2;go_ret;exact⟨by rw[z r]<;>rfl,i⟩
abbrev TJ(j:Nat)(va:T9)(vc:Nat)(la:T9)(lc:Nat)(ia:T9)(ic:Nat)(xa:T9)(xc:Nat)(t:Tb):Value:=.agg #[J (j:Int),.slice va t.nv vc,.slice la t.d.n lc,.slice ia t.d.m ic,.slice xa t.d.x xc,J t.d.used,J t.d.live,J t.d.turns]
def WU H ta tc sa sc s{va:Option Addr}vc la lc ia ic xa xc t j{w}(hF:BQ w m s.nf s.F)(hN:s.nf<=1048576)(hV:IX w va t.nv t.V)(hn:t.nv<=1048576):
  C9 19 #[NF (some<|G m 0) H ta tc sa sc s,TJ j va vc la lc ia ic xa xc t] w (R9 (.bool<|tells<|j<s.nf/\U5 s j t) w):=by
 have T:=hF.lt;have HV:=O hV;clear hV;obtain⟨W,D,E,U,_,o1⟩:=TM w (.cells #[.slice (some<|G m 0) s.nf H,.slice ta s.nt tc,.slice sa s.ns sc] 29)<|.cells #[J (j:Int),.slice va t.nv vc,.slice la t.d.n lc,.slice ia t.d.m ic,.slice xa t.d.x xc,J t.d.used,J t.d.live,J t.d.turns] 71;have x0:W.cell? (y w 0)=some (.slice (some<|G m 0) s.nf H):=by rw[D];simp[go_sem]
 obtain⟨y0,y1,y2,y3,y4,y5,y6,y7⟩:=v8 o1;have l0:w.heap.size<W.heap.size:=om;have l1:w.heap.size+1<W.heap.size:=om;have lm:m<W.heap.size:=om;rcases O (hF.below E T),O<|HV.below E rfl,O E with⟨X,Z,l⟩;clear E U;have aj:((j:Int)<0)=False:=oq;by_cases hj:j<s.nf
 case neg=>
  have v:=O<|Ag (p:=j<s.nf/\U5 s j t) λh=>hj h.1;have P:(decide ((0:Int)<=(j:Int))&&decide ((j:Int)<(s.nf:Int)))=false:=ot;clear hj;go_enter func19,ntmps19;go_wp2_with fail;rw[<-D];clear D;refine qr W ?_;(iterate 4 refine N (h:=?_));refine GS λK hK=>?_;go_simp;apply Exists.intro;refine qp (λw' a=>?_)<|hK _ ?_
  .refine(P▸D8 m s.nf H (j:Int) _).mono ?_;rintro e A ⟨rfl,hb⟩;exact⟨rfl,o9 a hb⟩
  clear hK K;refine N (h:=N (h:=?_));iterate 12 (go_big_quiet_step (fail))
  refine N (h:=N (h:=?_));iterate 4 (go_big_quiet_step (fail))
  refine N (h:=?_);refine Hz ?_;intro w2 c;have f:=O<|o9 l c;clear c;go_wp2;go_ret;exact⟨ql v,f⟩
 have P:(decide ((0:Int)<=(j:Int))&&decide ((j:Int)<(s.nf:Int)))=true:=ot;obtain⟨c0,c1,c2⟩:=X.cells hj;by_cases hc:((t.nv:Int)!=(s.F j).count)=true
 case pos=>
  have v:=O<|Ag (p:=j<s.nf/\U5 s j t) (λh=>by have:=h.2.1;simp at hc;exact hc this);go_enter func19,ntmps19;go_wp2_with fail;rw[<-D];clear D;refine qr W ?_;(iterate 4 refine N (h:=?_));refine GS λK hK=>?_;go_simp;apply Exists.intro;refine qp (λw' a=>?_)<|hK _ ?_
  .refine(P▸D8 m s.nf H (j:Int) _).mono ?_;rintro e A ⟨rfl,hb⟩;exact⟨rfl,o9 a hb⟩
  clear hK K;(iterate 12 refine N (h:=?_));(iterate 4 refine N (h:=?_));iterate 4 (go_big_quiet_step (fail))
  refine N (h:=?_);refine Hz ?_;intro w2 c;have f:=O<|o9 l c;clear c;go_wp2;go_ret;exact⟨ql v,f⟩
 have ak:((t.nv:Int)!=(s.F j).count)=false:=by simpa using hc
 have Q:(t.nv:Int)=(s.F j).count:=by simpa using hc
 have ad:=O Q;clear hc Q;by_cases B:bare t.d
 case neg=>
  have v:=O<|Ag (p:=j<s.nf/\U5 s j t) λh=>B h.2.2.1;have I:=Ag B;clear B;go_enter func19,ntmps19;go_wp2_with fail;rw[<-D];clear D;refine qr W ?_;(iterate 4 refine N (h:=?_));refine GS λK hK=>?_;go_simp;apply Exists.intro;refine qp (λw' a=>?_)<|hK _ ?_
  .refine(P▸D8 m s.nf H (j:Int) _).mono ?_;rintro e A ⟨rfl,hb⟩;exact⟨rfl,o9 a hb⟩
  clear hK K;(iterate 12 refine N (h:=?_));(iterate 6 refine N (h:=?_));refine GS λK hK=>?_;go_simp;apply Exists.intro;refine qp (λw' a=>?_)<|hK _ ?_
  .refine(I▸Py la lc ia ic xa xc t.d _).mono ?_;rintro e A ⟨rfl,hb⟩;exact⟨rfl,o9 a hb⟩
  clear hK K;refine N (h:=N (h:=?_));refine Hz ?_;intro w2 c;have f:=o9 l c;clear c;go_wp2;go_ret;exact⟨ql v,f⟩
 have I:=Al B;go_enter func19,ntmps19;go_wp2_with fail;rw[<-D];clear D;refine qr W ?_;(iterate 4 refine N (h:=?_));refine GS λK hK=>?_;go_simp;apply Exists.intro;refine qp (λw' a=>?_)<|hK _ ?_
 .refine(P▸D8 m s.nf H (j:Int) _).mono ?_;rintro e A ⟨rfl,hb⟩;exact⟨rfl,o9 a hb⟩
 clear hK K;(iterate 12 refine N (h:=?_));(iterate 6 refine N (h:=?_));refine GS λK hK=>?_;go_simp;apply Exists.intro;refine qp (λw' a=>?_)<|hK _ ?_
 .refine(I▸Py la lc ia ic xa xc t.d _).mono ?_;rintro e A ⟨rfl,hb⟩;exact⟨rfl,o9 a hb⟩
 clear hK K;refine N (h:=N (h:=?_));refine Hz ?_;intro w2 c;rcases (c.cell l1).trans y1,Z.below c rfl,o9 l c,A0 l1 c.size with⟨q1,ae,f,l2⟩;clear c c0 c1 c2 x0 y0 y1 y2 y3 y4 y5 y6 y7;go_wp2;go_loopw [54] (λi wr=>∃(k:Nat),k<=t.nv/\i=J k/\B9 w2 wr/\∀q,q<k->Jb (t.V q)=true) λi _=>t.nv-(intOf i).toNat
 .exact⟨0,om,rfl,BE _ _,λq hq=>om⟩
 obtain⟨k,hk,rfl,hb,r⟩:=hrel;by_cases L:k<t.nv
 case neg=>
  have af:k=t.nv:=om;have v:=O<|Al (p:=j<s.nf/\U5 s j t) ⟨hj,ad,B,λi hi=>r i om⟩;have u:=O<|o9 f hb;subst af;clear hb r;go_wp2;go_ret;exact⟨ql v,u⟩
 obtain⟨b,off,rfl,ag,hcs⟩:=ae.resolve_left om;obtain⟨e0,e1,e2,e3,e4⟩:=(hcs k L).keep λq=>hb.cell ag;have ao:=hb.size;have u:Hid<|∀o,B9 w<|wr.alloc o:=O λo=>(o9 f hb).alloc (oT f.size) _;have R:Hid<|∀o,B9 w2<|wr.alloc o:=O λo=>hb.alloc om _;have S:=O r;clear hcs hb r;cases M:(t.V k).ok
 .have hv':Bf (t.V k).kind (t.V k).num (t.V k).Ah (t.V k).str (t.V k).ref=false:=M;have v:=O<|Ag (p:=j<s.nf/\U5 s j t) (λh=>by have:=h.2.2.2 k L;unfold Jb at this;rw[M]at this;cases this);clear M;go_wp2_with fail;refine m9 (BA (t.V k).kind (t.V k).num (t.V k).Ah (t.V k).str (t.V k).ref _) λw3 g=>?_;rw[hv'];have C:=o9 (u _) g;clear g e0 e1 e2 e3 e4;go_wp2;go_ret;exact⟨ql v,C⟩
 have hv':Bf (t.V k).kind (t.V k).num (t.V k).Ah (t.V k).str (t.V k).ref=true:=M;by_cases hz:((t.V k).kind==0)=true
 .have v:=O<|Ag (p:=j<s.nf/\U5 s j t) (λh=>by have:=h.2.2.2 k L;unfold Jb at this;simp at hz;simp[hz]at this);clear M;go_wp2_with fail;refine m9 (BA (t.V k).kind (t.V k).num (t.V k).Ah (t.V k).str (t.V k).ref _) λw3 g=>?_;rw[hv'];obtain⟨ah,ai⟩:=BF g;have C:=o9 (u _) g;clear g e0 e1 e2 e3 e4;go_wp2;go_ret;exact⟨ql v,C⟩
 have aq:((t.V k).kind==0)=false:=by simpa using hz
 have HO:Hid<|Jb (t.V k)=true:=O (by unfold Jb;rw[M];simp at hz;simp[hz]);clear M hz;go_wp2_with fail;refine m9 (BA (t.V k).kind (t.V k).num (t.V k).Ah (t.V k).str (t.V k).ref _) λw3 g=>?_;rw[hv'];obtain⟨ah,ai⟩:=BF g;have C:=o9 (R _) g;clear g e0 e1 e2 e3 e4;go_wp2;go_roundw
 .refine⟨k+1,om,ov,C,λq hq=>?_⟩;by_cases e:q=k
  .subst e;exact HO
  exact S q om
 exact ow
def UR a ta tc sa sc s{va:Option Addr}vc{la:Option Addr}{lc}{ia:Option Addr}{ic}{xa:Option Addr}{xc}t{D}{w}(b:BQ w m s.nf s.F)(hN:s.nf<=1048576)(f:IX w va t.nv t.V)(hn:t.nv<=1048576)(hA:FJ w la ia xa t.d)(hD:XT la lc ia ic xa xc t.d D):
  C9 19 #[NF (some<|G m 0) a ta tc sa sc s,TV va vc la lc ia ic xa xc t] w (R9 (.bool<|tells<|Ld s D t) w):=by
 by_cases h:t.shape<0
 .exact S4 m a ta tc sa sc s va vc t hA hD h
 obtain⟨j,hj⟩:∃j:Nat,t.shape=j:=⟨t.shape.toNat,om⟩;have h1:=WU a ta tc sa sc s vc la lc ia ic xa xc t j b hN f hn;have e:(j<s.nf/\U5 s j t)↔Ld s D t:=by
  constructor
  .intro h;refine .inr ⟨om,om,?_⟩;rw[hj];exact h.2
  intro h;rcases h with h|h
  .omega
  refine⟨om,?_⟩;have:=h.2.2;rwa [hj]at this
 have e':tells (j<s.nf/\U5 s j t)=tells (Ld s D t):=by
  by_cases q:Ld s D t
  .rw[Al q,Al (e.2 q)]
  rw[Ag q,Ag (λc=>q (e.1 c))]
 rw[e']at h1;rw[TV,hj];exact h1
def QA va nv vc la lc ia ic xa xc d w:
  C9 225 #[.agg #[.slice va nv vc,.slice la d.n lc,.slice ia d.m ic,.slice xa d.x xc,J d.used,J d.live,J d.turns]] w (R9 (.bool<|tells<|bare d) w):=by
 have e:∀o1 o2,B9 w<|(w.alloc o1).alloc o2:=λo1 o2=>(n9).alloc oq _;have b:=O e;by_cases h1:((d.n:Int)==0)=true
 case neg=>
  have a:=O<|Ag (p:=bare d) (λh=>by unfold bare at h;simp at h1;omega);have f:((d.n:Int)==0)=false:=by simpa using h1
  go_enter func225,ntmps225;go_wp2;go_ret;exact⟨ql a,b _ _⟩
 by_cases h2:((d.m:Int)==0)=true
 case neg=>
  have a:=O<|Ag (p:=bare d) (λh=>by unfold bare at h;simp at h2;omega);have g:((d.m:Int)==0)=false:=by simpa using h2
  go_enter func225,ntmps225;go_wp2;go_ret;exact⟨ql a,b _ _⟩
 by_cases h3:((d.x:Int)==0)=true
 case neg=>
  have a:=O<|Ag (p:=bare d) (λh=>by unfold bare at h;simp at h3;omega);have i:((d.x:Int)==0)=false:=by simpa using h3
  go_enter func225,ntmps225;go_wp2;go_ret;exact⟨ql a,b _ _⟩
 by_cases h4:(d.used==0)=true
 case neg=>
  have a:=O<|Ag (p:=bare d) (λh=>by unfold bare at h;simp at h4;omega);have j:(d.used==0)=false:=by simpa using h4
  go_enter func225,ntmps225;go_wp2;go_ret;exact⟨ql a,b _ _⟩
 by_cases h5:(d.live==0)=true
 case neg=>
  have a:=O<|Ag (p:=bare d) (λh=>by unfold bare at h;simp at h5;omega);have k:(d.live==0)=false:=by simpa using h5
  go_enter func225,ntmps225;go_wp2;go_ret;exact⟨ql a,b _ _⟩
 by_cases c:(d.turns==0)=true
 case neg=>
  have a:=O<|Ag (p:=bare d) (λh=>by unfold bare at h;simp at c;omega);have l:(d.turns==0)=false:=by simpa using c
  go_enter func225,ntmps225;go_wp2;go_ret;exact⟨ql a,b _ _⟩
 have a:=O<|Al (p:=bare d) (by simp at h1 h2 h3 h4 h5 c;exact⟨h1,h2,h3,h4,h5,c⟩);go_enter func225,ntmps225;go_wp2;go_ret;exact⟨ql a,b _ _⟩
abbrev xG(va:T9)(vc:Nat)(la:T9)(lc:Nat)(ia:T9)(ic:Nat)(xa:T9)(xc:Nat)(t:Tb):Value:=.agg #[.slice va t.nv vc,.slice la t.d.n lc,.slice ia t.d.m ic,.slice xa t.d.x xc,J t.d.used,J t.d.live,J t.d.turns]
abbrev kY(p:Nat)(va:T9)(vc:Nat)(la:T9)(lc:Nat)(ia:T9)(ic:Nat)(xa:T9)(xc:Nat)(t:Tb):Value:=.agg #[.slice va t.nv vc,.slice la t.d.n lc,.slice ia t.d.m ic,.slice xa t.d.x xc,J t.d.used,J t.d.live,J t.d.turns,Q9 p]
def Lb(t:Tb):Prop:=∀i,i<t.nv->Jb (t.V i)=true
def Jk vc la lc ia ic xa xc t c{w}(H:IX w va t.nv t.V)(hn:t.nv<=1048576):
  C9 234 #[xG va vc la lc ia ic xa xc t,J c] w (R9 (.bool<|tells<|Lb t/\(t.nv:Int)=c) w):=by
 obtain⟨W,A,g,_⟩:=Ll w<|.cells #[.slice va t.nv vc,.slice la t.d.n lc,.slice ia t.d.m ic,.slice xa t.d.x xc,J t.d.used,J t.d.live,J t.d.turns] 151;have B:w.heap.size<W.heap.size:=by rw[A];simp
 have x0:W.cell? (y w 0)=some (.slice va t.nv vc):=by rw[A];simp[go_sem]
 have I:=H.below g rfl;go_enter func234,ntmps234;go_wp2;rw[<-A];go_loopw [10] (λi wr=>∃(k:Nat),k<=t.nv/\i=J k/\B9 W wr/\∀q,q<k->Jb (t.V q)=true) λi _=>t.nv-(intOf i).toNat
 .exact⟨0,om,rfl,BE _ _,λq hq=>om⟩
 obtain⟨k,hk,rfl,hb,j⟩:=hrel;have P:=(hb.cell B).trans x0;by_cases l:k<t.nv
 case neg=>
  have C:k=t.nv:=om;have s:Hid<|tells (Lb t/\(t.nv:Int)=c)=((t.nv:Int)==c):=O (by
   by_cases e:(t.nv:Int)=c
   .rw[Al ⟨λi hi=>j i om,e⟩];simp[e]
   rw[Ag (λh=>e h.2)];simp[e])
  have f:=O<|o9 g hb;subst C;go_wp2;go_ret;exact⟨by rw[z s]<;>rfl,f⟩
 obtain⟨b,off,rfl,D,hcs⟩:=I.resolve_left om;obtain⟨e0,e1,e2,e3,Q⟩:=(hcs k l).keep λq=>hb.cell D;have K:=hb.size;have f:Hid<|∀o,B9 w<|wr.alloc o:=O λo=>(o9 g hb).alloc om _;have u:Hid<|∀o,B9 W<|wr.alloc o:=O λo=>hb.alloc om _;cases v:(t.V k).ok
 .have hv':Bf (t.V k).kind (t.V k).num (t.V k).Ah (t.V k).str (t.V k).ref=false:=v;have s:=O<|Ag (p:=Lb t/\(t.nv:Int)=c) (λh=>by have:=h.1 k l;unfold Jb at this;rw[v]at this;cases this);go_wp2_with fail;refine m9 (Cu (t.V k).kind (t.V k).num (t.V k).Ah (t.V k).str (t.V k).ref _) λw3 a=>?_;rw[hv'];have r:=o9 (f _) a;go_wp2;go_ret;exact⟨ql s,r⟩
 have hv':Bf (t.V k).kind (t.V k).num (t.V k).Ah (t.V k).str (t.V k).ref=true:=v;by_cases hz:((t.V k).kind==0)=true
 .have s:=O<|Ag (p:=Lb t/\(t.nv:Int)=c) (λh=>by have:=h.1 k l;unfold Jb at this;simp at hz;simp[hz]at this);go_wp2_with fail;refine m9 (Cu (t.V k).kind (t.V k).num (t.V k).Ah (t.V k).str (t.V k).ref _) λw3 a=>?_;rw[hv'];obtain⟨E,F⟩:=BF a;have r:=o9 (f _) a;go_wp2;go_ret;exact⟨ql s,r⟩
 have L:((t.V k).kind==0)=false:=by simpa using hz
 have M:Hid<|Jb (t.V k)=true:=O (by unfold Jb;rw[v];simp at hz;simp[hz]);go_wp2_with fail;refine m9 (Cu (t.V k).kind (t.V k).num (t.V k).Ah (t.V k).str (t.V k).ref _) λw3 a=>?_;rw[hv'];obtain⟨E,F⟩:=BF a;go_wp2;go_roundw
 .refine⟨k+1,om,ov,z<|o9 (u _) a,λq hq=>?_⟩;by_cases e:q=k
  .subst e;exact M
  exact z (O j) q om
 exact ow
def cJ(T:World->Prop)(la:T9)(lc:Nat)(ia:T9)(ic:Nat)(xa:T9)(xc:Nat)(d:Dc)(D:Int):Prop:=
 ∀W:World,T W->FJ W la ia xa d->C9 235 #[Dv la lc ia ic xa xc d] W (R9 (J D) W)
def Mc{T}(r:EJ T){va:Option Addr}vc{la:Option Addr}{lc}{ia:Option Addr}{ic}{xa:Option Addr}{xc}t{D}{w:Y}(s:T w)(u:IX w va t.nv t.V)(hn:t.nv<=1048576)(hA:FJ w la ia xa t.d)(hD:cJ T la lc ia ic xa xc t.d D):
  C9 229 #[xG va vc la lc ia ic xa xc t] w (R9 (.bool<|tells<|t.nv=0/\D=0) w):=by
 obtain⟨W,f,c,_⟩:=Ll w<|.cells #[.slice va t.nv vc,.slice la t.d.n lc,.slice ia t.d.m ic,.slice xa t.d.x xc,J t.d.used,J t.d.live,J t.d.turns] 153;have b:w.heap.size<W.heap.size:=by rw[f];simp
 obtain⟨x0,x1,x2,v,x4,A,B⟩:W.cell? (y w 0)=some (.slice va t.nv vc)/\W.cell? (y w 1)=some (.slice la t.d.n lc)/\W.cell? (y w 2)=some (.slice ia t.d.m ic)/\W.cell? (y w 3)=some (.slice xa t.d.x xc)/\W.cell? (y w 4)=some (J t.d.used)/\W.cell? (y w 5)=some (J t.d.live)/\W.cell? (y w 6)=some (J t.d.turns):=by rw[f];simp[go_sem]
 go_enter func229,ntmps229;go_wp2_with fail;rw[<-f];refine m9 (Jk vc la lc ia ic xa xc t 0 (z<|u.below c rfl) hn) λw1 a=>?_;obtain⟨E,p1,p2,F,H,I,K⟩:w1.cell? (y w 0)=some (.slice va t.nv vc)/\w1.cell? (y w 1)=some (.slice la t.d.n lc)/\w1.cell? (y w 2)=some (.slice ia t.d.m ic)/\w1.cell? (y w 3)=some (.slice xa t.d.x xc)/\w1.cell? (y w 4)=some (J t.d.used)/\w1.cell? (y w 5)=some (J t.d.live)/\w1.cell? (y w 6)=some (J t.d.turns):=
  ⟨o7 a b x0,o7 a b x1,o7 a b x2,o7 a b v,o7 a b x4,o7 a b A,o7 a b B⟩
 rcases (z<|hA.below c).below a,O<|r _ _ (z<|O<|r _ _ s c) a,o9 c a with⟨k,l,g⟩;by_cases o:t.nv=0
 case neg=>
  rw[Ag (p:=Lb t/\(t.nv:Int)=0) (λh=>o om)];go_wp2;go_ret;exact⟨by rw[z (O (Ag (p:=t.nv=0/\D=0) (λh=>o h.1)))];rfl,g⟩
 rw[Al (p:=Lb t/\(t.nv:Int)=0) ⟨λi hi=>om,om⟩];have C:Hid<|tells (t.nv=0/\D=0)=(D==0):=O (by
  by_cases j:D=0
  .rw[Al ⟨o,j⟩];simp[j]
  rw[Ag (λh=>j h.2)];simp[j])
 go_wp2_with fail
 refine(hD _ l k).mono ?_;rintro e w2 ⟨rfl,q⟩;go_wp2;go_ret;exact⟨by rw[z C]<;>rfl,z<|o9 g q⟩
def NS vc la lc ia ic xa xc t s j p{w}(r:IX w va t.nv t.V)(hn:t.nv<=1048576)(hp:p<w.heap.size)(h3:w.cell? (G p 3)=some (J (s.F j).count)):
  C9 252 #[kY p va vc la lc ia ic xa xc t] w (R9 (.bool<|tells<|U5 s j t) w):=by
 obtain⟨W,b⟩:=qa<|w.alloc<|.cells #[.slice va t.nv vc,.slice la t.d.n lc,.slice ia t.d.m ic,.slice xa t.d.x xc,J t.d.used,J t.d.live,J t.d.turns,.pointer (some<|G p 0)] 156;have c:B9 w W:=by rw[b];exact(BE _ _).alloc (Be _) _
 have u:w.heap.size<W.heap.size:=by rw[b];simp
 obtain⟨x0,x1,x2,v,x4,A,B,C⟩:W.cell? (y w 0)=some (.slice va t.nv vc)/\W.cell? (y w 1)=some (.slice la t.d.n lc)/\W.cell? (y w 2)=some (.slice ia t.d.m ic)/\W.cell? (y w 3)=some (.slice xa t.d.x xc)/\W.cell? (y w 4)=some (J t.d.used)/\W.cell? (y w 5)=some (J t.d.live)/\W.cell? (y w 6)=some (J t.d.turns)/\W.cell? (y w 7)=some (.pointer<|some<|G p 0):=by rw[b];simp[go_sem]
 have D:=o7 c hp h3;have E:p<W.heap.size:=om;have q:=O<|r.below c rfl;by_cases h1:Lb t/\(t.nv:Int)=(s.F j).count
 case neg=>
  have i:=O<|Ag (p:=U5 s j t) λh=>h1 ⟨h.2.2,h.1⟩;have k:=Ag h1;go_enter func252,ntmps252;go_wp2_with fail;rw[<-b];clear b;refine qr W ?_;(iterate 8 refine N (h:=?_));refine GS λK hK=>?_;go_simp;apply Exists.intro;refine qp (λw' a=>?_)<|hK _ ?_
  .refine(k▸Jk vc la lc ia ic xa xc t (s.F j).count (q.below a rfl) hn).mono ?_;rintro e l ⟨rfl,hb⟩;exact⟨rfl,o9 a hb⟩
  clear hK K;refine N (h:=?_);iterate 3 (go_big_quiet_step (fail))
  refine N (h:=N (h:=?_));refine Hz ?_;intro w2 g;have o:=o9 c g;go_wp2;go_ret;exact⟨ql i,o⟩
 have i:Hid<|tells (U5 s j t)=tells (bare t.d):=O (by
  by_cases f:bare t.d
  .rw[Al f,Al (p:=U5 s j t) ⟨h1.2,f,h1.1⟩]
  rw[Ag f,Ag (p:=U5 s j t) (λh=>f h.2.1)])
 go_enter func252,ntmps252;go_wp2_with fail;rw[<-b];clear b;refine qr W ?_;(iterate 8 refine N (h:=?_));refine GS λK hK=>?_;go_simp;apply Exists.intro;refine qp (λw' a=>?_)<|hK _ ?_
 .refine((Al h1)▸Jk vc la lc ia ic xa xc t (s.F j).count (q.below a rfl) hn).mono ?_;rintro e l ⟨rfl,hb⟩;exact⟨rfl,o9 a hb⟩
 clear hK K;refine N (h:=N (h:=N (h:=?_)));refine GS λK hK=>?_;go_simp;refine⟨_,λw' a=>qk a<|QA va t.nv vc la lc ia ic xa xc t.d _,hK _ ?_⟩;clear hK K;refine N (h:=N (h:=?_));refine Hz ?_;intro w2 g;go_wp2;go_ret;exact⟨by rw[z i]<;>rfl,z<|o9 c g⟩
def D7 n w:
  C9 87 #[J n] w (R9 (.bool<|decide (0<=n)&&decide (n<=1000000000000)) w):=by
 go_enter func87,ntmps87;go_wp2;all_goals(go_ret;refine⟨?_,BE _ _⟩;first|(simp_all;done)|(simp_all;omega))
def Fz a n cap i w:
  C9 86 #[J i,.slice a n cap] w (R9 (.bool<|decide (0<=i)&&decide (i<n)) w):=by
 go_enter func86,ntmps86;go_wp2;all_goals(go_ret;refine⟨?_,BE _ _⟩;first|(simp_all;done)|(simp_all;omega))
def YA(x:Si):Prop:=x.key.size<=4000/\0<=x.BO/\0<=x.misses/\x.BO<=1000000000000/\x.misses<=1000000000000
def pT{x}(h:Ob s x):YA x:=⟨h.1,h.2.1,h.2.2.1,h.2.2.2.1,h.2.2.2.2.1⟩
def U6{x}(a:YA x)(h:x.shape=-1):tells (Ob s x)=(x.place==0):=by
 grind [YA,tells,Ob,Ag]
def YB{x:Si}(h1:x.shape≠-1)(h:¬(0<=x.shape/\x.shape<s.nf/\0<=x.place)):tells (Ob s x)=false:=
 Ag (λq=>by
  rcases q.2.2.2.2.2 with q|q
  .exact h1 q.1
  exact h ⟨q.1,q.2.1,q.2.2.1⟩)
def gD{x}{j:Nat}(a:YA x)(hj:x.shape=j)(hn:j<s.nf)(hp:0<=x.place):tells (Ob s x)=(Bj s.F j x.key==x.place):=by
 grind [YA,tells,Ob,Bj,Ag]
abbrev SJ(j:Int)(x:Si):Value:=.agg #[.string x.key,J j,J x.place,J x.BO,J x.misses]
def WT m d ta tc sa sc s x w(hk:x.key.size<=maxLen)(h:¬YA x):
  C9 20 #[NF (some<|G m 0) d ta tc sa sc s,SV x] w (R9 (.bool false) w):=by
 unfold maxLen at hk;have b:∀o1 o2,B9 w<|(w.alloc o1).alloc o2:=λo1 o2=>(n9).alloc oq _;have c:=O b;clear b;have a:=O h;clear h;by_cases h1:4000<x.key.size
 .clear a;go_enter func20,ntmps20;go_wp2;go_ret;exact⟨rfl,c _ _⟩
 by_cases h2:x.BO<0
 .clear a;go_enter func20,ntmps20;go_wp2;go_ret;exact⟨rfl,c _ _⟩
 by_cases h3:x.misses<0
 .clear a;go_enter func20,ntmps20;go_wp2;go_ret;exact⟨rfl,c _ _⟩
 by_cases h4:1000000000000<x.BO
 focus
  clear a
 rotate_left
 focus
  have h5:1000000000000<x.misses:=by
   have:=z a;rcases Int.lt_or_le 1000000000000 x.misses with q|q
   .exact q
   exact absurd (⟨om,om,om,om,q⟩:YA x) this
  clear a
 all_goals
  go_enter func20,ntmps20;go_wp2;go_ret;exact⟨rfl,c _ _⟩
def QT a n cp x w(hk:x.key.size<=maxLen)(h:¬YA x):
  C9 45 #[SV x,.slice a n cp] w (R9 (.bool false) w):=by
 unfold maxLen at hk;have d:∀o1,B9 w<|w.alloc o1:=λo1=>n9;have e:=O d;clear d;have g:=O h;clear h;by_cases h1:4000<x.key.size
 .clear g;go_enter func45,ntmps45;go_wp2;go_ret;exact⟨rfl,e _⟩
 by_cases h2:0<=x.BO/\x.BO<=1000000000000
 case neg=>
  have i:(decide (0<=x.BO)&&decide (x.BO<=1000000000000))=false:=ot;clear g h2;go_enter func45,ntmps45;go_wp2_with fail;refine m9 (D7 x.BO _) λw1 b=>?_;rw[i];have c:=O<|o9 (e _) b;clear b;go_wp2;go_ret;exact⟨rfl,c⟩
 have i:(decide (0<=x.BO)&&decide (x.BO<=1000000000000))=true:=ot;have j:(decide (0<=x.misses)&&decide (x.misses<=1000000000000))=false:=by
  have:=z g;rw[Bool.eq_false_iff];intro q;simp at q;exact this ⟨om,om,om,om,om⟩
 clear g h2;go_enter func45,ntmps45;go_wp2_with fail;refine m9 (D7 x.BO _) λw1 b=>?_;rw[i];obtain⟨k,l⟩:=BF b;have m:=b.size;simp at m;have p:w.heap.size<w1.heap.size:=om;have c:=O<|o9 (e _) b;clear b;go_wp2_with fail;refine m9 (D7 x.misses _) λw2 f=>?_;rw[j];have o:=O<|o9 c f;clear f k l;go_wp2;go_ret;exact⟨rfl,o⟩
def UQ m b ta tc sa sc s{x}w(c:YA x):
  C9 20 #[NF (some<|G m 0) b ta tc sa sc s,SJ (-1) x] w (R9 (.bool<|x.place==0) w):=by
 obtain⟨h1,h2,h3,h4,h5⟩:=c;have a:∀o1 o2,B9 w<|(w.alloc o1).alloc o2:=λo1 o2=>(n9).alloc oq _;have d:=O a;clear a;go_enter func20,ntmps20;go_wp2;go_ret;exact⟨rfl,d _ _⟩
def ZT f ta tc sa sc s{x}i{w}(C:YA x)(p:BQ w m s.nf s.F)(B:Ar s.nf s.F=0)(hi:i≠-1):
  C9 20 #[NF (some<|G m 0) f ta tc sa sc s,SJ i x] w (R9 (.bool<|decide (0<=i/\i<s.nf/\0<=x.place)&&(Bj s.F i.toNat x.key==x.place)) w):=by
 obtain⟨h1,h2,h3,h4,h5⟩:=C;have r:=p.lt;obtain⟨W,g,c,t,_,o1⟩:=TM w (.cells #[.slice (some<|G m 0) s.nf f,.slice ta s.nt tc,.slice sa s.ns sc] 29)<|.cells #[.string x.key,J i,J x.place,J x.BO,J x.misses] 57;have x0:W.cell? (y w 0)=some (.slice (some<|G m 0) s.nf f):=by rw[g];simp[go_sem]
 obtain⟨H,I,L,_⟩:=v5 o1;have l0:w.heap.size<W.heap.size:=om;have l1:w.heap.size+1<W.heap.size:=om;have D:m<W.heap.size:=om;have u:=O<|p.below c r;have E:(i==-1)=false:=by simpa using hi
 have n:=O B;clear t p hi B;by_cases hj:0<=i/\i<s.nf
 case neg=>
  have o:(decide ((0:Int)<=i)&&decide (i<(s.nf:Int)))=false:=ot;have k:Hid<|(decide (0<=i/\i<s.nf/\0<=x.place)&&(Bj s.F i.toNat x.key==x.place))=false:=O (by rw[decide_eq_false (λq=>hj ⟨q.1,q.2.1⟩)];rfl);clear hj;go_enter func20,ntmps20;go_wp2_with fail;rw[<-g];clear g;refine qr W ?_;(iterate 4 refine N (h:=?_));refine GS λK hK=>?_;go_simp;apply Exists.intro;refine qp (λw' a=>?_)<|hK _ ?_
  .refine(o▸D8 m s.nf f i _).mono ?_;rintro e l ⟨rfl,hb⟩;exact⟨rfl,o9 a hb⟩
  clear hK K;refine N (h:=?_);iterate 3 (go_big_quiet_step (fail))
  refine N (h:=N (h:=?_));iterate 10 (go_big_quiet_step (fail))
  refine N (h:=N (h:=?_));refine Hz ?_;intro w2 b;have d:=o9 c b;clear b;go_wp2;go_ret;exact⟨by rw[z k]<;>rfl,d⟩
 have o:(decide ((0:Int)<=i)&&decide (i<(s.nf:Int)))=true:=ot;by_cases hp:0<=x.place
 case neg=>
  have k:Hid<|(decide (0<=i/\i<s.nf/\0<=x.place)&&(Bj s.F i.toNat x.key==x.place))=false:=O (by rw[decide_eq_false (λq=>hp q.2.2)];rfl);have v:decide (0<=x.place)=false:=by simpa using hp
  clear hj hp;go_enter func20,ntmps20;go_wp2_with fail;rw[<-g];clear g;refine qr W ?_;(iterate 4 refine N (h:=?_));refine GS λK hK=>?_;go_simp;apply Exists.intro;refine qp (λw' a=>?_)<|hK _ ?_
  .refine(o▸D8 m s.nf f i _).mono ?_;rintro e l ⟨rfl,hb⟩;exact⟨rfl,o9 a hb⟩
  clear hK K;(iterate 6 refine N (h:=?_));iterate 10 (go_big_quiet_step (fail))
  refine N (h:=N (h:=?_));refine Hz ?_;intro w2 b;have d:=o9 c b;clear b;go_wp2;go_ret;exact⟨by rw[z k]<;>rfl,d⟩
 have k:Hid<|(decide (0<=i/\i<s.nf/\0<=x.place)&&(Bj s.F i.toNat x.key==x.place))=(Bj s.F i.toNat x.key==x.place):=O (by rw[decide_eq_true ⟨hj.1,hj.2,hp⟩];rfl);have v:decide (0<=x.place)=true:=by simpa using hp
 obtain⟨j,rfl⟩:∃j:Nat,i=j:=⟨i.toNat,om⟩;have A:j<s.nf:=om;rw[NO]at k ⊢;clear hj hp;go_enter func20,ntmps20;go_wp2_with fail;rw[<-g];clear g;refine qr W ?_;(iterate 4 refine N (h:=?_));refine GS λK hK=>?_;go_simp;apply Exists.intro;refine qp (λw' a=>?_)<|hK _ ?_
 .refine(o▸D8 m s.nf f (j:Int) _).mono ?_;rintro e l ⟨rfl,hb⟩;exact⟨rfl,o9 a hb⟩
 clear hK K;(iterate 12 refine N (h:=?_));refine GS λK hK=>?_;go_simp;refine⟨_,λw' a=>qk a<|LF f j x.key (u.below a D) (Av n).1 (Av n).2.1 (Av n).2.2.1 (Av n).2.2.2.2 A,hK _ ?_⟩;clear hK K;(iterate 5 refine N (h:=?_));refine Hz ?_;intro w2 b;have d:=o9 c b;clear b;go_wp2;go_ret;exact⟨by rw[z k]<;>rfl,d⟩
def WS b ta tc sa sc s x{w}(hk:x.key.size<=maxLen)(c:BQ w m s.nf s.F)(d:Ar s.nf s.F=0):
  C9 20 #[NF (some<|G m 0) b ta tc sa sc s,SV x] w (R9 (.bool<|tells<|Ob s x) w):=by
 by_cases a:YA x
 case neg=>
  have h:=WT m b ta tc sa sc s x w hk a
  rwa [<-Ag (λq=>a (pT q))]at h
 by_cases h1:x.shape=-1
 .have h:=UQ m b ta tc sa sc s w a;rw[<-U6 a h1]at h;rw[SV,h1];exact h
 have h:=ZT b ta tc sa sc s x.shape a c d h1;have e:(decide (0<=x.shape/\x.shape<s.nf/\0<=x.place)&&(Bj s.F x.shape.toNat x.key==x.place))=tells (Ob s x):=by
  by_cases q:0<=x.shape/\x.shape<s.nf/\0<=x.place
  .rw[gD (j:=x.shape.toNat) a om om q.2.2,decide_eq_true q];rfl
  rw[YB h1 q,decide_eq_false q];rfl
 rw[e]at h;exact h
def Vu(U){ta:Option Addr}(tc){sa:Option Addr}(sc){s}(D){w}(hF:BQ w m s.nf s.F)(hT:cR w ta s.nt s.T)(hS:Lh w sa s.ns s.S)(hs:Hc s)(hk:∀i,i<s.ns->(s.S i).key.size<=maxLen)
  (hD:∀i,i<s.nt->∀la lc ia ic xa xc,XT la lc ia ic xa xc (s.T i).d<|D i):
  C9 6 #[NF (some<|G m 0) U ta tc sa sc s] w (R9 (J<|A6 s D) w):=by
 rcases hF.lt,hs.nt,hs.n,hs.f.1,O hk,O hD,Ll w (.cells #[S9 m s.nf U,.slice ta s.nt tc,.slice sa s.ns sc] 29) with⟨ae,aq,ar,X,HK,HD,⟨W,hW,l,_,o0⟩⟩;have E:w.heap.size<W.heap.size:=by rw[hW];simp
 obtain⟨x0,x1,x2⟩:=v3 o0;have lm:m<W.heap.size:=om;rcases O (hF.below l ae),O<|hT.below l rfl,O (hS.below l rfl) with⟨HF,HT,HS⟩;clear hk hD hF hT hS;go_enter func6,ntmps6;go_wp2_with fail;rw[<-hW];clear hW;refine m9 (Tt U HF X) λw1 c=>?_;by_cases h1:Ar s.nf s.F=0
 case neg=>
  have au:(Ar s.nf s.F !=0)=true:=by simpa using h1
  have t:=O<|JL (D:=D) h1;have j:=o9 l c;clear h1 c;go_wp2;go_ret;exact⟨by rw[z t]<;>rfl,j⟩
 rw[h1];rcases O h1,(c.cell E).trans x0,(c.cell E).trans x1,(c.cell E).trans x2,A0 E c.size,A0 lm c.size,O<|HF.below c lm,O<|HT.below c rfl,O<|HS.below c rfl,o9 l c with⟨R,y0,y1,y2,I,Z,ad,af,ag,j⟩;clear h1 c x0 x1 x2 HF HT HS;by_cases h2:100<s.nt
 .have t:=O<|JM (D:=D) R λh=>om;go_wp2;go_ret;exact⟨by rw[z t]<;>rfl,j⟩
 by_cases h3:50<s.ns
 .have t:=O<|JM (D:=D) R λh=>om;go_wp2;go_ret;exact⟨by rw[z t]<;>rfl,j⟩
 have H2:Hid<|s.nt<=100/\s.ns<=50:=O ⟨om,om⟩;go_wp2;go_loopw [24] (λi wr=>∃(k:Nat),k<=s.nt/\i=J k/\B9 w1 wr/\∀q,q<k->Ld s (D q) (s.T q)) λi _=>s.nt-(intOf i).toNat
 .exact⟨0,om,rfl,BE _ _,λq hq=>om⟩
 obtain⟨k,hk,rfl,hb,a⟩:=hrel;rcases (hb.cell I).trans y0,(hb.cell I).trans y1,(hb.cell I).trans y2,hb.size with⟨p0,p1,p2,av⟩;by_cases g:k<s.nt
 case pos=>
  obtain⟨b,off,rfl,K,hcs⟩:=af.resolve_left om;obtain⟨va,vc,la,lc,ia,ic,xa,xc,hc,hv,hd⟩:=(hcs k g).below hb K;obtain⟨e0,e1,e2,e3,e4,e5,e6,e7⟩:=hc;have v:Hid<|∀o,B9 w<|wr.alloc o:=O λo=>(o9 j hb).alloc om _;have x:Hid<|∀o,B9 w1<|wr.alloc o:=O λo=>hb.alloc om _;have A:Hid<|∀o,IX (wr.alloc o) va (s.T k).nv (s.T k).V/\FJ (wr.alloc o) la ia xa (s.T k).d/\BQ (wr.alloc o) m s.nf s.F:=O λo=>⟨hv.below n9 rfl,hd.below n9,(ad.below hb Z).alloc o⟩;have ah:w.heap.size<wr.heap.size:=om;have B:=O a;clear hcs hb a hv hd;go_wp2_with fail;refine m9 (UR U _ tc sa sc s vc (s.T k) (A _).2.2 X (A _).1 (hs.nv g) (A _).2.1<|HD k g la lc ia ic xa xc) λw3 p=>?_;have C:=o9 (v _) p;have L:=o9 (x _) p;clear p e0 e1 e2 e3 e4 e5 e6 e7 p0 p1 p2;by_cases r:Ld s (D k)<|s.T k
  .rw[Al r];have M:=O r;clear r;go_wp2;go_roundw
   .refine⟨k+1,om,ov,L,λq hq=>?_⟩;by_cases e:q=k
    .subst e;exact M
    exact B q om
   exact ow
  rw[Ag r];have t:=O<|JN R H2 λh=>r<|h k g;clear r;go_wp2;go_ret;exact⟨by rw[z t]<;>rfl,C⟩
 have H3:Hid<|∀q,q<s.nt->Ld s (D q) (s.T q):=O λq hq=>a q om;have P:w.heap.size<wr.heap.size:=om;have ai:m<wr.heap.size:=om;rcases O (ad.below hb Z),ag.below hb rfl,o9 j hb with⟨aj,ak,H⟩;have Q:k=s.nt:=om;clear hb a g y0 y1 y2;subst Q;obtain⟨w2,rfl⟩:∃u,u=wr:=⟨wr,rfl⟩;go_wp2;go_loopw [36] (λi wr=>∃(k:Nat),k<=s.ns/\i=J k/\B9 w2 wr/\∀q,q<k->Ob s (s.S q)) λi _=>s.ns-(intOf i).toNat
 .exact⟨0,om,rfl,BE _ _,λq hq=>om⟩
 obtain⟨k,hk,rfl,hb,a⟩:=hrel;rcases (hb.cell P).trans p0,(hb.cell P).trans p1,(hb.cell P).trans p2,hb.size with⟨q0,q1,q2,ao⟩;by_cases g:k<s.ns
 case pos=>
  obtain⟨b,off,rfl,K,hcs⟩:=ak.resolve_left om;obtain⟨e0,e1,e2,e3,e4⟩:=(hcs k g).keep λq=>hb.cell K;have v:Hid<|∀o,B9 w<|wr.alloc o:=O λo=>(o9 H hb).alloc om _;have x:Hid<|∀o,B9 w2<|wr.alloc o:=O λo=>hb.alloc om _;have A:Hid<|∀o,BQ (wr.alloc o) m s.nf s.F:=O λo=>(aj.below hb ai).alloc o;have ah:w.heap.size<wr.heap.size:=om;have B:=O a;clear hcs hb a p0 p1 p2;go_wp2_with fail;refine m9 (WS U ta tc _ sc s (s.S k) (HK k g) (A _) R) λw3 p=>?_;have C:=o9 (v _) p;have L:=o9 (x _) p;clear p e0 e1 e2 e3 e4 q0 q1 q2;by_cases r:Ob s<|s.S k
  .rw[Al r];have M:=O r;clear r;go_wp2;go_roundw
   .refine⟨k+1,om,ov,L,λq hq=>?_⟩;by_cases e:q=k
    .subst e;exact M
    exact B q om
   exact ow
  rw[Ag r];have t:=O<|L5 R H2 H3 λh=>r<|h k g;clear r;go_wp2;go_ret;exact⟨by rw[z t]<;>rfl,C⟩
 have t:=O<|JK R H2 H3 λq hq=>a q om;have C:=o9 H hb;have Q:k=s.ns:=om;clear hb a g;subst Q;go_wp2;go_ret;exact⟨by rw[z t]<;>rfl,C⟩
section
open Go.ChangeShapes Go.WideShapes Go.ChangeAt Go.RowKit Go.Deep
structure Ad where
 va:Option Addr
 vc:Nat
 la:Option Addr
 lc:Nat
 ia:Option Addr
 ic:Nat
 xa:Option Addr
 xc:Nat
def H8(v:Vl):List Value:=[J v.kind,J v.num,F9 v.Ah,.string v.str,J v.ref]
def Hr(s:Si):List Value:=[.string s.key,J s.shape,J s.place,J s.BO,J s.misses]
def Ks.of{o}{p}(h:∀j u,(H8 p)[j]?=some u->w.cell? (G b<|o+j)=some u):Ks w b o p:=
 ⟨h 0 _ rfl,h 1 _ rfl,h 2 _ rfl,h 3 _ rfl,h 4 _ rfl⟩
def zH(t:Tb):Prop:=(∀i,i<t.nv->Wf (t.V i))/\M9 t.d
def Y2(s:AE):Prop:=∀i,i<s.nt->zH (s.T i)
instance:Inhabited Si:=⟨⟨⟨#[]⟩,0,0,0,0⟩⟩
instance:Inhabited Tb:=⟨⟨0,0,λ_=>default,⟨0,λ_=>default,0,λ_=>0,0,λ_=>0,0,0,0⟩⟩⟩
instance:Inhabited Ad:=⟨⟨none,0,none,0,none,0,none,0⟩⟩
section
variable {H:Type} {enc:TypeId×Value->H} {P:Program} {w:Y} {base:Nat} {spare:Nat->Bool} {held:Bool}
end
end
instance:Inhabited Si:=⟨⟨⟨#[]⟩,0,0,0,0⟩⟩
instance:Inhabited Tb:=⟨⟨0,0,λ_=>default,⟨0,λ_=>default,0,λ_=>0,0,λ_=>0,0,0,0⟩⟩⟩
instance:Inhabited Ad:=⟨⟨none,0,none,0,none,0,none,0⟩⟩
structure Nd (w:Y) (s:AE) (b0 g:Nat) (B N:Nat->Nat) (M:Nat->Option Nat):Prop where
 ns:CE w s.F b0 s.nf B N M
 id:∀i,i<s.nf->N i=i
 lt:g<w.heap.size
 uR:∀i,i<s.nf->w.cell? (G g i)=some (Q9<|B i)
def Nd.below(h:Nd w s b0 g B Z M)(hb:B9 w w'):Nd w' s b0 g B Z M:=
 ⟨h.ns.below hb,h.id,A0 h.lt hb.size,λi hi=>(hb.cell h.lt).trans<|h.uR i hi⟩
def Nd.CX(h:Nd w s b0 g B Z M){j}(hj:j<s.nf):B j<w.heap.size/\w.cell? (G (B j) 3)=some (J (s.F j).count):=by
 have:=DH h.ns h.id hj;exact⟨by have:=I9 _ _ this.1;exact this,this.2.2.1⟩
def Nd.place(h:Nd w s b0 g B Z M)(a:Ar s.nf s.F=0){j}(hj:j<s.nf)key:
  C9 88 #[Q9 (B j),.string key] w (R9 (J<|Bj s.F j key) w):=by
 refine(GN w b0 B Z M h.ns h.id (Av a).2.1 (Av a).2.2.1 j hj key).mono ?_;rintro e w' ⟨⟨h1,_⟩,rfl⟩;exact⟨h1,BE _ _⟩
def P4 a n cp{x}w(j:YA x):
  C9 45 #[SJ (-1) x,.slice a n cp] w (R9 (.bool<|x.place==0) w):=by
 obtain⟨h1,h2,h3,h4,h5⟩:=j;have k:(decide (0<=x.BO)&&decide (x.BO<=1000000000000))=true:=ot;have f:(decide (0<=x.misses)&&decide (x.misses<=1000000000000))=true:=ot;have d:∀o1,B9 w<|w.alloc o1:=λo1=>n9;have i:=O d;clear d;go_enter func45,ntmps45;go_wp2_with fail;refine m9 (D7 x.BO _) λw1 b=>?_;rw[k];obtain⟨l,m⟩:=BF b;have g:=b.size;simp at g;have o:w.heap.size<w1.heap.size:=om;have e:=O<|o9 (i _) b;clear b;go_wp2_with fail;refine m9 (D7 x.misses _) λw2 c=>?_;rw[f];rcases BF c,A0 o c.size,O (o9 e c) with⟨⟨p,q⟩,r,h⟩;clear c;go_wp2;go_ret;exact⟨rfl,h⟩
def Tr cp{B Z}{M}{x}i{w}(H:YA x)(hN:Nd w s b0 g B Z M)(I:Ar s.nf s.F=0)(hi:i≠-1):
  C9 45 #[SJ i x,.slice (some<|G g 0) s.nf cp] w (R9 (.bool<|decide (0<=i/\i<s.nf/\0<=x.place)&&(Bj s.F i.toNat x.key==x.place)) w):=by
 obtain⟨h1,h2,h3,h4,h5⟩:=H;have A:(decide (0<=x.BO)&&decide (x.BO<=1000000000000))=true:=ot;have C:(decide (0<=x.misses)&&decide (x.misses<=1000000000000))=true:=ot;have L:=hN.lt;have P:(i==-1)=false:=by simpa using hi
 have m:B9 w<|w.alloc<|.cells #[.string x.key,J i,J x.place,J x.BO,J x.misses] 57:=n9;go_enter func45,ntmps45;go_wp2_with fail;refine m9 (D7 x.BO _) λw1 k=>?_;rw[A];obtain⟨f,Q⟩:=BF k;have D:=k.size;simp at D;have u:w.heap.size<w1.heap.size:=om;have c0:w1.cell? (y w 0)=some (.string x.key):=by rw[f _ _ oq];simp[go_sem]
 have c1:w1.cell? (y w 1)=some (J i):=by rw[f _ _ oq];simp[go_sem]
 have c2:w1.cell? (y w 2)=some (J x.place):=by rw[f _ _ oq];simp[go_sem]
 have c3:w1.cell? (y w 4)=some (J x.misses):=by rw[f _ _ oq];simp[go_sem]
 have n:=o9 m k;go_wp2_with fail;refine m9 (D7 x.misses _) λW c=>?_;rw[C];rcases A0 u c.size,(c.cell u).trans c0,(c.cell u).trans c1,(c.cell u).trans c2,o9 n c with⟨l0,S,R,T,b⟩;have o:=hN.below b;have U:g<W.heap.size:=om;by_cases hj:0<=i/\i<s.nf
 case neg=>
  have v:(decide ((0:Int)<=i)&&decide (i<(s.nf:Int)))=false:=ot;have p:Hid<|(decide (0<=i/\i<s.nf/\0<=x.place)&&(Bj s.F i.toNat x.key==x.place))=false:=O (by rw[decide_eq_false (λq=>hj ⟨q.1,q.2.1⟩)];rfl);go_wp2_with fail;refine qr W ?_;refine N (h:=N (h:=N (h:=?_)));refine GS λK hK=>?_;go_simp;apply Exists.intro;refine qp (λw' a=>?_)<|hK _ ?_
  .refine(v▸Fz (some<|G g 0) s.nf cp i _).mono ?_;rintro e r ⟨rfl,hb⟩;exact⟨rfl,o9 a hb⟩
  clear hK K;refine N (h:=?_);iterate 3 (go_big_quiet_step (fail))
  refine N (h:=N (h:=?_));iterate 11 (go_big_quiet_step (fail))
  refine N (h:=N (h:=?_));refine Hz ?_;intro w2 d;have l:=o9 b d;go_wp2;go_ret;exact⟨by rw[z p]<;>rfl,l⟩
 have v:(decide ((0:Int)<=i)&&decide (i<(s.nf:Int)))=true:=ot;by_cases hp:0<=x.place
 case neg=>
  have p:Hid<|(decide (0<=i/\i<s.nf/\0<=x.place)&&(Bj s.F i.toNat x.key==x.place))=false:=O (by rw[decide_eq_false (λq=>hp q.2.2)];rfl);have E:decide (0<=x.place)=false:=by simpa using hp
  go_wp2_with fail
  refine qr W ?_;refine N (h:=N (h:=N (h:=?_)));refine GS λK hK=>?_;go_simp;apply Exists.intro;refine qp (λw' a=>?_)<|hK _ ?_
  .refine(v▸Fz (some<|G g 0) s.nf cp i _).mono ?_;rintro e r ⟨rfl,hb⟩;exact⟨rfl,o9 a hb⟩
  clear hK K;(iterate 6 refine N (h:=?_));iterate 11 (go_big_quiet_step (fail))
  refine N (h:=N (h:=?_));refine Hz ?_;intro w2 d;have l:=o9 b d;go_wp2;go_ret;exact⟨by rw[z p]<;>rfl,l⟩
 have E:decide (0<=x.place)=true:=by simpa using hp
 obtain⟨j,rfl⟩:∃j:Nat,i=j:=⟨i.toNat,om⟩;have t:j<s.nf:=om;have p:Hid<|(decide (0<=(j:Int)/\(j:Int)<s.nf/\0<=x.place)&&(Bj s.F (j:Int).toNat x.key==x.place))=(Bj s.F j x.key==x.place):=O (by rw[decide_eq_true ⟨hj.1,hj.2,hp⟩];rfl);have V:=o.uR j t;go_wp2_with fail;refine qr W ?_;refine N (h:=N (h:=N (h:=?_)));refine GS λK hK=>?_;go_simp;apply Exists.intro;refine qp (λw' a=>?_)<|hK _ ?_
 .refine(v▸Fz (some<|G g 0) s.nf cp (j:Int) _).mono ?_;rintro e r ⟨rfl,hb⟩;exact⟨rfl,o9 a hb⟩
 clear hK K;(iterate 12 refine N (h:=?_));refine N (h:=?_);refine GS λK hK=>?_;go_simp;refine⟨_,λw' a=>qk a<|Nd.place (o.below a) (z<|O I) t x.key,hK _ ?_⟩;clear hK K;(iterate 5 refine N (h:=?_));refine Hz ?_;intro w2 d;go_wp2;go_ret;exact⟨by rw[z p]<;>rfl,z<|o9 b d⟩
def QS cp{B Z}{M}x{w}(hk:x.key.size<=maxLen)(hN:Nd w s b0 g B Z M)(b:Ar s.nf s.F=0):
  C9 45 #[SV x,S9 g s.nf cp] w (R9 (.bool<|tells<|Ob s x) w):=by
 by_cases a:YA x
 case neg=>
  have h:=QT (some<|G g 0) s.nf cp x w hk a
  rwa [<-Ag (λq=>a (pT q))]at h
 by_cases h1:x.shape=-1
 .have h:=P4 (some<|G g 0) s.nf cp w a;rw[<-U6 a h1]at h;rw[SV,h1];exact h
 have h:=Tr cp x.shape a hN b h1;have e:(decide (0<=x.shape/\x.shape<s.nf/\0<=x.place)&&(Bj s.F x.shape.toNat x.key==x.place))=tells (Ob s x):=by
  by_cases q:0<=x.shape/\x.shape<s.nf/\0<=x.place
  .rw[gD (j:=x.shape.toNat) a om om q.2.2,decide_eq_true q];rfl
  rw[YB h1 q,decide_eq_false q];rfl
 rw[e]at h;exact h
abbrev Le(A:Ad)(t:Tb):Value:=xG A.va A.vc A.la A.lc A.ia A.ic A.xa A.xc t
abbrev CK(p:Nat)(A:Ad)(t:Tb):Value:=kY p A.va A.vc A.la A.lc A.ia A.ic A.xa A.xc t
abbrev xI(i:Int)(A:Ad)(t:Tb):Value:=.agg #[J i,.slice A.va t.nv A.vc,.slice A.la t.d.n A.lc,.slice A.ia t.d.m A.ic,.slice A.xa t.d.x A.xc,J t.d.used,J t.d.live,J t.d.turns]
def UG a n cp A t w:
  C9 44 #[xI (-1) A t,.slice a n cp] w (R9 (.iface 153<|Le A t) w):=by
 have b:∀o1 o2,B9 w<|(w.alloc o1).alloc o2:=λo1 o2=>(n9).alloc oq _;have c:=O b;clear b;go_enter func44,ntmps44;go_wp2;go_ret;exact⟨rfl,c _ _⟩
def WK a(n cp:Nat)A t(i:Int)w(h1:i≠-1)(h:¬(0<=i/\i<n)):
  C9 44 #[xI i A t,.slice a n cp] w (R9 .nilIface w):=by
 have b:∀o1 o2,B9 w<|(w.alloc o1).alloc o2:=λo1 o2=>(n9).alloc oq _;have e:=O b;have f:(i==-1)=false:=by simpa using h1
 have g:(decide ((0:Int)<=i)&&decide (i<(n:Int)))=false:=ot;clear b h1 h;go_enter func44,ntmps44;go_wp2_with fail;refine m9 (Fz a n cp i _) λw1 c=>?_;rw[g];have d:=O<|o9 (e _ _) c;clear c;go_wp2;go_ret;exact⟨rfl,d⟩
def ZN g n cp p A t j(w:Y)(hj:j<n)(l:g<w.heap.size)(hc:w.cell? (G g j)=some (Q9 p)):
  C9 44 #[xI (j:Int) A t,S9 g n cp] w (R9 (.iface 156<|CK p A t) w):=by
 have c:B9 w<|(w.alloc<|.cells #[J (j:Int),.slice A.va t.nv A.vc,.slice A.la t.d.n A.lc,.slice A.ia t.d.m A.ic,.slice A.xa t.d.x A.xc,J t.d.used,J t.d.live,J t.d.turns] 71).alloc<|.cells #[.slice A.va t.nv A.vc,.slice A.la t.d.n A.lc,.slice A.ia t.d.m A.ic,.slice A.xa t.d.x A.xc,J t.d.used,J t.d.live,J t.d.turns] 151:=(n9).alloc oq _;have o:(decide ((0:Int)<=(j:Int))&&decide ((j:Int)<(n:Int)))=true:=ot;have q:((j:Int)==-1)=false:=by first|(simp;done)|(simp;omega)
 have f:=(c.cell l).trans hc;go_enter func44,ntmps44;go_wp2_with fail;refine m9 (Fz (some<|G g 0) n cp (j:Int) _) λw1 b=>?_;rw[o];obtain⟨a,r⟩:=BF b;have i:=b.size;simp at i;have s:w.heap.size<w1.heap.size:=om;have u:w.heap.size+1<w1.heap.size:=om;have v:g<w1.heap.size:=om;have B:=(b.cell ot).trans f;have c0:w1.cell? (y w 0)=some (J (j:Int)):=by rw[a _ _ ot];simp[go_sem]
 have d0:w1.cell? (Y9 w 0)=some (.slice A.va t.nv A.vc):=by rw[a _ _ oq];simp[go_sem]
 have d1:w1.cell? (Y9 w 1)=some (.slice A.la t.d.n A.lc):=by rw[a _ _ oq];simp[go_sem]
 have d2:w1.cell? (Y9 w 2)=some (.slice A.ia t.d.m A.ic):=by rw[a _ _ oq];simp[go_sem]
 have d3:w1.cell? (Y9 w 3)=some (.slice A.xa t.d.x A.xc):=by rw[a _ _ oq];simp[go_sem]
 have d4:w1.cell? (Y9 w 4)=some (J t.d.used):=by rw[a _ _ oq];simp[go_sem]
 have d5:w1.cell? (Y9 w 5)=some (J t.d.live):=by rw[a _ _ oq];simp[go_sem]
 have d6:w1.cell? (Y9 w 6)=some (J t.d.turns):=by rw[a _ _ oq];simp[go_sem]
 have e:=o9 c b;go_wp2_with fail;refine qr w1 ?_;(iterate 9 refine N (h:=?_));refine Hz ?_;intro w2 k;go_wp2;go_ret;exact⟨rfl,z<|o9 e k⟩
def EL(d:Dc)(j:Nat):Pr:=d.L<|(A8 d d.n).getD j 0
def K0(d:Dc):Nat:=(A8 d d.n).length
def FN{d}(hk:k<d.n)(h:(d.L k).turn≠0):EL d (A8 d k).length=d.L k:=by
 obtain⟨r,a⟩:=FB (d:=d) (k:=k+1) (n:=d.n) om;grind [EL,Bs]
def sI d:K0 d<=d.n:=FW d d.n
def PK(wr:Y)o1(cs:List Value)t:∀j u,cs[j]?=some u->((wr.alloc o1).alloc<|.cells cs.toArray t).cell? (((Y9 wr 0):Addr).add j)=some u:=by
 have hb:=DO (wr.alloc o1)<|.cells cs.toArray t;have hz:(wr.alloc o1).heap.size=wr.heap.size+1:=oq;rw[hz]at hb;exact Is hb
def UL lc ia ic xa xc{d}{w}(I:VN w la d.n d.L)(K:Small d)(h2:D2 d):
  C9 114 #[Dv la lc ia ic xa xc d] w λe w'=>(∃v,e=.returned v/\BU w' w.heap.size v (K0 d) (EL d))/\B9 w w':=by
 obtain⟨i0,hi,m,p,r⟩:=Ok EX;have hn:=K.n;go_enter func114,ntmps114;go_wp2;go_loopw [9,3] (λi o wr=>∃(k:Nat) (v:V9),k<=d.n/\i=J k/\v=o/\BU wr w.heap.size v (A8 d k).length (EL d)/\B9 w wr) λi o _=>d.n-(intOf i).toNat
 .exact⟨0,_,om,rfl,rfl,IF _ _ _ _,n9⟩
 obtain⟨k,v,hk,rfl,rfl,E,hb⟩:=hrel;by_cases g:k<d.n
 .obtain⟨b,off,rfl,s,hcs⟩:=I.resolve_left om;rcases (hcs k g).keep (λq=>hb.cell s),hb.size,FW d k,O hb,O E with⟨⟨e0,e1,e2,e3,Q,R,S,T,U,V,t⟩,u,M,F,x⟩;by_cases hp:0<(d.L k).turn
  .have j:(d.L k).turn≠0:=om;have A:=O<|Bs j;go_wp2_with (first|(at_builtin;refine ON _ rfl _ _ 66 rfl w.heap.size 168 i0 PZ 11 104 underlying66 hi m p r rfl oo v (A8 d k).length (pL (EL d) (A8 d k).length) rfl ((x.alloc _).alloc _) (Y9 wr 0) 1 1 (DA<|d.L k) rfl rfl (PK wr _ (DA<|d.L k) _) (EZ _) oo od om ot _ rfl ?_;intro g3 P w3 a c B H;have C:=O<|((F.alloc om _).alloc ot _).trans<|Dd c (λq e=>(z (O x.lt) q e).1) ot;have D:=O a;clear a c)|go_in);go_roundw
   .refine⟨k+1,_,om,ov,rfl,?_,C⟩;have h:=z D;rw[z A,OR,Aao];show w3.ownsRow w.heap.size _ 11 _ _ (pL (EL d) (A8 d k).length++DA (EL d (A8 d k).length));rw[z (O (FN g j))];exact h
   exact ow
  have f:(d.L k).turn=0:=by
   rcases h2.entry g with h|h
   .exact h.1
   exact absurd h.1 hp
  have A:=O<|Cm f;rw[f]at t;go_wp2;go_roundw
  .refine⟨k+1,_,om,ov,rfl,?_,F.alloc u _⟩;rw[z A];exact x.alloc _
  exact ow
 have l:k=d.n:=om;subst l;go_wp2;go_ret;exact⟨⟨_,rfl,z<|O E⟩,z<|O hb⟩
def YH(f:Nat->Pr)(j:Nat):Value:=((DA<|f<|j/11)[j%11]?).getD undef
def gJ f k i(hi:i<11):YH f (k*11+i)=((DA<|f k)[i]?).getD undef:=by
 unfold YH;grind
def sT{Z}{g}{f}(h:w.rowIs b 168 Z g)(hN:n*11<=Z)(a:∀j,j<n*11->g j=YH f j){i}(hi:i<n):Jd w b (i*11)<|f i:=by
 have e:∀j,j<11->w.cell? (G b<|i*11+j)=some (((DA<|f i)[j]?).getD undef):=λj hj=>by
  rw[h.cell om,a _ om,gJ f i j hj]
 exact⟨e 0 om,e 1 om,e 2 om,e 3 om,e 4 om,e 5 om,e 6 om,e 7 om,e 8 om,e 9 om,e 10 om⟩
def N1(f:Nat->Pr)(n:Nat)(w:Y)(v:V9)(lo hi:Nat):Prop:=
 (n=0/\v=N9)\/∃b cp Z g,v=S9 b n cp/\lo<=b/\b<hi/\w.rowIs b 168 Z g/\n*11<=Z/\∀j,j<n*11->g j=YH f j
def N1.keep{f}(h:N1 f n w v lo hi)(hk:∀b,lo<=b->b<hi->w'.heap[b]?=w.heap[b]?):N1 f n w' v lo hi:=by
 rcases h with h|⟨b,cp,Z,g,h1,h2,h3,h4,h5,a⟩
 .exact .inl h
 exact .inr ⟨b,cp,Z,g,h1,h2,h3,TO h4<|hk b h2 h3,h5,a⟩
def N1.of{f}{B}(h:BU w B v n f):N1 f n w v B w.heap.size:=by
 have b:=h.lt;obtain⟨hl,⟨c,d⟩|⟨g',cap,cur,c,hb,a,h1,h2,h3,h4⟩⟩:=h
 .exact .inl ⟨d,c⟩
 subst c;refine .inr ⟨g',cap,cap*11,λj=>(cur[j]?).getD undef,rfl,hb,(b g' rfl).2,⟨cur,a,h3,λi hi=>by simp[AaP (show i<cur.size by omega)]⟩,om,λj hj=>?_⟩;have h5:=MO (f:=f) (n:=n) (i:=j/11) (j:=j%11) om om;rw[show j/11*11+j%11=j by omega,<-h4,List.getElem?_take,DD hj,Array.getElem?_toList]at h5;show(cur[j]?).getD undef=_;rw[h5];rfl
theorem N1.at{f}(h:N1 f n w v lo hi):∃a cp,v=.slice a n cp/\VN w a n f:=by
 rcases h with⟨c,rfl⟩|⟨b,cp,Z,g,h1,h2,h3,h4,h5,d⟩
 .subst c;exact⟨_,_,rfl,.inl rfl⟩
 exact⟨_,_,h1,.inr ⟨b,0,rfl,RC h4,λi hi=>by rw[X9];exact sT h4 h5 d hi⟩⟩
def F3:(prog.info? 32).map (λi=>(i.zero,i.size,i.bytes))=some (some<|V 0 0 0 ⟨#[]⟩ 0,5,48):=ou
def Jo:(prog.info? 57).map (λi=>(i.zero,i.size,i.bytes))=some (some<|.agg #[E9,J 0,J 0,J 0,J 0],5,48):=ou
def MC:(prog.info? 71).map (λi=>(i.zero,i.size,i.bytes))=some (some<|.agg #[J 0,N9,N9,N9,N9,J 0,J 0,J 0],8,128):=ou
def mK(e:w'.heap[b]?=w.heap[b]?)(hl:b<w.heap.size):b<w'.heap.size:=by
 grind
def Sm(w:Y)(a:T9)(n:Nat)(f:Nat->Tb)(A:Nat->Ad):Prop:=
 n=0\/∃b off,a=some (G b off)/\b<w.heap.size/\∀i,i<n->Q7 w b (off+i*8) (A i).va (A i).vc (A i).la (A i).lc (A i).ia (A i).ic (A i).xa (A i).xc (f i)/\IX w (A i).va (f i).nv (f i).V/\FJ w (A i).la (A i).ia (A i).xa (f i).d
def cR.addr{a:Option Addr}{f}(h:cR w a n f):∃A,Sm w a n f A:=by
 rcases h with h|⟨b,off,e,c,hc⟩
 .exact⟨λ_=>default,.inl h⟩
 have h2:∀i,∃A:Ad,i<n->Q7 w b (off+i*8) A.va A.vc A.la A.lc A.ia A.ic A.xa A.xc (f i)/\IX w A.va (f i).nv (f i).V/\FJ w A.la A.ia A.xa (f i).d:=λi=>by
  by_cases hi:i<n
  .obtain⟨va,vc,la,lc,ia,ic,xa,xc,h1⟩:=hc i hi;exact⟨⟨va,vc,la,lc,ia,ic,xa,xc⟩,λ_=>h1⟩
  exact⟨default,λh=>absurd h hi⟩
 obtain⟨A,hA⟩:=Classical.skolem.1 h2;exact⟨A,.inr ⟨b,off,e,c,hA⟩⟩
def Sm.below{a:Option Addr}{f}{A}(h:Sm w a n f A)(hb:B9 w w'):Sm w' a n f A:=by
 rcases h with h|⟨b,off,e,c,hc⟩
 .exact .inl h
 exact .inr ⟨b,off,e,A0 c hb.size,λi hi=>⟨(hc i hi).1.WJ λq _=>hb.cell c,(hc i hi).2.1.below hb rfl,(hc i hi).2.2.below hb⟩⟩
def AX(B:Nat->Nat)(A:Ad)(t:Tb):Value:=if t.shape=-1 then .iface 153 (Le A t)else .iface 156 (CK (B t.shape.toNat) A t)
def kL(B:Nat->Nat)(A:Nat->Ad)(s:AE)(k:Nat):List Value:=(List.range k).map λi=>AX B (A i)<|s.T i
def SX B A s k:kL B A s k++[AX B (A k) (s.T k)]=kL B A s (k+1):=by
 unfold kL;rw[List.range_succ,Aaj];rfl
def ME{A}(h:i<k):(kL B A s k)[i]?=some (AX B (A i)<|s.T i):=by simp[kL,h]
def Ru B A t:(AX B A t).oneCell'=true:=by
 unfold AX;split<;>rfl
def Uy:(prog.info? 103).map (λi=>(i.zero,i.size,i.bytes))=some (some .nilIface,1,16):=ou
def Nd.Po(h:Nd w s b0 g B Z M)(hk:∀b,b0<=b->b<w.heap.size->w'.heap[b]?=w.heap[b]?)(a:w'.heap[g]?=w.heap[g]?):Nd w' s b0 g B Z M:=
 ⟨{h.ns with
  node:=λi hi hn=>(h.ns.node i hi hn).of_block (hk _ (h.ns.base i hi)<|RC<|h.ns.node i hi hn)
  kids:=λi m hi hn d=>by
   obtain⟨g,a,hK⟩:=h.ns.kids i m hi hn d;obtain⟨es,c,hc⟩:=a.isMap;exact⟨g,a.block (hk _ (h.ns.mbase i m hi hn d) (GC.1 hc).1),hK⟩},h.id,mK a h.lt,λi hi=>(As a).trans (h.uR i hi)⟩
def Nd.Tl(h:Nd w s b0 g B Z M)(hb:b1<=b0):Nd w s b1 g B Z M:=⟨h.ns.Tl hb,h.id,h.lt,h.uR⟩
def Xg{base size}(h:w.ownsRow base e size v n xs)(hk:∀q,base<=q->q<w.heap.size->w'.heap[q]?=w.heap[q]?):w'.ownsRow base e size v n xs:=by
 obtain⟨hl,⟨a,d⟩|⟨g',cap,cur,a,b,c,h1,h2,h3,h4⟩⟩:=h
 .exact⟨hl,.inl ⟨a,d⟩⟩
 refine⟨hl,.inr ⟨g',cap,cur,a,b,?_,h1,h2,h3,h4⟩⟩;grind
def XQ(w0:Y)(s:AE)(D:Nat->Int)(A:Nat->Ad)(e:Ending)(w:Y):Prop:=
 (∃r:Int,e=.returned (.tuple #[.agg #[N9,N9],J r])/\r=A6 s D/\r≠0)\/
 (∃g cp B Z M v b1,e=.returned (.tuple #[.agg #[S9 g s.nf cp,v],J 0])/\A6 s D=0/\Nd w s w0.heap.size g B Z M/\(w0.heap.size<=b1/\w.ownsRow w0.heap.size 122 1 (S9 g s.nf cp) s.nf (ptrs B s.nf))/\w.ownsRow b1 103 1 v s.nt (kL B A s s.nt))
section
open Go.RowKit Go.Shelf
attribute [local go_sem] Oper.semAt_some
structure Qu (p n0:Nat) (A B:Y):Prop where
 size:A.heap.size<=B.heap.size
 block:∀b,b<n0->b≠p->B.heap[b]?=A.heap[b]?
def Qu.refl p n0 A:Qu p n0 A A:=⟨Be _,λ_ _ _=>rfl⟩
theorem Qu.trans{p}{B C}(h:Qu p n0 A B)(k:Qu p n0 B C):Qu p n0 A C:=⟨GO h.size k.size,λb h1 h2=>(k.block b h1 h2).trans<|h.block b h1 h2⟩
def Qu.put{p}(hn:n0<=w.heap.size)W l o o'(hl:w.heap.size<=l)(h:W.heap[l]?=some o)(_:o.isCells=false)(_:o.isWalk=false):Qu p n0 W<|W.putObj l o':=by
 have hb:=(BE n0 W).grown (MM W l o') (oT (GC.1 h).1) (λk e=>by cases e;omega);exact⟨hb.size,λb h1 _=>hb.block b h1⟩
def KT{B:Y}{row}{c}{fz}{D}(h:A.heap[b]?=some (.cells c t fz))(d:A.grownBy B row)(f:∀r,row=some r->D<=r/\∃o,A.heap[r]?=some o/\o.isCells=false):B.heap[b]?=A.heap[b]?:=
 d.block b (GC.1 h).1 (λe=>by
  obtain⟨_,o,a,hc⟩:=f b e.symm;rw[h]at a;cases a;cases hc)
def RK{B:Y}{row}{D base size}(h:A.ownsRow base e size v n xs)(a:A.grownBy B row)(b:∀r,row=some r->D<=r/\∃o,A.heap[r]?=some o/\o.isCells=false):B.ownsRow base e size v n xs:=by
 obtain⟨hl,h|⟨g,cap,cur,h1,h2,h3,h4⟩⟩:=h
 .exact⟨hl,.inl h⟩
 exact⟨hl,.inr ⟨g,cap,cur,h1,h2,(KT h3 a b).trans h3,h4⟩⟩
section
variable {P:Program}
end
def QI(n)(hn:1<=n){bk s F R2}(A p n0){E S}{d}{w}(H:Kj w bk s F R2 E S d)(I:Small d)(B:0<d.n->s<n0/\s≠p)(K:∀i,i<d.n->E i<n0/\E i≠p)
  (m0:w.cell? (G A 0)=some (Q9 bk)):
  SeqStopsK Fence.wide n prog 194 #[Q9 A] (λa=>#[Q9 (E a.1)]) (Qu p n0)
   (cK d) (TU d) d.n w:=λl Z U W C V M P Q=>by
 have m0:=(C.cell<|I9 _ _ m0).trans m0;have g:=H.below C;rcases g.c0,I.n,O K with⟨⟨a0,k0,c0,u⟩,R,D⟩;refine callsIn_of_wp func194 rfl trivial ?_ rfl;simp only[ntmps194,Aaw,Aac,VC,Nat.reduceAdd,Nat.reduceSub,Aaf,Aae,Aax,Aam,Wx,Aau];gi_wp2
 gi_loopw [10] (λi wr=>∃(k:Nat) (pre:List<|M4 d),k<=d.n/\i=J (k:Int)/\I6 d k pre/\Z pre wr/\Qu p n0 W wr) λi _=>d.n-(intOf i).toNat
 case atStart=>exact⟨0,[],om,rfl,rfl,z<|O Q,Qu.refl _ _ _⟩
 case round=>
  obtain⟨k,pre,hk,rfl,c,j,f⟩:=hrel;by_cases b:k<d.n
  .obtain rfl:=z (O u) om;have X:=(As (a:=G s k)<|f.block _ (B om).1 (B om).2).trans<|g.r0 k b;have t0:=(As (a:=G (E k) 10)<|f.block _ (D k b).1 (D k b).2).trans (g.CH k b).tn;by_cases o:(d.L k).turn=0
   .have t:I6 d (k+1) pre:=by unfold I6;rw[Cm o];exact c
    rw[o]at t0;gi_wp2;refine⟨λ_ h=>(by cases h),?_⟩;gi_wp2;go_roundw
    .exact⟨k+1,pre,om,ov,t,j,f⟩
    exact ow
   have T:((d.L k).turn !=0)=true:=by simp[o]
   obtain⟨fn,tmps,assign,body,hy,m⟩:=z (O P) pre ⟨k,b,o⟩ wr j (by
    have h1:=congrArg List.length c;rw[AaR]at h1;have:=FW d k;omega)
   have t:Hid<|I6 d (k+1)<|pre++[⟨k,b,o⟩]:=O (by
    unfold I6;rw[Bs o,Aaj,show pre.map (·.1)=A8 d k from c];rfl)
   dsimp only at hy;gi_wp2;refine m.mono ?_;rintro e W3 (⟨rfl,v,x⟩|⟨rfl,q⟩)
   .clear hy m;gi_wp2;go_roundw
    .exact⟨k+1,_,om,ov,t,v,f.trans x⟩
    exact ow
   clear hy m;gi_wp2;refine Fs (AaE rfl _ _ _) rfl ?_;exact⟨⟨_,rfl⟩,.inr ⟨_,t.pre om,q⟩⟩
  have r:k=d.n:=om;subst r;gi_wp2;go_end0;exact⟨⟨_,rfl⟩,.inl ⟨pre,c,j⟩⟩
end
def fM s w:
  C9 36 #[.string s] w (R9 (V 4 0 0 s 0) w):=by
 go_enter func36,ntmps36;go_wp2;exact Fs (v:=V 4 0 0 s 0) (by simp[results,results36,go_sem]) rfl ⟨rfl,n9⟩
def Qc s w:
  C9 127 #[.string s] w (R9 (V 4 0 0 s 0) w):=by
 go_enter func127,ntmps127;go_wp2;exact Fs (v:=V 4 0 0 s 0) (by simp[results,results127,go_sem]) rfl ⟨rfl,n9⟩
def FZ(s:AE)(j:Nat)(t:Tb)(i:Nat):Pr:=⟨⟨4,0,0,DU s.F j i,0⟩,t.V i,(i:Int)+1⟩
def JE s b0 B Z M A t j{w}(hN:CE w s.F b0 s.nf B Z M)(hid:∀i,i<s.nf->Z i=i)(h0:Ar s.nf s.F=0)(hj:j<s.nf)(hV:IX w A.va t.nv t.V)(E:t.nv=nf s.F j):
  C9 143 #[CK (B j) A t] w λe w'=>(∃v,e=.returned v/\BU w' w.heap.size v (nf s.F j) (FZ s j t))/\B9 w w':=by
 obtain⟨h1,h2,h3,h4,h5⟩:=Av h0;have H:nf s.F j<=12:=by have:=(Bh (k:=s.nf) h2 (λq h1 h2=>h3 q h1 h2) j hj).2;unfold nf;omega
 obtain⟨i0,hi,S,T,U⟩:=Ok EX;obtain⟨W,hW,l,_,o0⟩:=Ll w<|.cells #[.slice A.va t.nv A.vc,.slice A.la t.d.n A.lc,.slice A.ia t.d.m A.ic,.slice A.xa t.d.x A.xc,J t.d.used,J t.d.live,J t.d.turns,Q9 (B j)] 156;have lw:w.heap.size<W.heap.size:=om;rcases v8 o0,O<|qp (hN.below l) hid,O<|hV.below l rfl,O l,O h2,O h3,O E with⟨⟨x0,_,_,_,_,_,_,x7⟩,r,I,K,H2,H3,u⟩;clear l hV hN hid h0 h1 h2 h3 h4 h5 E;obtain⟨n,hn⟩:=qa<|nf s.F j;rw[<-hn]at H u ⊢;have a8:=O hn;go_enter func143,ntmps143;go_wp2_with fail;rw[<-hW];clear hW;refine(Wp _ b0 B Z M r.1 r.2 H2 H3 j hj).mono ?_;rintro e w1 ⟨⟨m,rfl,hm,c⟩,f⟩;rw[<-hn]at c ⊢;clear hn;rcases (f.cell lw).trans x0,A0 lw f.size,RC c,O<|I.below f rfl,O<|o9 K f,O c with⟨y0,X,ae,af,C,ag⟩;clear f x0 x7 c I r;go_wp2;go_loopw [3,10] (λv i wr=>∃(k:Nat),k<=n/\i=J k/\BU wr w1.heap.size v k (FZ s j t)/\B9 w1 wr) λ_ i _=>n-(intOf i).toNat
 .exact⟨0,om,rfl,IF _ _ _ _,BE _ _⟩
 obtain⟨k,hk,rfl,L,hb⟩:=hrel;by_cases P:k<n
 case neg=>
  have ah:k=n:=om;have D:=O<|o9 C hb;have HO:=O L;clear hb L P;subst ah;go_wp2;go_ret;exact⟨⟨_,rfl,Eu HO C.size⟩,D⟩
 obtain⟨b,off,Q,ai,hcs⟩:=af.resolve_left<|oT<|z u;have aj:k<t.nv:=oT<|z u;obtain⟨e0,e1,e2,e3,e4⟩:=(hcs k aj).keep λq=>hb.cell ai;have p0:wr.cell? (y w 0)=some (.slice (some<|G b off) t.nv A.vc):=by rw[<-Q];exact o7 hb X y0
 have q0:=o7 hb ae<|World.rowIs.cell ag P;have bb:=hb.size;have ak:w.heap.size<wr.heap.size:=om;have g:b<wr.heap.size:=om;have D:=O hb;have ao:Hid<|BU wr.drew w1.heap.size u3 k<|FZ s j t:=O L.drew;have R:=O L.lt;clear hb L hcs Q;go_wp2_with fail;have bc:IntKind.i64.wrap ((k:Int)+1)=(k:Int)+1:=oj
 go_region_law (first
  |(go_simp;go_at_call 127;refine m9 (Qc (DU s.F j k) _) λw2 a=>?_;have bd:wr.heap.size<=w2.heap.size:=a.size;have aq:=o7 a ak p0;have ar:=o7 a g e0;have au:=o7 a g e1;have av:=o7 a g e2;have aw:=o7 a g e3;have ax:=o7 a g e4;have l2:w.heap.size<w2.heap.size:=om;have bf:b<w2.heap.size:=om;have ay:=O<|Xf ao a;have az:=O<|D.trans<|show Below w1.heap.size wr w2 from⟨a.os,a.tape,a.output,a.size,λk hk=>a.block k ot⟩;clear a)
  |(refine Re _ rfl (.tmp 15) (.tmp 27) 66 rfl w1.heap.size 168 i0 PZ 11 104 underlying66 hi S T U rfl oo u3 k (pL (FZ s j t) k) oe (ay.alloc _) (y w2 0) 1 1 (DA (FZ s j t k)) oe rfl (Is (DO _ _)) (EZ _) oo od om ot _ rfl ?_;intro g3 bg w3 h o ad a7;have aM:=O ((az.alloc om _).trans (Dd o (λq e=>(R q e).1) ot));have a6:=O h;clear h o))
 all_goals
  clear e0 e1 e2 e3 e4 p0 q0 ar au av aw ax aq;go_wp2;go_roundw
  .exact⟨k+1,om,oq,a6,aM⟩
  exact ow
def WR c{m}fc{ta}tc(s:AE){A}(i j:Nat){w:Y}(H:w.cell? (G c 0)=some (S9 m s.nf fc))(S:w.cell? (G c 1)=some (.slice ta s.nt tc))(U:c<w.heap.size)(V:BQ w m s.nf s.F)(hT:Sm w ta s.nt s.T A)(h0:Ar s.nf s.F=0)(hi:i<s.nt)(bq:s.nt<=1048576)(I:(s.T i).shape=j)(hj:j<s.nf)(u:(s.T i).nv=nf s.F j):
  C9 73 #[Q9 c,J i] w λe w'=>(∃v,e=.returned v/\BU w' w.heap.size v (nf s.F j) (FZ s j<|s.T i))/\B9 w w':=by
 obtain⟨h1,h2,h3,h4,h5⟩:=Av h0;have K:nf s.F j<=12:=by have:=(Bh (k:=s.nf) h2 (λq h1 h2=>h3 q h1 h2) j hj).2;unfold nf;omega
 obtain⟨b1,bm,rfl,bn,hcs⟩:=hT.resolve_left om;obtain⟨a0,a1,a2,a3,a4,a5,a6,a7⟩:=(hcs i hi).1;have R:=(hcs i hi).2.1;rw[I]at a0;rcases V.lt,qa<|s.T i,qa (A i) with⟨X,⟨t,ht⟩,⟨D,hD⟩⟩;rw[<-ht]at a1 a2 a3 a4 a5 a6 a7 R u ⊢;rw[<-hD]at a1 a2 a3 a4 R;obtain⟨i0,Z,ae,af,ag⟩:=Ok EX;obtain⟨W,hW,h,_,o0⟩:=Ll w<|.cells #[J (j:Int),.slice D.va t.nv D.vc,.slice D.la t.d.n D.lc,.slice D.ia t.d.m D.ic,.slice D.xa t.d.x D.xc,J t.d.used,J t.d.live,J t.d.turns] 71;have lw:w.heap.size<W.heap.size:=om;obtain⟨x0,x1,_⟩:=v8 o0;have z0:=(h.cell U).trans H;have lc:c<W.heap.size:=om;have lm:m<W.heap.size:=om;rcases O (V.below h X),O<|R.below h rfl,O h,O h1,O h2,O h3,O u with⟨ah,ai,aj,H1,H2,H3,B⟩;clear h R h0 h1 h2 h3 h4 h5 u V hcs ht hD I hT;obtain⟨n,hn⟩:=qa<|nf s.F j;rw[<-hn]at K B ⊢;have ak:=O hn;go_enter func73,ntmps73;go_wp2_with fail;rw[<-hW];clear hW a0 a1 a2 a3 a4 a5 a6 a7 H S
 go_region_law (go_simp;go_at_call 94;refine(Iq fc j (ah.below (BE _ _).drew lm) H1 H2 H3 hj).mono ?_;rintro e w1 ⟨⟨m',rfl,hm,g⟩,f⟩;rw[<-hn]at g;have y1:=o7 f lw x1;have ao:w.heap.size<w1.heap.size:=A0 lw f.size;have aq:=RC g;have ar:=O<|(ai.below (BE _ _).drew rfl).below f rfl;have C:=O<|aj.trans<|show Below w.heap.size W w1 from⟨f.os,f.tape,f.output,f.size,λk hk=>f.block k ot⟩;have au:=O g;clear f g)
 all_goals
 clear hn x0 x1 z0;go_wp2;simp only[Act.put,AaQ,AaI,AaH,XN,AaW,AaV];rw[<-z ak];go_loopw [6,30] (λv i wr=>∃(k:Nat),k<=n/\i=J k/\BU wr w1.heap.size v k (FZ s j t)/\B9 w1 wr) λ_ i _=>n-(intOf i).toNat
 .exact⟨0,om,rfl,IF _ _ _ _,BE _ _⟩
 obtain⟨k,hk,rfl,L,hb⟩:=hrel;by_cases M:k<n
 case neg=>
  have av:k=n:=om;have E:=O<|o9 C hb;have HO:=O L;clear hb L M;subst av;go_wp2;go_ret;exact⟨⟨_,rfl,Eu HO C.size⟩,E⟩
 obtain⟨b,off,P,aw,hcs⟩:=ar.resolve_left<|oT<|z B;have ax:k<t.nv:=oT<|z B;obtain⟨e0,e1,e2,e3,e4⟩:=(hcs k ax).keep λq=>hb.cell aw;have p0:wr.cell? (y w 1)=some (.slice (some<|G b off) t.nv D.vc):=by rw[<-P];exact o7 hb ao y1
 have q0:=o7 hb aq<|World.rowIs.cell au M;have br:=hb.size;have ay:w.heap.size<wr.heap.size:=om;have l:b<wr.heap.size:=om;have E:=O hb;have az:Hid<|BU wr.drew w1.heap.size u6 k<|FZ s j t:=O L.drew;have Q:=O L.lt;clear hb L hcs P;go_wp2_with fail;have bt:IntKind.i64.wrap ((k:Int)+1)=(k:Int)+1:=oj
 go_region_law (first
  |(go_simp;go_at_call 36;refine m9 (fM (DU s.F j k) _) λw2 a=>?_;have bu:wr.heap.size<=w2.heap.size:=a.size;have aM:=o7 a ay p0;have a8:=o7 a l e0;have bb:=o7 a l e1;have bc:=o7 a l e2;have bd:=o7 a l e3;have bf:=o7 a l e4;have l2:w.heap.size<w2.heap.size:=om;have bw:b<w2.heap.size:=om;have bg:=O<|Xf az a;have bh:=O<|E.trans<|show Below w1.heap.size wr w2 from⟨a.os,a.tape,a.output,a.size,λk hk=>a.block k ot⟩;clear a)
  |(refine Re _ rfl (.tmp 35) (.tmp 46) 66 rfl w1.heap.size 168 i0 PZ 11 104 underlying66 Z ae af ag rfl oo u6 k (pL (FZ s j t) k) oe (bg.alloc _) (y w2 0) 1 1 (DA (FZ s j t k)) oe rfl (Is (DO _ _)) (EZ _) oo od om ot _ rfl ?_;intro g3 bx w3 o r ad bp;have bj:=O ((bh.alloc om _).trans (Dd r (λq e=>(Q q e).1) ot));have bk:=O o;clear o r))
 all_goals
  clear e0 e1 e2 e3 e4 p0 q0 a8 bb bc bd bf aM;go_wp2;go_roundw
  .exact⟨k+1,om,oq,bk,bj⟩
  exact ow
noncomputable def Dz(s:AE)(i:Nat):Int:=BI (s.T i).d<|hD (s.T i).d
def tF(hs:Hc s)(a:Y2 s):∀i,i<s.nt->∀la lc ia ic xa xc,XT la lc ia ic xa xc (s.T i).d<|Dz s i:=
 λi hi la lc ia ic xa xc W hA=>tG lc ic xc hA (hs.Km hi) (a i hi).2
def rZ(hs:Hc s)(a:Y2 s):∀i,i<s.nt->∀la lc ia ic xa xc,cJ BZ la lc ia ic xa xc (s.T i).d<|Dz s i:=
 λi hi la lc ia ic xa xc W b hA=>sD lc ic xc b hA (hs.Km hi) (a i hi).2
open Classical in
noncomputable def bV(s:AE)(t:Tb):Nat:=if t.shape=-1 then K0 t.d else nf s.F t.shape.toNat
open Classical in
noncomputable def jZ(s:AE)(t:Tb):Nat->Pr:=if t.shape=-1 then EL t.d else FZ s t.shape.toNat t
def Z5(h:Ld s (Dz s i)<|s.T i):((s.T i).shape=-1/\BI (s.T i).d (hD (s.T i).d)=0)\/∃j:Nat,(s.T i).shape=j/\j<s.nf/\(s.T i).nv=nf s.F j:=by
 rcases h with h|h
 .exact .inl ⟨h.1,h.2.2⟩
 refine .inr ⟨(s.T i).shape.toNat,om,om,?_⟩;have:=h.2.2.1;rw[nf];omega
def S3 c{ta}tc(s:AE){A}i{w:Y}(p:w.cell? (G c 1)=some (.slice ta s.nt tc))(q:c<w.heap.size)(j:Sm w ta s.nt s.T A)(hi:i<s.nt)(r:s.nt<=1048576)(a:(s.T i).shape=-1)(k:Small (s.T i).d)(h2:D2 (s.T i).d):
  C9 73 #[Q9 c,J i] w λe w'=>(∃v,e=.returned v/\BU w' w.heap.size v (K0 (s.T i).d) (EL (s.T i).d))/\B9 w w':=by
 obtain⟨b1,l,rfl,m,hcs⟩:=j.resolve_left om;obtain⟨a0,a1,a2,a3,a4,a5,C,D⟩:=(hcs i hi).1;have t:=O (hcs i hi).2.2.log;rw[a]at a0;have u:=O k;have x:=O h2;have b:∀o,B9 w<|w.alloc o:=λo=>n9;have g:=O b;clear hcs j k h2 a b;go_enter func73,ntmps73;go_wp2_with fail;refine(UL _ _ _ _ _ (t.below (g _) rfl) u x).mono ?_;rintro e w1 ⟨⟨v,rfl,n⟩,f⟩;have h:=O<|o9 (g _) f;have B:=O<|Eu n (g _).size;clear f n;go_wp2;go_ret;exact⟨⟨v,rfl,B⟩,h⟩
def UO c{m}k{ta}tc{s}{A}i{w:Y}(f:w.cell? (G c 0)=some (S9 m s.nf k))(b:w.cell? (G c 1)=some (.slice ta s.nt tc))(d:c<w.heap.size)(n:BQ w m s.nf s.F)(l:Sm w ta s.nt s.T A)(hs:Hc s)(o:A6 s (Dz s)=0)(hi:i<s.nt):
  C9 73 #[Q9 c,J i] w λe w'=>(∃v,e=.returned v/\BU w' w.heap.size v (bV s<|s.T i) (jZ s<|s.T i))/\B9 w w':=by
 obtain⟨h1,h2,h3,h4⟩:=L6 o;rcases Z5 (h3 i hi)with⟨a,p⟩|⟨j,a,hj,g⟩
 .have h:=S3 c tc s i b d l hi hs.nt a (hs.Km hi) (Hu p).d2;rw[bV,jZ,DD a,DD a];exact h
 have h:=WR c k tc s i j f b d n l h1 hi hs.nt a hj g;rw[bV,jZ];rw[C3 om,a];exact h
def yK v W:Sem.run prog (Instr.typeAssert (.iface 156 v) 103 156 true) W=.ok (.tuple #[v,.bool true]) W:=by
 kernel_rfl
def zZ v W:Sem.run prog (Instr.typeAssert (.iface 153 v) 103 153 true) W=.ok (.tuple #[v,.bool true]) W:=by
 kernel_rfl
def zE v W:Sem.run prog (Instr.typeAssert (.iface 153 v) 103 156 true) W=.ok (.tuple #[.agg #[N9,N9,N9,N9,J 0,J 0,J 0,.pointer none],.bool false]) W:=by
 kernel_rfl
def xV(op:Int):Int:=if op=2 then 25 else if op=3 then 9 else if op=4 then 5 else if op=5 then 1 else if op=6 then 1 else if op=7 then 8 else if op=8 then 3 else if op=9 then 19 else 0
def DP(n a nm:Int):Bool:=decide (0<=n)&&decide (n<if nm=0 then 1 else a)
def Hj(v:Vl)(nm:Int):Bool:=v.ok&&(nm !=0||v.kind==0)
abbrev bt(op m:Int):Int:=bits .and .i64 (xV op) m
def EK(a:Ac):Bool:=DP a.t 100 (bt a.op 1)&&DP a.site 50 (bt a.op 2)&&DP a.n 1000000000001 (bt a.op 4)&&Hj a.k (bt a.op 8)&&Hj a.v (bt a.op 16)&&(a.op !=7||a.k.kind==4)
theorem yN:bt 1 1=0/\bt 1 2=0/\bt 1 4=0/\bt 1 8=0/\bt 1 16=0:=oo
theorem yO:bt 2 1=1/\bt 2 2=0/\bt 2 4=0/\bt 2 8=8/\bt 2 16=16:=oo
theorem yP:bt 3 1=1/\bt 3 2=0/\bt 3 4=0/\bt 3 8=8/\bt 3 16=0:=oo
theorem yQ:bt 4 1=1/\bt 4 2=0/\bt 4 4=4/\bt 4 8=0/\bt 4 16=0:=oo
theorem yR:bt 5 1=1/\bt 5 2=0/\bt 5 4=0/\bt 5 8=0/\bt 5 16=0:=oo
theorem yS:bt 6 1=1/\bt 6 2=0/\bt 6 4=0/\bt 6 8=0/\bt 6 16=0:=oo
theorem yT:bt 7 1=0/\bt 7 2=0/\bt 7 4=0/\bt 7 8=8/\bt 7 16=0:=oo
theorem yU:bt 8 1=1/\bt 8 2=2/\bt 8 4=0/\bt 8 8=0/\bt 8 16=0:=oo
theorem yV:bt 9 1=1/\bt 9 2=2/\bt 9 4=0/\bt 9 8=0/\bt 9 16=16:=oo
theorem rQ t s n k v:EK ⟨1,t,s,n,k,v⟩=Cx ⟨1,t,s,n,k,v⟩:=by
 grind [EK,Cx,yN,JB,El,DP,Hj,I8]
theorem rR t s n k v:EK ⟨2,t,s,n,k,v⟩=Cx ⟨2,t,s,n,k,v⟩:=by
 grind [EK,Cx,yO,JB,El,DP,Hj]
theorem rS t s n k v:EK ⟨3,t,s,n,k,v⟩=Cx ⟨3,t,s,n,k,v⟩:=by
 grind [EK,Cx,yP,JB,El,DP,Hj,I8]
theorem rT t s n k v:EK ⟨4,t,s,n,k,v⟩=Cx ⟨4,t,s,n,k,v⟩:=by
 grind [EK,Cx,yQ,JB,El,DP,Hj,I8]
theorem rU t s n k v:EK ⟨5,t,s,n,k,v⟩=Cx ⟨5,t,s,n,k,v⟩:=by
 grind [EK,Cx,yR,JB,El,DP,Hj,I8]
theorem rV t s n k v:EK ⟨6,t,s,n,k,v⟩=Cx ⟨6,t,s,n,k,v⟩:=by
 grind [EK,Cx,yS,JB,El,DP,Hj,I8]
theorem rW t s n k v:EK ⟨7,t,s,n,k,v⟩=Cx ⟨7,t,s,n,k,v⟩:=by
 grind [EK,Cx,yT,JB,El,DP,Hj,I8]
theorem rX t s n k v:EK ⟨8,t,s,n,k,v⟩=Cx ⟨8,t,s,n,k,v⟩:=by
 grind [EK,Cx,yU,JB,El,DP,Hj,I8]
theorem rY t s n k v:EK ⟨9,t,s,n,k,v⟩=Cx ⟨9,t,s,n,k,v⟩:=by
 grind [EK,Cx,yV,JB,El,DP,Hj,I8]
def eV a(h1:1<=a.op)(b:a.op<=9):EK a=Cx a:=by
 obtain⟨op,t,s,n,k,v⟩:=a;grind [Cx,rQ,rR,rS,rT,rU,rV,rW,rX,rY]
end Go.Proofs.YtkpfgniijbgkoaaGreatDoor
