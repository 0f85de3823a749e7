import Derived.Test.YtgmlkfgfjjggnaaGreatDoorSEAA
import Derived.Test.YtgmlkfgfjjggnaaGreatDoorSEAA
import Derived.Test.YtgmlkfgfjjggnaaGreatDoorRows
set_option linter.all false
set_option maxHeartbeats 40000000
set_option maxRecDepth 100000
namespace Go.Proofs.YtgmlkfgfjjggnaaGreatDoor
open Go.Proofs.Tryz
open Go.RowKit
attribute [local go_sem] AA Aw Cl
def jI(x:Int):Int:=IntKind.u64.wrap (bits BinOp.and IntKind.u64 (x/2) 6148914691236517205+bits BinOp.and IntKind.u64 x 6148914691236517205)
def jJ(x:Int):Int:=IntKind.u64.wrap (bits BinOp.and IntKind.u64 (x/4) 3689348814741910323+bits BinOp.and IntKind.u64 x 3689348814741910323)
def jK(x:Int):Int:=bits BinOp.and IntKind.u64 (IntKind.u64.wrap (x/16+x)) 1085102592571150095
def jL(x:Int):Int:=IntKind.u64.wrap (x+x/256)
def jM(x:Int):Int:=IntKind.u64.wrap (x+x/65536)
def jN(x:Int):Int:=IntKind.u64.wrap (x+x/4294967296)
def pop(x:Int):Int:=bits BinOp.and IntKind.i64 (wrap64 (jN (jM (jL (jK (jJ (jI x))))))) 127
theorem Lr(x:Nat)(hx:x<=4000)(w:Y):
  C9 284 #[.int .u64 (x:Int)] w fun e w'=>e=.returned (J (pop x))/\w'=w:=by
 go_enter func284,ntmps284
 go_wp2;go_ret;exact⟨rfl,rfl⟩
theorem NI(x:Nat)(hx:x<=4000)(w:Y):
  C9 267 #[.int .u64 (x:Int)] w fun e w'=>e=.returned (J (pop x))/\w'=w:=by
 go_enter func267,ntmps267
 go_wp2_with (go_at_call 284;refine(Lr x hx _).mono ?_;rintro e w1 ⟨rfl,rfl⟩)
 go_ret;exact⟨rfl,rfl⟩
theorem XF:∀k:Nat,k<12->pop ((2^k:Nat):Int)=1:=by decide +kernel
theorem ZC:∀x:Nat,x<4001->pop (x:Int)=1->x∈[1,2,4,8,16,32,64,128,256,512,1024,2048]:=by decide +kernel
theorem ZA{x:Nat}(hx:x<=4000):pop x=1↔Rv x:=by
 constructor
 ·intro h;have:=ZC x (by omega) h;simp only[Aau,Aaq,or_false]at this;rcases this with h|h|h|h|h|h|h|h|h|h|h|h
  ·exact⟨0,h⟩
  ·exact⟨1,h⟩
  ·exact⟨2,h⟩
  ·exact⟨3,h⟩
  ·exact⟨4,h⟩
  ·exact⟨5,h⟩
  ·exact⟨6,h⟩
  ·exact⟨7,h⟩
  ·exact⟨8,h⟩
  ·exact⟨9,h⟩
  ·exact⟨10,h⟩
  ·exact⟨11,h⟩
 ·rintro⟨k,rfl⟩;have hk:k<12:=by
   rcases Nat.lt_or_ge k 12 with h|h
   ·exact h
   ·have:=Nat.pow_le_pow_right (n:=2) (by decide) h;omega
  exact XF k hk
theorem Y3{x:Nat}(h:fz x=true):Nx x x=true:=by
 have h':(Ieee.double.order x 0==some .eq)=true:=h;show(Ieee.double.order x x==some .eq)=true;rcases Fl.CG x with⟨s,m,i,a,hi,b,c,_⟩|⟨s,a⟩|⟨s,t,a⟩
 ·rw[Fl.B6 a a hi hi,Fl.C0];simp
 ·exfalso;unfold Ieee.Format.order at h';rw[a,Fl.CP]at h';cases s<;>simp[Ieee.Datum.order]at h'
 ·exfalso;unfold Ieee.Format.order at h';rw[a]at h';simp[Ieee.Datum.order]at h'
theorem TL{v:Vl}(h:Db v=true):Nx v.Ae v.Ae=true:=by
 unfold Db Vl.ok at h;simp only[OR,bne_iff_ne,ne_eq,Bool.not_eq_true',Bool.and_eq_false_iff,Bool.or_eq_false_iff,beq_eq_false_iff_ne]at h;obtain⟨⟨a,f⟩,h3⟩:=h;by_cases hk:v.kind=3
 ·rcases h3 with h3|h3
  ·exact absurd hk h3
  ·have:(O9 v.Ae v.Ae !=some .eq)=false:=h3.1;unfold Nx;simpa using this
 ·have hz:fz v.Ae=true:=by
   unfold AB at a;by_cases k1:v.kind=1
   ·simp[k1]at a;simp[a]
   by_cases k2:v.kind=2
   ·simp[k2]at a;simp[a]
   by_cases k4:v.kind=4
   ·simp[k4]at a;simp[a]
   by_cases b:v.kind=5
   ·simp[b]at a;simp[a]
   by_cases c:v.kind=6
   ·simp[c]at a;simp[a]
   by_cases d:v.kind=7
   ·simp[d]at a;simp[a]
   by_cases e:v.kind=8
   ·simp[e]at a;simp[a]
   exfalso;simp[f,hk,k1,k2,k4,b,c,d,e]at a
  exact Y3 hz
theorem TP(v:Vl):Gl v=(v.kind==0&&(v.num==0&&(fz v.Ae&&(v.str.toList.isEmpty&&v.ref==0)))):=by
 unfold Gl Vl.ok AB;by_cases h:v.kind=0
 ·simp[h,Bool.and_assoc]
 ·have:(v.kind==0)=false:=by simp[h]
  rw[this];rfl
section
open Go.RowKit Go.Shelf
theorem kP(x:V9)(w:Y):(Instr.index 323 (.agg #[.func (.func 242) #[x] #[],.func (.func 243) #[x] #[],.func (.func 244) #[x] #[],.func (.func 245) #[x] #[],.func (.func 246) #[x] #[]]) (J 0)).run prog w=.ok (.func (.func 242) #[x] #[]) w:=by kernel_rfl
theorem kQ(x:V9)(w:Y):(Instr.index 323 (.agg #[.func (.func 242) #[x] #[],.func (.func 243) #[x] #[],.func (.func 244) #[x] #[],.func (.func 245) #[x] #[],.func (.func 246) #[x] #[]]) (J 1)).run prog w=.ok (.func (.func 243) #[x] #[]) w:=by kernel_rfl
theorem kR(x:V9)(w:Y):(Instr.index 323 (.agg #[.func (.func 242) #[x] #[],.func (.func 243) #[x] #[],.func (.func 244) #[x] #[],.func (.func 245) #[x] #[],.func (.func 246) #[x] #[]]) (J 2)).run prog w=.ok (.func (.func 244) #[x] #[]) w:=by kernel_rfl
theorem kS(x:V9)(w:Y):(Instr.index 323 (.agg #[.func (.func 242) #[x] #[],.func (.func 243) #[x] #[],.func (.func 244) #[x] #[],.func (.func 245) #[x] #[],.func (.func 246) #[x] #[]]) (J 3)).run prog w=.ok (.func (.func 245) #[x] #[]) w:=by kernel_rfl
theorem kT(x:V9)(w:Y):(Instr.index 323 (.agg #[.func (.func 242) #[x] #[],.func (.func 243) #[x] #[],.func (.func 244) #[x] #[],.func (.func 245) #[x] #[],.func (.func 246) #[x] #[]]) (J 4)).run prog w=.ok (.func (.func 246) #[x] #[]) w:=by kernel_rfl
end
def Hl(x:Nat):List UInt8:=match Ieee.double.read x with
 |.infinity s=>(if s then[45]else[])++[105,110,102]
 |.number s m i=>Tx s (2*(m/2^Lib.ctz 64 m/2)+1) (i+Lib.ctz 64 m)
 |_=>[]
theorem Xt(m:Nat)(i:Int)(a:m≠0)(b:m<2^53):YE m i (m/2^Lib.ctz 64 m/2) (i+Lib.ctz 64 m):=by
 obtain⟨M,h1,_⟩:=Fl.Mn false m (by omega) b;have e:Fl.uw false m=m:=rfl;rw[e]at h1;refine⟨0,Lib.ctz 64 m,?_,by omega⟩;generalize Lib.ctz 64 m=t at h1;have:m/2^t=2*M+1:=by rw[h1];exact Nat.mul_div_cancel_left _ (Aao t)
 rw[this,show 2*((2*M+1)/2)+1=2*M+1 from by omega,Nat.pow_zero,Nat.mul_one,Aav];exact h1
theorem UY(x:Nat)(w:Y)(h:(O9 x 9218868437227405311==some .gt)=true):
  C9 272 #[F9 x] w fun e w'=>e=.returned (.string ⟨#[105,110,102]⟩)/\w'=w:=by
 have H:Hid ((O9 x 9218868437227405311==some .gt)=true):=h;clear h
 go_enter func272,ntmps272
 go_wp2_with fail
 refine(Kj x _).mono ?_;rintro e w1 ⟨rfl,rfl⟩;rw[H.out];go_wp2_with fail
 go_ret;exact⟨rfl,rfl⟩
theorem R6(x:Nat)(w:Y)(h:(O9 x 9218868437227405311==some .gt)=false)(h2:(O9 (Op.negFloat .f64 x) 9218868437227405311==some .gt)=true):
  C9 272 #[F9 x] w fun e w'=>e=.returned (.string ⟨#[45,105,110,102]⟩)/\w'=w:=by
 have H:Hid ((O9 x 9218868437227405311==some .gt)=false):=h;have a:Hid ((O9 (Op.negFloat .f64 x) 9218868437227405311==some .gt)=true):=h2;clear h h2
 go_enter func272,ntmps272
 go_wp2_with fail
 refine(Kj x _).mono ?_;rintro e w1 ⟨rfl,rfl⟩;rw[H.out];go_wp2_with fail
 refine(Oh x _).mono ?_;rintro e w1 ⟨rfl,rfl⟩;rw[a.out];go_wp2_with fail
 go_ret;exact⟨rfl,rfl⟩
theorem Xs{x:Nat}{s:Bool}{m:Nat}{i:Int}(a:Ieee.double.read x=.number s m i)(hi:-1074<=i)(hz:fz x=false):m≠0:=by
 intro e;subst e;have h:(Ieee.double.order x 0==some .eq)=false:=hz;rw[Fl.B6 a Fl.CP hi (by omega),Fl.C0,Fl.Fa,Fl.Fa]at h;simp at h
theorem UX(x:Nat)(hx:x<18446744073709551616)(hn:Ea x=false)(hz:fz x=false)(w:Y)(f:A8 w):
  C9 272 #[F9 x] w (R9 (.string ⟨(Hl x).toArray⟩) w):=by
 rcases Fl.CG x with⟨s,m,i,a,hi,c,d,_⟩|⟨s,a⟩|⟨s,t,a⟩
 ·have b:=Xs a hi hz;obtain⟨M,E,g,hc⟩:=Ny x hx s m i a hi c d b;obtain⟨e1,e2⟩:=QK g (Xt m i b d);have e:Hl x=Tx s (2*M+1) E:=by unfold Hl;rw[a,e1,e2]
  rw[e];exact hc w f
 ·cases s
  ·have e:Hl x=[105,110,102]:=by unfold Hl;rw[a];rfl
   rw[e];exact(UY x w (Fl.Og a)).mono fun e w' ⟨h1,h2⟩=>⟨h1,h2▸DD _ _⟩
  ·have e:Hl x=[45,105,110,102]:=by unfold Hl;rw[a];rfl
   rw[e];exact(R6 x w (Fl.Sp a) (Fl.Og (by rw[Fl.QS x hx,a];rfl))).mono fun e w' ⟨h1,h2⟩=>⟨h1,h2▸DD _ _⟩
 ·exfalso;have h:(!(Ieee.double.order x x==some .eq))=false:=hn;unfold Ieee.Format.order at h;rw[a]at h;simp[Ieee.Datum.order]at h
theorem bB(x:Nat)(a:x≠0)(h:x<2^53):Lib.ctz 64 x<=53:=by
 obtain⟨M,_,h2⟩:=Fl.Mn false x (by omega) h;have:Fl.uw false x=x:=rfl;rw[this]at h2;omega
theorem WR(x:Nat)(hn:Ea x=false)(hz:fz x=false):(Hl x).length<=60:=by
 rcases Fl.CG x with⟨s,m,i,a,hi,c,d,_⟩|⟨s,a⟩|⟨s,t,a⟩
 ·have b:=Xs a hi hz;have hc:=bB m b d;unfold Hl;rw[a];unfold Tx;have e:m/2^Lib.ctz 64 m/2<=m:=FZ (Nat.div_le_self _ _) (Nat.div_le_self _ _);have h1:=Lib.itoa_length_le (Fl.sg s (2*(m/2^Lib.ctz 64 m/2)+1)) (by cases s<;>simp only[Fl.sg,Aai,X9,Aaz]<;>omega) (by cases s<;>simp only[Fl.sg,Aai,X9,Aaz]<;>omega);have h2:=Lib.itoa_length_le (i+Lib.ctz 64 m) (by omega) (by omega);simp only[To,Aad,UP];omega
 ·unfold Hl;rw[a];cases s<;>decide
 ·unfold Hl;rw[a];exact P9 _
def Fw(kind num:Int)(Ae:Nat)(s:ByteArray)(ref:Int):Int:=
 if kind=4 then UC s.data.toList
 else if kind=3 then UC (Hl Ae)
 else if kind=2 then Sn (IntKind.u64.wrap num)
 else Sn (IntKind.u64.wrap (IntKind.u64.wrap (kind*1099511627776+IntKind.u64.wrap num)+IntKind.u64.wrap ref))
structure HK (kind:Int) (Ae:Nat) (s:ByteArray):Prop where
 str:s.size<=maxLen
 kV:0<=kind
 kU:kind<=8
 Ae:kind=3->Ae<18446744073709551616/\Ea Ae=false/\fz Ae=false
theorem Qu(kind num:Int)(Ae:Nat)(s:ByteArray)(ref:Int)(w:Y)(h:HK kind Ae s)(d:A8 w):
  C9 247 #[V kind num Ae s ref] w (R9 (.int .u64 (Fw kind num Ae s ref)) w):=by
 have hs:=h.str;have a:=h.kV;have G4:=h.kU;by_cases k4:kind=4
 ·subst k4;have e:Fw 4 num Ae s ref=UC s.data.toList:=by unfold Fw;rw[C3 rfl]
  rw[e];clear e a G4
  go_enter func247,ntmps247
  go_wp2_with (go_at_call 271;refine(Jy s _ hs).mono ?_;rintro e w1 ⟨rfl,rfl⟩)
  go_ret;exact⟨rfl,n9⟩
 have b4:(kind==4)=false:=by simp[k4]
 by_cases k3:kind=3
 ·subst k3;obtain⟨f1,f2,f3⟩:=h.Ae rfl;have e:Fw 3 num Ae s ref=UC (Hl Ae):=by unfold Fw;rw[Cs (by decide),C3 rfl]
  rw[e];have hl:=WR Ae f2 f3;have c:Hid (A8 w):=d;clear e a G4 b4 k4
  go_enter func247,ntmps247
  go_wp2_with fail
  refine m9 (UX Ae f1 f2 f3 _ (c.out.below (n9) c.out.sz)) fun w1 hb=>?_
  go_wp2_with fail
  refine(Jy ⟨(Hl Ae).toArray⟩ _ (by unfold maxLen;rw[show(ByteArray.mk (Hl Ae).toArray).size=(Hl Ae).length from by simp[ByteArray.size]];omega)).mono ?_;rintro e w2 ⟨rfl,rfl⟩;go_wp2_with fail
  go_ret;exact⟨by simp,(n9).trans (hb.mono (by simp))⟩
 have b3:(kind==3)=false:=by simp[k3]
 by_cases k2:kind=2
 focus
  subst k2;have e:Fw 2 num Ae s ref=Sn (IntKind.u64.wrap num):=by unfold Fw;rw[Cs (by decide),Cs (by decide),C3 rfl]
  rw[e];have b:=CU num;clear e a G4 b4 k4 b3 k3
  go_enter func247,ntmps247
 rotate_left
 focus
  have b2:(kind==2)=false:=by simp[k2]
  have e:Fw kind num Ae s ref=Sn (IntKind.u64.wrap (IntKind.u64.wrap (kind*1099511627776+IntKind.u64.wrap num)+IntKind.u64.wrap ref)):=by unfold Fw;rw[Cs k4,Cs k3,Cs k2]
  rw[e];clear e k4 k3 k2
  go_enter func247,ntmps247
  have b:=CU (IntKind.u64.wrap (kind*1099511627776+IntKind.u64.wrap num)+IntKind.u64.wrap ref)
 all_goals
  go_wp2_with (go_at_call 273;refine(Zk _ _ b.1 b.2).mono ?_;rintro e w1 ⟨rfl,rfl⟩)
  go_ret;exact⟨rfl,n9⟩
theorem WW{x:Nat}(h:fz x=true):B2 x=true:=by
 have h':(Ieee.double.order x 0==some .eq)=true:=h;rcases Fl.CG x with⟨s,m,i,a,hi,c,e,_⟩|⟨s,a⟩|⟨s,t,a⟩
 ·rw[Fl.B6 a Fl.CP hi (by omega),Fl.C0,Fl.Fa]at h';have b:Fl.sc s m i=0:=by simpa using h'
  have hu:=Fl.N1;have g:Ty x=true:=by
   show(Ieee.double.order x 14114281232179134464==some .gt||Ieee.double.order x 14114281232179134464==some .eq)=true;rw[Fl.B6 a Fl.Gv hi (by omega),Fl.PJ,Fl.I7,Fl.C0,b];simp only[Bool.or_eq_true,AaJ];left;omega
  have l:Ve x=true:=by
   show(Ieee.double.order x 4890909195324358656==some .lt)=true;rw[Fl.B6 a Fl.Gu hi (by omega),Fl.M3,Fl.Kd,b];simp only[AaJ];omega
  have hn:Ea x=false:=by
   show(!(Ieee.double.order x x==some .eq))=false;rw[Fl.B6 a a hi hi,Fl.C0];simp
  have d:Ll x=true:=by unfold Ll;rw[h];simp
  unfold B2;rw[g,l,Mh d hn g l];rfl
 ·exfalso;unfold Ieee.Format.order at h';rw[a,Fl.CP]at h';cases s<;>simp[Ieee.Datum.order]at h'
 ·exfalso;unfold Ieee.Format.order at h';rw[a]at h';simp[Ieee.Datum.order]at h'
theorem SQ{kind num:Int}{Ae:Nat}{s:ByteArray}{ref:Int}(h:AB kind num Ae s ref=true):0<=kind/\kind<=8:=by
 unfold AB at h;by_cases k0:kind=0
 ·omega
 by_cases k1:kind=1
 ·omega
 by_cases k2:kind=2
 ·omega
 by_cases k3:kind=3
 ·omega
 by_cases k4:kind=4
 ·omega
 by_cases a:kind=5
 ·omega
 by_cases b:kind=6
 ·omega
 by_cases c:kind=7
 ·omega
 by_cases d:kind=8
 ·omega
 exfalso;simp[k0,k1,k2,k3,k4,a,b,c,d]at h
theorem KZ(k n:Int)(f:Nat)(s:ByteArray)(r:Int):0<=Fw k n f s r/\Fw k n f s r<18446744073709551616:=by
 unfold Fw
 split
 ·exact Od _
 ·split
  ·exact Od _
  ·split
   ·exact MN _
   ·exact MN _
def hN(v:Vl):Nat:=(Fw v.kind v.num v.Ae v.str v.ref).toNat
theorem aF(v:Vl):((hN v:Nat):Int)=Fw v.kind v.num v.Ae v.str v.ref:=by
 have:=KZ v.kind v.num v.Ae v.str v.ref;unfold hN;omega
structure Wf (v:Vl):Prop where
 Ae:v.Ae<18446744073709551616
 str:v.str.size<=maxLen
theorem aG{v:Vl}(h:Db v=true)(a:Wf v):HK v.kind v.Ae v.str:=by
 unfold Db Vl.ok at h;simp only[OR,bne_iff_ne,ne_eq,Bool.not_eq_true',Bool.and_eq_false_iff,Bool.or_eq_false_iff,beq_eq_false_iff_ne]at h;obtain⟨⟨b,c⟩,h3⟩:=h;have hk:=SQ b;refine⟨a.str,hk.1,hk.2,fun e=>?_⟩;rcases h3 with h3|h3
 ·exact absurd e h3
 ·refine⟨a.Ae,h3.1,?_⟩;rw[Bool.eq_false_iff];intro hz;rw[WW hz]at h3;exact absurd h3.2 (by decide)
theorem dN{v:Vl}(h:Db v=true)(a:Wf v):NV A8 v (hN v):=
 ⟨by have:=KZ v.kind v.num v.Ae v.str v.ref;have:=aF v;omega,fun w b=>by rw[aF];exact Qu v.kind v.num v.Ae v.str v.ref w (aG h a) b⟩
theorem AL:DT A8:=fun w w' a hb=>a.below hb a.sz
def Rp(d:Dc):Prop:=∀i,i<d.n->Wf (d.L i).key/\Wf (d.L i).val
def hD(d:Dc)(i:Nat):Nat:=hN (d.L i).key
section
open Go.ChangeShapes Go.WideShapes Go.ChangeAt Go.RowKit
theorem own:ownKnob prog.godebug=none:=by kernel_rfl
theorem laidOut:laidOutB prog=true:=by kernel_rfl
def K5:List (String×DataW Unit):=[("math/bits.deBruijn32tab",Rows.laid_math_bits_deBruijn32tab),("math/bits.deBruijn64tab",Rows.laid_math_bits_deBruijn64tab),("internal/strconv.uint64pow10",Rows.laid_internal_strconv_uint64pow10)]
def Yk:List Nat:=[0,1,28,2,29,14,24,3,30,22,20,15,25,17,4,8,31,27,13,23,21,19,16,7,26,12,18,6,11,5,10,9]
def Jm(cs:Array Value):Obj->Obj
 |.cells _ t frozen=>.cells cs t frozen
 |o=>o
def Rk(w:Y):World:=
 {w with heap:=((w.heap.modify 4 (Jm (Yk.map fun n:Nat=>Value.int .u8 (n:Int)).toArray)).modify 2 (Jm (Lib.deBruijn64tab.map fun n:Nat=>Value.int .u8 (n:Int)).toArray)).modify 3 (Jm (Lib.pow10Tab.map fun n=>Value.int .u64 n).toArray)}
theorem fX{W:Y}(h:laidMetH prog K5 W):Lib.TabIs prog W "math/bits.deBruijn64tab" .u8 (Lib.deBruijn64tab.map fun n:Nat=>(n:Int)):=by
 have h1:=laidMetH.filter (fun x=>x.1== "math/bits.deBruijn64tab") h;have e:(K5.filter fun x=>x.1== "math/bits.deBruijn64tab")=[("math/bits.deBruijn64tab",Lib.tabData .u8 (Lib.deBruijn64tab.map fun n:Nat=>(n:Int)))]:=by kernel_rfl
 rw[e]at h1;exact Lib.tabIs_of_head (rest:=[]) (g:=2) (by kernel_rfl) (t:=384) (by kernel_rfl) underlying384 underlying5 (by kernel_rfl) (by kernel_rfl) h1
theorem aI{W:Y}(h:laidMetH prog K5 W):Lib.TabIs prog W "internal/strconv.uint64pow10" .u64 Lib.pow10Tab:=by
 have h1:=laidMetH.filter (fun x=>x.1== "internal/strconv.uint64pow10") h;have e:(K5.filter fun x=>x.1== "internal/strconv.uint64pow10")=[("internal/strconv.uint64pow10",Lib.tabData .u64 Lib.pow10Tab)]:=by kernel_rfl
 rw[e]at h1;exact Lib.tabIs_of_head (rest:=[]) (g:=3) (by kernel_rfl) (t:=391) (by kernel_rfl) underlying391 underlying136 (by kernel_rfl) (by kernel_rfl) h1
theorem jY:prog.globalNamed "math/bits.deBruijn64tab" =some 2:=by kernel_rfl
theorem g10:prog.globalNamed "internal/strconv.uint64pow10" =some 3:=by kernel_rfl
theorem kM:prog.globalNamed "math/bits.deBruijn32tab" =some 4:=by kernel_rfl
theorem fV{W:Y}(h:laidMetH prog K5 W):Lib.TabIs prog W "math/bits.deBruijn32tab" .u8 (Yk.map fun n:Nat=>(n:Int)):=by
 have h1:=laidMetH.filter (fun x=>x.1== "math/bits.deBruijn32tab") h;have e:(K5.filter fun x=>x.1== "math/bits.deBruijn32tab")=[("math/bits.deBruijn32tab",Lib.tabData .u8 (Yk.map fun n:Nat=>(n:Int)))]:=by kernel_rfl
 rw[e]at h1;exact Lib.tabIs_of_head (rest:=[]) (g:=4) (by kernel_rfl) (t:=393) (by kernel_rfl) underlying393 underlying5 (by kernel_rfl) (by kernel_rfl) h1
theorem ZS{W:Y}(h:laidMetH prog K5 W):A8 W:=by
 have a:=fX h;have b:=fV h;refine⟨?_,aI h,?_⟩
 ·intro j hj;have:=a.cell jY j (by simpa using hj);rw[this];simp[List.getD,hj]
 ·have c1:=Hi _ _ (b.cell kM 0 (by decide));have c2:=Hi _ _ (a.cell jY 0 (by decide));have c3:=Hi _ _ ((aI h).cell g10 0 (by decide));simp only at c1 c2 c3;omega
end
section
open Go.ChangeShapes Go.WideShapes Go.ChangeAt Go.RowKit Go.Deep
section
variable {H:Type} {enc:TypeId×Value->H} {P:Program} {w:Y} {base:Nat} {spare:Nat->Bool} {held:Bool}
end
end
def EL(n:Nat):Prop:=n≠0/\n<=200
def Bz(f:Nat->Bf):Prop:=(f 0).parent=-1/\(f 0).key.toList=[]/\(f 0).count=0
def YA(f:Nat->Bf)(i:Nat):Prop:=0<=(f i).parent/\(f i).parent<i/\(f i).count=(f (f i).parent.toNat).count+1/\(f i).count<=12/\(f i).key.size<=4000
def BB(n:Nat)(f:Nat->Bf):Prop:=∀i,1<=i->i<n->YA f i
def Twin(f:Nat->Bf)(k i:Nat):Prop:=(f k).parent=(f i).parent/\(f k).key.toList=(f i).key.toList
def Gd(n:Nat)(f:Nat->Bf):Prop:=∀i k,1<=k->k<i->i<n->¬Twin f k i
def dR(f:Nat->Bf)(i:Nat):Nat->Int
 |0=>(f i).parent
 |t+1=>(f (dR f i t).toNat).parent
def KJ(n:Nat)(f:Nat->Bf):Prop:=∀i t,1<=i->i<n->(∀s,s<=t->0<dR f i s)->(f (dR f i t).toNat).key.toList≠(f i).key.toList
open Classical in
noncomputable def Ar(n:Nat)(f:Nat->Bf):Int:=
 if EL n then if Bz f then if BB n f then if Gd n f then if KJ n f then 0 else 5 else 4 else 3 else 2 else 1
theorem UD{n:Nat}{f:Nat->Bf}(h:¬EL n):Ar n f=1:=Cs h
theorem UE{n:Nat}{f:Nat->Bf}(h1:EL n)(h:¬Bz f):Ar n f=2:=by unfold Ar;rw[C3 h1,Cs h]
theorem UF{n:Nat}{f:Nat->Bf}(h1:EL n)(h2:Bz f)(h:¬BB n f):Ar n f=3:=by unfold Ar;rw[C3 h1,C3 h2,Cs h]
theorem UG{n:Nat}{f:Nat->Bf}(h1:EL n)(h2:Bz f)(h3:BB n f)(h:¬Gd n f):Ar n f=4:=by unfold Ar;rw[C3 h1,C3 h2,C3 h3,Cs h]
theorem UH{n:Nat}{f:Nat->Bf}(h1:EL n)(h2:Bz f)(h3:BB n f)(h4:Gd n f)(h:¬KJ n f):Ar n f=5:=by unfold Ar;rw[C3 h1,C3 h2,C3 h3,C3 h4,Cs h]
theorem Kg{n:Nat}{f:Nat->Bf}(h1:EL n)(h2:Bz f)(h3:BB n f)(h4:Gd n f)(h:KJ n f):Ar n f=0:=by unfold Ar;rw[C3 h1,C3 h2,C3 h3,C3 h4,C3 h]
theorem below_drewN{B:Nat}{a w:Y}(h:Below B a w)(m:Nat):Below B a (w.drewN m):=⟨h.os,h.tape,h.output,h.size,h.block⟩
theorem BC{f:Nat->Bf}{k:Nat}(h2:Bz f)(h:∀j,1<=j->j<k->YA f j):∀j,j<k->0<=(f j).count/\(f j).count<=12:=by
 intro j
 induction j using Nat.strongRecOn with
 |ind j ih=>
  intro hj;by_cases e:j=0
  ·subst e;have:=h2.2.2;omega
  ·obtain⟨a,b,c,d,_⟩:=h j (by omega) hj;have:=(ih (f j).parent.toNat (by omega) (by omega)).1;omega
def Dx(f:Nat->Bf)(i:Nat):Nat->Nat
 |0=>i
 |t+1=>(f (Dx f i t)).parent.toNat
def nf(f:Nat->Bf)(i:Nat):Nat:=(f i).count.toNat
def DF(f:Nat->Bf)(i j:Nat):ByteArray:=(f (Dx f i (nf f i-1-j))).key
theorem Ii{n:Nat}{f:Nat->Bf}(h2:Bz f)(h3:BB n f){i:Nat}(hi:i<n)(e:0<i):1<=(f i).count/\(f i).count<=12:=by
 obtain⟨a,b,c,d,_⟩:=h3 i e hi;have:=(BC (k:=n) h2 (fun j h1 h2=>h3 j h1 h2) (f i).parent.toNat (by omega)).1;omega
theorem Fh{n:Nat}{f:Nat->Bf}(h2:Bz f)(h3:BB n f){i:Nat}(hi:i<n):∀t,t<=nf f i->Dx f i t<n/\(f (Dx f i t)).count=nf f i-t:=by
 intro t
 induction t with
 |zero=>
  intro _;have:=(BC (k:=n) h2 (fun j h1 h2=>h3 j h1 h2) i hi).1;exact⟨hi,by show(f i).count=_;unfold nf;omega⟩
 |succ t ih=>
  intro h;obtain⟨d,hc⟩:=ih (by omega);have g:0<Dx f i t:=by
   rcases AaH (Dx f i t)with e|e
   ·rw[e,h2.2.2]at hc;omega
   ·exact e
  obtain⟨a,b,c,_⟩:=h3 _ g d;exact⟨by show(f (Dx f i t)).parent.toNat<n;omega,by show(f (f (Dx f i t)).parent.toNat).count=_;omega⟩
theorem Ze:(prog.info? 9).map (fun i=>(i.zero,i.size,i.bytes))=some (some (E9),1,16):=by kernel_rfl
def eC(w:Y)(b n:Nat)(g:Nat->ByteArray):Prop:=w.rowIs b 9 n (fun j=>.string (g j))
theorem Au{n:Nat}{f:Nat->Bf}(h:Ar n f=0):EL n/\Bz f/\BB n f/\Gd n f/\KJ n f:=by
 unfold Ar at h
 split at h
 ·split at h
  ·split at h
   ·split at h
    ·split at h
     ·rename_i h1 h2 h3 h4 h5;exact⟨h1,h2,h3,h4,h5⟩
     ·omega
    ·omega
   ·omega
  ·omega
 ·omega
section
open Go.Maps (Keyed)
def dI(v:V9):Option (DataW Value×List MemPlace):=some (.held v,[])
def CK(P:Program)(K:TypeId)(w:Y)(m n:Nat)(g:Value->Value):Prop:=
 ∃D,w.ownsMap P K dI m n D/\∀key a,keyOf P K key=some a->D.atKey a (.held (.pointer none))=.held (g key)
theorem CK.made(P:Program)(K:TypeId)(w:Y):CK P K (w.alloc (.map #[] 0)) w.heap.size 0 (fun _=>.pointer none):=
 ⟨_,World.ownsMap_made w P K dI,fun key a h=>rfl⟩
theorem CK.isMap{P:Program}{K:TypeId}{w:Y}{m n:Nat}{g:Value->Value}(h:CK P K w m n g):∃es c,w.heap[m]?=some (.map es c):=by
 obtain⟨D,⟨es,c,hb,_⟩,_⟩:=h;exact⟨es,c,hb⟩
theorem CK.block{P:Program}{K:TypeId}{w w':Y}{m n:Nat}{g:Value->Value}(h:CK P K w m n g)(e:w'.heap[m]?=w.heap[m]?):CK P K w' m n g:=by
 obtain⟨D,⟨es,c,hb,F,hs,hD⟩,hl⟩:=h;exact⟨D,⟨es,c,e.trans hb,F,hs,hD⟩,hl⟩
theorem CK.mono{P:Program}{K:TypeId}{w:Y}{m n n':Nat}{g:Value->Value}(h:CK P K w m n g)(hn:n<=n'):CK P K w m n' g:=by
 obtain⟨D,a,hl⟩:=h;exact⟨D,a.mono hn,hl⟩
theorem CK.look{P:Program}{K t e:TypeId}{w:Y}{m n:Nat}{g:Value->Value}(h:CK P K w m n g)(L:Keyed P K)(d:P.underlying t=some (.map K e))(hz:(zeroValue e).run P w=.ok (.pointer none) w){key:V9}{c:Lit}(hk:keyOf P K key=some c):
  (Instr.lookup t (.map (some m)) key false).run P w=.ok (g key) w:=by
 obtain⟨D,f,hl⟩:=h;obtain⟨v,ps,a,b⟩:=f.lookup L d hz (zd:=.held (.pointer none)) (zp:=[]) rfl hk;rw[hl key c hk]at b;unfold dI at b;simp at b;rw[a,b.1]
open Classical in
theorem CK.put{P:Program}{K t e:TypeId}{w:Y}{m n:Nat}{g:Value->Value}(h:CK P K w m n g)(L:Keyed P K)(l:P.underlying t=some (.map K e))(hn:n<maxLen){key:V9}(val:V9){i:Lit}(hk:keyOf P K key=some i):
  ∃w',(Instr.mapUpdate t (.map (some m)) key val).run P w=.ok () w'/\CK P K w' m (n+1) (fun k=>if k=key then val else g k)/\w.grownBy w' (some m):=by
 obtain⟨D,j,hl⟩:=h;obtain⟨w',b,f,hg⟩:=j.update L l hn hk (val:=val) (d:=.held val) (ps:=[]) rfl;refine⟨w',b,⟨_,f,fun k' c a=>?_⟩,hg⟩;by_cases e:k'=key
 ·subst e;have:c=i:=by rw[hk]at a;exact(Aaj a).symm
  subst this;show _=DataW.held (if k'=k' then val else g k');rw[C3 rfl];exact Maps.atKey_put_same j.isMap (L.key hk) _ _
 ·show _=DataW.held (if k'=key then val else g k');rw[Cs e,Maps.atKey_put_other (fun e2=>e (L.inj a (by rw[e2];exact hk)))];exact hl k' c a
def BJ(i:Nat)(s:Bf)(par:T9)(m:Option Nat):Nat->Value
 |0=>J i
 |1=>J s.parent
 |2=>.string s.key
 |3=>J s.count
 |4=>.pointer par
 |_=>.map m
abbrev I4(s:Bf):Value:=Sh s.parent s.key s.count
abbrev Az(f:Nat->Bf)(i:Nat):Nat:=(f i).parent.toNat
theorem O3{a b:Bf}(h:I4 a=I4 b):a=b:=by
 cases a;cases b;simp at h;simp[h]
def Kids(f:Nat->Bf)(k:Nat)(B Z:Nat->Nat)(i:Nat)(g:Value->Value):Prop:=
 ∀v,(∃j,0<j/\j<k/\Z j=j/\Z (Az f j)=i/\v=I4 (f j)/\g v=Q9 (B j))\/
  (g v=.pointer none/\∀j,0<j->j<k->Z j=j->Z (Az f j)=i->I4 (f j)≠v)
def CJ(f:Nat->Bf)(B:Nat->Nat)(i:Nat):Option Addr:=if i=0 then none else some (G (B (Az f i)) 0)
structure Nodes (P:Program) (K a:TypeId) (w:Y) (f:Nat->Bf) (b0 k:Nat) (B N:Nat->Nat) (M:Nat->Option Nat):Prop where
 pos:0<k
 n0:N 0=0
 le:∀i,i<k->N i<=i
 own:∀i,i<k->N (N i)=N i
 same:∀i,i<k->f (N i)=f i
 one:∀i j,i<k->j<k->f i=f j->N i=N j
 BR:∀i,i<k->B (N i)=B i
 base:∀i,i<k->b0<=B i
 node:∀i,i<k->N i=i->w.rowIs (B i) a 6 (BJ i (f i) (CJ f B i) (M i))
 apart:∀i j,i<k->j<k->N i=i->N j=j->B i=B j->i=j
 mbase:∀i m,i<k->N i=i->M i=some m->b0<=m
 Km:∀i j m,i<k->j<k->N i=i->N j=j->M i=some m->M j=some m->i=j
 bare:∀i,i<k->N i=i->M i=none->∀j,0<j->j<k->N j=j->N (Az f j)≠i
 kids:∀i m,i<k->N i=i->M i=some m->∃g,CK P K w m k g/\Kids f k B N i g
def DU(a:TypeId)(w:Y)(b:Nat):Prop:=(∃c,w.heap[b]?=some (.cells c a (0,0)))\/∃es c,w.heap[b]?=some (.map es c)
theorem Nodes.keep{P:Program}{K a:TypeId}{w w':Y}{f:Nat->Bf}{b0 k:Nat}{B Z:Nat->Nat}{M:Nat->Option Nat}(h:Nodes P K a w f b0 k B Z M)(hk:∀b,DU a w b->w'.heap[b]?=w.heap[b]?):Nodes P K a w' f b0 k B Z M:=
 {h with
  node:=fun i hi hn=>(h.node i hi hn).of_block (hk _ (by obtain⟨c,hb,_⟩:=h.node i hi hn;exact .inl ⟨c,hb⟩))
  kids:=fun i m hi hn d=>by
   obtain⟨g,hg,hK⟩:=h.kids i m hi hn d;exact⟨g,hg.block (hk _ (.inr hg.isMap)),hK⟩}
structure Grown (a:TypeId) (b0:Nat) (w w':Y):Prop where
 os:w'.os=w.os
 tape:w'.tape=w.tape
 output:w'.output=w.output
 size:w.heap.size<=w'.heap.size
 block:∀b,b<w.heap.size->b<b0\/¬DU a w b->w'.heap[b]?=w.heap[b]?
theorem Nodes.found{P:Program}{K p:TypeId}{w:Y}{f:Nat->Bf}{b0 k:Nat}{B Z:Nat->Nat}{M:Nat->Option Nat}(h:Nodes P K p w f b0 k B Z M){j:Nat}(hj:j<k)(t:Az f k<k)(c:Z j=j)(hs:f j=f k)
  (a:∀i,0<i->i<k->Az f i<i):
  Nodes P K p w f b0 (k+1) (fun i=>if i=k then B j else B i) (fun i=>if i=k then j else Z i) M:=by
 have o:∀i,i<k->(if i=k then B j else B i)=B i:=fun i hi=>Cs (by omega)
 have d:∀i,i<k->(if i=k then j else Z i)=Z i:=fun i hi=>Cs (by omega)
 have DQ:∀i,i<k+1->(if i=k then j else Z i)=i->i<k/\Z i=i:=fun i hi e=>by
  by_cases e2:i=k
  ·rw[C3 e2]at e;omega
  ·rw[Cs e2]at e;exact⟨by omega,e⟩
 have n:∀i,i<k->CJ f (fun i=>if i=k then B j else B i) i=CJ f B i:=fun i hi=>by
  unfold CJ;by_cases e:i=0
  ·simp[e]
  ·have:=a i (by omega) hi;simp only[e,X9];rw[Cs (by omega)]
 constructor
 ·exact Nat.succ_pos _
 ·show(if 0=k then j else Z 0)=0;rw[d 0 h.pos];exact h.n0
 ·intro i hi;show(if i=k then j else Z i)<=i
  split
  ·omega
  ·exact h.le i (by omega)
 ·intro i hi;show(if(if i=k then j else Z i)=k then j else Z (if i=k then j else Z i))=(if i=k then j else Z i);by_cases e:i=k
  ·rw[C3 e,Cs (by omega)];exact c
  ·rw[Cs e,Cs (by have:=h.le i (by omega);omega)];exact h.own i (by omega)
 ·intro i hi;show f (if i=k then j else Z i)=f i;by_cases e:i=k
  ·rw[C3 e,e];exact hs
  ·rw[Cs e];exact h.same i (by omega)
 ·intro i l hi hl e;show(if i=k then j else Z i)=(if l=k then j else Z l);by_cases e1:i=k
  ·by_cases e2:l=k
   ·rw[C3 e1,C3 e2]
   ·rw[C3 e1,Cs e2,<-c];exact h.one _ _ hj (by omega) (by rw[hs,<-e1];exact e)
  ·by_cases e2:l=k
   ·rw[Cs e1,C3 e2,<-c];exact h.one _ _ (by omega) hj (by rw[hs,<-e2];exact e)
   ·rw[Cs e1,Cs e2];exact h.one _ _ (by omega) (by omega) e
 ·intro i hi;show(if(if i=k then j else Z i)=k then B j else B (if i=k then j else Z i))=(if i=k then B j else B i);by_cases e:i=k
  ·rw[C3 e,Cs (by omega),C3 e]
  ·rw[Cs e,Cs (by have:=h.le i (by omega);omega),Cs e];exact h.BR i (by omega)
 ·intro i hi;show b0<=(if i=k then B j else B i)
  split
  ·exact h.base j hj
  ·exact h.base i (by omega)
 ·intro i hi hn;obtain⟨h1,h2⟩:=DQ i hi hn;show w.rowIs (if i=k then B j else B i) p 6 _;rw[n i h1,o i h1];exact h.node i h1 h2
 ·intro i l hi hl hn b e;obtain⟨h1,h2⟩:=DQ i hi hn;obtain⟨h3,h4⟩:=DQ l hl b;have e:(if i=k then B j else B i)=(if l=k then B j else B l):=e;rw[o i h1,o l h3]at e;exact h.apart i l h1 h3 h2 h4 e
 ·intro i m hi hn b;obtain⟨h1,h2⟩:=DQ i hi hn;exact h.mbase i m h1 h2 b
 ·intro i l m hi hl hn b e1 e2;obtain⟨h1,h2⟩:=DQ i hi hn;obtain⟨h3,h4⟩:=DQ l hl b;exact h.Km i l m h1 h3 h2 h4 e1 e2
 ·intro i hi hn b l r hl q;obtain⟨h1,h2⟩:=DQ i hi hn;obtain⟨h3,h4⟩:=DQ l hl q;show(if Az f l=k then j else Z (Az f l))≠i;have:=a l r h3;rw[d _ (by omega)];exact h.bare i h1 h2 b l r h3 h4
 ·intro i m hi hn b;obtain⟨h1,h2⟩:=DQ i hi hn;obtain⟨g,hg,hK⟩:=h.kids i m h1 h2 b;refine⟨g,hg.mono (Nat.le_succ _),fun v=>?_⟩;rcases hK v with⟨l,a1,a2,a3,a4,a5,s⟩|⟨a1,a2⟩
  ·have:=a l a1 a2;exact .inl ⟨l,a1,by omega,by show(if l=k then j else Z l)=l;rw[d l a2];exact a3,by show(if Az f l=k then j else Z (Az f l))=i;rw[d _ (by omega)];exact a4,a5,by show _=Value.pointer (some (G (if l=k then B j else B l) 0));rw[o l a2];exact s⟩
  ·refine .inr ⟨a1,fun l b1 b2 b3 b4=>?_⟩;obtain⟨h3,h4⟩:=DQ l b2 b3;have:=a l b1 h3;have b4:(if Az f l=k then j else Z (Az f l))=i:=b4;rw[d _ (by omega)]at b4;exact a2 l b1 h3 h4 b4
open Classical in
theorem Nodes.fresh{P:Program}{K t:TypeId}{w w':Y}{f:Nat->Bf}{b0 k:Nat}{B Z:Nat->Nat}{M:Nat->Option Nat}(h:Nodes P K t w f b0 k B Z M)(u:Az f k<k)
  (n:∀i,0<i->i<k->Az f i<i) (A:∀j,j<k->f j≠f k) {a r mm:Nat} {g:Value->Value} (q:a=Z (Az f k))
  (U:w'.rowIs (B a) t 6 (BJ a (f a) (CJ f B a) (some mm)))
  (ro:∀i,i<k->Z i=i->i≠a->w'.heap[B i]?=w.heap[B i]?)
  (H:∀i m,i<k->Z i=i->i≠a->M i=some m->w'.heap[m]?=w.heap[m]?/\m≠mm)
  (rn:w'.rowIs r t 6 (BJ k (f k) (some (G (B (Az f k)) 0)) none))
  (V:b0<=r) (C:∀i,i<k->B i≠r) (I:b0<=mm) (hK:Kids f k B Z a g)
  (W:CK P K w' mm (k+1) (fun v=>if v=I4 (f k)then Q9 r else g v)):
  Nodes P K t w' f b0 (k+1) (fun i=>if i=k then r else B i) (fun i=>if i=k then k else Z i) (fun i=>if i=k then none else if i=a then some mm else M i):=by
 have ad:a<k:=by rw[q];exact Aay (h.le _ u) u
 have ae:Z a=a:=by rw[q];exact h.own _ u
 have L:=h.pos;have s:∀i,i<k->(if i=k then r else B i)=B i:=fun i hi=>Cs (by omega)
 have o:∀i,i<k->(if i=k then k else Z i)=Z i:=fun i hi=>Cs (by omega)
 have p:∀i,i<k->i≠a->(if i=k then none else if i=a then some mm else M i)=M i:=fun i hi q=>by rw[Cs (by omega),Cs q]
 have c:(if a=k then none else if a=a then some mm else M a)=some mm:=by rw[Cs (by omega),C3 rfl]
 have DQ:∀i,i<k+1->(if i=k then k else Z i)=i->i=k\/i<k/\Z i=i:=fun i hi e=>by
  by_cases e2:i=k
  ·exact .inl e2
  ·rw[Cs e2]at e;exact .inr ⟨by omega,e⟩
 have D:∀i,i<k->CJ f (fun i=>if i=k then r else B i) i=CJ f B i:=fun i hi=>by
  unfold CJ;by_cases e:i=0
  ·simp[e]
  ·have:=n i (by omega) hi;simp only[e,X9];rw[Cs (by omega)]
 have d:∀i,0<i->i<k+1->Az f i<k:=fun i F hi=>by
  by_cases e:i=k
  ·rw[e];exact u
  ·have:=n i F (by omega);omega
 constructor
 ·exact Nat.succ_pos _
 ·show(if 0=k then k else Z 0)=0;rw[o 0 h.pos];exact h.n0
 ·intro i hi;show(if i=k then k else Z i)<=i
  split
  ·omega
  ·exact h.le i (by omega)
 ·intro i hi;show(if(if i=k then k else Z i)=k then k else Z (if i=k then k else Z i))=(if i=k then k else Z i);by_cases e:i=k
  ·rw[C3 e,C3 rfl]
  ·rw[Cs e,Cs (by have:=h.le i (by omega);omega)];exact h.own i (by omega)
 ·intro i hi;show f (if i=k then k else Z i)=f i;by_cases e:i=k
  ·rw[C3 e,e]
  ·rw[Cs e];exact h.same i (by omega)
 ·intro i l hi hl e;show(if i=k then k else Z i)=(if l=k then k else Z l);by_cases e1:i=k
  ·by_cases e2:l=k
   ·rw[C3 e1,C3 e2]
   ·exact absurd (by rw[<-e1];exact e.symm) (A l (by omega))
  ·by_cases e2:l=k
   ·exact absurd (by rw[<-e2];exact e) (A i (by omega))
   ·rw[Cs e1,Cs e2];exact h.one _ _ (by omega) (by omega) e
 ·intro i hi;show(if(if i=k then k else Z i)=k then r else B (if i=k then k else Z i))=(if i=k then r else B i);by_cases e:i=k
  ·rw[C3 e,C3 rfl,C3 e]
  ·rw[Cs e,Cs (by have:=h.le i (by omega);omega),Cs e];exact h.BR i (by omega)
 ·intro i hi;show b0<=(if i=k then r else B i)
  split
  ·exact V
  ·exact h.base i (by omega)
 ·intro i hi hn;show w'.rowIs (if i=k then r else B i) t 6 (BJ i (f i) (CJ f (fun i=>if i=k then r else B i) i) (if i=k then none else if i=a then some mm else M i));rcases DQ i hi hn with h1|⟨h1,h2⟩
  ·rw[C3 h1,C3 h1,h1];have:CJ f (fun i=>if i=k then r else B i) k=some (G (B (Az f k)) 0):=by
    unfold CJ;rw[Cs (by omega)];show some ((G (if Az f k=k then r else B (Az f k)) 0):Addr)=_;rw[Cs (by omega)]
   rw[this];exact rn
  ·rw[D i h1,s i h1];by_cases e:i=a
   ·rw[e,c];exact U
   ·rw[p i h1 e];exact(h.node i h1 h2).of_block (ro i h1 h2 e)
 ·intro i l hi hl hn b e;have e:(if i=k then r else B i)=(if l=k then r else B l):=e;rcases DQ i hi hn with h1|⟨h1,h2⟩
  ·rcases DQ l hl b with h3|⟨h3,h4⟩
   ·omega
   ·rw[C3 h1,s l h3]at e;exact absurd e.symm (C l h3)
  ·rcases DQ l hl b with h3|⟨h3,h4⟩
   ·rw[C3 h3,s i h1]at e;exact absurd e (C i h1)
   ·rw[s i h1,s l h3]at e;exact h.apart i l h1 h3 h2 h4 e
 ·intro i m hi hn b;have b:(if i=k then none else if i=a then some mm else M i)=some m:=b;rcases DQ i hi hn with h1|⟨h1,h2⟩
  ·rw[C3 h1]at b;cases b
  ·by_cases e:i=a
   ·rw[e,c]at b;cases b;exact I
   ·rw[p i h1 e]at b;exact h.mbase i m h1 h2 b
 ·intro i l m hi hl hn b e1 e2;have e1:(if i=k then none else if i=a then some mm else M i)=some m:=e1;have e2:(if l=k then none else if l=a then some mm else M l)=some m:=e2;rcases DQ i hi hn with h1|⟨h1,h2⟩
  ·rw[C3 h1]at e1;cases e1
  ·rcases DQ l hl b with h3|⟨h3,h4⟩
   ·rw[C3 h3]at e2;cases e2
   ·by_cases x:i=a
    ·by_cases X:l=a
     ·omega
     ·rw[x,c]at e1;cases e1;rw[p l h3 X]at e2;exact absurd rfl (H l _ h3 h4 X e2).2
    ·by_cases X:l=a
     ·rw[X,c]at e2;cases e2;rw[p i h1 x]at e1;exact absurd rfl (H i _ h1 h2 x e1).2
     ·rw[p i h1 x]at e1;rw[p l h3 X]at e2;exact h.Km i l m h1 h3 h2 h4 e1 e2
 ·intro i hi hn b l F hl Q;have b:(if i=k then none else if i=a then some mm else M i)=none:=b;show(if Az f l=k then k else Z (Az f l))≠i;have E:=d l F hl;rw[o _ E];rcases DQ i hi hn with h1|⟨h1,h2⟩
  ·have:=h.le _ E;omega
  ·have x:i≠a:=fun x=>by rw[x,c]at b;cases b
   rw[p i h1 x]at b;rcases DQ l hl Q with h3|⟨h3,h4⟩
   ·rw[h3,<-q];exact fun e=>x e.symm
   ·exact h.bare i h1 h2 b l F h3 h4
 ·intro i m hi hn b;have b:(if i=k then none else if i=a then some mm else M i)=some m:=b;rcases DQ i hi hn with h1|⟨h1,h2⟩
  ·rw[C3 h1]at b;cases b
  ·by_cases x:i=a
   ·rw[x,c]at b;cases b;refine⟨_,W,fun v=>?_⟩;show(∃j,0<j/\j<k+1/\(if j=k then k else Z j)=j/\(if Az f j=k then k else Z (Az f j))=i/\v=I4 (f j)/\(if v=I4 (f k)then Value.pointer (some (G r 0))else g v)=Q9 (if j=k then r else B j))\/((if v=I4 (f k)then Value.pointer (some (G r 0))else g v)=.pointer none/\∀j,0<j->j<k+1->(if j=k then k else Z j)=j->(if Az f j=k then k else Z (Az f j))=i->I4 (f j)≠v);by_cases e:v=I4 (f k)
    ·refine .inl ⟨k,L,by omega,by rw[C3 rfl],by rw[o _ u,<-q,x],e,by rw[C3 e,C3 rfl]⟩
    ·rw[Cs e];rcases hK v with⟨l,a1,a2,a3,a4,a5,R⟩|⟨a1,a2⟩
     ·have:=n l a1 a2;exact .inl ⟨l,a1,by omega,by rw[o l a2];exact a3,by rw[o _ (by omega),x];exact a4,a5,by rw[s l a2];exact R⟩
     ·refine .inr ⟨a1,fun l b1 b2 b3 b4=>?_⟩;rw[o _ (d l b1 b2)]at b4;rcases DQ l b2 b3 with h3|⟨h3,h4⟩
      ·rw[h3];exact fun e2=>e e2.symm
      ·exact a2 l b1 h3 h4 (by rw[b4,x])
   ·rw[p i h1 x]at b;obtain⟨g1,S,T⟩:=h.kids i m h1 h2 b;refine⟨g1,(S.block (H i m h1 h2 x b).1).mono (Nat.le_succ _),fun v=>?_⟩;rcases T v with⟨l,a1,a2,a3,a4,a5,R⟩|⟨a1,a2⟩
    ·have:=n l a1 a2;exact .inl ⟨l,a1,by omega,by show(if l=k then k else Z l)=l;rw[o l a2];exact a3,by show(if Az f l=k then k else Z (Az f l))=i;rw[o _ (by omega)];exact a4,a5,by show _=Value.pointer (some (G (if l=k then r else B l) 0));rw[s l a2];exact R⟩
    ·refine .inr ⟨a1,fun l b1 b2 b3 b4=>?_⟩;have b4:(if Az f l=k then k else Z (Az f l))=i:=b4;rw[o _ (d l b1 b2)]at b4;rcases DQ l b2 b3 with h3|⟨h3,h4⟩
     ·rw[h3,<-q]at b4;exact absurd b4.symm x
     ·exact a2 l b1 h3 h4 b4
end
section
open Go.Maps (Keyed)
theorem Xi:laidOutB prog=true:=by kernel_rfl
theorem XS:205<prog.types.size:=of_decide_eq_true (by kernel_rfl)
theorem X2:prog.keyTypeAt 2 205=true:=by kernel_rfl
theorem M7:Keyed prog 205:=Keyed.of_law (deep_law_laid Xi (m:=2) (by omega) XS X2 (by rw[underlying205]))
theorem Ro(w:Y):(zeroValue 163).run prog w=.ok (.pointer none) w:=by kernel_rfl
theorem Xd{P:Program}{k ti ts:TypeId}{fs:Array Field}{f0 f1 f2:Field}(hu:P.underlying k=some (.struct fs))(a:fs=#[f0,f1,f2])(hi:P.underlying ti=some (.int .i64))(hs:P.underlying ts=some .string)
  (hc:P.cellsOf k=3) (b:P.cellsOf ti=1) (hcs:P.cellsOf ts=1) (t0:f0.type=ti) (t1:f1.type=ts) (t2:f2.type=ti) (o0:f0.offset=0) (o1:f1.offset=1) (o2:f2.offset=2)
  (n0:f0.name != "_") (c:f1.name != "_") (d:f2.name != "_") (s:Bf) (h1:(Lit.int .i64 s.parent).wf=true) (h2:s.key.size<=maxLen) (h3:(Lit.int .i64 s.count).wf=true) (n:Nat):
  P.keyLits (n+2) k [.int .i64 s.parent,.string s.key,.int .i64 s.count]=some [.int .i64 s.parent,.string s.key.data.toList,.int .i64 s.count]:=by
 subst a;have a0:P.keyLits (n+1) ti [.int .i64 s.parent]=some [.int .i64 s.parent]:=by unfold Program.keyLits;simp[hi,h1]
 have a1:P.keyLits (n+1) ts [.string s.key]=some [.string s.key.data.toList]:=by unfold Program.keyLits;simp[hs,h2]
 have a2:P.keyLits (n+1) ti [.int .i64 s.count]=some [.int .i64 s.count]:=by unfold Program.keyLits;simp[hi,h3]
 have m0:f0.name≠ "_" :=by simpa using n0
 have m1:f1.name≠ "_" :=by simpa using c
 have m2:f2.name≠ "_" :=by simpa using d
 rw[Program.keyLits.eq_def];simp[hu,hc,t0,t1,t2,o0,o1,o2,b,hcs,a0,a1,a2,m0,m1,m2]
theorem Ml:prog.cellsOf 205=3:=by kernel_rfl
theorem Wn:prog.cellsOf 3=1:=by kernel_rfl
theorem Wo:prog.cellsOf 9=1:=by kernel_rfl
theorem SE:prog.keyType 205=true:=by kernel_rfl
theorem ME(s:Bf)(h1:(Lit.int .i64 s.parent).wf=true)(h2:s.key.size<=maxLen)(h3:(Lit.int .i64 s.count).wf=true):∃b,keyOf prog 205 (I4 s)=some b:=by
 have hn:1<prog.types.size:=of_decide_eq_true (by kernel_rfl);obtain⟨n,hn⟩:∃n,prog.types.size+1=n+2:=⟨prog.types.size-1,by omega⟩;have hf:(I4 s).formed prog 205=true:=by simp[Value.formed,underlying205,Ml]
 have hl:=Xd underlying205 rfl underlying3 underlying9 Ml Wn Wo rfl rfl rfl rfl rfl rfl rfl rfl rfl s h1 h2 h3 n;rw[<-hn]at hl;have a:(I4 s).cells.toList=[.int .i64 s.parent,.string s.key,.int .i64 s.count]:=rfl;unfold keyOf;rw[underlying205];simp only[SE,hf,Bool.and_self,Aaz];rw[a,hl];exact⟨_,rfl⟩
abbrev B8(w:Y)(f:Nat->Bf)(b0 k:Nat)(B Z:Nat->Nat)(M:Nat->Option Nat):Prop:=Nodes prog 205 208 w f b0 k B Z M
abbrev OX(b0:Nat)(w w':Y):Prop:=Grown 208 b0 w w'
theorem KU{a c:Y}{row:Option Nat}(h:a.grownBy c row)(n:Nat):a.grownBy (c.drewN n) row:=⟨h.os,h.tape,h.output,h.size,h.block⟩
theorem MI{w:Y}{m n:Nat}{g:Value->Value}(h:CK prog 205 w m n g){s:Bf}(h1:(Lit.int .i64 s.parent).wf=true)(h2:s.key.size<=maxLen)(h3:(Lit.int .i64 s.count).wf=true):
  ∀q,(Instr.lookup 206 (.map (some m)) (I4 s) false).run prog (w.drewN q)=.ok (g (I4 s)) (w.drewN q):=by
 intro q;obtain⟨b,a⟩:=ME s h1 h2 h3;exact(h.block (w':=w.drewN q) rfl).look M7 underlying206 (Ro _) a
theorem Ot{w:Y}{s:Bf}(h1:(Lit.int .i64 s.parent).wf=true)(h2:s.key.size<=maxLen)(h3:(Lit.int .i64 s.count).wf=true):
  ∀q,(Instr.lookup 206 (.map none) (I4 s) false).run prog (w.drewN q)=.ok (.pointer none) (w.drewN q):=by
 intro q;obtain⟨b,a⟩:=ME s h1 h2 h3;simpa using Maps.look_nil (w:=w.drewN q) false M7 underlying206 (Ro _) a
theorem Ps(w:Y)(r e j:Nat)(m:Nat)(g:Value->Value)(n:Nat)(s:Bf)(num:Nat)(h:Bf)(par:T9)(k:Nat)
  (a:w.rowIs e 208 6 (BJ k h par (some m))) (b:CK prog 205 w m n g) (hg:g (I4 s)=Q9 r)
  (h1:(Lit.int .i64 s.parent).wf=true) (h2:s.key.size<=maxLen) (h3:(Lit.int .i64 s.count).wf=true):
  C9 223 #[Q9 e,I4 s,.int .i64 num] w (R9 (Q9 r) w):=by
 have hl:=We a;have d:=b.block (w':=w.alloc (.cells #[.int .i64 s.parent,.string s.key,.int .i64 s.count] 205)) (by obtain⟨es,c,l⟩:=b.isMap;exact Fs _ _ _ (E1.1 l).1);have f:=MI d h1 h2 h3;rw[hg]at f;have c5:w.cell? (G e 5)=some (.map (some m)):=a.cell (i:=5) (by omega);clear b d a hg h1 h2 h3
 go_enter func223,ntmps223
 go_wp2
 go_quiet (fail)
 go_wp2;go_ret;exact⟨rfl,below_drewN ((DD _ _).alloc (A0 _) _) _⟩
open Classical in
theorem TX{w:Y}{m n:Nat}{g:Value->Value}(h:CK prog 205 w m n g)(hn:n<=1000){s:Bf}(h1:(Lit.int .i64 s.parent).wf=true)(h2:s.key.size<=maxLen)(h3:(Lit.int .i64 s.count).wf=true)(v:V9):
  ∃w',(Instr.mapUpdate 206 (.map (some m)) (I4 s) v).run prog w=.ok () w'/\CK prog 205 w' m (n+1) (fun k=>if k=I4 s then v else g k)/\w.grownBy w' (some m):=by
 obtain⟨b,a⟩:=ME s h1 h2 h3;exact h.put M7 underlying206 (by unfold maxLen;omega) v a
open Classical in
theorem Qy(w:Y)(l:Nat)(m:Nat)(g:Value->Value)(n:Nat)(s:Bf)(num:Nat)(D:Bf)(par:T9)(E:Nat)(hn:n<=1000)
  (f:w.rowIs l 208 6 (BJ E D par (some m))) (h:CK prog 205 w m n g) (hg:g (I4 s)=.pointer none)
  (h1:(Lit.int .i64 s.parent).wf=true) (h2:s.key.size<=maxLen) (h3:(Lit.int .i64 s.count).wf=true):
  C9 223 #[Q9 l,I4 s,.int .i64 num] w fun e w'=>∃r,e=.returned (Q9 r)/\w.heap.size<=r/\w'.rowIs r 208 6 (BJ num s (some (G l 0)) none)/\
   CK prog 205 w' m (n+1) (fun k=>if k=I4 s then Q9 r else g k)/\w.grownBy w' (some m):=by
 have hl:=We f;obtain⟨es,P,A⟩:=h.isMap;have p:m<w.heap.size:=(E1.1 A).1;have b:=h.block (w':=w.alloc (.cells #[.int .i64 s.parent,.string s.key,.int .i64 s.count] 205)) (Fs _ _ _ p);have q:=MI b h1 h2 h3;rw[hg]at q;have c5:w.cell? (G l 5)=some (.map (some m)):=f.cell (i:=5) (by omega);have B:=O b;have F:=O h1;have H:=O h2;have I:=O h3;have Q:∀(w:Y),(binOp .eql 206 (.map (some m)) (.map none)).run prog w=.ok (.bool false) w:=fun w=>run_eql_map_nil w _ _ _ (some m) underlying206
 clear h b f hg h1 h2 h3 A
 go_enter func223,ntmps223
 go_wp2
 go_quiet (fail)
 go_wp2;obtain⟨d,a⟩:∃d,d=((w.alloc (.cells #[.int .i64 s.parent,.string s.key,.int .i64 s.count] 205)).drewN nq).alloc (.cells #[.int .i64 num,.int .i64 s.parent,.string s.key,.int .i64 s.count,Q9 l,.map none] 208):=⟨_,rfl⟩;rw[<-a];have K:d.heap.size=w.heap.size+2:=by rw[a];simp
 have o:w.grownBy d none:=by rw[a];exact(KU (World.grownBy_alloc w _ none) nq).trans (World.grownBy_alloc _ _ none)
 have d5:d.cell? (G l 5)=some (.map (some m)):=by rw[<-c5];exact As (o.block l hl (by simp))
 have x0:d.cell? (y w 0)=some (.int .i64 s.parent):=by rw[a];simp[go_sem]
 have x1:d.cell? (y w 1)=some (.string s.key):=by rw[a];simp[go_sem]
 have x2:d.cell? (y w 2)=some (.int .i64 s.count):=by rw[a];simp[go_sem]
 have t:d.rowIs (w.heap.size+1) 208 6 (BJ num s (some (G l 0)) none):=by
  have:=AaK ((w.alloc (.cells #[.int .i64 s.parent,.string s.key,.int .i64 s.count] 205)).drewN nq) #[.int .i64 num,.int .i64 s.parent,.string s.key,.int .i64 s.count,Q9 l,.map none] 208 (BJ num s (some (G l 0)) none) (fun i hi=>by
   have:i<6:=hi
   match i,this with
   |0,_=>rfl
   |1,_=>rfl
   |2,_=>rfl
   |3,_=>rfl
   |4,_=>rfl
   |5,_=>rfl)
  rw[a];simpa using this
 have u:CK prog 205 d.drew m n g:=B.block (by
  show d.heap[m]?=_;rw[o.block m p (by simp)];exact(Fs _ _ _ p).symm)
 obtain⟨w2,C,j,v⟩:=TX u hn F H I (Q9 (w.heap.size+1));have L:=O (o.but (some m));have c:=O v;have x:=O j;have M:=O t;clear a o t u j v B q
 go_region
 go_wp2;go_ret;refine⟨w.heap.size+1,rfl,by omega,M.of_block (c.block _ (by show _<d.heap.size;omega) (by simp;omega)),x,L.trans ?_⟩;exact⟨c.os,c.tape,c.output,c.size,c.block⟩
theorem gC(w:Y)(num:Nat)(s:Bf)(par:T9):(w.alloc (.cells #[J num,J s.parent,.string s.key,J s.count,.pointer par,.map none] 208)).rowIs w.heap.size 208 6 (BJ num s par none):=
 AaK w _ 208 _ (fun i hi=>by
   have:i<6:=hi
   match i,this with
   |0,_=>rfl
   |1,_=>rfl
   |2,_=>rfl
   |3,_=>rfl
   |4,_=>rfl
   |5,_=>rfl)
theorem Py(num:Nat)(s:Bf)(par:T9)(o m:Option Nat)(i:Nat)(hi:i<6):(if i=5 then Value.map m else BJ num s par o i)=BJ num s par m i:=by
 match i,hi with
 |0,_=>rfl
 |1,_=>rfl
 |2,_=>rfl
 |3,_=>rfl
 |4,_=>rfl
 |5,_=>rfl
open Classical in
theorem Pq(w:Y)(b:Nat)(s:Bf)(num:Nat)(q:Bf)(par:T9)(t:Nat)
  (c:w.rowIs b 208 6 (BJ t q par none))
  (h1:(Lit.int .i64 s.parent).wf=true) (h2:s.key.size<=maxLen) (h3:(Lit.int .i64 s.count).wf=true):
  C9 223 #[Q9 b,I4 s,.int .i64 num] w fun e w'=>∃r mm,e=.returned (Q9 r)/\w.heap.size<=r/\w.heap.size<=mm/\w'.rowIs r 208 6 (BJ num s (some (G b 0)) none)/\
   w'.rowIs b 208 6 (BJ t q par (some mm))/\
   CK prog 205 w' mm 1 (fun k=>if k=I4 s then Q9 r else .pointer none)/\w.grownBy w' (some b):=by
 have hl:=We c;have u:=Ot (w:=w.alloc (.cells #[.int .i64 s.parent,.string s.key,.int .i64 s.count] 205)) h1 h2 h3;have c5:w.cell? (G b 5)=some (.map none):=c.cell (i:=5) (by omega);have f5:w.frozen? (G b 5)=false:=c.frozen 5;have E:=@run_makeMap prog;have A:=O c;have F:=O h1;have H:=O h2;have I:=O h3;have P:∀(w:Y),(binOp .eql 206 (.map none) (.map none)).run prog w=.ok (.bool true) w:=fun w=>run_eql_map_nil w _ _ _ none underlying206
 clear c h1 h2 h3
 go_enter func223,ntmps223
 go_wp2
 go_quiet (fail)
 go_wp2;obtain⟨f,a⟩:∃f,f=((((w.alloc (.cells #[.int .i64 s.parent,.string s.key,.int .i64 s.count] 205)).drewN nq).setCell (G b 5) (.map (some (w.heap.size+1)))).alloc (.map #[] 0)).alloc (.cells #[.int .i64 num,.int .i64 s.parent,.string s.key,.int .i64 s.count,Q9 b,.map none] 208):=⟨_,rfl⟩;rw[<-a];have K:f.heap.size=w.heap.size+3:=by rw[a];simp
 have l:w.grownBy ((w.alloc (.cells #[.int .i64 s.parent,.string s.key,.int .i64 s.count] 205)).drewN nq) none:=KU (World.grownBy_alloc w _ none) nq;have B:=A.of_block (l.block b hl (by simp));have rb:=(B.set 5 (.map (some (w.heap.size+1)))).congr (fun i hi=>Py t q par none (some (w.heap.size+1)) i hi);have gb:w.grownBy (((w.alloc (.cells #[.int .i64 s.parent,.string s.key,.int .i64 s.count] 205)).drewN nq).setCell (G b 5) (.map (some (w.heap.size+1)))) (some b):=
  ⟨l.os,l.tape,l.output,by simp,fun i hi Cy=>by rw[At _ _ _ _ (fun e=>Cy (by rw[e]))];exact l.block i hi (by simp)⟩
 have m:w.grownBy f (some b):=by rw[a];exact(gb.trans (World.grownBy_alloc _ _ _)).trans (World.grownBy_alloc _ _ _)
 have h:f.rowIs b 208 6 (BJ t q par (some (w.heap.size+1))):=by rw[a];exact(rb.alloc _).alloc _
 have d5:f.cell? (G b 5)=some (.map (some (w.heap.size+1))):=h.cell (i:=5) (by omega);have x0:f.cell? (y w 0)=some (.int .i64 s.parent):=by rw[a];simp[go_sem]
 have x1:f.cell? (y w 1)=some (.string s.key):=by rw[a];simp[go_sem]
 have x2:f.cell? (y w 2)=some (.int .i64 s.count):=by rw[a];simp[go_sem]
 have n:f.rowIs (w.heap.size+2) 208 6 (BJ num s (some (G b 0)) none):=by
  have:=gC ((((w.alloc (.cells #[.int .i64 s.parent,.string s.key,.int .i64 s.count] 205)).drewN nq).setCell (G b 5) (.map (some (w.heap.size+1)))).alloc (.map #[] 0)) num s (some (G b 0));rw[a];simpa using this
 have o:CK prog 205 f.drew (w.heap.size+1) 0 (fun _=>.pointer none):=by
  have C:=CK.made prog 205 (((w.alloc (.cells #[.int .i64 s.parent,.string s.key,.int .i64 s.count] 205)).drewN nq).setCell (G b 5) (.map (some (w.heap.size+1))));have hz:(((w.alloc (.cells #[.int .i64 s.parent,.string s.key,.int .i64 s.count] 205)).drewN nq).setCell (G b 5) (.map (some (w.heap.size+1)))).heap.size=w.heap.size+1:=by simp
  rw[hz]at C;refine C.block ?_;show f.heap[w.heap.size+1]?=_;rw[a];exact Fs _ _ _ (by simp)
 obtain⟨w2,D,g,p⟩:=TX o (by omega) F H I (Q9 (w.heap.size+1+1));have L:=O m;have d:=O p;have v:=O g;have M:=O n;have x:=O h;clear a m n o g p u l B rb gb h A
 go_region
 go_wp2;go_ret;refine⟨w.heap.size+2,w.heap.size+1,rfl,by omega,by omega,M.of_block (d.block _ (by show _<f.heap.size;omega) (by simp)),x.of_block (d.block _ (by show _<f.heap.size;omega) (by simp;omega)),v,?_⟩;refine World.grownBy.andThen L (row':=some (w.heap.size+1)) ?_ (fun j hj=>by cases hj;exact .inl (by omega));exact⟨d.os,d.tape,d.output,d.size,d.block⟩
end
section
open Go.Maps (Keyed)
theorem ZZ{x:Int}(a:-1000000<=x)(h1:x<=1000000):(Lit.int .i64 x).wf=true:=WalkArith.wf_i64 (by omega)
theorem Nodes.lt{P:Program}{K a:TypeId}{w:Y}{f:Nat->Bf}{b0 k:Nat}{B Z:Nat->Nat}{M:Nat->Option Nat}(h:Nodes P K a w f b0 k B Z M){i:Nat}(hi:i<k):B i<w.heap.size:=by
 rw[<-h.BR i hi];exact(h.node (Z i) (Aay (h.le i hi) hi) (h.own i hi)).lt
theorem Grown.Ay{a b0:Nat}{w w':Y}(h:B9 w w'):Grown a b0 w w':=⟨h.os,h.tape,h.output,h.size,fun b hb _=>h.block b hb⟩
theorem Grown.of_grownBy{a b0:Nat}{w w':Y}{x:Nat}(h:w.grownBy w' (some x))(hx:b0<=x)(hn:DU a w x):Grown a b0 w w':=
 ⟨h.os,h.tape,h.output,h.size,fun b hb hc=>h.block b hb (fun e=>by
  cases e;rcases hc with hc|hc
  ·omega
  ·exact hc hn)⟩
theorem Ql{P:Program}{K d:TypeId}{w:Y}{f:Nat->Bf}{b0 k:Nat}{B Z:Nat->Nat}{M:Nat->Option Nat}(h:Nodes P K d w f b0 k B Z M)(h2:Bz f)(a:YA f k)
  (b:∀j,0<j->j<k->Z j=j->Z (Az f j)=Z (Az f k)->f j≠f k):∀j,j<k->f j≠f k:=by
 intro j hj e;have e1:f (Z j)=f k:=(h.same j hj).trans e;have c:Z j<k:=Aay (h.le j hj) hj;have g:0<Z j:=by
  rcases AaH (Z j)with e0|e0
  ·have:=h2.1;rw[e0]at e1;rw[e1]at this;have:=a.1;omega
  ·exact e0
 exact b (Z j) g c (h.own j hj) (by unfold Az;rw[e1]) e1
open Classical in
theorem MC(w:Y)(f:Nat->Bf)(b0 k:Nat)(B Z:Nat->Nat)(M:Nat->Option Nat)(h:B8 w f b0 k B Z M)(hk:k<=200)(h2:Bz f)(h3:∀i,1<=i->i<=k->YA f i):
  C9 223 #[Q9 (B (Az f k)),I4 (f k),.int .i64 k] w fun e w'=>∃r B' N' M',e=.returned (Q9 r)/\B8 w' f b0 (k+1) B' N' M'/\B' k=r/\(∀i,i<k->B' i=B i)/\OX b0 w w':=by
 have s:=h.pos;have I:=h3 k s (A0 _);obtain⟨p0,p1,cc,ag,ks⟩:=h3 k s (A0 _);have t:Az f k<k:=by unfold Az;omega
 have C:∀i,0<i->i<k->Az f i<i:=fun i D hi=>by
  obtain⟨a,b,_⟩:=h3 i D (by omega);unfold Az;omega
 have U:=BC (k:=k) h2 (fun j h1 h4=>h3 j h1 (by omega)) (Az f k) t;have w1:(Lit.int .i64 (f k).parent).wf=true:=ZZ (by omega) (by omega);have w2:(f k).key.size<=maxLen:=by unfold maxLen;omega
 have w3:(Lit.int .i64 (f k).count).wf=true:=ZZ (by unfold Az at U;omega) (by omega);obtain⟨a,E⟩:∃a,a=Z (Az f k):=⟨_,rfl⟩;have d:a<k:=by rw[E];exact Aay (h.le _ t) t
 have n:Z a=a:=by rw[E];exact h.own _ t
 have T:B (Az f k)=B a:=by rw[E];exact(h.BR _ t).symm
 have l:=h.node a d n;have F:∀x,w.heap.size<=x->b0<=x:=fun x hx=>FZ (h.base 0 s) (FZ (Aar (h.lt s)) hx)
 have V:∀i,i<k->Z i=i->DU 208 w (B i):=fun i hi hn=>by obtain⟨c,hb,_⟩:=h.node i hi hn;exact .inl ⟨c,hb⟩
 cases u:M a with
 |none=>
  rw[u]at l;rw[T];refine(Pq w (B a) (f k) k (f a) _ a l w1 w2 w3).mono ?_;rintro e w' ⟨r,mm,rfl,W,X,rn,ra,K,hg⟩;have H:=Ql h h2 I (fun j D hj hn p _=>h.bare a d n u j D hj hn (by rw[p,E]));refine⟨r,_,_,_,rfl,h.fresh t C H (g:=fun _=>.pointer none) E ra (fun i hi hn Cy=>hg.block _ (h.lt hi) (fun e=>?_)) (fun i m hi hn Cy K=>?_) (by rw[T];exact rn) (F r W) (fun i hi e=>?_) (F mm X) (fun v=>.inr ⟨rfl,fun j D hj hn p=>absurd p (h.bare a d n u j D hj hn)⟩) (K.mono (by omega)),by simp,fun i hi=>by simp;omega,Grown.of_grownBy hg (h.base a d) (V a d n)⟩
  ·exact Cy (h.apart i a hi d hn n (Aaj e))
  ·obtain⟨g,q,_⟩:=h.kids i m hi hn K;obtain⟨es,c,o⟩:=q.isMap;have L:m<w.heap.size:=(E1.1 o).1;refine⟨hg.block m L (fun e=>?_),by omega⟩;cases e;obtain⟨c,hb,_⟩:=l;rw[hb]at o;cases o
  ·have:=h.lt hi;omega
 |some m=>
  rw[u]at l;obtain⟨g,q,hK⟩:=h.kids a m d n u;obtain⟨es,c,o⟩:=q.isMap;have L:m<w.heap.size:=(E1.1 o).1;rw[T];rcases hK (I4 (f k))with⟨j,j0,jk,jn,jp,jv,jg⟩|⟨jg,ad⟩
  ·refine m9 (Ps w (B j) (B a) j m g k (f k) k (f a) _ a l q jg w1 w2 w3) fun w' hb=>?_
   have ae:∀b,DU 208 w b->w'.heap[b]?=w.heap[b]?:=fun b af=>hb.block b (by
    rcases af with⟨c,hc⟩|⟨es,c,hc⟩
    ·exact(E1.1 hc).1
    ·exact(E1.1 hc).1)
   exact⟨B j,_,_,_,rfl,(h.keep ae).found jk t jn (O3 jv).symm C,by simp,fun i hi=>by simp;omega,Grown.Ay hb⟩
  ·refine(Qy w (B a) m g k (f k) k (f a) _ a (by omega) l q jg w1 w2 w3).mono ?_;rintro e w' ⟨r,rfl,W,rn,K,hg⟩;have H:=Ql h h2 I (fun j D hj hn p e=>ad j D hj hn (by rw[p,E]) (by rw[e]));have P:∀i,i<k->Z i=i->B i≠m:=fun i hi hn e=>by
    obtain⟨c,hb,_⟩:=h.node i hi hn;rw[e,o]at hb;cases hb
   refine⟨r,_,_,_,rfl,h.fresh t C H (g:=g) (mm:=m) E (l.of_block (hg.block _ (h.lt d) (fun e=>P a d n (Aaj e)))) (fun i hi hn Cy=>hg.block _ (h.lt hi) (fun e=>P i hi hn (Aaj e))) (fun i m' hi hn Cy Q=>?_) (by rw[T];exact rn) (F r W) (fun i hi e=>?_) (h.mbase a m d n u) hK K,by simp,fun i hi=>by simp;omega,Grown.of_grownBy hg (h.mbase a m d n u) (.inr ⟨es,c,o⟩)⟩
   ·obtain⟨g',R,_⟩:=h.kids i m' hi hn Q;obtain⟨ah,c',S⟩:=R.isMap;have A:m'≠m:=fun e=>Cy (h.Km i a m hi d hn n (by rw[Q,e]) u)
    exact⟨hg.block m' (E1.1 S).1 (fun e=>A (Aaj e)),A⟩
   ·have:=h.lt hi;omega
end
section
open Go.Maps (Keyed)
theorem IW(w:Y):C9 127 #[] w (R9 (Sh (-1) ⟨#[]⟩ 0) w):=by
 go_enter func127,ntmps127
 go_wp2;exact DO (v:=Sh (-1) ⟨#[]⟩ 0) (by simp[results,results127,go_sem]) rfl ⟨rfl,n9⟩
def ptrs(B:Nat->Nat)(n:Nat):List Value:=(List.range n).map fun i=>Q9 (B i)
theorem JM{B:Nat->Nat}{n i:Nat}(h:i<n):(ptrs B n)[i]?=some (Q9 (B i)):=by simp[ptrs,h]
theorem OE{B B':Nat->Nat}{n r:Nat}(h:∀i,i<n->B' i=B i)(a:B' n=r):ptrs B n++[Q9 r]=ptrs B' (n+1):=by
 unfold ptrs;rw[List.range_succ,Aac]
 congr 1
 ·exact List.map_congr_left fun i hi=>by rw[h i (AaR.1 hi)]
 ·simp[a]
theorem QU{f:Nat->Bf}(h2:Bz f):f 0=⟨-1,⟨#[]⟩,0⟩:=by
 obtain⟨a,b,c⟩:=h2;cases hf:f 0 with
 |mk p k d=>
  rw[hf]at a b c;have a:p=-1:=a;have c:d=0:=c;have b:k.toList=[]:=b;subst a;subst c;have:k=⟨#[]⟩:=WideShapes.bytes_inj (by rw[<-AaQ,b]);rw[this]
theorem Nodes.root{P:Program}{K b:TypeId}{w:Y}{f:Nat->Bf}{b0 r:Nat}(c:b0<=r)(a:w.rowIs r b 6 (BJ 0 (f 0) none none)):Nodes P K b w f b0 1 (fun _=>r) (fun _=>0) (fun _=>none) where
 pos:=by omega
 n0:=rfl
 le:=fun i hi=>by omega
 own:=fun i hi=>rfl
 same:=fun i hi=>by rw[show i=0 by omega]
 one:=fun i j hi hj _=>rfl
 BR:=fun i hi=>rfl
 base:=fun i hi=>c
 node:=fun i hi hn=>by
  rw[show i=0 by omega];exact a
 apart:=fun i j hi hj _ _ _=>by omega
 mbase:=fun i m _ _ h=>by cases h
 Km:=fun i j m _ _ _ _ h=>by cases h
 bare:=fun i hi _ _ j d hj=>by omega
 kids:=fun i m _ _ h=>by cases h
theorem Vk{f e b0 base g n b:Nat}{w w':Y}{xs:List Value}(h:w.ownsRow base e 1 (S9 g n b) n xs)(i:Grown f b0 w w')(j:e≠f):w'.ownsRow base e 1 (S9 g n b) n xs:=by
 obtain⟨hl,⟨d,_⟩|⟨g',cap,cur,d,hb,a,h1,h2,h3,h4⟩⟩:=h
 ·cases d
 ·cases d;refine⟨hl,.inr ⟨g,b,cur,rfl,hb,?_,h1,h2,h3,h4⟩⟩;rw[i.block g (E1.1 a).1 (.inr ?_)]
  ·exact a
  ·rintro(⟨c,hc⟩|⟨es,c,hc⟩)
   ·rw[a]at hc;cases hc;exact j rfl
   ·rw[a]at hc;cases hc
theorem Zv{d e base g n f:Nat}{w:Y}{xs:List Value}(h:w.ownsRow base e 1 (S9 g n f) n xs)(i:e≠d):¬DU d w g:=by
 obtain⟨hl,⟨b,_⟩|⟨g',cap,cur,b,hb,a,h1,h2,h3,h4⟩⟩:=h
 ·cases b
 ·cases b;rintro(⟨c,hc⟩|⟨es,c,hc⟩)
  ·rw[a]at hc;cases hc;exact i rfl
  ·rw[a]at hc;cases hc
theorem Grown.below{a b0:Nat}{w w':Y}(h:Grown a b0 w w')(hb:b0<=w.heap.size):Below b0 w w':=⟨h.os,h.tape,h.output,h.size,fun k hk=>h.block k (by omega) (.inl hk)⟩
theorem TH:(prog.info? 163).map (fun i=>(i.zero,i.size,i.bytes))=some (some (.pointer none),1,8):=by kernel_rfl
theorem Vn(b n cap:Nat)(f:Nat->Bf)(w:Y)(hA:Du w b n f)(h1:EL n)(h2:Bz f)(h3:BB n f):
  C9 176 #[.agg #[S9 b n cap]] w fun e w'=>(∃g l B Z M,e=.returned (S9 g n l)/\B8 w' f w.heap.size n B Z M/\(g<w'.heap.size/\w'.ownsRow w.heap.size 163 1 (S9 g n l) n (ptrs B n))/\∀i,i<n->w'.cell? (G g i)=some (Q9 (B i)))/\B9 w w':=by
 have hl:=hA.lt;have bd:0<n:=by have:=h1.1;omega
 have bf:n<=200:=h1.2;have HA:=O hA;have H2:=O h2;have H3:=O h3;have ar:=QU h2;clear hA h1 h2 h3;obtain⟨i0,hi,au,m,av⟩:=Tn TH;have D:B9 w (w.alloc (.cells #[S9 b n cap] 38)):=n9
 go_enter func176,ntmps176
 go_wp2_with fail
 refine m9 (IW _) fun w1 o=>?_
 obtain⟨I,aw⟩:=AJ o;have m:=o.size;simp at m;have K:=O (D.trans (o.mono D.size));have y1:w.heap.size<w1.heap.size:=by omega
 have a1:w1.cell? (y w 0)=some (S9 b n cap):=by rw[I _ _ (by simp)];simp[go_sem]
 clear o I aw m D;go_wp2;clear a1;go_loopw [3,13] (fun v i wr=>∃(k L g l:Nat) (B Z:Nat->Nat) (M:Nat->Option Nat),k<=n/\i=J k/\v=S9 g L l/\1<=L/\(L=k\/(k=0/\L=1))/\wr.ownsRow w.heap.size 163 1 (S9 g L l) L (ptrs B L)/\B8 wr f w.heap.size L B Z M/\B9 w wr) (fun _ i _=>n-(intOf i).toNat)
 case atStart=>
  have hr:=gC w1 0 (f 0) none;have P:(w1.alloc (.cells #[J 0,J (-1),E9,J 0,.pointer none,.map none] 208)).rowIs w1.heap.size 208 6 (BJ 0 (f 0) none none):=by rw[ar]at hr ⊢;exact hr
  have hb:=((K.alloc K.size (.cells #[J 0,J (-1),E9,J 0,.pointer none,.map none] 208)).alloc (by simp;omega) (.cells #[Q9 w1.heap.size] 163));have ho:=World.ownsRow_lit (base:=w.heap.size) (e:=163) (size:=1) (w1.alloc (.cells #[J 0,J (-1),E9,J 0,.pointer none,.map none] 208)) #[Q9 w1.heap.size] 1 (by simp;omega) (by unfold maxLen;omega) rfl;refine⟨0,1,w1.heap.size+1,1,fun _=>w1.heap.size,fun _=>0,fun _=>none,by omega,rfl,rfl,by omega,.inr ⟨rfl,rfl⟩,?_,Nodes.root (by omega) (P.alloc _),hb⟩;simpa[ptrs]using ho
 case round=>
  obtain⟨k,L,g,l,B,Z,M,hk,rfl,rfl,bg,hL,A,hN,hb⟩:=hrel;have c0:k<n->wr.cell? (G b (k*3))=some (J (f k).parent):=fun h=>((HA.below hb hl).cells h).1
  have c1:k<n->wr.cell? (G b (k*3+1))=some (.string (f k).key):=fun h=>((HA.below hb hl).cells h).2.1
  have c2:k<n->wr.cell? (G b (k*3+2))=some (J (f k).count):=fun h=>((HA.below hb hl).cells h).2.2
  have F:=O hb;have H:=O A;have HN:=O hN;clear hb A hN;go_wp2
  ·have Q:k<n:=by assumption
   have q:0<k:=by assumption
   have ax:L=k:=by omega
   subst ax;have p0:=(H3 L q Q).1;have p1:=(H3 L q Q).2.1;obtain⟨p,R⟩:∃p:Nat,(f L).parent=p:=⟨(f L).parent.toNat,by omega⟩;have ay:p<L:=by omega
   rw[R];obtain⟨W,s⟩:∃W,W=wr.alloc (.cells #[J p,.string (f L).key,J (f L).count] 205):=⟨_,rfl⟩;rw[<-s];have x0:W.cell? (y wr 0)=some (J p):=by rw[s];simp[go_sem]
   have x1:W.cell? (y wr 1)=some (.string (f L).key):=by rw[s];simp[go_sem]
   have x2:W.cell? (y wr 2)=some (J (f L).count):=by rw[s];simp[go_sem]
   have bh:W.heap.size=wr.heap.size+1:=by rw[s];simp
   have S:B9 w W:=by rw[s];exact F.alloc F.size _
   have d:W.drew.ownsRow w.heap.size 163 1 (S9 g L l) L (ptrs B L):=by rw[s];exact(H.alloc _).drew
   have xp:W.cell? (G g p)=some (Q9 (B p)):=(d.cellAt p (by omega)).trans (JM ay);have T:B8 W.drew f w.heap.size L B Z M:=HN.keep (fun b hb=>by
    show W.heap[b]?=_;rw[s];exact Fs _ _ _ (by
     rcases hb with⟨c,hc⟩|⟨es,c,hc⟩
     ·exact(E1.1 hc).1
     ·exact(E1.1 hc).1))
   have hC:=MC W.drew f w.heap.size L B Z M T (by omega) H2 (fun i h1 h4=>H3 i h1 (by omega));rw[show Az f L=p by unfold Az;rw[R];rfl,show I4 (f L)=.agg #[J p,.string (f L).key,J (f L).count] by unfold I4;rw[R]]at hC;have HC:=O hC;have U:=O d;have t:=O S;have HP:=O R;clear hC d S T s HN H F c0 c1 c2 p0 p1 R
   go_region_law (first
    |(go_simp;refine HC.mono ?_;rintro e w2 ⟨r,B',N',M',rfl,V,X,ae,u⟩;have af:=O V;have ag:=O X;have ah:=O ae;have ai:=O u;have x:=O ((Vk U u (by decide)).alloc (.cells #[Q9 r] 163));have bj:w.heap.size<=w2.heap.size:=FZ t.size u.size;clear V X ae u)
    |(refine Aap _ rfl (.tmp 20) (.tmp 29) 115 rfl w.heap.size 163 i0 (.pointer none) 1 8 underlying115 hi au m av rfl (by decide) (S9 g L l) L (ptrs B L) (by simp[Act.eval]) x (y w2 0) 1 1 [Q9 r] (by simp[Act.eval]) rfl (GP (BE _ _)) (by simp[Value.oneCell']) (by decide) (by unfold maxLen;omega) (by omega) (by simp;omega) _ rfl ?_;intro g3 az w3 j a aq bc))
   all_goals
    have C:=Zv x (show 163≠208 by decide);have bk:w.heap.size<=g:=(x.lt g rfl).1;have aj:B8 w3 f w.heap.size (L+1) B' N' M':=(af.keep (w':=w3) (fun b hb=>by
     have aM:b<w2.heap.size:=by
      rcases hb with⟨c,hc⟩|⟨es,c,hc⟩
      ·exact(E1.1 hc).1
      ·exact(E1.1 hc).1
     have E:=Fs w2 (.cells #[Q9 r] 163) b aM;rw[<-E];refine a.block b (by simp;omega) (fun e=>C ?_);have e:b=g:=Aaj e;rw[<-e];rcases hb with⟨c,hc⟩|⟨es,c,hc⟩
     ·exact .inl ⟨c,E.trans hc⟩
     ·exact .inr ⟨es,c,E.trans hc⟩))
    have ak:B9 w w2:=t.trans (by
     have:=ai.below t.size;exact⟨this.os,this.tape,this.output,this.size,this.block⟩)
    have ao:B9 w w3:=ak.trans ⟨a.os,a.tape,a.output,FZ (by simp) a.size,fun k hk=>by
     rw[a.block k (by simp;omega) (fun e=>by have e:k=g:=Aaj e;omega)];exact Fs _ _ _ (by omega)⟩
    rw[OE (z ah) (z ag)]at j;have a6:=O aj;have a7:=O ao;have a8:=O j;clear aj ak ao j a C x af ai ah ag HC U t x0 x1 x2 xp;go_wp2;go_roundw
    case rel=>exact⟨L+1,L+1,g3,az,B',N',M',by omega,by go_num,rfl,by omega,.inl rfl,a8,a6,a7⟩
    case measure=>simp[intOf];omega
  ·have q:k=0:=by omega
   subst q;have ad:L=1:=by omega
   subst ad;go_roundw
   case rel=>
    refine⟨1,1,g,l,B,Z,M,by omega,by go_num,rfl,by omega,.inl rfl,H.alloc _,HN.keep (fun b hb=>Fs _ _ _ ?_),F.alloc F.size _⟩;rcases hb with⟨c,hc⟩|⟨es,c,hc⟩
    ·exact(E1.1 hc).1
    ·exact(E1.1 hc).1
   case measure=>simp[intOf];omega
  ·have bb:L=n:=by omega
   subst bb;go_ret;exact⟨⟨g,l,B,Z,M,rfl,HN,⟨(H.lt g rfl).2,H⟩,fun i hi=>(H.cellAt i (by omega)).trans (JM hi)⟩,F⟩
def S4(f:Nat->Bf)(i:Nat)(key:ByteArray)(r:Int):Prop:=
 (∃t,(∀s,s<=t->0<Dx f i s)/\(f (Dx f i t)).key.toList=key.toList/\(∀s,s<t->(f (Dx f i s)).key.toList≠key.toList)/\r=(f (Dx f i t)).count-1)\/
 (r=-1/\∀t,(∀s,s<=t->0<Dx f i s)->(f (Dx f i t)).key.toList≠key.toList)
theorem S4.unique{f:Nat->Bf}{i:Nat}{key:ByteArray}{r r':Int}(h:S4 f i key r)(h':S4 f i key r'):r=r':=by
 rcases h with⟨t,a1,a2,a3,a4⟩|⟨a1,a2⟩
 ·rcases h' with⟨u,b1,b2,b3,b4⟩|⟨b1,b2⟩
  ·have:t=u:=by
    rcases AaL t u with e|e|e
    ·exact absurd a2 (b3 t e)
    ·exact e
    ·exact absurd b2 (a3 u e)
   subst this;rw[a4,b4]
  ·exact absurd a2 (b2 t a1)
 ·rcases h' with⟨u,b1,b2,b3,b4⟩|⟨b1,b2⟩
  ·exact absurd b2 (a2 u b1)
  ·rw[a1,b1]
open Classical in
noncomputable def BW(f:Nat->Bf)(i:Nat)(key:ByteArray):Int:=if h:∃r,S4 f i key r then h.choose else 0
theorem S4.eq{f:Nat->Bf}{i:Nat}{key:ByteArray}{r:Int}(h:S4 f i key r):BW f i key=r:=by
 have h1:∃r,S4 f i key r:=⟨r,h⟩;unfold BW;rw[dif_pos h1];exact h1.choose_spec.unique h
def Oz(v:V9)(w:Y):Nat:=
 match v with
 |.pointer (some a)=>(match w.cell? a with|some (.int _ n)=>n.toNat|_=>0)
 |_=>0
theorem JI{w:Y}{a:Addr}{n:Nat}(h:w.cell? a=some (J n)):Oz (.pointer (some a)) w=n:=by
 unfold Oz;simp[h]
theorem C1{w:Y}{f:Nat->Bf}{b0 n:Nat}{B Z:Nat->Nat}{M:Nat->Option Nat}(h:B8 w f b0 n B Z M)(hid:∀i,i<n->Z i=i){j:Nat}(hj:j<n):
  w.cell? (G (B j) 0)=some (J j)/\w.cell? (G (B j) 2)=some (.string (f j).key)/\w.cell? (G (B j) 3)=some (J (f j).count)/\w.cell? (G (B j) 4)=some (.pointer (CJ f B j))/\w.cell? (G (B j) 5)=some (.map (M j)):=by
 have a:=h.node j hj (hid j hj);exact⟨a.cell (i:=0) (by omega),a.cell (i:=2) (by omega),a.cell (i:=3) (by omega),a.cell (i:=4) (by omega),a.cell (i:=5) (by omega)⟩
theorem F1(w:Y)(f:Nat->Bf)(b0 n:Nat)(B Z:Nat->Nat)(M:Nat->Option Nat)(h:B8 w f b0 n B Z M)(hid:∀i,i<n->Z i=i)(h2:Bz f)(h3:BB n f)(i:Nat)(hi:i<n)(key:ByteArray):
  C9 181 #[Q9 (B i),.string key] w fun e w'=>(e=.returned (J (BW f i key))/\S4 f i key (BW f i key))/\w'=w:=by
 have F:Hid (∀j,j<n->w.cell? (G (B j) 0)=some (J j)/\w.cell? (G (B j) 2)=some (.string (f j).key)/\w.cell? (G (B j) 3)=some (J (f j).count)/\w.cell? (G (B j) 4)=some (.pointer (CJ f B j))/\w.cell? (G (B j) 5)=some (.map (M j))):=O (fun j hj=>C1 h hid hj);have L:=O h2;have A:=O h3;clear h h2 h3
 go_enter func181,ntmps181
 go_wp2;go_loopw [5] (fun v wr=>∃(t j:Nat),v=Q9 (B j)/\j=Dx f i t/\j<n/\wr=w/\∀s,s<t->0<Dx f i s/\(f (Dx f i s)).key.toList≠key.toList) (fun v wr=>Oz v wr)
 case atStart=>exact⟨0,i,rfl,rfl,hi,rfl,fun s hs=>by omega⟩
 case round=>
  obtain⟨t,j,rfl,hj,b,rfl,d⟩:=hrel;obtain⟨c0,c2,c3,c4,_⟩:=z F j b;have l:=O hj;have a:=O d;clear hj d;by_cases m:j=0
  ·subst m;rw[show CJ f B 0=none by unfold CJ;rw[C3 rfl]]at c4;go_wp2;go_ret;have o:S4 f i key (-1):=by
    refine .inr ⟨rfl,fun u hu e=>?_⟩;by_cases C:u<t
    ·exact(a u C).2 e
    ·have:=hu t (by omega);rw[<-z l]at this;omega
   rw[o.eq];exact⟨⟨rfl,o⟩,rfl⟩
  ·rw[show CJ f B j=some (G (B (Az f j)) 0) by unfold CJ;rw[Cs m]]at c4;have c:0<j:=by omega
   obtain⟨g,k⟩:=Ii L A b c;have P:=(A j c b).1;have Q:=(A j c b).2.1;have p:∀s,s<=t->0<Dx f i s:=fun s hs=>by
    by_cases e:s=t
    ·rw[e,<-z l];exact c
    ·exact(a s (by omega)).1
   have q:Dx f i (t+1)=Az f j:=by show(f (Dx f i t)).parent.toNat=_;rw[<-z l]
   have H:Oz (Q9 (B (Az f j))) wr=Az f j:=JI (F (Az f j) (by unfold Az;omega)).1;have r:Oz (Q9 (B j)) wr=j:=JI c0;have D:Az f j<j:=by unfold Az;omega
   have x:=O p;have E:=O q;have I:=O (And.intro H r);have K:=O (And.intro g k);clear p q H r P Q g k;by_cases hK:(f j).key.toList=key.toList
   ·have R:((f j).key.toList==key.toList)=true:=by simp[hK]
    have HK:=O hK;have g:=K.1;have k:=K.2;clear hK;go_wp2;go_ret;have o:S4 f i key ((f j).count-1):=.inl ⟨t,x,by rw[<-z l];exact HK,fun s hs=>(a s hs).2,by rw[<-z l]⟩;rw[o.eq];exact⟨⟨rfl,o⟩,rfl⟩
   ·have R:((f j).key.toList==key.toList)=false:=by simp[hK]
    have HK:=O hK;clear hK;go_wp2;go_roundw
    case rel=>
     refine⟨t+1,Az f j,rfl,E.symm,by omega,trivial,fun s hs=>?_⟩;by_cases e:s=t
     ·rw[e];exact⟨x t (A0 _),by rw[<-z l];exact HK⟩
     ·exact a s (by omega)
    case measure=>rw[(z I).1,(z I).2];exact D
theorem Pn(w:Y)(f:Nat->Bf)(b0 n g l:Nat)(B Z:Nat->Nat)(M:Nat->Option Nat)(h:B8 w f b0 n B Z M)(d:∀i,i<n->w.cell? (G g i)=some (Q9 (B i)))(hn:n<=200):
  C9 177 #[S9 g n l] w fun e w'=>(∃r:Bool,e=.returned (.bool r)/\(r=false↔∀i,i<n->Z i=i))/\w'=w:=by
 have m:Hid (∀i,i<n->w.cell? (G (B i) 0)=some (J (Z i))):=O (fun i hi=>by
  rw[<-h.BR i hi];exact(h.node (Z i) (Aay (h.le i hi) hi) (h.own i hi)).cell (i:=0) (by omega))
 have o:=O d;clear h d
 go_enter func177,ntmps177
 go_wp2;go_loopw [7] (fun i wr=>∃k:Nat,k<=n/\i=J k/\wr=w/\∀j,j<k->Z j=j) (fun i _=>n-(intOf i).toNat)
 case atStart=>exact⟨0,by omega,rfl,rfl,fun j hj=>by omega⟩
 case round=>
  obtain⟨k,hk,rfl,p,a⟩:=hrel;subst p;have c0:k<n->wr.cell? (G g k)=some (Q9 (B k)):=fun h=>o k h
  have c1:k<n->wr.cell? (G (B k) 0)=some (J (Z k)):=fun h=>m k h
  have b:=O a;clear a;go_wp2
  ·have c:k<n:=by assumption
   have Cy:Z k≠k:=by
    intro e;have h':((Z k:Int)!=(k:Int))=true:=by assumption
    rw[e]at h';simp at h'
   go_ret;exact⟨⟨true,rfl,⟨fun h=>(by cases h),fun h=>absurd (h k c) Cy⟩⟩,rfl⟩
  ·have q:Z k=k:=by
    have h':((Z k:Int)!=(k:Int))=false:=by assumption
    simp at h';omega
   go_roundw
   case rel=>
    refine⟨k+1,by omega,by go_num,trivial,fun j hj=>?_⟩;by_cases e:j=k
    ·rw[e];exact q
    ·exact b j (by omega)
   case measure=>simp[intOf];omega
  ·go_ret;exact⟨⟨false,rfl,⟨fun _ i hi=>b i (by omega),fun _=>rfl⟩⟩,rfl⟩
def O1(n:Nat)(f:Nat->Bf):Prop:=∃i,0<i/\i<n/\0<=BW f (Az f i) (f i).key
theorem Kv(w:Y)(f:Nat->Bf)(b0 n g C:Nat)(B Z:Nat->Nat)(M:Nat->Option Nat)(h:B8 w f b0 n B Z M)(hid:∀i,i<n->Z i=i)(h2:Bz f)(h3:BB n f)(v:∀i,i<n->w.cell? (G g i)=some (Q9 (B i)))(hn:n<=200):
  C9 178 #[S9 g n C] w fun e w'=>(∃r:Bool,e=.returned (.bool r)/\(r=true↔O1 n f))/\B9 w w':=by
 have D:=O h;have x:=O hid;have E:=O h2;have A:=O h3;have F:=O v;clear h v hid h2 h3
 go_enter func178,ntmps178
 go_wp2;go_loopw [7] (fun i wr=>∃(k q:Nat),k<=n/\i=J k/\wr=w.drewN q/\∀j,0<j->j<k->BW f (Az f j) (f j).key<0) (fun i _=>n-(intOf i).toNat)
 case atStart=>exact⟨0,0,by omega,rfl,rfl,fun j l hj=>by omega⟩
 case round=>
  obtain⟨k,q,hk,rfl,t,a⟩:=hrel;have m:B8 wr f b0 n B Z M:=D.keep (fun b _=>by rw[t];rfl);have c0:k<n->wr.cell? (G g k)=some (Q9 (B k)):=fun h=>by rw[t];exact F k h
  have u:=O t;have o:=O m;have c:=O a;clear a t m;go_wp2
  ·have d:k<n:=by assumption
   obtain⟨_,c2,_,c4,_⟩:=C1 o x d;clear c0;by_cases p:k=0
   ·subst p;rw[show CJ f B 0=none by unfold CJ;rw[C3 rfl]]at c4
    go_quiet (fail)
    go_wp2;go_roundw
    case rel=>exact⟨1,q+nq,by omega,rfl,by rw[z u,World.drewN_drewN],fun j l h1=>by omega⟩
    case measure=>simp[intOf];omega
   ·rw[show CJ f B k=some (G (B (Az f k)) 0) by unfold CJ;rw[Cs p]]at c4;have s:0<k:=by omega
    have hs:Az f k<n:=by have:=(A k s d).2.1;unfold Az;omega
    have H:Hid (∀q,C9 181 #[Q9 (B (Az f k)),.string (f k).key] (wr.drewN q) fun e w'=>e=.returned (J (BW f (Az f k) (f k).key))/\w'=wr.drewN q):=
     O (fun q=>(F1 (wr.drewN q) f b0 n B Z M (o.keep (fun b _=>rfl)) x E A (Az f k) hs (f k).key).mono (fun e w' h=>⟨h.1.1,h.2⟩))
    go_quiet (first|(go_at_call 181;exact Calls.quiet_of_same (H _)))
    by_cases I:0<=BW f (Az f k) (f k).key
    ·go_wp2;go_ret;exact⟨⟨true,rfl,⟨fun _=>⟨k,s,d,I⟩,fun _=>rfl⟩⟩,by rw[z u];exact below_drewN (below_drewN (DD _ _) _) _⟩
    ·go_wp2;go_roundw
     case rel=>
      refine⟨k+1,q+nq,by omega,by go_num,by rw[z u,World.drewN_drewN],fun j l h1=>?_⟩;by_cases e:j=k
      ·rw[e];omega
      ·exact c j l (by omega)
     case measure=>simp[intOf];omega
  ·go_ret;refine⟨⟨false,rfl,⟨fun h=>(by cases h),?_⟩⟩,?_⟩
   ·rintro⟨i,l,h1,h2⟩;have:=z c i l (by omega);omega
   ·rw[z u];exact below_drewN (DD _ _) _
end
section
open Go.Maps (Keyed)
def L8(e:Ending)(p:Prop):Prop:=∃r:Bool,e=.returned (.bool r)/\(r=true↔p)
theorem L8.no{p:Prop}(h:¬p):L8 (.returned (.bool false)) p:=⟨false,rfl,⟨fun e=>(by cases e),fun e=>absurd e h⟩⟩
theorem L8.yes{p:Prop}(h:p):L8 (.returned (.bool true)) p:=⟨true,rfl,⟨fun _=>h,fun _=>rfl⟩⟩
theorem NM(b n cap:Nat)(f:Nat->Bf)(w:Y)(hA:Du w b n f)(hn:n<=200)(h2:Bz f):
  C9 175 #[.agg #[S9 b n cap]] w fun e w'=>L8 e (BB n f)/\B9 w w':=by
 have hl:=hA.lt;have s:=O hA;have F:=O h2;clear hA h2
 go_enter func175,ntmps175
 go_wp2;go_loopw [8] (fun i wr=>∃k:Nat,k<=n/\i=J k/\B9 w wr/\wr.cell? (y w 0)=some (S9 b n cap)/\w.heap.size<wr.heap.size/\∀j,1<=j->j<k->YA f j) (fun i _=>n-(intOf i).toNat)
 case atStart=>exact⟨0,by omega,rfl,n9,by simp[go_sem],by simp,fun j h1 h2=>by omega⟩
 case round=>
  obtain⟨k,hk,rfl,hb,l,o,m⟩:=hrel;have c0:k<n->wr.cell? (G b (k*3))=some (J (f k).parent):=fun h=>((s.below hb hl).cells h).1
  have c1:k<n->wr.cell? (G b (k*3+1))=some (.string (f k).key):=fun h=>((s.below hb hl).cells h).2.1
  have c2:k<n->wr.cell? (G b (k*3+2))=some (J (f k).count):=fun h=>((s.below hb hl).cells h).2.2
  have d:=O hb;have c:=O m;clear hb m;by_cases a:k<n
  case neg=>
   go_wp2;go_ret;exact⟨.yes (fun i h1 h2=>c i h1 (by omega)),d⟩
  by_cases u:k=0
  ·subst u;go_wp2;go_roundw
   case rel=>exact⟨1,by omega,by go_num,d.alloc (by omega) _,by simp[go_sem,l,o],by simp;omega,fun j h1 h2=>by omega⟩
   case measure=>simp[intOf];omega
  have H:((k:Int)==0)=false:=by simp;omega
  by_cases hA:(f k).parent<0
  ·have D:decide ((f k).parent<0)=true:=by simp[hA]
   have g:Hid (¬BB n f):=O (fun h=>by have:=(h k (by omega) a).1;omega);go_wp2;go_ret;exact⟨.no g,d.alloc (by omega) _⟩
  have D:decide ((f k).parent<0)=false:=by simp[hA]
  by_cases E:(k:Int)<=(f k).parent
  ·have q:decide ((k:Int)<=(f k).parent)=true:=by simp[E]
   have g:Hid (¬BB n f):=O (fun h=>by have:=(h k (by omega) a).2.1;omega);go_wp2;go_ret;exact⟨.no g,d.alloc (by omega) _⟩
  have q:decide ((k:Int)<=(f k).parent)=false:=by simp;omega
  by_cases I:(4000:Int)<(f k).key.size
  ·have v:decide ((4000:Int)<(f k).key.size)=true:=by simp[I]
   have g:Hid (¬BB n f):=O (fun h=>by have:=(h k (by omega) a).2.2.2.2;omega);go_wp2;go_ret;exact⟨.no g,d.alloc (by omega) _⟩
  have v:decide ((4000:Int)<(f k).key.size)=false:=by simp;omega
  obtain⟨p,x⟩:∃p:Nat,(f k).parent=p:=⟨(f k).parent.toNat,by omega⟩;have A:p<k:=by omega
  have B:p<n:=by omega
  obtain⟨K,L⟩:=BC F c p A;have e2:wr.cell? (G b (p*3+2))=some (J (f p).count):=((s.below d hl).cells B).2.2;rw[x]at hA E D q c0;have t:=O x;have M:b<wr.heap.size:=Be hl d.size;have d0:=c0 a;have d1:=c1 a;have d2:=c2 a;clear x c0 c1 c2;have R:IntKind.i64.wrap ((f p).count+1)=(f p).count+1:=by rw[It];omega
  by_cases hD:12<(f k).count
  ·have g:Hid (¬BB n f):=O (fun h=>by have:=(h k (by omega) a).2.2.2.1;omega);have C:decide (12<(f k).count)=true:=by simp[hD]
   go_wp2
   go_quiet (fail)
   go_wp2;go_ret;exact⟨.no g,below_drewN (d.alloc (by omega) _) _⟩
  have C:decide (12<(f k).count)=false:=by simp;omega
  by_cases r:(f k).count=(f p).count+1
  case neg=>
   have g:Hid (¬BB n f):=O (fun h=>by have:=(h k (by omega) a).2.2.1;rw[z t]at this;exact r this);go_wp2
   go_quiet (fail)
   go_wp2;go_ret;exact⟨.no g,below_drewN (d.alloc (by omega) _) _⟩
  have P:((f k).count !=(f p).count+1)=false:=by simp[r]
  have Q:Hid (YA f k):=O ⟨by rw[z t];omega,by rw[z t];omega,by rw[z t];exact r,by omega,by omega⟩;have S:=O r;clear r;go_wp2
  go_quiet (fail)
  go_wp2;go_roundw
  case rel=>
   refine⟨k+1,by omega,by go_num,below_drewN (d.alloc (by omega) _) _,by simp[go_sem,l,o],by simp;omega,fun j h1 h2=>?_⟩;by_cases e:j=k
   ·rw[e];exact Q
   ·exact c j h1 (by omega)
  case measure=>simp[intOf];omega
theorem RL{p:Nat->Prop}(h:∃t,p t):∃t,p t/\∀s,s<t->¬p s:=by
 obtain⟨t,c⟩:=h
 induction t using Nat.strongRecOn with
 |ind t ih=>
  by_cases hs:∃s,s<t/\p s
  ·obtain⟨s,a,hs⟩:=hs;exact ih s a hs
  ·exact⟨t,c,fun s a b=>hs ⟨s,a,b⟩⟩
theorem Iw(f:Nat->Bf)(i:Nat)(key:ByteArray):S4 f i key (BW f i key):=by
 by_cases h:∃t,(∀s,s<=t->0<Dx f i s)/\(f (Dx f i t)).key.toList=key.toList
 ·obtain⟨t,⟨h1,h2⟩,h3⟩:=RL h;have a:S4 f i key ((f (Dx f i t)).count-1):=.inl ⟨t,h1,h2,fun s hs e=>h3 s hs ⟨fun u hu=>h1 u (by omega),e⟩,rfl⟩;rw[a.eq];exact a
 ·have a:S4 f i key (-1):=.inr ⟨rfl,fun t b e=>h ⟨t,b,e⟩⟩;rw[a.eq];exact a
theorem Wk{n:Nat}{f:Nat->Bf}(h3:BB n f){i:Nat}(hi:i<n):∀t,(∀s,s<t->0<Dx f i s)->Dx f i t<=i:=by
 intro t
 induction t with
 |zero=>intro _;exact A0 _
 |succ t ih=>
  intro h;have h1:=ih (fun s hs=>h s (by omega));have a:=h t (by omega);have:=(h3 (Dx f i t) a (by omega)).2.1;show(f (Dx f i t)).parent.toNat<=i;omega
theorem PG{n:Nat}{f:Nat->Bf}(h2:Bz f)(h3:BB n f){i:Nat}(hi:i<n)(key:ByteArray):0<=BW f i key↔∃t,(∀s,s<=t->0<Dx f i s)/\(f (Dx f i t)).key.toList=key.toList:=by
 have e:=Iw f i key;constructor
 ·intro h;rcases e with⟨t,a,b,_⟩|⟨a,_⟩
  ·exact⟨t,a,b⟩
  ·omega
 ·rintro⟨t,a,b⟩;rcases e with⟨u,a',_,_,d⟩|⟨_,c⟩
  ·have:=Wk h3 hi u (fun s hs=>a' s (by omega));have:=(Ii h2 h3 (show Dx f i u<n by omega) (a' u (A0 _))).1;omega
  ·exact absurd b (c t a)
theorem PT{n:Nat}{f:Nat->Bf}(h3:BB n f){i:Nat}(h1:1<=i)(hi:i<n):∀t,(∀s,s<t->0<Dx f (Az f i) s)->dR f i t=Dx f (Az f i) t:=by
 intro t
 induction t with
 |zero=>
  intro _;have:=(h3 i h1 hi).1;show(f i).parent=((f i).parent.toNat:Int);omega
 |succ t ih=>
  intro h;have e:=ih (fun s hs=>h s (by omega));have a:Az f i<n:=by have:=(h3 i h1 hi).2.1;unfold Az;omega
  have hl:=Wk h3 a t (fun s hs=>h s (by omega));have:=(h3 (Dx f (Az f i) t) (h t (by omega)) (by omega)).1;show(f (dR f i t).toNat).parent=((f (Dx f (Az f i) t)).parent.toNat:Int);rw[e,Lo];omega
theorem SP{n:Nat}{f:Nat->Bf}(h3:BB n f){i:Nat}(h1:1<=i)(hi:i<n)(t:Nat):(∀s,s<=t->0<dR f i s)↔∀s,s<=t->0<Dx f (Az f i) s:=by
 constructor
 ·intro h s
  induction s using Nat.strongRecOn with
  |ind s ih=>
   intro hs;have:=PT h3 h1 hi s (fun u hu=>ih u hu (by omega));have:=h s hs;omega
 ·intro h s hs;rw[PT h3 h1 hi s (fun u hu=>h u (by omega))];have:=h s hs;omega
theorem EU{n:Nat}{f:Nat->Bf}(h2:Bz f)(h3:BB n f):O1 n f↔¬KJ n f:=by
 have d:∀i,0<i->i<n->Az f i<n:=fun i c hi=>by have:=(h3 i c hi).2.1;unfold Az;omega
 constructor
 ·rintro⟨i,c,hi,g⟩ h5;obtain⟨t,a,b⟩:=(PG h2 h3 (d i c hi) _).1 g;refine h5 i t c hi ((SP h3 c hi t).2 a) ?_;rw[PT h3 c hi t (fun s hs=>a s (by omega)),Lo];exact b
 ·intro h5;by_cases h:O1 n f
  ·exact h
  ·refine absurd (fun i t c hi hu e=>h ⟨i,c,hi,(PG h2 h3 (d i c hi) _).2 ⟨t,(SP h3 c hi t).1 hu,?_⟩⟩) h5;have a:=(SP h3 c hi t).1 hu;rw[PT h3 c hi t (fun s hs=>a s (by omega)),Lo]at e;exact e
theorem OP{P:Program}{K l:TypeId}{w:Y}{f:Nat->Bf}{b0 n:Nat}{B Z:Nat->Nat}{M:Nat->Option Nat}(h:Nodes P K l w f b0 n B Z M)(h2:Bz f)(h3:BB n f):(∀i,i<n->Z i=i)↔Gd n f:=by
 constructor
 ·intro hid i k h1 m hi o;have a:=h3 i (by omega) hi;have b:=h3 k h1 (by omega);have e:f k=f i:=by
   obtain⟨e1,e2⟩:=o;have c:(f k).key=(f i).key:=WideShapes.bytes_inj (by rw[<-AaQ,<-AaQ];exact e2);have d:(f k).count=(f i).count:=by rw[b.2.2.1,a.2.2.1,e1]
   cases hk:f k;cases g:f i;rw[hk,g]at e1 c d;simp at e1 c d;rw[e1,c,d]
  have:=h.one k i (by omega) hi e;rw[hid k (by omega),hid i hi]at this;omega
 ·intro h4 i hi;by_cases e:Z i=i
  ·exact e
  ·have j:Z i<i:=by have:=h.le i hi;omega
   have hs:=h.same i hi;have p:1<=Z i:=by
    rcases AaH (Z i)with e0|e0
    ·rw[e0]at hs;have:=h2.1;rw[hs]at this;have:=(h3 i (by omega) hi).1;omega
    ·exact e0
   exact absurd ⟨by rw[hs],by rw[hs]⟩ (h4 i (Z i) p j hi)
theorem Nodes.MZ{P:Program}{K a:TypeId}{w:Y}{f:Nat->Bf}{b0 b1 n:Nat}{B Z:Nat->Nat}{M:Nat->Option Nat}(h:Nodes P K a w f b0 n B Z M)(hb:b1<=b0):Nodes P K a w f b1 n B Z M:=
 {h with base:=fun i hi=>FZ hb (h.base i hi),mbase:=fun i m hi hn b=>FZ hb (h.mbase i m hi hn b)}
theorem DU.lt{a:TypeId}{w:Y}{b:Nat}(h:DU a w b):b<w.heap.size:=by
 rcases h with⟨c,hc⟩|⟨es,c,hc⟩
 ·exact(E1.1 hc).1
 ·exact(E1.1 hc).1
theorem Nodes.below{P:Program}{K a:TypeId}{w w':Y}{f:Nat->Bf}{b0 n:Nat}{B Z:Nat->Nat}{M:Nat->Option Nat}(h:Nodes P K a w f b0 n B Z M)(hb:B9 w w'):Nodes P K a w' f b0 n B Z M:=
 h.keep fun b hn=>hb.block b hn.lt
theorem MR{w:Y}{base a e size:Nat}{v:V9}{n:Nat}{xs:List Value}(h:w.ownsRow base e size v n xs)(hb:a<=base):w.ownsRow a e size v n xs:=by
 obtain⟨hl,⟨c,f⟩|⟨g',cap,cur,c,d,b,h1,h2,h3,h4⟩⟩:=h
 ·exact⟨hl,.inl ⟨c,f⟩⟩
 ·exact⟨hl,.inr ⟨g',cap,cur,c,FZ hb d,b,h1,h2,h3,h4⟩⟩
theorem Ss{w w':Y}{base e size:Nat}{v:V9}{n:Nat}{xs:List Value}(h:w.ownsRow base e size v n xs)(hb:B9 w w'):w'.ownsRow base e size v n xs:=by
 obtain⟨hl,⟨b,d⟩|⟨g',cap,cur,b,c,a,h1,h2,h3,h4⟩⟩:=h
 ·exact⟨hl,.inl ⟨b,d⟩⟩
 ·refine⟨hl,.inr ⟨g',cap,cur,b,c,?_,h1,h2,h3,h4⟩⟩;rw[hb.block g' (E1.1 a).1];exact a
def aQ(w0:Y)(n:Nat)(f:Nat->Bf)(e:Ending)(w:Y):Prop:=
 (∃r:Int,e=.returned (.tuple #[N9,J r])/\r=Ar n f/\r≠0)\/
 (∃g a B Z M,e=.returned (.tuple #[S9 g n a,J 0])/\Ar n f=0/\B8 w f w0.heap.size n B Z M/\(∀i,i<n->Z i=i)/\(g<w.heap.size/\w.ownsRow w0.heap.size 163 1 (S9 g n a) n (ptrs B n))/\∀i,i<n->w.cell? (G g i)=some (Q9 (B i)))
theorem QI(p q:Int)(k l:ByteArray)(c d:Int)(w:Y):(binOp .neq 205 (Sh p k c) (Sh q l d)).run prog w=.ok (.bool (!(p==q&&(k.toList==l.toList&&c==d)))) w:=by
 go_simp;by_cases h1:p=q<;>by_cases h2:k.toList=l.toList<;>by_cases h3:c=d<;>simp[h1,h2,h3]
theorem L8.cases{e:Ending}{p:Prop}(h:L8 e p):(e=.returned (.bool true)/\p)\/(e=.returned (.bool false)/\¬p):=by
 obtain⟨r,rfl,a⟩:=h;cases r
 ·exact .inr ⟨rfl,fun h=>by have:=a.2 h;cases this⟩
 ·exact .inl ⟨rfl,a.1 rfl⟩
theorem Oj(b n cap:Nat)(f:Nat->Bf)(w:Y)(hA:Du w b n f)(hn:n<=1048576):
  C9 110 #[.agg #[S9 b n cap]] w fun e w'=>aQ w n f e w'/\B9 w w':=by
 have hl:=hA.lt;have HA:=O hA;have A:0<n->w.cell? (G b 0)=some (J (f 0).parent):=fun h=>by simpa using (hA.cells h).1
 have C:0<n->w.cell? (G b 1)=some (.string (f 0).key):=fun h=>by simpa using (hA.cells h).2.1
 have D:0<n->w.cell? (G b 2)=some (J (f 0).count):=fun h=>by simpa using (hA.cells h).2.2
 clear hA;by_cases h1:EL n
 case neg=>
  have HR:=O (UD (f:=f) h1);by_cases h0:n=0
  focus
   subst h0
  rotate_left
  focus
   have h2:200<n:=by unfold EL at h1;omega
  rotate_left;all_goals
   clear h1 A C D
   go_enter func110,ntmps110
   go_wp2
   go_ret2
   exact⟨.inl ⟨1,by simp,HR.symm,by omega⟩,n9⟩
 have E:0<n:=by unfold EL at h1;omega
 have c0:=A E;have c1:=C E;have c2:=D E;have h3:(n:Int)<=200:=by unfold EL at h1;omega
 have I:=O h1;clear h1 A C D;have c:=O ((DD w.heap.size w).alloc (A0 _) (.cells #[S9 b n cap] 38))
 go_enter func110,ntmps110
 go_wp2;obtain⟨W,x⟩:∃W,W=w.alloc (.cells #[S9 b n cap] 38):=⟨_,rfl⟩;rw[<-x];have x0:W.cell? (y w 0)=some (S9 b n cap):=by rw[x];simp[go_sem]
 have d0:W.cell? (G b 0)=some (J (f 0).parent):=by rw[x,GC _ _ _ hl];exact c0
 have d1:W.cell? (G b 1)=some (.string (f 0).key):=by rw[x,GC _ _ _ hl];exact c1
 have d2:W.cell? (G b 2)=some (J (f 0).count):=by rw[x,GC _ _ _ hl];exact c2
 have R:W.heap.size=w.heap.size+1:=by rw[x];simp
 have S:b<W.heap.size:=by omega
 have F:w.heap.size<W.heap.size:=by omega
 rw[<-x]at c;clear x c0 c1 c2 R;refine qr W ?_;refine N (h:=N (h:=N (h:=N (h:=?_))));refine GS (fun K hK=>?_);go_simp;refine⟨_,fun w' H=>qk H (IW _),hK _ ?_⟩;clear hK K;refine GS (fun K hK=>?_);by_cases h2:Bz f
 case neg=>
  have j:∀w:World,(binOp .neq 205 (Sh (f 0).parent (f 0).key (f 0).count) (Sh (-1) ⟨#[]⟩ 0)).run prog w=.ok (.bool true) w:=fun w=>by
   rw[QI];have:((f 0).parent==-1&&((f 0).key.toList==(⟨#[]⟩:ByteArray).toList&&(f 0).count==0))=false:=by
    cases hb:((f 0).parent==-1&&((f 0).key.toList==(⟨#[]⟩:ByteArray).toList&&(f 0).count==0))with
    |false=>rfl
    |true=>simp at hb;exact absurd ⟨hb.1,by simpa using hb.2.1,hb.2.2⟩ h2
   rw[this];rfl
  go_simp;refine⟨_,fun w' H=>rfl,hK _ ?_⟩;clear hK K;refine GO ?_;intro w2 a;have q:=O (UE I h2);have k:=O (c.trans (a.mono c.size));clear a j h2;go_wp2
  go_ret2
  exact⟨.inl ⟨2,by simp,q.symm,by omega⟩,k⟩
 have j:∀w:World,(binOp .neq 205 (Sh (f 0).parent (f 0).key (f 0).count) (Sh (-1) ⟨#[]⟩ 0)).run prog w=.ok (.bool false) w:=fun w=>by
  rw[QI,QU h2];simp
 go_simp;refine⟨_,fun w' H=>rfl,hK _ ?_⟩;clear hK K;refine GO ?_;intro w2 a;have k:=O (c.trans (a.mono c.size));have y2:w2.cell? (y w 0)=some (S9 b n cap):=(a.cell (by exact F)).trans x0;have z2:w.heap.size<w2.heap.size:=Be F a.size;have l:=O h2;clear a j h2 x0 d0 d1 d2 S F c;go_wp2_with fail
 refine(NM b n cap f _ (HA.below k hl) (by omega) l).mono ?_;rintro e w3 ⟨T,s⟩;have y3:w3.cell? (y w 0)=some (S9 b n cap):=(s.cell (by exact z2)).trans y2;have z3:w.heap.size<w3.heap.size:=Be z2 s.size;have t:=O (k.trans (s.mono k.size));clear s y2 z2;rcases T.cases with⟨rfl,m⟩|⟨rfl,m⟩
 case inr=>
  have q:=O (UF I l m);clear m T;go_wp2
  go_ret2
  exact⟨.inl ⟨3,by simp,q.symm,by omega⟩,t⟩
 have u:=O m;clear m T;go_wp2_with fail
 refine(Vn b n cap f _ (HA.below t hl) I l u).mono ?_;rintro e w4 ⟨⟨g,U,B,Z,M,rfl,hN,⟨hg,L⟩,hp⟩,P⟩;have V:=O L;clear L;have o:=O (t.trans (P.mono t.size));have p:=O hN;have X:=O hp;have HZ:=O (Aar z3);clear P hN hp y3;go_wp2_with fail
 refine(Pn _ f _ n g U B Z M p X (by omega)).mono ?_;rintro e w5 ⟨⟨r,rfl,v⟩,rfl⟩;cases r
 case true=>
  have h4:¬Gd n f:=fun h4=>by
   have:=v.2 ((OP p l u).2 h4);cases this
  have q:=O (UG I l u h4);clear h4 v;go_wp2
  go_ret2
  exact⟨.inl ⟨4,by simp,q.symm,by omega⟩,o⟩
 have hid:=v.1 rfl;have H4:=O ((OP p l u).1 hid);have HI:=O hid;clear v hid;go_wp2_with fail
 refine(Kv _ f _ n g U B Z M p HI l u X (by omega)).mono ?_;rintro e w6 ⟨⟨r,rfl,v⟩,Q⟩;have d:=O Q;clear Q;cases r
 case true=>
  have q:=O (UH I l u H4 ((EU l u).1 (v.1 rfl)));clear v;go_wp2
  go_ret2
  exact⟨.inl ⟨5,by simp,q.symm,by omega⟩,o.trans (d.mono o.size)⟩
 have h5:KJ n f:=Classical.byContradiction fun h5=>by
  have:=v.2 ((EU l u).2 h5);cases this
 have q:=O (Kg I l u H4 h5);clear v h5;go_wp2
 go_ret2
 refine⟨.inr ⟨g,U,B,Z,M,by simp,q,?_,HI,⟨Be hg d.size,MR (Ss V d) HZ⟩,fun i hi=>(d.cell (by exact hg)).trans (X i hi)⟩,o.trans (d.mono o.size)⟩;exact(p.below d).MZ HZ
theorem RM(w:Y)(f:Nat->Bf)(b0 n:Nat)(B Z:Nat->Nat)(M:Nat->Option Nat)(h:B8 w f b0 n B Z M)(hid:∀i,i<n->Z i=i)(h2:Bz f)(h3:BB n f)(i:Nat)(hi:i<n):
  C9 94 #[Q9 (B i)] w fun e w'=>(∃m,e=.returned (S9 m (nf f i) (nf f i))/\w.heap.size<=m/\eC w' m (nf f i) (DF f i))/\B9 w w':=by
 obtain⟨F,H⟩:=BC (k:=n) h2 (fun j h1 h2=>h3 j h1 h2) i hi;obtain⟨c,hc⟩:∃c:Nat,(f i).count=c:=⟨(f i).count.toNat,by omega⟩;have q:nf f i=c:=by unfold nf;omega
 have ae:c<=12:=by omega
 have I:=run_make_row' (P:=prog) 99 9 (E9) 16 underlying99 Ze rfl .i64 .i64 c (by omega) (by omega);obtain⟨_,_,a3,_,_⟩:=C1 h hid hi;rw[hc]at a3;have s:∀j,j<n->B j<w.heap.size:=fun j hj=>h.lt hj
 have K:=O s;have HH:=O h;have HI:=O hid;have L:=O h2;have E:=O h3;have u:=O q;clear h hid h2 h3 hc q s F H
 go_enter func94,ntmps94
 go_wp2;clear a3 I;go_loopw [4] (fun v wr=>∃(t j:Nat) (g:Nat->Value),t<=c/\v=Q9 (B j)/\j=Dx f i t/\j<n/\B9 w wr/\wr.rowIs w.heap.size 9 c g/\∀j,c-t<=j->j<c->g j=.string (DF f i j)) (fun v wr=>Oz v wr)
 case atStart=>exact⟨0,i,fun _=>E9,by omega,rfl,rfl,hi,n9,World.rowIs_made w (E9) c 9,fun j h1 h2=>by omega⟩
 case round=>
  obtain⟨t,p,g,ht,rfl,Q,d,hb,a,b⟩:=hrel;obtain⟨R,x⟩:=Fh L E hi t (by rw[z u];exact ht);rw[z u,<-Q]at x;have HP:=O Q;clear Q R;obtain⟨c0,c2,c3,c4,_⟩:=C1 (HH.below hb) HI d;have hq:∀j,j<n->wr.cell? (G (B j) 0)=some (J j):=fun j hj=>(C1 (HH.below hb) HI hj).1
  have ag:B p<wr.heap.size:=Be (K p d) hb.size;have af:B p≠w.heap.size:=Nat.ne_of_lt (K p d);have HQ:=O hq;clear hq;by_cases A:p=0
  ·subst A;rw[show CJ f B 0=none by unfold CJ;rw[C3 rfl]]at c4;have C:c=t:=by have:=L.2.2;omega
   subst C;have S:=O hb;have T:=O a;have l:=O b;clear hb a b;go_wp2;go_ret;refine⟨⟨w.heap.size,by rw[z u];rfl,A0 _,?_⟩,S⟩;rw[z u];exact T.congr fun j hj=>l j (by omega) hj
  ·rw[show CJ f B p=some (G (B (Az f p)) 0) by unfold CJ;rw[Cs A]]at c4;have o:0<p:=by omega
   have U:=(E p o d).1;have V:=(E p o d).2.1;have C:t<c:=by have:=(Ii L E d o).1;omega
   obtain⟨r,hr⟩:∃r:Nat,r+1=c-t:=⟨c-t-1,by omega⟩;have er:(f p).count=(r:Int)+1:=by omega
   rw[er]at c3;have W:r<c:=by omega
   have d0:=a.cell W;have d1:=a.frozen r;have ah:=a.lt;have HF:Hid (DF f i r=(f p).key):=O (by unfold DF;rw[z u,show c-1-r=t by omega,<-z HP]);have D:Dx f i (t+1)=Az f p:=by show(f (Dx f i t)).parent.toNat=_;rw[<-z HP]
   have X:Az f p<p:=by unfold Az;omega
   have ad:=O D;have S:=O hb;have T:=O a;have l:=O b;have HE:=O er;clear hb a b er x U V D;go_wp2
   go_region
   go_wp2;go_roundw
   case rel=>
    refine⟨t+1,Az f p,_,by omega,rfl,ad.symm,by omega,(S.setCell (by exact A0 _) _).drew,(T.set r _).drew,fun j h1 h2=>?_⟩;by_cases e:j=r
    ·subst e;simp[z HF]
    ·simp only[e,X9];exact l j (by omega) h2
   case measure=>
    have hs:Az f p<n:=by omega
    have Cy:B (Az f p)≠w.heap.size:=Nat.ne_of_lt (K _ hs);rw[JI c0,JI (n:=Az f p)]
    ·exact X
    ·exact(As (At _ _ _ _ Cy)).trans (HQ _ hs)
end
theorem Pd(f:Nat->Bf)(i t:Nat):∀s,Dx f (Dx f i t) s=Dx f i (t+s)
 |0=>rfl
 |s+1=>by
  show(f (Dx f (Dx f i t) s)).parent.toNat=_;rw[Pd f i t s];rfl
theorem LB{n:Nat}{f:Nat->Bf}(h2:Bz f)(h3:BB n f){i:Nat}(hi:i<n){t:Nat}(a:t<nf f i):0<Dx f i t:=by
 have:=(Fh h2 h3 hi t (by omega)).2;rcases AaH (Dx f i t)with e|e
 ·rw[e,h2.2.2]at this;omega
 ·exact e
theorem P8{n:Nat}{f:Nat->Bf}(h2:Bz f)(h3:BB n f){i:Nat}(hi:i<n){t:Nat}(c:∀s,s<=t->0<Dx f i s):t<nf f i:=by
 by_cases h:t<nf f i
 ·exact h
 ·obtain⟨a,b⟩:=Fh h2 h3 hi (nf f i) (A0 _);have:=(Ii h2 h3 a (c (nf f i) (by omega))).1;omega
theorem Kb{n:Nat}{f:Nat->Bf}(h2:Bz f)(h3:BB n f)(h5:KJ n f){i:Nat}(hi:i<n){t u:Nat}(d:t<u)(hu:u<nf f i):(f (Dx f i t)).key.toList≠(f (Dx f i u)).key.toList:=by
 intro e;have b:=LB h2 h3 hi (show t<nf f i by omega);have c:=(Fh h2 h3 hi t (by omega)).1;have hs:Az f (Dx f i t)=Dx f i (t+1):=rfl;have a:Az f (Dx f i t)<n:=by have:=(h3 _ b c).2.1;unfold Az;omega
 refine(EU h2 h3).1 ⟨Dx f i t,b,c,?_⟩ h5;refine(PG h2 h3 a _).2 ⟨u-t-1,fun s g=>?_,?_⟩
 ·rw[hs,Pd];exact LB h2 h3 hi (by omega)
 ·rw[hs,Pd,show t+1+(u-t-1)=u by omega];exact e.symm
theorem PF{n:Nat}{f:Nat->Bf}(h2:Bz f)(h3:BB n f)(h5:KJ n f){i:Nat}(hi:i<n)(key:ByteArray){j:Nat}(hj:j<nf f i)(e:(DF f i j).toList=key.toList):BW f i key=j:=by
 have k:=Iw f i key;have g:∀s,s<=nf f i-1-j->0<Dx f i s:=fun s hs=>LB h2 h3 hi (by omega)
 have e':(f (Dx f i (nf f i-1-j))).key.toList=key.toList:=e;rcases k with⟨t,a,b,_,d⟩|⟨_,c⟩
 ·have l:=P8 h2 h3 hi a;have:t=nf f i-1-j:=by
   rcases AaL t (nf f i-1-j)with h|h|h
   ·exact absurd (b.trans e'.symm) (Kb h2 h3 h5 hi h (by omega))
   ·exact h
   ·exact absurd (e'.trans b.symm) (Kb h2 h3 h5 hi h l)
  have hc:=(Fh h2 h3 hi t (by omega)).2;rw[d,hc];omega
 ·exact absurd e' (c _ g)
theorem MV{n:Nat}{f:Nat->Bf}(h2:Bz f)(h3:BB n f){i:Nat}(hi:i<n)(key:ByteArray)(e:∀j,j<nf f i->(DF f i j).toList≠key.toList):BW f i key=-1:=by
 have g:=Iw f i key;rcases g with⟨t,a,b,_,d⟩|⟨c,_⟩
 ·have h:=P8 h2 h3 hi a;refine absurd ?_ (e (nf f i-1-t) (by omega));show(f (Dx f i (nf f i-1-(nf f i-1-t)))).key.toList=_;rw[show nf f i-1-(nf f i-1-t)=t by omega];exact b
 ·exact c
def bare(d:Dc):Prop:=d.n=0/\d.m=0/\d.x=0/\d.used=0/\d.live=0/\d.turns=0
def MQ(v:Vl):Bool:=v.ok&&v.kind !=0
def jG(s:AV)(j:Nat)(t:Tb):Prop:=(t.nv:Int)=(s.F j).count/\bare t.d/\∀i,i<t.nv->MQ (t.V i)=true
def dQ(s:AV)(D:Int)(t:Tb):Prop:=
 (t.shape=-1/\t.nv=0/\D=0)\/(0<=t.shape/\t.shape<s.nf/\jG s t.shape.toNat t)
def Rr(s:AV)(x:Si):Prop:=x.key.size<=4000/\0<=x.EB/\0<=x.Bh/\x.EB<=1000000000000/\x.Bh<=1000000000000/\((x.shape=-1/\x.place=0)\/(0<=x.shape/\x.shape<s.nf/\0<=x.place/\BW s.F x.shape.toNat x.key=x.place))
open Classical in
noncomputable def Fe(s:AV)(D:Nat->Int):Int:=
 if Ar s.nf s.F=0 then if s.nt<=100/\s.ns<=50 then if∀i,i<s.nt->dQ s (D i) (s.T i)then if∀i,i<s.ns->Rr s (s.S i)then 0 else 4 else 3 else 2 else 1
theorem Ye{s:AV}{D:Nat->Int}(h1:Ar s.nf s.F=0)(h2:s.nt<=100/\s.ns<=50)(h3:∀i,i<s.nt->dQ s (D i) (s.T i))(h:∀i,i<s.ns->Rr s (s.S i)):Fe s D=0:=by unfold Fe;rw[C3 h1,C3 h2,C3 h3,C3 h]
theorem JX{s:AV}{D:Nat->Int}(h:Fe s D=0):Ar s.nf s.F=0/\(s.nt<=100/\s.ns<=50)/\(∀i,i<s.nt->dQ s (D i) (s.T i))/\∀i,i<s.ns->Rr s (s.S i):=by
 unfold Fe at h
 split at h
 ·next h1=>
  split at h
  ·next h2=>
   split at h
   ·next h3=>
    split at h
    ·next h4=>exact⟨h1,h2,h3,h4⟩
    ·cases h
   ·cases h
  ·cases h
 ·cases h
theorem Nz(va:T9)(nv vc:Nat)(la:T9)(lc:Nat)(ia:T9)(ic:Nat)(xa:T9)(xc:Nat)(d:Dc)(w:Y):
  C9 339 #[.agg #[.slice va nv vc,.slice la d.n lc,.slice ia d.m ic,.slice xa d.x xc,J d.used,J d.live,J d.turns]] w (R9 (.bool (tells (bare d))) w):=by
 have c:∀o1 o2,B9 w ((w.alloc o1).alloc o2):=fun o1 o2=>(n9).alloc (by simp) _
 have b:=O c;clear c;by_cases h1:((d.n:Int)==0)=true
 case neg=>
  have a:=O (Bj (p:=bare d) (fun h=>by unfold bare at h;simp at h1;omega));have f:((d.n:Int)==0)=false:=by simpa using h1
  clear h1
  go_enter func339,ntmps339
  go_wp2;go_ret;exact⟨by rw[z a];rfl,b _ _⟩
 by_cases h2:((d.m:Int)==0)=true
 case neg=>
  have a:=O (Bj (p:=bare d) (fun h=>by unfold bare at h;simp at h2;omega));have g:((d.m:Int)==0)=false:=by simpa using h2
  clear h2
  go_enter func339,ntmps339
  go_wp2;go_ret;exact⟨by rw[z a];rfl,b _ _⟩
 by_cases h3:((d.x:Int)==0)=true
 case neg=>
  have a:=O (Bj (p:=bare d) (fun h=>by unfold bare at h;simp at h3;omega));have i:((d.x:Int)==0)=false:=by simpa using h3
  clear h3
  go_enter func339,ntmps339
  go_wp2;go_ret;exact⟨by rw[z a];rfl,b _ _⟩
 by_cases h4:(d.used==0)=true
 case neg=>
  have a:=O (Bj (p:=bare d) (fun h=>by unfold bare at h;simp at h4;omega));have j:(d.used==0)=false:=by simpa using h4
  clear h4
  go_enter func339,ntmps339
  go_wp2;go_ret;exact⟨by rw[z a];rfl,b _ _⟩
 by_cases h5:(d.live==0)=true
 case neg=>
  have a:=O (Bj (p:=bare d) (fun h=>by unfold bare at h;simp at h5;omega));have k:(d.live==0)=false:=by simpa using h5
  clear h5
  go_enter func339,ntmps339
  go_wp2;go_ret;exact⟨by rw[z a];rfl,b _ _⟩
 by_cases e:(d.turns==0)=true
 case neg=>
  have a:=O (Bj (p:=bare d) (fun h=>by unfold bare at h;simp at e;omega));have l:(d.turns==0)=false:=by simpa using e
  clear e
  go_enter func339,ntmps339
  go_wp2;go_ret;exact⟨by rw[z a];rfl,b _ _⟩
 have a:=O (Bl (p:=bare d) (by simp at h1 h2 h3 h4 h5 e;exact⟨h1,h2,h3,h4,h5,e⟩))
 go_enter func339,ntmps339
 go_wp2;go_ret;exact⟨by rw[z a];rfl,b _ _⟩
abbrev iM(va:T9)(vc:Nat)(la:T9)(lc:Nat)(ia:T9)(ic:Nat)(xa:T9)(xc:Nat)(t:Tb):Value:=.agg #[.slice va t.nv vc,.slice la t.d.n lc,.slice ia t.d.m ic,.slice xa t.d.x xc,J t.d.used,J t.d.live,J t.d.turns]
abbrev V8(p:Nat)(va:T9)(vc:Nat)(la:T9)(lc:Nat)(ia:T9)(ic:Nat)(xa:T9)(xc:Nat)(t:Tb):Value:=.agg #[.slice va t.nv vc,.slice la t.d.n lc,.slice ia t.d.m ic,.slice xa t.d.x xc,J t.d.used,J t.d.live,J t.d.turns,Q9 p]
def KD(t:Tb):Prop:=∀i,i<t.nv->MQ (t.V i)=true
theorem KW(va:T9)(vc:Nat)(la:T9)(lc:Nat)(ia:T9)(ic:Nat)(xa:T9)(xc:Nat)(t:Tb)(c:Int)(w:Y)(L:Hg w va t.nv t.V)(hn:t.nv<=1048576):
  C9 346 #[iM va vc la lc ia ic xa xc t,J c] w (R9 (.bool (tells (KD t/\(t.nv:Int)=c))) w):=by
 obtain⟨W,v⟩:∃W,W=w.alloc (.cells #[.slice va t.nv vc,.slice la t.d.n lc,.slice ia t.d.m ic,.slice xa t.d.x xc,J t.d.used,J t.d.live,J t.d.turns] 234):=⟨_,rfl⟩;have r:B9 w W:=by rw[v];exact(DD _ _).alloc (A0 _) _
 have D:w.heap.size<W.heap.size:=by rw[v];simp
 have x0:W.cell? (y w 0)=some (.slice va t.nv vc):=by rw[v];simp[go_sem]
 have M:=O (L.below r rfl);have l:=O r;clear r L
 go_enter func346,ntmps346
 go_wp2;rw[<-v];clear v;go_loopw [10] (fun i wr=>∃(k:Nat),k<=t.nv/\i=J k/\B9 W wr/\∀q,q<k->MQ (t.V q)=true) (fun i _=>t.nv-(intOf i).toNat)
 case atStart=>exact⟨0,by omega,rfl,DD _ _,fun q hq=>by omega⟩
 case round=>
  obtain⟨k,hk,rfl,hb,f⟩:=hrel;have P:=(hb.cell (p:=(y w 0)) D).trans x0;by_cases s:k<t.nv
  case neg=>
   have E:k=t.nv:=by omega
   have A:Hid (tells (KD t/\(t.nv:Int)=c)=((t.nv:Int)==c)):=O (by
    by_cases e:(t.nv:Int)=c
    ·rw[Bl ⟨fun i hi=>f i (by omega),e⟩];simp[e]
    ·rw[Bj (fun h=>e h.2)];simp[e])
   have g:=O (l.trans (hb.mono l.size));subst E;clear hb f;go_wp2;go_ret;exact⟨by rw[z A]<;>rfl,g⟩
  obtain⟨b,off,rfl,F,hcs⟩:=M.resolve_left (by omega);obtain⟨e0,e1,e2,e3,H⟩:=(hcs k s).keep (fun q=>hb.cell (p:=(G b q)) F);have Q:=hb.size;have g:Hid (∀o,B9 w (wr.alloc o)):=O (fun o=>(l.trans (hb.mono l.size)).alloc (by omega) _);have B:Hid (∀o,B9 W (wr.alloc o)):=O (fun o=>hb.alloc (by omega) _);have C:=O f;clear hcs hb f P;cases u:(t.V k).ok
  ·have hv':AB (t.V k).kind (t.V k).num (t.V k).Ae (t.V k).str (t.V k).ref=false:=u;have A:=O (Bj (p:=KD t/\(t.nv:Int)=c) (fun h=>by have:=h.1 k s;unfold MQ at this;rw[u]at this;cases this));clear u;go_wp2_with fail
   refine m9 (BK (t.V k).kind (t.V k).num (t.V k).Ae (t.V k).str (t.V k).ref _) fun w3 a=>?_
   rw[hv'];have j:=O ((g _).trans (a.mono (g _).size));clear a e0 e1 e2 e3 H;go_wp2;go_ret;exact⟨by rw[z A];rfl,j⟩
  ·have hv':AB (t.V k).kind (t.V k).num (t.V k).Ae (t.V k).str (t.V k).ref=true:=u;by_cases hz:((t.V k).kind==0)=true
   ·have A:=O (Bj (p:=KD t/\(t.nv:Int)=c) (fun h=>by have:=h.1 k s;unfold MQ at this;simp at hz;simp[hz]at this));clear u;go_wp2_with fail
    refine m9 (BK (t.V k).kind (t.V k).num (t.V k).Ae (t.V k).str (t.V k).ref _) fun w3 a=>?_
    rw[hv'];obtain⟨I,K⟩:=AJ a;have j:=O ((g _).trans (a.mono (g _).size));clear a e0 e1 e2 e3 H;go_wp2;go_ret;exact⟨by rw[z A];rfl,j⟩
   ·have R:((t.V k).kind==0)=false:=by simpa using hz
    have S:Hid (MQ (t.V k)=true):=O (by unfold MQ;rw[u];simp at hz;simp[hz]);clear u hz;go_wp2_with fail
    refine m9 (BK (t.V k).kind (t.V k).num (t.V k).Ae (t.V k).str (t.V k).ref _) fun w3 a=>?_
    rw[hv'];obtain⟨I,K⟩:=AJ a;have j:=O ((B _).trans (a.mono (B _).size));clear a e0 e1 e2 e3 H;go_wp2;go_roundw
    case rel=>
     refine⟨k+1,by omega,by go_num,j,fun q hq=>?_⟩;by_cases e:q=k
     ·subst e;exact S
     ·exact C q (by omega)
    case measure=>simp[intOf];omega
def SZ(T:World->Prop)(la:T9)(lc:Nat)(ia:T9)(ic:Nat)(xa:T9)(xc:Nat)(d:Dc)(D:Int):Prop:=
 ∀W:World,T W->Gy W la ia xa d->C9 212 #[Dv la lc ia ic xa xc d] W (R9 (J D) W)
theorem FX(n:Int)(w:Y):
  C9 180 #[J n] w (R9 (.bool (decide (0<=n)&&decide (n<=1000000000000))) w):=by
 go_enter func180,ntmps180
 go_wp2;all_goals(go_ret;refine⟨?_,DD _ _⟩;first|(simp_all;done)|(simp_all;omega))
theorem K2(a:T9)(n cap:Nat)(i:Int)(w:Y):
  C9 179 #[J i,.slice a n cap] w (R9 (.bool (decide (0<=i)&&decide (i<n))) w):=by
 go_enter func179,ntmps179
 go_wp2;all_goals(go_ret;refine⟨?_,DD _ _⟩;first|(simp_all;done)|(simp_all;omega))
def fT(x:Si):Prop:=x.key.size<=4000/\0<=x.EB/\0<=x.Bh/\x.EB<=1000000000000/\x.Bh<=1000000000000
theorem fU{s:AV}{x:Si}(h:Rr s x):fT x:=⟨h.1,h.2.1,h.2.2.1,h.2.2.2.1,h.2.2.2.2.1⟩
theorem Xu{s:AV}{x:Si}(a:fT x)(h:x.shape=-1):tells (Rr s x)=(x.place==0):=by
 by_cases e:x.place=0
 ·rw[Bl (p:=Rr s x) ⟨a.1,a.2.1,a.2.2.1,a.2.2.2.1,a.2.2.2.2,.inl ⟨h,e⟩⟩];simp[e]
 ·rw[Bj (p:=Rr s x) (fun q=>by rcases q.2.2.2.2.2 with q|q<;>omega)];simp[e]
theorem Zu{s:AV}{x:Si}(h1:x.shape≠-1)(h:¬(0<=x.shape/\x.shape<s.nf/\0<=x.place)):tells (Rr s x)=false:=
 Bj (fun q=>by
  rcases q.2.2.2.2.2 with q|q
  ·exact h1 q.1
  ·exact h ⟨q.1,q.2.1,q.2.2.1⟩)
theorem cR{s:AV}{x:Si}{j:Nat}(a:fT x)(hj:x.shape=j)(hn:j<s.nf)(b:0<=x.place):tells (Rr s x)=(BW s.F j x.key==x.place):=by
 by_cases e:BW s.F j x.key=x.place
 ·rw[Bl (p:=Rr s x) ⟨a.1,a.2.1,a.2.2.1,a.2.2.2.1,a.2.2.2.2,.inr ⟨by omega,by omega,b,by rw[hj];exact e⟩⟩];simp[e]
 ·rw[Bj (p:=Rr s x) (fun q=>by
   rcases q.2.2.2.2.2 with q|q
   ·omega
   ·have:=q.2.2.2;rw[hj]at this;exact e this)]
  simp[e]
abbrev SJ(j:Int)(x:Si):Value:=.agg #[.string x.key,J j,J x.place,J x.EB,J x.Bh]
section
open Go.ChangeShapes Go.WideShapes Go.ChangeAt Go.RowKit Go.Deep
structure Ad where
 va:Option Addr
 vc:Nat
 la:Option Addr
 lc:Nat
 ia:Option Addr
 ic:Nat
 xa:Option Addr
 xc:Nat
def OS(v:Vl):List Value:=[J v.kind,J v.num,F9 v.Ae,.string v.str,J v.ref]
def M8(s:Si):List Value:=[.string s.key,J s.shape,J s.place,J s.EB,J s.Bh]
theorem IK.of{w:Y}{b o:Nat}{p:Vl}(h:∀j u,(OS p)[j]?=some u->w.cell? (G b (o+j))=some u):IK w b o p:=
 ⟨h 0 _ rfl,h 1 _ rfl,h 2 _ rfl,h 3 _ rfl,h 4 _ rfl⟩
def kH(t:Tb):Prop:=(∀i,i<t.nv->Wf (t.V i))/\Rp t.d
def gQ(s:AV):Prop:=∀i,i<s.nt->kH (s.T i)
instance:Inhabited Si:=⟨⟨⟨#[]⟩,0,0,0,0⟩⟩
instance:Inhabited Tb:=⟨⟨0,0,fun _=>default,⟨0,fun _=>default,0,fun _=>0,0,fun _=>0,0,0,0⟩⟩⟩
instance:Inhabited Ad:=⟨⟨none,0,none,0,none,0,none,0⟩⟩
section
variable {H:Type} {enc:TypeId×Value->H} {P:Program} {w:Y} {base:Nat} {spare:Nat->Bool} {held:Bool}
end
end
structure Nd (w:Y) (s:AV) (b0 g:Nat) (B N:Nat->Nat) (M:Nat->Option Nat):Prop where
 ns:B8 w s.F b0 s.nf B N M
 id:∀i,i<s.nf->N i=i
 lt:g<w.heap.size
 eN:∀i,i<s.nf->w.cell? (G g i)=some (Q9 (B i))
theorem Nd.below{w w':Y}{s:AV}{b0 g:Nat}{B Z:Nat->Nat}{M:Nat->Option Nat}(h:Nd w s b0 g B Z M)(hb:B9 w w'):Nd w' s b0 g B Z M:=
 ⟨h.ns.below hb,h.id,Be h.lt hb.size,fun i hi=>(hb.cell (p:=(G g i)) h.lt).trans (h.eN i hi)⟩
theorem Nd.EM{w:Y}{s:AV}{b0 g:Nat}{B Z:Nat->Nat}{M:Nat->Option Nat}(h:Nd w s b0 g B Z M){j:Nat}(hj:j<s.nf):B j<w.heap.size/\w.cell? (G (B j) 3)=some (J (s.F j).count):=by
 have:=C1 h.ns h.id hj;exact⟨by have:=Hi _ _ this.1;exact this,this.2.2.1⟩
theorem Nd.place{w:Y}{s:AV}{b0 g:Nat}{B Z:Nat->Nat}{M:Nat->Option Nat}(h:Nd w s b0 g B Z M)(a:Ar s.nf s.F=0){j:Nat}(hj:j<s.nf)(key:ByteArray):
  C9 181 #[Q9 (B j),.string key] w (R9 (J (BW s.F j key)) w):=by
 refine(F1 w s.F b0 s.nf B Z M h.ns h.id (Au a).2.1 (Au a).2.2.1 j hj key).mono ?_;rintro e w' ⟨⟨h1,_⟩,rfl⟩;exact⟨h1,DD _ _⟩
theorem M9(a:T9)(n j:Nat)(x:Si)(w:Y)(k:fT x):
  C9 112 #[SJ (-1) x,.slice a n j] w (R9 (.bool (x.place==0)) w):=by
 obtain⟨h1,h2,h3,h4,h5⟩:=k;have l:(decide (0<=x.EB)&&decide (x.EB<=1000000000000))=true:=by simp;omega
 have f:(decide (0<=x.Bh)&&decide (x.Bh<=1000000000000))=true:=by simp;omega
 have d:∀o1,B9 w (w.alloc o1):=fun o1=>n9
 have i:=O d;clear d
 go_enter func112,ntmps112
 go_wp2_with fail
 refine m9 (FX x.EB _) fun w1 b=>?_
 rw[l];obtain⟨m,o⟩:=AJ b;have g:=b.size;simp at g;have p:w.heap.size<w1.heap.size:=by omega
 have e:=O ((i _).trans (b.mono (i _).size));clear b;go_wp2_with fail
 refine m9 (FX x.Bh _) fun w2 c=>?_
 rw[f];obtain⟨q,r⟩:=AJ c;have s:=Be p c.size;have h:=O (e.trans (c.mono e.size));clear c;go_wp2;go_ret;exact⟨rfl,h⟩
abbrev IJ(A:Ad)(t:Tb):Value:=iM A.va A.vc A.la A.lc A.ia A.ic A.xa A.xc t
abbrev B4(p:Nat)(A:Ad)(t:Tb):Value:=V8 p A.va A.vc A.la A.lc A.ia A.ic A.xa A.xc t
abbrev jW(i:Int)(A:Ad)(t:Tb):Value:=.agg #[J i,.slice A.va t.nv A.vc,.slice A.la t.d.n A.lc,.slice A.ia t.d.m A.ic,.slice A.xa t.d.x A.xc,J t.d.used,J t.d.live,J t.d.turns]
theorem QD(a:T9)(n c:Nat)(A:Ad)(t:Tb)(w:Y):
  C9 111 #[jW (-1) A t,.slice a n c] w (R9 (.iface 239 (IJ A t)) w):=by
 have b:∀o1 o2,B9 w ((w.alloc o1).alloc o2):=fun o1 o2=>(n9).alloc (by simp) _
 have d:=O b;clear b
 go_enter func111,ntmps111
 go_wp2;go_ret;exact⟨rfl,d _ _⟩
theorem U6(g n q p:Nat)(A:Ad)(t:Tb)(j:Nat)(w:Y)(hj:j<n)(hg:g<w.heap.size)(hc:w.cell? (G g j)=some (Q9 p)):
  C9 111 #[jW (j:Int) A t,S9 g n q] w (R9 (.iface 236 (B4 p A t)) w):=by
 have c:B9 w ((w.alloc (.cells #[J (j:Int),.slice A.va t.nv A.vc,.slice A.la t.d.n A.lc,.slice A.ia t.d.m A.ic,.slice A.xa t.d.x A.xc,J t.d.used,J t.d.live,J t.d.turns] 94)).alloc (.cells #[.slice A.va t.nv A.vc,.slice A.la t.d.n A.lc,.slice A.ia t.d.m A.ic,.slice A.xa t.d.x A.xc,J t.d.used,J t.d.live,J t.d.turns] 234)):=(n9).alloc (by simp) _;have r:=O c;have s:(decide ((0:Int)<=(j:Int))&&decide ((j:Int)<(n:Int)))=true:=by simp;omega
 have u:((j:Int)==-1)=false:=by first|(simp;done)|(simp;omega)
 have e:=(c.cell (p:=(G g j)) hg).trans hc;clear c hc
 go_enter func111,ntmps111
 go_wp2_with fail
 refine m9 (K2 (some (G g 0)) n q (j:Int) _) fun w1 b=>?_
 rw[s];obtain⟨a,k⟩:=AJ b;have l:=b.size;simp at l;have v:w.heap.size<w1.heap.size:=by omega
 have B:w.heap.size+1<w1.heap.size:=by omega
 have C:g<w1.heap.size:=by omega
 have D:=(b.cell (p:=(G g j)) (by simp;omega)).trans e;have c0:w1.cell? (y w 0)=some (J (j:Int)):=by rw[a _ _ (by simp;omega)];simp[go_sem]
 have d0:w1.cell? (Y9 w 0)=some (.slice A.va t.nv A.vc):=by rw[a _ _ (by simp)];simp[go_sem]
 have d1:w1.cell? (Y9 w 1)=some (.slice A.la t.d.n A.lc):=by rw[a _ _ (by simp)];simp[go_sem]
 have d2:w1.cell? (Y9 w 2)=some (.slice A.ia t.d.m A.ic):=by rw[a _ _ (by simp)];simp[go_sem]
 have d3:w1.cell? (Y9 w 3)=some (.slice A.xa t.d.x A.xc):=by rw[a _ _ (by simp)];simp[go_sem]
 have d4:w1.cell? (Y9 w 4)=some (J t.d.used):=by rw[a _ _ (by simp)];simp[go_sem]
 have d5:w1.cell? (Y9 w 5)=some (J t.d.live):=by rw[a _ _ (by simp)];simp[go_sem]
 have d6:w1.cell? (Y9 w 6)=some (J t.d.turns):=by rw[a _ _ (by simp)];simp[go_sem]
 have f:=O (r.trans (b.mono r.size));clear b a k e;go_wp2_with fail
 refine qr w1 ?_;refine N (h:=N (h:=N (h:=N (h:=N (h:=N (h:=N (h:=N (h:=N (h:=?_)))))))));refine GO ?_;intro w2 i;have o:=O (f.trans (i.mono f.size));clear i;go_wp2;go_ret;exact⟨rfl,o⟩
def DX(d:Dc)(j:Nat):Pr:=d.L ((AU d d.n).getD j 0)
def II(d:Dc):Nat:=(AU d d.n).length
theorem F6{d:Dc}{k:Nat}(hk:k<d.n)(h:(d.L k).turn≠0):DX d (AU d k).length=d.L k:=by
 unfold DX;obtain⟨r,a⟩:=ER (d:=d) (k:=k+1) (n:=d.n) (by omega);rw[Br h]at a;rw[<-a];simp[List.getD]
def TT(f:Nat->Pr)(j:Nat):Value:=((Eb (f (j/11)))[j%11]?).getD undef
theorem Xz(f:Nat->Pr)(k i:Nat)(hi:i<11):TT f (k*11+i)=((Eb (f k))[i]?).getD undef:=by
 unfold TT;rw[show(k*11+i)/11=k by omega,show(k*11+i)%11=i by omega]
theorem cX{w:Y}{b Z n:Nat}{g:Nat->Value}{f:Nat->Pr}(h:w.rowIs b 96 Z g)(hN:n*11<=Z)(hg:∀j,j<n*11->g j=TT f j){i:Nat}(hi:i<n):Hf w b (i*11) (f i):=by
 have e:∀j,j<11->w.cell? (G b (i*11+j))=some (((Eb (f i))[j]?).getD undef):=fun j hj=>by
  rw[h.cell (i:=i*11+j) (by omega),hg _ (by omega),Xz f i j hj]
 exact⟨e 0 (by omega),e 1 (by omega),e 2 (by omega),e 3 (by omega),e 4 (by omega),e 5 (by omega),e 6 (by omega),e 7 (by omega),e 8 (by omega),e 9 (by omega),e 10 (by omega)⟩
def Lj(f:Nat->Pr)(n:Nat)(w:Y)(v:V9)(lo hi:Nat):Prop:=
 (n=0/\v=N9)\/∃b a Z g,v=S9 b n a/\lo<=b/\b<hi/\w.rowIs b 96 Z g/\n*11<=Z/\∀j,j<n*11->g j=TT f j
theorem Lj.keep{f:Nat->Pr}{n:Nat}{w w':Y}{v:V9}{lo hi:Nat}(h:Lj f n w v lo hi)(hk:∀b,lo<=b->b<hi->w'.heap[b]?=w.heap[b]?):Lj f n w' v lo hi:=by
 rcases h with h|⟨b,a,Z,g,h1,h2,h3,h4,h5,c⟩
 ·exact .inl h
 ·exact .inr ⟨b,a,Z,g,h1,h2,h3,Re h4 (hk b h2 h3),h5,c⟩
theorem Lj.of{f:Nat->Pr}{n B:Nat}{w:Y}{v:V9}(h:Ci w B v n f):Lj f n w v B w.heap.size:=by
 have b:=h.lt;obtain⟨hl,⟨c,d⟩|⟨g',cap,cur,c,hb,a,h1,h2,h3,h4⟩⟩:=h
 ·exact .inl ⟨d,c⟩
 ·subst c;refine .inr ⟨g',cap,cap*11,fun j=>(cur[j]?).getD undef,rfl,hb,(b g' rfl).2,⟨cur,a,h3,fun i hi=>by simp[Aaw (show i<cur.size by omega)]⟩,by omega,fun j hj=>?_⟩;have h5:=Kq (f:=f) (n:=n) (i:=j/11) (j:=j%11) (by omega) (by omega);rw[show j/11*11+j%11=j by omega,<-h4,AaU,C3 hj,Array.getElem?_toList]at h5;show(cur[j]?).getD undef=_;rw[h5];rfl
theorem Lj.at{f:Nat->Pr}{n:Nat}{w:Y}{v:V9}{lo hi:Nat}(h:Lj f n w v lo hi):∃a c,v=.slice a n c/\O0 w a n f:=by
 rcases h with⟨d,rfl⟩|⟨b,c,Z,g,h1,h2,h3,h4,h5,e⟩
 ·subst d;exact⟨_,_,rfl,.inl rfl⟩
 ·exact⟨_,_,h1,.inr ⟨b,0,rfl,We h4,fun i hi=>by rw[Aaa];exact cX h4 h5 e hi⟩⟩
theorem Ki:(prog.info? 43).map (fun i=>(i.zero,i.size,i.bytes))=some (some (V 0 0 0 ⟨#[]⟩ 0),5,48):=by kernel_rfl
theorem MB:(prog.info? 103).map (fun i=>(i.zero,i.size,i.bytes))=some (some (.agg #[E9,J 0,J 0,J 0,J 0]),5,48):=by kernel_rfl
theorem UT:(prog.info? 94).map (fun i=>(i.zero,i.size,i.bytes))=some (some (.agg #[J 0,N9,N9,N9,N9,J 0,J 0,J 0]),8,128):=by kernel_rfl
theorem Y8{w w':Y}{b:Nat}(e:w'.heap[b]?=w.heap[b]?)(hl:b<w.heap.size):b<w'.heap.size:=by
 rcases Nat.lt_or_ge b w'.heap.size with h|h
 ·exact h
 ·rw[Array.getElem?_eq_none h,Aaw hl]at e;cases e
section
open Go.RowKit Go.Shelf
attribute [local go_sem] Oper.semAt_some
structure J5 (p n0:Nat) (A B:Y):Prop where
 size:A.heap.size<=B.heap.size
 block:∀b,b<n0->b≠p->B.heap[b]?=A.heap[b]?
theorem J5.refl(p n0:Nat)(A:Y):J5 p n0 A A:=⟨A0 _,fun _ _ _=>rfl⟩
theorem J5.trans{p n0:Nat}{A B C:Y}(h:J5 p n0 A B)(k:J5 p n0 B C):J5 p n0 A C:=⟨FZ h.size k.size,fun b h1 h2=>(k.block b h1 h2).trans (h.block b h1 h2)⟩
theorem J5.put{p n0:Nat}{w:Y}(hn:n0<=w.heap.size)(W:Y)(l:Nat)(o o':Obj)(hl:w.heap.size<=l)(h:W.heap[l]?=some o)(_:o.isCells=false)(_:o.isWalk=false):J5 p n0 W (W.putObj l o'):=by
 have hb:=(DD n0 W).grown (ID W l o') (by have:=(E1.1 h).1;omega) (fun k e=>by cases e;omega);exact⟨hb.size,fun b h1 _=>hb.block b h1⟩
theorem GH{A B:Y}{row:Option Nat}{b:Nat}{c:Array Value}{t:TypeId}{fz:Nat×Nat}{D:Nat}(h:A.heap[b]?=some (.cells c t fz))(hg:A.grownBy B row)(d:∀r,row=some r->D<=r/\∃o:Obj,A.heap[r]?=some o/\o.isCells=false):B.heap[b]?=A.heap[b]?:=
 hg.block b (E1.1 h).1 (fun e=>by
  obtain⟨_,o,a,hc⟩:=d b e.symm;rw[h]at a;cases a;cases hc)
theorem Iv{A B:Y}{row:Option Nat}{D base e size:Nat}{v:V9}{n:Nat}{xs:List Value}(h:A.ownsRow base e size v n xs)(hg:A.grownBy B row)(a:∀r,row=some r->D<=r/\∃o:Obj,A.heap[r]?=some o/\o.isCells=false):B.ownsRow base e size v n xs:=by
 obtain⟨hl,h|⟨g,cap,cur,h1,h2,h3,h4⟩⟩:=h
 ·exact⟨hl,.inl h⟩
 ·exact⟨hl,.inr ⟨g,cap,cur,h1,h2,(GH h3 hg a).trans h3,h4⟩⟩
section
variable {P:Program}
theorem CT(w:Y){l n':Nat}{o:Oper}{a:Act}{K:Act->World->Prop}{Q:Exit->Act->World->Prop}(s x:Operand)(t:TypeId)
  (D:o.op=.call {callee:=.builtin .append,args:=#[s,x],argTypes:=#[t,t]})
  (base:Nat) (e:TypeId) (i:TypeInfo) (Z:V9) (size bytes:Nat) (E:P.underlying t=some (.slice e)) (hi:P.info? e=some i) (hz:i.zero=some Z)
  (d:i.size=size) (q:i.bytes=bytes) (r:Z.cells.size=size) (A:0<size)
  (v:V9) (n:Nat) (xs:List Value) (hs:a.eval s=v) (p:w.ownsRow base e size v n xs)
  (B:Addr) (m c:Nat) (news:List Value) (hx:a.eval x=.slice (some B) m c) (hl:news.length=m*size) (f:∀j u,news[j]?=some u->w.cell? (B.add j)=some u) (h1:∀u∈news,u.oneCell'=true)
  (F:0<m) (C:n+m<=maxLen) (b:(n+m)*bytes<=140737488355328) (k:base<=w.heap.size) (H:Nat) (I:w.heap.size=H)
  (h:∀g cap w',w'.ownsRow base e size (S9 g (n+m) cap) (n+m) (xs++news)->w.grownBy w' v.ownBlock->(v.ownBlock=some g\/g=H)->g<w'.heap.size->K (a.put o.dst (S9 g (n+m) cap)) w'):o.wpIn (Fence.wide.inRound l) n' P a w K Q:=by
 obtain⟨g,cap,w',L,h2,h3,h4,h5⟩:=run_append_lies (P:=P) w t o.type base e i Z size bytes E hi hz d q r A v n xs p B m c news hl f h1 F C b k H I;refine⟨fun _ _=>trivial,?_⟩;show o.uponIn (Fence.wide.inRound l) n' P a K Q ((o.semAt (some l) a.eval).run P w);rw[Oper.semAt_some l _ _ (fun c e=>by rw[D]at e;cases e)];unfold execOp;simp only[D,resolve,invoke,builtin,AaA,Sem.run_pure,Result.andThen_ok,List.map_toArray,List.map_cons,List.map_nil,hs,hx,L];exact h g cap w' h2 h3 h4 h5
end
theorem IP(n:Nat)(hn:1<=n)(bk x X R2 B p n0:Nat)(E S:Nat->Nat)(d:Dc)(w:Y)(M:I0 w bk x X R2 E S d)(P:Small d)(Q:0<d.n->x<n0/\x≠p)(R:∀i,i<d.n->E i<n0/\E i≠p)
  (m0:w.cell? (G B 0)=some (Q9 bk)):
  SeqStopsK Fence.wide n prog 248 #[Q9 B] (fun a:He d=>#[Q9 (E a.1)]) (J5 p n0)
   (V6 d) (P3 d) d.n w:=fun l Z Jx W C hJ D T U=>by
 have lm:=Hi _ _ m0;have m0:=(C.cell (p:=(G B 0)) lm).trans m0;have c:=M.below C;obtain⟨a0,k0,c0,q⟩:=c.c0;have F:=O q;clear q;have lb:=c.lt;have ad:=P.n;have HY:=O T;have H0:=O U;have r:=O c;have V:=O R;clear D hJ T C U c M P R;refine callsIn_of_wp func248 rfl trivial ?_ rfl;simp only[ntmps248,Aas,Aad,UP,Nat.reduceAdd,Nat.reduceSub,Aag,Aaf,Aat,Aak,So,Aal]
 gi_wp2
 gi_loopw [10] (fun i wr=>∃(k:Nat) (pre:List (He d)),k<=d.n/\i=J (k:Int)/\G8 d k pre/\Z pre wr/\J5 p n0 W wr) (fun i _=>d.n-(intOf i).toNat)
 case atStart=>exact⟨0,[],by omega,rfl,rfl,H0,J5.refl _ _ _⟩
 case round=>
  obtain⟨k,pre,hk,rfl,f,g,j⟩:=hrel;by_cases b:k<d.n
  ·obtain rfl:=z F (by omega);have p0:=(As (a:=(G x k)) (j.block _ (Q (by omega)).1 (Q (by omega)).2)).trans (r.r0 k b);have t0:=(As (a:=(G (E k) 10)) (j.block _ (V k b).1 (V k b).2)).trans (r.Ca k b).tn;have m:=O f;have s:=O j;clear f j;by_cases o:(d.L k).turn=0
   ·have A:Hid (G8 d (k+1) pre):=O (by unfold G8;rw[Ct o];exact m);rw[o]at t0;clear o
    gi_wp2
    refine⟨fun _ h=>(by cases h),?_⟩
    gi_wp2
    go_roundw
    case rel=>exact⟨k+1,pre,by omega,by go_num,A,g,s⟩
    case measure=>simp[intOf];omega
   ·have ae:((d.L k).turn !=0)=true:=by simp[o]
    obtain⟨fn,tmps,assign,body,hy,t⟩:=z HY pre ⟨k,b,o⟩ wr g (by
     have h1:(pre.map (·.1)).length=(AU d k).length:=congrArg List.length m;rw[AaB]at h1;have:=Iq d k;omega)
    have A:Hid (G8 d (k+1) (pre++[⟨k,b,o⟩])):=O (by
     unfold G8;rw[Br o,Aac,show pre.map (·.1)=AU d k from z m];rfl)
    have H:=O t;clear t g;dsimp only at hy
    gi_wp2
    refine H.mono ?_;rintro e W3 (⟨rfl,I,K⟩|⟨rfl,u⟩)
    ·clear H hy
     gi_wp2
     go_roundw
     case rel=>exact⟨k+1,_,by omega,by go_num,A,I,s.trans K⟩
     case measure=>simp[intOf];omega
    ·clear H hy
     gi_wp2
     refine DO (results_none rfl _ _ _) rfl ?_;exact⟨⟨_,rfl⟩,.inr ⟨_,A.pre (by omega),u⟩⟩
  ·have v:k=d.n:=by omega
   subst v;have HS:=O f;clear f
   gi_wp2
   go_end0;exact⟨⟨_,rfl⟩,.inl ⟨pre,HS,g⟩⟩
end
section
open Go.RowKit Go.Shelf
attribute [local go_sem] Oper.semAt_some
def G9(d:Dc)(pre:List (He d))(j:Nat):Pr:=d.L ((pre.map (·.1)).getD j 0)
theorem Xx{f g:Nat->Pr}{n:Nat}(h:∀j,j<n->f j=g j):pL f n=pL g n:=by
 induction n with
 |zero=>rfl
 |succ n ih=>show pL f n++Eb (f n)=pL g n++Eb (g n);rw[ih (fun j hj=>h j (by omega)),h n (by omega)]
theorem Vo(d:Dc)(pre:List (He d))(x:He d):pL (G9 d pre) pre.length++Eb (d.L x.1)=pL (G9 d (pre++[x])) (pre.length+1):=by
 show _=pL (G9 d (pre++[x])) pre.length++Eb (G9 d (pre++[x]) pre.length);rw[Xx (f:=G9 d (pre++[x])) (g:=G9 d pre) (fun j hj=>by
  unfold G9;rw[Aac,Aab,Aab,PC (by simpa using hj)])]
 congr 2
 unfold G9;rw[Aac];simp[List.getD]
theorem XG{d:Dc}{pre:List (He d)}(h:pre.map (·.1)=AU d d.n):G9 d pre=DX d:=by
 funext j
 unfold G9 DX;rw[h]
def dX(w u:Y)(p n0:Nat)(d:Dc)(pre:List (He d))(W:Y):Prop:=
 ∃v,W.rowIs p 85 1 (fun _=>v)/\Ci W n0 v pre.length (G9 d pre)/\J5 p n0 u W/\B9 w W
theorem dX.own(w u:Y)(p n0 D:Nat)(d:Dc)(hn:n0<=D)(hu:n0<=u.heap.size)(f:w.heap.size<=D):OwnFrom D (dX w u p n0 d):=by
 rintro pre A B row ⟨v,h1,h2,h3,h4⟩ hg a;refine⟨v,?_,Iv h2 hg a,⟨FZ h3.size hg.size,fun b hb g=>?_⟩,h4.grown hg h4.size (fun k e=>FZ f (a k e).1)⟩
 ·obtain⟨c,hb,hc⟩:=h1;exact Re ⟨c,hb,hc⟩ (GH hb hg a)
 ·have hl:b<A.heap.size:=Be hb (FZ hu h3.size);exact(hg.block b hl (fun e=>by have:=(a b e.symm).1;omega)).trans (h3.block b hb g)
theorem EO{W w3:Y}{o:Obj}{row:Option Nat}(h:(W.drew.alloc o).grownBy w3 row):W.grownBy w3 row:=
 ⟨h.os,h.tape,h.output,by have:=h.size;simp at this;omega,fun b hb a=>(h.block b (by simp;omega) a).trans (Fs _ _ _ hb)⟩
end
structure Ac where
 op:Int
 t:Int
 site:Int
 n:Int
 k:Vl
 v:Vl
abbrev IC(a:Ac):Value:=.agg #[J a.op,J a.t,J a.site,J a.n,J a.k.kind,J a.k.num,F9 a.k.Ae,.string a.k.str,J a.k.ref,J a.v.kind,J a.v.num,F9 a.v.Ae,.string a.v.str,J a.v.ref]
def ED(v:Vl):Bool:=(v.kind==0)&&v.ok
def Av(a:Ac)(t s n k v:Bool):Bool:=(t||a.t==0)&&(s||a.site==0)&&(n||a.n==0)&&(k||ED a.k)&&(v||ED a.v)
def E8(a:Ac):Bool:=!decide (a.t<0)&&!decide (100<=a.t)&&!decide (a.site<0)&&!decide (50<=a.site)&&!decide (a.n<0)&&!decide (1000000000000<a.n)&&a.k.ok&&a.v.ok
def AY(a:Ac):Bool:=
 E8 a&&(if a.op=1 then Av a false false false false false
  else if a.op=2 then Av a true false false true true
  else if a.op=3 then Av a true false false true false
  else if a.op=4 then Av a true false true false false
  else if a.op=5 then Av a true false false false false
  else if a.op=6 then Av a true false false false false
  else if a.op=7 then Av a false false false true false&&a.k.kind==4
  else if a.op=8 then Av a true true false false false
  else if a.op=9 then Av a true true false false true
  else false)
theorem Bd(v:Vl)(w:Y):
  C9 152 #[V v.kind v.num v.Ae v.str v.ref] w (R9 (.bool (ED v)) w):=by
 by_cases h:v.kind=0
 ·have hk:(v.kind==0)=true:=by simp[h]
  have a:Hid (ED v=v.ok):=O (by unfold ED;rw[hk];rfl);clear h
  go_enter func152,ntmps152
  go_wp2_with (go_at_call 85;refine m9 (BF v.kind v.num v.Ae v.str v.ref _) fun w1 hb=>?_)
  go_ret;exact⟨by rw[z a];rfl,(n9).trans (hb.mono (by simp))⟩
 ·have hk:(v.kind==0)=false:=by simp[h]
  have a:Hid (ED v=false):=O (by unfold ED;rw[hk];rfl);clear h
  go_enter func152,ntmps152
  go_wp2;go_ret;exact⟨by rw[z a];rfl,n9⟩
theorem eH(a:Ac)(w:Y):
  C9 86 #[IC a,.bool false,.bool false,.bool false,.bool false,.bool false] w (R9 (.bool (Av a false false false false false)) w):=by
 have g:B9 w (w.alloc (.cells #[J a.op,J a.t,J a.site,J a.n,J a.k.kind,J a.k.num,F9 a.k.Ae,.string a.k.str,J a.k.ref,J a.v.kind,J a.v.num,F9 a.v.Ae,.string a.v.str,J a.v.ref] 51)):=n9;have b:=O g;clear g;cases t0:(a.t==0)
 case false=>
  have c:Hid (Av a false false false false false=false):=O (by unfold Av;simp[t0])
  go_enter func86,ntmps86
  go_wp2;go_ret;exact⟨by rw[z c];rfl,b⟩
 cases t1:(a.site==0)
 case false=>
  have c:Hid (Av a false false false false false=false):=O (by unfold Av;simp[t0,t1])
  go_enter func86,ntmps86
  go_wp2;go_ret;exact⟨by rw[z c];rfl,b⟩
 cases t2:(a.n==0)
 case false=>
  have c:Hid (Av a false false false false false=false):=O (by unfold Av;simp[t0,t1,t2])
  go_enter func86,ntmps86
  go_wp2;go_ret;exact⟨by rw[z c];rfl,b⟩
 cases t3:ED a.k
 case false=>
  have c:Hid (Av a false false false false false=false):=O (by unfold Av;simp[t0,t1,t2,t3])
  go_enter func86,ntmps86
  go_wp2_with fail
  refine(t3▸Bd a.k _).mono ?_;rintro e w3 ⟨rfl,hb⟩;obtain⟨h,i⟩:=AJ hb;have d:=hb.size;try simp at d
  have m:w.heap.size<w3.heap.size:=by omega
  have b:=O (b.trans (hb.mono b.size));clear hb;go_wp2_with fail
  go_ret;exact⟨by rw[z c];rfl,b⟩
 cases t4:ED a.v
 case false=>
  have c:Hid (Av a false false false false false=false):=O (by unfold Av;simp[t0,t1,t2,t3,t4])
  go_enter func86,ntmps86
  go_wp2_with fail
  refine(t3▸Bd a.k _).mono ?_;rintro e w3 ⟨rfl,hb⟩;obtain⟨h,i⟩:=AJ hb;have d:=hb.size;try simp at d
  have m:w.heap.size<w3.heap.size:=by omega
  have b:=O (b.trans (hb.mono b.size));clear hb;go_wp2_with fail
  refine(t4▸Bd a.v _).mono ?_;rintro e w4 ⟨rfl,hb⟩;obtain⟨j,l⟩:=AJ hb;have f:=hb.size;try simp at f
  have o:w.heap.size<w4.heap.size:=by omega
  have b:=O (b.trans (hb.mono b.size));clear hb;go_wp2_with fail
  go_ret;exact⟨by rw[z c];rfl,b⟩
 have c:Hid (Av a false false false false false=true):=O (by unfold Av;simp[t0,t1,t2,t3,t4])
 go_enter func86,ntmps86
 go_wp2_with fail
 refine(t3▸Bd a.k _).mono ?_;rintro e w3 ⟨rfl,hb⟩;obtain⟨h,i⟩:=AJ hb;have d:=hb.size;try simp at d
 have m:w.heap.size<w3.heap.size:=by omega
 have b:=O (b.trans (hb.mono b.size));clear hb;go_wp2_with fail
 refine(t4▸Bd a.v _).mono ?_;rintro e w4 ⟨rfl,hb⟩;obtain⟨j,l⟩:=AJ hb;have f:=hb.size;try simp at f
 have o:w.heap.size<w4.heap.size:=by omega
 have b:=O (b.trans (hb.mono b.size));clear hb;go_wp2_with fail
 go_ret;exact⟨by rw[z c];rfl,b⟩
theorem eJ(a:Ac)(w:Y):
  C9 86 #[IC a,.bool true,.bool false,.bool false,.bool true,.bool true] w (R9 (.bool (Av a true false false true true)) w):=by
 have b:B9 w (w.alloc (.cells #[J a.op,J a.t,J a.site,J a.n,J a.k.kind,J a.k.num,F9 a.k.Ae,.string a.k.str,J a.k.ref,J a.v.kind,J a.v.num,F9 a.v.Ae,.string a.v.str,J a.v.ref] 51)):=n9;have d:=O b;clear b;cases t1:(a.site==0)
 case false=>
  have c:Hid (Av a true false false true true=false):=O (by unfold Av;simp[t1])
  go_enter func86,ntmps86
  go_wp2;go_ret;exact⟨by rw[z c];rfl,d⟩
 cases t2:(a.n==0)
 case false=>
  have c:Hid (Av a true false false true true=false):=O (by unfold Av;simp[t1,t2])
  go_enter func86,ntmps86
  go_wp2;go_ret;exact⟨by rw[z c];rfl,d⟩
 have c:Hid (Av a true false false true true=true):=O (by unfold Av;simp[t1,t2])
 go_enter func86,ntmps86
 go_wp2;go_ret;exact⟨by rw[z c];rfl,d⟩
theorem eK(a:Ac)(w:Y):
  C9 86 #[IC a,.bool true,.bool false,.bool false,.bool true,.bool false] w (R9 (.bool (Av a true false false true false)) w):=by
 have f:B9 w (w.alloc (.cells #[J a.op,J a.t,J a.site,J a.n,J a.k.kind,J a.k.num,F9 a.k.Ae,.string a.k.str,J a.k.ref,J a.v.kind,J a.v.num,F9 a.v.Ae,.string a.v.str,J a.v.ref] 51)):=n9;have b:=O f;clear f;cases t1:(a.site==0)
 case false=>
  have c:Hid (Av a true false false true false=false):=O (by unfold Av;simp[t1])
  go_enter func86,ntmps86
  go_wp2;go_ret;exact⟨by rw[z c];rfl,b⟩
 cases t2:(a.n==0)
 case false=>
  have c:Hid (Av a true false false true false=false):=O (by unfold Av;simp[t1,t2])
  go_enter func86,ntmps86
  go_wp2;go_ret;exact⟨by rw[z c];rfl,b⟩
 cases t4:ED a.v
 case false=>
  have c:Hid (Av a true false false true false=false):=O (by unfold Av;simp[t1,t2,t4])
  go_enter func86,ntmps86
  go_wp2_with fail
  refine(t4▸Bd a.v _).mono ?_;rintro e w4 ⟨rfl,hb⟩;obtain⟨g,h⟩:=AJ hb;have d:=hb.size;try simp at d
  have i:w.heap.size<w4.heap.size:=by omega
  have b:=O (b.trans (hb.mono b.size));clear hb;go_wp2_with fail
  go_ret;exact⟨by rw[z c];rfl,b⟩
 have c:Hid (Av a true false false true false=true):=O (by unfold Av;simp[t1,t2,t4])
 go_enter func86,ntmps86
 go_wp2_with fail
 refine(t4▸Bd a.v _).mono ?_;rintro e w4 ⟨rfl,hb⟩;obtain⟨g,h⟩:=AJ hb;have d:=hb.size;try simp at d
 have i:w.heap.size<w4.heap.size:=by omega
 have b:=O (b.trans (hb.mono b.size));clear hb;go_wp2_with fail
 go_ret;exact⟨by rw[z c];rfl,b⟩
theorem eL(a:Ac)(w:Y):
  C9 86 #[IC a,.bool true,.bool false,.bool true,.bool false,.bool false] w (R9 (.bool (Av a true false true false false)) w):=by
 have g:B9 w (w.alloc (.cells #[J a.op,J a.t,J a.site,J a.n,J a.k.kind,J a.k.num,F9 a.k.Ae,.string a.k.str,J a.k.ref,J a.v.kind,J a.v.num,F9 a.v.Ae,.string a.v.str,J a.v.ref] 51)):=n9;have b:=O g;clear g;cases t1:(a.site==0)
 case false=>
  have d:Hid (Av a true false true false false=false):=O (by unfold Av;simp[t1])
  go_enter func86,ntmps86
  go_wp2;go_ret;exact⟨by rw[z d];rfl,b⟩
 cases t3:ED a.k
 case false=>
  have d:Hid (Av a true false true false false=false):=O (by unfold Av;simp[t1,t3])
  go_enter func86,ntmps86
  go_wp2_with fail
  refine(t3▸Bd a.k _).mono ?_;rintro e w3 ⟨rfl,hb⟩;obtain⟨h,i⟩:=AJ hb;have c:=hb.size;try simp at c
  have m:w.heap.size<w3.heap.size:=by omega
  have b:=O (b.trans (hb.mono b.size));clear hb;go_wp2_with fail
  go_ret;exact⟨by rw[z d];rfl,b⟩
 cases t4:ED a.v
 case false=>
  have d:Hid (Av a true false true false false=false):=O (by unfold Av;simp[t1,t3,t4])
  go_enter func86,ntmps86
  go_wp2_with fail
  refine(t3▸Bd a.k _).mono ?_;rintro e w3 ⟨rfl,hb⟩;obtain⟨h,i⟩:=AJ hb;have c:=hb.size;try simp at c
  have m:w.heap.size<w3.heap.size:=by omega
  have b:=O (b.trans (hb.mono b.size));clear hb;go_wp2_with fail
  refine(t4▸Bd a.v _).mono ?_;rintro e w4 ⟨rfl,hb⟩;obtain⟨j,l⟩:=AJ hb;have f:=hb.size;try simp at f
  have o:w.heap.size<w4.heap.size:=by omega
  have b:=O (b.trans (hb.mono b.size));clear hb;go_wp2_with fail
  go_ret;exact⟨by rw[z d];rfl,b⟩
 have d:Hid (Av a true false true false false=true):=O (by unfold Av;simp[t1,t3,t4])
 go_enter func86,ntmps86
 go_wp2_with fail
 refine(t3▸Bd a.k _).mono ?_;rintro e w3 ⟨rfl,hb⟩;obtain⟨h,i⟩:=AJ hb;have c:=hb.size;try simp at c
 have m:w.heap.size<w3.heap.size:=by omega
 have b:=O (b.trans (hb.mono b.size));clear hb;go_wp2_with fail
 refine(t4▸Bd a.v _).mono ?_;rintro e w4 ⟨rfl,hb⟩;obtain⟨j,l⟩:=AJ hb;have f:=hb.size;try simp at f
 have o:w.heap.size<w4.heap.size:=by omega
 have b:=O (b.trans (hb.mono b.size));clear hb;go_wp2_with fail
 go_ret;exact⟨by rw[z d];rfl,b⟩
theorem aD(a:Ac)(w:Y):
  C9 86 #[IC a,.bool true,.bool false,.bool false,.bool false,.bool false] w (R9 (.bool (Av a true false false false false)) w):=by
 have g:B9 w (w.alloc (.cells #[J a.op,J a.t,J a.site,J a.n,J a.k.kind,J a.k.num,F9 a.k.Ae,.string a.k.str,J a.k.ref,J a.v.kind,J a.v.num,F9 a.v.Ae,.string a.v.str,J a.v.ref] 51)):=n9;have b:=O g;clear g;cases t1:(a.site==0)
 case false=>
  have d:Hid (Av a true false false false false=false):=O (by unfold Av;simp[t1])
  go_enter func86,ntmps86
  go_wp2;go_ret;exact⟨by rw[z d];rfl,b⟩
 cases t2:(a.n==0)
 case false=>
  have d:Hid (Av a true false false false false=false):=O (by unfold Av;simp[t1,t2])
  go_enter func86,ntmps86
  go_wp2;go_ret;exact⟨by rw[z d];rfl,b⟩
 cases t3:ED a.k
 case false=>
  have d:Hid (Av a true false false false false=false):=O (by unfold Av;simp[t1,t2,t3])
  go_enter func86,ntmps86
  go_wp2_with fail
  refine(t3▸Bd a.k _).mono ?_;rintro e w3 ⟨rfl,hb⟩;obtain⟨h,i⟩:=AJ hb;have c:=hb.size;try simp at c
  have m:w.heap.size<w3.heap.size:=by omega
  have b:=O (b.trans (hb.mono b.size));clear hb;go_wp2_with fail
  go_ret;exact⟨by rw[z d];rfl,b⟩
 cases t4:ED a.v
 case false=>
  have d:Hid (Av a true false false false false=false):=O (by unfold Av;simp[t1,t2,t3,t4])
  go_enter func86,ntmps86
  go_wp2_with fail
  refine(t3▸Bd a.k _).mono ?_;rintro e w3 ⟨rfl,hb⟩;obtain⟨h,i⟩:=AJ hb;have c:=hb.size;try simp at c
  have m:w.heap.size<w3.heap.size:=by omega
  have b:=O (b.trans (hb.mono b.size));clear hb;go_wp2_with fail
  refine(t4▸Bd a.v _).mono ?_;rintro e w4 ⟨rfl,hb⟩;obtain⟨j,l⟩:=AJ hb;have f:=hb.size;try simp at f
  have o:w.heap.size<w4.heap.size:=by omega
  have b:=O (b.trans (hb.mono b.size));clear hb;go_wp2_with fail
  go_ret;exact⟨by rw[z d];rfl,b⟩
 have d:Hid (Av a true false false false false=true):=O (by unfold Av;simp[t1,t2,t3,t4])
 go_enter func86,ntmps86
 go_wp2_with fail
 refine(t3▸Bd a.k _).mono ?_;rintro e w3 ⟨rfl,hb⟩;obtain⟨h,i⟩:=AJ hb;have c:=hb.size;try simp at c
 have m:w.heap.size<w3.heap.size:=by omega
 have b:=O (b.trans (hb.mono b.size));clear hb;go_wp2_with fail
 refine(t4▸Bd a.v _).mono ?_;rintro e w4 ⟨rfl,hb⟩;obtain⟨j,l⟩:=AJ hb;have f:=hb.size;try simp at f
 have o:w.heap.size<w4.heap.size:=by omega
 have b:=O (b.trans (hb.mono b.size));clear hb;go_wp2_with fail
 go_ret;exact⟨by rw[z d];rfl,b⟩
theorem aE(a:Ac)(w:Y):
  C9 86 #[IC a,.bool false,.bool false,.bool false,.bool true,.bool false] w (R9 (.bool (Av a false false false true false)) w):=by
 have f:B9 w (w.alloc (.cells #[J a.op,J a.t,J a.site,J a.n,J a.k.kind,J a.k.num,F9 a.k.Ae,.string a.k.str,J a.k.ref,J a.v.kind,J a.v.num,F9 a.v.Ae,.string a.v.str,J a.v.ref] 51)):=n9;have b:=O f;clear f;cases t0:(a.t==0)
 case false=>
  have c:Hid (Av a false false false true false=false):=O (by unfold Av;simp[t0])
  go_enter func86,ntmps86
  go_wp2;go_ret;exact⟨by rw[z c];rfl,b⟩
 cases t1:(a.site==0)
 case false=>
  have c:Hid (Av a false false false true false=false):=O (by unfold Av;simp[t0,t1])
  go_enter func86,ntmps86
  go_wp2;go_ret;exact⟨by rw[z c];rfl,b⟩
 cases t2:(a.n==0)
 case false=>
  have c:Hid (Av a false false false true false=false):=O (by unfold Av;simp[t0,t1,t2])
  go_enter func86,ntmps86
  go_wp2;go_ret;exact⟨by rw[z c];rfl,b⟩
 cases t4:ED a.v
 case false=>
  have c:Hid (Av a false false false true false=false):=O (by unfold Av;simp[t0,t1,t2,t4])
  go_enter func86,ntmps86
  go_wp2_with fail
  refine(t4▸Bd a.v _).mono ?_;rintro e w4 ⟨rfl,hb⟩;obtain⟨g,h⟩:=AJ hb;have d:=hb.size;try simp at d
  have i:w.heap.size<w4.heap.size:=by omega
  have b:=O (b.trans (hb.mono b.size));clear hb;go_wp2_with fail
  go_ret;exact⟨by rw[z c];rfl,b⟩
 have c:Hid (Av a false false false true false=true):=O (by unfold Av;simp[t0,t1,t2,t4])
 go_enter func86,ntmps86
 go_wp2_with fail
 refine(t4▸Bd a.v _).mono ?_;rintro e w4 ⟨rfl,hb⟩;obtain⟨g,h⟩:=AJ hb;have d:=hb.size;try simp at d
 have i:w.heap.size<w4.heap.size:=by omega
 have b:=O (b.trans (hb.mono b.size));clear hb;go_wp2_with fail
 go_ret;exact⟨by rw[z c];rfl,b⟩
theorem eM(a:Ac)(w:Y):
  C9 86 #[IC a,.bool true,.bool true,.bool false,.bool false,.bool false] w (R9 (.bool (Av a true true false false false)) w):=by
 have g:B9 w (w.alloc (.cells #[J a.op,J a.t,J a.site,J a.n,J a.k.kind,J a.k.num,F9 a.k.Ae,.string a.k.str,J a.k.ref,J a.v.kind,J a.v.num,F9 a.v.Ae,.string a.v.str,J a.v.ref] 51)):=n9;have b:=O g;clear g;cases t2:(a.n==0)
 case false=>
  have d:Hid (Av a true true false false false=false):=O (by unfold Av;simp[t2])
  go_enter func86,ntmps86
  go_wp2;go_ret;exact⟨by rw[z d];rfl,b⟩
 cases t3:ED a.k
 case false=>
  have d:Hid (Av a true true false false false=false):=O (by unfold Av;simp[t2,t3])
  go_enter func86,ntmps86
  go_wp2_with fail
  refine(t3▸Bd a.k _).mono ?_;rintro e w3 ⟨rfl,hb⟩;obtain⟨h,i⟩:=AJ hb;have c:=hb.size;try simp at c
  have m:w.heap.size<w3.heap.size:=by omega
  have b:=O (b.trans (hb.mono b.size));clear hb;go_wp2_with fail
  go_ret;exact⟨by rw[z d];rfl,b⟩
 cases t4:ED a.v
 case false=>
  have d:Hid (Av a true true false false false=false):=O (by unfold Av;simp[t2,t3,t4])
  go_enter func86,ntmps86
  go_wp2_with fail
  refine(t3▸Bd a.k _).mono ?_;rintro e w3 ⟨rfl,hb⟩;obtain⟨h,i⟩:=AJ hb;have c:=hb.size;try simp at c
  have m:w.heap.size<w3.heap.size:=by omega
  have b:=O (b.trans (hb.mono b.size));clear hb;go_wp2_with fail
  refine(t4▸Bd a.v _).mono ?_;rintro e w4 ⟨rfl,hb⟩;obtain⟨j,l⟩:=AJ hb;have f:=hb.size;try simp at f
  have o:w.heap.size<w4.heap.size:=by omega
  have b:=O (b.trans (hb.mono b.size));clear hb;go_wp2_with fail
  go_ret;exact⟨by rw[z d];rfl,b⟩
 have d:Hid (Av a true true false false false=true):=O (by unfold Av;simp[t2,t3,t4])
 go_enter func86,ntmps86
 go_wp2_with fail
 refine(t3▸Bd a.k _).mono ?_;rintro e w3 ⟨rfl,hb⟩;obtain⟨h,i⟩:=AJ hb;have c:=hb.size;try simp at c
 have m:w.heap.size<w3.heap.size:=by omega
 have b:=O (b.trans (hb.mono b.size));clear hb;go_wp2_with fail
 refine(t4▸Bd a.v _).mono ?_;rintro e w4 ⟨rfl,hb⟩;obtain⟨j,l⟩:=AJ hb;have f:=hb.size;try simp at f
 have o:w.heap.size<w4.heap.size:=by omega
 have b:=O (b.trans (hb.mono b.size));clear hb;go_wp2_with fail
 go_ret;exact⟨by rw[z d];rfl,b⟩
theorem bare9(a:Ac)(w:Y):
  C9 86 #[IC a,.bool true,.bool true,.bool false,.bool false,.bool true] w (R9 (.bool (Av a true true false false true)) w):=by
 have d:B9 w (w.alloc (.cells #[J a.op,J a.t,J a.site,J a.n,J a.k.kind,J a.k.num,F9 a.k.Ae,.string a.k.str,J a.k.ref,J a.v.kind,J a.v.num,F9 a.v.Ae,.string a.v.str,J a.v.ref] 51)):=n9;have b:=O d;clear d;cases t2:(a.n==0)
 case false=>
  have f:Hid (Av a true true false false true=false):=O (by unfold Av;simp[t2])
  go_enter func86,ntmps86
  go_wp2;go_ret;exact⟨by rw[z f];rfl,b⟩
 cases t3:ED a.k
 case false=>
  have f:Hid (Av a true true false false true=false):=O (by unfold Av;simp[t2,t3])
  go_enter func86,ntmps86
  go_wp2_with fail
  refine(t3▸Bd a.k _).mono ?_;rintro e w3 ⟨rfl,hb⟩;obtain⟨g,h⟩:=AJ hb;have c:=hb.size;try simp at c
  have i:w.heap.size<w3.heap.size:=by omega
  have b:=O (b.trans (hb.mono b.size));clear hb;go_wp2_with fail
  go_ret;exact⟨by rw[z f];rfl,b⟩
 have f:Hid (Av a true true false false true=true):=O (by unfold Av;simp[t2,t3])
 go_enter func86,ntmps86
 go_wp2_with fail
 refine(t3▸Bd a.k _).mono ?_;rintro e w3 ⟨rfl,hb⟩;obtain⟨g,h⟩:=AJ hb;have c:=hb.size;try simp at c
 have i:w.heap.size<w3.heap.size:=by omega
 have b:=O (b.trans (hb.mono b.size));clear hb;go_wp2_with fail
 go_ret;exact⟨by rw[z f];rfl,b⟩
def jE(op:Int):Int:=if op=2 then 25 else if op=3 then 9 else if op=4 then 5 else if op=5 then 1 else if op=6 then 1 else if op=7 then 8 else if op=8 then 3 else if op=9 then 19 else 0
def CM(n a nm:Int):Bool:=decide (0<=n)&&decide (n<if nm=0 then 1 else a)
def DY(v:Vl)(nm:Int):Bool:=v.ok&&(nm !=0||v.kind==0)
abbrev bt(op m:Int):Int:=bits .and .i64 (jE op) m
def C8(a:Ac):Bool:=CM a.t 100 (bt a.op 1)&&CM a.site 50 (bt a.op 2)&&CM a.n 1000000000001 (bt a.op 4)&&DY a.k (bt a.op 8)&&DY a.v (bt a.op 16)&&(a.op !=7||a.k.kind==4)
theorem gZ:bt 1 1=0/\bt 1 2=0/\bt 1 4=0/\bt 1 8=0/\bt 1 16=0:=by decide
theorem iA:bt 2 1=1/\bt 2 2=0/\bt 2 4=0/\bt 2 8=8/\bt 2 16=16:=by decide
theorem iB:bt 3 1=1/\bt 3 2=0/\bt 3 4=0/\bt 3 8=8/\bt 3 16=0:=by decide
theorem iC:bt 4 1=1/\bt 4 2=0/\bt 4 4=4/\bt 4 8=0/\bt 4 16=0:=by decide
theorem iD:bt 5 1=1/\bt 5 2=0/\bt 5 4=0/\bt 5 8=0/\bt 5 16=0:=by decide
theorem iE:bt 6 1=1/\bt 6 2=0/\bt 6 4=0/\bt 6 8=0/\bt 6 16=0:=by decide
theorem iF:bt 7 1=0/\bt 7 2=0/\bt 7 4=0/\bt 7 8=8/\bt 7 16=0:=by decide
theorem iG:bt 8 1=1/\bt 8 2=2/\bt 8 4=0/\bt 8 8=0/\bt 8 16=0:=by decide
theorem iH:bt 9 1=1/\bt 9 2=2/\bt 9 4=0/\bt 9 8=0/\bt 9 16=16:=by decide
theorem bX(t s n:Int)(k v:Vl):C8 ⟨1,t,s,n,k,v⟩=AY ⟨1,t,s,n,k,v⟩:=by
 obtain⟨e1,e2,e3,a,b⟩:=gZ;unfold C8 AY E8 Av CM DY ED;simp only[e1,e2,e3,a,b];cases hk:k.ok<;>cases c:v.ok<;>simp
 rw[AaD];simp;omega
theorem bY(t s n:Int)(k v:Vl):C8 ⟨2,t,s,n,k,v⟩=AY ⟨2,t,s,n,k,v⟩:=by
 obtain⟨e1,e2,e3,a,b⟩:=iA;unfold C8 AY E8 Av CM DY ED;simp only[e1,e2,e3,a,b];cases hk:k.ok<;>cases c:v.ok<;>simp
 rw[AaD];simp;omega
theorem bZ(t s n:Int)(k v:Vl):C8 ⟨3,t,s,n,k,v⟩=AY ⟨3,t,s,n,k,v⟩:=by
 obtain⟨e1,e2,e3,a,b⟩:=iB;unfold C8 AY E8 Av CM DY ED;simp only[e1,e2,e3,a,b];cases hk:k.ok<;>cases c:v.ok<;>simp
 rw[AaD];simp;omega
theorem cA(t s n:Int)(k v:Vl):C8 ⟨4,t,s,n,k,v⟩=AY ⟨4,t,s,n,k,v⟩:=by
 obtain⟨e1,e2,e3,a,b⟩:=iC;unfold C8 AY E8 Av CM DY ED;simp only[e1,e2,e3,a,b];cases hk:k.ok<;>cases c:v.ok<;>simp
 rw[AaD];simp;omega
theorem cB(t s n:Int)(k v:Vl):C8 ⟨5,t,s,n,k,v⟩=AY ⟨5,t,s,n,k,v⟩:=by
 obtain⟨e1,e2,e3,a,b⟩:=iD;unfold C8 AY E8 Av CM DY ED;simp only[e1,e2,e3,a,b];cases hk:k.ok<;>cases c:v.ok<;>simp
 rw[AaD];simp;omega
theorem cC(t s n:Int)(k v:Vl):C8 ⟨6,t,s,n,k,v⟩=AY ⟨6,t,s,n,k,v⟩:=by
 obtain⟨e1,e2,e3,a,b⟩:=iE;unfold C8 AY E8 Av CM DY ED;simp only[e1,e2,e3,a,b];cases hk:k.ok<;>cases c:v.ok<;>simp
 rw[AaD];simp;omega
theorem cD(t s n:Int)(k v:Vl):C8 ⟨7,t,s,n,k,v⟩=AY ⟨7,t,s,n,k,v⟩:=by
 obtain⟨e1,e2,e3,a,b⟩:=iF;unfold C8 AY E8 Av CM DY ED;simp only[e1,e2,e3,a,b];cases hk:k.ok<;>cases c:v.ok<;>simp
 rw[AaD];simp;omega
theorem cE(t s n:Int)(k v:Vl):C8 ⟨8,t,s,n,k,v⟩=AY ⟨8,t,s,n,k,v⟩:=by
 obtain⟨e1,e2,e3,a,b⟩:=iG;unfold C8 AY E8 Av CM DY ED;simp only[e1,e2,e3,a,b];cases hk:k.ok<;>cases c:v.ok<;>simp
 rw[AaD];simp;omega
theorem cF(t s n:Int)(k v:Vl):C8 ⟨9,t,s,n,k,v⟩=AY ⟨9,t,s,n,k,v⟩:=by
 obtain⟨e1,e2,e3,a,b⟩:=iH;unfold C8 AY E8 Av CM DY ED;simp only[e1,e2,e3,a,b];cases hk:k.ok<;>cases c:v.ok<;>simp
 rw[AaD];simp;omega
theorem W6(a:Ac)(h1:1<=a.op)(b:a.op<=9):C8 a=AY a:=by
 obtain⟨op,t,s,n,k,v⟩:=a;have h1:1<=op:=h1;have b:op<=9:=b;rcases(by omega:op=1\/op=2\/op=3\/op=4\/op=5\/op=6\/op=7\/op=8\/op=9)with rfl|rfl|rfl|rfl|rfl|rfl|rfl|rfl|rfl
 ·exact bX t s n k v
 ·exact bY t s n k v
 ·exact bZ t s n k v
 ·exact cA t s n k v
 ·exact cB t s n k v
 ·exact cC t s n k v
 ·exact cD t s n k v
 ·exact cE t s n k v
 ·exact cF t s n k v
def jX(a b:Nat):Bool:=O9 a b==some .eq
def cL(a b:Vl):Bool:=a.kind==b.kind&&(a.num==b.num&&(jX a.Ae b.Ae&&(a.str.toList==b.str.toList&&a.ref==b.ref)))
def AM{α:Type}(f:Nat->α)(i:Nat)(a:α):Nat->α:=fun j=>if j=i then a else f j
theorem Ah{α:Type}(f:Nat->α)(i:Nat)(a:α):AM f i a i=a:=by simp[AM]
theorem Ag{α:Type}(f:Nat->α){i j:Nat}(a:α)(h:j≠i):AM f i a j=f j:=by simp[AM,h]
def N4(p:Nat->Bool):Nat->Nat->Int
 |0,_=>-1
 |k+1,i=>if p i then(i:Int)else N4 p k (i+1)
abbrev Te(p:Nat->Bool)(n:Nat):Int:=N4 p n 0
theorem Th{p:Nat->Bool}{n i:Nat}(h:i<n)(a:p i=true):N4 p (n-i) i=i:=by
 obtain⟨k,hk⟩:∃k,n-i=k+1:=⟨n-i-1,by omega⟩;rw[hk,N4,C3 a]
theorem Mi{p:Nat->Bool}{n i:Nat}(h:i<n)(a:p i=false):N4 p (n-i) i=N4 p (n-(i+1)) (i+1):=by
 obtain⟨k,hk⟩:∃k,n-i=k+1:=⟨n-i-1,by omega⟩;rw[hk,N4,Cs (by rw[a];simp),show n-(i+1)=k by omega]
theorem Tg{p:Nat->Bool}{n i:Nat}(h:¬i<n):N4 p (n-i) i=-1:=by
 rw[show n-i=0 by omega,N4]
theorem atF_rng(p:Nat->Bool):∀k i,N4 p k i=-1\/∃j:Nat,N4 p k i=(j:Int)/\i<=j/\j<i+k/\p j=true/\∀q,i<=q->q<j->p q=false
 |0,i=>.inl rfl
 |k+1,i=>by
  rw[N4];cases a:p i
  ·rw[Cs (by simp)];rcases atF_rng p k (i+1)with h|⟨j,h1,h2,h3,h4,h5⟩
   ·exact .inl h
   ·refine .inr ⟨j,h1,by omega,by omega,h4,fun q c b=>?_⟩;rcases(by omega:q=i\/i+1<=q)with rfl|h
    ·exact a
    ·exact h5 q h b
  ·rw[C3 rfl];exact .inr ⟨i,rfl,A0 _,by omega,a,fun q h1 h2=>by omega⟩
theorem FT(p:Nat->Bool)(n:Nat):Te p n=-1\/∃j:Nat,Te p n=(j:Int)/\j<n/\p j=true:=by
 rcases atF_rng p n 0 with h|⟨j,h1,h2,h3,h4,h5⟩
 ·exact .inl h
 ·exact .inr ⟨j,h1,by omega,h4⟩
theorem Fq{p:Nat->Bool}:∀{k i},N4 p k i=-1->∀j,i<=j->j<i+k->p j=false
 |0,i,h,j,h1,h2=>by omega
 |k+1,i,h,j,h1,h2=>by
  rw[N4]at h;cases a:p i
  ·rw[Cs (by rw[a];simp)]at h;rcases(by omega:j=i\/i+1<=j)with rfl|h3
   ·exact a
   ·exact Fq h j h3 (by omega)
  ·rw[C3 a]at h;omega
structure Pl where
 n:Nat
 P:Nat->Pr
 turns:Int
instance:Inhabited Pl:=⟨⟨0,fun _=>default,0⟩⟩
structure Ds where
 nt:Nat
 T:Nat->Pl
 ns:Nat
 S:Nat->ByteArray
structure An where
 code:Int
 num:Int
 key:Vl
 val:Vl
instance:Inhabited An:=⟨⟨0,0,default,default⟩⟩
abbrev nov:Vl:=⟨0,0,0,⟨#[]⟩,0⟩
abbrev DS(a:An):Value:=.agg #[J a.code,J a.num,J a.key.kind,J a.key.num,F9 a.key.Ae,.string a.key.str,J a.key.ref,J a.val.kind,J a.val.num,F9 a.val.Ae,.string a.val.str,J a.val.ref]
def EX(a:An):List Value:=[J a.code,J a.num,J a.key.kind,J a.key.num,F9 a.key.Ae,.string a.key.str,J a.key.ref,J a.val.kind,J a.val.num,F9 a.val.Ae,.string a.val.str,J a.val.ref]
def AO(c:Int):An:=⟨c,0,nov,nov⟩
def B5(n:Int):An:=⟨0,n,nov,nov⟩
def CL(v:Vl):An:=⟨0,0,nov,v⟩
def Cj(v:Vl):Int:=if v.ok=true then(if v.kind=0 then 1 else if v.kind=3 then(if Ea v.Ae=true then 1 else 0)else 0)else 2
def Bw(v:Vl):Vl:=if v.ok=true then(if v.kind=0 then nov else if v.kind=3 then(if Ea v.Ae=true then nov else if B2 v.Ae=true then⟨2,Lm v.Ae,0,⟨#[]⟩,0⟩else v)else v)else nov
theorem BI(v:Vl):JD v.kind v.num v.Ae v.str v.ref=KV (Cj v) (Bw v).kind (Bw v).num (Bw v).Ae (Bw v).str (Bw v).ref:=by
 unfold JD Cj Bw;show(if v.ok=true then _ else _)=_
 split
 ·split
  ·rfl
  ·split
   ·split
    ·rfl
    ·split<;>rfl
   ·rfl
 ·rfl
def A7(s:ByteArray):Vl:=⟨4,0,0,s,0⟩
def Pl.at(t:Pl)(k:Vl):Int:=Te (fun j=>cL (t.P j).key k) t.n
def Pl.get(t:Pl)(k:Vl):Vl:=if t.at k<0 then nov else(t.P (t.at k).toNat).val
def Pl.EE(t:Pl)(i:Nat)(v:Vl):Pl:={t with P:=AM t.P i ⟨(t.P i).key,v,(t.P i).turn⟩}
def Pl.del(t:Pl)(i:Nat):Pl:={t with n:=t.n-1,P:=fun j=>if j<i then t.P j else t.P (j+1)}
def Pl.add(t:Pl)(k v:Vl):Pl:=⟨t.n+1,AM t.P t.n ⟨k,v,t.turns+1⟩,t.turns+1⟩
def Pl.full(t:Pl):Bool:=t.n==500||t.turns==1000000000000
def Pl.put(t:Pl)(k v:Vl):Pl:=
 if 0<=t.at k then(if v.kind=0 then t.del (t.at k).toNat else t.EE (t.at k).toNat v)
 else if v.kind=0 then t else if t.full then t else t.add k v
def Pl.code(t:Pl)(k v:Vl):Int:=if 0<=t.at k then 0 else if v.kind=0 then 0 else if t.full then 5 else 0
def Pl.nextI(t:Pl)(n:Int):Int:=Te (fun j=>decide (n<(t.P j).turn)) t.n
def Pl.next(t:Pl)(n:Int):Pr:=if t.nextI n<0 then⟨nov,nov,0⟩else t.P (t.nextI n).toNat
def Pl.has(t:Pl)(m:Int):Bool:=decide (0<=Te (fun j=>(t.P j).key.kind==2&&(t.P j).key.num==m) t.n)
def Se(t:Pl):Nat->Nat->Nat
 |0,m=>m
 |k+1,m=>if t.has ((m:Int)+1)then Se t k (m+1)else m
def Pl.len(t:Pl):Nat:=Se t (t.n+1) 0
structure Pl.Good (t:Pl):Prop where
 n:t.n<=500
 lo:0<=t.turns
 hi:t.turns<=1000000000000
 keys:∀i,i<t.n->(t.P i).key.ok=true
structure Ds.Good (D:Ds):Prop where
 nt:D.nt<=100
 ns:D.ns<=50
 t:∀i,i<D.nt->(D.T i).Good
 s:∀i,i<D.ns->(D.S i).size<=4000
def B7(op:Int):Bool:=op !=1&&op !=7
def Cp(op:Int):Bool:=op==8||op==9
def FL(a:Ac)(nt ns:Nat):Int:=
 if AY a=false then 1 else if B7 a.op=true/\(nt:Int)<=a.t then 2 else if Cp a.op=true/\(ns:Int)<=a.site then 3
 else if(a.op=2\/a.op=3)/\Cj a.k≠0 then 4 else 0
def Ds.Gt(D:Ds)(t:Nat)(k v:Vl):Ds:={D with T:=AM D.T t ((D.T t).put k v)}
def Ds.FB(D:Ds)(a:Ac):Ds:=
 if a.op=1 then(if D.nt=100 then D else{D with nt:=D.nt+1,T:=AM D.T D.nt ⟨0,fun _=>default,0⟩})
 else if a.op=7 then(if D.ns=50 then D else{D with ns:=D.ns+1,S:=AM D.S D.ns a.k.str})
 else if a.op=2 then D.Gt a.t.toNat (Bw a.k) a.v
 else if a.op=9 then D.Gt a.t.toNat (A7 (D.S a.site.toNat)) a.v
 else D
def Ds.Hh(D:Ds)(a:Ac):An:=
 if a.op=1 then(if D.nt=100 then AO 5 else B5 D.nt)
 else if a.op=7 then(if D.ns=50 then AO 5 else B5 D.ns)
 else if a.op=2 then AO ((D.T a.t.toNat).code (Bw a.k) a.v)
 else if a.op=9 then AO ((D.T a.t.toNat).code (A7 (D.S a.site.toNat)) a.v)
 else if a.op=3 then CL ((D.T a.t.toNat).get (Bw a.k))
 else if a.op=8 then CL ((D.T a.t.toNat).get (A7 (D.S a.site.toNat)))
 else if a.op=4 then⟨0,((D.T a.t.toNat).next a.n).turn,((D.T a.t.toNat).next a.n).key,((D.T a.t.toNat).next a.n).val⟩
 else if a.op=6 then B5 (D.T a.t.toNat).n
 else B5 (D.T a.t.toNat).len
def Ds.step(D:Ds)(a:Ac):Ds:=if FL a D.nt D.ns=0 then D.FB a else D
def Ds.I6(D:Ds)(a:Ac):An:=if FL a D.nt D.ns=0 then D.Hh a else AO (FL a D.nt D.ns)
theorem Pl.RF(t:Pl)(k:Vl):t.at k=-1\/∃j:Nat,t.at k=(j:Int)/\j<t.n:=by
 rcases FT (fun j=>cL (t.P j).key k) t.n with h|⟨j,h1,h2,_⟩
 ·exact .inl h
 ·exact .inr ⟨j,h1,h2⟩
theorem Pl.Good.put{t:Pl}(h:t.Good){k v:Vl}(hk:k.ok=true):(t.put k v).Good:=by
 unfold Pl.put
 split
 ·rename_i a
  rcases t.RF k with e|⟨j,e,hj⟩
  ·omega
  rw[e]
  split
  ·refine⟨by show t.n-1<=_;have:=h.n;omega,h.lo,h.hi,fun i hi=>?_⟩;have hi:i<t.n-1:=hi;show(if i<_ then t.P i else t.P (i+1)).key.ok=true
   split
   ·exact h.keys i (by omega)
   ·exact h.keys (i+1) (by omega)
  ·refine⟨h.n,h.lo,h.hi,fun i hi=>?_⟩;have hi:i<t.n:=hi;show(AM t.P _ _ i).key.ok=true;unfold AM
   split
   ·exact h.keys _ (by omega)
   ·exact h.keys i hi
 ·split
  ·exact h
  ·split
   ·exact h
   ·rename_i hf
    have hf:t.full=false:=by simpa using hf
    have h1:=h.n;have h2:=h.hi;have h3:=h.lo;have hf:t.n≠500/\t.turns≠1000000000000:=by simpa[Pl.full]using hf
    refine⟨by show t.n+1<=_;omega,by show 0<=t.turns+1;omega,by show t.turns+1<=_;omega,fun i hi=>?_⟩;have hi:i<t.n+1:=hi;show(AM t.P t.n _ i).key.ok=true;unfold AM
    split
    ·exact hk
    ·exact h.keys i (by omega)
theorem Ds.Good.Gt{D:Ds}(h:D.Good){t:Nat}{k v:Vl}(a:t<D.nt)(hk:k.ok=true):(D.Gt t k v).Good:=by
 refine⟨h.nt,h.ns,fun i hi=>?_,h.s⟩;show(AM D.T t _ i).Good;unfold AM
 split
 ·exact(h.t t a).put hk
 ·exact h.t i hi
theorem BX{a:Ac}(h:AY a=true):0<=a.t/\0<=a.site/\a.k.ok=true/\a.v.ok=true/\0<=a.n/\1<=a.op/\a.op<=9:=by
 have h1:E8 a=true/\1<=a.op/\a.op<=9:=by
  unfold AY at h;cases c:E8 a
  ·simp[c]at h
  ·refine⟨rfl,?_⟩;simp only[c]at h;by_cases e1:a.op=1;· omega
   by_cases e2:a.op=2;· omega
   by_cases e3:a.op=3;· omega
   by_cases d:a.op=4;· omega
   by_cases e:a.op=5;· omega
   by_cases f:a.op=6;· omega
   by_cases g:a.op=7;· omega
   by_cases i:a.op=8;· omega
   by_cases j:a.op=9;· omega
   simp[e1,e2,e3,d,e,f,g,i,j]at h
 obtain⟨b,h1,h2⟩:=h1;unfold E8 at b;simp only[OR,Bool.not_eq_true',decide_eq_false_iff_not]at b;obtain⟨⟨⟨⟨⟨⟨⟨g1,g2⟩,g3⟩,g4⟩,g5⟩,g6⟩,g7⟩,g8⟩:=b;exact⟨by omega,by omega,g7,g8,by omega,h1,h2⟩
theorem T6{s:ByteArray}(h:s.size<=4000):(A7 s).ok=true:=by
 have a:fz 0=true:=by decide
 unfold Vl.ok A7 AB;simp[a];omega
theorem Zg{v:Vl}(h:Cj v=0):(Bw v).ok=true:=by
 have b:fz 0=true:=by decide
 unfold Cj at h;unfold Bw
 split at h
 ·rename_i a
  rw[C3 a]
  split at h
  ·cases h
  ·rename_i h1
   rw[Cs h1]
   split at h
   ·rename_i h2
    rw[C3 h2]
    split at h
    ·cases h
    ·rename_i h3
     rw[Cs h3]
     split
     ·unfold Vl.ok AB;simp[b]
     ·exact a
   ·rename_i h2
    rw[Cs h2];exact a
 ·cases h
theorem Yg{v:Vl}(h:v.ok=true)(hk:v.kind=4):v.str.size<=4000:=by
 unfold Vl.ok AB at h;simp[hk]at h;omega
theorem J6{a:Ac}(h:AY a=true)(b:a.op=7):a.k.kind=4:=by
 unfold AY at h;simp[b]at h;exact h.2.2
theorem Eg{a:Ac}{nt ns:Nat}(h:FL a nt ns=0):AY a=true/\(B7 a.op=true->a.t<nt)/\(Cp a.op=true->a.site<ns)/\((a.op=2\/a.op=3)->Cj a.k=0):=by
 unfold FL at h
 split at h
 ·cases h
 ·rename_i h1
  split at h
  ·cases h
  ·rename_i h2
   split at h
   ·cases h
   ·rename_i h3
    split at h
    ·cases h
    ·rename_i h4
     refine⟨by simpa using h1,fun e=>?_,fun e=>?_,fun e=>?_⟩
     ·rcases Int.lt_or_le a.t nt with h|h
      ·exact h
      ·exact absurd ⟨e,h⟩ h2
     ·rcases Int.lt_or_le a.site ns with h|h
      ·exact h
      ·exact absurd ⟨e,h⟩ h3
     ·rcases Decidable.em (Cj a.k=0)with h|h
      ·exact h
      ·exact absurd ⟨e,h⟩ h4
theorem Ds.Good.FB{D:Ds}(h:D.Good){a:Ac}(hc:FL a D.nt D.ns=0):(D.FB a).Good:=by
 obtain⟨c1,c2,c3,c4⟩:=Eg hc;obtain⟨r1,r2,c,k,l,m,n⟩:=BX c1;have hn:=h.nt;have hs:=h.ns;unfold Ds.FB
 split
 ·split
  ·exact h
  ·refine⟨by show D.nt+1<=_;omega,hs,fun i hi=>?_,h.s⟩;have hi:i<D.nt+1:=hi;show(AM D.T D.nt _ i).Good;unfold AM
   split
   ·exact⟨by show(0:Nat)<=500;omega,AaC _,by show(0:Int)<=_;omega,fun i hi=>absurd hi (NO i)⟩
   ·exact h.t i (by omega)
 ·split
  ·rename_i d
   split
   ·exact h
   ·refine⟨hn,by show D.ns+1<=_;omega,h.t,fun i hi=>?_⟩;have hi:i<D.ns+1:=hi;show(AM D.S D.ns _ i).size<=4000;unfold AM
    split
    ·exact Yg c (J6 c1 d)
    ·exact h.s i (by omega)
  ·rename_i e f
   have b:a.t.toNat<D.nt:=by have:=c2 (by simp[B7,e,f]);omega
   split
   ·rename_i h2
    exact h.Gt b (Zg (c4 (.inl h2)))
   ·split
    ·rename_i g
     have j:a.site.toNat<D.ns:=by have:=c3 (by simp[Cp,g]);omega
     exact h.Gt b (T6 (h.s _ j))
    ·exact h
theorem Ds.Good.step{D:Ds}(h:D.Good)(a:Ac):(D.step a).Good:=by
 unfold Ds.step
 split
 ·rename_i hc;exact h.FB hc
 ·exact h
theorem kA:∀(n m:Nat) (g:Nat->Nat),(∀j,j<m->g j<n)->(∀i j,i<m->j<m->g i=g j->i=j)->m<=n
 |0,m,g,h1,h2=>by
  rcases AaH m with h|h
  ·omega
  ·have:=h1 0 h;omega
 |n+1,0,g,h1,h2=>by omega
 |n+1,m+1,g,h1,h2=>by
  have hx:=h1 m (by omega);have:=kA n m (fun j=>if g j=n then g m else g j) (fun j hj=>by
   show(if g j=n then g m else g j)<n;have a:=h1 j (by omega)
   split
   ·rename_i e
    have:g m≠n:=fun e2=>by have:=h2 j m (by omega) (by omega) (by omega);omega
    omega
   ·omega) (fun i j hi hj e=>by
   have e:(if g i=n then g m else g i)=(if g j=n then g m else g j):=e
   split at e<;>split at e
   ·exact h2 i j (by omega) (by omega) (by omega)
   ·have:=h2 m j (by omega) (by omega) (by omega);omega
   ·have:=h2 i m (by omega) (by omega) (by omega);omega
   ·exact h2 i j (by omega) (by omega) (by omega))
  omega
theorem Pl.RX{t:Pl}{m:Nat}(h:∀j,j<m->t.has ((j:Int)+1)=true):m<=t.n:=by
 have h':∀j,∃i,j<m->i<t.n/\(t.P i).key.num=(j:Int)+1:=fun j=>by
  rcases Nat.lt_or_ge j m with hj|hj
  ·have a:=h j hj;unfold Pl.has at a;have a:=of_decide_eq_true a;rcases FT (fun q=>(t.P q).key.kind==2&&(t.P q).key.num==(j:Int)+1) t.n with e|⟨i,e,h1,h2⟩
   ·omega
   ·have h2:(t.P i).key.kind=2/\(t.P i).key.num=(j:Int)+1:=by simpa using h2
    exact⟨i,fun _=>⟨h1,h2.2⟩⟩
  ·exact⟨0,fun h=>by omega⟩
 refine kA t.n m (fun j=>Classical.choose (h' j)) (fun j hj=>(Classical.choose_spec (h' j) hj).1) (fun i j hi hj e=>?_);have e1:=(Classical.choose_spec (h' i) hi).2;have e2:=(Classical.choose_spec (h' j) hj).2;have e:Classical.choose (h' i)=Classical.choose (h' j):=e;rw[e]at e1;omega
theorem TN{t:Pl}:∀k m:Nat,(∃q:Nat,m<=q/\q<m+k/\t.has ((q:Int)+1)=false)->∃q:Nat,Se t k m=q/\m<=q/\t.has ((q:Int)+1)=false/\∀j:Nat,m<=j->j<q->t.has ((j:Int)+1)=true
 |0,m,⟨q,h1,h2,_⟩=>by omega
 |k+1,m,⟨q,h1,h2,h3⟩=>by
  rw[Se];cases a:t.has ((m:Int)+1)
  ·rw[Cs (by simp)];exact⟨m,rfl,A0 _,a,fun j h1 h2=>by omega⟩
  ·rw[C3 rfl];have:q≠m:=fun e=>by rw[e,a]at h3;cases h3
   obtain⟨r,g1,g2,g3,g4⟩:=TN (t:=t) k (m+1) ⟨q,by omega,by omega,h3⟩;refine⟨r,g1,by omega,g3,fun j h5 b=>?_⟩;rcases(by omega:j=m\/m+1<=j)with rfl|h
   ·exact a
   ·exact g4 j h b
theorem Pl.cK(t:Pl):t.has ((t.len:Int)+1)=false/\∀j,j<t.len->t.has ((j:Int)+1)=true:=by
 have hex:∃q:Nat,0<=q/\q<0+(t.n+1)/\t.has ((q:Int)+1)=false:=by
  rcases Classical.em (∃q:Nat,q<t.n+1/\t.has ((q:Int)+1)=false)with⟨q,h1,h2⟩|h
  ·exact⟨q,by omega,by omega,h2⟩
  ·have:=Pl.RX (t:=t) (m:=t.n+1) fun j hj=>by
    cases e:t.has ((j:Int)+1)
    ·exact absurd ⟨j,hj,e⟩ h
    ·rfl
   omega
 obtain⟨q,h1,h2,h3,h4⟩:=TN (t:=t) (t.n+1) 0 hex;have:t.len=q:=h1;rw[this];exact⟨h3,fun j hj=>h4 j (by omega) hj⟩
theorem Pl.Sg{t:Pl}{m:Nat}(h1:∀j,j<m->t.has ((j:Int)+1)=true)(h2:t.has ((m:Int)+1)=false):t.len=m:=by
 obtain⟨g1,g2⟩:=t.cK;rcases AaL t.len m with h|h|h
 ·rw[h1 _ h]at g1;cases g1
 ·exact h
 ·rw[g2 _ h]at h2;cases h2
theorem Kc{p q:Nat->Bool}:∀k i,(∀j,i<=j->j<i+k->p j=q j)->N4 p k i=N4 q k i
 |0,i,h=>rfl
 |k+1,i,h=>by
  rw[N4,N4,h i (A0 _) (by omega),Kc k (i+1) (fun j h1 h2=>h j (by omega) (by omega))]
theorem Va(a b:Vl)(w:Y):
  C9 241 #[V a.kind a.num a.Ae a.str a.ref,V b.kind b.num b.Ae b.str b.ref] w (R9 (.bool (cL a b)) w):=by
 go_enter func241,ntmps241
 go_wp2;all_goals(go_ret;refine⟨by simp_all [cL,jX],(n9).alloc (by simp) _⟩)
abbrev kG(a:T9)(b:Nat)(t:Pl):Value:=.agg #[.slice a t.n b,J t.turns]
theorem QF(a:T9)(x:Nat)(t:Pl)(k:Vl)(w:Y)(D:O0 w a t.n t.P)(hn:t.n<=500):
  C9 210 #[kG a x t,V k.kind k.num k.Ae k.str k.ref] w (R9 (J (t.at k)) w):=by
 obtain⟨W,d⟩:∃W,W=(w.alloc (.cells #[.slice a t.n x,J t.turns] 88)).alloc (.cells #[J k.kind,J k.num,F9 k.Ae,.string k.str,J k.ref] 43):=⟨_,rfl⟩;have f:B9 w W:=by rw[d];exact(n9).alloc (by simp) _
 have E:W.cell? (y w 0)=some (.slice a t.n x):=by rw[d];simp[go_sem]
 have hz:w.heap.size+1<W.heap.size:=by rw[d];simp
 have l:W.cell? (Y9 w 0)=some (J k.kind):=by rw[d];simp[go_sem]
 have m:W.cell? (Y9 w 1)=some (J k.num):=by rw[d];simp[go_sem]
 have o:W.cell? (Y9 w 2)=some (F9 k.Ae):=by rw[d];simp[go_sem]
 have r:W.cell? (Y9 w 3)=some (.string k.str):=by rw[d];simp[go_sem]
 have s:W.cell? (Y9 w 4)=some (J k.ref):=by rw[d];simp[go_sem]
 have F:=O (D.below f rfl);have e:=O f;have H:=O (And.intro l (And.intro m (And.intro o (And.intro r s))));clear D f l m o r s
 go_enter func210,ntmps210
 go_wp2_with fail
 rw[<-d];clear d;go_wp2_with fail
 clear E;go_loopw [10] (fun i wr=>∃q:Nat,q<=t.n/\i=J q/\t.at k=N4 (fun j=>cL (t.P j).key k) (t.n-q) q/\B9 W wr) (fun i _=>t.n-(intOf i).toNat)
 case atStart=>exact⟨0,by omega,rfl,rfl,DD _ _⟩
 case round=>
  obtain⟨q,hq,rfl,g,hb⟩:=hrel;have I:=hb.size;have A:=O hb;have h:=O g;by_cases c:q<t.n
  ·obtain⟨b,off,rfl,B,hcs⟩:=F.resolve_left (by omega);obtain⟨e0,e1,e2,e3,M,Q,R,S,T,U,K⟩:=(hcs q c).keep (fun j=>hb.cell (p:=(G b j)) B);obtain⟨l,m,o,r,s⟩:=z H;have l:=(hb.cell (p:=(Y9 w 0)) hz).trans l;have m:=(hb.cell (p:=(Y9 w 1)) hz).trans m;have o:=(hb.cell (p:=(Y9 w 2)) hz).trans o;have r:=(hb.cell (p:=(Y9 w 3)) hz).trans r;have s:=(hb.cell (p:=(Y9 w 4)) hz).trans s;have L:w.heap.size+1<wr.heap.size:=by omega
   clear hcs hb g;go_wp2_with fail
   refine m9 (Va (t.P q).key k _) fun w1 u=>?_
   cases hl:cL (t.P q).key k
   ·have v:=O (h.trans (Mi c hl));go_wp2_with fail
    go_roundw
    case rel=>exact⟨q+1,by omega,by go_num,v,(A.alloc (by omega) _).trans (u.mono (by simp;omega))⟩
    case measure=>simp[intOf];omega
   ·have v:=O (h.trans (Th c hl));go_wp2_with fail
    go_ret;exact⟨by rw[z v];rfl,e.trans (((A.alloc (by omega) _).trans (u.mono (by simp;omega))).mono e.size)⟩
  ·have v:=O (h.trans (Tg c));have C:q=t.n:=by omega
   subst C;clear hb g c;go_wp2_with fail
   go_ret;exact⟨by rw[z v];rfl,e.trans (A.mono e.size)⟩
abbrev aP(b:Bool)(p:Pr):Value:=.agg #[.bool b,J p.key.kind,J p.key.num,F9 p.key.Ae,.string p.key.str,J p.key.ref,J p.val.kind,J p.val.num,F9 p.val.Ae,.string p.val.str,J p.val.ref,J p.turn]
theorem U8(a:T9)(R:Nat)(t:Pl)(m:Int)(w:Y)(E:O0 w a t.n t.P)(hn:t.n<=500)(V:0<=m):
  C9 169 #[.slice a t.n R,J m] w (R9 (aP (decide (0<=t.nextI m)) (t.next m)) w):=by
 have S:=O E;clear E
 go_enter func169,ntmps169
 go_wp2;go_loopw [9] (fun i wr=>∃k:Nat,k<=t.n/\i=J k/\t.nextI m=N4 (fun j=>decide (m<(t.P j).turn)) (t.n-k) k/\w.heap.size<wr.heap.size/\(∀o,o<12->wr.cell? (y w o)=(w.alloc (.cells #[.bool false,J 0,J 0,F9 0,E9,J 0,J 0,J 0,F9 0,E9,J 0,J 0] 254)).cell? (y w o))/\(∀o,wr.frozen? (y w o)=false)/\B9 w wr) (fun i _=>t.n-(intOf i).toNat)
 case atStart=>exact⟨0,by omega,rfl,rfl,by simp,fun o _=>rfl,fun o=>by simp[go_sem],n9⟩
 case round=>
  obtain⟨k,hk,rfl,g,hz,c,l,hb⟩:=hrel;have e:=O g;have r:=O c;have r0:=(c 0 (by omega)).trans (by simp[go_sem]:_=some (.bool false));have r1:=(c 1 (by omega)).trans (by simp[go_sem]:_=some (J 0));have r2:=(c 2 (by omega)).trans (by simp[go_sem]:_=some (J 0));have F:=(c 3 (by omega)).trans (by simp[go_sem]:_=some (F9 0));have H:=(c 4 (by omega)).trans (by simp[go_sem]:_=some (E9));have I:=(c 5 (by omega)).trans (by simp[go_sem]:_=some (J 0));have K:=(c 6 (by omega)).trans (by simp[go_sem]:_=some (J 0));have L:=(c 7 (by omega)).trans (by simp[go_sem]:_=some (J 0));have M:=(c 8 (by omega)).trans (by simp[go_sem]:_=some (F9 0));have Q:=(c 9 (by omega)).trans (by simp[go_sem]:_=some (E9));have s:=(c 10 (by omega)).trans (by simp[go_sem]:_=some (J 0));have u:=(c 11 (by omega)).trans (by simp[go_sem]:_=some (J 0));clear g c;by_cases d:k<t.n
  ·obtain⟨b,off,rfl,x,hcs⟩:=S.resolve_left (by omega);obtain⟨e0,e1,e2,e3,W,X,Z,e7,e8,e9,T⟩:=(hcs k d).keep (fun q=>hb.cell (p:=(G b q)) x);have f:=O hb;clear hcs hb;by_cases hp:0<(t.P k).turn
   ·by_cases U:m<(t.P k).turn
    ·have A:Hid (aP (decide (0<=t.nextI m)) (t.next m)=aP true (t.P k)):=O (by
      have h:t.nextI m=k:=e.trans (Th d (by simp[U]));unfold Pl.next;rw[h,Cs (by omega)];simp)
     go_wp2;refine DO (v:=aP true (t.P k)) (by simp[results,results169,go_sem,hz,r0,r1,r2,F,H,I,K,L,M,Q,s,u]) rfl ⟨by rw[z A],?_⟩;refine Below.alloc ?_ (by have:=f.size;simpa using this) _;iterate 12 (refine W0 ?_ (by exact A0 _) _)
     exact f
    ·have B:=O (e.trans (Mi d (by simp;omega)));go_wp2;go_roundw
     case rel=>exact⟨k+1,by omega,by go_num,B,by simp;omega,fun o C=>(GC _ _ _ (by exact hz)).trans (r o C),fun o=>(((DD wr.heap.size wr).alloc (A0 _) _).frozen (p:=(y w o)) hz).trans (l o),f.alloc f.size _⟩
     case measure=>simp[intOf];omega
   ·have B:=O (e.trans (Mi d (by simp;omega)));go_wp2;go_roundw
    case rel=>exact⟨k+1,by omega,by go_num,B,by simp;omega,fun o C=>(GC _ _ _ (by exact hz)).trans (r o C),fun o=>(((DD wr.heap.size wr).alloc (A0 _) _).frozen (p:=(y w o)) hz).trans (l o),f.alloc f.size _⟩
    case measure=>simp[intOf];omega
  ·have A:Hid (aP (decide (0<=t.nextI m)) (t.next m)=aP false ⟨nov,nov,0⟩):=O (by
    have h:t.nextI m=-1:=e.trans (Tg d);unfold Pl.next;rw[h,C3 (by omega)];simp)
   have D:k=t.n:=by omega
   subst D;have f:=O hb;clear hb d;go_wp2;refine DO (v:=aP false ⟨nov,nov,0⟩) (by simp[results,results169,go_sem,r0,r1,r2,F,H,I,K,L,M,Q,s,u]) rfl ⟨by rw[z A],?_⟩;iterate 12 (refine W0 ?_ (by exact A0 _) _)
   exact f
theorem Pl.Y6(t:Pl)(m:Int):t.has m=true↔∃j,j<t.n/\((t.P j).key.kind=2/\(t.P j).key.num=m):=by
 unfold Pl.has;constructor
 ·intro h;have h:=of_decide_eq_true h;rcases FT (fun j=>(t.P j).key.kind==2&&(t.P j).key.num==m) t.n with e|⟨j,e,h1,h2⟩
  ·omega
  ·exact⟨j,h1,by simpa using h2⟩
 ·rintro⟨j,h1,h2,h3⟩;apply decide_eq_true;rcases FT (fun j=>(t.P j).key.kind==2&&(t.P j).key.num==m) t.n with e|⟨i,e,_,_⟩
  ·have:=Fq e j (P9 _) (by omega);simp[h2,h3]at this
  ·omega
abbrev Bn(a:Ac):Array Value:=#[J a.op,J a.t,J a.site,J a.n,J a.k.kind,J a.k.num,F9 a.k.Ae,.string a.k.str,J a.k.ref,J a.v.kind,J a.v.num,F9 a.v.Ae,.string a.v.str,J a.v.ref]
abbrev Ns:Array Value:=#[J 0,J 0,J 0,J 0,F9 0,E9,J 0,J 0,J 0,F9 0,E9,J 0]
def Pl.ask(t:Pl)(a:Ac):An:=
 if a.op=4 then⟨0,(t.next a.n).turn,(t.next a.n).key,(t.next a.n).val⟩
 else if a.op=6 then B5 t.n else B5 t.len
theorem KO{B:Nat}{a w:Y}(h:Below B a w)(b:Nat)(hb:B<=b)(v0 v1 v2 v3 v4 v5 e f g v9 c d:V9):
  Below B a ((((((((((((w.setCell (G b 0) v0).setCell (G b 1) v1).setCell (G b 2) v2).setCell (G b 3) v3).setCell (G b 4) v4).setCell (G b 5) v5).setCell (G b 6) e).setCell (G b 7) f).setCell (G b 8) g).setCell (G b 9) v9).setCell (G b 10) c).setCell (G b 11) d):=by
 iterate 12 (refine W0 ?_ (by exact hb) _)
 exact h
theorem Vb(la:T9)(cp:Nat)(t:Pl)(a:Ac)(w:Y)(hP:O0 w la t.n t.P)(hn:t.n<=500)(hm:0<=a.n):
  C9 105 #[.slice la t.n cp,IC a] w (R9 (DS (t.ask a)) w):=by
 obtain⟨W,f⟩:∃W,W=(w.alloc (.cells (Bn a) 51)).alloc (.cells Ns 45):=⟨_,rfl⟩;have r:B9 w W:=by rw[f];exact(n9).alloc (by simp) _
 have hz:w.heap.size+1<W.heap.size:=by rw[f];simp
 have c0:W.cell? (y w 0)=some (J a.op):=by rw[f];simp[go_sem]
 have c3:W.cell? (y w 3)=some (J a.n):=by rw[f];simp[go_sem]
 have hA:∀j u,Ns.toList[j]?=some u->W.cell? (Y9 w j)=some u:=fun j u h=>by
  rw[f,World.cell?_alloc_at _ _ _ _ (by simp)];simpa using h
 have hF:∀q,W.frozen? (Y9 w q)=false:=fun q=>by rw[f];simp[go_sem]
 have HP:=O (hP.below r rfl);have g:=O r;have HA:=O hA;have HF:=O hF;have AN:∀{w':Y},B9 W w'->(∀j u,Ns.toList[j]?=some u->w'.cell? (Y9 w j)=some u)/\(∀q,w'.frozen? (Y9 w q)=false):=fun{w'} hb=>⟨fun j u h=>(hb.cell (p:=(Y9 w j)) hz).trans (HA j u h),fun q=>(hb.frozen (p:=(Y9 w q)) hz).trans (HF q)⟩
 have H:Hid (∀w':World,B9 W w'->(∀j u,Ns.toList[j]?=some u->w'.cell? (Y9 w j)=some u)/\(∀q,w'.frozen? (Y9 w q)=false)):=O (fun w'=>AN);clear hP r hA hF AN;by_cases h4:a.op=4
 ·have I:Hid (t.ask a=⟨0,(t.next a.n).turn,(t.next a.n).key,(t.next a.n).val⟩):=O (by unfold Pl.ask;rw[C3 h4]);have d4:(a.op==4)=true:=by simp[h4]
  clear h4
  go_enter func105,ntmps105
  go_wp2_with fail
  rw[<-f];clear f;go_wp2_with fail
  refine m9 (U8 la cp t a.n _ HP hn hm) fun w1 k=>?_
  generalize t.next a.n=x at*;obtain⟨g1,g2⟩:=z H _ k;have r0:=g1 0 _ rfl;have r1:=g1 1 _ rfl;have r2:=g1 2 _ rfl;have S:=g1 3 _ rfl;have T:=g1 4 _ rfl;have U:=g1 5 _ rfl;have V:=g1 6 _ rfl;have X:=g1 7 _ rfl;have Z:=g1 8 _ rfl;have r9:=g1 9 _ rfl;have s:=g1 10 _ rfl;have A:=g1 11 _ rfl;have K:w.heap.size+1<w1.heap.size:=Be hz k.size;have L:=O (g.trans (k.mono g.size));have G2:=g2;clear k g1 c0 c3;go_wp2_with fail
  refine DO (v:=DS ⟨0,x.turn,x.key,x.val⟩) (by simp[results,results105,go_sem,K,r0,r1,r2,S,T,U,V,X,Z,r9,s,A]) rfl ⟨by rw[z I],?_⟩;refine Below.alloc ?_ (by have:=L.size;simpa using this) _;exact KO L _ (by omega) _ _ _ _ _ _ _ _ _ _ _ _
 by_cases E:a.op=6
 ·have I:Hid (t.ask a=B5 t.n):=O (by unfold Pl.ask;rw[Cs h4,C3 E]);have d4:(a.op==4)=false:=by simp[h4]
  have d6:(a.op==6)=true:=by simp[E]
  clear h4 E
  go_enter func105,ntmps105
  go_wp2_with fail
  refine DO (v:=DS (B5 t.n)) (by simp[results,results105,go_sem,B5]) rfl ⟨by rw[z I],?_⟩;exact(n9).alloc (by simp) _
 have I:Hid (t.ask a=B5 t.len):=O (by unfold Pl.ask;rw[Cs h4,Cs E]);have d4:(a.op==4)=false:=by simp[h4]
 have d6:(a.op==6)=false:=by simp[E]
 clear h4 E
 go_enter func105,ntmps105
 go_wp2_with fail
 rw[<-f];clear f;go_wp2_with fail
 clear c0 c3;go_loopw [6] (fun i wr=>∃m:Nat,(∀j,j<m->t.has ((j:Int)+1)=true)/\i=J m/\B9 W wr) (fun i _=>501-(intOf i).toNat)
 case atStart=>exact⟨0,fun j hj=>absurd hj (NO _),rfl,DD _ _⟩
 case round=>
  obtain⟨m,B,rfl,hb⟩:=hrel;have ag:=Pl.RX B;have ah:=hb.size;have HB:=O hb;have HM:=O B;clear hb B;go_wp2_with fail
  go_loopw [7,35] (fun b i wq=>∃(C:Bool) (q:Nat),q<=t.n/\b=.bool C/\i=J q/\(C=true↔∃j,j<q/\((t.P j).key.kind=2/\(t.P j).key.num=(m:Int)+1))/\B9 W wq) (fun _ i _=>t.n-(intOf i).toNat)
  case atStart=>exact⟨false,0,P9 _,rfl,rfl,⟨fun h=>by(cases h),fun⟨j,h,_⟩=>absurd h (NO _)⟩,HB⟩
  case round=>
   obtain⟨C,q,hq,rfl,rfl,l,d⟩:=hrel;have c:=d.size;have e:=O d;have ad:=O l;by_cases M:q<t.n
   ·obtain⟨b,off,rfl,ae,hcs⟩:=HP.resolve_left (by omega);obtain⟨e0,e1,e2,e3,e4,e5,e6,e7,e8,e9,ai⟩:=(hcs q M).keep (fun j=>d.cell (p:=(G b j)) ae);clear hcs d l;have HS:∀x:Bool,(x=true↔C=true\/((t.P q).key.kind=2/\(t.P q).key.num=(m:Int)+1))->(x=true↔∃j,j<q+1/\((t.P j).key.kind=2/\(t.P j).key.num=(m:Int)+1)):=fun x hx=>hx.trans ((or_congr ad Iff.rfl).trans ⟨fun h=>h.elim (fun⟨j,h1,h2⟩=>⟨j,by omega,h2⟩) (fun h=>⟨q,by omega,h⟩),fun⟨j,h1,h2⟩=>by
     rcases(by omega:j<q\/j=q)with h|rfl
     ·exact .inl ⟨j,h,h2⟩
     ·exact .inr h2⟩)
    have o:=O HS;clear HS;cases C
    ·by_cases hk:(t.P q).key.kind=2
     ·by_cases F:(t.P q).key.num=(m:Int)+1
      ·have D:=O (o true (by simp[hk,F]));have d1:((t.P q).key.kind==2)=true:=by simp[hk]
       have d2:((t.P q).key.num==(m:Int)+1)=true:=by simp[F]
       clear hk F;go_wp2_with fail
       go_roundw
       case rel=>exact⟨true,q+1,by omega,rfl,by go_num,D,e.alloc c _⟩
       case measure=>simp[intOf];omega
      ·have D:=O (o false (by simp[hk,F]));have d1:((t.P q).key.kind==2)=true:=by simp[hk]
       have d2:((t.P q).key.num==(m:Int)+1)=false:=by simp[F]
       clear hk F;go_wp2_with fail
       go_roundw
       case rel=>exact⟨false,q+1,by omega,rfl,by go_num,D,e.alloc c _⟩
       case measure=>simp[intOf];omega
     ·have D:=O (o false (by simp[hk]));have d1:((t.P q).key.kind==2)=false:=by simp[hk]
      clear hk;go_wp2_with fail
      go_roundw
      case rel=>exact⟨false,q+1,by omega,rfl,by go_num,D,e.alloc c _⟩
      case measure=>simp[intOf];omega
    ·have D:=O (o true (by simp));go_wp2_with fail
     go_roundw
     case rel=>exact⟨true,q+1,by omega,rfl,by go_num,D,e.alloc c _⟩
     case measure=>simp[intOf];omega
   ·have af:q=t.n:=by omega
    subst af;have R:C=t.has ((m:Int)+1):=by
     rw[AaD,l,Pl.Y6]
    clear l M;obtain⟨g1,g2⟩:=z H _ d;have r0:=g1 0 _ rfl;have r1:=g1 1 _ rfl;have r2:=g1 2 _ rfl;have S:=g1 3 _ rfl;have T:=g1 4 _ rfl;have U:=g1 5 _ rfl;have V:=g1 6 _ rfl;have X:=g1 7 _ rfl;have Z:=g1 8 _ rfl;have r9:=g1 9 _ rfl;have s:=g1 10 _ rfl;have A:=g1 11 _ rfl;have K:w.heap.size+1<wr.heap.size:=Be hz c;clear g1 d;cases C
    ·have HL:=O (Pl.Sg HM R.symm);clear R;go_wp2_with fail
     refine DO (v:=DS (B5 m)) (by simp[results,results105,go_sem,r0,r1,r2,S,T,U,V,X,Z,r9,s,A,B5]) rfl ⟨by rw[z I,z HL],?_⟩;exact KO (g.trans (e.mono g.size)) _ (by omega) _ _ _ _ _ _ _ _ _ _ _ _
    ·have Q:Hid (∀j,j<m+1->t.has ((j:Int)+1)=true):=O (fun j hj=>by
      rcases(by omega:j<m\/j=m)with h|rfl
      ·exact HM j h
      ·exact R.symm)
     have aj:=Pl.RX Q;clear R;go_wp2_with fail
     go_roundw
     case rel=>exact⟨m+1,Q,by go_num,e⟩
     case measure=>simp[intOf];omega
section
def ZJ(f:Nat->Bf)(n:Nat):List Value:=(List.range (n*3)).map (cellOf f)
theorem ZK{f:Nat->Bf}{n j:Nat}(h:j<n*3):(ZJ f n)[j]?=some (cellOf f j):=by simp[ZJ,h]
theorem X1(f:Nat->Bf)(n:Nat)(s:Bf)(hs:f n=s):ZJ f n++[J s.parent,.string s.key,J s.count]=ZJ f (n+1):=by
 subst hs;unfold ZJ;rw[show(n+1)*3=n*3+1+1+1 by omega,List.range_succ,List.range_succ,List.range_succ];simp only[Aac,List.map_cons,List.map_nil,List.append_assoc,Aal,So];rw[Tj,Tk,Tl]
abbrev P5(w:Y)(base:Nat)(v:V9)(n:Nat)(f:Nat->Bf):Prop:=w.ownsRow base 205 3 v n (ZJ f n)
def NY(n:Nat)(f:Nat->Bf)(i:Nat)(key:ByteArray)(j:Nat):Prop:=0<j/\j<n/\(f j).parent=i/\(f j).key.toList=key.toList
theorem NY.unique{n:Nat}{f:Nat->Bf}{i:Nat}{key:ByteArray}{j k:Nat}(h4:Gd n f)(hj:NY n f i key j)(hk:NY n f i key k):j=k:=by
 obtain⟨a1,a2,a3,a4⟩:=hj;obtain⟨b1,b2,b3,b4⟩:=hk;rcases AaL j k with h|h|h
 ·exact absurd ⟨a3.trans b3.symm,a4.trans b4.symm⟩ (h4 k j a1 h b2)
 ·exact h
 ·exact absurd ⟨b3.trans a3.symm,b4.trans a4.symm⟩ (h4 j k b1 h a2)
def grown(f:Nat->Bf)(n i:Nat)(key:ByteArray)(j:Nat):Bf:=if j=n then⟨i,key,(f i).count+1⟩else f j
def VW(n:Nat)(f:Nat->Bf)(i:Nat)(key:ByteArray)(n':Nat)(f':Nat->Bf)(r:Int):Prop:=
 (∃j,NY n f i key j/\r=j/\n'=n/\f'=f)\/
 ((∀j,¬NY n f i key j)/\((f i).count=12\/n=200)/\r=-1/\n'=n/\f'=f)\/
 ((∀j,¬NY n f i key j)/\(f i).count≠12/\n≠200/\r=n/\n'=n+1/\f'=grown f n i key)
theorem VW.unique{n:Nat}{f:Nat->Bf}{i:Nat}{key:ByteArray}{a b:Nat}{f1 f2:Nat->Bf}{r1 r2:Int}(h4:Gd n f)(h:VW n f i key a f1 r1)(h':VW n f i key b f2 r2):a=b/\f1=f2/\r1=r2:=by
 rcases h with⟨j,a1,a2,a3,a4⟩|⟨a1,a2,a3,a4,a5⟩|⟨a1,a2,a3,a4,a5,c⟩
 ·rcases h' with⟨k,b1,b2,b3,b4⟩|⟨b1,_⟩|⟨b1,_⟩
  ·have:=a1.unique h4 b1;subst this;exact⟨a3.trans b3.symm,a4.trans b4.symm,a2.trans b2.symm⟩
  ·exact absurd a1 (b1 j)
  ·exact absurd a1 (b1 j)
 ·rcases h' with⟨k,b1,b2,b3,b4⟩|⟨b1,b2,b3,b4,b5⟩|⟨b1,b2,b3,b4,b5,b6⟩
  ·exact absurd b1 (a1 k)
  ·exact⟨a4.trans b4.symm,a5.trans b5.symm,a3.trans b3.symm⟩
  ·rcases a2 with h|h
   ·exact absurd h b2
   ·exact absurd h b3
 ·rcases h' with⟨k,b1,b2,b3,b4⟩|⟨b1,b2,b3,b4,b5⟩|⟨b1,b2,b3,b4,b5,b6⟩
  ·exact absurd b1 (a1 k)
  ·rcases b2 with h|h
   ·exact absurd h a2
   ·exact absurd h a3
  ·exact⟨a5.trans b5.symm,c.trans b6.symm,a4.trans b4.symm⟩
theorem GD{w:Y}{o:Obj}{a:Addr}{v:V9}(h:w.cell? a=some v):(w.alloc o).cell? a=some v:=by rw[GC _ _ _ (Hi w a h)];exact h
abbrev Rx(w:Y)(b n:Nat)(f:Nat->Bf):Prop:=Du w b n f
theorem Rx.lt{w:Y}{b n:Nat}{f:Nat->Bf}(h:Rx w b n f):b<w.heap.size:=Du.lt h
theorem Rx.of_block{w w':Y}{b n:Nat}{f:Nat->Bf}(h:Rx w b n f)(e:w'.heap[b]?=w.heap[b]?):Rx w' b n f:=Du.of_block h e
theorem P5.in{w:Y}{base b n d:Nat}{f:Nat->Bf}(h:P5 w base (S9 b n d) n f):base<=b/\Rx w b n f:=by
 obtain⟨hl,⟨c,_⟩|⟨g',cap,cur,c,hb,a,h1,h2,h3,h4⟩⟩:=h
 ·cases c
 ·cases c;refine⟨hb,d*3,fun j=>(cur[j]?).getD undef,by omega,⟨cur,a,h3,fun i hi=>by simp[Aaw (show i<cur.size by omega)]⟩,fun j hj=>?_⟩;have h5:=ZK (f:=f) hj;rw[<-h4,AaU,C3 hj]at h5;show(cur[j]?).getD undef=_;rw[<-Array.getElem?_toList,h5];rfl
def GV(f:Nat->Bf)(n:Nat)(w:Y)(v:V9)(lo hi:Nat):Prop:=
 (n=0/\v=N9)\/(0<n/\∃b a,v=S9 b n a/\lo<=b/\b<hi/\Rx w b n f)
theorem GV.form{f:Nat->Bf}{n:Nat}{w:Y}{v:V9}{lo hi:Nat}(h:GV f n w v lo hi):∃a c,v=.slice a n c:=by
 rcases h with⟨rfl,rfl⟩|⟨_,b,c,rfl,_⟩
 ·exact⟨_,_,rfl⟩
 ·exact⟨_,_,rfl⟩
theorem Pe{n:Nat}{f:Nat->Bf}(h2:Bz f)(h3:BB n f){i:Nat}(hi:i<n):∀t,Dx f i t<n:=by
 intro t
 induction t with
 |zero=>exact hi
 |succ t ih=>
  show(f (Dx f i t)).parent.toNat<n;rcases AaH (Dx f i t)with e|e
  ·rw[e,h2.1];exact Aay (P9 _) hi
  ·have:=(h3 _ e ih).2.1;omega
theorem N3{n:Nat}{f g:Nat->Bf}(h2:Bz f)(h3:BB n f)(hg:∀j,j<n->g j=f j){i:Nat}(hi:i<n):∀t,Dx g i t=Dx f i t:=by
 intro t
 induction t with
 |zero=>rfl
 |succ t ih=>
  show(g (Dx g i t)).parent.toNat=(f (Dx f i t)).parent.toNat;rw[ih,hg _ (Pe h2 h3 hi t)]
theorem Ji{n:Nat}{f g:Nat->Bf}(h2:Bz f)(h3:BB n f)(hg:∀j,j<n->g j=f j){i:Nat}(hi:i<n)(key:ByteArray):BW g i key=BW f i key:=by
 refine S4.eq ?_;have e:=N3 h2 h3 hg hi;have hf:∀t,g (Dx g i t)=f (Dx f i t):=fun t=>by rw[e t,hg _ (Pe h2 h3 hi t)]
 rcases Iw f i key with⟨t,a,b,c,d⟩|⟨a,b⟩
 ·exact .inl ⟨t,fun s hs=>by rw[e s];exact a s hs,by rw[hf t];exact b,fun s hs=>by rw[hf s];exact c s hs,by rw[hf t];exact d⟩
 ·exact .inr ⟨a,fun t h=>by rw[hf t];exact b t (fun s hs=>by rw[<-e s];exact h s hs)⟩
theorem C7{f:Nat->Bf}{n k:Nat}{key:ByteArray}:∀j,j<n->grown f n k key j=f j:=fun j hj=>by unfold grown;rw[Cs (by omega)]
theorem Fj{f:Nat->Bf}{n k:Nat}{key:ByteArray}:grown f n k key n=⟨k,key,(f k).count+1⟩:=by simp[grown]
theorem RV{n:Nat}{f:Nat->Bf}(h:Ar n f=0){k:Nat}(hk:k<n){key:ByteArray}(hs:key.size<=4000)(E:BW f k key<0)(r:∀j,¬NY n f k key j)(hc:(f k).count≠12)(hn:n≠200):Ar (n+1) (grown f n k key)=0:=by
 obtain⟨h1,h2,h3,h4,h5⟩:=Au h;have B:=BC (k:=n) h2 (fun j a b=>h3 j a b) k hk;have s:0<n:=by omega
 have C:EL (n+1):=⟨by omega,by have:=h1.2;omega⟩;have x:Bz (grown f n k key):=by
  unfold Bz;rw[C7 0 s];exact h2
 have A:BB (n+1) (grown f n k key):=by
  intro i t hi;unfold YA;by_cases e:i=n
  ·subst e;rw[Fj];refine⟨by show(0:Int)<=k;omega,by show(k:Int)<i;omega,?_,by show(f k).count+1<=12;omega,hs⟩;show(f k).count+1=(grown f i k key ((k:Int).toNat)).count+1;rw[Lo,C7 k hk]
  ·have g:i<n:=by omega
   obtain⟨a,b,c,d,e⟩:=h3 i t g;rw[C7 i g,C7 _ (by omega)];exact⟨a,b,c,d,e⟩
 have D:Gd (n+1) (grown f n k key):=by
  intro i j u m hi p;unfold Twin at p;by_cases e:i=n
  ·subst e;rw[C7 j m,Fj]at p;exact r j ⟨by omega,m,p.1,p.2⟩
  ·rw[C7 i (by omega),C7 j (by omega)]at p;exact h4 i j u m (by omega) p
 refine Kg C x A D (Classical.byContradiction fun v=>?_);obtain⟨i,q,hi,l⟩:=(EU x A).2 v;by_cases e:i=n
 ·subst e;have o:Az (grown f i k key) i=k:=by unfold Az;rw[Fj];rfl
  rw[o,Ji h2 h3 (fun j hj=>C7 j hj) hk,Fj]at l;have l:0<=BW f k key:=l;omega
 ·have g:i<n:=by omega
  have o:Az (grown f n k key) i=Az f i:=by unfold Az;rw[C7 i g]
  have w:Az f i<n:=by have:=(h3 i q g).2.1;unfold Az;omega
  rw[o,Ji h2 h3 (fun j hj=>C7 j hj) w,C7 i g]at l;exact(EU h2 h3).1 ⟨i,q,g,l⟩ h5
theorem Pw{n:Nat}{f:Nat->Bf}(h2:Bz f)(h3:BB n f){k r:Nat}{key:ByteArray}(hK:NY n f k key r):nf f r=nf f k+1:=by
 obtain⟨a,b,c,d⟩:=hK;have h:=(h3 r a b).2.2.1;have e:=(h3 r a b).2.1;rw[c]at h e;have hk:k<n:=by omega
 have:=(BC (k:=n) h2 (fun j a b=>h3 j a b) k hk).1;unfold nf;rw[h];show((f k).count+1).toNat=_;omega
theorem YK{n:Nat}{f:Nat->Bf}{k r:Nat}{key:ByteArray}(hK:NY n f k key r):∀t,Dx f r (t+1)=Dx f k t:=by
 intro t
 induction t with
 |zero=>show(f r).parent.toNat=k;rw[hK.2.2.1];rfl
 |succ t ih=>show(f (Dx f r (t+1))).parent.toNat=_;rw[ih];rfl
theorem Ph{n:Nat}{f:Nat->Bf}(h2:Bz f)(h3:BB n f){k r:Nat}{key:ByteArray}(hK:NY n f k key r):(DF f r (nf f k)).toList=key.toList:=by
 unfold DF;rw[Pw h2 h3 hK,show nf f k+1-1-nf f k=0 by omega];exact hK.2.2.2
theorem YZ{n:Nat}{f:Nat->Bf}(h2:Bz f)(h3:BB n f){k r:Nat}{key:ByteArray}(hK:NY n f k key r){j:Nat}(hj:j<nf f k):DF f r j=DF f k j:=by
 unfold DF;rw[Pw h2 h3 hK,show nf f k+1-1-j=(nf f k-1-j)+1 by omega,YK hK]
theorem MP{n:Nat}{f g:Nat->Bf}(hg:∀j,j<n->g j=f j){i:Nat}(hi:i<n):nf g i=nf f i:=by unfold nf;rw[hg i hi]
theorem UB{n:Nat}{f g:Nat->Bf}(h2:Bz f)(h3:BB n f)(hg:∀j,j<n->g j=f j){i:Nat}(hi:i<n)(j:Nat):DF g i j=DF f i j:=by
 unfold DF;rw[MP hg hi,N3 h2 h3 hg hi,hg _ (Pe h2 h3 hi _)]
def DA(n:Int):Vl:=⟨2,n,0,⟨#[]⟩,0⟩
def Bm{α:Type}(f:Nat->α)(i:Nat)(v:α):Nat->α:=fun j=>if j=i then v else f j
theorem Al{α:Type}(f:Nat->α)(i:Nat)(v:α):Bm f i v i=v:=C3 rfl
theorem Af{α:Type}(f:Nat->α){i j:Nat}(v:α)(h:j≠i):Bm f i v j=f j:=Cs h
structure KeyLaw (K:Vl->Prop) (hf:Vl->Nat):Prop where
 refl:∀a,K a->Ap a a=true
 symm:∀a b,K a->K b->Ap a b=true->Ap b a=true
 trans:∀a b c,K a->K b->K c->Ap a b=true->Ap b c=true->Ap a c=true
 hash:∀a b,K a->K b->Ap a b=true->hf a=hf b
 int:∀a b,K a->K b->a.kind=2->b.kind=2->a.num=b.num->Ap a b=true
 own:∀n:Int,K (DA n)
 none:Gl (default:Vl)=true
theorem EC{a b:Vl}(h:Ap a b=true):a.kind=b.kind:=by
 unfold Ap at h;simp only[OR,beq_iff_eq]at h;exact h.1
theorem Fy{a b:Vl}(h:Ap a b=true):a.num=b.num:=by
 unfold Ap at h;simp only[OR,beq_iff_eq]at h;exact h.2.1
theorem MH{a b:Vl}{m:Nat}(h:Ap a b=true):AH m a↔AH m b:=by
 unfold AH;rw[EC h,Fy h]
def Reach(x:Nat)(X:Nat->Int)(a s:Nat):Prop:=∃t,t<x/\s=(a+t)%x/\∀j,j<t->X ((a+j)%x)≠0
theorem Reach.mono{x:Nat}{X Z:Nat->Int}{a s:Nat}(h:Reach x X a s)(e:∀j,j<x->X j≠0->Z j≠0):Reach x Z a s:=by
 obtain⟨t,h1,h2,h3⟩:=h;exact⟨t,h1,h2,fun j hj=>e _ (Aae _ (by omega)) (h3 j hj)⟩
structure Idx (hf:Vl->Nat) (L:Nat->Pr) (x:Nat) (X:Nat->Int) (P:Nat->Prop):Prop where
 range:∀s,s<x->X s=0\/X s=-1\/(0<X s/\P (X s-1).toNat)
 has:∀i,P i->∃s,s<x/\X s=i+1/\Reach x X (hf (L i).key%x) s
 uniq:∀s s',s<x->s'<x->0<X s->X s=X s'->s=s'
theorem Idx.congr{hf:Vl->Nat}{L L':Nat->Pr}{x:Nat}{X:Nat->Int}{P b:Nat->Prop}(h:Idx hf L x X P)(a:∀i,b i↔P i)(c:∀i,P i->(L' i).key=(L i).key):Idx hf L' x X b:=
 ⟨fun s hs=>(h.range s hs).imp id (Or.imp id (fun e=>⟨e.1,(a _).2 e.2⟩)),fun i hi=>by rw[c i ((a i).1 hi)];exact h.has i ((a i).1 hi),h.uniq⟩
theorem Idx.empty(hf:Vl->Nat)(L:Nat->Pr)(x:Nat)(P:Nat->Prop)(a:∀i,¬P i):Idx hf L x (fun _=>0) P:=
 ⟨fun s _=>.inl rfl,fun i hi=>absurd hi (a i),fun s s' _ _ h=>absurd h (by simp)⟩
theorem Idx.put{hf:Vl->Nat}{L:Nat->Pr}{x:Nat}{X:Nat->Int}{P:Nat->Prop}(h:Idx hf L x X P){p s:Nat}(d:¬P p)(hs:s<x)(g:X s<=0)(f:Reach x X (hf (L p).key%x) s):Idx hf L x (Bm X s ((p:Int)+1)) (fun i=>P i\/i=p):=by
 have Cy:∀j,j<x->X j≠0->Bm X s ((p:Int)+1) j≠0:=by
  intro j _ hj;by_cases e:j=s
  ·subst e;rw[Al];omega
  ·rw[Af _ _ e];exact hj
 have b:∀t,t<x->X t≠(p:Int)+1:=by
  intro t a e;rcases h.range t a with h1|h1|h1
  ·omega
  ·omega
  ·rw[e]at h1;exact d (by simpa using h1.2)
 refine⟨fun t a=>?_,fun i hi=>?_,fun t t' a c h1 h2=>?_⟩
 ·by_cases e:t=s
  ·subst e;rw[Al];exact .inr (.inr ⟨by omega,.inr (by omega)⟩)
  ·rw[Af _ _ e];exact(h.range t a).imp id (Or.imp id (fun e=>⟨e.1,.inl e.2⟩))
 ·by_cases e:i=p
  ·subst e;exact⟨s,hs,Al _ _ _,f.mono Cy⟩
  ·obtain⟨t,h1,h2,h3⟩:=h.has i (hi.resolve_right e);exact⟨t,h1,by rw[Af _ _ (fun e'=>by subst e';omega)];exact h2,h3.mono Cy⟩
 ·by_cases e:t=s
  ·by_cases e':t'=s
   ·rw[e,e']
   ·subst e;rw[Al,Af _ _ e']at h2;exact absurd h2.symm (b t' c)
  ·by_cases e':t'=s
   ·subst e';rw[Al,Af _ _ e]at h2;exact absurd h2 (b t a)
   ·rw[Af _ _ e,Af _ _ e']at h2;rw[Af _ _ e]at h1;exact h.uniq t t' a c h1 h2
theorem Idx.leave{hf:Vl->Nat}{L:Nat->Pr}{x:Nat}{X:Nat->Int}{P:Nat->Prop}(h:Idx hf L x X P){s:Nat}(hs:s<x)(c:0<X s):Idx hf L x (Bm X s (-1)) (fun i=>P i/\(i:Int)+1≠X s):=by
 have Cy:∀j,j<x->X j≠0->Bm X s (-1) j≠0:=by
  intro j _ hj;by_cases e:j=s
  ·subst e;rw[Al];omega
  ·rw[Af _ _ e];exact hj
 refine⟨fun t a=>?_,fun i hi=>?_,fun t t' a b h1 h2=>?_⟩
 ·by_cases e:t=s
  ·subst e;rw[Al];exact .inr (.inl rfl)
  ·rw[Af _ _ e];refine(h.range t a).imp id (Or.imp id (fun e'=>⟨e'.1,e'.2,fun e''=>e (h.uniq t s a hs e'.1 (by omega))⟩))
 ·obtain⟨t,h1,h2,h3⟩:=h.has i hi.1;refine⟨t,h1,?_,h3.mono Cy⟩;rw[Af _ _ (fun e'=>by subst e';exact hi.2 h2.symm)];exact h2
 ·by_cases e:t=s
  ·subst e;rw[Al]at h1;omega
  ·by_cases e':t'=s
   ·subst e';rw[Al,Af _ _ e]at h2;rw[Af _ _ e]at h1;omega
   ·rw[Af _ _ e,Af _ _ e']at h2;rw[Af _ _ e]at h1;exact h.uniq t t' a b h1 h2
def Cd(X:Nat->Int):Nat->Nat
 |0=>0
 |k+1=>if X k=0 then Cd X k else Cd X k+1
theorem D8(d:Dc)(k:Nat):Ev d k=Cd d.X k:=by
 induction k with
 |zero=>rfl
 |succ k ih=>show(if _ then _ else _)=(if _ then _ else _);rw[ih]
theorem ZT(X:Nat->Int)(k:Nat):Cd X k<=k:=by
 induction k with
 |zero=>exact A0 _
 |succ k ih=>
  show(if X k=0 then Cd X k else Cd X k+1)<=k+1;by_cases e:X k=0
  ·rw[C3 e];omega
  ·rw[Cs e];omega
theorem FJ{X X':Nat->Int}{k:Nat}(h:∀j,j<k->(X j=0↔X' j=0)):Cd X k=Cd X' k:=by
 induction k with
 |zero=>rfl
 |succ k ih=>
  show(if _ then _ else _)=(if _ then _ else _);rw[ih (fun j hj=>h j (by omega))];by_cases e:X k=0
  ·rw[C3 e,C3 ((h k (by omega)).1 e)]
  ·rw[Cs e,Cs (fun e'=>e ((h k (by omega)).2 e'))]
theorem IA(k:Nat):Cd (fun _=>0) k=0:=by
 induction k with
 |zero=>rfl
 |succ k ih=>show(if _ then _ else _)=_;rw[C3 rfl];exact ih
theorem Nl{X:Nat->Int}{s:Nat}{v:Int}(a:v≠0)(b:X s=0):∀k,Cd (Bm X s v) k=Cd X k+(if s<k then 1 else 0):=by
 intro k
 induction k with
 |zero=>rfl
 |succ k ih=>
  show(if _ then _ else _)=(if _ then _ else _)+_;rw[ih];by_cases e:k=s
  ·subst e;rw[Al,Cs a,C3 b,Cs (by omega),C3 (by omega)]
  ·rw[Af _ _ e];by_cases e1:X k=0
   focus
    rw[C3 e1,C3 e1]
   rotate_left
   focus
    rw[Cs e1,Cs e1]
   rotate_left;all_goals
    by_cases e2:s<k
    ·rw[C3 e2,C3 (by omega)]
    ·rw[Cs e2,Cs (by omega)]
theorem VJ{X:Nat->Int}{k:Nat}(h:Cd X k<k):∃j,j<k/\X j=0:=by
 induction k with
 |zero=>omega
 |succ k ih=>
  by_cases e:X k=0
  ·exact⟨k,by omega,e⟩
  ·have h':(if X k=0 then Cd X k else Cd X k+1)<k+1:=h;rw[Cs e]at h';obtain⟨j,h1,h2⟩:=ih (by omega);exact⟨j,by omega,h2⟩
theorem Vr{x a s:Nat}(b:a<x)(hs:s<x):∃t,t<x/\s=(a+t)%x:=by
 by_cases h:a<=s
 ·exact⟨s-a,by omega,by rw[show a+(s-a)=s by omega,AaF hs]⟩
 ·refine⟨s+x-a,by omega,?_⟩;rw[show a+(s+x-a)=s+x by omega,Nat.add_mod_right,AaF hs]
def C5(x:Nat)(X:Nat->Int)(a:Nat):Option Nat:=(Ex x a x).find? (fun s=>decide (X s<=0))
theorem SC{x a f t:Nat}(h:t<f):Ex x a f=Ex x a t++((a+t)%x)::(List.range' (t+1) (f-t-1)).map (fun j=>(a+j)%x):=by
 unfold Ex;have:List.range f=List.range t++t::List.range' (t+1) (f-t-1):=by
  rw[List.range_eq_range',List.range_eq_range',show f=t+(f-t) by omega,<-List.range'_append_1,show t+(f-t)-t-1=f-t-1 by omega]
  congr 1
  obtain⟨g,hg⟩:∃g,f-t=g+1:=⟨f-t-1,by omega⟩;rw[hg,List.range'_succ];simp
 rw[this];simp
theorem KS{x a t:Nat}{X:Nat->Int}(b:t<x)(h:∀j,j<t->0<X ((a+j)%x))(c:X ((a+t)%x)<=0):C5 x X a=some ((a+t)%x):=by
 unfold C5;rw[SC b,List.find?_append];have:(Ex x a t).find? (fun s=>decide (X s<=0))=none:=by
  rw[List.find?_eq_none];intro s hs;unfold Ex at hs;obtain⟨j,hj,rfl⟩:=List.mem_map.1 hs;have:=h j (AaR.1 hj);simp;omega
 rw[this];simp[c]
theorem least{P:Nat->Prop}:∀n,(∃t,t<n/\P t)->∃t,t<n/\P t/\∀j,j<t->¬P j:=by
 intro n
 induction n with
 |zero=>rintro⟨t,h,_⟩;omega
 |succ n ih=>
  rintro⟨t,h,b⟩;by_cases e:∃t,t<n/\P t
  ·obtain⟨t,h1,h2,h3⟩:=ih e;exact⟨t,by omega,h2,h3⟩
  ·exact⟨t,h,b,fun j hj a=>e ⟨j,by omega,a⟩⟩
theorem F4{x a:Nat}{X:Nat->Int}(c:a<x)(hu:Cd X x<x):∃t,t<x/\C5 x X a=some ((a+t)%x)/\X ((a+t)%x)<=0/\∀j,j<t->0<X ((a+j)%x):=by
 obtain⟨s,hs,f⟩:=VJ hu;obtain⟨t,d,e⟩:=Vr c hs;obtain⟨t,h1,h2,h3⟩:=least (P:=fun t=>X ((a+t)%x)<=0) x ⟨t,d,by rw[<-e];omega⟩;have b:∀j,j<t->0<X ((a+j)%x):=fun j hj=>by have:=h3 j hj;omega
 exact⟨t,h1,KS h1 b h2,h2,b⟩
def A6(hf:Vl->Nat)(d:Dc)(k:Vl)(p:Nat):Dc:=
 match C5 d.x d.X (hf k%d.x)with
 |none=>d
 |some a=>{d with X:=Bm d.X a ((p:Int)+1),used:=if d.X a=0 then d.used+1 else d.used}
theorem FU{hf:Vl->Nat}{d:Dc}{k:Vl}{p a:Nat}(h:C5 d.x d.X (hf k%d.x)=some a):A6 hf d k p={d with X:=Bm d.X a ((p:Int)+1),used:=if d.X a=0 then d.used+1 else d.used}:=by
 unfold A6;rw[h]
theorem Mo{hf:Vl->Nat}{d:Dc}{L:Nat->Pr}{k:Vl}{p:Nat}{P:Nat->Prop}(h:Idx hf L d.x d.X P)(c:¬P p)(hk:hf (L p).key=hf k)(hx:Cd d.X d.x<d.x)(hu:(Cd d.X d.x:Int)=d.used):
  Idx hf L (A6 hf d k p).x (A6 hf d k p).X (fun i=>P i\/i=p)/\(Cd (A6 hf d k p).X (A6 hf d k p).x:Int)=(A6 hf d k p).used/\(A6 hf d k p).x=d.x/\(A6 hf d k p).n=d.n/\(A6 hf d k p).L=d.L/\(A6 hf d k p).m=d.m/\(A6 hf d k p).I=d.I/\(A6 hf d k p).live=d.live/\(A6 hf d k p).turns=d.turns/\Cd (A6 hf d k p).X d.x<=Cd d.X d.x+1:=by
 have b:0<d.x:=by omega
 obtain⟨t,h1,h2,h3,h4⟩:=F4 (a:=hf k%d.x) (Aae _ b) hx;rw[FU h2];have hs:(hf k%d.x+t)%d.x<d.x:=Aae _ b;refine⟨h.put c hs h3 ⟨t,h1,by rw[hk],fun j hj=>by rw[hk];have:=h4 j hj;omega⟩,?_,rfl,rfl,rfl,rfl,rfl,rfl,rfl,?_⟩
 ·show(Cd (Bm d.X ((hf k%d.x+t)%d.x) ((p:Int)+1)) d.x:Int)=if d.X ((hf k%d.x+t)%d.x)=0 then d.used+1 else d.used
  by_cases e:d.X ((hf k%d.x+t)%d.x)=0
  ·rw[C3 e,Nl (by omega) e,C3 hs];omega
  ·rw[Cs e,<-hu,FJ (X:=Bm d.X _ _) (X':=d.X) (fun j hj=>?_)];by_cases e':j=(hf k%d.x+t)%d.x
   ·subst e';rw[Al];constructor<;>intro h<;>omega
   ·rw[Af _ _ e']
 ·show Cd (Bm d.X ((hf k%d.x+t)%d.x) ((p:Int)+1)) d.x<=_;by_cases e:d.X ((hf k%d.x+t)%d.x)=0
  ·rw[Nl (by omega) e,C3 hs];omega
  ·rw[FJ (X:=Bm d.X _ _) (X':=d.X) (fun j hj=>?_)]
   ·omega
   ·by_cases e':j=(hf k%d.x+t)%d.x
    ·subst e';rw[Al];constructor<;>intro h<;>omega
    ·rw[Af _ _ e']
structure KG (d:Dc):Prop where
 Ca:∀i,i<d.n->Entry d i
 ord:∀i j,i<j->j<d.n->(d.L i).turn≠0->(d.L j).turn≠0->(d.L i).turn<(d.L j).turn
 EM:(II d:Int)=d.live
theorem KG.d2{d:Dc}(h:KG d):D2 d:=by
 have main:∀k,k<=d.n->∃last,Dw d k=some (((AU d k).length:Int),last)/\(last=0\/∃i,i<k/\(d.L i).turn≠0/\(d.L i).turn=last):=by
  intro k
  induction k with
  |zero=>intro _;exact⟨0,rfl,.inl rfl⟩
  |succ k ih=>
   intro hk;obtain⟨last,e,hl⟩:=ih (by omega);rcases h.Ca k (by omega)with⟨b,c,f⟩|⟨b,h1,h2,h3,h4⟩
   ·refine⟨last,?_,?_⟩
    ·rw[Jg e b,c,f,Ct b];rfl
    ·rcases hl with hl|⟨i,h1,h2⟩
     ·exact .inl hl
     ·exact .inr ⟨i,by omega,h2⟩
   ·have a:(d.L k).turn≠0:=by omega
    have g:last<(d.L k).turn:=by
     rcases hl with hl|⟨i,g1,g2,g3⟩
     ·omega
     ·have:=h.ord i k g1 (by omega) g2 a;omega
    refine⟨(d.L k).turn,?_,.inr ⟨k,by omega,a,rfl⟩⟩;have j:OD d.turns last (d.L k)=true:=by unfold OD;simp[g,h1,h2,h3,h4]
    rw[Jh e a,C3 j,Br a,To,Aax]
    congr 1
 obtain⟨last,e,_⟩:=main d.n (A0 _);exact⟨last,by rw[e];congr 1;rw[<-h.EM];rfl⟩
def Rq(d:Dc)(i:Nat):Prop:=i<d.n/\(d.L i).turn≠0/\¬AH d.m (d.L i).key
structure Co (K:Vl->Prop) (hf:Vl->Nat) (d:Dc):Prop where
 log:KG d
 keys:∀i,i<d.n->(d.L i).turn≠0->K (d.L i).key
 Ja:∀i j,i<d.n->j<d.n->(d.L i).turn≠0->(d.L j).turn≠0->Ap (d.L i).key (d.L j).key=true->i=j
 ints:∀j,j<d.m->Hr d j
 last:d.m=0\/0<d.I (d.m-1)
 small:∀i,i<d.n->(d.L i).turn≠0->AH d.m (d.L i).key->d.I ((d.L i).key.num-1).toNat=i+1
 sz:aA d.x
 idx:Idx hf d.L d.x d.X (Rq d)
 used:(Cd d.X d.x:Int)=d.used
 half:2*Cd d.X d.x<=d.x
 turns:0<=d.turns/\d.turns<=1000000000000
 le:d.live<=500
def Next(d:Dc):Prop:=∀i,i<d.n->(d.L i).turn≠0->¬((d.L i).key.kind=2/\(d.L i).key.num=(d.m:Int)+1)
def Wg(d:Dc):Prop:=(d.n:Int)<=8\/(d.n:Int)<=2*d.live
structure Inv (K:Vl->Prop) (hf:Vl->Nat) (d:Dc):Prop where
 i0:Co K hf d
 next:Next d
 tight:Wg d
theorem Co.d3{K:Vl->Prop}{hf:Vl->Nat}{d:Dc}(h:Co K hf d):D3 d:=⟨h.ints,h.last⟩
theorem Co.d4{K:Vl->Prop}{hf:Vl->Nat}{d:Dc}(h:Co K hf d):D4 d:=by
 refine⟨h.sz,fun j hj=>?_,by rw[D8];exact h.used,by rw[D8];exact h.half⟩;rcases h.idx.range j hj with e|e|⟨e,h1,h2,h3⟩
 ·exact .inl e
 ·exact .inr (.inl e)
 ·exact .inr (.inr ⟨e,by omega,h2,h3⟩)
theorem Inv.d1{K:Vl->Prop}{hf:Vl->Nat}{d:Dc}(h:Inv K hf d):D1 d:=⟨by have:=h.i0.log.EM;omega,h.i0.le,h.i0.turns.1,h.i0.turns.2,h.tight⟩
theorem Sy{d:Dc}{v:Vl}(hx:0<d.x):∀(f a s:Nat),a<d.x->f<=d.x->probe d v a f=some s->0<d.X s/\Ap (d.at (d.X s)).key v=true/\∃t,t<f/\s=(a+t)%d.x/\∀j,j<t->d.X ((a+j)%d.x)≠0:=by
 intro f
 induction f with
 |zero=>intro a s _ _ h;cases h
 |succ f ih=>
  intro a s c hf h;by_cases b:d.X a=0
  ·rw[Jj b]at h;cases h
  ·by_cases hl:0<d.X a/\Ap (d.at (d.X a)).key v=true
   ·rw[Ks hl.1 hl.2]at h;cases h;exact⟨hl.1,hl.2,0,by omega,by rw[Nat.add_zero,AaF c],fun j hj=>by omega⟩
   ·rw[GQ b hl]at h;obtain⟨h1,h2,t,h3,h4,h5⟩:=ih _ _ (Aae _ hx) (by omega) h;refine⟨h1,h2,t+1,by omega,?_,fun j hj=>?_⟩
    ·rw[h4,Nat.mod_add_mod];congr 1;omega
    ·cases j with
     |zero=>rw[Nat.add_zero,AaF c];exact b
     |succ j=>
      have:=h5 j (by omega);rw[Nat.mod_add_mod]at this
      rwa [show a+(j+1)=a+1+j by omega]
theorem XH{d:Dc}{v:Vl}(hx:0<d.x):∀(t a f:Nat),a<d.x->t<f->(∀j,j<t->d.X ((a+j)%d.x)≠0/\¬(0<d.X ((a+j)%d.x)/\Ap (d.at (d.X ((a+j)%d.x))).key v=true))->0<d.X ((a+t)%d.x)->Ap (d.at (d.X ((a+t)%d.x))).key v=true->probe d v a f=some ((a+t)%d.x):=by
 intro t
 induction t with
 |zero=>
  intro a f b hf _ h1 h2;obtain⟨g,rfl⟩:∃g,f=g+1:=⟨f-1,by omega⟩;have e:(a+0)%d.x=a:=AaF b;rw[e]at h1 h2 ⊢;exact Ks h1 h2
 |succ t ih=>
  intro a f b hf h h1 h2;obtain⟨g,rfl⟩:∃g,f=g+1:=⟨f-1,by omega⟩;have c:=h 0 (by omega);rw[Nat.add_zero,AaF b]at c;rw[GQ c.1 c.2];have e:∀j,((a+1)%d.x+j)%d.x=(a+(j+1))%d.x:=fun j=>by rw[Nat.mod_add_mod];congr 1;omega
  have:=ih ((a+1)%d.x) g (Aae _ hx) (by omega) (fun j hj=>by rw[e];exact h (j+1) (by omega)) (by rw[e];exact h1) (by rw[e];exact h2);rw[this,e]
theorem Sw{d:Dc}{v:Vl}(hx:0<d.x)(h:∀s,s<d.x->¬(0<d.X s/\Ap (d.at (d.X s)).key v=true)):∀(f a:Nat),a<d.x->probe d v a f=none:=by
 intro f
 induction f with
 |zero=>intro a _;rfl
 |succ f ih=>
  intro a c;by_cases b:d.X a=0
  ·exact Jj b
  ·rw[GQ b (h a c)];exact ih _ (Aae _ hx)
section
variable {K:Vl->Prop} {hf:Vl->Nat} {d:Dc}
theorem Co.found(h:Co K hf d)(k:KeyLaw K hf){v:Vl}(l:K v){i:Nat}(hi:Rq d i)(hl:Ap (d.L i).key v=true):∃s,s<d.x/\d.X s=i+1/\Bi d v (hf v)=some s:=by
 obtain⟨s,hs,c,t,r,rfl,Cy⟩:=h.idx.has i hi;have a:=h.keys i hi.1 hi.2.1;have hx:0<d.x:=by omega
 rw[k.hash _ _ a l hl]at hs c Cy;refine⟨_,hs,c,?_⟩;unfold Bi;rw[Cs (by omega)];have m:(d.at ((i:Int)+1))=d.L i:=by unfold Dc.at;congr 1;omega
 refine XH hx t _ _ (Aae _ hx) r (fun j hj=>⟨Cy j hj,fun hc=>?_⟩) (by rw[c];omega) (by rw[c,m];exact hl);have f:(hf v%d.x+j)%d.x<d.x:=Aae _ hx;rcases h.idx.range _ f with e|e|⟨e,g⟩
 ·exact Cy j hj e
 ·omega
 ·have n:=h.keys _ g.1 g.2.1;have o:Ap (d.L (d.X ((hf v%d.x+j)%d.x)-1).toNat).key (d.L i).key=true:=k.trans _ _ _ n l a hc.2 (k.symm _ _ a l hl);have:=h.Ja _ _ g.1 hi.1 g.2.1 hi.2.1 o;have p:d.X ((hf v%d.x+j)%d.x)=d.X ((hf v%d.x+t)%d.x):=by rw[c];omega
  have b:=h.idx.uniq _ _ f hs e p;have:j=t:=by
   have h1:(hf v%d.x)<d.x:=Aae _ hx;have e1:∀q,q<d.x->(hf v%d.x+q)%d.x=if hf v%d.x+q<d.x then hf v%d.x+q else hf v%d.x+q-d.x:=by
    intro q hq;by_cases e:hf v%d.x+q<d.x
    ·rw[C3 e,AaF e]
    ·rw[Cs e,Nat.mod_eq_sub_mod (by omega),AaF (by omega)]
   rw[e1 j (by omega),e1 t r]at b
   split at b<;>split at b<;>omega
  omega
theorem Co.lost(h:Co K hf d){v:Vl}{a:Nat}(b:∀i,Rq d i->Ap (d.L i).key v=false):Bi d v a=none:=by
 unfold Bi;by_cases hx:d.x=0
 ·rw[C3 hx]
 ·rw[Cs hx];refine Sw (by omega) (fun s hs hc=>?_) _ _ (Aae _ (by omega));rcases h.idx.range s hs with e|e|⟨e,c⟩
  ·omega
  ·omega
  ·have:=b _ c;rw[hc.2]at this;cases this
theorem Q4{v:Vl}{a s:Nat}(e:Bi d v a=some s):s<d.x/\0<d.X s/\Ap (d.at (d.X s)).key v=true/\Reach d.x d.X (a%d.x) s:=by
 unfold Bi at e
 split at e
 ·cases e
 ·next hx=>
  obtain⟨h1,h2,t,h3,h4,h5⟩:=Sy (by omega) _ _ _ (Aae _ (by omega)) (A0 _) e;exact⟨by rw[h4];exact Aae _ (by omega),h1,h2,t,h3,h4,h5⟩
theorem Co.place(h:Co K hf d)(b:KeyLaw K hf){v:Vl}(c:K v):
  (∃i,i<d.n/\(d.L i).turn≠0/\Ap (d.L i).key v=true/\AE d v (hf v)=i)\/((∀i,i<d.n->(d.L i).turn≠0->Ap (d.L i).key v=false)/\AE d v (hf v)=-1):=by
 unfold AE;by_cases hs:AH d.m v
 ·rw[C3 hs];obtain⟨k1,k2,k3⟩:=hs;have hq:(v.num-1).toNat<d.m:=by omega
  rcases h.ints _ hq with e|⟨e1,e2,e3,f,g⟩
  ·right;refine⟨fun i hi j=>?_,by omega⟩;cases hl:Ap (d.L i).key v
   ·rfl
   ·have:=h.small i hi j ((MH hl).2 ⟨k1,k2,k3⟩);rw[Fy hl]at this;omega
  ·left;refine⟨(d.I (v.num-1).toNat-1).toNat,by omega,e3,?_,by omega⟩;exact b.int _ _ (h.keys _ (by omega) e3) c f k1 (by rw[g];omega)
 ·rw[Cs hs];by_cases hex:∃i,i<d.n/\(d.L i).turn≠0/\Ap (d.L i).key v=true
  ·obtain⟨i,h1,h2,h3⟩:=hex;obtain⟨s,g1,g2,g3⟩:=h.found b c ⟨h1,h2,fun k=>hs ((MH h3).1 k)⟩ h3;left;refine⟨i,h1,h2,h3,?_⟩;rw[g3];show d.X s-1=_;omega
  ·have a:∀i,i<d.n->(d.L i).turn≠0->Ap (d.L i).key v=false:=fun i h1 h2=>by
    cases hl:Ap (d.L i).key v
    ·rfl
    ·exact absurd ⟨i,h1,h2,hl⟩ hex
   right;refine⟨a,?_⟩;rw[h.lost (fun i hi=>a i hi.1 hi.2.1)];rfl
end
theorem Mm{f:Nat->Int}{i:Nat}{k:Nat}(h:∀j,j<k->f j≠(i:Int)+1):EM f i k=0:=by
 induction k with
 |zero=>rfl
 |succ k ih=>
  show(if _ then _ else _)=0;rw[Cs (h k (by omega))];exact ih (fun j hj=>h j (by omega))
theorem Tm{f:Nat->Int}{i s:Nat}:∀{k:Nat},s<k->f s=(i:Int)+1->(∀j,j<k->f j=(i:Int)+1->j=s)->EM f i k=1:=by
 intro k
 induction k with
 |zero=>intro h;omega
 |succ k ih=>
  intro hs h1 h2;show(if _ then _ else _)=1;by_cases e:k=s
  ·subst e;rw[C3 h1,Mm (fun j hj e'=>by have:=h2 j (by omega) e';omega)]
  ·rw[Cs (fun e'=>e (h2 k (by omega) e'))];exact ih (by omega) h1 (fun j hj=>h2 j (by omega))
theorem Inv.sound{K:Vl->Prop}{hf:Vl->Nat}{d:Dc}(h:Inv K hf d)(g:KeyLaw K hf):Sound d (fun i=>hf (d.L i).key):=by
 refine⟨h.d1,h.i0.log.d2,h.i0.d3,h.i0.d4,fun i hi a=>⟨?_,?_,h.next i hi a⟩⟩
 ·by_cases hs:AH d.m (d.L i).key
  ·have h1:=h.i0.small i hi a hs;obtain⟨k1,k2,k3⟩:=hs;have hq:((d.L i).key.num-1).toNat<d.m:=by omega
   rw[Tm (s:=((d.L i).key.num-1).toNat) hq h1 (fun j hj e=>?_),Mm (fun j hj e=>?_)]
   ·rcases h.i0.idx.range j hj with e'|e'|⟨e',k⟩
    ·omega
    ·omega
    ·rw[e,show(((i:Int)+1-1).toNat)=i by omega]at k;exact k.2.2 ⟨k1,k2,k3⟩
   ·rcases h.i0.ints j hj with e'|⟨e1,e2,e3,c,b⟩
    ·omega
    ·unfold Dc.at at b;rw[e,show(((i:Int)+1-1).toNat)=i by omega]at b;omega
  ·obtain⟨s,h1,h2,h3⟩:=h.i0.idx.has i ⟨hi,a,hs⟩;rw[Tm (f:=d.X) (s:=s) h1 h2 (fun j hj e=>h.i0.idx.uniq j s hj h1 (by omega) (by omega)),Mm (fun j hj e=>?_)];rcases h.i0.ints j hj with e'|⟨e1,e2,e3,c,b⟩
   ·omega
   ·unfold Dc.at at c b;rw[e,show(((i:Int)+1-1).toNat)=i by omega]at c b;exact hs ⟨c,by omega,by omega⟩
 ·rcases h.i0.place g (h.i0.keys i hi a)with⟨j,h1,h2,h3,h4⟩|⟨h1,_⟩
  ·rw[h4,h.i0.Ja j i h1 hi h2 a h3]
  ·have:=h1 i hi a;rw[g.refl _ (h.i0.keys i hi a)]at this;cases this
end
end Go.Proofs.YtgmlkfgfjjggnaaGreatDoor
