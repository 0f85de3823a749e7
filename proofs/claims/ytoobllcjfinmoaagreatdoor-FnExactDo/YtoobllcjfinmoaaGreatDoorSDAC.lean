import Derived.Test.YtoobllcjfinmoaaGreatDoorSDAB
import Derived.Test.YtoobllcjfinmoaaGreatDoorRows
set_option linter.all false
set_option maxHeartbeats 40000000
set_option maxRecDepth 100000
namespace Go.Proofs.YtoobllcjfinmoaaGreatDoor
variable {r m x n k b e0 X z2 j c u o e b0 fuel:Nat}{q l a t ti tn ts K:TypeId}{p i kind:Int}{Z B:Nat->Nat}{w w' W:Y}{s:AK}{M:Nat->Option Nat}{v:Vl}{la va:Option Addr}{g:Value->Value}{f:Nat->A9}{P:Program}{xs cs:List Value}{D:Nat->Int}{H:Type}{spare:Nat->Bool}
namespace Fl
open Ieee
theorem Ig:∀(a b m n:Nat),2^a*(2*m+1)=2^b*(2*n+1)->a=b/\m=n
 |0,0,m,n,h=>by simp at h;exact⟨rfl,om⟩
 |0,b+1,m,n,h=>by
  rw[Aax]at h;simp at h;exfalso;have:(2*m+1)%2=(2^b*2*(2*n+1))%2:=by rw[h]
  rw[Re,Nat.mul_left_comm,Nat.mul_mod_right]at this;omega
 |a+1,0,m,n,h=>by
  rw[Aax]at h;simp at h;exfalso;have:(2^a*2*(2*m+1))%2=(2*n+1)%2:=by rw[h]
  rw[Re,Nat.mul_left_comm,Nat.mul_mod_right]at this;omega
 |a+1,b+1,m,n,h=>by
  have h':2^a*(2*m+1)=2^b*(2*n+1):=by
   rw[Aax,Aax,AaL (2^a),AaL (2^b),Re,Re]at h;exact Nat.eq_of_mul_eq_mul_left om h
  obtain⟨e1,e2⟩:=Ig a b m n h';exact⟨om,e2⟩
def uw(s:Bool)(Z:Nat):Nat:=if s then 18446744073709551616-Z else Z
def lB s Z(a:0<Z)(h:Z<2^53):IntKind.u64.wrap (sg s Z)=((uw s Z:Nat):Int):=by
 rw[IntKind.wrap_u64];grind [sg,uw]
def N6 s Z(l:0<Z)(h:Z<2^53):∃M,Z=2^Lib.ctz 64 (uw s Z)*(2*M+1)/\Lib.ctz 64 (uw s Z)<53:=by
 obtain⟨M,c,a⟩:=Lib.ctzFrom_spec 53 Z l h;generalize n:Lib.ctzFrom 53 Z=t at c a;have f:uw s Z≠0:=by unfold uw;split<;>omega
 have b:uw s Z<2^64:=by unfold uw;split<;>omega
 obtain⟨o,g,_⟩:=Lib.ctzFrom_spec 64 (uw s Z) om b;have e:Lib.ctz 64 (uw s Z)=Lib.ctzFrom 64 (uw s Z):=by unfold Lib.ctz;rw[Cs f]
 rw[e];generalize Lib.ctzFrom 64 (uw s Z)=t' at g;have i:t=t':=by
  cases s
  .grind [uw,Ig]
  have hu:uw true Z=18446744073709551616-Z:=rfl;obtain⟨d,m⟩:∃d,64=t+(d+1):=⟨63-t,om⟩;have j:18446744073709551616=2^t*2^(d+1):=by rw[<-Aam,<-m]
  have k:2*M+1<2^(d+1):=by
   have:2^t*(2*M+1)<2^t*2^(d+1):=by rw[<-c];omega
   exact Nat.lt_of_mul_lt_mul_left this
  have:uw true Z=2^t*(2*(2^d-M-1)+1):=by
   rw[hu,c,j];grind
  grind [Ig]
 subst i;exact⟨M,c,a⟩
def fA s t M:sg s (2^t*(2*M+1))/2^t=sg s (2*M+1):=by
 have hp:(2:Int)^t≠0:=oS<|Ge t;cases s
 .simp only[sg,XN]
  push_cast
  exact Int.mul_ediv_cancel_left _ hp
 simp only[sg]
 push_cast
 rw[<-Int.mul_neg];exact Int.mul_ediv_cancel_left _ hp
def PL q l Z(hl:-1074<=l)(h:q*2^(l+1074).toNat=Z*2^((0:Int)+1074).toNat):whole q l=Z:=by
 have hb:=EL q l hl;have hu:=Mp;rw[Rh false q l Z 0 h,Hc]at hb;have e:sg false Z=(Z:Int):=rfl;have h1:=Int.le_of_mul_le_mul_right hb.1 hu;have h2:=Int.lt_of_mul_lt_mul_right hb.2 om;omega
theorem Vi r(h:r<9223372036854775808):r ^^^ 9223372036854775808=9223372036854775808+r/\(9223372036854775808+r) ^^^ 9223372036854775808=r:=by
 have e:r ^^^ 2^63=2^63+r:=by
  apply Nat.eq_of_testBit_eq;intro i;rw[Nat.testBit_xor,Nat.testBit_two_pow];by_cases hi:i=63
  .grind
  by_cases a:i<63
  .grind [Nat.testBit_two_pow_add_gt a]
  have h1:r.testBit i=false:=Nat.testBit_lt_two_pow<|A0 (by rw[<-qM]at h;exact h)<|AaP om om;have h2:(2^63+r).testBit i=false:=Nat.testBit_lt_two_pow<|A0 (show 2^63+r<2^64 from by rw[qM];omega)<|AaP om om;grind
 grind
def oP x:Op.negFloat .f64 x=x ^^^ 9223372036854775808:=by
 rw[Op.negFloat];have:FloatKind.f64.format.exponentBits+FloatKind.f64.format.fractionBits=63:=rfl;rw[this]
def YJ e f(b2:e<2048)(b3:f<4503599627370496):e*4503599627370496+f<9223372036854775808:=by
 omega
def Lb x(c:x<18446744073709551616):double.read (Op.negFloat .f64 x)=(double.read x).opposite:=by
 rw[oP];obtain⟨a,e,f,rfl,b1,b2,b3⟩:=fields x c;have hs:a=0\/a=1:=om;have hb:=YJ e f b2 b3;have key:(a*9223372036854775808+e*4503599627370496+f) ^^^ 9223372036854775808=(1-a)*9223372036854775808+e*4503599627370496+f:=by
  rcases hs with rfl|rfl
  .grind [Vi]
  have:=(Vi (e*4503599627370496+f) hb).2;grind
 rw[key];by_cases b:e<2047
 .rw[Di _ e f om b b3,Di a e f b1 b b3];rcases hs with rfl|rfl<;>rfl
 have:e=2047:=om;subst this;rw[Ee _ f om b3,Ee a f b1 b3];rcases hs with rfl|rfl<;>by_cases hf:f=0<;>simp[hf,Datum.opposite]
end Fl
namespace Fl
open Ieee
def O7(B:Nat)(E:1074<=B)(neg)(a)(place)(m)(p)(n:a≠0)(v:-(B:Int)<=place)(w:m<2^53)(x:-1074<=p)(A:p<=971)
  (g:a*2^(place+(B)).toNat=m*2^(p+(B:Int)).toNat):
  ∃q l,double.read (double.nearest neg a place)=.number neg q l/\-1074<=l/\l<=971/\q*2^(l+(B:Int)).toNat=a*2^(place+(B:Int)).toNat:=by
 have hl:double.leastPlace=-1074:=oo;have hf:double.fractionBits=52:=rfl;have i:m≠0:=by
  intro e;subst e;have:=OK (place+(B:Int)).toNat;rw[Nat.zero_mul]at g;rcases Nat.mul_eq_zero.1 g with h|h<;>omega
 have t:a.log2+(place+(B:Int)).toNat=m.log2+(p+(B:Int)).toNat:=by
  rw[<-Dl a _ n,<-Dl m _ i,g]
 have u:m.log2<=52:=by
  have:=(Nat.log2_lt i).2 w;omega
 rw[Format.nearest,Cs n];dsimp only;rw[hf];obtain⟨last,b⟩:∃last:Int,last=max (place+↑a.log2-((52:Nat):Int)) double.leastPlace:=⟨_,rfl⟩;rw[<-b];have l1:-1074<=last:=om;have l2:last<=971:=om;obtain⟨kept,hk,k⟩:∃kept,Toward.even.cut neg (a <<< (place-last).toNat) (last-place).toNat=kept/\kept*2^(last+(B:Int)).toNat=a*2^(place+(B:Int)).toNat:=by
  by_cases hc:last<=place
  .refine⟨_,rfl,?_⟩;have e0:(last-place).toNat=0:=om;rw[e0,GJ,Nat.shiftLeft_eq,Re,<-Aam];congr 2;omega
  .have e0:(place-last).toNat=0:=om;rw[e0,Nat.shiftLeft_zero];obtain⟨d,C⟩:=o9<|(last-place).toNat;rw[<-C];have o:d<=a.log2+2:=om;have j:∃q,a=q*2^d:=by
    obtain⟨c,D⟩:=o9<|(p-place).toNat;have e1:(p+(B:Int)).toNat=c+(place+(B:Int)).toNat:=om;rw[e1,Aam,<-Re]at g;have e2:=Aab (OK _) g;refine⟨m*2^(c-d),?_⟩;rw[e2,Re,<-Aam];congr 2;omega
   obtain⟨q,hq⟩:=j;refine⟨q,?_,?_⟩
   .unfold Toward.cut;dsimp only;rw[Nat.min_eq_left o,Nat.one_shiftLeft];have r:=OK d;have m1:a/2^d=q:=by rw[hq];exact Nat.mul_div_cancel _ r
    have m2:a%2^d=0:=by rw[hq];exact Nat.mul_mod_left _ _
    simp[m1,m2]
   rw[hq,Re,<-Aam];congr 2;omega
 rw[hk];have f:kept≠0:=by
  intro e;subst e;have:=OK (place+(B:Int)).toNat;rw[Nat.zero_mul]at k;rcases Nat.mul_eq_zero.1 k.symm with h|h<;>omega
 have s:kept.log2+(last+(B:Int)).toNat=a.log2+(place+(B:Int)).toNat:=by
  rw[<-Dl a _ n,<-Dl kept _ f,k]
 have k1:kept<2^53:=by
  apply(Nat.log2_lt f).1;omega
 have k2:last=-1074\/2^52<=kept:=by
  by_cases h:last=-1074
  .exact .inl h
  right;exact(Nat.le_log2 f).1 om
 exact⟨kept,last,L8 neg kept last l1 l2 k1 k2,l1,l2,k⟩
def O6(B:Nat)(g:1074<=B){x Z}{s t}{m n}{i j}(k:double.read x=.number s m i)(hy:double.read Z=.number t n j)(o:m*n≠0)(b:-(B)<=i+j)
  (a) p (u:a<2^53) (d:-1074<=p) (e:p<=971) (f:(m*n)*2^(i+j+(B)).toNat=a*2^(p+(B:Int)).toNat):
  ∃r q l,floatBits .mul .f64 x Z=some r/\double.read r=.number (s^^t) q l/\-1074<=l/\l<=971/\q*2^(l+1074).toNat=a*2^(p+1074).toNat:=by
 obtain⟨q,l,h1,h2,h3,h4⟩:=O7 B g (s^^t) (m*n) (i+j) a p o b u d e f;refine⟨double.nearest (s^^t) (m*n)<|i+j,q,l,?_,h1,h2,h3,?_⟩
 .show((double.read x).product<|double.read Z).map double.write=_;rw[k,hy];rfl
 have h:=h4.trans f;obtain⟨c,hc⟩:∃c:Nat,B=1074+c:=⟨B-1074,om⟩;have e1:(l+(B:Int)).toNat=(l+1074).toNat+c:=om;have e2:(p+(B:Int)).toNat=(p+1074).toNat+c:=om;rw[e1,e2,Aam,Aam,<-Re,<-Re]at h;exact Aab (OK c) h
def St(x m:Nat)(p:Int):Prop:=∃q l,double.read x=.number false q l/\-1074<=l/\l<=971/\q<2^53/\q*2^(l+1074).toNat=m*2^(p+1074).toNat
theorem mG{q}{l}(h1:double.read r=.number false q l)(h2:-1074<=l)(h3:l<=971)(h4:q*2^(l+1074).toNat=m*2^(p+1074).toNat):St r m p:=by
 rcases Cl r with⟨s,b,i,a,_,_,c,_⟩|⟨s,a⟩|⟨s,t,a⟩
 all_goals grind [St]
def Me(h:St x m p)(a:m≠0):∃q l,double.read x=.number false q l/\-1074<=l/\l<=971/\q<2^53/\q≠0/\q*2^(l+1074).toNat=m*2^(p+1074).toNat:=by
 obtain⟨q,l,h1,h2,h3,h4,h5⟩:=h;refine⟨q,l,h1,h2,h3,h4,?_,h5⟩;intro e;subst e;rw[Nat.zero_mul]at h5;have:=OK (p+1074).toNat;rcases Nat.mul_eq_zero.1 h5.symm with h|h<;>omega
def pw q a b:q*2^a*2^b=q*2^(a+b):=by rw[Re,<-Aam]
def ZK(h:St x m p)(b:m≠0)(a:m<2^53)(hp:-1074<=p)(c:p<=970):∃r,floatBits .mul .f64 x 4611686018427387904=some r/\St r m (p+1):=by
 obtain⟨q,l,h1,h2,h3,h4,h5,d⟩:=Me h b;obtain⟨r,e,f,a1,a2,a3,a4,a5⟩:=O6 1200 om h1 eH om om m (p+1) a om om (by
  have e1:(l+-51+((1200:Nat):Int)).toNat=(l+1074).toNat+75:=om;have e2:(p+1+((1200:Nat):Int)).toNat=(p+1074).toNat+127:=om;rw[e2,<-pw m,<-d,<-iM,pw,pw];congr 2;omega)
 grind [mG]
def Yh(h:St x m p)(b:m≠0)(a:m<2^53)(hp:-1073<=p)(c:p<=972):∃r,floatBits .mul .f64 x 4602678819172646912=some r/\St r m (p-1):=by
 obtain⟨q,l,h1,h2,h3,h4,h5,d⟩:=Me h b;obtain⟨r,e,f,a1,a2,a3,a4,a5⟩:=O6 1200 om h1 Zu om om m (p-1) a om om (by
  have e1:(l+-53+((1200:Nat):Int)).toNat=(l+1074).toNat+73:=om;have e2:(p-1+((1200:Nat):Int)).toNat=(p+1074).toNat+125:=om;rw[e2,<-pw m,<-d,<-iM,pw,pw];congr 2;omega)
 grind [mG]
theorem fO{Z}{r}(h:St x m p)(k:St Z n r):double.order x Z=some (compare ((m*2^(p+1074).toNat:Nat):Int) ((n*2^(r+1074).toNat:Nat):Int)):=by
 obtain⟨q,l,h1,h2,_,_,a⟩:=h;obtain⟨c,d,k1,k2,_,_,b⟩:=k;rw[BG h1 k1 h2 k2,Cf,Cf,a,b]
def XK(h:St x m p)(o:m≠0):∃r,floatBits .mul .f64 x 4602678819172646912=some r/\(double.order r x==some .eq)=false:=by
 obtain⟨q,l,h1,h2,h3,h4,h5,u⟩:=Me h o;have hs:St x q l:=⟨q,l,h1,h2,h3,h4,rfl⟩;have fin:∀r n k,-1074<=k->floatBits .mul .f64 x 4602678819172646912=some r->St r n k->n*2^(k+1074).toNat<q*2^(l+1074).toNat->∃r,floatBits .mul .f64 x 4602678819172646912=some r/\(double.order r x==some .eq)=false:=by
  intro r n k _ d a s;refine⟨r,d,?_⟩;grind [fO a hs,Hw,St]
 by_cases hl:-1073<=l
 .obtain⟨r,d,a⟩:=Yh hs h5 h4 hl om;refine fin r q (l-1) om d a ?_;have e:(l+1074).toNat=(l-1+1074).toNat+1:=om;rw[e,<-pw];have:0<q*2^(l-1+1074).toNat:=Nat.mul_pos om<|OK _;omega
 .have f:l=-1074:=om;subst f;have hz:((-1074:Int)+1074).toNat=0:=oo;refine⟨double.nearest (false^^false) (q*4503599627370496) (-1074+-53),?_,?_⟩
  .show((double.read x).product<|double.read 4602678819172646912).map double.write=_;rw[h1];rfl
  have hq:q*4503599627370496≠0:=om;have c:(q*4503599627370496).log2=q.log2+52:=by
   have:=Dl q 52 h5;rw[iM]at this;exact this
  have j:=(Nat.log2_lt h5).2 h4;have key:double.read (double.nearest (false^^false) (q*4503599627370496) (-1074+-53))=.number false (q/2+(decide (q%2=1)&&(q/2%2==1)).toNat) (-1074):=by
   rw[Format.nearest,Cs hq];dsimp only;have hf:double.fractionBits=52:=rfl;have g:double.leastPlace=-1074:=oo;rw[hf,g,c];have b:max (-1074+-53+((q.log2+52:Nat):Int)-((52:Nat):Int)) (-1074)=-1074:=om;rw[b];have hcut:Toward.even.cut (false^^false) ((q*4503599627370496) <<< (-1074+-53- -1074:Int).toNat) (-1074-(-1074+-53):Int).toNat=q/2+(decide (q%2=1)&&(q/2%2==1)).toNat:=by
    rw[show(-1074+-53- -1074:Int).toNat=0 from by decide,show(-1074-(-1074+-53):Int).toNat=53 from by decide,Nat.shiftLeft_zero];unfold Toward.cut;dsimp only;rw[Nat.min_eq_left om,Nat.one_shiftLeft];have d1:q*4503599627370496/9007199254740992=q/2:=om;have d2:q*4503599627370496%9007199254740992=q%2*4503599627370496:=om;rw[d1,d2];have hb:q%2=0\/q%2=1:=om;rcases hb with h|h<;>simp[h]
   rw[hcut];have i:=L8 (false^^false) (q/2+(decide (q%2=1)&&(q/2%2==1)).toNat) (-1074) om om (by
    have:(decide (q%2=1)&&(q/2%2==1)).toNat<=1:=Bool.toNat_le _;omega) (.inl rfl)
   exact i
  rw[BG key h1 om om,Cf,Cf,hz,Nat.mul_one,Nat.mul_one];have t:q/2+(decide (q%2=1)&&(q/2%2==1)).toNat≠q:=by
   by_cases h1:q=1
   .subst h1;decide
   have:(decide (q%2=1)&&(q/2%2==1)).toNat<=1:=Bool.toNat_le _;have hb:q%2=0\/q%2=1:=om;rcases hb with h|h
   .have:(decide (q%2=1)&&(q/2%2==1)).toNat=0:=by simp[h]
    omega
   omega
  grind
end Fl
section
open Go.RowKit
def Po x w:(callFunc 200 #[F9 x]).run Tryz.prog w=.ok (.value<|.int .u64 (x:Int)) w:=by
 rw[run_callFunc_extern (e:=Extern.MathFloatBits.float64bits) Tryz.func200 ou ou ou ou];rfl
def Jd(x:Nat)w:(callFunc 201 #[.int .u64 (x)]).run Tryz.prog w=.ok (.value<|F9 x) w:=by
 rw[run_callFunc_extern (e:=Extern.MathFloatBits.float64frombits) Tryz.func201 ou ou ou ou];rfl
def RI(x Z:Nat)w(h:bits BinOp.andNot IntKind.u64 (x) 9223372036854775808=(Z)):
  C9 198 #[F9 x] w λe w'=>e=.returned (F9 Z)/\w'=w:=by
 have h1:=Po x;have h2:=Jd Z;go_enter Tryz.func198,Tryz.ntmps198;go_wp2;go_ret;exact⟨rfl,rfl⟩
def VQ(x Z:Nat)w(h:bits BinOp.andNot IntKind.u64 (x) 9223372036854775808=(Z)):
  C9 220 #[F9 x,J 0] w λe w'=>e=.returned (.bool<|O9 Z 9218868437227405311==some .gt)/\w'=w:=by
 have H:Hid<|bits BinOp.andNot IntKind.u64 (x:Int) 9223372036854775808=(Z:Int):=h;clear h;go_enter Tryz.func220,Tryz.ntmps220;go_wp2_with (go_at_call 198;refine(RI x Z _ H.out).mono ?_;rintro e w1 ⟨rfl,rfl⟩);go_ret;exact⟨rfl,rfl⟩
def LU x w:
  C9 220 #[F9 x,J 1] w λe w'=>e=.returned (.bool<|O9 x 9218868437227405311==some .gt)/\w'=w:=by
 go_enter Tryz.func220,Tryz.ntmps220;go_wp2;go_ret;exact⟨rfl,rfl⟩
def QU x w:
  C9 220 #[F9 x,J (-1)] w λe w'=>e=.returned (.bool<|O9 (Op.negFloat .f64 x) 9218868437227405311==some .gt)/\w'=w:=by
 have a:∀w:World,(Op.unary .neg<|F9 x).run Tryz.prog w=.ok (F9<|Op.negFloat .f64 x) w:=λ_=>rfl;go_enter Tryz.func220,Tryz.ntmps220;go_wp2;go_ret;exact⟨rfl,rfl⟩
def M7(x Z r:Nat)(w)(h:bits BinOp.andNot IntKind.u64 (x) 9223372036854775808=(Z))(b:(O9 Z 4503599627370496==some .lt)=true)
  (a:floatBits .mul .f64 x 4841369599423283200=some r):
  C9 236 #[F9 x] w λe w'=>e=.returned (.tuple #[F9 r,J (-52)])/\w'=w:=by
 have H:Hid<|bits BinOp.andNot IntKind.u64 (x:Int) 9223372036854775808=(Z:Int):=h;have c:∀w:World,(binOp .mul 29 (F9 x)<|F9 4841369599423283200).run Tryz.prog w=.ok (F9 r) w:=λw=>AaR w .mul 29 .f64 _ _ r a;clear h a;go_enter Tryz.func236,Tryz.ntmps236;go_wp2_with (go_at_call 198;refine(RI x Z _ H.out).mono ?_;rintro e w1 ⟨rfl,rfl⟩)
 go_ret2
 exact⟨rfl,rfl⟩
def Qo(x Z:Nat)w(h:bits BinOp.andNot IntKind.u64 (x) 9223372036854775808=(Z))(a:(O9 Z 4503599627370496==some .lt)=false):
  C9 236 #[F9 x] w λe w'=>e=.returned (.tuple #[F9 x,J 0])/\w'=w:=by
 have H:Hid<|bits BinOp.andNot IntKind.u64 (x:Int) 9223372036854775808=(Z:Int):=h;clear h;go_enter Tryz.func236,Tryz.ntmps236;go_wp2_with (go_at_call 198;refine(RI x Z _ H.out).mono ?_;rintro e w1 ⟨rfl,rfl⟩)
 go_ret2
 exact⟨rfl,rfl⟩
def YO(x a Z e0 X z2:Nat)(k)(w)(hk:-60<=k)(Dt:k<=60)(qG:e0<2048)
  (hz:(O9 x 0==some .eq)=false) (hn:(O9 x x !=some .eq)=false)
  (TQ:bits BinOp.andNot IntKind.u64 x 9223372036854775808=(a)) (JS:(O9 a 9218868437227405311==some .gt)=false)
  (XO:∀w,C9 236 #[F9 x] w λe w'=>e=.returned (.tuple #[F9 Z,J k])/\w'=w)
  (h1:bits BinOp.and IntKind.u64 ((Z)/4503599627370496) 2047=(e0))
  (h2:bits BinOp.andNot IntKind.u64 (Z:Int) 9218868437227405312=(X))
  (h3:bits BinOp.or IntKind.u64 (X:Int) 4602678819172646912=(z2)):
  C9 230 #[F9 x] w λe w'=>e=.returned (.tuple #[F9 z2,J (k+((e0:Int)-1023+1))])/\w'=w:=by
 have H:Hid<|bits BinOp.andNot IntKind.u64 (x:Int) 9223372036854775808=(a:Int):=TQ;have b:Hid (∀w:World,C9 236 #[F9 x] w λe w'=>e=.returned (.tuple #[F9 Z,J k])/\w'=w):=XO;have b1:=Po Z;have b2:=Jd z2;have c:Hid<|(O9 a 9218868437227405311==some .gt)=false:=JS;clear TQ XO JS;go_enter Tryz.func230,Tryz.ntmps230;go_wp2_with (first|(go_at_call 220;refine(VQ x a _ H.out).mono ?_;rintro e w1 ⟨rfl,rfl⟩;rw[c.out])|(go_at_call 163;go_in)|(go_at_call 236;refine(b.out _).mono ?_;rintro e w1 ⟨rfl,rfl⟩))
 go_ret2
 exact⟨rfl,rfl⟩
def Fo(h:Int)(c:UInt8):Int:=IntKind.u64.wrap<|bits BinOp.xor IntKind.u64 h (IntKind.u64.wrap (c.toNat:Int))*1099511628211
def RW(l:List UInt8):Int:=l.foldl Fo 14695981039346656037
def Qn(x:Int):Int:=
 bits BinOp.xor IntKind.u64
  (IntKind.u64.wrap<|bits BinOp.xor IntKind.u64 (IntKind.u64.wrap<|bits BinOp.xor IntKind.u64 x (x/8589934592)*18397679294719823053) (IntKind.u64.wrap (bits BinOp.xor IntKind.u64 x (x/8589934592)*18397679294719823053)/8589934592)*14181476777654086739)
  (IntKind.u64.wrap (bits BinOp.xor IntKind.u64 (IntKind.u64.wrap<|bits BinOp.xor IntKind.u64 x (x/8589934592)*18397679294719823053) (IntKind.u64.wrap (bits BinOp.xor IntKind.u64 x (x/8589934592)*18397679294719823053)/8589934592)*14181476777654086739)/8589934592)
def Da n:0<=IntKind.u64.wrap n/\IntKind.u64.wrap n<18446744073709551616:=by
 rw[IntKind.wrap_u64];omega
def N2 op x Z:0<=bits op IntKind.u64 x Z/\bits op IntKind.u64 x Z<18446744073709551616:=by
 unfold bits;exact Da _
def O5 x:0<=Qn x/\Qn x<18446744073709551616:=N2 _ _ _
def TT h c:0<=Fo h c/\Fo h c<18446744073709551616:=Da _
def TE(l:List UInt8)h(a:0<=h/\h<18446744073709551616):0<=l.foldl Fo h/\l.foldl Fo h<18446744073709551616:=by
 induction l generalizing h with
 |nil=>exact a
 |cons c l ih=>exact ih _<|TT h c
def QM l:0<=RW l/\RW l<18446744073709551616:=TE l _ om
theorem ZU(s:ByteArray)k(h:k<s.size):s.data.toList.take (k+1)=s.data.toList.take k++[s[k]]:=by
 rw[List.take_succ_eq_append_getElem (by simpa using h)];rfl
def TD(s:ByteArray)k(h:k<s.size):RW (s.data.toList.take<|k+1)=Fo (RW<|s.data.toList.take k) s[k]:=by
 grind [RW,Fo,ZU]
def Ye{k}{a b}(h:a=b):Ending.returned (.int k a)=.returned (.int k b):=by rw[h]
def jX x w(a:0<=x)(h1:x<18446744073709551616):
  C9 211 #[.int .u64 x] w λe w'=>e=.returned (.int .u64<|Qn x)/\w'=w:=by
 go_enter Tryz.func211,Tryz.ntmps211;go_wp2;go_ret;exact⟨rfl,rfl⟩
def Y7 x w(a:0<=x)(h1:x<18446744073709551616):
  C9 180 #[.int .u64 x] w λe w'=>e=.returned (.int .u64<|Qn x)/\w'=w:=by
 go_enter Tryz.func180,Tryz.ntmps180;go_wp2;go_ret;exact⟨rfl,rfl⟩
def KN s w(hs:s.size<=maxLen):
  C9 209 #[.string s] w λe w'=>e=.returned (.int .u64<|RW s.data.toList)/\w'=w:=by
 unfold maxLen at hs;go_enter Tryz.func209,Tryz.ntmps209;go_wp2
 go_loop [3,7] (λh i=>∃k:Nat,k<=s.size/\i=J k/\h=.int .u64 (RW<|s.data.toList.take k)) λ_ i=>s.size-(intOf i).toNat
 case atStart=>exact⟨0,W9 _,rfl,rfl⟩
 case round=>
  obtain⟨k,hk,rfl,rfl⟩:=hrel;by_cases a:k<s.size
  .have b:Hid<|RW (s.data.toList.take<|k+1)=Fo (RW<|s.data.toList.take k) s[k]:=TD s k a;go_wp2;exact⟨⟨k+1,om,ov,by rw[b.out];rfl⟩,by simp[intOf];omega⟩
  go_wp2;go_ret;exact⟨Ye<|by rw[List.take_of_length_le ot],rfl⟩
def MD s w(hs:s.size<=maxLen):
  C9 178 #[.string s] w λe w'=>e=.returned (.int .u64<|RW s.data.toList)/\w'=w:=by
 unfold maxLen at hs;go_enter Tryz.func178,Tryz.ntmps178;go_wp2
 go_loop [3,4] (λh i=>∃k:Nat,k<=s.size/\i=J k/\h=.int .u64 (RW<|s.data.toList.take k)) λ_ i=>s.size-(intOf i).toNat
 case atStart=>exact⟨0,W9 _,rfl,rfl⟩
 case round=>
  obtain⟨k,hk,rfl,rfl⟩:=hrel;by_cases a:k<s.size
  .have b:Hid<|RW (s.data.toList.take<|k+1)=Fo (RW<|s.data.toList.take k) s[k]:=TD s k a;go_wp2;exact⟨⟨k+1,om,ov,by rw[b.out];rfl⟩,by simp[intOf];omega⟩
  go_wp2;go_ret;exact⟨Ye<|by rw[List.take_of_length_le ot],rfl⟩
end
end Go.Proofs.YtoobllcjfinmoaaGreatDoor
namespace Go.Proofs
open Go.Shelf
def Tryz.Sg:Go.Shelf.Ren:=⟨λ|171=>224|243=>232|246=>231|283=>237|284=>238|285=>239|286=>240|129=>242|317=>241|318=>243|319=>244|320=>245|337=>246|338=>222|n=>n,λ|3=>3|9=>9|2=>2|4=>4|171=>328|0=>0|53=>244|37=>214|5=>5|173=>330|212=>333|51=>334|20=>20|213=>335|46=>277|232=>338|233=>326|n=>n,λ|17=>3|18=>4|19=>2|n=>n⟩
def Tryz.cW:Go.Proofs.LaysM.n171 Tryz.prog Tryz.Sg:={
 mixed:=by kernel_rfl
 f129:=Tryz.func242.trans (congrArg some<|by kernel_rfl)
 f171:=Tryz.func224.trans (congrArg some<|by kernel_rfl)
 f243:=Tryz.func232.trans (congrArg some<|by kernel_rfl)
 f246:=Tryz.func231.trans (congrArg some<|by kernel_rfl)
 f283:=Tryz.func237.trans (congrArg some<|by kernel_rfl)
 f284:=Tryz.func238.trans (congrArg some<|by kernel_rfl)
 f285:=Tryz.func239.trans (congrArg some<|by kernel_rfl)
 f286:=Tryz.func240.trans (congrArg some<|by kernel_rfl)
 f317:=Tryz.func241.trans (congrArg some<|by kernel_rfl)
 f318:=Tryz.func243.trans (congrArg some<|by kernel_rfl)
 f319:=Tryz.func244.trans (congrArg some<|by kernel_rfl)
 f320:=Tryz.func245.trans (congrArg some<|by kernel_rfl)
 f337:=Tryz.func246.trans (congrArg some<|by kernel_rfl)
 f338:=Tryz.func222.trans (congrArg some<|by kernel_rfl)
 t0:=Tryz.underlying0
 a0:=Tryz.isAgg0
 z0:=Tryz.sizeOf0
 v0:=Tryz.zeroValue0
 t2:=Tryz.underlying2
 a2:=Tryz.isAgg2
 z2:=Tryz.sizeOf2
 v2:=Tryz.zeroValue2
 t3:=Tryz.underlying3
 a3:=Tryz.isAgg3
 z3:=Tryz.sizeOf3
 v3:=Tryz.zeroValue3
 t4:=Tryz.underlying4
 a4:=Tryz.isAgg4
 z4:=Tryz.sizeOf4
 v4:=Tryz.zeroValue4
 t5:=Tryz.underlying5
 a5:=Tryz.isAgg5
 z5:=Tryz.sizeOf5
 v5:=Tryz.zeroValue5
 t9:=Tryz.underlying9
 a9:=Tryz.isAgg9
 z9:=Tryz.sizeOf9
 v9:=Tryz.zeroValue9
 t20:=Tryz.underlying20
 a20:=Tryz.isAgg20
 z20:=Tryz.sizeOf20
 v20:=Tryz.zeroValue20
 t37:=Tryz.underlying214
 a37:=Tryz.isAgg214
 z37:=Tryz.sizeOf214
 v37:=Tryz.zeroValue214
 t46:=Tryz.underlying277
 a46:=Tryz.isAgg277
 z46:=Tryz.sizeOf277
 v46:=Tryz.zeroValue277
 t51:=Tryz.underlying334
 a51:=Tryz.isAgg334
 z51:=Tryz.sizeOf334
 v51:=Tryz.zeroValue334
 t53:=Tryz.underlying244
 a53:=Tryz.isAgg244
 z53:=Tryz.sizeOf244
 v53:=Tryz.zeroValue244
 t171:=Tryz.underlying328
 a171:=Tryz.isAgg328
 z171:=Tryz.sizeOf328
 v171:=Tryz.zeroValue328
 t173:=Tryz.underlying330
 a173:=Tryz.isAgg330
 z173:=Tryz.sizeOf330
 v173:=Tryz.zeroValue330
 t212:=Tryz.underlying333
 a212:=Tryz.isAgg333
 z212:=Tryz.sizeOf333
 v212:=Tryz.zeroValue333
 t213:=Tryz.underlying335
 a213:=Tryz.isAgg335
 z213:=Tryz.sizeOf335
 t232:=Tryz.underlying338
 a232:=Tryz.isAgg338
 z232:=Tryz.sizeOf338
 v232:=Tryz.zeroValue338
 t233:=Tryz.underlying326
 a233:=Tryz.isAgg326
 z233:=Tryz.sizeOf326
 v233:=Tryz.zeroValue326
 g17:=by kernel_rfl
 g18:=by kernel_rfl
 g19:=by kernel_rfl
 i0:=by kernel_rfl
 i2:=by kernel_rfl
 i3:=by kernel_rfl
 i4:=by kernel_rfl
 i5:=by kernel_rfl
 i9:=by kernel_rfl
 i20:=by kernel_rfl
 i37:=by kernel_rfl
 i46:=by kernel_rfl
 i51:=by kernel_rfl
 i53:=by kernel_rfl
 i171:=by kernel_rfl
 i173:=by kernel_rfl
 i212:=by kernel_rfl
 i232:=by kernel_rfl
 i233:=by kernel_rfl
 m17:=by kernel_rfl
 m18:=by kernel_rfl
 m19:=by kernel_rfl}
open Go.RowKit Go.Sort Go.Lib in
def Tryz.strconv_Itoa(n:Int)(b:-9223372036854775808<=n)(h1:n<=9223372036854775807)(w:World)(a:Lib.TabIs Tryz.prog w "internal/strconv.uint64pow10" .u64 Lib.pow10Tab):
  Calls Tryz.prog 224 #[.int .i64 n] w λe w'=>e=.returned (.string ⟨(Lib.itoa n).toArray⟩)/\∃k os,w'=grow (w.drewN k) os:=Any.strconv_Itoa Tryz.cW n b h1 w a
def Tryz.Sj:Go.Shelf.Ren:=⟨λ|173=>223|246=>231|283=>237|284=>238|285=>239|286=>240|129=>242|317=>241|318=>243|319=>244|320=>245|337=>246|338=>222|n=>n,λ|2=>2|3=>3|9=>9|4=>4|171=>328|0=>0|53=>244|37=>214|5=>5|173=>330|212=>333|51=>334|20=>20|213=>335|46=>277|232=>338|233=>326|n=>n,λ|17=>3|18=>4|19=>2|n=>n⟩
def Tryz.cX:Go.Proofs.LaysM.n173 Tryz.prog Tryz.Sj:={
 mixed:=by kernel_rfl
 f129:=Tryz.func242.trans (congrArg some<|by kernel_rfl)
 f173:=Tryz.func223.trans (congrArg some<|by kernel_rfl)
 f246:=Tryz.func231.trans (congrArg some<|by kernel_rfl)
 f283:=Tryz.func237.trans (congrArg some<|by kernel_rfl)
 f284:=Tryz.func238.trans (congrArg some<|by kernel_rfl)
 f285:=Tryz.func239.trans (congrArg some<|by kernel_rfl)
 f286:=Tryz.func240.trans (congrArg some<|by kernel_rfl)
 f317:=Tryz.func241.trans (congrArg some<|by kernel_rfl)
 f318:=Tryz.func243.trans (congrArg some<|by kernel_rfl)
 f319:=Tryz.func244.trans (congrArg some<|by kernel_rfl)
 f320:=Tryz.func245.trans (congrArg some<|by kernel_rfl)
 f337:=Tryz.func246.trans (congrArg some<|by kernel_rfl)
 f338:=Tryz.func222.trans (congrArg some<|by kernel_rfl)
 t0:=Tryz.underlying0
 a0:=Tryz.isAgg0
 z0:=Tryz.sizeOf0
 v0:=Tryz.zeroValue0
 t2:=Tryz.underlying2
 a2:=Tryz.isAgg2
 z2:=Tryz.sizeOf2
 v2:=Tryz.zeroValue2
 t3:=Tryz.underlying3
 a3:=Tryz.isAgg3
 z3:=Tryz.sizeOf3
 v3:=Tryz.zeroValue3
 t4:=Tryz.underlying4
 a4:=Tryz.isAgg4
 z4:=Tryz.sizeOf4
 v4:=Tryz.zeroValue4
 t5:=Tryz.underlying5
 a5:=Tryz.isAgg5
 z5:=Tryz.sizeOf5
 v5:=Tryz.zeroValue5
 t9:=Tryz.underlying9
 a9:=Tryz.isAgg9
 z9:=Tryz.sizeOf9
 v9:=Tryz.zeroValue9
 t20:=Tryz.underlying20
 a20:=Tryz.isAgg20
 z20:=Tryz.sizeOf20
 v20:=Tryz.zeroValue20
 t37:=Tryz.underlying214
 a37:=Tryz.isAgg214
 z37:=Tryz.sizeOf214
 v37:=Tryz.zeroValue214
 t46:=Tryz.underlying277
 a46:=Tryz.isAgg277
 z46:=Tryz.sizeOf277
 v46:=Tryz.zeroValue277
 t51:=Tryz.underlying334
 a51:=Tryz.isAgg334
 z51:=Tryz.sizeOf334
 v51:=Tryz.zeroValue334
 t53:=Tryz.underlying244
 a53:=Tryz.isAgg244
 z53:=Tryz.sizeOf244
 v53:=Tryz.zeroValue244
 t171:=Tryz.underlying328
 a171:=Tryz.isAgg328
 z171:=Tryz.sizeOf328
 v171:=Tryz.zeroValue328
 t173:=Tryz.underlying330
 a173:=Tryz.isAgg330
 z173:=Tryz.sizeOf330
 v173:=Tryz.zeroValue330
 t212:=Tryz.underlying333
 a212:=Tryz.isAgg333
 z212:=Tryz.sizeOf333
 v212:=Tryz.zeroValue333
 t213:=Tryz.underlying335
 a213:=Tryz.isAgg335
 z213:=Tryz.sizeOf335
 t232:=Tryz.underlying338
 a232:=Tryz.isAgg338
 z232:=Tryz.sizeOf338
 v232:=Tryz.zeroValue338
 t233:=Tryz.underlying326
 a233:=Tryz.isAgg326
 z233:=Tryz.sizeOf326
 v233:=Tryz.zeroValue326
 g17:=by kernel_rfl
 g18:=by kernel_rfl
 g19:=by kernel_rfl
 i0:=by kernel_rfl
 i2:=by kernel_rfl
 i3:=by kernel_rfl
 i4:=by kernel_rfl
 i5:=by kernel_rfl
 i9:=by kernel_rfl
 i20:=by kernel_rfl
 i37:=by kernel_rfl
 i46:=by kernel_rfl
 i51:=by kernel_rfl
 i53:=by kernel_rfl
 i171:=by kernel_rfl
 i173:=by kernel_rfl
 i212:=by kernel_rfl
 i232:=by kernel_rfl
 i233:=by kernel_rfl
 m17:=by kernel_rfl
 m18:=by kernel_rfl
 m19:=by kernel_rfl}
open Go.RowKit Go.Sort Go.Lib in
def Tryz.strconv_FormatInt_10(n:Int)(b:-9223372036854775808<=n)(h1:n<=9223372036854775807)(w:World)(a:Lib.TabIs Tryz.prog w "internal/strconv.uint64pow10" .u64 Lib.pow10Tab):
  Calls Tryz.prog 223 #[.int .i64 n,.int .i64 10] w λe w'=>e=.returned (.string ⟨(Lib.itoa n).toArray⟩)/\∃k os,w'=grow (w.drewN k) os:=Any.strconv_FormatInt_10 Tryz.cX n b h1 w a
end Go.Proofs
namespace Go.Proofs.YtoobllcjfinmoaaGreatDoor
variable {r m x n k b e0 X z2 j c u o e b0 fuel:Nat}{q l a t ti tn ts K:TypeId}{p i kind:Int}{Z B:Nat->Nat}{w w' W:Y}{s:AK}{M:Nat->Option Nat}{v:Vl}{la va:Option Addr}{g:Value->Value}{f:Nat->A9}{P:Program}{xs cs:List Value}{D:Nat->Int}{H:Type}{spare:Nat->Bool}
section
open Go.RowKit
structure B2 (w:Y):Prop where
 t64:TabAt 2 Lib.deBruijn64tab w
 rP:Lib.TabIs Tryz.prog w "internal/strconv.uint64pow10" .u64 Lib.pow10Tab
 sz:5<=w.heap.size
def B2.below(h:B2 w){B}(hb:Below B w w')(a:5<=B):B2 w':=
 ⟨λj hj=>oT hb (show 2<B from by omega)<|h.t64 j hj,
  var?_below hb (show Tryz.prog.globalNamed "internal/strconv.uint64pow10" =some 3 from by kernel_rfl) om h.rP,
  GP h.sz hb.size⟩
def WZ(x k idx:Nat)(w)(b:((x:Int)==0)=false)
  (key:IntKind.u64.wrap (bits BinOp.and IntKind.u64 x (IntKind.u64.wrap (-(x)))*285870213051353865)/288230376151711744=(idx))
  (hi:idx<64) (hk:k<64) (a:w.cell? (G 2 idx)=some (.int .u8 k)):
  C9 222 #[.int .u64 x] w λe w'=>e=.returned (J k)/\w'=w:=by
 go_enter Tryz.func222,Tryz.ntmps222;go_wp2_with (simp only[key]);go_ret;exact⟨rfl,rfl⟩
def gJ(x:Nat)(f:x<18446744073709551616)(b:x≠0){w}(g:B2 w):
  C9 222 #[.int .u64 x] w λe w'=>e=.returned (J<|Lib.ctz 64 x)/\w'=w:=by
 obtain⟨c,hk⟩:=Lib.lowest_bit 64 x b f;obtain⟨hi,d⟩:=Lib.deBruijn64_at _ hk;have a:=g.t64 _ hi;rw[d]at a;exact WZ x _ _ w ot (tz64_key x _ f b c) hi hk a
def bV{s}{a Z}{k}(b:Ieee.double.read x=.number s m i)(hi:-1074<=i)(c:m≠0)(F:Fl.Fr x s m i a Z e0 X z2 k j)w:
  C9 230 #[F9 x] w λe w'=>e=.returned (.tuple #[F9 z2,J (k+((e0:Int)-1023+1))])/\w'=w:=by
 have hz:(O9 x 0==some .eq)=false:=by
  show(Ieee.double.order x 0==some .eq)=false;rw[Fl.BG b Fl.Cq hi om,Fl.Hw,Fl.Ef];have hp:=Fl.Ge (i+1074).toNat;simp only[decide_eq_false_iff_not];rw[Fl.sc,Fl.Du];generalize (2:Int)^(i+1074).toNat=u at hp;intro h;have h1:(m:Int)*u=0:=by cases s<;>simpa using h
  rcases Int.mul_eq_zero.1 h1 with h|h<;>omega
 have hn:(O9 x x !=some .eq)=false:=by
  show(!(Ieee.double.order x x==some .eq))=false;rw[Fl.BG b b hi hi];simp
 refine YO x a Z e0 X z2 k w F.hk F.Dt F.qG hz hn F.TQ F.JS ?_ F.h1 F.h2 F.h3;intro w;rcases F.XO with⟨h1,h2,h3⟩|⟨h1,h2,h3⟩
 .rw[h1,h2];exact Qo x a w F.TQ h3
 rw[h1];exact M7 x a Z w F.TQ h3 h2
def YP{s}{Z}{k}(a:Ieee.double.read x=.number s m i)(hi:-1074<=i)(b:m≠0)(F:Fl.Fr x s m i c Z e0 X z2 k j)w:
  C9 221 #[F9 x] w λe w'=>e=.returned (.tuple #[F9 z2,J (k+((e0:Int)-1023+1))])/\w'=w:=by
 have H:Hid (∀w:World,C9 230 #[F9 x] w λe w'=>e=.returned (.tuple #[F9 z2,J (k+((e0:Int)-1023+1))])/\w'=w):=λw=>bV a hi b F w;clear F a b hi;go_enter Tryz.func221,Tryz.ntmps221;go_wp2_with (go_at_call 230;refine(H.out _).mono ?_;rintro e w1 ⟨rfl,rfl⟩)
 go_ret2
 exact⟨rfl,rfl⟩
def Ci(a b:List UInt8):(⟨a.toArray⟩++⟨b.toArray⟩:ByteArray)=⟨(a++b).toArray⟩:=by
 apply ByteArray.ext;simp
def GA{a b}(h:a=b):Ending.returned (.string a)=.returned (.string b):=by rw[h]
theorem Hx(h:u<10):Lib.decDigits u=[UInt8.ofNat (48+u)]:=by rw[Lib.decDigits,dif_pos h]
theorem N7(h:¬u<10):Lib.decDigits u=Lib.decDigits (u/10)++[UInt8.ofNat (48+u%10)]:=by rw[Lib.decDigits,dif_neg h]
def Kf u(h:u<9223372036854775808):(Lib.decDigits u).length<=21:=by
 have:=AaZ (u:Int) om om;rw[Lib.itoa,Cs om]at this;simpa using this
def gX(u:Nat):UInt8:=UInt8.ofNat<|48+u%10
def N5(u:Nat)(wr:Y):(convert 214 9<|S9 wr.heap.size 1 1).run Tryz.prog (wr.alloc<|.cells #[.int .u8 (48+(u)%10)] 5)=.ok (.string ⟨[gX u].toArray⟩) (wr.alloc<|.cells #[.int .u8 (48+(u:Int)%10)] 5):=
 run_convert_bytes_back (P:=Tryz.prog) (wr.alloc<|.cells #[.int .u8 (48+(u:Int)%10)] 5) 214 9 5 (y wr 0) 1 [gX u] Tryz.underlying214 Tryz.underlying5 Tryz.underlying9 (by
  intro j hj;have:j=0:=by simpa using hj
  subst this;have e:(gX u).toNat=48+u%10:=by
   unfold gX;rw[UInt8.toNat_ofNat'];omega
  simp[Addr.add,go_sem,e])
def Om(s:Bool)(M:Nat)(E:Int):List UInt8:=Lib.itoa (Fl.sg s M)++[112]++Lib.itoa E
def VH(x z2 r u t:Nat)(ex a b){w}(h:B2 w)
  (h1:(O9 x 9218868437227405311==some .gt)=false) (h2:(O9 (Op.negFloat .f64 x) 9218868437227405311==some .gt)=false)
  (k:∀w,C9 221 #[F9 x] w λe w'=>e=.returned (.tuple #[F9 z2,J ex])/\w'=w)
  (l:floatBits .mul .f64 z2 4845873199050653696=some r) (hc:floatToIntVal .f64 r .i64=some a)
  (hu:IntKind.u64.wrap a=(u)) (i:u≠0) (j:u<18446744073709551616) (m:Lib.ctz 64 u=t) (n:t<53) (hb:a/2^t=b)
  (o:-9007199254740992<b) (p:b<9007199254740992) (q:-1200<ex) (s:ex<1200):
  C9 210 #[F9 x] w (R9 (.string ⟨(Lib.itoa b++[112]++Lib.itoa (ex-53+t)).toArray⟩) w):=by
 have v:Hid (∀w:World,C9 221 #[F9 x] w λe w'=>e=.returned (.tuple #[F9 z2,J ex])/\w'=w):=k;have I:∀w:World,(binOp .mul 29 (F9 z2)<|F9 4845873199050653696).run Tryz.prog w=.ok (F9 r) w:=λw=>AaR w .mul 29 .f64 _ _ r l;have A:∀w:World,(convert 29 2<|F9 r).run Tryz.prog w=.ok (J a) w:=λw=>run_convert_float_int w 29 2 .f64 .i64 r _ ou Tryz.underlying2 hc;have B:Hid<|Lib.ctz 64 u=t:=m;have C:Hid<|(O9 (Op.negFloat .f64 x) 9218868437227405311==some .gt)=false:=h2;have D:Hid<|(O9 x 9218868437227405311==some .gt)=false:=h1;go_enter Tryz.func210,Tryz.ntmps210;go_wp2_with fail;refine(LU x _).mono ?_;rintro e w1 ⟨rfl,rfl⟩;rw[D.out];go_wp2_with fail;refine(QU x _).mono ?_;rintro e w1 ⟨rfl,rfl⟩;rw[C.out];go_wp2_with fail;refine(v.out _).mono ?_;rintro e w1 ⟨rfl,rfl⟩;go_wp2_with fail;refine(gJ u j i h).mono ?_;rintro e w1 ⟨rfl,rfl⟩;rw[B.out];go_wp2_with fail;refine(Tryz.strconv_FormatInt_10 b om om _ h.rP).mono ?_;rintro e w2 ⟨rfl,K,os,d⟩;have c:B9 w1 w2:=by rw[d];exact Lib.below_grow _ _ (Be _) _ _
 clear d;have E:=AaZ b om om;have F:=AaZ (ex-53+t) om om;go_wp2_with fail;refine(Tryz.strconv_Itoa (ex-53+t) om om _ (h.below c h.sz).rP).mono ?_;rintro e w3 ⟨rfl,k3,H,f⟩;have g:B9 w2 w3:=by rw[f];exact Lib.below_grow _ _ (Be _) _ _
 clear f;go_wp2_with fail;go_ret;exact⟨GA<|by rw[Ci,Ci],o8 c g⟩
def Tf(m:Nat)(i:Int)(M:Nat)(E:Int):Prop:=∃a b:Nat,m*2^a=(2*M+1)*2^b/\E=i+b-a
def MG{M}{E E'}(h:Tf m i M E)(h':Tf m i c E'):M=c/\E=E':=by
 obtain⟨a,b,e1,rfl⟩:=h;obtain⟨a',b',e2,rfl⟩:=h';have e:2^(b+a')*(2*M+1)=2^(b'+a)*(2*c+1):=by grind
 obtain⟨h1,h2⟩:=Fl.Ig _ _ _ _ e;exact⟨h2,om⟩
def kS Z c d(h:d=52+c):Z*4503599627370496*2^c=Z*2^d:=by
 rw[h,Aam,Re]
def P5 x(B:x<18446744073709551616)s m i(o:Ieee.double.read x=.number s m i)(hi:-1074<=i)(a:i<=971)(C:m<2^53)(b:m≠0):
  ∃M E,Tf m i M E/\∀w,B2 w->C9 210 #[F9 x] w (R9 (.string ⟨(Om s (2*M+1) E).toArray⟩) w):=by
 obtain⟨Q,X,e0,W,z2,k,j,F⟩:=Fl.TG x B s m i o b;have d:0<m*2^j:=oS F.lo;obtain⟨M,D,R⟩:=Fl.N6 s (m*2^j) d F.hi;obtain⟨r,q,l,e,f,g,I,H⟩:=Fl.Q5 F.rd Fl.eG (oS F.lo) om (m*2^j) 0 F.hi om om<|kS (m*2^j) _ _ oo;rw[Bool.xor_false]at f;have K:=Fl.PL q l (m*2^j) g H;have hu:=Fl.Mp;have p:Fl.sc s q l=Fl.sg s (m*2^j)*Fl.U:=by rw[Fl.Rh s q l (m*2^j) 0 H,Fl.Hc]
 have u:floatToIntVal .f64 r .i64=some (Fl.sg s<|m*2^j):=by
  have h:=Fl.Ll f g (by
   have:-9223372036854775808<=Fl.sg s (m*2^j):=by have:=F.hi;cases s<;>simp only[Fl.sg,XN]<;>omega
   have:=Int.mul_le_mul_of_nonneg_right this (Int.le_of_lt hu);omega) (by
   rw[p];have:Fl.sg s (m*2^j)<9223372036854775808:=by have:=F.hi;cases s<;>simp only[Fl.sg,XN]<;>omega
   exact Int.mul_lt_mul_of_pos_right this hu)
  rw[K]at h;exact h
 have n:=F.hi;generalize hN:m*2^j=Z at*;generalize v:Lib.ctz 64 (Fl.uw s Z)=t at*;have L:2*M+1<9007199254740992:=by
  have:1*(2*M+1)<=2^t*(2*M+1):=Aap _<|OK t;omega
 refine⟨M,i-j+t,⟨j,t,by rw[hN,D,AaL],om⟩,λw P=>?_⟩;have hex:=F.ex;have A:k+((e0:Int)-1023+1)-53+t=i-j+t:=om;have c:=VH x z2 r (Fl.uw s Z) t (k+((e0:Int)-1023+1)) (Fl.sg s Z) (Fl.sg s<|2*M+1) P
  (Fl.JH o hi a C)
  (Fl.JH (by rw[Fl.Lb x B,o];rfl) hi a C)
  (λw=>YP o hi b F w) e u (Fl.lB s Z d n)
  (by unfold Fl.uw;split<;>omega) (by unfold Fl.uw;split<;>omega) v om
  (by rw[D];exact Fl.fA s t M)
  (by cases s<;>simp only[Fl.sg,XN]<;>omega)
  (by cases s<;>simp only[Fl.sg,XN]<;>omega)
  (by have:=F.hk;have:=F.qG;omega) (by have:=F.Dt;have:=F.qG;omega)
 rw[A]at c;exact c
def Mv(n:Nat)(hn:n<9007199254740992)w:
  C9 188 #[J n] w (R9 (.string ⟨(Lib.decDigits n).toArray⟩) w):=by
 have hl:=Kf n om;have g2:(0:Int)<=(n:Int):=om;go_enter Tryz.func188,Tryz.ntmps188;go_wp2;go_loopw [0,3] (λa o wr=>∃(u:Nat) (l:List UInt8),u<=n/\a=J (u:Int)/\o=.string ⟨l.toArray⟩/\Lib.decDigits n=Lib.decDigits u++l/\B9 w wr) λa _ _=>(intOf a).toNat
 .exact⟨n,[],Be _,rfl,rfl,oq,BE _ _⟩
 obtain⟨u,l,hu,rfl,rfl,c,hb⟩:=hrel;have d:Hid<|Lib.decDigits n=Lib.decDigits u++l:=c;have e:l.length<=21:=by have:=congrArg List.length c;rw[P9]at this;omega
 clear c;have f:=N5 u wr;by_cases b:u<10
 .have hz:((u:Int)/10==0)=true:=ot;go_wp2;go_ret;refine⟨GA ?_,hb.alloc hb.size _⟩;rw[Ci,d.out,Hx b];have:gX u=UInt8.ofNat (48+u):=by unfold gX;rw[TC b]
  rw[this]
 have hz:((u:Int)/10==0)=false:=ot;go_wp2;go_roundw
 .refine⟨u/10,gX u::l,om,ov,?_,?_,hb.alloc hb.size _⟩
  .rw[Ci];rfl
  rw[d.out,N7 b,List.append_assoc];rfl
 exact ow
def YN x q l(a:Ieee.double.read x=.number false q l)(hl:-1074<=l)(i:l<=971)(hq:q<2^53):
  ∃r,(O9 x r==some .eq)=R8 x/\∀w,C9 85 #[F9 x] w λe w'=>e=.returned (F9 r)/\w'=w:=by
 by_cases f:LM x=true
 .refine⟨x,?_,λw=>Oh w f⟩;have e:(O9 x x==some .eq)=true:=by
   show(Ieee.double.order x x==some .eq)=true;rw[Fl.BG a a hl hl];simp
  have hn:DU x=false:=by
   show(!(O9 x x==some .eq))=false;rw[e];rfl
  rw[e];by_cases b:Ui x=true
  .have c:VI x=true:=by
    show(Ieee.double.order x 14114281232179134464==some .gt||Ieee.double.order x 14114281232179134464==some .eq)=true;rw[Fl.BG a Fl.Gf hl om,Fl.Ps,Fl.Kd,Fl.Cf];have:=Fl.Mp;simp only[Bool.or_eq_true,decide_eq_true_eq];left;omega
   exact(Kb f hn c b).symm
  have c:9223372036854775808*Fl.U<=Fl.sc false q l:=by
   have h:(Ieee.double.order x 4890909195324358656==some .lt)=false:=(by simpa using b:Ui x=false);rw[Fl.BG a Fl.Ha hl om,Fl.Pq,Fl.IW]at h;simpa using h
  have j:R8 x=decide (Fl.sc false q l=Fl.sg false (Fl.whole q l)*Fl.U):=by unfold R8;rw[a]
  rw[j];have hu:=Fl.Mp;by_cases d:(Fl.whole q l:Int)*Fl.U=Fl.sc false q l
  .have e:Fl.sg false (Fl.whole q l)=(Fl.whole q l:Int):=rfl;rw[e,d];simp
  have hs:=Fl.MP q l hq d;have hb:=Fl.EL q l hl;have:((Fl.whole q l:Int)+1)*Fl.U<=9223372036854775808*Fl.U:=Int.mul_le_mul_of_nonneg_right om om;omega
 have g:LM x=false:=by simpa using f
 exact Og g
def wh(m:Nat)(p:Int):Prop:=∃Z,m*2^(p+1074).toNat=Z*2^((0:Int)+1074).toNat
def jN(h:Fl.St x m p):R8 x=true↔wh m p:=by
 obtain⟨q,l,h1,h2,h3,h4,a⟩:=h;have b:R8 x=decide (Fl.sc false q l=Fl.sg false (Fl.whole q l)*Fl.U):=by unfold R8;rw[h1]
 have e:Fl.sg false (Fl.whole q l)=(Fl.whole q l:Int):=rfl;rw[b,decide_eq_true_eq,e];constructor
 .intro k;refine⟨Fl.whole q l,?_⟩;rw[<-a];have k':=k;rw[Fl.Cf,<-e,<-Fl.Hc,Fl.Cf]at k';exact Int.ofNat.inj k'
 rintro⟨Z,hN⟩;have:=Fl.PL q l Z h2<|a.trans hN;rw[this,<-show Fl.sg false Z=(Z:Int)from rfl,<-Fl.Hc];exact Fl.Rh false q l Z 0<|a.trans hN
def Z6 m p(hp:0<=p):wh m p:=by
 refine⟨m*2^p.toNat,?_⟩;rw[Fl.pw];congr 2;omega
def TB(h:Fl.St x m p):∃r,((O9 x r==some .eq)=true↔wh m p)/\∀w,C9 85 #[F9 x] w λe w'=>e=.returned (F9 r)/\w'=w:=by
 obtain⟨q,l,h1,h2,h3,h4,b⟩:=id h;obtain⟨r,a,hc⟩:=YN x q l h1 h2 h3 h4;exact⟨r,by rw[a];exact jN h,hc⟩
set_option exponentiation.threshold 2000 in
def qC(h:wh m p)(b:m≠0)(hp:-1073<=p)(hn:¬wh m (p-1)):∃M,m*2^(p+1074).toNat=(2*M+1)*2^((0:Int)+1074).toNat:=by
 obtain⟨Z,hN⟩:=h;by_cases a:Z%2=1
 .exact⟨Z/2,by rw[hN];congr 1;omega⟩
 exfalso;apply hn;refine⟨Z/2,?_⟩;have e:(p+1074).toNat=(p-1+1074).toNat+1:=om;rw[e,<-Fl.pw]at hN;grind
def qB(h:wh m p)(f:m≠0)(a:m<2^53)(hp:-1074<=p):-53<p:=by
 obtain⟨Z,hN⟩:=h;apply Int.lt_of_not_ge;intro b;have d:Z≠0:=by
  intro e;subst e;rw[Nat.zero_mul]at hN;have:=OK (p+1074).toNat;rcases Nat.mul_eq_zero.1 hN with h|h<;>omega
 obtain⟨c,hc⟩:∃c:Nat,((0:Int)+1074).toNat=(p+1074).toNat+(53+c):=⟨(-p).toNat-53,om⟩;rw[hc,Nat.add_comm (p+1074).toNat,<-Fl.pw]at hN;have h2:=Aab (OK _) hN;rw[Aam,AaL (2^53),<-Re]at h2;omega
def oV{M}(h:m*2^(p+1074).toNat=(2*M+1)*2^((0:Int)+1074).toNat)(hp:-1074<=p):Tf m i M<|i-p:=by
 by_cases a:0<=p
 .refine⟨p.toNat,0,?_,om⟩;rw[show(p+1074).toNat=p.toNat+((0:Int)+1074).toNat from by omega,<-Fl.pw]at h;rw[Aab (OK _) h];simp
 refine⟨0,(-p).toNat,?_,om⟩;rw[show((0:Int)+1074).toNat=(-p).toNat+(p+1074).toNat from by omega,<-Fl.pw]at h;rw[<-Aab (OK _) h];simp
def OL x w(h:(O9 x x !=some .eq)=false):
  C9 84 #[F9 x] w λe w'=>e=.returned (.bool false)/\w'=w:=by
 go_enter Tryz.func84,Tryz.ntmps84;go_wp2;go_ret;exact⟨rfl,rfl⟩
def Tp(n:Nat)(b:0<n)(hn:n<9007199254740992)w:
  C9 188 #[J (-(n))] w (R9 (.string ⟨(45::Lib.decDigits n).toArray⟩) w):=by
 have hl:=Kf n om;have a:(0:Int)<(n:Int):=om;go_enter Tryz.func188,Tryz.ntmps188;go_wp2_with (go_at_call 188;refine m9 (Mv n hn _) λw1 hb=>?_);go_ret;refine⟨GA ?_,hb⟩;exact Ci [45] (Lib.decDigits n)
def Mu n(h1:-9007199254740992<n)(h2:n<9007199254740992)w:
  C9 188 #[J n] w (R9 (.string ⟨(Lib.itoa n).toArray⟩) w):=by
 by_cases h:n<0
 .obtain⟨k,rfl⟩:∃k:Nat,n=-(k:Int):=⟨n.natAbs,om⟩;have e:Lib.itoa (-(k:Int))=45::Lib.decDigits k:=by unfold Lib.itoa;rw[C3 h];simp
  rw[e];exact Tp k om om w
 obtain⟨k,rfl⟩:∃k:Nat,n=(k:Int):=⟨n.toNat,om⟩;have e:Lib.itoa (k:Int)=Lib.decDigits k:=by unfold Lib.itoa;rw[Cs h];simp
 exact Mv k om w
def bX s M E:Om s (2*M+1) E=(if s then[45]else[])++Lib.itoa ((2*M+1:Nat):Int)++[112]++Lib.itoa E:=by
 rw[Om];cases s
 .simp[Fl.sg]
 have e1:Lib.itoa (Fl.sg true<|2*M+1)=45::Lib.decDigits (2*M+1):=by
  grind [Lib.itoa,Fl.sg,Om]
 have e2:Lib.itoa ((2*M+1:Nat):Int)=Lib.decDigits (2*M+1):=by
  rw[Lib.itoa];rw[Cs om];rfl
 rw[e1,e2];simp
def Rm(S)(x X m r0)(i)(w)(hy:X=cond S (Op.negFloat .f64 x) x)(ad:Fl.St X m i)(t:m≠0)(j:m<2^53)(hi:-1074<=i)(aj:i<=971)
  (g1:(O9 x x !=some .eq)=false) (g2:(O9 x 0==some .lt)=S) (g3:(O9 x 0==some .eq)=false) (g4:(O9 X 0==some .eq)=false)
  (A:floatBits .mul .f64 X 4602678819172646912=some r0) (g5:(O9 r0 X==some .eq)=false):
  C9 179 #[F9 x] w λe w'=>(∃M E,Tf m i M E/\e=.returned (.string ⟨((cond S [45] [])++Lib.itoa ((2*M+1:Nat):Int)++[112]++Lib.itoa E).toArray⟩))/\B9 w w':=by
 have n:∀w:World,(binOp .mul 29 (F9 X)<|F9 4602678819172646912).run Tryz.prog w=.ok (F9 r0) w:=λw=>AaR w .mul 29 .f64 _ _ r0 A;have B:∀w:World,(Op.unary .neg<|F9 x).run Tryz.prog w=.ok (F9<|Op.negFloat .f64 x) w:=λ_=>rfl;have G1:Hid<|(O9 x x !=some .eq)=false:=g1;clear A;cases S;all_goals
  dsimp only[cond]at hy ⊢;have hy:=hy.symm;subst hy;go_enter Tryz.func179,Tryz.ntmps179;go_wp2_with (go_at_call 84;refine(OL x _ G1.out).mono ?_;rintro e w1 ⟨rfl,rfl⟩);clear n B g1 g2 g3 g4 g5 G1
  go_loop [0,4] (λf e=>∃k v:Nat,k<=1074/\f=F9 v/\e=J (k:Int)/\Fl.St v m (i+k)/\i+k<=971) (λ_ e=>(-(i+intOf e)).toNat)
  case atStart=>exact⟨0,_,om,rfl,rfl,by simpa using ad,om⟩
  case round=>
   obtain⟨k,v,hk,rfl,rfl,hs,hb⟩:=hrel;obtain⟨r,a,hc⟩:=TB hs;have u:Hid (∀w:World,C9 85 #[F9 v] w λe w'=>e=.returned (F9 r)/\w'=w):=hc;have C:Hid<|Fl.St v m<|i+k:=hs;clear hc hs;by_cases b:wh m (i+k)
   .have t1:(O9 v r !=some .eq)=false:=by simpa using a.2 b
    have T:Hid<|wh m<|i+k:=b;clear a b;go_wp2_with (go_at_call 85;refine(u.out _).mono ?_;rintro e w1 ⟨rfl,rfl⟩);clear t1
    go_loop [0,4] (λf e=>∃(v:Nat) (E:Int),f=F9 v/\e=J E/\Fl.St v m (i-E)/\wh m (i-E)/\i-E<=971) (λ_ e=>(i-intOf e+60).toNat)
    case atStart=>exact⟨v,-(k:Int),rfl,ov,by rw[show i- -(k:Int)=i+k from by omega];exact C.out,by rw[show i- -(k:Int)=i+k from by omega];exact T.out,om⟩
    case round=>
     clear u C T;obtain⟨v,E,rfl,rfl,hs,V,hb⟩:=hrel;have ai:=qB V t j (by
      obtain⟨Z,hN⟩:=V;apply Int.le_of_not_gt;intro ak;obtain⟨q,l,_,_,_,hq,F,W⟩:=Fl.Me hs t;have e0:(i-E+1074).toNat=0:=om;rw[e0,Nat.pow_zero,Nat.mul_one]at hN;have ao:Z≠0:=by intro e;subst e;omega
      have:1*2^((0:Int)+1074).toNat<=Z*2^((0:Int)+1074).toNat:=Aap _ om;have aq:2^53<=2^((0:Int)+1074).toNat:=AaP om oo;omega)
     have ar:-3000<E:=om;have au:E<3000:=om;obtain⟨h,d,o⟩:=Fl.Yh hs t j om om;have p:∀w:World,(binOp .mul 29 (F9 v)<|F9 4602678819172646912).run Tryz.prog w=.ok (F9 h) w:=λw=>AaR w .mul 29 .f64 _ _ h d;obtain⟨r,a,hc⟩:=TB o;have u:Hid (∀w:World,C9 85 #[F9 h] w λe w'=>e=.returned (F9 r)/\w'=w):=hc;have C:Hid<|Fl.St v m<|i-E:=hs;have T:Hid<|wh m<|i-E:=V;have HH:Hid<|Fl.St h m<|i-E-1:=o;clear hc hs o d V;by_cases b:wh m (i-E-1)
     .have t1:(O9 h r==some .eq)=true:=a.2 b;have ae:Hid<|wh m<|i-E-1:=b;clear a b;go_wp2_with (go_at_call 85;refine(u.out _).mono ?_;rintro e w1 ⟨rfl,rfl⟩)
      go_round
      case rel=>exact⟨h,E+1,rfl,ov,by rw[show i-(E+1)=i-E-1 from by omega];exact HH.out,by rw[show i-(E+1)=i-E-1 from by omega];exact ae.out,om⟩
      case measure=>exact ow
     have t1:(O9 h r==some .eq)=false:=by
      rw[Bool.eq_false_iff];intro k;exact b (a.1 k)
     obtain⟨M,hM⟩:=qC T.out t om b;have HO:Hid<|Tf m i M E:=by
      have:=oV (i:=i) hM om;rw[show i-(i-E)=E from by omega]at this;exact this
     obtain⟨q,l,H,s,af,hq,F,W⟩:=Fl.Me C.out t;have g:=Fl.PL q l (2*M+1) s<|W.trans hM;have I:2*M+1<9007199254740992:=by
      by_cases av:0<l
      .exfalso;unfold Fl.whole at g;rw[C3 om]at g;obtain⟨c,hc⟩:∃c,l.toNat=c+1:=⟨l.toNat-1,om⟩;rw[hc,Aax,<-Re]at g;omega
      have:Fl.whole q l<=q:=by
       unfold Fl.whole;split
       .have:l=0:=om;subst this;simp
       exact Nat.div_le_self _ _
      omega
     have ag:∀w:World,(convert 29 2<|F9 v).run Tryz.prog w=.ok (J ((2*M+1:Nat):Int)) w:=by
      intro w;have K:Fl.sc false q l=((2*M+1:Nat):Int)*Fl.U:=by rw[Fl.Rh false q l (2*M+1) 0 (W.trans hM),Fl.Hc];rfl
      have hu:=Fl.Mp;have:=Fl.Ll H s (by
       rw[K];have:(0:Int)<=((2*M+1:Nat):Int)*Fl.U:=Int.mul_nonneg om om;omega) (by
       rw[K];exact Int.mul_lt_mul_of_pos_right om hu)
      rw[g]at this;exact run_convert_float_int w 29 2 .f64 .i64 v _ ou Tryz.underlying2 this
     clear a b W H g hM hq F s af;generalize L:2*M+1=D at ag I;have P:Hid<|2*M+1=D:=L;clear L;have aw:=AaZ (D:Int) om om;have ax:=AaZ E om om;go_wp2_with (go_at_call 85;refine(u.out _).mono ?_;rintro e w1 ⟨rfl,rfl⟩);refine m9 (Mu (D:Int) om om _) λw2 Q=>?_;go_wp2_with fail
     refine m9 (Mu E om om _) λw3 ah=>?_;go_wp2_with fail
     go_ret;refine⟨⟨M,E,HO.out,GA ?_⟩,o8 Q ah⟩;have e0:(⟨#[]⟩:ByteArray)++⟨(Lib.itoa (D:Int)).toArray⟩=⟨(Lib.itoa (D:Int)).toArray⟩:=Ci [] _;first|(rw[P.out,e0,Ci,Ci];rfl)|(rw[P.out,Ci,Ci,Ci];simp)
   have t1:(O9 v r !=some .eq)=true:=by
    rw[bne_iff_ne];intro e;apply b;apply a.1;rw[e];rfl
   have ay:i+k<0:=by
    apply Int.lt_of_not_ge;intro h;exact b (Z6 m _ h)
   obtain⟨v2,d,R⟩:=Fl.ZK C.out t j om om;have p:∀w:World,(binOp .mul 29 (F9 v)<|F9 4611686018427387904).run Tryz.prog w=.ok (F9 v2) w:=λw=>AaR w .mul 29 .f64 _ _ v2 d;have H2:Hid<|Fl.St v2 m<|i+k+1:=R;clear a b d R;go_wp2_with (go_at_call 85;refine(u.out _).mono ?_;rintro e w1 ⟨rfl,rfl⟩)
   go_round
   case rel=>exact⟨k+1,v2,om,rfl,ov,by rw[show i+((k+1:Nat):Int)=i+k+1 from by omega];exact H2.out,om⟩
   case measure=>exact ow
def EN(x:Nat):List UInt8:=match Ieee.double.read x with
 |.infinity s=>(if s then[45]else[])++[105,110,102]
 |.number s m i=>Om s (2*(m/2^Lib.ctz 64 m/2)+1)<|i+Lib.ctz 64 m
 |_=>[]
def Up m i(a:m≠0)(b:m<2^53):Tf m i (m/2^Lib.ctz 64 m/2)<|i+Lib.ctz 64 m:=by
 obtain⟨M,h1,_⟩:=Fl.N6 false m om b;have e:Fl.uw false m=m:=rfl;rw[e]at h1;refine⟨0,Lib.ctz 64 m,?_,om⟩;generalize Lib.ctz 64 m=t at h1;have:m/2^t=2*M+1:=by rw[h1];exact Nat.mul_div_cancel_left _<|OK t
 rw[this,show 2*((2*M+1)/2)+1=2*M+1 from by omega,Nat.mul_one,AaL];exact h1
def YZ x w(h:(O9 x 9218868437227405311==some .gt)=true):
  C9 210 #[F9 x] w λe w'=>e=.returned (.string ⟨#[105,110,102]⟩)/\w'=w:=by
 have H:Hid<|(O9 x 9218868437227405311==some .gt)=true:=h;clear h;go_enter Tryz.func210,Tryz.ntmps210;go_wp2_with fail;refine(LU x _).mono ?_;rintro e w1 ⟨rfl,rfl⟩;rw[H.out];go_wp2_with fail;go_ret;exact⟨rfl,rfl⟩
def VR x w(h:(O9 x 9218868437227405311==some .gt)=false)(h2:(O9 (Op.negFloat .f64 x) 9218868437227405311==some .gt)=true):
  C9 210 #[F9 x] w λe w'=>e=.returned (.string ⟨#[45,105,110,102]⟩)/\w'=w:=by
 have H:Hid<|(O9 x 9218868437227405311==some .gt)=false:=h;have a:Hid<|(O9 (Op.negFloat .f64 x) 9218868437227405311==some .gt)=true:=h2;clear h h2;go_enter Tryz.func210,Tryz.ntmps210;go_wp2_with fail;refine(LU x _).mono ?_;rintro e w1 ⟨rfl,rfl⟩;rw[H.out];go_wp2_with fail;refine(QU x _).mono ?_;rintro e w1 ⟨rfl,rfl⟩;rw[a.out];go_wp2_with fail;go_ret;exact⟨rfl,rfl⟩
def ZM(x r0)(w)
  (g1:(O9 x x !=some .eq)=false) (g2:(O9 x 0==some .lt)=false) (g3:(O9 x 0==some .eq)=false)
  (a:floatBits .mul .f64 x 4602678819172646912=some r0) (g5:(O9 r0 x==some .eq)=true):
  C9 179 #[F9 x] w λe w'=>e=.returned (.string ⟨#[105,110,102]⟩)/\w'=w:=by
 have b:∀w:World,(binOp .mul 29 (F9 x)<|F9 4602678819172646912).run Tryz.prog w=.ok (F9 r0) w:=λw=>AaR w .mul 29 .f64 _ _ r0 a;have c:Hid<|(O9 x x !=some .eq)=false:=g1;clear a;go_enter Tryz.func179,Tryz.ntmps179;go_wp2_with (go_at_call 84;refine(OL x _ c.out).mono ?_;rintro e w1 ⟨rfl,rfl⟩);go_ret;exact⟨GA<|Ci [] _,rfl⟩
def WO(x r0)(w)
  (g1:(O9 x x !=some .eq)=false) (g2:(O9 x 0==some .lt)=true) (g4:(O9 (Op.negFloat .f64 x) 0==some .eq)=false)
  (a:floatBits .mul .f64 (Op.negFloat .f64 x) 4602678819172646912=some r0) (g5:(O9 r0 (Op.negFloat .f64 x)==some .eq)=true):
  C9 179 #[F9 x] w λe w'=>e=.returned (.string ⟨#[45,105,110,102]⟩)/\w'=w:=by
 have b:∀w:World,(binOp .mul 29 (F9<|Op.negFloat .f64 x)<|F9 4602678819172646912).run Tryz.prog w=.ok (F9 r0) w:=λw=>AaR w .mul 29 .f64 _ _ r0 a;have c:∀w:World,(Op.unary .neg<|F9 x).run Tryz.prog w=.ok (F9<|Op.negFloat .f64 x) w:=λ_=>rfl;have d:Hid<|(O9 x x !=some .eq)=false:=g1;clear a;go_enter Tryz.func179,Tryz.ntmps179;go_wp2_with (go_at_call 84;refine(OL x _ d.out).mono ?_;rintro e w1 ⟨rfl,rfl⟩);go_ret;exact⟨GA<|Ci [45] [105,110,102],rfl⟩
def TW(a:Ieee.double.read x=.infinity false):∃r0,floatBits .mul .f64 x 4602678819172646912=some r0/\(Ieee.double.order r0 x==some .eq)=true:=by
 refine⟨Ieee.double.write<|.infinity<|false^^false,?_,?_⟩
 .show((Ieee.double.read x).product<|Ieee.double.read 4602678819172646912).map Ieee.double.write=_;rw[a];rfl
 rw[Ieee.Format.order];have:Ieee.double.read (Ieee.double.write<|.infinity<|false^^false)=.infinity false:=oo;rw[a];rfl
def PD{Z}(h:Fl.St Z m i)(b:m≠0):(O9 Z 0==some .eq)=false/\(O9 Z 0==some .lt)=false/\(O9 Z Z !=some .eq)=false:=by
 obtain⟨q,l,h1,h2,h3,h4,h5,c⟩:=Fl.Me h b;have a:(0:Int)<((q*2^(l+1074).toNat:Nat):Int):=Int.ofNat_lt.2<|Nat.mul_pos om<|OK _;refine⟨?_,?_,?_⟩
 .show(Ieee.double.order Z 0==some .eq)=false;rw[Fl.BG h1 Fl.Cq h2 om,Fl.Hw,Fl.Ef,Fl.Cf];simp only[decide_eq_false_iff_not];omega
 .show(Ieee.double.order Z 0==some .lt)=false;rw[Fl.BG h1 Fl.Cq h2 om,Fl.IW,Fl.Ef,Fl.Cf];simp only[decide_eq_false_iff_not];omega
 show(!(Ieee.double.order Z Z==some .eq))=false;rw[Fl.BG h1 h1 h2 h2];simp
def Wl{s}(a:Ieee.double.read x=.number s m i)(hi:-1074<=i)(hz:fz x=false):m≠0:=by
 intro e;subst e;have h:(Ieee.double.order x 0==some .eq)=false:=hz;rw[Fl.BG a Fl.Cq hi om,Fl.Ef,Fl.Ef]at h;simp at h
def YY(d:x<18446744073709551616)(hn:DU x=false)(hz:fz x=false){w}(g:B2 w):
  C9 210 #[F9 x] w (R9 (.string ⟨(EN x).toArray⟩) w):=by
 rcases Fl.Cl x with⟨s,m,i,a,hi,c,f,_⟩|⟨s,a⟩|⟨s,t,a⟩
 .have b:=Wl a hi hz;obtain⟨M,E,j,hc⟩:=P5 x d s m i a hi c f b;obtain⟨e1,e2⟩:=MG j<|Up m i b f;have e:EN x=Om s (2*M+1) E:=by unfold EN;rw[a,e1,e2]
  rw[e];exact hc w g
 .cases s
  .have e:EN x=[105,110,102]:=by unfold EN;rw[a];rfl
   rw[e];exact(YZ x w<|Fl.QT a).mono λe w' ⟨h1,h2⟩=>⟨h1,h2▸BE _ _⟩
  have e:EN x=[45,105,110,102]:=by unfold EN;rw[a];rfl
  rw[e];exact(VR x w (Fl.Wj a)<|Fl.QT<|by rw[Fl.Lb x d,a];rfl).mono λe w' ⟨h1,h2⟩=>⟨h1,h2▸BE _ _⟩
 have h:(!(Ieee.double.order x x==some .eq))=false:=hn;unfold Ieee.Format.order at h;rw[a]at h;simp[Ieee.Datum.order]at h
def ZL(l:x<18446744073709551616)(hn:DU x=false)(hz:fz x=false)w:
  C9 179 #[F9 x] w (R9 (.string ⟨(EN x).toArray⟩) w):=by
 rcases Fl.Cl x with⟨s,m,i,c,hi,d,j,_⟩|⟨s,c⟩|⟨s,t,c⟩
 .have a:=Wl c hi hz;have fin:∀M E,Tf m i M E->EN x=(if s then[45]else[])++Lib.itoa ((2*M+1:Nat):Int)++[112]++Lib.itoa E:=by
   intro M E k;obtain⟨e1,e2⟩:=MG k<|Up m i a j;rw[<-bX];unfold EN;rw[c,e1,e2]
  cases s
  focus
   have b:Fl.St x m i:=⟨m,i,c,hi,d,j,rfl⟩;obtain⟨g3,g2,g1⟩:=PD b a;obtain⟨r0,g,g5⟩:=Fl.XK b a;refine(Rm false x x m r0 i w rfl b a j hi d g1 g2 g3 g3 g g5).mono ?_
  rotate_left
  focus
   have f:Ieee.double.read (Op.negFloat .f64 x)=.number false m i:=by rw[Fl.Lb x l,c];rfl
   have b:Fl.St (Op.negFloat .f64 x) m i:=⟨m,i,f,hi,d,j,rfl⟩;obtain⟨g4,_,_⟩:=PD b a;obtain⟨r0,g,g5⟩:=Fl.XK b a;have n:(0:Int)<((m*2^(i+1074).toNat:Nat):Int):=Int.ofNat_lt.2<|Nat.mul_pos om<|OK _;have g2:(O9 x 0==some .lt)=true:=by
    show(Ieee.double.order x 0==some .lt)=true;rw[Fl.BG c Fl.Cq hi om,Fl.IW,Fl.Ef,Fl.Ej,Fl.Cf];simp only[decide_eq_true_eq];omega
   refine(Rm true x (Op.negFloat .f64 x) m r0 i w rfl b a j hi d hn g2 hz g4 g g5).mono ?_
  all_goals
   rintro e w' ⟨⟨M,E,k,rfl⟩,hb⟩;refine⟨?_,hb⟩;rw[fin M E k];rfl
 .cases s
  .have e:EN x=[105,110,102]:=by unfold EN;rw[c];rfl
   rw[e];obtain⟨r0,h1,h2⟩:=TW c;have g2:(O9 x 0==some .lt)=false:=by
    show(Ieee.double.order x 0==some .lt)=false;unfold Ieee.Format.order;rw[c];rfl
   exact(ZM x r0 w hn g2 hz h1 h2).mono λe w' ⟨h1,h2⟩=>⟨h1,h2▸BE _ _⟩
  have e:EN x=[45,105,110,102]:=by unfold EN;rw[c];rfl
  rw[e];have f:Ieee.double.read (Op.negFloat .f64 x)=.infinity false:=by rw[Fl.Lb x l,c];rfl
  obtain⟨r0,h1,h2⟩:=TW f;have g2:(O9 x 0==some .lt)=true:=by
   show(Ieee.double.order x 0==some .lt)=true;unfold Ieee.Format.order;rw[c];rfl
  have g4:(O9 (Op.negFloat .f64 x) 0==some .eq)=false:=by
   show(Ieee.double.order _ 0==some .eq)=false;unfold Ieee.Format.order;rw[f];rfl
  exact(WO x r0 w hn g2 g4 h1 h2).mono λe w' ⟨h1,h2⟩=>⟨h1,h2▸BE _ _⟩
 have h:(!(Ieee.double.order x x==some .eq))=false:=hn;unfold Ieee.Format.order at h;rw[c]at h;simp[Ieee.Datum.order]at h
def mZ x(a:x≠0)(h:x<2^53):Lib.ctz 64 x<=53:=by
 obtain⟨M,_,h2⟩:=Fl.N6 false x om h;have:Fl.uw false x=x:=rfl;rw[this]at h2;omega
def TI(hn:DU x=false)(hz:fz x=false):(EN x).length<=60:=by
 rcases Fl.Cl x with⟨s,m,i,a,hi,c,d,_⟩|⟨s,a⟩|⟨s,t,a⟩
 .have b:=Wl a hi hz;have hc:=mZ m b d;unfold EN;rw[a];unfold Om;have e:m/2^Lib.ctz 64 m/2<=m:=GP (Nat.div_le_self _ _)<|Nat.div_le_self _ _;have h1:=AaZ (Fl.sg s<|2*(m/2^Lib.ctz 64 m/2)+1) (by cases s<;>simp only[Fl.sg,XN]<;>omega) (by cases s<;>simp only[Fl.sg,XN]<;>omega);have h2:=AaZ (i+Lib.ctz 64 m) om om;grind
 .unfold EN;rw[a];cases s<;>decide
 unfold EN;rw[a];exact W9 _
def Dy(kind num:Int)(Af:Nat)(s:ByteArray)(ref:Int):Int:=
 if kind=4 then RW s.data.toList
 else if kind=3 then RW (EN Af)
 else if kind=2 then Qn (IntKind.u64.wrap num)
 else Qn (IntKind.u64.wrap<|IntKind.u64.wrap (kind*1099511627776+IntKind.u64.wrap num)+IntKind.u64.wrap ref)
structure HK (kind:Int) (Af:Nat) (s:ByteArray):Prop where
 str:s.size<=maxLen
 uZ:0<=kind
 uY:kind<=8
 Af:kind=3->Af<18446744073709551616/\DU Af=false/\fz Af=false
def TR num{Af}{s}ref{w}(h:HK kind Af s)(c:B2 w):
  C9 203 #[V kind num Af s ref] w (R9 (.int .u64<|Dy kind num Af s ref) w):=by
 have d:=h.uZ;have Dt:=h.uY;by_cases k4:kind=4
 .subst k4;have e:Dy 4 num Af s ref=RW s.data.toList:=by unfold Dy;rw[C3 rfl]
  rw[e];go_enter Tryz.func203,Tryz.ntmps203;go_wp2_with (go_at_call 209;refine(KN s _ h.str).mono ?_;rintro e w1 ⟨rfl,rfl⟩);go_ret;exact⟨rfl,n9⟩
 have b4:(kind==4)=false:=by simp[k4]
 by_cases k3:kind=3
 .subst k3;obtain⟨f1,f2,f3⟩:=h.Af rfl;have e:Dy 3 num Af s ref=RW (EN Af):=by unfold Dy;rw[Cs oo,C3 rfl]
  rw[e];have hl:=TI f2 f3;have b:Hid<|B2 w:=c;go_enter Tryz.func203,Tryz.ntmps203;go_wp2_with fail;refine m9 (YY f1 f2 f3<|b.out.below n9 b.out.sz) λw1 hb=>?_;go_wp2_with fail
  refine(KN ⟨(EN Af).toArray⟩ _<|by unfold maxLen;rw[show(ByteArray.mk (EN Af).toArray).size=(EN Af).length from by simp[ByteArray.size]];omega).mono ?_;rintro e w2 ⟨rfl,rfl⟩;go_wp2_with fail;go_ret;exact⟨oq,(n9).trans<|hb.mono oq⟩
 have b3:(kind==3)=false:=by simp[k3]
 by_cases k2:kind=2
 focus
  subst k2;have e:Dy 2 num Af s ref=Qn (IntKind.u64.wrap num):=by unfold Dy;rw[Cs oo,Cs oo,C3 rfl]
  rw[e];have a:=Da num;go_enter Tryz.func203,Tryz.ntmps203
 rotate_left
 focus
  have b2:(kind==2)=false:=by simp[k2]
  have e:Dy kind num Af s ref=Qn (IntKind.u64.wrap<|IntKind.u64.wrap (kind*1099511627776+IntKind.u64.wrap num)+IntKind.u64.wrap ref):=by unfold Dy;rw[Cs k4,Cs k3,Cs k2]
  rw[e];go_enter Tryz.func203,Tryz.ntmps203;have a:=Da<|IntKind.u64.wrap (kind*1099511627776+IntKind.u64.wrap num)+IntKind.u64.wrap ref
 all_goals
  go_wp2_with (go_at_call 211;refine(jX _ _ a.1 a.2).mono ?_;rintro e w1 ⟨rfl,rfl⟩)
  go_ret;exact⟨rfl,n9⟩
def VW num{Af}{s}ref w(h:HK kind Af s):
  C9 157 #[V kind num Af s ref] w (R9 (.int .u64<|Dy kind num Af s ref) w):=by
 have b:=h.uZ;have Dt:=h.uY;by_cases k4:kind=4
 .subst k4;have e:Dy 4 num Af s ref=RW s.data.toList:=by unfold Dy;rw[C3 rfl]
  rw[e];go_enter Tryz.func157,Tryz.ntmps157;go_wp2_with (go_at_call 178;refine(MD s _ h.str).mono ?_;rintro e w1 ⟨rfl,rfl⟩);go_ret;exact⟨rfl,n9⟩
 have b4:(kind==4)=false:=by simp[k4]
 by_cases k3:kind=3
 .subst k3;obtain⟨f1,f2,f3⟩:=h.Af rfl;have e:Dy 3 num Af s ref=RW (EN Af):=by unfold Dy;rw[Cs oo,C3 rfl]
  rw[e];have hl:=TI f2 f3;go_enter Tryz.func157,Tryz.ntmps157;go_wp2_with fail;refine m9 (ZL f1 f2 f3 _) λw1 hb=>?_;go_wp2_with fail
  refine(MD ⟨(EN Af).toArray⟩ _<|by unfold maxLen;rw[show(ByteArray.mk (EN Af).toArray).size=(EN Af).length from by simp[ByteArray.size]];omega).mono ?_;rintro e w2 ⟨rfl,rfl⟩;go_wp2_with fail;go_ret;exact⟨oq,(n9).trans<|hb.mono oq⟩
 have b3:(kind==3)=false:=by simp[k3]
 by_cases k2:kind=2
 focus
  subst k2;have e:Dy 2 num Af s ref=Qn (IntKind.u64.wrap num):=by unfold Dy;rw[Cs oo,Cs oo,C3 rfl]
  rw[e];have a:=Da num;go_enter Tryz.func157,Tryz.ntmps157
 rotate_left
 focus
  have b2:(kind==2)=false:=by simp[k2]
  have e:Dy kind num Af s ref=Qn (IntKind.u64.wrap<|IntKind.u64.wrap (kind*1099511627776+IntKind.u64.wrap num)+IntKind.u64.wrap ref):=by unfold Dy;rw[Cs k4,Cs k3,Cs k2]
  rw[e];go_enter Tryz.func157,Tryz.ntmps157;have a:=Da<|IntKind.u64.wrap (kind*1099511627776+IntKind.u64.wrap num)+IntKind.u64.wrap ref
 all_goals
  go_wp2_with (go_at_call 180;refine(Y7 _ _ a.1 a.2).mono ?_;rintro e w1 ⟨rfl,rfl⟩)
  go_ret;exact⟨rfl,n9⟩
end
section
open Go.RowKit
attribute [local go_sem] Ar Am
def cA(h:fz x=true):Cn x=true:=by
 have h':(Ieee.double.order x 0==some .eq)=true:=h;rcases Fl.Cl x with⟨s,m,i,a,hi,b,d,_⟩|⟨s,a⟩|⟨s,t,a⟩
 .rw[Fl.BG a Fl.Cq hi om,Fl.Ef]at h';have c:Fl.sc s m i=0:=by simpa using h'
  have hu:=Fl.Mp;have g:VI x=true:=by
   show(Ieee.double.order x 14114281232179134464==some .gt||Ieee.double.order x 14114281232179134464==some .eq)=true;rw[Fl.BG a Fl.Gf hi om,Fl.Ps,Fl.Kd,c];grind [fz]
  have l:Ui x=true:=by
   show(Ieee.double.order x 4890909195324358656==some .lt)=true;rw[Fl.BG a Fl.Ha hi om,Fl.Pq,Fl.IW];grind [fz]
  have hn:DU x=false:=by
   show(!(Ieee.double.order x x==some .eq))=false;rw[Fl.BG a a hi hi];simp
  grind [Cn,LM,Kb]
 .unfold Ieee.Format.order at h';rw[a,Fl.Cq]at h';cases s<;>simp[Ieee.Datum.order]at h'
 unfold Ieee.Format.order at h';rw[a]at h';simp[Ieee.Datum.order]at h'
def W7{num}{Af}{s}{ref}(h:A8 kind num Af s ref=true):0<=kind/\kind<=8:=by
 by_cases k0:kind=0;all_goals grind [A8]
end
section
open Go.RowKit
def I2 k n f s r:0<=Dy k n f s r/\Dy k n f s r<18446744073709551616:=by
 rw[Dy];split
 .exact QM _
 split
 .exact QM _
 split
 .exact O5 _
 exact O5 _
def hN(v:Vl):Nat:=(Dy v.kind v.num v.Af v.str v.ref).toNat
def XJ v:((hN v):Int)=Dy v.kind v.num v.Af v.str v.ref:=by
 have:=I2 v.kind v.num v.Af v.str v.ref;rw[hN];omega
structure Wf (v:Vl):Prop where
 Af:v.Af<18446744073709551616
 str:v.str.size<=maxLen
def cC(h:Cc v=true)(a:Wf v):HK v.kind v.Af v.str:=by
 unfold Cc Vl.ok at h;simp only[AaJ,ne_eq,Bool.not_eq_true',Bool.and_eq_false_iff,Bool.or_eq_false_iff,beq_eq_false_iff_ne]at h;obtain⟨⟨b,c⟩,h3⟩:=h;have hk:=W7 b;refine⟨a.str,hk.1,hk.2,λe=>?_⟩;rcases h3 with h3|h3
 .exact absurd e h3
 refine⟨a.Af,h3.1,?_⟩;rw[Bool.eq_false_iff];intro hz;rw[cA hz]at h3;exact absurd h3.2 oo
def tJ(h:Cc v=true)(a:Wf v):Yo v<|hN v:=
 ⟨by have:=I2 v.kind v.num v.Af v.str v.ref;have:=XJ v;omega,λw=>by rw[XJ];exact VW v.num v.ref w<|cC h a⟩
def qV(h:Cc v=true)(a:Wf v):PW B2 v<|hN v:=
 ⟨by have:=I2 v.kind v.num v.Af v.str v.ref;have:=XJ v;omega,λw b=>by rw[XJ];exact TR v.num v.ref (cC h a) b⟩
def A1:En B2:=λw w' a hb=>a.below hb a.sz
def S4(d:Dc):Prop:=∀i,i<d.n->Wf (d.L i).key/\Wf (d.L i).val
def hD(d:Dc)(i:Nat):Nat:=hN (d.L i).key
def pN lc{ia:Option Addr}ic{xa:Option Addr}xc{d}{w}(hA:Ea w la ia xa d)(a:Small d)(b:S4 d):
  C9 78 #[Dv la lc ia ic xa xc d] w (R9 (J<|BI d<|hD d) w):=
 WJ lc ic xc (hD d) hA a λi hi hk=>tJ hk (b i hi).1
def oG lc{ia:Option Addr}ic{xa:Option Addr}xc{d}{w}(a:B2 w)(hA:Ea w la ia xa d)(b:Small d)(c:S4 d):
  C9 274 #[Dv la lc ia ic xa xc d] w (R9 (J<|BI d<|hD d) w):=
 Ox A1 lc ic xc (hD d) a hA b λi hi hk=>qV hk (c i hi).1
end
section
open Go.ChangeShapes Go.WideShapes Go.ChangeAt Go.RowKit
theorem own:ownKnob Tryz.prog.godebug=none:=ou
def laidOut:laidOutB Tryz.prog=true:=ou
def uW:Fs Tryz.prog 31 3 2 29 9:=
 ⟨⟨_,_,_,_,_,Tryz.underlying31,rfl,rfl,rfl,rfl,rfl,rfl,rfl,rfl,rfl,rfl⟩,ou,ou,ou,ou,ou,Tryz.underlying3,Tryz.underlying2,Tryz.underlying29,Tryz.underlying9⟩
def Oi(h:(Lit.float .f64 b).wf=true):b<18446744073709551616:=by
 simpa[Lit.wf]using h
def ME:List (String×DataW Unit):=[("math/bits.deBruijn32tab",Rows.laid_math_bits_deBruijn32tab),("math/bits.deBruijn64tab",Rows.laid_math_bits_deBruijn64tab),("internal/strconv.uint64pow10",Rows.laid_internal_strconv_uint64pow10)]
def gF:List Nat:=[0,1,28,2,29,14,24,3,30,22,20,15,25,17,4,8,31,27,13,23,21,19,16,7,26,12,18,6,11,5,10,9]
def Gi(cs:Array Value):Obj->Obj
 |.cells _ t frozen=>.cells cs t frozen
 |o=>o
def Vf(w:Y):World:=
 {w with heap:=((w.heap.modify 4 (Gi (gF.map λn:Nat=>Value.int .u8 (n:Int)).toArray)).modify 2 (Gi (Lib.deBruijn64tab.map λn:Nat=>Value.int .u8 (n:Int)).toArray)).modify 3 (Gi (Lib.pow10Tab.map λn=>Value.int .u64 n).toArray)}
def rO(h:laidMetH Tryz.prog ME W):Lib.TabIs Tryz.prog W "math/bits.deBruijn64tab" .u8 (Lib.deBruijn64tab.map λn:Nat=>(n:Int)):=by
 have h1:=laidMetH.filter (λx=>x.1== "math/bits.deBruijn64tab") h;have e:(ME.filter λx=>x.1== "math/bits.deBruijn64tab")=[("math/bits.deBruijn64tab",Lib.tabData .u8 (Lib.deBruijn64tab.map λn:Nat=>(n:Int)))]:=ou;rw[e]at h1;exact Lib.tabIs_of_head (rest:=[]) (g:=2) ou (t:=326) ou Tryz.underlying326 Tryz.underlying5 ou ou h1
def mB(h:laidMetH Tryz.prog ME W):Lib.TabIs Tryz.prog W "internal/strconv.uint64pow10" .u64 Lib.pow10Tab:=by
 have h1:=laidMetH.filter (λx=>x.1== "internal/strconv.uint64pow10") h;have e:(ME.filter λx=>x.1== "internal/strconv.uint64pow10")=[("internal/strconv.uint64pow10",Lib.tabData .u64 Lib.pow10Tab)]:=ou;rw[e]at h1;exact Lib.tabIs_of_head (rest:=[]) (g:=3) ou (t:=333) ou Tryz.underlying333 Tryz.underlying244 ou ou h1
def uX:Tryz.prog.globalNamed "math/bits.deBruijn64tab" =some 2:=ou
def g10:Tryz.prog.globalNamed "internal/strconv.uint64pow10" =some 3:=ou
def vM:Tryz.prog.globalNamed "math/bits.deBruijn32tab" =some 4:=ou
def rN(h:laidMetH Tryz.prog ME W):Lib.TabIs Tryz.prog W "math/bits.deBruijn32tab" .u8 (gF.map λn:Nat=>(n:Int)):=by
 have h1:=laidMetH.filter (λx=>x.1== "math/bits.deBruijn32tab") h;have e:(ME.filter λx=>x.1== "math/bits.deBruijn32tab")=[("math/bits.deBruijn32tab",Lib.tabData .u8 (gF.map λn:Nat=>(n:Int)))]:=ou;rw[e]at h1;exact Lib.tabIs_of_head (rest:=[]) (g:=4) ou (t:=338) ou Tryz.underlying338 Tryz.underlying5 ou ou h1
def kY(h:laidMetH Tryz.prog ME W):B2 W:=by
 have a:=rO h;have b:=rN h;refine⟨?_,mB h,?_⟩
 .intro j hj;have:=a.cell uX j (by simpa using hj);rw[this];simp[hj]
 have c1:=IF _ _<|b.cell vM 0 oo;have c2:=IF _ _<|a.cell uX 0 oo;have c3:=IF _ _<|(mB h).cell g10 0 oo;simp only at c1 c2 c3;omega
end
section
open Go.ChangeShapes Go.WideShapes Go.ChangeAt Go.RowKit Go.Deep
section
variable {H:Type} {enc:TypeId×Value->H} {P:Program} {w:Y} {base:Nat} {spare:Nat->Bool} {held:Bool}
structure Gp (P:Program) (t a ti tn b ts:TypeId):Prop where
 st:∃f0 f1 f2:Field,P.underlying t=some (.struct #[f0,f1,f2])/\f0.type=a/\f1.type=a/\f2.type=ti/\f0.offset=0/\f1.offset=5/\f2.offset=10
 ct:P.cellsOf t=11
 vs:Fs P a ti tn b ts
def Zv{j k}(F:Gp P t j ti tn k ts){fuel}{cs}{x}(h:DataW.trod enc P w base spare held fuel t cs=some x):
  ∃p,cs=De p/\Wf p.key/\Wf p.val:=by
 obtain⟨f0,f1,f2,hu,t0,t1,t2,o0,o1,o2⟩:=F.st;obtain⟨xs,n,_,rfl,hl,a,hf⟩:=Aay hu h;rw[F.ct]at hl
 match cs,hl with
 |[c0,c1,c2,c3,c4,c5,c6,c7,m,o,l],_=>
  match xs,a with
  |[q,r,s],_=>
   rcases hf 0 f0 rfl,hf 1 f1 rfl,hf 2 f2 rfl with⟨f,h1,h2⟩;simp only[t0,t1,t2,o0,o1,o2,F.vs.ct,F.vs.ci,List.drop_zero,AaB,Aaz,List.take_zero,Aao]at f h1 h2;rcases Gg F.vs f,Gg F.vs h1,Wx F.vs.ui h2 with⟨⟨k0,k1,k2,k3,k4,g,_,_,b,c,_,_⟩,⟨v0,v1,v2,v3,v4,i,_,_,d,e,_,_⟩,⟨a2,e2,r2,w2⟩⟩;simp only[AaT,and_true]at g i e2;obtain⟨rfl,rfl,rfl,rfl,rfl⟩:=g;obtain⟨rfl,rfl,rfl,rfl,rfl⟩:=i;subst e2;exact⟨⟨⟨k0,k1,k2,k3,k4⟩,⟨v0,v1,v2,v3,v4⟩,a2⟩,rfl,⟨Oi b,c⟩,⟨Oi d,e⟩⟩
def Wy{o}(F:Gp P t o ti tn q ts)(r:P.underlying l=some (.slice t)){fuel}{cs}{x}(h:DataW.trod enc P w base spare held fuel l cs=some x):
  ∃a n cap f,cs=[.slice a n cap]/\n<=maxLen/\JX w a n f/\∀i,i<n->Wf (f i).key/\Wf (f i).val:=by
 rcases open_slice r h with⟨rfl,_⟩|⟨a,len,cap,m,n,D,Pl,rfl,hb,hl,C,k,rfl,s⟩
 .exact⟨none,0,0,λ_=>default,rfl,od,.inl rfl,λi hi=>om⟩
 have v:len<=m:=by rw[k];split<;>omega
 have each:∀i,i<len->∃p:Pr,(∀j u,(De p)[j]?=some u->w.cell? (a.add<|i*11+j)=some u)/\Wf p.key/\Wf p.val:=by
  intro i hi;obtain⟨A,h1,h2⟩:=s i om;rw[F.ct]at h1;obtain⟨p,rfl,w0,w1⟩:=Zv F h2;obtain⟨_,_,c⟩:=World.cells?_some h1;refine⟨p,λj u hu=>?_,w0,w1⟩;have hj:j<11:=by grind [De]
  have e:=c j hj;rw[add_add]at e;rw[e];simpa using hu
 obtain⟨f,hf⟩:=choose_lt each;refine⟨some a,len,cap,f,rfl,om,?_,λi hi=>(hf i hi).2⟩;by_cases B:len=0
 .exact .inl B
 right;obtain⟨b,off,spot⟩:=a;have g:=(hf 0 om).1 0 _ rfl;have d:spot=none:=by simpa[Addr.add]using World.cell?_spot g
 subst d;refine⟨b,off,rfl,?_,λi hi=>?_⟩
 .have:=IF _ _ g;simpa[Addr.add]using this
 refine Ex.of λj u hu=>?_;have:=(hf i hi).1 j u hu;rw[add_plain]at this;rw[Nat.add_assoc];exact this
def Rf{k}(ui:P.underlying ti=some (.int .i64))(ci:P.cellsOf ti=1)(l:P.underlying k=some (.slice ti)){fuel}{cs}{x}(h:DataW.trod enc P w base spare held fuel k cs=some x):
  ∃a n cap f,cs=[.slice a n cap]/\n<=maxLen/\JP w a n f:=by
 rcases open_slice l h with⟨rfl,_⟩|⟨a,len,cap,m,n,D,Pl,rfl,hb,hl,s,j,rfl,o⟩
 .exact⟨none,0,0,λ_=>0,rfl,od,.inl rfl⟩
 have p:len<=m:=by rw[j];split<;>omega
 have each:∀i,i<len->∃v:Int,w.cell? (a.add i)=some (J v):=by
  intro i hi;obtain⟨q,h1,h2⟩:=o i om;rw[ci]at h1;obtain⟨v,rfl,_,_⟩:=Wx ui h2;obtain⟨_,_,c⟩:=World.cells?_some h1;have e:=c 0 om;rw[add_add]at e;exact⟨v,by simpa using e⟩
 obtain⟨f,hf⟩:=choose_lt each;refine⟨some a,len,cap,f,rfl,om,?_⟩;by_cases r:len=0
 .exact .inl r
 right;obtain⟨b,off,spot⟩:=a;have g:=hf 0 om;have d:spot=none:=by simpa[Addr.add]using World.cell?_spot g
 subst d;refine⟨b,off,rfl,?_,λi hi=>?_⟩
 .have:=IF _ _ g;simpa[Addr.add]using this
 have:=hf i hi;rw[add_plain]at this;exact this
structure Gd (P:Program) (t tL a b c ti tn d ts:TypeId):Prop where
 st:∃f0 f1 f2 f3 f4 f5:Field,P.underlying t=some (.struct #[f0,f1,f2,f3,f4,f5])/\f0.type=tL/\f1.type=a/\f2.type=a/\f3.type=ti/\f4.type=ti/\f5.type=ti/\f0.offset=0/\f1.offset=1/\f2.offset=2/\f3.offset=3/\f4.offset=4/\f5.offset=5
 ct:P.cellsOf t=6
 cl:P.cellsOf tL=1
 ck:P.cellsOf a=1
 uL:P.underlying tL=some (.slice b)
 uI:P.underlying a=some (.slice ti)
 ps:Gp P b c ti tn d ts
def Zt{tL g j k}(F:Gd P t tL g j k ti tn l ts){fuel}{cs}{x}(h:DataW.trod enc P w base spare held fuel t cs=some x):
  ∃la lc ia ic xa xc d,cs=[.slice la d.n lc,.slice ia d.m ic,.slice xa d.x xc,J d.used,J d.live,J d.turns]/\Ea w la ia xa d/\mN d/\S4 d:=by
 obtain⟨f0,f1,f2,f3,f4,f5,hu,t0,t1,t2,t3,t4,t5,o0,o1,o2,o,p,q⟩:=F.st;obtain⟨xs,n,_,rfl,hl,a,hf⟩:=Aay hu h;rw[F.ct]at hl
 match cs,hl with
 |[c0,c1,c2,c3,c4,c5],_=>
  match xs,a with
  |[K,L,M,Q,R,S],_=>
   rcases hf 0 f0 rfl,hf 1 f1 rfl,hf 2 f2 rfl,hf 3 f3 rfl,hf 4 f4 rfl,hf 5 f5 rfl with⟨c,h1,h2,h3,h4,h5⟩;simp only[t0,t1,t2,t3,t4,t5,o0,o1,o2,o,p,q,F.cl,F.ck,F.ps.vs.ci,List.drop_zero,AaB,Aaz,List.take_zero,Aao]at c h1 h2 h3 h4 h5;rcases Wy F.ps F.uL c,Rf F.ps.vs.ui F.ps.vs.ci F.uI h1,Rf F.ps.vs.ui F.ps.vs.ci F.uI h2,Wx F.ps.vs.ui h3,Wx F.ps.vs.ui h4,Wx F.ps.vs.ui h5 with⟨⟨la,r,lc,s,e0,n0,pL,b⟩,⟨ia,u,ic,v,e1,A,B⟩,⟨xa,C,xc,D,e2,E,I⟩,⟨a3,e3,r3,w3⟩,⟨a4,e,T,w4⟩,⟨a5,f,U,w5⟩⟩;simp only[AaT,and_true]at e0 e1 e2 e3 e f;subst e0 e1 e2 e3 e f;exact⟨la,lc,ia,ic,xa,xc,⟨r,s,u,v,C,D,a3,a4,a5⟩,rfl,⟨pL,B,I⟩,⟨n0,A,E,λi hi=>⟨(b i hi).1.str,(b i hi).2.str⟩⟩,b⟩
end
def vQ:Gp Tryz.prog 240 31 3 2 29 9:=⟨⟨_,_,_,Tryz.underlying240,rfl,rfl,rfl,rfl,rfl,rfl⟩,ou,uW⟩
def vO:Gd Tryz.prog 93 90 91 240 31 3 2 29 9:=⟨⟨_,_,_,_,_,_,Tryz.underlying93,rfl,rfl,rfl,rfl,rfl,rfl,rfl,rfl,rfl,rfl,rfl,rfl⟩,ou,ou,ou,Tryz.underlying90,Tryz.underlying91,vQ⟩
end
section
open Go.RowKit
def Dw(n:Nat):Prop:=n≠0/\n<=200
def Bp(f:Nat->A9):Prop:=(f 0).parent=-1/\(f 0).key.toList=[]/\(f 0).count=0
def Yp(f:Nat->A9)(i:Nat):Prop:=0<=(f i).parent/\(f i).parent<i/\(f i).count=(f (f i).parent.toNat).count+1/\(f i).count<=12/\(f i).key.size<=4000
def Bf(n:Nat)(f:Nat->A9):Prop:=∀i,1<=i->i<n->Yp f i
def Twin(f:Nat->A9)(k i:Nat):Prop:=(f k).parent=(f i).parent/\(f k).key.toList=(f i).key.toList
def FW(n:Nat)(f:Nat->A9):Prop:=∀i k,1<=k->k<i->i<n->¬Twin f k i
def PT(f:Nat->A9)(i:Nat):Nat->Int
 |0=>(f i).parent
 |t+1=>(f (PT f i t).toNat).parent
def IL(n:Nat)(f:Nat->A9):Prop:=∀i t,1<=i->i<n->(∀s,s<=t->0<PT f i s)->(f (PT f i t).toNat).key.toList≠(f i).key.toList
open Classical in
noncomputable def Aq(n:Nat)(f:Nat->A9):Int:=
 if Dw n then if Bp f then if Bf n f then if FW n f then if IL n f then 0 else 5 else 4 else 3 else 2 else 1
def QO(h:¬Dw n):Aq n f=1:=Cs h
def QP(h1:Dw n)(h:¬Bp f):Aq n f=2:=by unfold Aq;rw[C3 h1,Cs h]
def FM(h1:Dw n)(h2:Bp f)(h:¬Bf n f):Aq n f=3:=by unfold Aq;rw[C3 h1,C3 h2,Cs h]
def QQ(h1:Dw n)(h2:Bp f)(h3:Bf n f)(h:¬FW n f):Aq n f=4:=by unfold Aq;rw[C3 h1,C3 h2,C3 h3,Cs h]
def QR(h1:Dw n)(h2:Bp f)(h3:Bf n f)(h4:FW n f)(h:¬IL n f):Aq n f=5:=by unfold Aq;rw[C3 h1,C3 h2,C3 h3,C3 h4,Cs h]
def LS(h1:Dw n)(h2:Bp f)(h3:Bf n f)(h4:FW n f)(h:IL n f):Aq n f=0:=by unfold Aq;rw[C3 h1,C3 h2,C3 h3,C3 h4,C3 h]
def below_drewN{B}{a:Y}(h:Below B a w)m:Below B a<|w.drewN m:=⟨h.os,h.tape,h.output,h.size,h.block⟩
theorem A7(h2:Bp f)(h:∀j,1<=j->j<k->Yp f j):∀j,j<k->0<=(f j).count/\(f j).count<=12:=by
 intro j
 induction j using Nat.strongRecOn with
 |ind j ih=>
  intro hj;by_cases e:j=0
  .subst e;have:=h2.2.2;omega
  obtain⟨a,b,c,d,_⟩:=h j om hj;have:=(ih (f j).parent.toNat om om).1;omega
def Va(h3:Bf n f){i}(h1:1<=i)(hi:i<n):∀t,(∀s,s<t->0<PT f i s)->0<=PT f i t/\PT f i t<i:=by
 intro t
 induction t with
 |zero=>intro _;obtain⟨a,b,_⟩:=h3 i h1 hi;exact⟨a,b⟩
 |succ t ih=>
  intro h;obtain⟨_,hb⟩:=ih λs hs=>h s om;have c:=h t om;obtain⟨a,b,_⟩:=h3 (PT f i t).toNat om om;exact⟨a,by show(f (PT f i t).toNat).parent<i;omega⟩
def SF cap{f}{w}(hA:Bg w b n f)(hn:n<=1048576):
  C9 41 #[.agg #[S9 b n cap]] w (R9 (J<|Aq n f) w):=by
 have hl:=hA.lt;have x:=O hA;have D:0<n->w.cell? (G b 0)=some (J (f 0).parent):=λh=>by simpa using (hA.cells h).1
 have E:0<n->w.cell? (G b 1)=some (.string (f 0).key):=λh=>by simpa using (hA.cells h).2.1
 have F:0<n->w.cell? (G b 2)=some (J (f 0).count):=λh=>by simpa using (hA.cells h).2.2
 clear hA;by_cases h1:Dw n
 case neg=>
  have HR:=O<|QO (f:=f) h1;by_cases h0:n=0
  focus
   subst h0
  rotate_left
  focus
   have h2:200<n:=by unfold Dw at h1;omega
  all_goals
   clear h1 D E F;go_enter Tryz.func41,Tryz.ntmps41;go_wp2;go_ret;exact⟨qg HR,n9⟩
 have H:0<n:=by unfold Dw at h1;omega
 rcases D H,E H,F H with⟨c0,c1,c2⟩;have h2:((n:Int)==0)=false:=by grind
 have h3:(n:Int)<=200:=by unfold Dw at h1;omega
 clear D E F;go_enter Tryz.func41,Tryz.ntmps41;go_wp2;all_goals try(go_ret;refine⟨?_,(n9).alloc oq _⟩;rw[QP h1 (by simp_all [Bp])];rfl)
 have A:Bp f:=by simp_all [Bp]
 clear c0 c1 c2;go_loopw [5] (λi wr=>∃k:Nat,1<=k/\k<=n/\i=J k/\B9 w wr/\wr.cell? (y w 0)=some (S9 b n cap)/\w.heap.size<wr.heap.size/\∀j,1<=j->j<k->Yp f j) λi _=>n-(intOf i).toNat
 .exact⟨1,om,om,rfl,(n9).alloc oq _,oe,oe,λj h1 h2=>om⟩
 obtain⟨k,q,hk,rfl,hb,a,L,o⟩:=hrel;have c0:k<n->wr.cell? (G b<|k*3)=some (J (f k).parent):=λh=>((x.below hb hl).cells h).1;have c1:k<n->wr.cell? (G b<|k*3+1)=some (.string (f k).key):=λh=>((x.below hb hl).cells h).2.1;have c2:k<n->wr.cell? (G b<|k*3+2)=some (J (f k).count):=λh=>((x.below hb hl).cells h).2.2;have d:=O hb;have c:=O o;clear hb o;go_wp2
 .have g:k<n:=ol;by_cases hA:(f k).parent<0
  .have r:=O<|FM h1 A λh=>oS (h k q g).1;have I:decide ((f k).parent<0)=true:=by simp_all
   go_quiet (fail);go_wp2;go_ret;exact⟨qg r,below_drewN (d.alloc om _) _⟩
  have I:decide ((f k).parent<0)=false:=by simp_all
  by_cases hB:(k:Int)<=(f k).parent
  .have r:=O<|FM h1 A λh=>oS (h k q g).2.1;have B:decide ((k:Int)<=(f k).parent)=true:=by simp_all
   go_quiet (fail);go_wp2;go_ret;exact⟨qg r,below_drewN (d.alloc om _) _⟩
  have B:decide ((k:Int)<=(f k).parent)=false:=by simp_all
  obtain⟨p,hp⟩:∃p:Nat,(f k).parent=p:=⟨(f k).parent.toNat,om⟩;have U:p<k:=om;have C:p<n:=om;obtain⟨V,ad⟩:=A7 A c p U;have e2:=((x.below d hl).cells C).2.2;rw[hp]at hA hB I B c0 ⊢;have v:=O hp;have ae:=A0 hl d.size;clear hp;have hw:IntKind.i64.wrap ((f p).count+1)=(f p).count+1:=oj;by_cases M:(f k).count=(f p).count+1
  case neg=>
   have r:=O<|FM h1 A (λh=>by have:=(h k q g).2.2.1;rw[z v]at this;exact M this);go_quiet (fail);go_wp2;go_ret;exact⟨qg r,below_drewN (d.alloc om _) _⟩
  have af:((f k).count !=(f p).count+1)=false:=by simp_all
  by_cases hD:12<(f k).count
  .have r:=O<|FM h1 A λh=>oS (h k q g).2.2.2.1;clear M;go_quiet (fail);go_wp2;go_ret;exact⟨qg r,below_drewN (d.alloc om _) _⟩
  by_cases hE:(4000:Int)<(f k).key.size
  .have r:=O<|FM h1 A λh=>oS (h k q g).2.2.2.2;clear M;go_quiet (fail);go_wp2;go_ret;exact⟨qg r,below_drewN (d.alloc om _) _⟩
  have HO:Hid<|Yp f k:=O ⟨by rw[z v];omega,by rw[z v];omega,by rw[z v];exact M,om,om⟩;clear M;go_quiet (fail);go_wp2;go_roundw
  .refine⟨k+1,om,om,oq,below_drewN (d.alloc om _) _,by simp[go_sem,a,L],ot,λj h1 h2=>?_⟩;by_cases e:j=k
   .rw[e];exact HO
   exact c j h1 om
  exact ow
 have K:Bf n f:=λi h1 h2=>c i h1 om;clear c c0 c1 c2;go_loopw [7] (λi wr=>∃k:Nat,1<=k/\k<=n/\i=J k/\B9 w wr/\wr.cell? (y w 0)=some (S9 b n cap)/\∀i j,1<=j->j<i->i<k->¬Twin f j i) λi _=>n-(intOf i).toNat
 .exact⟨1,om,om,rfl,d,a,λi j h1 h2 h3=>om⟩
 clear d a L q hk;obtain⟨k2,q,hk,rfl,hb,a,o⟩:=hrel;have d:=O hb;have c:=O o;clear hb o;go_wp2
 .have g:k2<n:=ol;go_loopw [8] (λi wr=>∃j:Nat,1<=j/\j<=k2/\i=J j/\B9 w wr/\wr.cell? (y w 0)=some (S9 b n cap)/\∀l,1<=l->l<j->¬Twin f l k2) λi _=>k2-(intOf i).toNat
  .exact⟨1,om,om,rfl,d,a,λl h1 h2=>om⟩
  clear d a;obtain⟨j,W,hj,rfl,hb,a,JS⟩:=hrel;have d:=O hb;have u:=O JS;clear hb JS;go_wp2
  .have P:j<k2:=ol;obtain⟨a0,a1,_⟩:=(x.below d hl).cells (show j<n by omega);obtain⟨b0,b1,_⟩:=(x.below d hl).cells g;have ag:j<n:=om;by_cases Q:(f j).parent=(f k2).parent
   focus
    have I:((f j).parent==(f k2).parent)=true:=by simp_all
    by_cases hK:(f j).key.toList=(f k2).key.toList
    .have B:((f j).key.toList==(f k2).key.toList)=true:=by simp_all
     have r:=O<|QQ h1 A K λh=>h k2 j W P g ⟨Q,hK⟩;clear Q hK;go_quiet (fail);go_wp2;go_ret;exact⟨qg r,below_drewN d _⟩
    have B:((f j).key.toList==(f k2).key.toList)=false:=by simp_all
    have HT:Hid<|¬Twin f j k2:=O λh=>hK h.2;clear Q hK
   rotate_left
   focus
    have I:((f j).parent==(f k2).parent)=false:=by simp_all
    have HT:Hid<|¬Twin f j k2:=O λh=>Q h.1;clear Q
   all_goals
    go_quiet (fail);go_wp2;go_roundw
    .refine⟨j+1,om,om,oq,below_drewN d _,by simp_all,λl h1 h2=>?_⟩;by_cases e:l=j
     .rw[e];exact HT
     exact u l h1 om
    exact ow
  go_roundw
  case rel=>
   refine⟨k2+1,om,om,oq,d,a,λi l h1 h2 h3=>?_⟩;by_cases e:i=k2
   .rw[e]at h2 ⊢;exact u l h1 om
   exact c i l h1 h2 om
  case measure=>exact ow
 have H4:FW n f:=λi j h1 h2 h3=>c i j h1 h2 om;clear c;go_loopw [9] (λi wr=>∃k:Nat,1<=k/\k<=n/\i=J k/\B9 w wr/\wr.cell? (y w 0)=some (S9 b n cap)/\∀i t,1<=i->i<k->(∀s,s<=t->0<PT f i s)->(f (PT f i t).toNat).key.toList≠(f i).key.toList) λi _=>n-(intOf i).toNat
 .exact⟨1,om,om,rfl,d,a,λi t h1 h2 h3=>om⟩
 clear d a q hk;obtain⟨k3,q,hk,rfl,hb,a,o⟩:=hrel;have a0:k3<n->wr.cell? (G b<|k3*3)=some (J (f k3).parent):=λh=>((x.below hb hl).cells h).1;have d:=O hb;have c:=O o;clear hb o;go_wp2
 .have g:k3<n:=ol;clear a0;go_loopw [10] (λm wr=>∃t:Nat,m=J (PT f k3 t)/\B9 w wr/\wr.cell? (y w 0)=some (S9 b n cap)/\∀s,s<t->0<PT f k3 s/\(f (PT f k3 s).toNat).key.toList≠(f k3).key.toList) λm _=>(intOf m).toNat
  .exact⟨0,rfl,d,a,λs h=>om⟩
  clear d a;obtain⟨t,rfl,hb,a,JS⟩:=hrel;obtain⟨X,Z⟩:=Va K q g t λs hs=>(JS s hs).1;obtain⟨p,hp⟩:∃p:Nat,PT f k3 t=p:=⟨(PT f k3 t).toNat,om⟩;have C:p<n:=om;rw[hp];have v:=O hp;clear hp X Z;rcases (x.below hb hl).cells C,(x.below hb hl).cells g,O hb,O JS with⟨⟨a0,a1,_⟩,⟨_,b1,_⟩,d,u⟩;clear hb JS;go_wp2
  .have V:0<p:=ol;have R:∀s,s<=t->0<PT f k3 s:=λs hs=>by
    by_cases e:s=t
    .rw[e,z v];omega
    exact(u s om).1
   have S:=O R;clear R;by_cases hK:(f p).key.toList=(f k3).key.toList
   .have I:((f p).key.toList==(f k3).key.toList)=true:=by simp_all
    have r:=O<|QR h1 A K H4 λh=>h k3 t q g S (by rw[z v];exact hK);clear hK;go_quiet (fail);go_wp2;go_ret;exact⟨qg r,below_drewN d _⟩
   have I:((f p).key.toList==(f k3).key.toList)=false:=by simp_all
   have HK:=O hK;have T:PT f k3 (t+1)=(f p).parent:=by show(f (PT f k3 t).toNat).parent=_;rw[z v];rfl
   have HX:=O T;clear hK T;go_quiet (fail);go_wp2;go_roundw
   .refine⟨t+1,qg HX,below_drewN d _,by simp_all,λs hs=>?_⟩;by_cases e:s=t
    .rw[e,z v];exact⟨om,HK⟩
    exact u s om
   have:=(Va K q g (t+1) λs hs=>S s om).1;obtain⟨_,h5,_⟩:=z K p om C;exact ow
  go_roundw
  .refine⟨k3+1,om,om,oq,d,a,λi s h1 h2 h3=>?_⟩;by_cases e:i=k3
   .rw[e]at h3 ⊢;by_cases hs:s<t
    .exact(u s hs).2
    have:=h3 t om;rw[z v]at this;omega
   exact c i s h1 om h3
  exact ow
 have H5:IL n f:=λi t h1 h2 h3=>c i t h1 om h3;have r:=O<|LS h1 A K H4 H5;go_ret;exact⟨qg r,d⟩
end
section
open Go.RowKit
def Ed(f:Nat->A9)(i:Nat):Nat->Nat
 |0=>i
 |t+1=>(f<|Ed f i t).parent.toNat
def nf(f:Nat->A9)(i:Nat):Nat:=(f i).count.toNat
def DK(f:Nat->A9)(i j:Nat):ByteArray:=(f<|Ed f i<|nf f i-1-j).key
theorem G0(h2:Bp f)(h3:Bf n f){i}(hi:i<n)(e:0<i):1<=(f i).count/\(f i).count<=12:=by
 obtain⟨a,b,c,d,_⟩:=h3 i e hi;have:=(A7 h2 (λj h1 h2=>h3 j h1 h2) (f i).parent.toNat om).1;omega
theorem EX(h2:Bp f)(h3:Bf n f){i}(hi:i<n):∀t,t<=nf f i->Ed f i t<n/\(f<|Ed f i t).count=nf f i-t:=by
 intro t
 induction t with
 |zero=>
  intro _;have:=(A7 h2 (λj h1 h2=>h3 j h1 h2) i hi).1;exact⟨hi,by show(f i).count=_;unfold nf;omega⟩
 |succ t ih=>
  intro h;obtain⟨d,hc⟩:=ih om;have g:0<Ed f i t:=by
   rcases Aav (Ed f i t)with e|e
   .rw[e,h2.2.2]at hc;omega
   exact e
  obtain⟨a,b,c,_⟩:=h3 _ g d;exact⟨by show(f<|Ed f i t).parent.toNat<n;omega,by show(f (f<|Ed f i t).parent.toNat).count=_;omega⟩
def XT:(Tryz.prog.info? 9).map (λi=>(i.zero,i.size,i.bytes))=some (some<|E9,1,16):=ou
def lQ(w:Y)(b n:Nat)(g:Nat->ByteArray):Prop:=w.rowIs b 9 n λj=>.string<|g j
def Hz cap i{f}{w}(hA:Bg w b n f)(h1:Dw n)(h2:Bp f)(h3:Bf n f)(hi:i<n):
  C9 95 #[.agg #[S9 b n cap],J i] w λe w'=>(∃m,e=.returned (S9 m (nf f i)<|nf f i)/\w.heap.size<=m/\lQ w' m (nf f i) (DK f i))/\B9 w w':=by
 have hl:=hA.lt;obtain⟨H,I⟩:=A7 h2 (λj h1 h2=>h3 j h1 h2) i hi;obtain⟨c,hc⟩:∃c:Nat,(f i).count=c:=⟨(f i).count.toNat,om⟩;have A:nf f i=c:=by unfold nf;omega
 have E:c<=12:=om;have K:=run_make_row' 182 9 E9 16 Tryz.underlying182 XT rfl .i64 .i64 c om om;obtain⟨a0,a1,a2⟩:=hA.cells hi;rw[hc]at a2;have k:=O A;go_enter Tryz.func95,Tryz.ntmps95;go_wp2;go_loopw [5,7] (λq s wr=>∃(t:Nat) (g:Nat->Value),t<=c/\q=J ((c:Int)-t)/\s=J (Ed f i t)/\B9 w wr/\wr.cell? (y w 0)=some (S9 b n cap)/\wr.rowIs (w.heap.size+1) 9 c g/\∀j,c-t<=j->j<c->g j=.string (DK f i j)) λq s _=>(intOf s).toNat
 .exact⟨0,λ_=>E9,om,oq,rfl,(n9).alloc oq _,oe,by simpa using World.rowIs_made (w.alloc<|.cells #[S9 b n cap] 38) E9 c 9,λj h1 h2=>om⟩
 obtain⟨t,g,L,rfl,rfl,hb,l,a,h⟩:=hrel;obtain⟨d,o⟩:=EX h2 h3 hi t (by rw[z k];exact L);rw[z k]at o;obtain⟨p,hp⟩:=qa<|Ed f i t;rw[hp]at d o ⊢;have F:=O hp;obtain⟨a0,a1,a2⟩:=(hA.below hb hl).cells d;by_cases B:p=0
 .subst B;have u:c=t:=oS h2.2.2;subst u;rcases O hb,O a,O h with⟨M,P,v⟩;go_wp2;go_ret;refine⟨⟨w.heap.size+1,qg k,om,?_⟩,M⟩;rw[z k];exact P.congr λj hj=>v j om hj
 have x:0<p:=om;obtain⟨C,Q,_⟩:=h3 p x d;have u:t<c:=oS (G0 h2 h3 d x).1;obtain⟨r,S⟩:∃r:Nat,r+1=c-t:=⟨c-t-1,om⟩;have er:(c:Int)-t=(r:Int)+1:=om;rw[er];have D:r<c:=om;have d0:=a.cell D;have d1:=a.frozen r;have R:Hid<|DK f i r=(f p).key:=O (by unfold DK;rw[z k,show c-1-r=t by omega,z F]);have T:=O er;go_wp2;go_roundw
 .refine⟨t+1,_,om,by congr 1;omega,?_,(z<|O hb).setCell (by show _<=w.heap.size+1;omega) _,by simpa[go_sem]using l,(z<|O a).set r _,λj h1 h2=>?_⟩
  .show Value.int .i64 (f p).parent=J ((f<|Ed f i t).parent.toNat:Int);rw[z F,Int.toNat_of_nonneg C]
  by_cases e:j=r
  .subst e;simp[z R]
  simp only[e,XN];exact z (O h) j om h2
 exact ow
def DG b n cap i w:
  C9 79 #[.agg #[S9 b n cap],J i] w (R9 (.bool<|decide (0<=i)&&decide (i<n)) w):=by
 go_enter Tryz.func79,Tryz.ntmps79;go_wp2;all_goals(go_ret;refine⟨?_,n9⟩;first|(simp_all;done)|(simp_all;omega))
theorem Av(h:Aq n f=0):Dw n/\Bp f/\Bf n f/\FW n f/\IL n f:=by
 grind [Aq,Bp,FW]
end
section
open Go.RowKit
open Go.Maps Keyed
def pW(v:V9):Option<|DataW Value×List MemPlace:=some (.held v,[])
def CY(P:Program)(K:TypeId)(w:Y)(m n:Nat)(g:Value->Value):Prop:=
 ∃D,w.ownsMap P K pW m n D/\∀key a,keyOf P K key=some a->D.atKey a (.held<|.pointer none)=.held (g key)
def CY.made P K(w:Y):CY P K (w.alloc<|.map #[] 0) w.heap.size 0 λ_=>.pointer none:=
 ⟨_,World.ownsMap_made w P K pW,λkey a h=>rfl⟩
def CY.isMap(h:CY P K w m n g):∃es c,w.heap[m]?=some (.map es c):=by
 obtain⟨D,⟨es,c,hb,_⟩,_⟩:=h;exact⟨es,c,hb⟩
def CY.block(h:CY P K w m n g)(e:w'.heap[m]?=w.heap[m]?):CY P K w' m n g:=by
 obtain⟨D,⟨es,c,hb,F,hs,hD⟩,hl⟩:=h;exact⟨D,⟨es,c,e.trans hb,F,hs,hD⟩,hl⟩
def CY.mono{n'}(h:CY P K w m n g)(hn:n<=n'):CY P K w m n' g:=by
 obtain⟨D,a,hl⟩:=h;exact⟨D,a.mono hn,hl⟩
def CY.look{e}(h:CY P K w m n g)(L:Keyed P K)(d:P.underlying t=some (.map K e))(hz:(zeroValue e).run P w=.ok (.pointer none) w){key:V9}{c}(hk:keyOf P K key=some c):
  (Instr.lookup t (.map<|some m) key false).run P w=.ok (g key) w:=by
 obtain⟨D,f,hl⟩:=h;obtain⟨v,ps,a,b⟩:=f.lookup L d hz rfl hk;rw[hl key c hk]at b;unfold pW at b;simp at b;rw[a,b.1]
open Classical in
def CY.put{e:TypeId}(h:CY P K w m n g)(L:Keyed P K)(l:P.underlying t=some (.map K e))(hn:n<maxLen){key:V9}(val:V9){i:Lit}(hk:keyOf P K key=some i):
  ∃w',(Instr.mapUpdate t (.map<|some m) key val).run P w=.ok () w'/\CY P K w' m (n+1) (λk=>if k=key then val else g k)/\w.grownBy w' (some m):=by
 obtain⟨D,j,hl⟩:=h;obtain⟨w',b,f,o⟩:=j.update L l hn hk (d:=.held val) (ps:=[]) rfl;refine⟨w',b,⟨_,f,λk' c a=>?_⟩,o⟩;by_cases e:k'=key
 .subst e;have:c=i:=by rw[hk]at a;exact(Aah a).symm
  subst this;show _=DataW.held (if k'=k' then val else g k');rw[C3 rfl];exact Maps.atKey_put_same j.isMap (L.key hk) _ _
 show _=DataW.held (if k'=key then val else g k');rw[Cs e,Maps.atKey_put_other (λe2=>e (L.inj a (by rw[e2];exact hk)))];exact hl k' c a
def BS(i:Nat)(s:A9)(par:T9)(m:Option Nat):Nat->Value
 |0=>J i
 |1=>J s.parent
 |2=>.string s.key
 |3=>J s.count
 |4=>.pointer par
 |_=>.map m
abbrev Ka(s:A9):Value:=Sh s.parent s.key s.count
abbrev AD(f:Nat->A9)(i:Nat):Nat:=(f i).parent.toNat
def RG{a b}(h:Ka a=Ka b):a=b:=by
 cases a;cases b;simp at h;simp[h]
def Kids(f:Nat->A9)(k:Nat)(B Z:Nat->Nat)(i:Nat)(g:Value->Value):Prop:=
 ∀v,(∃j,0<j/\j<k/\Z j=j/\Z (AD f j)=i/\v=Ka (f j)/\g v=Q9 (B j))\/
  (g v=.pointer none/\∀j,0<j->j<k->Z j=j->Z (AD f j)=i->Ka (f j)≠v)
def CT(f:Nat->A9)(B:Nat->Nat)(i:Nat):Option Addr:=if i=0 then none else some (G (B<|AD f i) 0)
structure Nodes (P:Program) (K a:TypeId) (w:Y) (f:Nat->A9) (b0 k:Nat) (B N:Nat->Nat) (M:Nat->Option Nat):Prop where
 pos:0<k
 n0:N 0=0
 le:∀i,i<k->N i<=i
 own:∀i,i<k->N (N i)=N i
 same:∀i,i<k->f (N i)=f i
 one:∀i j,i<k->j<k->f i=f j->N i=N j
 Bw:∀i,i<k->B (N i)=B i
 base:∀i,i<k->b0<=B i
 node:∀i,i<k->N i=i->w.rowIs (B i) a 6 (BS i (f i) (CT f B i)<|M i)
 apart:∀i j,i<k->j<k->N i=i->N j=j->B i=B j->i=j
 mbase:∀i m,i<k->N i=i->M i=some m->b0<=m
 LY:∀i j m,i<k->j<k->N i=i->N j=j->M i=some m->M j=some m->i=j
 bare:∀i,i<k->N i=i->M i=none->∀j,0<j->j<k->N j=j->N (AD f j)≠i
 kids:∀i m,i<k->N i=i->M i=some m->∃g,CY P K w m k g/\Kids f k B N i g
def DQ(a:TypeId)(w:Y)(b:Nat):Prop:=(∃c,w.heap[b]?=some (.cells c a (0,0)))\/∃es c,w.heap[b]?=some (.map es c)
def Nodes.keep(h:Nodes P K a w f b0 k B Z M)(hk:∀b,DQ a w b->w'.heap[b]?=w.heap[b]?):Nodes P K a w' f b0 k B Z M:=
 {h with
  node:=λi hi hn=>(h.node i hi hn).of_block (hk _<|by obtain⟨c,hb,_⟩:=h.node i hi hn;exact .inl ⟨c,hb⟩)
  kids:=λi m hi hn e=>by
   obtain⟨g,d,hK⟩:=h.kids i m hi hn e;exact⟨g,d.block (hk _ (.inr d.isMap)),hK⟩}
structure Grown (a:TypeId) (b0:Nat) (w w':Y):Prop where
 os:w'.os=w.os
 tape:w'.tape=w.tape
 output:w'.output=w.output
 size:w.heap.size<=w'.heap.size
 block:∀b,b<w.heap.size->b<b0\/¬DQ a w b->w'.heap[b]?=w.heap[b]?
def Nodes.found{o}(h:Nodes P K o w f b0 k B Z M){j}(hj:j<k)(hp:AD f k<k)(r:Z j=j)(hs:f j=f k)
  (a:∀i,0<i->i<k->AD f i<i):
  Nodes P K o w f b0 (k+1) (λi=>if i=k then B j else B i) (λi=>if i=k then j else Z i) M:=by
 have d:∀i,i<k->(if i=k then B j else B i)=B i:=λi hi=>Cs om;have c:∀i,i<k->(if i=k then j else Z i)=Z i:=λi hi=>Cs om;have FC:∀i,i<k+1->(if i=k then j else Z i)=i->i<k/\Z i=i:=λi hi e=>by
  by_cases e2:i=k
  .rw[C3 e2]at e;omega
  rw[Cs e2]at e;exact⟨om,e⟩
 have p:∀i,i<k->CT f (λi=>if i=k then B j else B i) i=CT f B i:=λi hi=>by
  unfold CT;by_cases e:i=0
  .simp[e]
  have:=a i om hi;simp only[e,XN];rw[Cs om]
 constructor
 .exact Nat.succ_pos _
 .grind [Nodes.pos,Nodes.n0]
 .grind [Nodes.le]
 .grind [Nodes.le,Nodes.own]
 .grind [Nodes.same]
 .grind [Nodes.one]
 .grind [Nodes.le,Nodes.Bw]
 .intro i hi;show b0<=(if i=k then B j else B i);split
  .exact h.base j hj
  exact h.base i om
 .grind [Nodes.node]
 .intro i l hi hl hn b e;obtain⟨h1,h2⟩:=FC i hi hn;obtain⟨h3,h4⟩:=FC l hl b;have e:=e;rw[d i h1,d l h3]at e;exact h.apart i l h1 h3 h2 h4 e
 .intro i m hi hn b;obtain⟨h1,h2⟩:=FC i hi hn;exact h.mbase i m h1 h2 b
 .intro i l m hi hl hn b e1 e2;obtain⟨h1,h2⟩:=FC i hi hn;obtain⟨h3,h4⟩:=FC l hl b;exact h.LY i l m h1 h3 h2 h4 e1 e2
 .intro i hi hn b l q hl n;obtain⟨h1,h2⟩:=FC i hi hn;obtain⟨h3,h4⟩:=FC l hl n;show(if AD f l=k then j else Z (AD f l))≠i;have:=a l q h3;rw[c _ om];exact h.bare i h1 h2 b l q h3 h4
 intro i m hi hn b;obtain⟨h1,h2⟩:=FC i hi hn;obtain⟨g,s,hK⟩:=h.kids i m h1 h2 b;refine⟨g,s.mono<|Nat.le_succ _,λv=>?_⟩;rcases hK v with⟨l,a1,a2,a3,a4,a5,t⟩|⟨a1,a2⟩
 .have:=a l a1 a2;exact .inl ⟨l,a1,om,by show(if l=k then j else Z l)=l;rw[c l a2];exact a3,by show(if AD f l=k then j else Z (AD f l))=i;rw[c _ om];exact a4,a5,by show _=Value.pointer (some<|G (if l=k then B j else B l) 0);rw[d l a2];exact t⟩
 refine .inr ⟨a1,λl b1 b2 b3 b4=>?_⟩;obtain⟨h3,h4⟩:=FC l b2 b3;have:=a l b1 h3;have b4:(if AD f l=k then j else Z (AD f l))=i:=b4;rw[c _ om]at b4;exact a2 l b1 h3 h4 b4
open Classical in
def Nodes.fresh{u:TypeId}(h:Nodes P K u w f b0 k B Z M)(hp:AD f k<k)
  (n:∀i,0<i->i<k->AD f i<i) (A:∀j,j<k->f j≠f k) {a r o:Nat} {g:Value->Value} (s:a=Z (AD f k))
  (T:w'.rowIs (B a) u 6<|BS a (f a) (CT f B a)<|some o)
  (ro:∀i,i<k->Z i=i->i≠a->w'.heap[B i]?=w.heap[B i]?)
  (H:∀i m,i<k->Z i=i->i≠a->M i=some m->w'.heap[m]?=w.heap[m]?/\m≠o)
  (rn:w'.rowIs r u 6<|BS k (f k) (some<|G (B<|AD f k) 0) none)
  (U:b0<=r) (C:∀i,i<k->B i≠r) (I:b0<=o) (hK:Kids f k B Z a g)
  (V:CY P K w' o (k+1) λv=>if v=Ka (f k)then Q9 r else g v):
  Nodes P K u w' f b0 (k+1) (λi=>if i=k then r else B i) (λi=>if i=k then k else Z i) λi=>if i=k then none else if i=a then some o else M i:=by
 have W:a<k:=by rw[s];exact Aan (h.le _ hp) hp
 have ad:Z a=a:=by rw[s];exact h.own _ hp
 have t:∀i,i<k->(if i=k then r else B i)=B i:=λi hi=>Cs om;have p:∀i,i<k->(if i=k then k else Z i)=Z i:=λi hi=>Cs om;have q:∀i,i<k->i≠a->(if i=k then none else if i=a then some o else M i)=M i:=λi hi s=>by rw[Cs om,Cs s]
 have c:(if a=k then none else if a=a then some o else M a)=some o:=by rw[Cs om,C3 rfl]
 have FC:∀i,i<k+1->(if i=k then k else Z i)=i->i=k\/i<k/\Z i=i:=λi hi e=>by
  by_cases e2:i=k
  .exact .inl e2
  rw[Cs e2]at e;exact .inr ⟨om,e⟩
 have D:∀i,i<k->CT f (λi=>if i=k then r else B i) i=CT f B i:=λi hi=>by
  unfold CT;by_cases e:i=0
  .simp[e]
  have:=n i om hi;simp only[e,XN];rw[Cs om]
 have d:∀i,0<i->i<k+1->AD f i<k:=λi F hi=>by
  by_cases e:i=k
  .rw[e];exact hp
  have:=n i F om;omega
 constructor
 .exact Nat.succ_pos _
 .show(if 0=k then k else Z 0)=0;rw[p 0 h.pos];exact h.n0
 .intro i hi;show(if i=k then k else Z i)<=i;split
  .omega
  exact h.le i om
 .intro i hi;show(if(if i=k then k else Z i)=k then k else Z (if i=k then k else Z i))=(if i=k then k else Z i);by_cases e:i=k
  .rw[C3 e,C3 rfl]
  rw[Cs e,Cs (oS (h.le i om))];exact h.own i om
 .intro i hi;show f (if i=k then k else Z i)=f i;by_cases e:i=k
  .rw[C3 e,e]
  rw[Cs e];exact h.same i om
 .intro i l hi hl e;show(if i=k then k else Z i)=(if l=k then k else Z l);by_cases e1:i=k
  .by_cases e2:l=k
   .rw[C3 e1,C3 e2]
   exact absurd (by rw[<-e1];exact e.symm)<|A l om
  by_cases e2:l=k
  .exact absurd (by rw[<-e2];exact e) (A i om)
  rw[Cs e1,Cs e2];exact h.one _ _ om om e
 .intro i hi;show(if(if i=k then k else Z i)=k then r else B (if i=k then k else Z i))=(if i=k then r else B i);by_cases e:i=k
  .rw[C3 e,C3 rfl,C3 e]
  rw[Cs e,Cs (oS (h.le i om)),Cs e];exact h.Bw i om
 .intro i hi;show b0<=(if i=k then r else B i);split
  .exact U
  exact h.base i om
 .intro i hi hn;show w'.rowIs (if i=k then r else B i) u 6 (BS i (f i) (CT f (λi=>if i=k then r else B i) i)<|if i=k then none else if i=a then some o else M i);rcases FC i hi hn with h1|⟨h1,h2⟩
  .rw[C3 h1,C3 h1,h1];have:CT f (λi=>if i=k then r else B i) k=some (G (B<|AD f k) 0):=by
    unfold CT;rw[Cs om];show some ((G (if AD f k=k then r else B (AD f k)) 0):Addr)=_;rw[Cs om]
   rw[this];exact rn
  rw[D i h1,t i h1];by_cases e:i=a
  .rw[e,c];exact T
  rw[q i h1 e];exact(h.node i h1 h2).of_block (ro i h1 h2 e)
 .intro i l hi hl hn b e;have e:=e;rcases FC i hi hn with h1|⟨h1,h2⟩
  .rcases FC l hl b with h3|⟨h3,h4⟩
   .omega
   rw[C3 h1,t l h3]at e;exact absurd e.symm<|C l h3
  rcases FC l hl b with h3|⟨h3,h4⟩
  .rw[C3 h3,t i h1]at e;exact absurd e<|C i h1
  rw[t i h1,t l h3]at e;exact h.apart i l h1 h3 h2 h4 e
 .intro i m hi hn b;have b:=b;rcases FC i hi hn with h1|⟨h1,h2⟩
  .rw[C3 h1]at b;cases b
  by_cases e:i=a
  .rw[e,c]at b;cases b;exact I
  rw[q i h1 e]at b;exact h.mbase i m h1 h2 b
 .intro i l m hi hl hn b e1 e2;have e1:=e1;have e2:=e2;rcases FC i hi hn with h1|⟨h1,h2⟩
  .rw[C3 h1]at e1;cases e1
  rcases FC l hl b with h3|⟨h3,h4⟩
  .rw[C3 h3]at e2;cases e2
  by_cases x:i=a
  .by_cases X:l=a
   .omega
   rw[x,c]at e1;cases e1;rw[q l h3 X]at e2;exact absurd rfl (H l _ h3 h4 X e2).2
  by_cases X:l=a
  .rw[X,c]at e2;cases e2;rw[q i h1 x]at e1;exact absurd rfl (H i _ h1 h2 x e1).2
  rw[q i h1 x]at e1;rw[q l h3 X]at e2;exact h.LY i l m h1 h3 h2 h4 e1 e2
 .intro i hi hn b l F hl L;have b:=b;show(if AD f l=k then k else Z (AD f l))≠i;have E:=d l F hl;rw[p _ E];rcases FC i hi hn with h1|⟨h1,h2⟩
  .have:=h.le _ E;omega
  have x:i≠a:=λx=>by rw[x,c]at b;cases b
  rw[q i h1 x]at b;rcases FC l hl L with h3|⟨h3,h4⟩
  .rw[h3,<-s];exactλe=>x e.symm
  exact h.bare i h1 h2 b l F h3 h4
 intro i m hi hn b;have b:=b;rcases FC i hi hn with h1|⟨h1,h2⟩
 .rw[C3 h1]at b;cases b
 by_cases x:i=a
 .rw[x,c]at b;cases b;refine⟨_,V,λv=>?_⟩;show(∃j,0<j/\j<k+1/\(if j=k then k else Z j)=j/\(if AD f j=k then k else Z (AD f j))=i/\v=Ka (f j)/\(if v=Ka (f k)then Value.pointer (some<|G r 0)else g v)=Q9 (if j=k then r else B j))\/((if v=Ka (f k)then Value.pointer (some<|G r 0)else g v)=.pointer none/\∀j,0<j->j<k+1->(if j=k then k else Z j)=j->(if AD f j=k then k else Z (AD f j))=i->Ka (f j)≠v);by_cases e:v=Ka (f k)
  .refine .inl ⟨k,h.pos,om,by rw[C3 rfl],by rw[p _ hp,<-s,x],e,by rw[C3 e,C3 rfl]⟩
  rw[Cs e];rcases hK v with⟨l,a1,a2,a3,a4,a5,Q⟩|⟨a1,a2⟩
  .have:=n l a1 a2;exact .inl ⟨l,a1,om,by rw[p l a2];exact a3,by rw[p _ om,x];exact a4,a5,by rw[t l a2];exact Q⟩
  refine .inr ⟨a1,λl b1 b2 b3 b4=>?_⟩;rw[p _ (d l b1 b2)]at b4;rcases FC l b2 b3 with h3|⟨h3,h4⟩
  .rw[h3];exactλe2=>e e2.symm
  exact a2 l b1 h3 h4<|by rw[b4,x]
 rw[q i h1 x]at b;obtain⟨g1,R,S⟩:=h.kids i m h1 h2 b;refine⟨g1,(R.block (H i m h1 h2 x b).1).mono<|Nat.le_succ _,λv=>?_⟩;rcases S v with⟨l,a1,a2,a3,a4,a5,Q⟩|⟨a1,a2⟩
 .have:=n l a1 a2;exact .inl ⟨l,a1,om,by show(if l=k then k else Z l)=l;rw[p l a2];exact a3,by show(if AD f l=k then k else Z (AD f l))=i;rw[p _ om];exact a4,a5,by show _=Value.pointer (some<|G (if l=k then r else B l) 0);rw[t l a2];exact Q⟩
 refine .inr ⟨a1,λl b1 b2 b3 b4=>?_⟩;have b4:(if AD f l=k then k else Z (AD f l))=i:=b4;rw[p _ (d l b1 b2)]at b4;rcases FC l b2 b3 with h3|⟨h3,h4⟩
 .rw[h3,<-s]at b4;exact absurd b4.symm x
 exact a2 l b1 h3 h4 b4
end
section
open Go.RowKit
open Go.Maps Keyed
def cU:laidOutB Tryz.prog=true:=ou
def eL:142<Tryz.prog.types.size:=of_decide_eq_true ou
def fB:Tryz.prog.keyTypeAt 2 142=true:=ou
def Pw:Keyed Tryz.prog 142:=Keyed.of_law<|deep_law_laid cU (m:=2) om eL fB<|by rw[Tryz.underlying142]
def Vj w:(zeroValue 140).run Tryz.prog w=.ok (.pointer none) w:=ou
def cM{k}{fs}{f0 f1 f2}(hu:P.underlying k=some (.struct fs))(a:fs=#[f0,f1,f2])(hi:P.underlying ti=some (.int .i64))(hs:P.underlying ts=some .string)
  (hc:P.cellsOf k=3) (b:P.cellsOf ti=1) (hcs:P.cellsOf ts=1) (t0:f0.type=ti) (t1:f1.type=ts) (t2:f2.type=ti) (o0:f0.offset=0) (o1:f1.offset=1) (o2:f2.offset=2)
  (n0:f0.name != "_") (c:f1.name != "_") (d:f2.name != "_") (s:A9) (h1:(Lit.int .i64 s.parent).wf=true) (h2:s.key.size<=maxLen) (h3:(Lit.int .i64 s.count).wf=true) (n):
  P.keyLits (n+2) k [.int .i64 s.parent,.string s.key,.int .i64 s.count]=some [.int .i64 s.parent,.string s.key.data.toList,.int .i64 s.count]:=by
 subst a;have a0:P.keyLits (n+1) ti [.int .i64 s.parent]=some [.int .i64 s.parent]:=by unfold Program.keyLits;simp[hi,h1]
 have a1:P.keyLits (n+1) ts [.string s.key]=some [.string s.key.data.toList]:=by unfold Program.keyLits;simp[hs,h2]
 have a2:P.keyLits (n+1) ti [.int .i64 s.count]=some [.int .i64 s.count]:=by unfold Program.keyLits;simp[hi,h3]
 have m0:f0.name≠ "_" :=by simpa using n0
 have m1:f1.name≠ "_" :=by simpa using c
 have m2:f2.name≠ "_" :=by simpa using d
 rw[Program.keyLits.eq_def];simp[hu,hc,t0,t1,t2,o0,o1,o2,b,hcs,a0,a1,a2,m0,m1,m2]
def N3:Tryz.prog.cellsOf 142=3:=ou
def bD:Tryz.prog.cellsOf 3=1:=ou
def bE:Tryz.prog.cellsOf 9=1:=ou
def WI:Tryz.prog.keyType 142=true:=ou
def OE s(h1:(Lit.int .i64 s.parent).wf=true)(h2:s.key.size<=maxLen)(h3:(Lit.int .i64 s.count).wf=true):∃b,keyOf Tryz.prog 142 (Ka s)=some b:=by
 have hn:1<Tryz.prog.types.size:=of_decide_eq_true ou;obtain⟨n,hn⟩:∃n,Tryz.prog.types.size+1=n+2:=⟨Tryz.prog.types.size-1,om⟩;have hf:(Ka s).formed Tryz.prog 142=true:=by simp[Value.formed,Tryz.underlying142,N3]
 have hl:=cM Tryz.underlying142 rfl Tryz.underlying3 Tryz.underlying9 N3 bD bE rfl rfl rfl rfl rfl rfl rfl rfl rfl s h1 h2 h3 n;rw[<-hn]at hl;have a:(Ka s).cells.toList=[.int .i64 s.parent,.string s.key,.int .i64 s.count]:=rfl;unfold keyOf;rw[Tryz.underlying142];simp only[WI,hf,Bool.and_self,if_true];rw[a,hl];exact⟨_,rfl⟩
abbrev Cr(w:Y)(f:Nat->A9)(b0 k:Nat)(B Z:Nat->Nat)(M:Nat->Option Nat):Prop:=Nodes Tryz.prog 142 145 w f b0 k B Z M
abbrev Rx(b0:Nat)(w w':Y):Prop:=Grown 145 b0 w w'
def My{a c:Y}{row}(h:a.grownBy c row)n:a.grownBy (c.drewN n) row:=⟨h.os,h.tape,h.output,h.size,h.block⟩
def OS(h:CY Tryz.prog 142 w m n g){s}(h1:(Lit.int .i64 s.parent).wf=true)(h2:s.key.size<=maxLen)(h3:(Lit.int .i64 s.count).wf=true):
  ∀q,(Instr.lookup 143 (.map<|some m) (Ka s) false).run Tryz.prog (w.drewN q)=.ok (g<|Ka s) (w.drewN q):=by
 intro q;obtain⟨b,a⟩:=OE s h1 h2 h3;exact(h.block (w':=w.drewN q) rfl).look Pw Tryz.underlying143 (Vj _) a
def Q0{s}(h1:(Lit.int .i64 s.parent).wf=true)(h2:s.key.size<=maxLen)(h3:(Lit.int .i64 s.count).wf=true):
  ∀q,(Instr.lookup 143 (.map none) (Ka s) false).run Tryz.prog (w.drewN q)=.ok (.pointer none) (w.drewN q):=by
 intro q;obtain⟨b,a⟩:=OE s h1 h2 h3;simpa using Maps.look_nil (w:=w.drewN q) false Pw Tryz.underlying143 (Vj _) a
def R6(r e j:Nat){m}{g}{n}(s)(num:Nat)(k)(par)(l)
  (a:w.rowIs e 145 6<|BS l k par<|some m) (b:CY Tryz.prog 142 w m n g) (h:g (Ka s)=Q9 r)
  (h1:(Lit.int .i64 s.parent).wf=true) (h2:s.key.size<=maxLen) (h3:(Lit.int .i64 s.count).wf=true):
  C9 133 #[Q9 e,Ka s,.int .i64 num] w (R9 (Q9 r) w):=by
 have hl:=H8 a;have d:=b.block (w':=w.alloc<|.cells #[.int .i64 s.parent,.string s.key,.int .i64 s.count] 142) (by obtain⟨es,c,o⟩:=b.isMap;exact DO _ _ _ (E1.1 o).1);have f:=OS d h1 h2 h3;rw[h]at f;have c5:w.cell? (G e 5)=some (.map<|some m):=a.cell (i:=5) om;clear b d a h h1 h2 h3;go_enter Tryz.func133,Tryz.ntmps133;go_wp2;go_quiet (fail);go_wp2;go_ret;exact⟨rfl,below_drewN ((BE _ _).alloc (Be _) _) _⟩
open Classical in
def Yd(h:CY Tryz.prog 142 w m n g)(hn:n<=1000){s:A9}(h1:(Lit.int .i64 s.parent).wf=true)(h2:s.key.size<=maxLen)(h3:(Lit.int .i64 s.count).wf=true)(v:V9):
  ∃w',(Instr.mapUpdate 143 (.map<|some m) (Ka s) v).run Tryz.prog w=.ok () w'/\CY Tryz.prog 142 w' m (n+1) (λk=>if k=Ka s then v else g k)/\w.grownBy w' (some m):=by
 obtain⟨b,a⟩:=OE s h1 h2 h3;exact h.put Pw Tryz.underlying143 od v a
open Classical in
def TZ(f:Nat){m:Nat}{g:Value->Value}{n:Nat}(s:A9)(num:Nat)(x:A9)(par:T9)(A:Nat)(hn:n<=1000)
  (j:w.rowIs f 145 6<|BS A x par<|some m) (l:CY Tryz.prog 142 w m n g) (B:g (Ka s)=.pointer none)
  (h1:(Lit.int .i64 s.parent).wf=true) (h2:s.key.size<=maxLen) (h3:(Lit.int .i64 s.count).wf=true):
  C9 133 #[Q9 f,Ka s,.int .i64 num] w λe w'=>∃r,e=.returned (Q9 r)/\w.heap.size<=r/\w'.rowIs r 145 6 (BS num s (some<|G f 0) none)/\
   CY Tryz.prog 142 w' m (n+1) (λk=>if k=Ka s then Q9 r else g k)/\w.grownBy w' (some m):=by
 have hl:=H8 j;obtain⟨es,cl,C⟩:=l.isMap;have o:m<w.heap.size:=(E1.1 C).1;have b:=l.block (w':=w.alloc<|.cells #[.int .i64 s.parent,.string s.key,.int .i64 s.count] 142)<|DO _ _ _ o;have q:=OS b h1 h2 h3;rw[B]at q;have c5:w.cell? (G f 5)=some (.map<|some m):=j.cell (i:=5) om;have F:∀(w:Y),(binOp .eql 143 (.map<|some m)<|.map none).run Tryz.prog w=.ok (.bool false) w:=λw=>run_eql_map_nil w _ _ _ (some m) Tryz.underlying143;go_enter Tryz.func133,Tryz.ntmps133;go_wp2;go_quiet (fail);go_wp2;obtain⟨d,a⟩:=o9<|((w.alloc<|.cells #[.int .i64 s.parent,.string s.key,.int .i64 s.count] 142).drewN nq).alloc<|.cells #[.int .i64 num,.int .i64 s.parent,.string s.key,.int .i64 s.count,Q9 f,.map none] 145;rw[<-a];have D:d.heap.size=w.heap.size+2:=by rw[a];simp
 have h:w.grownBy d none:=by rw[a];exact(My (AaV w _ none) nq).trans (AaV _ _ none)
 have d5:d.cell? (G f 5)=some (.map<|some m):=by rw[<-c5];exact As<|h.block f hl oq
 obtain⟨x0,x1,x2⟩:d.cell? (y w 0)=some (.int .i64 s.parent)/\d.cell? (y w 1)=some (.string s.key)/\d.cell? (y w 2)=some (.int .i64 s.count):=by rw[a];simp[go_sem]
 have u:d.rowIs (w.heap.size+1) 145 6<|BS num s (some<|G f 0) none:=by
  have:=Aaj ((w.alloc<|.cells #[.int .i64 s.parent,.string s.key,.int .i64 s.count] 142).drewN nq) #[.int .i64 num,.int .i64 s.parent,.string s.key,.int .i64 s.count,Q9 f,.map none] 145 (BS num s (some<|G f 0) none) (λi hi=>by
   have:i<6:=hi
   match i,this with
   |0,_=>rfl
   |1,_=>rfl
   |2,_=>rfl
   |3,_=>rfl
   |4,_=>rfl
   |5,_=>rfl)
  rw[a];simpa using this
 have t:CY Tryz.prog 142 d.drew m n g:=b.block (by
  show d.heap[m]?=_;rw[h.block m o oq];exact(DO _ _ _ o).symm)
 obtain⟨w2,v,p,c⟩:=Yd t hn (z<|O h1) (z<|O h2) (z<|O h3)<|Q9<|w.heap.size+1;have E:=h.but<|some m;clear a h t q b
 go_region
 go_wp2;go_ret;refine⟨w.heap.size+1,rfl,om,u.of_block<|c.block _ (by show _<d.heap.size;omega) ot,p,E.trans ?_⟩;exact⟨c.os,c.tape,c.output,c.size,c.block⟩
def rU(w:Y)(num:Nat)s par:(w.alloc<|.cells #[J num,J s.parent,.string s.key,J s.count,.pointer par,.map none] 145).rowIs w.heap.size 145 6<|BS num s par none:=
 Aaj w _ 145 _ (λi hi=>by
   have:i<6:=hi
   match i,this with
   |0,_=>rfl
   |1,_=>rfl
   |2,_=>rfl
   |3,_=>rfl
   |4,_=>rfl
   |5,_=>rfl)
def Sr num s par o m i(hi:i<6):(if i=5 then Value.map m else BS num s par o i)=BS num s par m i:=by
 match i,hi with
 |0,_=>rfl
 |1,_=>rfl
 |2,_=>rfl
 |3,_=>rfl
 |4,_=>rfl
 |5,_=>rfl
open Classical in
def R5(w:Y)(b:Nat)(s:A9)(num:Nat)(n:A9)(par:T9)(o:Nat)
  (c:w.rowIs b 145 6<|BS o n par none)
  (h1:(Lit.int .i64 s.parent).wf=true) (h2:s.key.size<=maxLen) (h3:(Lit.int .i64 s.count).wf=true):
  C9 133 #[Q9 b,Ka s,.int .i64 num] w λe w'=>∃r p,e=.returned (Q9 r)/\w.heap.size<=r/\w.heap.size<=p/\w'.rowIs r 145 6 (BS num s (some<|G b 0) none)/\
   w'.rowIs b 145 6 (BS o n par<|some p)/\
   CY Tryz.prog 142 w' p 1 (λk=>if k=Ka s then Q9 r else .pointer none)/\w.grownBy w' (some b):=by
 have hl:=H8 c;have q:=Q0 (w:=w.alloc<|.cells #[.int .i64 s.parent,.string s.key,.int .i64 s.count] 142) h1 h2 h3;have c5:w.cell? (G b 5)=some (.map none):=c.cell (i:=5) om;have f5:=c.frozen 5;have C:=@run_makeMap Tryz.prog;have E:∀(w:Y),(binOp .eql 143 (.map none)<|.map none).run Tryz.prog w=.ok (.bool true) w:=λw=>run_eql_map_nil w _ _ _ none Tryz.underlying143;go_enter Tryz.func133,Tryz.ntmps133;go_wp2;go_quiet (fail);go_wp2;obtain⟨f,a⟩:=o9<|((((w.alloc<|.cells #[.int .i64 s.parent,.string s.key,.int .i64 s.count] 142).drewN nq).setCell (G b 5)<|.map<|some<|w.heap.size+1).alloc<|.map #[] 0).alloc<|.cells #[.int .i64 num,.int .i64 s.parent,.string s.key,.int .i64 s.count,Q9 b,.map none] 145;rw[<-a];have D:f.heap.size=w.heap.size+3:=by rw[a];simp
 have h:w.grownBy ((w.alloc<|.cells #[.int .i64 s.parent,.string s.key,.int .i64 s.count] 142).drewN nq) none:=My (AaV w _ none) nq;have x:=((c.of_block<|h.block b hl oq).set 5<|.map<|some<|w.heap.size+1).congr λi hi=>Sr o n par none (some<|w.heap.size+1) i hi;have gb:w.grownBy (((w.alloc<|.cells #[.int .i64 s.parent,.string s.key,.int .i64 s.count] 142).drewN nq).setCell (G b 5)<|.map<|some<|w.heap.size+1)<|some b:=
  ⟨h.os,h.tape,h.output,oq,λi hi t=>by rw[At _ _ _ _ (λe=>t (by rw[e]))];exact h.block i hi oq⟩
 have u:w.grownBy f<|some b:=by rw[a];exact(gb.trans<|AaV _ _ _).trans (AaV _ _ _)
 have l:f.rowIs b 145 6<|BS o n par<|some<|w.heap.size+1:=by rw[a];exact(x.alloc _).alloc _
 have d5:f.cell? (G b 5)=some (.map<|some<|w.heap.size+1):=l.cell (i:=5) om;have x0:f.cell? (y w 0)=some (.int .i64 s.parent):=by rw[a];simp[go_sem]
 obtain⟨x1,x2⟩:f.cell? (y w 1)=some (.string s.key)/\f.cell? (y w 2)=some (.int .i64 s.count):=by rw[a];simp[go_sem]
 have v:f.rowIs (w.heap.size+2) 145 6<|BS num s (some<|G b 0) none:=by
  have:=rU ((((w.alloc<|.cells #[.int .i64 s.parent,.string s.key,.int .i64 s.count] 142).drewN nq).setCell (G b 5)<|.map<|some<|w.heap.size+1).alloc<|.map #[] 0) num s<|some<|G b 0;rw[a];simpa using this
 have m:CY Tryz.prog 142 f.drew (w.heap.size+1) 0 λ_=>.pointer none:=by
  have A:=CY.made Tryz.prog 142<|((w.alloc<|.cells #[.int .i64 s.parent,.string s.key,.int .i64 s.count] 142).drewN nq).setCell (G b 5)<|.map<|some<|w.heap.size+1;have hz:(((w.alloc<|.cells #[.int .i64 s.parent,.string s.key,.int .i64 s.count] 142).drewN nq).setCell (G b 5)<|.map<|some<|w.heap.size+1).heap.size=w.heap.size+1:=oq;rw[hz]at A;refine A.block ?_;show f.heap[w.heap.size+1]?=_;rw[a];exact DO _ _ _ oq
 obtain⟨w2,B,g,d⟩:=Yd m om (z<|O h1) (z<|O h2) (z<|O h3)<|Q9<|w.heap.size+1+1;clear a m q h x gb c
 go_region
 go_wp2;go_ret;refine⟨w.heap.size+2,w.heap.size+1,rfl,om,om,v.of_block<|d.block _ (by show _<f.heap.size;omega) oq,l.of_block<|d.block _ (by show _<f.heap.size;omega) ot,g,?_⟩;refine World.grownBy.andThen u (row':=some<|w.heap.size+1) ?_ (λj hj=>by cases hj;exact .inl om);exact⟨d.os,d.tape,d.output,d.size,d.block⟩
end
section
open Go.RowKit
open Go.Maps Keyed
def lH{x}(a:-1000000<=x)(h1:x<=1000000):(Lit.int .i64 x).wf=true:=WalkArith.wf_i64 om
def Nodes.lt(h:Nodes P K a w f b0 k B Z M){i}(hi:i<k):B i<w.heap.size:=by
 rw[<-h.Bw i hi];exact(h.node (Z i) (Aan (h.le i hi) hi)<|h.own i hi).lt
def Grown.Ax{a:Nat}(h:B9 w w'):Grown a b0 w w':=⟨h.os,h.tape,h.output,h.size,λb hb _=>h.block b hb⟩
def Grown.of_grownBy{a:Nat}(h:w.grownBy w'<|some x)(c:b0<=x)(hn:DQ a w x):Grown a b0 w w':=
 ⟨h.os,h.tape,h.output,h.size,λb hb hc=>h.block b hb (λe=>by
  cases e;rcases hc with hc|hc
  .omega
  exact hc hn)⟩
def TF(h:Nodes P K a w f b0 k B Z M)(h2:Bp f)(b:Yp f k)
  (c:∀j,0<j->j<k->Z j=j->Z (AD f j)=Z (AD f k)->f j≠f k):∀j,j<k->f j≠f k:=by
 intro j hj e;have e1:=(h.same j hj).trans e;grind [Bp,Yp,Nodes.le,Nodes.own]
open Classical in
def OA w{f}b0 k B Z M(h:Cr w f b0 k B Z M)(hk:k<=200)(h2:Bp f)(h3:∀i,1<=i->i<=k->Yp f i):
  C9 133 #[Q9 (B<|AD f k),Ka<|f k,.int .i64 k] w λe w'=>∃r B' N' M',e=.returned (Q9 r)/\Cr w' f b0 (k+1) B' N' M'/\B' k=r/\(∀i,i<k->B' i=B i)/\Rx b0 w w':=by
 have t:=h.pos;have I:=h3 k t<|Be _;obtain⟨p0,p1,cc,ah,ks⟩:=h3 k t<|Be _;have hp:AD f k<k:=by unfold AD;omega
 have D:∀i,0<i->i<k->AD f i<i:=λi E hi=>by
  obtain⟨a,b,_⟩:=h3 i E om;unfold AD;omega
 have T:=A7 h2 (λj h1 h4=>h3 j h1 om) (AD f k) hp;have w1:(Lit.int .i64 (f k).parent).wf=true:=lH om om;have w2:(f k).key.size<=maxLen:=od;have w3:(Lit.int .i64 (f k).count).wf=true:=lH (by unfold AD at T;omega) om;obtain⟨a,F⟩:=o9<|Z<|AD f k;have d:a<k:=by rw[F];exact Aan (h.le _ hp) hp
 have n:Z a=a:=by rw[F];exact h.own _ hp
 have S:B (AD f k)=B a:=by rw[F];exact(h.Bw _ hp).symm
 have l:=h.node a d n;have H:∀x,w.heap.size<=x->b0<=x:=λx hx=>GP (h.base 0 t)<|GP (AaM<|h.lt t) hx;have U:∀i,i<k->Z i=i->DQ 145 w (B i):=λi hi hn=>by obtain⟨c,hb,_⟩:=h.node i hi hn;exact .inl ⟨c,hb⟩
 cases u:M a with
 |none=>
  rw[u]at l;rw[S];refine(R5 w (B a) (f k) k (f a) _ a l w1 w2 w3).mono ?_;rintro e w' ⟨r,mm,rfl,V,W,rn,ra,K,A⟩;have X:=TF h h2 I λj E hj hn p _=>h.bare a d n u j E hj hn (by rw[p,F]);refine⟨r,_,_,_,rfl,h.fresh hp D X F ra (λi hi hn q=>A.block _ (h.lt hi) λe=>?_) (λi m hi hn q K=>?_) (by rw[S];exact rn) (H r V) (λi hi e=>?_) (H mm W) (λv=>.inr ⟨rfl,λj E hj hn p=>absurd p<|h.bare a d n u j E hj hn⟩)<|K.mono om,oq,λi hi=>ot,Grown.of_grownBy A (h.base a d)<|U a d n⟩
  .exact q (h.apart i a hi d hn n<|Aah e)
  .obtain⟨g,s,_⟩:=h.kids i m hi hn K;obtain⟨es,c,o⟩:=s.isMap;have ad:=(E1.1 o).1;refine⟨A.block m ad λe=>?_,om⟩;cases e;obtain⟨c,hb,_⟩:=l;rw[hb]at o;cases o
  have:=h.lt hi;omega
 |some m=>
  rw[u]at l;obtain⟨g,s,hK⟩:=h.kids a m d n u;obtain⟨es,c,o⟩:=s.isMap;rw[S];rcases hK (Ka<|f k)with⟨j,j0,jk,jn,jp,jv,jg⟩|⟨jg,ae⟩
  .refine m9 (R6 (B j) (B a) j (f k) k (f a) _ a l s jg w1 w2 w3) λw' hb=>?_;have af:∀b,DQ 145 w b->w'.heap[b]?=w.heap[b]?:=λb ag=>hb.block b (by
    rcases ag with⟨c,hc⟩|⟨es,c,hc⟩
    .exact(E1.1 hc).1
    exact(E1.1 hc).1)
   exact⟨B j,_,_,_,rfl,(h.keep af).found jk hp jn (RG jv).symm D,oq,λi hi=>ot,Grown.Ax hb⟩
  refine(TZ (B a) (f k) k (f a) _ a om l s jg w1 w2 w3).mono ?_;rintro e w' ⟨r,rfl,V,rn,K,A⟩;have L:∀i,i<k->Z i=i->B i≠m:=λi hi hn e=>by
   obtain⟨c,hb,_⟩:=h.node i hi hn;rw[e,o]at hb;cases hb
  refine⟨r,_,_,_,rfl,h.fresh hp D (TF h h2 I λj E hj hn p e=>ae j E hj hn (by rw[p,F])<|by rw[e]) F (l.of_block<|A.block _ (h.lt d) λe=>L a d n<|Aah e) (λi hi hn q=>A.block _ (h.lt hi) λe=>L i hi hn<|Aah e) (λi m' hi hn q P=>?_) (by rw[S];exact rn) (H r V) (λi hi e=>?_) (h.mbase a m d n u) hK K,oq,λi hi=>ot,Grown.of_grownBy A (h.mbase a m d n u)<|.inr ⟨es,c,o⟩⟩
  .obtain⟨g',Q,_⟩:=h.kids i m' hi hn P;obtain⟨ai,c',R⟩:=Q.isMap;have C:m'≠m:=λe=>q<|h.LY i a m hi d hn n (by rw[P,e]) u;exact⟨A.block m' (E1.1 R).1 λe=>C<|Aah e,C⟩
  have:=h.lt hi;omega
end
section
open Go.RowKit
open Go.Maps Keyed
def J5 w:C9 99 #[] w<|R9 (Sh (-1) ⟨#[]⟩ 0) w:=by
 go_enter Tryz.func99,Tryz.ntmps99;go_wp2;exact GO (v:=Sh (-1) ⟨#[]⟩ 0) (by simp[results,Tryz.results99,go_sem]) rfl ⟨rfl,n9⟩
def ptrs(B:Nat->Nat)(n:Nat):List Value:=(List.range n).map λi=>Q9<|B i
def K7{i}(h:i<n):(ptrs B n)[i]?=some (Q9<|B i):=by simp[ptrs,h]
def Rb{B'}(h:∀i,i<n->B' i=B i)(a:B' n=r):ptrs B n++[Q9 r]=ptrs B' (n+1):=by
 simp only[ptrs,List.range_succ,AaA];congr 1
 .exact List.map_congr_left λi hi=>by rw[h i (List.mem_range.1 hi)]
 simp
def UE(h2:Bp f):f 0=⟨-1,⟨#[]⟩,0⟩:=by
 obtain⟨a,b,c⟩:=h2;cases hf:f 0 with
 |mk p k d=>
  rw[hf]at a b c;subst a;subst c;have:k=⟨#[]⟩:=WideShapes.bytes_inj (by rw[<-AaW,b]);rw[this]
def Nodes.root{b:TypeId}(c:b0<=r)(a:w.rowIs r b 6<|BS 0 (f 0) none none):Nodes P K b w f b0 1 (λ_=>r) (λ_=>0) (λ_=>none) where
 pos:=om
 n0:=rfl
 le:=λi hi=>om
 own:=λi hi=>rfl
 same:=λi hi=>by rw[show i=0 by omega]
 one:=λi j hi hj _=>rfl
 Bw:=λi hi=>rfl
 base:=λi hi=>c
 node:=λi hi hn=>by
  rw[show i=0 by omega];exact a
 apart:=λi j hi hj _ _ _=>om
 mbase:=λi m _ _ h=>by cases h
 LY:=λi j m _ _ _ _ h=>by cases h
 bare:=λi hi _ _ j d hj=>om
 kids:=λi m _ _ h=>by cases h
def Zn{f base g:Nat}(h:w.ownsRow base e 1 (S9 g n b) n xs)(i:Grown f b0 w w')(j:e≠f):w'.ownsRow base e 1 (S9 g n b) n xs:=by
 obtain⟨hl,⟨d,_⟩|⟨g',cap,cur,d,hb,a,h1,h2,h3,h4⟩⟩:=h
 .cases d
 cases d;refine⟨hl,.inr ⟨g,b,cur,rfl,hb,?_,h1,h2,h3,h4⟩⟩;rw[i.block g (E1.1 a).1 (.inr ?_)]
 .exact a
 rintro(⟨c,hc⟩|⟨es,c,hc⟩);all_goals grind
def kG{a base g}(h:w.ownsRow base e 1 (S9 g n c) n xs)(f:e≠a):¬DQ a w g:=by
 obtain⟨hl,⟨d,_⟩|⟨g',cap,cur,d,hb,b,h1,h2,h3,h4⟩⟩:=h;all_goals grind [DQ]
def Grown.below{a:Nat}(h:Grown a b0 w w')(hb:b0<=w.heap.size):Below b0 w w':=⟨h.os,h.tape,h.output,h.size,λk hk=>h.block k om<|.inl hk⟩
def XS:(Tryz.prog.info? 140).map (λi=>(i.zero,i.size,i.bytes))=some (some<|.pointer none,1,8):=ou
def Zp cap{f}{w}(hA:Bg w b n f)(h1:Dw n)(h2:Bp f)(h3:Bf n f):
  C9 101 #[.agg #[S9 b n cap]] w λe w'=>(∃g l B Z M,e=.returned (S9 g n l)/\Cr w' f w.heap.size n B Z M/\(g<w'.heap.size/\w'.ownsRow w.heap.size 140 1 (S9 g n l) n (ptrs B n))/\∀i,i<n->w'.cell? (G g i)=some (Q9<|B i))/\B9 w w':=by
 have hl:=hA.lt;have bc:0<n:=oS h1.1;rcases h1.2,O hA,O h2,O h3,UE h2 with⟨bd,HA,H2,H3,aq⟩;clear hA h1 h2 h3;obtain⟨i0,hi,ar,m,au⟩:=ON XS;have D:B9 w<|w.alloc<|.cells #[S9 b n cap] 38:=n9;go_enter Tryz.func101,Tryz.ntmps101;go_wp2_with fail;refine m9 (J5 _) λw1 o=>?_;obtain⟨I,av⟩:=AM o;have m:=o.size;simp at m;have K:=O<|o8 D o;have y1:w.heap.size<w1.heap.size:=om;have a1:w1.cell? (y w 0)=some (S9 b n cap):=by rw[I _ _ oq];simp[go_sem]
 clear o I av m D;go_wp2;clear a1;go_loopw [3,13] (λv i wr=>∃(k L g l:Nat) (B Z:Nat->Nat) (M:Nat->Option Nat),k<=n/\i=J k/\v=S9 g L l/\1<=L/\(L=k\/(k=0/\L=1))/\wr.ownsRow w.heap.size 140 1 (S9 g L l) L (ptrs B L)/\Cr wr f w.heap.size L B Z M/\B9 w wr) λ_ i _=>n-(intOf i).toNat
 .have hr:=rU w1 0 (f 0) none;have P:(w1.alloc<|.cells #[J 0,J (-1),E9,J 0,.pointer none,.map none] 145).rowIs w1.heap.size 145 6<|BS 0 (f 0) none none:=by rw[aq]at hr ⊢;exact hr
  have hb:=(K.alloc K.size<|.cells #[J 0,J (-1),E9,J 0,.pointer none,.map none] 145).alloc ot<|.cells #[Q9 w1.heap.size] 140;have ho:=World.ownsRow_lit (base:=w.heap.size) (e:=140) (size:=1) (w1.alloc<|.cells #[J 0,J (-1),E9,J 0,.pointer none,.map none] 145) #[Q9 w1.heap.size] 1 ot od rfl;refine⟨0,1,w1.heap.size+1,1,λ_=>w1.heap.size,λ_=>0,λ_=>none,om,rfl,rfl,om,.inr ⟨rfl,rfl⟩,?_,Nodes.root om<|P.alloc _,hb⟩;simpa[ptrs]using ho
 obtain⟨k,L,g,l,B,Z,M,hk,rfl,rfl,bf,hL,A,hN,hb⟩:=hrel;have c0:k<n->wr.cell? (G b<|k*3)=some (J (f k).parent):=λh=>((HA.below hb hl).cells h).1;have c1:k<n->wr.cell? (G b<|k*3+1)=some (.string (f k).key):=λh=>((HA.below hb hl).cells h).2.1;have c2:k<n->wr.cell? (G b<|k*3+2)=some (J (f k).count):=λh=>((HA.below hb hl).cells h).2.2;rcases O hb,O A,O hN with⟨F,H,HN⟩;clear hb A hN;go_wp2
 .have Q:k<n:=ol;have q:0<k:=ol;have aw:L=k:=om;subst aw;have p0:=(H3 L q Q).1;have p1:=(H3 L q Q).2.1;obtain⟨p,hp⟩:∃p:Nat,(f L).parent=p:=⟨(f L).parent.toNat,om⟩;have ax:p<L:=om;rw[hp];obtain⟨W,s⟩:=o9<|wr.alloc<|.cells #[J p,.string (f L).key,J (f L).count] 142;rw[<-s];have x0:W.cell? (y wr 0)=some (J p):=by rw[s];simp[go_sem]
  obtain⟨x1,x2⟩:W.cell? (y wr 1)=some (.string (f L).key)/\W.cell? (y wr 2)=some (J (f L).count):=by rw[s];simp[go_sem]
  have bg:W.heap.size=wr.heap.size+1:=by rw[s];simp
  have R:B9 w W:=by rw[s];exact F.alloc F.size _
  have d:W.drew.ownsRow w.heap.size 140 1 (S9 g L l) L<|ptrs B L:=by rw[s];exact(H.alloc _).drew
  have xp:W.cell? (G g p)=some (Q9<|B p):=(d.cellAt p om).trans<|K7 ax;have S:Cr W.drew f w.heap.size L B Z M:=HN.keep (λb hb=>by
   show W.heap[b]?=_;rw[s];exact DO _ _ _ (by
    rcases hb with⟨c,hc⟩|⟨es,c,hc⟩
    .exact(E1.1 hc).1
    exact(E1.1 hc).1))
  have hC:=OA W.drew w.heap.size L B Z M S om H2 λi h1 h4=>H3 i h1 om;rw[show AD f L=p by unfold AD;rw[hp];rfl,show Ka (f L)=.agg #[J p,.string (f L).key,J (f L).count] by unfold Ka;rw[hp]]at hC;rcases O hC,O d,O R,O hp with⟨HC,T,t,HP⟩;clear hC d R S s HN H F c0 c1 c2 p0 p1 hp
  go_region_law (first
   |(go_simp;refine HC.mono ?_;rintro e w2 ⟨r,B',N',M',rfl,U,V,X,u⟩;have ae:=O U;have af:=O V;have ag:=O X;have ah:=O u;have x:=O<|(Zn T u oo).alloc<|.cells #[Q9 r] 140;have bh:w.heap.size<=w2.heap.size:=GP t.size u.size;clear U V X u)
   |(refine To _ rfl (.tmp 20) (.tmp 29) 70 rfl w.heap.size 140 i0 (.pointer none) 1 8 Tryz.underlying70 hi ar m au rfl oo (S9 g L l) L (ptrs B L) og x (y w2 0) 1 1 [Q9 r] og rfl (Is (DD _ _)) oh oo od om ot _ rfl ?_;intro g3 ay w3 j a ao bb))
  all_goals
   have C:=kG x (show 140≠145 by decide);have bj:=(x.lt g rfl).1;have ai:Cr w3 f w.heap.size (L+1) B' N' M':=(ae.keep (w':=w3) (λb hb=>by
    have az:b<w2.heap.size:=by
     rcases hb with⟨c,hc⟩|⟨es,c,hc⟩
     .exact(E1.1 hc).1
     exact(E1.1 hc).1
    have E:=DO w2 (.cells #[Q9 r] 140) b az;rw[<-E];refine a.block b ot λe=>C ?_;have e:b=g:=Aah e;rw[<-e];rcases hb with⟨c,hc⟩|⟨es,c,hc⟩
    .exact .inl ⟨c,E.trans hc⟩
    exact .inr ⟨es,c,E.trans hc⟩))
   have aj:B9 w w2:=t.trans (by
    have:=ah.below t.size;exact⟨this.os,this.tape,this.output,this.size,this.block⟩)
   have ak:B9 w w3:=aj.trans ⟨a.os,a.tape,a.output,GP oq a.size,λk hk=>by
    rw[a.block k ot (λe=>by have e:k=g:=Aah e;omega)];exact DO _ _ _ om⟩
   rw[Rb (z ag) (z af)]at j;rcases O ai,O ak,O j with⟨aM,a6,a7⟩;clear ai aj ak j a C x ae ah ag af HC T t x0 x1 x2 xp;go_wp2;go_roundw
   .exact⟨L+1,L+1,g3,ay,B',N',M',om,ov,rfl,om,.inl rfl,a7,aM,a6⟩
   exact ow
 .have q:k=0:=om;subst q;have ad:L=1:=om;subst ad;go_roundw
  .refine⟨1,1,g,l,B,Z,M,om,ov,rfl,om,.inl rfl,H.alloc _,HN.keep λb hb=>DO _ _ _ ?_,F.alloc F.size _⟩;rcases hb with⟨c,hc⟩|⟨es,c,hc⟩
   .exact(E1.1 hc).1
   exact(E1.1 hc).1
  exact ow
 have a8:L=n:=om;subst a8;go_ret;exact⟨⟨g,l,B,Z,M,rfl,HN,⟨(H.lt g rfl).2,H⟩,λi hi=>(H.cellAt i om).trans<|K7 hi⟩,F⟩
def aB(f:Nat->A9)(i:Nat)(key:ByteArray)(r:Int):Prop:=
 (∃t,(∀s,s<=t->0<Ed f i s)/\(f<|Ed f i t).key.toList=key.toList/\(∀s,s<t->(f<|Ed f i s).key.toList≠key.toList)/\r=(f<|Ed f i t).count-1)\/
 (r=-1/\∀t,(∀s,s<=t->0<Ed f i s)->(f<|Ed f i t).key.toList≠key.toList)
open Classical in
noncomputable def Bc(f:Nat->A9)(i:Nat)(key:ByteArray):Int:=if h:∃r,aB f i key r then h.choose else 0
def aB.eq{i}{key}{r}(h:aB f i key r):Bc f i key=r:=by
 have h1:∃r,aB f i key r:=⟨r,h⟩;grind [aB,Bc]
def XX(v:V9)(w:Y):Nat:=
 match v with
 |.pointer (some a)=>(match w.cell? a with|some (.int _ n)=>n.toNat|_=>0)
 |_=>0
def K0{a}(h:w.cell? a=some (J n)):XX (.pointer<|some a) w=n:=by
 unfold XX;simp[h]
def Dm(h:Cr w f b0 n B Z M)(hid:∀i,i<n->Z i=i){j}(hj:j<n):
  w.cell? (G (B j) 0)=some (J j)/\w.cell? (G (B j) 2)=some (.string (f j).key)/\w.cell? (G (B j) 3)=some (J (f j).count)/\w.cell? (G (B j) 4)=some (.pointer<|CT f B j)/\w.cell? (G (B j) 5)=some (.map<|M j):=by
 have a:=h.node j hj<|hid j hj;exact⟨a.cell om,a.cell om,a.cell om,a.cell om,a.cell om⟩
def Gz w{f}b0{n}B Z M(h:Cr w f b0 n B Z M)(hid:∀i,i<n->Z i=i)(h2:Bp f)(h3:Bf n f)i(hi:i<n)key:
  C9 106 #[Q9 (B i),.string key] w λe w'=>(e=.returned (J<|Bc f i key)/\aB f i key (Bc f i key))/\w'=w:=by
 have D:Hid<|∀j,j<n->w.cell? (G (B j) 0)=some (J j)/\w.cell? (G (B j) 2)=some (.string (f j).key)/\w.cell? (G (B j) 3)=some (J (f j).count)/\w.cell? (G (B j) 4)=some (.pointer<|CT f B j)/\w.cell? (G (B j) 5)=some (.map<|M j):=O λj hj=>Dm h hid hj;go_enter Tryz.func106,Tryz.ntmps106;go_wp2;go_loopw [5] (λv wr=>∃(t j:Nat),v=Q9 (B j)/\j=Ed f i t/\j<n/\wr=w/\∀s,s<t->0<Ed f i s/\(f<|Ed f i s).key.toList≠key.toList) λv wr=>XX v wr
 .exact⟨0,i,rfl,rfl,hi,rfl,λs hs=>om⟩
 obtain⟨t,j,rfl,hj,b,rfl,d⟩:=hrel;rcases z D j b,O hj,O d with⟨⟨c0,c2,c3,c4,_⟩,g,a⟩;clear hj d;by_cases k:j=0
 .subst k;rw[show CT f B 0=none by unfold CT;rw[C3 rfl]]at c4;go_wp2;go_ret;have l:aB f i key (-1):=by
   refine .inr ⟨rfl,λu hu e=>?_⟩;by_cases q:u<t
   .exact(a u q).2 e
   have:=hu t om;rw[<-z g]at this;omega
  rw[l.eq];exact⟨⟨rfl,l⟩,rfl⟩
 rw[show CT f B j=some (G (B (AD f j)) 0) by unfold CT;rw[Cs k]]at c4;have c:0<j:=om;rcases G0 h2 h3 b c,(h3 j c b).1,(h3 j c b).2.1 with⟨⟨m,o⟩,K,L⟩;have r:∀s,s<=t->0<Ed f i s:=λs hs=>by
  by_cases e:s=t
  .rw[e,<-z g];exact c
  exact(a s om).1
 have x:Ed f i (t+1)=AD f j:=by show(f<|Ed f i t).parent.toNat=_;rw[<-z g]
 have H:=K0 (D (AD f j)<|by unfold AD;omega).1;have A:=K0 c0;have C:AD f j<j:=by unfold AD;omega
 rcases O r,O<|qj H A,O (qj m o) with⟨p,E,F⟩;by_cases hK:(f j).key.toList=key.toList
 .have I:((f j).key.toList==key.toList)=true:=by simp[hK]
  rcases O hK,F.1,F.2 with⟨HK,m,o⟩;clear hK;go_wp2;go_ret;have l:aB f i key<|(f j).count-1:=.inl ⟨t,p,by rw[<-z g];exact HK,λs hs=>(a s hs).2,by rw[<-z g]⟩;rw[l.eq];exact⟨⟨rfl,l⟩,rfl⟩
 have I:((f j).key.toList==key.toList)=false:=by simp[hK]
 have HK:=O hK;clear hK;go_wp2;go_roundw
 .refine⟨t+1,AD f j,rfl,(z<|O x).symm,om,trivial,λs hs=>?_⟩;by_cases e:s=t
  .rw[e];exact⟨p t<|Be _,by rw[<-z g];exact HK⟩
  exact a s om
 rw[(z E).1,(z E).2];exact C
def RY w f b0 n g l B Z M(h:Cr w f b0 n B Z M)(hp:∀i,i<n->w.cell? (G g i)=some (Q9<|B i))(hn:n<=200):
  C9 102 #[S9 g n l] w λe w'=>(∃r,e=.returned (.bool r)/\(r=false↔∀i,i<n->Z i=i))/\w'=w:=by
 have m:Hid<|∀i,i<n->w.cell? (G (B i) 0)=some (J<|Z i):=O (λi hi=>by
  rw[<-h.Bw i hi];exact(h.node (Z i) (Aan (h.le i hi) hi) (h.own i hi)).cell (i:=0) om)
 have o:=O hp;clear h hp;go_enter Tryz.func102,Tryz.ntmps102;go_wp2;go_loopw [7] (λi wr=>∃k:Nat,k<=n/\i=J k/\wr=w/\∀j,j<k->Z j=j) λi _=>n-(intOf i).toNat
 .exact⟨0,om,rfl,rfl,λj hj=>om⟩
 obtain⟨k,hk,rfl,p,a⟩:=hrel;subst p;have c0:k<n->wr.cell? (G g k)=some (Q9<|B k):=λh=>o k h;have c1:k<n->wr.cell? (G (B k) 0)=some (J<|Z k):=λh=>m k h;have b:=O a;clear a;go_wp2
 .have c:k<n:=ol;have d:Z k≠k:=by
   intro e;have h':((Z k:Int)!=(k:Int))=true:=ol;rw[e]at h';simp at h'
  go_ret;exact⟨⟨true,rfl,⟨λh=>(by cases h),λh=>absurd (h k c) d⟩⟩,rfl⟩
 .have q:Z k=k:=by
   have h':((Z k:Int)!=(k:Int))=false:=ol;simp at h';omega
  go_roundw
  .refine⟨k+1,om,ov,trivial,λj hj=>?_⟩;by_cases e:j=k
   .rw[e];exact q
   exact b j om
  exact ow
 go_ret;exact⟨⟨false,rfl,⟨λ_ i hi=>b i om,λ_=>rfl⟩⟩,rfl⟩
def RD(n:Nat)(f:Nat->A9):Prop:=∃i,0<i/\i<n/\0<=Bc f (AD f i) (f i).key
def L9 w{f}b0{n}g v B Z M(h:Cr w f b0 n B Z M)(hid:∀i,i<n->Z i=i)(h2:Bp f)(h3:Bf n f)(hp:∀i,i<n->w.cell? (G g i)=some (Q9<|B i))(hn:n<=200):
  C9 103 #[S9 g n v] w λe w'=>(∃r,e=.returned (.bool r)/\(r=true↔RD n f))/\B9 w w':=by
 have u:=O hid;go_enter Tryz.func103,Tryz.ntmps103;go_wp2;go_loopw [7] (λi wr=>∃(k q:Nat),k<=n/\i=J k/\wr=w.drewN q/\∀j,0<j->j<k->Bc f (AD f j) (f j).key<0) λi _=>n-(intOf i).toNat
 .exact⟨0,0,om,rfl,rfl,λj l hj=>om⟩
 obtain⟨k,q,hk,rfl,s,a⟩:=hrel;have m:Cr wr f b0 n B Z M:=h.keep λb _=>qh s;have c0:k<n->wr.cell? (G g k)=some (Q9<|B k):=λh=>by rw[s];exact z (O hp) k h
 have t:=O s;have c:=O a;clear a s;go_wp2
 .have d:k<n:=ol;obtain⟨_,c2,_,c4,_⟩:=Dm m u d;by_cases o:k=0
  .subst o;rw[show CT f B 0=none by unfold CT;rw[C3 rfl]]at c4;go_quiet (fail);go_wp2;go_roundw
   .exact⟨1,q+nq,om,rfl,by rw[z t,World.drewN_drewN],λj l h1=>om⟩
   exact ow
  rw[show CT f B k=some (G (B (AD f k)) 0) by unfold CT;rw[Cs o]]at c4;have p:0<k:=om;have hs:AD f k<n:=by have:=(h3 k p d).2.1;unfold AD;omega
  have x:Hid<|∀q,C9 106 #[Q9 (B<|AD f k),.string (f k).key] (wr.drewN q) λe w'=>e=.returned (J<|Bc f (AD f k) (f k).key)/\w'=wr.drewN q:=
   O λq=>(Gz (wr.drewN q) b0 B Z M (m.keep λb _=>rfl) u (z<|O h2) h3 (AD f k) hs (f k).key).mono λe w' h=>⟨h.1.1,h.2⟩
  go_quiet (first|(go_at_call 106;exact Calls.quiet_of_same<|x _));by_cases A:0<=Bc f (AD f k) (f k).key
  .go_wp2;go_ret;exact⟨⟨true,rfl,⟨λ_=>⟨k,p,d,A⟩,λ_=>rfl⟩⟩,by rw[z t];exact below_drewN (below_drewN (BE _ _) _) _⟩
  go_wp2;go_roundw
  .refine⟨k+1,q+nq,om,ov,by rw[z t,World.drewN_drewN],λj l h1=>?_⟩;by_cases e:j=k
   .rw[e];omega
   exact c j l om
  exact ow
 go_ret;refine⟨⟨false,rfl,⟨λh=>(by cases h),?_⟩⟩,?_⟩
 .rintro⟨i,l,h1,h2⟩;have:=z c i l om;omega
 rw[z t];exact below_drewN (BE _ _) _
end
section
open Go.RowKit
open Go.Maps Keyed
def Mo(e:Ending)(p:Prop):Prop:=∃r:Bool,e=.returned (.bool r)/\(r=true↔p)
theorem Mo.no{p}(h:¬p):Mo (.returned<|.bool false) p:=⟨false,rfl,⟨λe=>(by cases e),λe=>absurd e h⟩⟩
def Mo.yes{p}(h:p):Mo (.returned<|.bool true) p:=⟨true,rfl,⟨λ_=>h,λ_=>rfl⟩⟩
def Qr cap{f}{w}(hA:Bg w b n f)(hn:n<=200)(h2:Bp f):
  C9 100 #[.agg #[S9 b n cap]] w λe w'=>Mo e (Bf n f)/\B9 w w':=by
 rcases hA.lt,O hA,O h2 with⟨hl,r,D⟩;clear hA h2;go_enter Tryz.func100,Tryz.ntmps100;go_wp2;go_loopw [8] (λi wr=>∃k:Nat,k<=n/\i=J k/\B9 w wr/\wr.cell? (y w 0)=some (S9 b n cap)/\w.heap.size<wr.heap.size/\∀j,1<=j->j<k->Yp f j) λi _=>n-(intOf i).toNat
 .exact⟨0,om,rfl,n9,oe,oq,λj h1 h2=>om⟩
 obtain⟨k,hk,rfl,hb,l,o,m⟩:=hrel;have c0:k<n->wr.cell? (G b<|k*3)=some (J (f k).parent):=λh=>((r.below hb hl).cells h).1;have c1:k<n->wr.cell? (G b<|k*3+1)=some (.string (f k).key):=λh=>((r.below hb hl).cells h).2.1;have c2:k<n->wr.cell? (G b<|k*3+2)=some (J (f k).count):=λh=>((r.below hb hl).cells h).2.2;have d:=O hb;have c:=O m;clear hb m;by_cases a:k<n
 case neg=>
  go_wp2;go_ret;exact⟨.yes λi h1 h2=>c i h1 om,d⟩
 by_cases u:k=0
 .subst u;go_wp2;go_roundw
  .exact⟨1,om,ov,d.alloc om _,by simp[go_sem,l,o],ot,λj h1 h2=>om⟩
  exact ow
 have E:((k:Int)==0)=false:=ot;by_cases hA:(f k).parent<0
 .have B:decide ((f k).parent<0)=true:=by simp[hA]
  have g:Hid<|¬Bf n f:=O λh=>oS (h k om a).1;go_wp2;go_ret;exact⟨.no g,d.alloc om _⟩
 have B:decide ((f k).parent<0)=false:=by simp[hA]
 by_cases C:(k:Int)<=(f k).parent
 .have q:decide ((k:Int)<=(f k).parent)=true:=by simp[C]
  have g:Hid<|¬Bf n f:=O λh=>oS (h k om a).2.1;go_wp2;go_ret;exact⟨.no g,d.alloc om _⟩
 have q:decide ((k:Int)<=(f k).parent)=false:=ot;by_cases F:(4000:Int)<(f k).key.size
 .have H:decide ((4000:Int)<(f k).key.size)=true:=by simp[F]
  have g:Hid<|¬Bf n f:=O λh=>oS (h k om a).2.2.2.2;go_wp2;go_ret;exact⟨.no g,d.alloc om _⟩
 obtain⟨p,hp⟩:∃p:Nat,(f k).parent=p:=⟨(f k).parent.toNat,om⟩;have v:p<k:=om;have x:p<n:=om;obtain⟨I,K⟩:=A7 D c p v;have e2:=((r.below d hl).cells x).2.2;rw[hp]at hA C B q c0;rcases O hp,A0 hl d.size,c0 a,c1 a,c2 a with⟨s,L,d0,d1,d2⟩;clear hp c0 c1 c2;have Q:IntKind.i64.wrap ((f p).count+1)=(f p).count+1:=oj;by_cases hD:12<(f k).count
 .have g:Hid<|¬Bf n f:=O λh=>oS (h k om a).2.2.2.1;have A:decide (12<(f k).count)=true:=by simp[hD]
  go_wp2;go_quiet (fail);go_wp2;go_ret;exact⟨.no g,below_drewN (d.alloc om _) _⟩
 have A:decide (12<(f k).count)=false:=ot;by_cases t:(f k).count=(f p).count+1
 case neg=>
  have g:Hid<|¬Bf n f:=O (λh=>by have:=(h k om a).2.2.1;rw[z s]at this;exact t this);go_wp2;go_quiet (fail);go_wp2;go_ret;exact⟨.no g,below_drewN (d.alloc om _) _⟩
 have M:((f k).count !=(f p).count+1)=false:=by simp[t]
 have P:Hid<|Yp f k:=O ⟨by rw[z s];omega,by rw[z s];omega,by rw[z s];exact t,om,om⟩;clear t;go_wp2;go_quiet (fail);go_wp2;go_roundw
 .refine⟨k+1,om,ov,below_drewN (d.alloc om _) _,by simp[go_sem,l,o],ot,λj h1 h2=>?_⟩;by_cases e:j=k
  .rw[e];exact P
  exact c j h1 om
 exact ow
def VB{p:Nat->Prop}(h:∃t,p t):∃t,p t/\∀s,s<t->¬p s:=by
 obtain⟨t,c⟩:=h
 induction t using Nat.strongRecOn with
 |ind t ih=>
  by_cases hs:∃s,s<t/\p s
  .obtain⟨s,a,hs⟩:=hs;exact ih s a hs
  exact⟨t,c,λs a b=>hs ⟨s,a,b⟩⟩
def JJ f i key:aB f i key<|Bc f i key:=by
 by_cases h:∃t,(∀s,s<=t->0<Ed f i s)/\(f<|Ed f i t).key.toList=key.toList
 .obtain⟨t,⟨h1,h2⟩,h3⟩:=VB h;have hp:aB f i key<|(f<|Ed f i t).count-1:=.inl ⟨t,h1,h2,λs hs e=>h3 s hs ⟨λu hu=>h1 u om,e⟩,rfl⟩;rw[hp.eq];exact hp
 have hp:aB f i key (-1):=.inr ⟨rfl,λt a e=>h ⟨t,a,e⟩⟩;rw[hp.eq];exact hp
theorem bA(h3:Bf n f){i}(hi:i<n):∀t,(∀s,s<t->0<Ed f i s)->Ed f i t<=i:=by
 intro t
 induction t with
 |zero=>intro _;exact Be _
 |succ t ih=>
  intro h;have h1:=ih λs hs=>h s om;have a:=h t om;have:=(h3 (Ed f i t) a om).2.1;show(f<|Ed f i t).parent.toNat<=i;omega
def Sz(h2:Bp f)(h3:Bf n f){i}(hi:i<n)key:0<=Bc f i key↔∃t,(∀s,s<=t->0<Ed f i s)/\(f<|Ed f i t).key.toList=key.toList:=by
 have hp:=JJ f i key;constructor
 .intro h;rcases hp with⟨t,a,b,_⟩|⟨a,_⟩
  .exact⟨t,a,b⟩
  omega
 rcases hp with⟨u,a',_,_,d⟩|⟨_,c⟩;all_goals grind [Bf,Ed,bA,G0]
theorem SW(h3:Bf n f){i}(h1:1<=i)(hi:i<n):∀t,(∀s,s<t->0<Ed f (AD f i) s)->PT f i t=Ed f (AD f i) t:=by
 intro t
 induction t with
 |zero=>
  intro _;have:=(h3 i h1 hi).1;show(f i).parent=((f i).parent.toNat:Int);omega
 |succ t ih=>
  intro h;have e:=ih λs hs=>h s om;have hp:AD f i<n:=by have:=(h3 i h1 hi).2.1;unfold AD;omega
  have hl:=bA h3 hp t λs hs=>h s om;have:=(h3 (Ed f (AD f i) t) (h t om) om).1;show(f (PT f i t).toNat).parent=((f<|Ed f (AD f i) t).parent.toNat:Int);rw[e,On];omega
def W6(h3:Bf n f){i}(h1:1<=i)(hi:i<n)t:(∀s,s<=t->0<PT f i s)↔∀s,s<=t->0<Ed f (AD f i) s:=by
 constructor
 .intro h s
  induction s using Nat.strongRecOn with
  |ind s ih=>
   intro hs;have:=SW h3 h1 hi s λu hu=>ih u hu om;have:=h s hs;omega
 grind [PT,SW]
def Fv(h2:Bp f)(h3:Bf n f):RD n f↔¬IL n f:=by
 have d:∀i,0<i->i<n->AD f i<n:=λi c hi=>by have:=(h3 i c hi).2.1;unfold AD;omega
 constructor
 .rintro⟨i,c,hi,hp⟩ h5;obtain⟨t,a,b⟩:=(Sz h2 h3 (d i c hi) _).1 hp;refine h5 i t c hi ((W6 h3 c hi t).2 a) ?_;grind [Bf,IL,SW]
 intro h5;by_cases h:RD n f
 .exact h
 refine absurd (λi t c hi hu e=>h ⟨i,c,hi,(Sz h2 h3 (d i c hi) _).2 ⟨t,(W6 h3 c hi t).1 hu,?_⟩⟩) h5;have a:=(W6 h3 c hi t).1 hu;rw[SW h3 c hi t (λs hs=>a s om)]at e;exact e
def Rp{d}(h:Nodes P K d w f b0 n B Z M)(h2:Bp f)(h3:Bf n f):(∀i,i<n->Z i=i)↔FW n f:=by
 constructor
 .intro hid i k h1 g hi j;have a:=h3 i om hi;have b:=h3 k h1 om;have e:f k=f i:=by
   obtain⟨e1,e2⟩:=j;have o:(f k).key=(f i).key:=WideShapes.bytes_inj (by rw[<-AaW,<-AaW];exact e2);have p:(f k).count=(f i).count:=by rw[b.2.2.1,a.2.2.1,e1]
   cases hk:f k;cases l:f i;grind [Bf]
  grind [Bf,Nodes.one]
 intro h4 i hi;by_cases e:Z i=i
 .exact e
 have c:Z i<i:=oS<|h.le i hi;have hs:=h.same i hi;have m:1<=Z i:=by
  rcases Aav (Z i)with e0|e0
  .rw[e0]at hs;have:=h2.1;rw[hs]at this;have:=(h3 i om hi).1;omega
  exact e0
 exact absurd ⟨by rw[hs],by rw[hs]⟩<|h4 i (Z i) m c hi
def Nodes.SB{b1}(h:Nodes P K a w f b0 n B Z M)(hb:b1<=b0):Nodes P K a w f b1 n B Z M:=
 {h with base:=λi hi=>GP hb (h.base i hi),mbase:=λi m hi hn b=>GP hb (h.mbase i m hi hn b)}
def DQ.lt(h:DQ a w b):b<w.heap.size:=by
 grind [DQ]
def Nodes.below(h:Nodes P K a w f b0 n B Z M)(hb:B9 w w'):Nodes P K a w' f b0 n B Z M:=
 h.keep λb hn=>hb.block b hn.lt
def Pd{base JY size}{v:V9}(h:w.ownsRow base e size v n xs)(hb:JY<=base):w.ownsRow JY e size v n xs:=by
 obtain⟨hl,⟨b,d⟩|⟨g',cap,cur,b,c,a,h1,h2,h3,h4⟩⟩:=h
 .exact⟨hl,.inl ⟨b,d⟩⟩
 exact⟨hl,.inr ⟨g',cap,cur,b,GP hb c,a,h1,h2,h3,h4⟩⟩
def Wo{base size}{v:V9}(h:w.ownsRow base e size v n xs)(hb:B9 w w'):w'.ownsRow base e size v n xs:=by
 obtain⟨hl,⟨b,d⟩|⟨g',cap,cur,b,c,a,h1,h2,h3,h4⟩⟩:=h
 .exact⟨hl,.inl ⟨b,d⟩⟩
 refine⟨hl,.inr ⟨g',cap,cur,b,c,?_,h1,h2,h3,h4⟩⟩;rw[hb.block g' (E1.1 a).1];exact a
def mL(w0:Y)(n:Nat)(f:Nat->A9)(e:Ending)(w:Y):Prop:=
 (∃r:Int,e=.returned (.tuple #[N9,J r])/\r=Aq n f/\r≠0)\/
 (∃g a B Z M,e=.returned (.tuple #[S9 g n a,J 0])/\Aq n f=0/\Cr w f w0.heap.size n B Z M/\(∀i,i<n->Z i=i)/\(g<w.heap.size/\w.ownsRow w0.heap.size 140 1 (S9 g n a) n (ptrs B n))/\∀i,i<n->w.cell? (G g i)=some (Q9<|B i))
def Um p q k l c d w:(binOp .neq 142 (Sh p k c)<|Sh q l d).run Tryz.prog w=.ok (.bool<|!(p==q&&(k.toList==l.toList&&c==d))) w:=by
 go_simp;by_cases h1:p=q<;>by_cases h2:k.toList=l.toList<;>by_cases h3:c=d<;>simp[h1,h2,h3]
def Mo.cases{e}{p}(h:Mo e p):(e=.returned (.bool true)/\p)\/(e=.returned (.bool false)/\¬p):=by
 grind [Mo]
def Y0 cap{f}{w}(hA:Bg w b n f)(hn:n<=1048576):
  C9 57 #[.agg #[S9 b n cap]] w λe w'=>mL w n f e w'/\B9 w w':=by
 have hl:=hA.lt;have A:0<n->w.cell? (G b 0)=some (J (f 0).parent):=λh=>by simpa using (hA.cells h).1
 have C:0<n->w.cell? (G b 1)=some (.string (f 0).key):=λh=>by simpa using (hA.cells h).2.1
 have D:0<n->w.cell? (G b 2)=some (J (f 0).count):=λh=>by simpa using (hA.cells h).2.2
 by_cases h1:Dw n
 case neg=>
  have T:=O<|QO (f:=f) h1;by_cases U:n=0
  focus
   subst U
  rotate_left
  focus
   have h2:200<n:=by unfold Dw at h1;omega
  all_goals
   go_enter Tryz.func57,Tryz.ntmps57;go_wp2
   go_ret2
   exact⟨.inl ⟨1,oq,T.symm,om⟩,n9⟩
 have q:0<n:=by unfold Dw at h1;omega
 have h3:(n:Int)<=200:=by unfold Dw at h1;omega
 have j:=(BE w.heap.size w).alloc (Be _)<|.cells #[S9 b n cap] 38;go_enter Tryz.func57,Tryz.ntmps57;go_wp2;obtain⟨W,o⟩:=o9<|w.alloc<|.cells #[S9 b n cap] 38;rw[<-o];have x0:W.cell? (y w 0)=some (S9 b n cap):=by rw[o];simp[go_sem]
 have d0:W.cell? (G b 0)=some (J (f 0).parent):=by rw[o,Hi _ _ _ hl];exact A q
 have d1:W.cell? (G b 1)=some (.string (f 0).key):=by rw[o,Hi _ _ _ hl];exact C q
 have d2:W.cell? (G b 2)=some (J (f 0).count):=by rw[o,Hi _ _ _ hl];exact D q
 have E:W.heap.size=w.heap.size+1:=by rw[o];simp
 have V:b<W.heap.size:=om;have v:w.heap.size<W.heap.size:=om;rw[<-o]at j;clear o E;refine qr W ?_;(iterate 4 refine N (h:=?_));refine GC λK hK=>?_;go_simp;refine⟨_,λw' s=>qk s<|J5 _,hK _ ?_⟩;clear hK K;refine GC λK hK=>?_;by_cases h2:Bp f
 case neg=>
  have p:∀w:World,(binOp .neq 142 (Sh (f 0).parent (f 0).key (f 0).count)<|Sh (-1) ⟨#[]⟩ 0).run Tryz.prog w=.ok (.bool true) w:=λw=>by
   rw[Um];have:((f 0).parent==-1&&((f 0).key.toList==(⟨#[]⟩:ByteArray).toList&&(f 0).count==0))=false:=by
    cases hb:((f 0).parent==-1&&((f 0).key.toList==(⟨#[]⟩:ByteArray).toList&&(f 0).count==0))with
    |false=>rfl
    |true=>simp at hb;exact absurd ⟨hb.1,by simpa using hb.2.1,hb.2.2⟩ h2
   rw[this];rfl
  go_simp;refine⟨_,λw' s=>rfl,hK _ ?_⟩;clear hK K;refine GS ?_;intro w2 c;have t:=O<|QP h1 h2;have k:=o8 j c;clear c p h2;go_wp2
  go_ret2
  exact⟨.inl ⟨2,oq,t.symm,om⟩,k⟩
 have p:∀w:World,(binOp .neq 142 (Sh (f 0).parent (f 0).key (f 0).count)<|Sh (-1) ⟨#[]⟩ 0).run Tryz.prog w=.ok (.bool false) w:=λw=>by
  rw[Um,UE h2];simp
 go_simp;refine⟨_,λw' s=>rfl,hK _ ?_⟩;clear hK K;refine GS ?_;intro w2 c;have k:=o8 j c;have X:=(c.cell<|by exact v).trans x0;have z2:=A0 v c.size;go_wp2_with fail;refine(Qr cap (hA.below k hl) om h2).mono ?_;rintro e w3 ⟨ht,u⟩;rcases (u.cell<|by exact z2).trans X,A0 z2 u.size,o8 k u with⟨y3,z3,m⟩;rcases ht.cases with⟨rfl,a⟩|⟨rfl,a⟩
 case inr=>
  have t:=O<|FM h1 h2 a;go_wp2
  go_ret2
  exact⟨.inl ⟨3,oq,t.symm,om⟩,m⟩
 go_wp2_with fail
 refine(Zp cap (hA.below m hl) h1 h2 a).mono ?_;rintro e w4 ⟨⟨g,F,B,Z,M,rfl,hN,⟨P,H⟩,hp⟩,I⟩;rcases o8 m I,O hp,O (AaM z3) with⟨l,L,Q⟩;go_wp2_with fail;refine(RY _ f _ n g F B Z M hN L om).mono ?_;rintro e w5 ⟨⟨r,rfl,x⟩,rfl⟩;cases r
 case true=>
  have h4:¬FW n f:=λh4=>by
   have:=x.2<|(Rp hN h2 a).2 h4;cases this
  have t:=O<|QQ h1 h2 a h4;go_wp2
  go_ret2
  exact⟨.inl ⟨4,oq,t.symm,om⟩,l⟩
 have hid:=x.1 rfl;have R:=(Rp hN h2 a).1 hid;have S:=O hid;go_wp2_with fail;refine(L9 _ _ g F B Z M hN S h2 a L om).mono ?_;rintro e w6 ⟨⟨r,rfl,x⟩,d⟩;cases r
 case true=>
  have t:=O<|QR h1 h2 a R<|(Fv h2 a).1<|x.1 rfl;go_wp2
  go_ret2
  exact⟨.inl ⟨5,oq,t.symm,om⟩,o8 l d⟩
 have h5:IL n f:=AaO λh5=>by
  have:=x.2<|(Fv h2 a).2 h5;cases this
 go_wp2
 go_ret2
 refine⟨.inr ⟨g,F,B,Z,M,oq,z<|O<|LS h1 h2 a R h5,?_,S,⟨A0 P d.size,Pd (Wo H d) Q⟩,λi hi=>(d.cell<|by exact P).trans<|L i hi⟩,o8 l d⟩;exact(hN.below d).SB Q
def VD w{f}b0{n}B Z M(h:Cr w f b0 n B Z M)(hid:∀i,i<n->Z i=i)(h2:Bp f)(h3:Bf n f)i(hi:i<n):
  C9 208 #[Q9 (B i)] w λe w'=>(∃m,e=.returned (S9 m (nf f i)<|nf f i)/\w.heap.size<=m/\lQ w' m (nf f i) (DK f i))/\B9 w w':=by
 obtain⟨R,S⟩:=A7 h2 (λj h1 h2=>h3 j h1 h2) i hi;obtain⟨c,hc⟩:∃c:Nat,(f i).count=c:=⟨(f i).count.toNat,om⟩;have u:nf f i=c:=by unfold nf;omega
 have K:c<=12:=om;have T:=run_make_row' 182 9 E9 16 Tryz.underlying182 XT rfl .i64 .i64 c om om;obtain⟨_,_,a3,_,_⟩:=Dm h hid hi;rw[hc]at a3;have x:∀j,j<n->B j<w.heap.size:=λj hj=>h.lt hj;rcases O x,O hid,O u with⟨A,L,k⟩;go_enter Tryz.func208,Tryz.ntmps208;go_wp2;go_loopw [4] (λv wr=>∃(t j:Nat) (g:Nat->Value),t<=c/\v=Q9 (B j)/\j=Ed f i t/\j<n/\B9 w wr/\wr.rowIs w.heap.size 9 c g/\∀j,c-t<=j->j<c->g j=.string (DK f i j)) λv wr=>XX v wr
 .exact⟨0,i,λ_=>E9,om,rfl,rfl,hi,n9,World.rowIs_made w E9 c 9,λj h1 h2=>om⟩
 obtain⟨t,p,g,U,rfl,hp,b,hb,a,d⟩:=hrel;obtain⟨C,D⟩:=EX h2 h3 hi t (by rw[z k];exact U);rw[z k,<-hp]at D;have P:=O hp;clear hp C;obtain⟨c0,c2,c3,c4,_⟩:=Dm (h.below hb) L b;have hq:∀j,j<n->wr.cell? (G (B j) 0)=some (J j):=λj hj=>(Dm (h.below hb) L hj).1;have V:=A0 (A p b) hb.size;have Q:=Nat.ne_of_lt<|A p b;by_cases l:p=0
 .subst l;rw[show CT f B 0=none by unfold CT;rw[C3 rfl]]at c4;have o:c=t:=oS h2.2.2;subst o;rcases O hb,O a,O d with⟨W,X,q⟩;go_wp2;go_ret;refine⟨⟨w.heap.size,qg k,Be _,?_⟩,W⟩;rw[z k];exact X.congr λj hj=>q j om hj
 rw[show CT f B p=some (G (B (AD f p)) 0) by unfold CT;rw[Cs l]]at c4;have s:0<p:=om;have ad:=(h3 p s b).2.1;have o:t<c:=oS (G0 h2 h3 b s).1;obtain⟨r,hr⟩:∃r:Nat,r+1=c-t:=⟨c-t-1,om⟩;have er:(f p).count=(r:Int)+1:=om;rw[er]at c3;have E:r<c:=om;have d0:=a.cell E;have d1:=a.frozen r;have HF:Hid<|DK f i r=(f p).key:=O (by unfold DK;rw[z k,show c-1-r=t by omega,<-z P]);have F:Ed f i (t+1)=AD f p:=by show(f<|Ed f i t).parent.toNat=_;rw[<-z P]
 have H:AD f p<p:=by unfold AD;omega
 have HE:=O er;go_wp2
 go_region
 go_wp2;go_roundw
 .refine⟨t+1,AD f p,_,om,rfl,(z<|O F).symm,om,((z<|O hb).setCell (by exact Be _) _).drew,((z<|O a).set r _).drew,λj h1 h2=>?_⟩;by_cases e:j=r
  .subst e;simp[z HF]
  simp only[e,XN];exact z (O d) j om h2
 have hs:AD f p<n:=om;have I:=Nat.ne_of_lt<|A _ hs;rw[K0 c0,K0 (n:=AD f p)]
 .exact H
 exact(As<|At _ _ _ _ I).trans (z (O hq) _ hs)
end
section
open Go.RowKit
theorem Xo(f:Nat->A9)(i t:Nat):∀s,Ed f (Ed f i t) s=Ed f i (t+s)
 |0=>rfl
 |s+1=>by
  show(f<|Ed f (Ed f i t) s).parent.toNat=_;rw[Xo f i t s];rfl
theorem RN(h2:Bp f)(h3:Bf n f){i}(hi:i<n){t}(a:t<nf f i):0<Ed f i t:=by
 have:=(EX h2 h3 hi t om).2;grind [Bp,nf]
def aZ(h2:Bp f)(h3:Bf n f){i}(hi:i<n){t}(a:∀s,s<=t->0<Ed f i s):t<nf f i:=by
 grind [Bf,nf,EX,G0]
theorem QF(h2:Bp f)(h3:Bf n f)(h5:IL n f){i}(hi:i<n){t u}(d:t<u)(hu:u<nf f i):(f<|Ed f i t).key.toList≠(f<|Ed f i u).key.toList:=by
 intro e;have b:=RN h2 h3 hi (show t<nf f i by omega);have c:=(EX h2 h3 hi t om).1;have hs:AD f (Ed f i t)=Ed f i (t+1):=rfl;have a:AD f (Ed f i t)<n:=by have:=(h3 _ b c).2.1;unfold AD;omega
 refine(Fv h2 h3).1 ⟨Ed f i t,b,c,?_⟩ h5;refine(Sz h2 h3 a _).2 ⟨u-t-1,λs g=>?_,?_⟩;all_goals grind [Bf,nf,Xo,RN]
theorem dS(h2:Bp f)(h3:Bf n f)(h5:IL n f){i}(hi:i<n)key{j}(hj:j<nf f i)(e:(DK f i j).toList=key.toList):Bc f i key=j:=by
 have hp:=JJ f i key;rcases hp with⟨t,a,b,_,d⟩|⟨_,c⟩;all_goals grind [Bp,Bf,nf,DK,Bc,QF,EX]
theorem Uw(h2:Bp f)(h3:Bf n f){i}(hi:i<n)key(e:∀j,j<nf f i->(DK f i j).toList≠key.toList):Bc f i key=-1:=by
 have hp:=JJ f i key;rcases hp with⟨t,a,b,_,d⟩|⟨c,_⟩
 .have g:=aZ h2 h3 hi a;refine absurd ?_<|e (nf f i-1-t) om;grind [Bf,DK,Ed]
 exact c
def KS cap i key{f}{w}(hA:Bg w b n f)(h1:Dw n)(h2:Bp f)(h3:Bf n f)(h5:IL n f)(hi:i<n):
  C9 82 #[.agg #[S9 b n cap],J i,.string key] w (R9 (J<|Bc f i key) w):=by
 have u:nf f i<=12:=by have:=(A7 (k:=n) h2 (λj h1 h2=>h3 j h1 h2) i hi).2;unfold nf;omega
 obtain⟨m,x⟩:=qa<|nf f i;have p:=O x;have t:m<=12:=om;have c:B9 w<|w.alloc<|.cells #[S9 b n cap] 38:=n9;go_enter Tryz.func82,Tryz.ntmps82;go_wp2_with fail;refine(Hz cap i (hA.below c hA.lt) h1 h2 h3 hi).mono ?_;rintro e w1 ⟨⟨g,rfl,D,q⟩,r⟩;rw[z p]at q ⊢;have A:=H8 q;have d:=o8 c r;go_wp2;go_loopw [13] (λv wr=>∃k:Nat,k<=m/\v=J k/\wr=w1/\∀j,j<k->(DK f i j).toList≠key.toList) λv _=>m-(intOf v).toNat
 .exact⟨0,om,rfl,rfl,λj hj=>om⟩
 obtain⟨k,hk,rfl,B,l⟩:=hrel;subst B;have c0:k<m->wr.cell? (G g k)=some (.string<|DK f i k):=λh=>World.rowIs.cell q h;have a:=O l;by_cases o:k<m
 .have d0:=c0 o;by_cases hK:(DK f i k).toList=key.toList
  .have C:((DK f i k).toList==key.toList)=true:=by simp[hK]
   have s:=O<|dS h2 h3 h5 hi key (by rw[z p];exact o) hK;clear hK;go_wp2;go_ret;exact⟨qg s,d⟩
  have C:((DK f i k).toList==key.toList)=false:=by simp[hK]
  have HK:=O hK;clear hK;go_wp2;go_roundw
  .refine⟨k+1,om,ov,trivial,λj hj=>?_⟩;by_cases e:j=k
   .rw[e];exact HK
   exact a j om
  exact ow
 have s:=O<|Uw h2 h3 hi key λj hj=>a j (by rw[z p]at hj;omega);go_wp2;go_ret;exact⟨qg s,d⟩
end
section
open Go.RowKit
attribute [local go_sem] Ar Am
def bare(d:Dc):Prop:=d.n=0/\d.m=0/\d.x=0/\d.used=0/\d.live=0/\d.turns=0
def J2(v:Vl):Bool:=v.ok&&v.kind !=0
def Vm(s:AK)(j:Nat)(t:Tb):Prop:=(t.nv:Int)=(s.F j).count/\bare t.d/\∀i,i<t.nv->J2 (t.V i)=true
def Nv(s:AK)(D:Int)(t:Tb):Prop:=
 (t.shape=-1/\t.nv=0/\D=0)\/(0<=t.shape/\t.shape<s.nf/\Vm s t.shape.toNat t)
def Pb(s:AK)(x:Si):Prop:=x.key.size<=4000/\0<=x.BZ/\0<=x.AB/\x.BZ<=1000000000000/\x.AB<=1000000000000/\((x.shape=-1/\x.place=0)\/(0<=x.shape/\x.shape<s.nf/\0<=x.place/\Bc s.F x.shape.toNat x.key=x.place))
open Classical in
noncomputable def Bz(s:AK)(D:Nat->Int):Int:=
 if Aq s.nf s.F=0 then if s.nt<=100/\s.ns<=50 then if∀i,i<s.nt->Nv s (D i) (s.T i)then if∀i,i<s.ns->Pb s (s.S i)then 0 else 4 else 3 else 2 else 1
def UW(h:Aq s.nf s.F≠0):Bz s D=1:=Cs h
def Lh(h1:Aq s.nf s.F=0)(h:¬(s.nt<=100/\s.ns<=50)):Bz s D=2:=by unfold Bz;rw[C3 h1,Cs h]
def Li(h1:Aq s.nf s.F=0)(h2:s.nt<=100/\s.ns<=50)(h:¬∀i,i<s.nt->Nv s (D i) (s.T i)):Bz s D=3:=by unfold Bz;rw[C3 h1,C3 h2,Cs h]
def UX(h1:Aq s.nf s.F=0)(h2:s.nt<=100/\s.ns<=50)(h3:∀i,i<s.nt->Nv s (D i) (s.T i))(h:¬∀i,i<s.ns->Pb s (s.S i)):Bz s D=4:=by unfold Bz;rw[C3 h1,C3 h2,C3 h3,Cs h]
def PE(h1:Aq s.nf s.F=0)(h2:s.nt<=100/\s.ns<=50)(h3:∀i,i<s.nt->Nv s (D i) (s.T i))(h:∀i,i<s.ns->Pb s (s.S i)):Bz s D=0:=by unfold Bz;rw[C3 h1,C3 h2,C3 h3,C3 h]
def Lj(h:Bz s D=0):Aq s.nf s.F=0/\(s.nt<=100/\s.ns<=50)/\(∀i,i<s.nt->Nv s (D i) (s.T i))/\∀i,i<s.ns->Pb s (s.S i):=by
 grind [Bz,Aq,Nv,Pb]
def OP la lc ia ic xa xc d w:
  C9 80 #[Dv la lc ia ic xa xc d] w (R9 (.bool<|tells<|bare d) w):=by
 have e:∀o,B9 w<|w.alloc o:=λo=>n9;have b:=O e;by_cases h1:((d.n:Int)==0)=true
 case neg=>
  have a:=O<|Ae (p:=bare d) (λh=>by unfold bare at h;simp at h1;omega);have f:((d.n:Int)==0)=false:=by simpa using h1
  go_enter Tryz.func80,Tryz.ntmps80;go_wp2;go_ret;exact⟨qg a,b _⟩
 by_cases h2:((d.m:Int)==0)=true
 case neg=>
  have a:=O<|Ae (p:=bare d) (λh=>by unfold bare at h;simp at h2;omega);have g:((d.m:Int)==0)=false:=by simpa using h2
  go_enter Tryz.func80,Tryz.ntmps80;go_wp2;go_ret;exact⟨qg a,b _⟩
 by_cases h3:((d.x:Int)==0)=true
 case neg=>
  have a:=O<|Ae (p:=bare d) (λh=>by unfold bare at h;simp at h3;omega);have i:((d.x:Int)==0)=false:=by simpa using h3
  go_enter Tryz.func80,Tryz.ntmps80;go_wp2;go_ret;exact⟨qg a,b _⟩
 by_cases h4:(d.used==0)=true
 case neg=>
  have a:=O<|Ae (p:=bare d) (λh=>by unfold bare at h;simp at h4;omega);have j:(d.used==0)=false:=by simpa using h4
  go_enter Tryz.func80,Tryz.ntmps80;go_wp2;go_ret;exact⟨qg a,b _⟩
 by_cases h5:(d.live==0)=true
 case neg=>
  have a:=O<|Ae (p:=bare d) (λh=>by unfold bare at h;simp at h5;omega);have k:(d.live==0)=false:=by simpa using h5
  go_enter Tryz.func80,Tryz.ntmps80;go_wp2;go_ret;exact⟨qg a,b _⟩
 by_cases c:(d.turns==0)=true
 case neg=>
  have a:=O<|Ae (p:=bare d) (λh=>by unfold bare at h;simp at c;omega);have l:(d.turns==0)=false:=by simpa using c
  go_enter Tryz.func80,Tryz.ntmps80;go_wp2;go_ret;exact⟨qg a,b _⟩
 have a:=O<|Aj (p:=bare d) (by simp at h1 h2 h3 h4 h5 c;exact⟨h1,h2,h3,h4,h5,c⟩);go_enter Tryz.func80,Tryz.ntmps80;go_wp2;go_ret;exact⟨qg a,b _⟩
def Xj(la:T9)(lc:Nat)(ia:T9)(ic:Nat)(xa:T9)(xc:Nat)(d:Dc)(D:Int):Prop:=
 ∀W:World,Ea W la ia xa d->C9 78 #[Dv la lc ia ic xa xc d] W (R9 (J D) W)
def Sf m k ta tc sa sc s va vc{la:Option Addr}{lc}{ia:Option Addr}{ic}{xa:Option Addr}{xc}t{D}{w}(hA:Ea w la ia xa t.d)(hD:Xj la lc ia ic xa xc t.d D)(j:t.shape<0):
  C9 42 #[PY (some<|G m 0) k ta tc sa sc s,TV va vc la lc ia ic xa xc t] w (R9 (.bool<|tells<|Nv s D t) w):=by
 have a:∀o1 o2,B9 w<|(w.alloc o1).alloc o2:=λo1 o2=>(n9).alloc oq _;rcases O a,O hA,O hD with⟨b,l,n⟩;clear a hA hD;by_cases h2:(t.shape==-1)=true
 case neg=>
  have f:=O<|Ae (p:=Nv s D t) (λh=>by simp at h2;rcases h with h|h<;>omega);have o:(t.shape==-1)=false:=by simpa using h2
  clear h2;go_enter Tryz.func42,Tryz.ntmps42;go_wp2;go_ret;exact⟨qg f,b _ _⟩
 by_cases h3:((t.nv:Int)==0)=true
 case neg=>
  have f:=O<|Ae (p:=Nv s D t) (λh=>by simp at h2 h3;rcases h with h|h<;>omega);have q:((t.nv:Int)==0)=false:=by simpa using h3
  clear h3;go_enter Tryz.func42,Tryz.ntmps42;go_wp2;go_ret;exact⟨qg f,b _ _⟩
 have r:Hid<|tells (Nv s D t)=(D==0):=O (by
  simp at h2 h3;by_cases g:D=0
  .rw[Aj (.inl ⟨h2,h3,g⟩)];simp[g]
  rw[Ae (λh=>by rcases h with h|h<;>omega)];simp[g])
 go_enter Tryz.func42,Tryz.ntmps42;go_wp2_with fail;refine(n _<|l.below<|b _ _).mono ?_;rintro e w1 ⟨rfl,c⟩;have i:=O<|o8 (b _ _) c;clear c;go_wp2;go_ret;exact⟨by rw[z r]<;>rfl,i⟩
abbrev TJ(j:Nat)(va:T9)(vc:Nat)(la:T9)(lc:Nat)(ia:T9)(ic:Nat)(xa:T9)(xc:Nat)(t:Tb):Value:=.agg #[J (j:Int),.slice va t.nv vc,.slice la t.d.n lc,.slice ia t.d.m ic,.slice xa t.d.x xc,J t.d.used,J t.d.live,J t.d.turns]
def V2 H ta tc sa sc s{va:Option Addr}vc la lc ia ic xa xc t j{w}(hF:Bg w m s.nf s.F)(hN:s.nf<=1048576)(hV:FA w va t.nv t.V)(hn:t.nv<=1048576):
  C9 42 #[PY (some<|G m 0) H ta tc sa sc s,TJ j va vc la lc ia ic xa xc t] w (R9 (.bool<|tells<|j<s.nf/\Vm s j t) w):=by
 have T:=hF.lt;have HV:=O hV;clear hV;obtain⟨W,D,E,U,_,o1⟩:=S7 w (.cells #[.slice (some<|G m 0) s.nf H,.slice ta s.nt tc,.slice sa s.ns sc] 42)<|.cells #[J (j:Int),.slice va t.nv vc,.slice la t.d.n lc,.slice ia t.d.m ic,.slice xa t.d.x xc,J t.d.used,J t.d.live,J t.d.turns] 105;have x0:W.cell? (y w 0)=some (.slice (some<|G m 0) s.nf H):=by rw[D];simp[go_sem]
 obtain⟨y0,y1,y2,y3,y4,y5,y6,y7⟩:=v8 o1;have l0:w.heap.size<W.heap.size:=om;have l1:w.heap.size+1<W.heap.size:=om;have lm:m<W.heap.size:=om;rcases O (hF.below E T),O<|HV.below E rfl,O E with⟨X,Z,l⟩;clear E U;have aj:((j:Int)<0)=False:=oq;by_cases hj:j<s.nf
 case neg=>
  have v:=O<|Ae (p:=j<s.nf/\Vm s j t) λh=>hj h.1;have P:(decide ((0:Int)<=(j:Int))&&decide ((j:Int)<(s.nf:Int)))=false:=ot;clear hj;go_enter Tryz.func42,Tryz.ntmps42;go_wp2_with fail;rw[<-D];clear D;refine qr W ?_;(iterate 4 refine N (h:=?_));refine GC λK hK=>?_;go_simp;apply Exists.intro;refine qj (λw' a=>?_)<|hK _ ?_
  .refine(P▸DG m s.nf H (j:Int) _).mono ?_;rintro e A ⟨rfl,hb⟩;exact⟨rfl,o8 a hb⟩
  clear hK K;refine N (h:=N (h:=?_));iterate 12 (go_big_quiet_step (fail))
  refine N (h:=N (h:=?_));iterate 4 (go_big_quiet_step (fail))
  refine N (h:=?_);refine GS ?_;intro w2 c;have f:=O<|o8 l c;clear c;go_wp2;go_ret;exact⟨qg v,f⟩
 have P:(decide ((0:Int)<=(j:Int))&&decide ((j:Int)<(s.nf:Int)))=true:=ot;obtain⟨c0,c1,c2⟩:=X.cells hj;by_cases hc:((t.nv:Int)!=(s.F j).count)=true
 case pos=>
  have v:=O<|Ae (p:=j<s.nf/\Vm s j t) (λh=>by have:=h.2.1;simp at hc;exact hc this);go_enter Tryz.func42,Tryz.ntmps42;go_wp2_with fail;rw[<-D];clear D;refine qr W ?_;(iterate 4 refine N (h:=?_));refine GC λK hK=>?_;go_simp;apply Exists.intro;refine qj (λw' a=>?_)<|hK _ ?_
  .refine(P▸DG m s.nf H (j:Int) _).mono ?_;rintro e A ⟨rfl,hb⟩;exact⟨rfl,o8 a hb⟩
  clear hK K;(iterate 12 refine N (h:=?_));(iterate 4 refine N (h:=?_));iterate 4 (go_big_quiet_step (fail))
  refine N (h:=?_);refine GS ?_;intro w2 c;have f:=O<|o8 l c;clear c;go_wp2;go_ret;exact⟨qg v,f⟩
 have ak:((t.nv:Int)!=(s.F j).count)=false:=by simpa using hc
 have Q:(t.nv:Int)=(s.F j).count:=by simpa using hc
 have ad:=O Q;clear hc Q;by_cases B:bare t.d
 case neg=>
  have v:=O<|Ae (p:=j<s.nf/\Vm s j t) λh=>B h.2.2.1;have I:=Ae B;clear B;go_enter Tryz.func42,Tryz.ntmps42;go_wp2_with fail;rw[<-D];clear D;refine qr W ?_;(iterate 4 refine N (h:=?_));refine GC λK hK=>?_;go_simp;apply Exists.intro;refine qj (λw' a=>?_)<|hK _ ?_
  .refine(P▸DG m s.nf H (j:Int) _).mono ?_;rintro e A ⟨rfl,hb⟩;exact⟨rfl,o8 a hb⟩
  clear hK K;(iterate 12 refine N (h:=?_));(iterate 6 refine N (h:=?_));refine GC λK hK=>?_;go_simp;apply Exists.intro;refine qj (λw' a=>?_)<|hK _ ?_
  .refine(I▸OP la lc ia ic xa xc t.d _).mono ?_;rintro e A ⟨rfl,hb⟩;exact⟨rfl,o8 a hb⟩
  clear hK K;refine N (h:=N (h:=?_));refine GS ?_;intro w2 c;have f:=o8 l c;clear c;go_wp2;go_ret;exact⟨qg v,f⟩
 have I:=Aj B;go_enter Tryz.func42,Tryz.ntmps42;go_wp2_with fail;rw[<-D];clear D;refine qr W ?_;(iterate 4 refine N (h:=?_));refine GC λK hK=>?_;go_simp;apply Exists.intro;refine qj (λw' a=>?_)<|hK _ ?_
 .refine(P▸DG m s.nf H (j:Int) _).mono ?_;rintro e A ⟨rfl,hb⟩;exact⟨rfl,o8 a hb⟩
 clear hK K;(iterate 12 refine N (h:=?_));(iterate 6 refine N (h:=?_));refine GC λK hK=>?_;go_simp;apply Exists.intro;refine qj (λw' a=>?_)<|hK _ ?_
 .refine(I▸OP la lc ia ic xa xc t.d _).mono ?_;rintro e A ⟨rfl,hb⟩;exact⟨rfl,o8 a hb⟩
 clear hK K;refine N (h:=N (h:=?_));refine GS ?_;intro w2 c;rcases (c.cell l1).trans y1,Z.below c rfl,o8 l c,A0 l1 c.size with⟨q1,ae,f,l2⟩;clear c c0 c1 c2 x0 y0 y1 y2 y3 y4 y5 y6 y7;go_wp2;go_loopw [54] (λi wr=>∃(k:Nat),k<=t.nv/\i=J k/\B9 w2 wr/\∀q,q<k->J2 (t.V q)=true) λi _=>t.nv-(intOf i).toNat
 .exact⟨0,om,rfl,BE _ _,λq hq=>om⟩
 obtain⟨k,hk,rfl,hb,r⟩:=hrel;by_cases L:k<t.nv
 case neg=>
  have af:k=t.nv:=om;have v:=O<|Aj (p:=j<s.nf/\Vm s j t) ⟨hj,ad,B,λi hi=>r i om⟩;have u:=O<|o8 f hb;subst af;clear hb r;go_wp2;go_ret;exact⟨qg v,u⟩
 obtain⟨b,off,rfl,ag,hcs⟩:=ae.resolve_left om;obtain⟨e0,e1,e2,e3,e4⟩:=(hcs k L).keep λq=>hb.cell ag;have ao:=hb.size;have u:Hid<|∀o,B9 w<|wr.alloc o:=O λo=>(o8 f hb).alloc (oS f.size) _;have R:Hid<|∀o,B9 w2<|wr.alloc o:=O λo=>hb.alloc om _;have S:=O r;clear hcs hb r;cases M:(t.V k).ok
 .have hv':A8 (t.V k).kind (t.V k).num (t.V k).Af (t.V k).str (t.V k).ref=false:=M;have v:=O<|Ae (p:=j<s.nf/\Vm s j t) (λh=>by have:=h.2.2.2 k L;unfold J2 at this;rw[M]at this;cases this);clear M;go_wp2_with fail;refine m9 (Bq (t.V k).kind (t.V k).num (t.V k).Af (t.V k).str (t.V k).ref _) λw3 g=>?_;rw[hv'];have C:=o8 (u _) g;clear g e0 e1 e2 e3 e4;go_wp2;go_ret;exact⟨qg v,C⟩
 have hv':A8 (t.V k).kind (t.V k).num (t.V k).Af (t.V k).str (t.V k).ref=true:=M;by_cases hz:((t.V k).kind==0)=true
 .have v:=O<|Ae (p:=j<s.nf/\Vm s j t) (λh=>by have:=h.2.2.2 k L;unfold J2 at this;simp at hz;simp[hz]at this);clear M;go_wp2_with fail;refine m9 (Bq (t.V k).kind (t.V k).num (t.V k).Af (t.V k).str (t.V k).ref _) λw3 g=>?_;rw[hv'];obtain⟨ah,ai⟩:=AM g;have C:=o8 (u _) g;clear g e0 e1 e2 e3 e4;go_wp2;go_ret;exact⟨qg v,C⟩
 have aq:((t.V k).kind==0)=false:=by simpa using hz
 have HO:Hid<|J2 (t.V k)=true:=O (by unfold J2;rw[M];simp at hz;simp[hz]);clear M hz;go_wp2_with fail;refine m9 (Bq (t.V k).kind (t.V k).num (t.V k).Af (t.V k).str (t.V k).ref _) λw3 g=>?_;rw[hv'];obtain⟨ah,ai⟩:=AM g;have C:=o8 (R _) g;clear g e0 e1 e2 e3 e4;go_wp2;go_roundw
 .refine⟨k+1,om,ov,C,λq hq=>?_⟩;by_cases e:q=k
  .subst e;exact HO
  exact S q om
 exact ow
def Uf a ta tc sa sc s{va:Option Addr}vc{la:Option Addr}{lc}{ia:Option Addr}{ic}{xa:Option Addr}{xc}t{D}{w}(b:Bg w m s.nf s.F)(hN:s.nf<=1048576)(f:FA w va t.nv t.V)(hn:t.nv<=1048576)(hA:Ea w la ia xa t.d)(hD:Xj la lc ia ic xa xc t.d D):
  C9 42 #[PY (some<|G m 0) a ta tc sa sc s,TV va vc la lc ia ic xa xc t] w (R9 (.bool<|tells<|Nv s D t) w):=by
 by_cases h:t.shape<0
 .exact Sf m a ta tc sa sc s va vc t hA hD h
 obtain⟨j,hj⟩:∃j:Nat,t.shape=j:=⟨t.shape.toNat,om⟩;have h1:=V2 a ta tc sa sc s vc la lc ia ic xa xc t j b hN f hn;have e:(j<s.nf/\Vm s j t)↔Nv s D t:=by
  constructor
  .intro h;refine .inr ⟨om,om,?_⟩;rw[hj];exact h.2
  intro h;rcases h with h|h
  .omega
  refine⟨om,?_⟩;have:=h.2.2;rwa [hj]at this
 have e':tells (j<s.nf/\Vm s j t)=tells (Nv s D t):=by
  by_cases q:Nv s D t
  .rw[Aj q,Aj (e.2 q)]
  rw[Ae q,Ae (λc=>q (e.1 c))]
 rw[e']at h1;rw[TV,hj];exact h1
end
section
open Go.RowKit
attribute [local go_sem] Ar Am
def P6 va nv vc la lc ia ic xa xc d w:
  C9 264 #[.agg #[.slice va nv vc,.slice la d.n lc,.slice ia d.m ic,.slice xa d.x xc,J d.used,J d.live,J d.turns]] w (R9 (.bool<|tells<|bare d) w):=by
 have e:∀o1 o2,B9 w<|(w.alloc o1).alloc o2:=λo1 o2=>(n9).alloc oq _;have b:=O e;by_cases h1:((d.n:Int)==0)=true
 case neg=>
  have a:=O<|Ae (p:=bare d) (λh=>by unfold bare at h;simp at h1;omega);have f:((d.n:Int)==0)=false:=by simpa using h1
  go_enter Tryz.func264,Tryz.ntmps264;go_wp2;go_ret;exact⟨qg a,b _ _⟩
 by_cases h2:((d.m:Int)==0)=true
 case neg=>
  have a:=O<|Ae (p:=bare d) (λh=>by unfold bare at h;simp at h2;omega);have g:((d.m:Int)==0)=false:=by simpa using h2
  go_enter Tryz.func264,Tryz.ntmps264;go_wp2;go_ret;exact⟨qg a,b _ _⟩
 by_cases h3:((d.x:Int)==0)=true
 case neg=>
  have a:=O<|Ae (p:=bare d) (λh=>by unfold bare at h;simp at h3;omega);have i:((d.x:Int)==0)=false:=by simpa using h3
  go_enter Tryz.func264,Tryz.ntmps264;go_wp2;go_ret;exact⟨qg a,b _ _⟩
 by_cases h4:(d.used==0)=true
 case neg=>
  have a:=O<|Ae (p:=bare d) (λh=>by unfold bare at h;simp at h4;omega);have j:(d.used==0)=false:=by simpa using h4
  go_enter Tryz.func264,Tryz.ntmps264;go_wp2;go_ret;exact⟨qg a,b _ _⟩
 by_cases h5:(d.live==0)=true
 case neg=>
  have a:=O<|Ae (p:=bare d) (λh=>by unfold bare at h;simp at h5;omega);have k:(d.live==0)=false:=by simpa using h5
  go_enter Tryz.func264,Tryz.ntmps264;go_wp2;go_ret;exact⟨qg a,b _ _⟩
 by_cases c:(d.turns==0)=true
 case neg=>
  have a:=O<|Ae (p:=bare d) (λh=>by unfold bare at h;simp at c;omega);have l:(d.turns==0)=false:=by simpa using c
  go_enter Tryz.func264,Tryz.ntmps264;go_wp2;go_ret;exact⟨qg a,b _ _⟩
 have a:=O<|Aj (p:=bare d) (by simp at h1 h2 h3 h4 h5 c;exact⟨h1,h2,h3,h4,h5,c⟩);go_enter Tryz.func264,Tryz.ntmps264;go_wp2;go_ret;exact⟨qg a,b _ _⟩
abbrev sU(va:T9)(vc:Nat)(la:T9)(lc:Nat)(ia:T9)(ic:Nat)(xa:T9)(xc:Nat)(t:Tb):Value:=.agg #[.slice va t.nv vc,.slice la t.d.n lc,.slice ia t.d.m ic,.slice xa t.d.x xc,J t.d.used,J t.d.live,J t.d.turns]
abbrev iC(p:Nat)(va:T9)(vc:Nat)(la:T9)(lc:Nat)(ia:T9)(ic:Nat)(xa:T9)(xc:Nat)(t:Tb):Value:=.agg #[.slice va t.nv vc,.slice la t.d.n lc,.slice ia t.d.m ic,.slice xa t.d.x xc,J t.d.used,J t.d.live,J t.d.turns,Q9 p]
def Kx(t:Tb):Prop:=∀i,i<t.nv->J2 (t.V i)=true
def I1 vc la lc ia ic xa xc t c{w}(H:FA w va t.nv t.V)(hn:t.nv<=1048576):
  C9 273 #[sU va vc la lc ia ic xa xc t,J c] w (R9 (.bool<|tells<|Kx t/\(t.nv:Int)=c) w):=by
 obtain⟨W,A,g,_⟩:=JQ w<|.cells #[.slice va t.nv vc,.slice la t.d.n lc,.slice ia t.d.m ic,.slice xa t.d.x xc,J t.d.used,J t.d.live,J t.d.turns] 192;have B:w.heap.size<W.heap.size:=by rw[A];simp
 have x0:W.cell? (y w 0)=some (.slice va t.nv vc):=by rw[A];simp[go_sem]
 have I:=H.below g rfl;go_enter Tryz.func273,Tryz.ntmps273;go_wp2;rw[<-A];go_loopw [10] (λi wr=>∃(k:Nat),k<=t.nv/\i=J k/\B9 W wr/\∀q,q<k->J2 (t.V q)=true) λi _=>t.nv-(intOf i).toNat
 .exact⟨0,om,rfl,BE _ _,λq hq=>om⟩
 obtain⟨k,hk,rfl,hb,j⟩:=hrel;have P:=(hb.cell B).trans x0;by_cases l:k<t.nv
 case neg=>
  have C:k=t.nv:=om;have s:Hid<|tells (Kx t/\(t.nv:Int)=c)=((t.nv:Int)==c):=O (by
   by_cases e:(t.nv:Int)=c
   .rw[Aj ⟨λi hi=>j i om,e⟩];simp[e]
   rw[Ae (λh=>e h.2)];simp[e])
  have f:=O<|o8 g hb;subst C;go_wp2;go_ret;exact⟨by rw[z s]<;>rfl,f⟩
 obtain⟨b,off,rfl,D,hcs⟩:=I.resolve_left om;obtain⟨e0,e1,e2,e3,Q⟩:=(hcs k l).keep λq=>hb.cell D;have K:=hb.size;have f:Hid<|∀o,B9 w<|wr.alloc o:=O λo=>(o8 g hb).alloc om _;have u:Hid<|∀o,B9 W<|wr.alloc o:=O λo=>hb.alloc om _;cases v:(t.V k).ok
 .have hv':A8 (t.V k).kind (t.V k).num (t.V k).Af (t.V k).str (t.V k).ref=false:=v;have s:=O<|Ae (p:=Kx t/\(t.nv:Int)=c) (λh=>by have:=h.1 k l;unfold J2 at this;rw[v]at this;cases this);go_wp2_with fail;refine m9 (Cb (t.V k).kind (t.V k).num (t.V k).Af (t.V k).str (t.V k).ref _) λw3 a=>?_;rw[hv'];have r:=o8 (f _) a;go_wp2;go_ret;exact⟨qg s,r⟩
 have hv':A8 (t.V k).kind (t.V k).num (t.V k).Af (t.V k).str (t.V k).ref=true:=v;by_cases hz:((t.V k).kind==0)=true
 .have s:=O<|Ae (p:=Kx t/\(t.nv:Int)=c) (λh=>by have:=h.1 k l;unfold J2 at this;simp at hz;simp[hz]at this);go_wp2_with fail;refine m9 (Cb (t.V k).kind (t.V k).num (t.V k).Af (t.V k).str (t.V k).ref _) λw3 a=>?_;rw[hv'];obtain⟨E,F⟩:=AM a;have r:=o8 (f _) a;go_wp2;go_ret;exact⟨qg s,r⟩
 have L:((t.V k).kind==0)=false:=by simpa using hz
 have M:Hid<|J2 (t.V k)=true:=O (by unfold J2;rw[v];simp at hz;simp[hz]);go_wp2_with fail;refine m9 (Cb (t.V k).kind (t.V k).num (t.V k).Af (t.V k).str (t.V k).ref _) λw3 a=>?_;rw[hv'];obtain⟨E,F⟩:=AM a;go_wp2;go_roundw
 .refine⟨k+1,om,ov,z<|o8 (u _) a,λq hq=>?_⟩;by_cases e:q=k
  .subst e;exact M
  exact z (O j) q om
 exact ow
def aQ(T:World->Prop)(la:T9)(lc:Nat)(ia:T9)(ic:Nat)(xa:T9)(xc:Nat)(d:Dc)(D:Int):Prop:=
 ∀W:World,T W->Ea W la ia xa d->C9 274 #[Dv la lc ia ic xa xc d] W (R9 (J D) W)
def Lp{T}(r:En T){va:Option Addr}vc{la:Option Addr}{lc}{ia:Option Addr}{ic}{xa:Option Addr}{xc}t{D}{w:Y}(s:T w)(u:FA w va t.nv t.V)(hn:t.nv<=1048576)(hA:Ea w la ia xa t.d)(hD:aQ T la lc ia ic xa xc t.d D):
  C9 268 #[sU va vc la lc ia ic xa xc t] w (R9 (.bool<|tells<|t.nv=0/\D=0) w):=by
 obtain⟨W,f,c,_⟩:=JQ w<|.cells #[.slice va t.nv vc,.slice la t.d.n lc,.slice ia t.d.m ic,.slice xa t.d.x xc,J t.d.used,J t.d.live,J t.d.turns] 194;have b:w.heap.size<W.heap.size:=by rw[f];simp
 obtain⟨x0,x1,x2,v,x4,A,B⟩:W.cell? (y w 0)=some (.slice va t.nv vc)/\W.cell? (y w 1)=some (.slice la t.d.n lc)/\W.cell? (y w 2)=some (.slice ia t.d.m ic)/\W.cell? (y w 3)=some (.slice xa t.d.x xc)/\W.cell? (y w 4)=some (J t.d.used)/\W.cell? (y w 5)=some (J t.d.live)/\W.cell? (y w 6)=some (J t.d.turns):=by rw[f];simp[go_sem]
 go_enter Tryz.func268,Tryz.ntmps268;go_wp2_with fail;rw[<-f];refine m9 (I1 vc la lc ia ic xa xc t 0 (z<|u.below c rfl) hn) λw1 a=>?_;obtain⟨E,p1,p2,F,H,I,K⟩:w1.cell? (y w 0)=some (.slice va t.nv vc)/\w1.cell? (y w 1)=some (.slice la t.d.n lc)/\w1.cell? (y w 2)=some (.slice ia t.d.m ic)/\w1.cell? (y w 3)=some (.slice xa t.d.x xc)/\w1.cell? (y w 4)=some (J t.d.used)/\w1.cell? (y w 5)=some (J t.d.live)/\w1.cell? (y w 6)=some (J t.d.turns):=
  ⟨oT a b x0,oT a b x1,oT a b x2,oT a b v,oT a b x4,oT a b A,oT a b B⟩
 rcases (z<|hA.below c).below a,O<|r _ _ (z<|O<|r _ _ s c) a,o8 c a with⟨k,l,g⟩;by_cases o:t.nv=0
 case neg=>
  rw[Ae (p:=Kx t/\(t.nv:Int)=0) (λh=>o om)];go_wp2;go_ret;exact⟨by rw[z (O (Ae (p:=t.nv=0/\D=0) (λh=>o h.1)))];rfl,g⟩
 rw[Aj (p:=Kx t/\(t.nv:Int)=0) ⟨λi hi=>om,om⟩];have C:Hid<|tells (t.nv=0/\D=0)=(D==0):=O (by
  by_cases j:D=0
  .rw[Aj ⟨o,j⟩];simp[j]
  rw[Ae (λh=>j h.2)];simp[j])
 go_wp2_with fail
 refine(hD _ l k).mono ?_;rintro e w2 ⟨rfl,q⟩;go_wp2;go_ret;exact⟨by rw[z C]<;>rfl,z<|o8 g q⟩
def Ng vc la lc ia ic xa xc t s j p{w}(r:FA w va t.nv t.V)(hn:t.nv<=1048576)(hp:p<w.heap.size)(h3:w.cell? (G p 3)=some (J (s.F j).count)):
  C9 291 #[iC p va vc la lc ia ic xa xc t] w (R9 (.bool<|tells<|Vm s j t) w):=by
 obtain⟨W,b⟩:=o9<|w.alloc<|.cells #[.slice va t.nv vc,.slice la t.d.n lc,.slice ia t.d.m ic,.slice xa t.d.x xc,J t.d.used,J t.d.live,J t.d.turns,.pointer (some<|G p 0)] 197;have c:B9 w W:=by rw[b];exact(BE _ _).alloc (Be _) _
 have u:w.heap.size<W.heap.size:=by rw[b];simp
 obtain⟨x0,x1,x2,v,x4,A,B,C⟩:W.cell? (y w 0)=some (.slice va t.nv vc)/\W.cell? (y w 1)=some (.slice la t.d.n lc)/\W.cell? (y w 2)=some (.slice ia t.d.m ic)/\W.cell? (y w 3)=some (.slice xa t.d.x xc)/\W.cell? (y w 4)=some (J t.d.used)/\W.cell? (y w 5)=some (J t.d.live)/\W.cell? (y w 6)=some (J t.d.turns)/\W.cell? (y w 7)=some (.pointer<|some<|G p 0):=by rw[b];simp[go_sem]
 have D:=oT c hp h3;have E:p<W.heap.size:=om;have q:=O<|r.below c rfl;by_cases h1:Kx t/\(t.nv:Int)=(s.F j).count
 case neg=>
  have i:=O<|Ae (p:=Vm s j t) λh=>h1 ⟨h.2.2,h.1⟩;have k:=Ae h1;go_enter Tryz.func291,Tryz.ntmps291;go_wp2_with fail;rw[<-b];clear b;refine qr W ?_;(iterate 8 refine N (h:=?_));refine GC λK hK=>?_;go_simp;apply Exists.intro;refine qj (λw' a=>?_)<|hK _ ?_
  .refine(k▸I1 vc la lc ia ic xa xc t (s.F j).count (q.below a rfl) hn).mono ?_;rintro e l ⟨rfl,hb⟩;exact⟨rfl,o8 a hb⟩
  clear hK K;refine N (h:=?_);iterate 3 (go_big_quiet_step (fail))
  refine N (h:=N (h:=?_));refine GS ?_;intro w2 g;have o:=o8 c g;go_wp2;go_ret;exact⟨qg i,o⟩
 have i:Hid<|tells (Vm s j t)=tells (bare t.d):=O (by
  by_cases f:bare t.d
  .rw[Aj f,Aj (p:=Vm s j t) ⟨h1.2,f,h1.1⟩]
  rw[Ae f,Ae (p:=Vm s j t) (λh=>f h.2.1)])
 go_enter Tryz.func291,Tryz.ntmps291;go_wp2_with fail;rw[<-b];clear b;refine qr W ?_;(iterate 8 refine N (h:=?_));refine GC λK hK=>?_;go_simp;apply Exists.intro;refine qj (λw' a=>?_)<|hK _ ?_
 .refine((Aj h1)▸I1 vc la lc ia ic xa xc t (s.F j).count (q.below a rfl) hn).mono ?_;rintro e l ⟨rfl,hb⟩;exact⟨rfl,o8 a hb⟩
 clear hK K;refine N (h:=N (h:=N (h:=?_)));refine GC λK hK=>?_;go_simp;refine⟨_,λw' a=>qk a<|P6 va t.nv vc la lc ia ic xa xc t.d _,hK _ ?_⟩;clear hK K;refine N (h:=N (h:=?_));refine GS ?_;intro w2 g;go_wp2;go_ret;exact⟨by rw[z i]<;>rfl,z<|o8 c g⟩
def DF n w:
  C9 105 #[J n] w (R9 (.bool<|decide (0<=n)&&decide (n<=1000000000000)) w):=by
 go_enter Tryz.func105,Tryz.ntmps105;go_wp2;all_goals(go_ret;refine⟨?_,BE _ _⟩;first|(simp_all;done)|(simp_all;omega))
def Fp a n cap i w:
  C9 104 #[J i,.slice a n cap] w (R9 (.bool<|decide (0<=i)&&decide (i<n)) w):=by
 go_enter Tryz.func104,Tryz.ntmps104;go_wp2;all_goals(go_ret;refine⟨?_,BE _ _⟩;first|(simp_all;done)|(simp_all;omega))
def X2(x:Si):Prop:=x.key.size<=4000/\0<=x.BZ/\0<=x.AB/\x.BZ<=1000000000000/\x.AB<=1000000000000
def mA{x}(h:Pb s x):X2 x:=⟨h.1,h.2.1,h.2.2.1,h.2.2.2.1,h.2.2.2.2.1⟩
def Uq{x}(a:X2 x)(h:x.shape=-1):tells (Pb s x)=(x.place==0):=by
 grind [X2,tells,Pb,Ae]
def X3{x:Si}(h1:x.shape≠-1)(h:¬(0<=x.shape/\x.shape<s.nf/\0<=x.place)):tells (Pb s x)=false:=
 Ae (λq=>by
  rcases q.2.2.2.2.2 with q|q
  .exact h1 q.1
  exact h ⟨q.1,q.2.1,q.2.2.1⟩)
def dI{x}(a:X2 x)(hj:x.shape=j)(hn:j<s.nf)(hp:0<=x.place):tells (Pb s x)=(Bc s.F j x.key==x.place):=by
 grind [X2,tells,Pb,Bc,Ae]
abbrev SJ(j:Int)(x:Si):Value:=.agg #[.string x.key,J j,J x.place,J x.BZ,J x.AB]
def V1 m d ta tc sa sc s x w(hk:x.key.size<=maxLen)(h:¬X2 x):
  C9 43 #[PY (some<|G m 0) d ta tc sa sc s,SV x] w (R9 (.bool false) w):=by
 unfold maxLen at hk;have b:∀o1 o2,B9 w<|(w.alloc o1).alloc o2:=λo1 o2=>(n9).alloc oq _;have c:=O b;clear b;have a:=O h;clear h;by_cases h1:4000<x.key.size
 .clear a;go_enter Tryz.func43,Tryz.ntmps43;go_wp2;go_ret;exact⟨rfl,c _ _⟩
 by_cases h2:x.BZ<0
 .clear a;go_enter Tryz.func43,Tryz.ntmps43;go_wp2;go_ret;exact⟨rfl,c _ _⟩
 by_cases h3:x.AB<0
 .clear a;go_enter Tryz.func43,Tryz.ntmps43;go_wp2;go_ret;exact⟨rfl,c _ _⟩
 by_cases h4:1000000000000<x.BZ
 focus
  clear a
 rotate_left
 focus
  have h5:1000000000000<x.AB:=by
   have:=z a;rcases Int.lt_or_le 1000000000000 x.AB with q|q
   .exact q
   exact absurd (⟨om,om,om,om,q⟩:X2 x) this
  clear a
 all_goals
  go_enter Tryz.func43,Tryz.ntmps43;go_wp2;go_ret;exact⟨rfl,c _ _⟩
def Qt a n p x w(hk:x.key.size<=maxLen)(h:¬X2 x):
  C9 59 #[SV x,.slice a n p] w (R9 (.bool false) w):=by
 unfold maxLen at hk;have d:∀o1,B9 w<|w.alloc o1:=λo1=>n9;have e:=O d;clear d;have g:=O h;clear h;by_cases h1:4000<x.key.size
 .clear g;go_enter Tryz.func59,Tryz.ntmps59;go_wp2;go_ret;exact⟨rfl,e _⟩
 by_cases h2:0<=x.BZ/\x.BZ<=1000000000000
 case neg=>
  have i:(decide (0<=x.BZ)&&decide (x.BZ<=1000000000000))=false:=ot;clear g h2;go_enter Tryz.func59,Tryz.ntmps59;go_wp2_with fail;refine m9 (DF x.BZ _) λw1 b=>?_;rw[i];have c:=O<|o8 (e _) b;clear b;go_wp2;go_ret;exact⟨rfl,c⟩
 have i:(decide (0<=x.BZ)&&decide (x.BZ<=1000000000000))=true:=ot;have j:(decide (0<=x.AB)&&decide (x.AB<=1000000000000))=false:=by
  have:=z g;rw[Bool.eq_false_iff];intro q;simp at q;exact this ⟨om,om,om,om,om⟩
 clear g h2;go_enter Tryz.func59,Tryz.ntmps59;go_wp2_with fail;refine m9 (DF x.BZ _) λw1 b=>?_;rw[i];obtain⟨k,l⟩:=AM b;have m:=b.size;simp at m;have r:w.heap.size<w1.heap.size:=om;have c:=O<|o8 (e _) b;clear b;go_wp2_with fail;refine m9 (DF x.AB _) λw2 f=>?_;rw[j];have o:=O<|o8 c f;clear f k l;go_wp2;go_ret;exact⟨rfl,o⟩
def Ue m b ta tc sa sc s{x}w(c:X2 x):
  C9 43 #[PY (some<|G m 0) b ta tc sa sc s,SJ (-1) x] w (R9 (.bool<|x.place==0) w):=by
 obtain⟨h1,h2,h3,h4,h5⟩:=c;have a:∀o1 o2,B9 w<|(w.alloc o1).alloc o2:=λo1 o2=>(n9).alloc oq _;have d:=O a;clear a;go_enter Tryz.func43,Tryz.ntmps43;go_wp2;go_ret;exact⟨rfl,d _ _⟩
def Za f ta tc sa sc s{x}i{w}(C:X2 x)(p:Bg w m s.nf s.F)(B:Aq s.nf s.F=0)(hi:i≠-1):
  C9 43 #[PY (some<|G m 0) f ta tc sa sc s,SJ i x] w (R9 (.bool<|decide (0<=i/\i<s.nf/\0<=x.place)&&(Bc s.F i.toNat x.key==x.place)) w):=by
 obtain⟨h1,h2,h3,h4,h5⟩:=C;have r:=p.lt;obtain⟨W,g,c,t,_,o1⟩:=S7 w (.cells #[.slice (some<|G m 0) s.nf f,.slice ta s.nt tc,.slice sa s.ns sc] 42)<|.cells #[.string x.key,J i,J x.place,J x.BZ,J x.AB] 107;have x0:W.cell? (y w 0)=some (.slice (some<|G m 0) s.nf f):=by rw[g];simp[go_sem]
 obtain⟨H,I,L,_⟩:=v5 o1;have l0:w.heap.size<W.heap.size:=om;have l1:w.heap.size+1<W.heap.size:=om;have D:m<W.heap.size:=om;have u:=O<|p.below c r;have E:(i==-1)=false:=by simpa using hi
 have n:=O B;clear t p hi B;by_cases hj:0<=i/\i<s.nf
 case neg=>
  have o:(decide ((0:Int)<=i)&&decide (i<(s.nf:Int)))=false:=ot;have k:Hid<|(decide (0<=i/\i<s.nf/\0<=x.place)&&(Bc s.F i.toNat x.key==x.place))=false:=O (by rw[decide_eq_false (λq=>hj ⟨q.1,q.2.1⟩)];rfl);clear hj;go_enter Tryz.func43,Tryz.ntmps43;go_wp2_with fail;rw[<-g];clear g;refine qr W ?_;(iterate 4 refine N (h:=?_));refine GC λK hK=>?_;go_simp;apply Exists.intro;refine qj (λw' a=>?_)<|hK _ ?_
  .refine(o▸DG m s.nf f i _).mono ?_;rintro e l ⟨rfl,hb⟩;exact⟨rfl,o8 a hb⟩
  clear hK K;refine N (h:=?_);iterate 3 (go_big_quiet_step (fail))
  refine N (h:=N (h:=?_));iterate 10 (go_big_quiet_step (fail))
  refine N (h:=N (h:=?_));refine GS ?_;intro w2 b;have d:=o8 c b;clear b;go_wp2;go_ret;exact⟨by rw[z k]<;>rfl,d⟩
 have o:(decide ((0:Int)<=i)&&decide (i<(s.nf:Int)))=true:=ot;by_cases hp:0<=x.place
 case neg=>
  have k:Hid<|(decide (0<=i/\i<s.nf/\0<=x.place)&&(Bc s.F i.toNat x.key==x.place))=false:=O (by rw[decide_eq_false (λq=>hp q.2.2)];rfl);have v:decide (0<=x.place)=false:=by simpa using hp
  clear hj hp;go_enter Tryz.func43,Tryz.ntmps43;go_wp2_with fail;rw[<-g];clear g;refine qr W ?_;(iterate 4 refine N (h:=?_));refine GC λK hK=>?_;go_simp;apply Exists.intro;refine qj (λw' a=>?_)<|hK _ ?_
  .refine(o▸DG m s.nf f i _).mono ?_;rintro e l ⟨rfl,hb⟩;exact⟨rfl,o8 a hb⟩
  clear hK K;(iterate 6 refine N (h:=?_));iterate 10 (go_big_quiet_step (fail))
  refine N (h:=N (h:=?_));refine GS ?_;intro w2 b;have d:=o8 c b;clear b;go_wp2;go_ret;exact⟨by rw[z k]<;>rfl,d⟩
 have k:Hid<|(decide (0<=i/\i<s.nf/\0<=x.place)&&(Bc s.F i.toNat x.key==x.place))=(Bc s.F i.toNat x.key==x.place):=O (by rw[decide_eq_true ⟨hj.1,hj.2,hp⟩];rfl);have v:decide (0<=x.place)=true:=by simpa using hp
 obtain⟨j,rfl⟩:∃j:Nat,i=j:=⟨i.toNat,om⟩;have A:j<s.nf:=om;rw[On]at k ⊢;clear hj hp;go_enter Tryz.func43,Tryz.ntmps43;go_wp2_with fail;rw[<-g];clear g;refine qr W ?_;(iterate 4 refine N (h:=?_));refine GC λK hK=>?_;go_simp;apply Exists.intro;refine qj (λw' a=>?_)<|hK _ ?_
 .refine(o▸DG m s.nf f (j:Int) _).mono ?_;rintro e l ⟨rfl,hb⟩;exact⟨rfl,o8 a hb⟩
 clear hK K;(iterate 12 refine N (h:=?_));refine GC λK hK=>?_;go_simp;refine⟨_,λw' a=>qk a<|KS f j x.key (u.below a D) (Av n).1 (Av n).2.1 (Av n).2.2.1 (Av n).2.2.2.2 A,hK _ ?_⟩;clear hK K;(iterate 5 refine N (h:=?_));refine GS ?_;intro w2 b;have d:=o8 c b;clear b;go_wp2;go_ret;exact⟨by rw[z k]<;>rfl,d⟩
def V0 b ta tc sa sc s x{w}(hk:x.key.size<=maxLen)(c:Bg w m s.nf s.F)(d:Aq s.nf s.F=0):
  C9 43 #[PY (some<|G m 0) b ta tc sa sc s,SV x] w (R9 (.bool<|tells<|Pb s x) w):=by
 by_cases a:X2 x
 case neg=>
  have h:=V1 m b ta tc sa sc s x w hk a
  rwa [<-Ae (λq=>a (mA q))]at h
 by_cases h1:x.shape=-1
 .have h:=Ue m b ta tc sa sc s w a;rw[<-Uq a h1]at h;rw[SV,h1];exact h
 have h:=Za b ta tc sa sc s x.shape a c d h1;have e:(decide (0<=x.shape/\x.shape<s.nf/\0<=x.place)&&(Bc s.F x.shape.toNat x.key==x.place))=tells (Pb s x):=by
  by_cases q:0<=x.shape/\x.shape<s.nf/\0<=x.place
  .rw[dI (j:=x.shape.toNat) a om om q.2.2,decide_eq_true q];rfl
  rw[X3 h1 q,decide_eq_false q];rfl
 rw[e]at h;exact h
def UT(U){ta:Option Addr}(tc){sa:Option Addr}(sc){s}(D){w}(hF:Bg w m s.nf s.F)(hT:RH w ta s.nt s.T)(hS:FX w sa s.ns s.S)(hs:J9 s)(hk:∀i,i<s.ns->(s.S i).key.size<=maxLen)
  (hD:∀i,i<s.nt->∀la lc ia ic xa xc,Xj la lc ia ic xa xc (s.T i).d<|D i):
  C9 19 #[PY (some<|G m 0) U ta tc sa sc s] w (R9 (J<|Bz s D) w):=by
 rcases hF.lt,hs.nt,hs.n,hs.f.1,O hk,O hD,JQ w (.cells #[S9 m s.nf U,.slice ta s.nt tc,.slice sa s.ns sc] 42) with⟨ae,aq,ar,X,HK,HD,⟨W,hW,l,_,o0⟩⟩;have E:w.heap.size<W.heap.size:=by rw[hW];simp
 obtain⟨x0,x1,x2⟩:=v3 o0;have lm:m<W.heap.size:=om;rcases O (hF.below l ae),O<|hT.below l rfl,O (hS.below l rfl) with⟨HF,HT,HS⟩;clear hk hD hF hT hS;go_enter Tryz.func19,Tryz.ntmps19;go_wp2_with fail;rw[<-hW];clear hW;refine m9 (SF U HF X) λw1 c=>?_;by_cases h1:Aq s.nf s.F=0
 case neg=>
  have au:(Aq s.nf s.F !=0)=true:=by simpa using h1
  have t:=O<|UW (D:=D) h1;have j:=o8 l c;clear h1 c;go_wp2;go_ret;exact⟨by rw[z t]<;>rfl,j⟩
 rw[h1];rcases O h1,(c.cell E).trans x0,(c.cell E).trans x1,(c.cell E).trans x2,A0 E c.size,A0 lm c.size,O<|HF.below c lm,O<|HT.below c rfl,O<|HS.below c rfl,o8 l c with⟨R,y0,y1,y2,I,Z,ad,af,ag,j⟩;clear h1 c x0 x1 x2 HF HT HS;by_cases h2:100<s.nt
 .have t:=O<|Lh (D:=D) R λh=>om;go_wp2;go_ret;exact⟨by rw[z t]<;>rfl,j⟩
 by_cases h3:50<s.ns
 .have t:=O<|Lh (D:=D) R λh=>om;go_wp2;go_ret;exact⟨by rw[z t]<;>rfl,j⟩
 have H2:Hid<|s.nt<=100/\s.ns<=50:=O ⟨om,om⟩;go_wp2;go_loopw [24] (λi wr=>∃(k:Nat),k<=s.nt/\i=J k/\B9 w1 wr/\∀q,q<k->Nv s (D q) (s.T q)) λi _=>s.nt-(intOf i).toNat
 .exact⟨0,om,rfl,BE _ _,λq hq=>om⟩
 obtain⟨k,hk,rfl,hb,a⟩:=hrel;rcases (hb.cell I).trans y0,(hb.cell I).trans y1,(hb.cell I).trans y2,hb.size with⟨p0,p1,p2,av⟩;by_cases g:k<s.nt
 case pos=>
  obtain⟨b,off,rfl,K,hcs⟩:=af.resolve_left om;obtain⟨va,vc,la,lc,ia,ic,xa,xc,hc,hv,hd⟩:=(hcs k g).below hb K;obtain⟨e0,e1,e2,e3,e4,e5,e6,e7⟩:=hc;have v:Hid<|∀o,B9 w<|wr.alloc o:=O λo=>(o8 j hb).alloc om _;have x:Hid<|∀o,B9 w1<|wr.alloc o:=O λo=>hb.alloc om _;have A:Hid<|∀o,FA (wr.alloc o) va (s.T k).nv (s.T k).V/\Ea (wr.alloc o) la ia xa (s.T k).d/\Bg (wr.alloc o) m s.nf s.F:=O λo=>⟨hv.below n9 rfl,hd.below n9,(ad.below hb Z).alloc o⟩;have ah:w.heap.size<wr.heap.size:=om;have B:=O a;clear hcs hb a hv hd;go_wp2_with fail;refine m9 (Uf U _ tc sa sc s vc (s.T k) (A _).2.2 X (A _).1 (hs.nv g) (A _).2.1<|HD k g la lc ia ic xa xc) λw3 p=>?_;have C:=o8 (v _) p;have L:=o8 (x _) p;clear p e0 e1 e2 e3 e4 e5 e6 e7 p0 p1 p2;by_cases r:Nv s (D k)<|s.T k
  .rw[Aj r];have M:=O r;clear r;go_wp2;go_roundw
   .refine⟨k+1,om,ov,L,λq hq=>?_⟩;by_cases e:q=k
    .subst e;exact M
    exact B q om
   exact ow
  rw[Ae r];have t:=O<|Li R H2 λh=>r<|h k g;clear r;go_wp2;go_ret;exact⟨by rw[z t]<;>rfl,C⟩
 have H3:Hid<|∀q,q<s.nt->Nv s (D q) (s.T q):=O λq hq=>a q om;have P:w.heap.size<wr.heap.size:=om;have ai:m<wr.heap.size:=om;rcases O (ad.below hb Z),ag.below hb rfl,o8 j hb with⟨aj,ak,H⟩;have Q:k=s.nt:=om;clear hb a g y0 y1 y2;subst Q;obtain⟨w2,rfl⟩:∃u,u=wr:=⟨wr,rfl⟩;go_wp2;go_loopw [36] (λi wr=>∃(k:Nat),k<=s.ns/\i=J k/\B9 w2 wr/\∀q,q<k->Pb s (s.S q)) λi _=>s.ns-(intOf i).toNat
 .exact⟨0,om,rfl,BE _ _,λq hq=>om⟩
 obtain⟨k,hk,rfl,hb,a⟩:=hrel;rcases (hb.cell P).trans p0,(hb.cell P).trans p1,(hb.cell P).trans p2,hb.size with⟨q0,q1,q2,ao⟩;by_cases g:k<s.ns
 case pos=>
  obtain⟨b,off,rfl,K,hcs⟩:=ak.resolve_left om;obtain⟨e0,e1,e2,e3,e4⟩:=(hcs k g).keep λq=>hb.cell K;have v:Hid<|∀o,B9 w<|wr.alloc o:=O λo=>(o8 H hb).alloc om _;have x:Hid<|∀o,B9 w2<|wr.alloc o:=O λo=>hb.alloc om _;have A:Hid<|∀o,Bg (wr.alloc o) m s.nf s.F:=O λo=>(aj.below hb ai).alloc o;have ah:w.heap.size<wr.heap.size:=om;have B:=O a;clear hcs hb a p0 p1 p2;go_wp2_with fail;refine m9 (V0 U ta tc _ sc s (s.S k) (HK k g) (A _) R) λw3 p=>?_;have C:=o8 (v _) p;have L:=o8 (x _) p;clear p e0 e1 e2 e3 e4 q0 q1 q2;by_cases r:Pb s<|s.S k
  .rw[Aj r];have M:=O r;clear r;go_wp2;go_roundw
   .refine⟨k+1,om,ov,L,λq hq=>?_⟩;by_cases e:q=k
    .subst e;exact M
    exact B q om
   exact ow
  rw[Ae r];have t:=O<|UX R H2 H3 λh=>r<|h k g;clear r;go_wp2;go_ret;exact⟨by rw[z t]<;>rfl,C⟩
 have t:=O<|PE R H2 H3 λq hq=>a q om;have C:=o8 H hb;have Q:k=s.ns:=om;clear hb a g;subst Q;go_wp2;go_ret;exact⟨by rw[z t]<;>rfl,C⟩
end
section
open Go.ChangeShapes Go.WideShapes Go.ChangeAt Go.RowKit Go.Deep
section
variable {H:Type} {enc:TypeId×Value->H} {P:Program} {w:Y} {base:Nat} {spare:Nat->Bool} {held:Bool}
structure Gs (P:Program) (t ti ts:TypeId):Prop where
 st:∃f0 f1 f2:Field,P.underlying t=some (.struct #[f0,f1,f2])/\f0.type=ti/\f1.type=ts/\f2.type=ti/\f0.offset=0/\f1.offset=1/\f2.offset=2
 ci:P.cellsOf ti=1
 cs:P.cellsOf ts=1
 ct:P.cellsOf t=3
 ui:P.underlying ti=some (.int .i64)
 us:P.underlying ts=some .string
def Wz(F:Gs P t ti ts){fuel}{cs}{x}(h:DataW.trod enc P w base spare held fuel t cs=some x):
  ∃p k c,cs=[.int .i64 p,.string k,.int .i64 c]/\(Lit.int .i64 p).wf=true/\k.size<=maxLen/\(Lit.int .i64 c).wf=true:=by
 obtain⟨f0,f1,f2,hu,t0,t1,t2,o0,o1,o2⟩:=F.st;obtain⟨xs,n,_,rfl,hl,a,hf⟩:=Aay hu h;rw[F.ct]at hl
 match cs,hl with
 |[c0,c1,c2],_=>
  match xs,a with
  |[d,e,f],_=>
   rcases hf 0 f0 rfl,hf 1 f1 rfl,hf 2 f2 rfl with⟨b,h1,h2⟩;simp only[t0,t1,t2,o0,o1,o2,F.ci,F.cs,List.drop_zero,AaB,Aaz,List.take_zero,Aao]at b h1 h2;rcases Wx F.ui b,DataW.trod_string F.us h1,Wx F.ui h2 with⟨⟨a0,e0,r0,w0⟩,⟨a1,e1,r1,w1⟩,⟨a2,e2,r2,w2⟩⟩;simp only[AaT,and_true]at e0 e1 e2;subst e0 e1 e2;exact⟨a0,a1,a2,rfl,w0,w1,w2⟩
def UB(F:Gs P t ti ts)(o:P.underlying l=some (.slice t)){fuel}{cs}{x}(h:DataW.trod enc P w base spare held fuel l cs=some x):
  ∃a n cap f,cs=[.slice a n cap]/\n<=maxLen/\IM w a n f/\(∀i,i<n->(f i).key.size<=maxLen)/\∀i,i<n->(Lit.int .i64 (f i).parent).wf=true/\(Lit.int .i64 (f i).count).wf=true:=by
 rcases open_slice o h with⟨rfl,_⟩|⟨a,len,cap,m,n,D,Pl,rfl,hb,hl,A,j,rfl,q⟩
 .exact⟨none,0,0,λ_=>default,rfl,od,.inl rfl,λi hi=>om,λi hi=>om⟩
 have r:len<=m:=by rw[j];split<;>omega
 have each:∀i,i<len->∃s:A9,(w.cell? (a.add<|i*3)=some (.int .i64 s.parent)/\w.cell? (a.add<|i*3+1)=some (.string s.key)/\w.cell? (a.add<|i*3+2)=some (.int .i64 s.count))/\s.key.size<=maxLen/\(Lit.int .i64 s.parent).wf=true/\(Lit.int .i64 s.count).wf=true:=by
  intro i hi;obtain⟨u,h1,h2⟩:=q i om;rw[F.ct]at h1;obtain⟨p,k,c,rfl,w0,w1,w2⟩:=Wz F h2;obtain⟨_,_,d⟩:=World.cells?_some h1;have e0:=d 0 om;have e1:=d 1 om;have e2:=d 2 om;rw[add_add]at e0 e1 e2;exact⟨⟨p,k,c⟩,⟨by simpa using e0,by simpa using e1,by simpa using e2⟩,w1,w0,w2⟩
 obtain⟨f,hf⟩:=choose_lt each;refine⟨some a,len,cap,f,rfl,om,?_,λi hi=>(hf i hi).2.1,λi hi=>(hf i hi).2.2⟩;by_cases v:len=0
 .exact .inl v
 right;obtain⟨b,off,spot⟩:=a;have g:=(hf 0 om).1.1;have e:spot=none:=by simpa[Addr.add]using World.cell?_spot g
 subst e;refine⟨b,off,rfl,?_,λi hi=>?_⟩
 .have:=IF _ _ g;simpa[Addr.add]using this
 obtain⟨c0,c1,c2⟩:=(hf i hi).1;rw[add_plain]at c0 c1 c2;grind
end
end
section
open Go.ChangeShapes Go.WideShapes Go.ChangeAt Go.RowKit Go.Deep
structure Ad where
 va:Option Addr
 vc:Nat
 la:Option Addr
 lc:Nat
 ia:Option Addr
 ic:Nat
 xa:Option Addr
 xc:Nat
def Hh(v:Vl):List Value:=[J v.kind,J v.num,F9 v.Af,.string v.str,J v.ref]
def GD(s:Si):List Value:=[.string s.key,J s.shape,J s.place,J s.BZ,J s.AB]
def uG(A:Ad)(t:Tb):List Value:=[J t.shape,.slice A.va t.nv A.vc,.slice A.la t.d.n A.lc,.slice A.ia t.d.m A.ic,.slice A.xa t.d.x A.xc,J t.d.used,J t.d.live,J t.d.turns]
def EP.of{p}(h:∀j u,(Hh p)[j]?=some u->w.cell? (G b<|o+j)=some u):EP w b o p:=
 ⟨h 0 _ rfl,h 1 _ rfl,h 2 _ rfl,h 3 _ rfl,h 4 _ rfl⟩
def Vt.of{p}(h:∀j u,(GD p)[j]?=some u->w.cell? (G b<|o+j)=some u):Vt w b o p:=
 ⟨h 0 _ rfl,h 1 _ rfl,h 2 _ rfl,h 3 _ rfl,h 4 _ rfl⟩
def IQ.of{A}{t}(h:∀j u,(uG A t)[j]?=some u->w.cell? (G b<|o+j)=some u):IQ w b o A.va A.vc A.la A.lc A.ia A.ic A.xa A.xc t:=
 ⟨h 0 _ rfl,h 1 _ rfl,h 2 _ rfl,h 3 _ rfl,h 4 _ rfl,h 5 _ rfl,h 6 _ rfl,h 7 _ rfl⟩
def sJ(t:Tb):Prop:=(∀i,i<t.nv->Wf (t.V i))/\S4 t.d
def gV(s:AK):Prop:=∀i,i<s.nt->sJ (s.T i)
instance:Inhabited Si:=⟨⟨⟨#[]⟩,0,0,0,0⟩⟩
instance:Inhabited Tb:=⟨⟨0,0,λ_=>default,⟨0,λ_=>default,0,λ_=>0,0,λ_=>0,0,0,0⟩⟩⟩
instance:Inhabited Ad:=⟨⟨none,0,none,0,none,0,none,0⟩⟩
section
variable {H:Type} {enc:TypeId×Value->H} {P:Program} {w:Y} {base:Nat} {spare:Nat->Bool} {held:Bool}
def UD{r}(F:Fs P t ti tn r ts)(s:P.underlying q=some (.slice t)){fuel}{cs}{x}(h:DataW.trod enc P w base spare held fuel q cs=some x):
  ∃a n cap f,cs=[.slice a n cap]/\n<=maxLen/\FA w a n f/\∀i,i<n->Wf (f i):=by
 rcases open_slice s h with⟨rfl,_⟩|⟨a,len,cap,m,n,D,Pl,rfl,hb,hl,E,k,rfl,v⟩
 .exact⟨none,0,0,λ_=>default,rfl,od,.inl rfl,λi hi=>om⟩
 have A:len<=m:=by rw[k];split<;>omega
 have each:∀i,i<len->∃p:Vl,(∀j u,(Hh p)[j]?=some u->w.cell? (a.add<|i*5+j)=some u)/\Wf p:=by
  intro i hi;obtain⟨B,h1,h2⟩:=v i om;rw[F.ct]at h1;obtain⟨v0,v1,v2,v3,v4,rfl,_,_,l,o,_,_⟩:=Gg F h2;obtain⟨_,_,c⟩:=World.cells?_some h1;refine⟨⟨v0,v1,v2,v3,v4⟩,λj u hu=>?_,⟨Oi l,o⟩⟩;have hj:j<5:=by grind [Hh]
  have e:=c j hj;rw[add_add]at e;rw[e];simpa[Hh]using hu
 obtain⟨f,hf⟩:=choose_lt each;refine⟨some a,len,cap,f,rfl,om,?_,λi hi=>(hf i hi).2⟩;by_cases C:len=0
 .exact .inl C
 right;obtain⟨b,off,spot⟩:=a;have g:=(hf 0 om).1 0 _ rfl;have d:spot=none:=by simpa[Addr.add]using World.cell?_spot g
 subst d;refine⟨b,off,rfl,?_,λi hi=>?_⟩
 .have:=IF _ _ g;simpa[Addr.add]using this
 refine EP.of λj u hu=>?_;have:=(hf i hi).1 j u hu;rw[add_plain]at this;rw[Nat.add_assoc];exact this
structure Gx (P:Program) (t ti ts:TypeId):Prop where
 st:∃f0 f1 f2 f3 f4:Field,P.underlying t=some (.struct #[f0,f1,f2,f3,f4])/\f0.type=ts/\f1.type=ti/\f2.type=ti/\f3.type=ti/\f4.type=ti/\f0.offset=0/\f1.offset=1/\f2.offset=2/\f3.offset=3/\f4.offset=4
 ci:P.cellsOf ti=1
 cs:P.cellsOf ts=1
 ct:P.cellsOf t=5
 ui:P.underlying ti=some (.int .i64)
 us:P.underlying ts=some .string
def Zw(F:Gx P t ti ts){fuel}{cs}{x}(h:DataW.trod enc P w base spare held fuel t cs=some x):
  ∃s,cs=GD s/\s.key.size<=maxLen:=by
 obtain⟨f0,f1,f2,f3,f4,hu,t0,t1,t2,t3,t4,o0,o1,o2,d,e⟩:=F.st;obtain⟨xs,n,_,rfl,hl,a,hf⟩:=Aay hu h;rw[F.ct]at hl
 match cs,hl with
 |[c0,c1,c2,c3,c4],_=>
  match xs,a with
  |[f,g,i,j,k],_=>
   rcases hf 0 f0 rfl,hf 1 f1 rfl,hf 2 f2 rfl,hf 3 f3 rfl,hf 4 f4 rfl with⟨b,h1,h2,h3,h4⟩;simp only[t0,t1,t2,t3,t4,o0,o1,o2,d,e,F.ci,F.cs,List.drop_zero,AaB,Aaz,List.take_zero,Aao]at b h1 h2 h3 h4;rcases DataW.trod_string F.us b,Wx F.ui h1,Wx F.ui h2,Wx F.ui h3,Wx F.ui h4 with⟨⟨a0,e0,r0,w0⟩,⟨a1,e1,r1,w1⟩,⟨a2,e2,r2,w2⟩,⟨a3,e3,r3,w3⟩,⟨a4,c,l,w4⟩⟩;simp only[AaT,and_true]at e0 e1 e2 e3 c;subst e0 e1 e2 e3 c;exact⟨⟨a0,a1,a2,a3,a4⟩,rfl,w0⟩
def WB(F:Gx P t ti ts)(o:P.underlying l=some (.slice t)){fuel}{cs}{x}(h:DataW.trod enc P w base spare held fuel l cs=some x):
  ∃a n cap f,cs=[.slice a n cap]/\n<=maxLen/\FX w a n f/\∀i,i<n->(f i).key.size<=maxLen:=by
 rcases open_slice o h with⟨rfl,_⟩|⟨a,len,cap,m,n,D,Pl,rfl,hb,hl,A,k,rfl,q⟩
 .exact⟨none,0,0,λ_=>default,rfl,od,.inl rfl,λi hi=>om⟩
 have r:len<=m:=by rw[k];split<;>omega
 have each:∀i,i<len->∃p:Si,(∀j u,(GD p)[j]?=some u->w.cell? (a.add<|i*5+j)=some u)/\p.key.size<=maxLen:=by
  intro i hi;obtain⟨s,h1,h2⟩:=q i om;rw[F.ct]at h1;obtain⟨p,rfl,wp⟩:=Zw F h2;obtain⟨_,_,c⟩:=World.cells?_some h1;refine⟨p,λj u hu=>?_,wp⟩;have hj:j<5:=by grind [GD]
  have e:=c j hj;rw[add_add]at e;rw[e];simpa using hu
 obtain⟨f,hf⟩:=choose_lt each;refine⟨some a,len,cap,f,rfl,om,?_,λi hi=>(hf i hi).2⟩;by_cases v:len=0
 .exact .inl v
 right;obtain⟨b,off,spot⟩:=a;have g:=(hf 0 om).1 0 _ rfl;have d:spot=none:=by simpa[Addr.add]using World.cell?_spot g
 subst d;refine⟨b,off,rfl,?_,λi hi=>?_⟩
 .have:=IF _ _ g;simpa[Addr.add]using this
 refine Vt.of λj u hu=>?_;have:=(hf i hi).1 j u hu;rw[add_plain]at this;rw[Nat.add_assoc];exact this
structure Gt (P:Program) (t a b tL d e c ti tn f ts:TypeId):Prop where
 st:∃f0 f1 f2:Field,P.underlying t=some (.struct #[f0,f1,f2])/\f0.type=ti/\f1.type=a/\f2.type=b/\f0.offset=0/\f1.offset=1/\f2.offset=2
 ct:P.cellsOf t=8
 cv:P.cellsOf a=1
 uv:P.underlying a=some (.slice c)
 ds:Gd P b tL d e c ti tn f ts
def WD{b f tL g j k}(F:Gt P t b f tL g j k ti tn l ts){fuel}{cs}{x}(h:DataW.trod enc P w base spare held fuel t cs=some x):
  ∃(A:Ad) (t:Tb),cs=uG A t/\FA w A.va t.nv t.V/\Ea w A.la A.ia A.xa t.d/\QE t/\sJ t:=by
 obtain⟨f0,f1,f2,hu,t0,t1,t2,o0,o1,o2⟩:=F.st;obtain⟨xs,n,_,rfl,hl,a,hf⟩:=Aay hu h;rw[F.ct]at hl
 match cs,hl with
 |[c0,c1,c2,c3,c4,c5,c6,c7],_=>
  match xs,a with
  |[u,v,B],_=>
   rcases hf 0 f0 rfl,hf 1 f1 rfl,hf 2 f2 rfl with⟨c,h1,h2⟩;simp only[t0,t1,t2,o0,o1,o2,F.cv,F.ds.ct,F.ds.ps.vs.ci,List.drop_zero,AaB,Aaz,List.take_zero,Aao]at c h1 h2;rcases Wx F.ds.ps.vs.ui c,UD F.ds.ps.vs F.uv h1,Zt F.ds h2 with⟨⟨a0,e0,r0,w0⟩,⟨va,nv,vc,m,e1,o,p,e⟩,⟨la,lc,ia,ic,xa,xc,d,e2,q,r,s⟩⟩;simp only[AaT,and_true]at e0 e1 e2;subst e0 e1;obtain⟨rfl,rfl,rfl,rfl,rfl,rfl⟩:=e2;exact⟨⟨va,vc,la,lc,ia,ic,xa,xc⟩,⟨a0,nv,m,d⟩,rfl,p,q,⟨o,λi hi=>(e i hi).str,r⟩,⟨e,s⟩⟩
def UC{p r tL s v B C}(F:Gt P t l r tL s v B ti tn C ts)(E:P.underlying p=some (.slice t)){fuel}{cs}{x}(h:DataW.trod enc P w base spare held fuel p cs=some x):
  ∃a n cap f,cs=[.slice a n cap]/\n<=maxLen/\RH w a n f/\∀i,i<n->QE (f i)/\sJ (f i):=by
 rcases open_slice E h with⟨rfl,_⟩|⟨a,len,cap,m,n,D,Pl,rfl,hb,hl,T,o,rfl,I⟩
 .exact⟨none,0,0,λ_=>default,rfl,od,.inl rfl,λi hi=>om⟩
 have K:len<=m:=by rw[o];split<;>omega
 have each:∀i,i<len->∃q:Ad×Tb,(∀j u,(uG q.1 q.2)[j]?=some u->w.cell? (a.add<|i*8+j)=some u)/\FA w q.1.va q.2.nv q.2.V/\Ea w q.1.la q.1.ia q.1.xa q.2.d/\QE q.2/\sJ q.2:=by
  intro i hi;obtain⟨L,h1,h2⟩:=I i om;rw[F.ct]at h1;obtain⟨A,t,rfl,M,Q,lt,R⟩:=WD F h2;obtain⟨_,_,c⟩:=World.cells?_some h1;refine⟨⟨A,t⟩,λj u hu=>?_,M,Q,lt,R⟩;have hj:j<8:=by grind
  have e:=c j hj;rw[add_add]at e;rw[e];simpa using hu
 obtain⟨f,hf⟩:=choose_lt each;refine⟨some a,len,cap,λi=>(f i).2,rfl,om,?_,λi hi=>⟨(hf i hi).2.2.2.1,(hf i hi).2.2.2.2⟩⟩;by_cases S:len=0
 .exact .inl S
 right;obtain⟨b,off,spot⟩:=a;have k:=(hf 0 om).1 0 _ rfl;have g:spot=none:=by simpa[Addr.add]using World.cell?_spot k
 subst g;refine⟨b,off,rfl,?_,λi hi=>?_⟩
 .have:=IF _ _ k;simpa[Addr.add]using this
 refine⟨_,_,_,_,_,_,_,_,IQ.of λj u hu=>?_,(hf i hi).2.1,(hf i hi).2.2.1⟩;have:=(hf i hi).1 j u hu;rw[add_plain]at this;rw[Nat.add_assoc];exact this
end
def vW:Gx Tryz.prog 98 3 9:=⟨⟨_,_,_,_,_,Tryz.underlying98,rfl,rfl,rfl,rfl,rfl,rfl,rfl,rfl,rfl,rfl⟩,ou,ou,ou,Tryz.underlying3,Tryz.underlying9⟩
def vR:Gt Tryz.prog 95 89 93 90 91 240 31 3 2 29 9:=⟨⟨_,_,_,Tryz.underlying95,rfl,rfl,rfl,rfl,rfl,rfl⟩,ou,ou,Tryz.underlying89,vO⟩
def tH:Gs Tryz.prog 157 3 9:=⟨⟨_,_,_,Tryz.underlying157,rfl,rfl,rfl,rfl,rfl,rfl⟩,ou,ou,ou,Tryz.underlying3,Tryz.underlying9⟩
def Xs:Tryz.prog.cellsOf 24=1:=ou
def Xt:Tryz.prog.cellsOf 28=3:=ou
def iO:Tryz.prog.cellsOf 25=1:=ou
def iN:Tryz.prog.cellsOf 26=1:=ou
def SA{H}{enc}{base}{held}{x:DataW H×List MemPlace}(h:DataW.trod enc Tryz.prog w base spare held fuel 24 cs=some x):
  ∃a n cap f,cs=[.slice a n cap]/\n<=maxLen/\IM w a n f/\(∀i,i<n->(f i).key.size<=maxLen):=by
 obtain⟨xs,n,_,rfl,hl,b,hf⟩:=Aay Tryz.underlying24 h;rw[Xs]at hl
 match cs,hl with
 |[c0],_=>
  match xs,b with
  |[d],_=>
   have c:=hf 0 _ rfl;simp only[List.getElem?_cons_zero]at c;obtain⟨a,m,cap,f,e,h1,h2,h3,_⟩:=UB tH Tryz.underlying22 c;exact⟨a,m,cap,f,e,h1,h2,h3⟩
def WC{H}{enc}{base}{held}{x:DataW H×List MemPlace}(h:DataW.trod enc Tryz.prog w base spare held fuel 28 cs=some x):
  ∃b c ta tc sa sc s,cs=[.slice b s.nf c,.slice ta s.nt tc,.slice sa s.ns sc]/\Tg w b ta sa s/\Xi s/\gV s:=by
 obtain⟨f0,f1,f2,hu,t0,t1,t2,o0,o1,o2⟩:∃f0 f1 f2:Field,Tryz.prog.underlying 28=some (.struct #[f0,f1,f2])/\f0.type=24/\f1.type=25/\f2.type=26/\f0.offset=0/\f1.offset=1/\f2.offset=2:=⟨_,_,_,Tryz.underlying28,rfl,rfl,rfl,rfl,rfl,rfl⟩;obtain⟨xs,n,_,rfl,hl,a,hf⟩:=Aay hu h;rw[Xt]at hl
 match cs,hl with
 |[c0,c1,c2],_=>
  match xs,a with
  |[r,t,u],_=>
   rcases hf 0 f0 rfl,hf 1 f1 rfl,hf 2 f2 rfl with⟨d,h1,h2⟩;simp only[t0,t1,t2,o0,o1,o2,Xs,iO,iN,List.drop_zero,AaB,Aaz,List.take_zero,List.getElem?_cons_zero,Aao]at d h1 h2;rcases SA d,UC vR Tryz.underlying25 h1,WB vW Tryz.underlying26 h2 with⟨⟨b,fn,c,f,e0,n0,pF,g⟩,⟨ta,tn,tc,j,e1,k,l,e⟩,⟨sa,m,sc,o,e2,p,pS,q⟩⟩;simp only[AaT,and_true]at e0 e1 e2;subst e0 e1 e2;exact⟨b,c,ta,tc,sa,sc,⟨fn,f,tn,j,m,o⟩,rfl,⟨pF,l,pS⟩,⟨n0,g,k,λi hi=>(e i hi).1,p,q⟩,λi hi=>(e i hi).2⟩
def Wm{H}{enc}{base}{held}{r}{v:V9}{d:DataW H}{p}(f:Value.okWide Tryz.prog w r b0 28 v)(h:DataW.Trod enc Tryz.prog w base spare held 28 v d p):
  ∃a b ta tc sa sc s,v=PY a b ta tc sa sc s/\Tg w a ta sa s/\Xi s/\gV s:=by
 obtain⟨cs,rfl,c⟩:=okWide_struct Tryz.underlying28 f;obtain⟨c0,c1,c2,rfl⟩:∃c0 c1 c2,cs=#[c0,c1,c2]:=by
  obtain⟨l⟩:=cs
  match l,c.trans Xt with
  |[c0,c1,c2],_=>exact⟨c0,c1,c2,rfl⟩
 obtain⟨fuel,hf⟩:=h;obtain⟨a,b,ta,tc,sa,sc,s,e,h1,h2,h3⟩:=WC hf;simp only[Value.cells,AaT,and_true]at e;obtain⟨rfl,rfl,rfl⟩:=e;exact⟨a,b,ta,tc,sa,sc,s,rfl,h1,h2,h3⟩
end
end Go.Proofs.YtoobllcjfinmoaaGreatDoor
