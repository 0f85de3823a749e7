import Derived.Test.YtgmlkfgfjjggnaaGreatDoorChecked
import GoSem.Claim
import GoSem.ClaimJoined
import GoSem.ClaimMapViews
import Derived.JoinedTies
import Derived.KernelRfl
import Derived.RowKit
import Derived.WalkKit
import Derived.Below
import Derived.Laws.FloatArith
import Derived.WalkSpells
import Derived.WalkLawsBesides
import Derived.Laws.Externs
import Derived.Deep.QuietTactic
import Derived.BigQuiet
set_option linter.unusedVariables false
set_option linter.unusedSimpArgs false
set_option maxHeartbeats 40000000
set_option maxRecDepth 100000
namespace Go.Proofs.YtgmlkfgfjjggnaaGreatDoor
section
open Go.RowKit
theorem hide{p:Prop}(h:p):Hid p:=h
theorem unhide{p:Prop}(h:Hid p):p:=h
theorem bcell{W w1:World}(hb:Below W.heap.size W w1):(∀b o,b<W.heap.size->w1.cell? ⟨b,o,none⟩=W.cell? ⟨b,o,none⟩)/\(∀b o,b<W.heap.size->w1.frozen? ⟨b,o,none⟩=W.frozen? ⟨b,o,none⟩):=
 ⟨fun b o h=>hb.cell (p:=⟨b,o,none⟩) h,fun b o h=>hb.frozen (p:=⟨b,o,none⟩) h⟩
end
section
open Go.RowKit
theorem uy{p:Prop}(h:p):Hid p:=hide h
theorem uh{p:Prop}(h:Hid p):p:=unhide h
theorem sA{α:Type _}(l:List α)(i:Nat)(a:α):l.toArray.setIfInBounds i a=(l.set i a).toArray:=List.setIfInBounds_toArray ..
theorem sB{α:Type _}(x:α)(l:List α)(n:Nat)(v:α):(x::l).set (n+1) v=x::l.set n v:=rfl
theorem sC{α:Type _}(x:α)(l:List α)(v:α):(x::l).set 0 v=v::l:=rfl
end
namespace Fl
open Ieee
def sc(s:Bool)(m:Nat)(i:Int):Int:=signed s m (i+1074).toNat
theorem signed_eq(s:Bool)(m k:Nat):signed s m k=(if s then -1 else 1)*((m:Int)*(2:Int)^k):=by
 unfold signed
 rw[Nat.shiftLeft_eq]
 cases s<;>simp<;>norm_cast
theorem pow_pos'(k:Nat):(0:Int)<(2:Int)^k:=Int.pow_pos (by omega)
theorem signed_scale(s:Bool)(m k c:Nat):signed s m (k+c)=signed s m k*(2:Int)^c:=by
 rw[signed_eq,signed_eq,Int.pow_add]
 simp only[Int.mul_assoc]
theorem compare_scale(a b:Int)(c:Nat):compare (a*(2:Int)^c) (b*(2:Int)^c)=compare a b:=by
 have h:=pow_pos' c
 simp only[compare,compareOfLessAndEq]
 have h1:a*(2:Int)^c<b*(2:Int)^c↔a<b:=Int.mul_lt_mul_right h
 have h2:a*(2:Int)^c=b*(2:Int)^c↔a=b:=Int.mul_eq_mul_right_iff (by omega)
 simp only[h1,h2]
theorem order_number(s t:Bool)(m n:Nat)(i j:Int)(hi:-1074<=i)(hj:-1074<=j):
  Datum.order (.number s m i) (.number t n j)=some (compare (sc s m i) (sc t n j)):=by
 show some (compare (signed s m (i-min i j).toNat) (signed t n (j-min i j).toNat))=_
 unfold sc
 obtain⟨c,hc⟩:∃c:Nat,c=(min i j+1074).toNat:=⟨_,rfl⟩
 have e1:(i+1074).toNat=(i-min i j).toNat+c:=by omega
 have e2:(j+1074).toNat=(j-min i j).toNat+c:=by omega
 rw[e1,e2,signed_scale,signed_scale,compare_scale]
theorem cmp_eq(a b:Int):(some (compare a b)==some Ordering.eq)=decide (a=b):=by
 simp only[compare,compareOfLessAndEq]
 by_cases h:a<b
 ·have:¬a=b:=by omega
  simp[h,this]
 ·by_cases h2:a=b<;>simp[h,h2]
theorem cmp_lt(a b:Int):(some (compare a b)==some Ordering.lt)=decide (a<b):=by
 simp only[compare,compareOfLessAndEq]
 by_cases h:a<b
 ·simp[h]
 ·by_cases h2:a=b<;>simp[h,h2]
theorem cmp_gt(a b:Int):(some (compare a b)==some Ordering.gt)=decide (b<a):=by
 simp only[compare,compareOfLessAndEq]
 by_cases h:a<b
 ·have:¬b<a:=by omega
  simp[h,this]
 ·by_cases h2:a=b
  ·simp[h2]
  ·have:b<a:=by omega
   simp[h,h2,this]
theorem read_cases(x:Nat):(∃s m i,double.read x=.number s m i/\-1074<=i/\i<=971/\m<2^53/\(i=-1074\/2^52<=m))\/(∃s,double.read x=.infinity s)\/(∃s t,double.read x=.nan s t):=by
 unfold Format.read
 have hb:double.binade=4503599627370496:=by decide
 have hr:double.infRung=9218868437227405312:=by decide
 have hl:double.leastPlace=-1074:=by decide
 dsimp only
 rw[hb,hr,hl]
 generalize x%double.signWeight=r
 generalize (x/double.signWeight%2==1)=s
 by_cases h1:r<4503599627370496
 ·left
  exact⟨s,r,-1074,by rw[if_pos h1],by omega,by omega,by omega,.inl rfl⟩
 ·by_cases h2:r<9218868437227405312
  ·left
   refine⟨s,_,_,by rw[if_neg h1,if_pos h2],by omega,by omega,by omega,.inr (by omega)⟩
  ·by_cases h3:r=9218868437227405312
   ·right;left;exact⟨s,by rw[if_neg h1,if_neg h2,if_pos h3]⟩
   ·right;right;exact⟨s,_,by rw[if_neg h1,if_neg h2,if_neg h3]⟩
theorem log2_shift(m k:Nat)(h:m≠0):(m*2^k).log2=m.log2+k:=by
 induction k with
 |zero=>simp
 |succ k ih=>
  rw[Nat.pow_succ,<-Nat.mul_assoc,Nat.mul_comm _ 2,Nat.log2_two_mul (Nat.mul_ne_zero h (by have:=Nat.two_pow_pos k;omega)),ih]
  omega
theorem cut_zero_drop(way:Toward)(neg:Bool)(n:Nat):way.cut neg n 0=n:=by
 unfold Toward.cut
 cases way<;>simp[Nat.mod_one]
theorem read_word(neg:Bool)(kept:Nat)(last:Int)(h1:-1074<=last)(h2:last<=971)(h3:kept<2^53)(h4:last=-1074\/2^52<=kept):
  double.read (double.word neg (min ((last-double.leastPlace).toNat*double.binade+kept) double.infRung))=.number neg kept last:=by
 have hb:double.binade=4503599627370496:=by decide
 have hr:double.infRung=9218868437227405312:=by decide
 have hl:double.leastPlace=-1074:=by decide
 have hs:double.signWeight=9223372036854775808:=by decide
 rw[hl,hb,hr]
 obtain⟨p,hp⟩:∃p:Nat,p=(last- -1074).toNat:=⟨_,rfl⟩
 rw[<-hp]
 have hlast:last=(p:Int)-1074:=by omega
 have hmin:min (p*4503599627370496+kept) 9218868437227405312=p*4503599627370496+kept:=by
  apply Nat.min_eq_left;omega
 rw[hmin]
 unfold Format.read Format.word
 dsimp only
 rw[hb,hr,hl,hs]
 have hw:∀r:Nat,r<9223372036854775808->(if neg=true then 9223372036854775808+r else r)%9223372036854775808=r:=by
  intro r h;cases neg<;>simp<;>omega
 have hn:∀r:Nat,r<9223372036854775808->((if neg=true then 9223372036854775808+r else r)/9223372036854775808%2==1)=neg:=by
  intro r h
  cases neg
  ·have:r/9223372036854775808%2=0:=by omega
   simp[this]
  ·have:(9223372036854775808+r)/9223372036854775808%2=1:=by omega
   rw[if_pos rfl,this];rfl
 rw[hw _ (by omega),hn _ (by omega)]
 by_cases hz:p*4503599627370496+kept<4503599627370496
 ·rw[if_pos hz]
  have:p=0:=by omega
  subst this
  simp[hlast]
 ·rw[if_neg hz,if_pos (by omega)]
  congr 1
  ·omega
  ·omega
theorem nearest_exact(neg:Bool)(mag:Nat)(place:Int)(m:Nat)(p:Int)(h0:mag≠0)(hpl:-1074<=place)(hm:m<2^53)(hp1:-1074<=p)(hp2:p<=971)
  (he:mag*2^(place+1074).toNat=m*2^(p+1074).toNat):
  ∃q l,double.read (double.nearest neg mag place)=.number neg q l/\-1074<=l/\l<=971/\q*2^(l+1074).toNat=mag*2^(place+1074).toNat:=by
 have hl:double.leastPlace=-1074:=by decide
 have hf:double.fractionBits=52:=rfl
 have hm0:m≠0:=by
  intro e;subst e
  have:=Nat.two_pow_pos (place+1074).toNat
  rw[Nat.zero_mul]at he
  rcases Nat.mul_eq_zero.1 he with h|h<;>omega
 have hlog:mag.log2+(place+1074).toNat=m.log2+(p+1074).toNat:=by
  rw[<-log2_shift mag _ h0,<-log2_shift m _ hm0,he]
 have hm52:m.log2<=52:=by
  have:=(Nat.log2_lt hm0).2 hm
  omega
 unfold Format.nearest
 rw[if_neg h0]
 dsimp only
 rw[hf]
 obtain⟨last,hlast⟩:∃last:Int,last=max (place+↑mag.log2-((52:Nat):Int)) double.leastPlace:=⟨_,rfl⟩
 rw[<-hlast]
 rw[hl]at hlast
 have l1:-1074<=last:=by omega
 have l2:last<=971:=by omega
 obtain⟨kept,hk,hv⟩:∃kept,Toward.even.cut neg (mag <<< (place-last).toNat) (last-place).toNat=kept/\kept*2^(last+1074).toNat=mag*2^(place+1074).toNat:=by
  by_cases hc:last<=place
  ·refine⟨_,rfl,?_⟩
   have e0:(last-place).toNat=0:=by omega
   rw[e0,cut_zero_drop,Nat.shiftLeft_eq,Nat.mul_assoc,<-Nat.pow_add]
   congr 2;omega
  ·have e0:(place-last).toNat=0:=by omega
   rw[e0,Nat.shiftLeft_zero]
   obtain⟨d,hd⟩:∃d,d=(last-place).toNat:=⟨_,rfl⟩
   rw[<-hd]
   have hd2:d<=mag.log2+2:=by omega
   have hdiv:∃q,mag=q*2^d:=by
    obtain⟨c,hcc⟩:∃c,c=(p-place).toNat:=⟨_,rfl⟩
    have e1:(p+1074).toNat=c+(place+1074).toNat:=by omega
    rw[e1,Nat.pow_add,<-Nat.mul_assoc]at he
    have e2:=Nat.eq_of_mul_eq_mul_right (Nat.two_pow_pos _) he
    refine⟨m*2^(c-d),?_⟩
    rw[e2,Nat.mul_assoc,<-Nat.pow_add]
    congr 2;omega
   obtain⟨q,hq⟩:=hdiv
   refine⟨q,?_,?_⟩
   ·unfold Toward.cut
    dsimp only
    rw[Nat.min_eq_left hd2,Nat.one_shiftLeft]
    have hpd:=Nat.two_pow_pos d
    have m1:mag/2^d=q:=by rw[hq];exact Nat.mul_div_cancel _ hpd
    have m2:mag%2^d=0:=by rw[hq];exact Nat.mul_mod_left _ _
    have m3:(2^d==0)=false:=by simp
    rw[m1,m2]
    simp
   ·rw[hq,Nat.mul_assoc,<-Nat.pow_add]
    congr 2;omega
 rw[hk]
 have hk0:kept≠0:=by
  intro e;subst e
  have:=Nat.two_pow_pos (place+1074).toNat
  rw[Nat.zero_mul]at hv
  rcases Nat.mul_eq_zero.1 hv.symm with h|h<;>omega
 have hklog:kept.log2+(last+1074).toNat=mag.log2+(place+1074).toNat:=by
  rw[<-log2_shift mag _ h0,<-log2_shift kept _ hk0,hv]
 have k1:kept<2^53:=by
  apply(Nat.log2_lt hk0).1;omega
 have k2:last=-1074\/2^52<=kept:=by
  by_cases h:last=-1074
  ·exact .inl h
  ·right
   exact(Nat.le_log2 hk0).1 (by omega)
 exact⟨kept,last,read_word neg kept last l1 l2 k1 k2,l1,l2,hv⟩
theorem nearest_zero(neg:Bool)(place:Int):double.read (double.nearest neg 0 place)=.number neg 0 (-1074):=by
 cases neg<;>(unfold Format.nearest;rw[if_pos rfl];decide)
theorem sc_of(s:Bool)(q:Nat)(l:Int)(mag:Nat)(place:Int)(h:q*2^(l+1074).toNat=mag*2^(place+1074).toNat):sc s q l=sc s mag place:=by
 unfold sc signed
 rw[Nat.shiftLeft_eq,Nat.shiftLeft_eq,h]
theorem sc_zero(s:Bool)(i:Int):sc s 0 i=0:=by
 unfold sc signed
 rw[Nat.shiftLeft_eq,Nat.zero_mul]
 cases s<;>rfl
def U:Int:=(2:Int)^1074
theorem U_pos:0<U:=pow_pos' _
def sg(s:Bool)(n:Nat):Int:=if s then -(n:Int)else n
theorem sc_whole(s:Bool)(n:Nat):sc s n 0=sg s n*U:=by
 unfold sc sg U
 rw[signed_eq]
 have:((0:Int)+1074).toNat=1074:=by decide
 rw[this]
 generalize (2:Int)^1074=u
 cases s
 ·simp
 ·simp[Int.neg_mul]
def Fits(n:Nat):Prop:=∃q c:Nat,n=q*2^c/\q<2^53/\c<=971
theorem fits_small{n:Nat}(h:n<2^53):Fits n:=⟨n,0,by simp,h,by omega⟩
theorem nearest_whole(neg:Bool)(n:Nat)(h:Fits n):∃q l,double.read (double.nearest neg n 0)=.number neg q l/\-1074<=l/\sc neg q l=sg neg n*U:=by
 by_cases h0:n=0
 ·subst h0
  exact⟨0,-1074,nearest_zero _ _,by omega,by rw[sc_zero];cases neg<;>simp[sg]⟩
 ·obtain⟨q,c,rfl,hq,hc⟩:=h
  obtain⟨q',l,hr,h1,_,hv⟩:=nearest_exact neg (q*2^c) 0 q c h0 (by omega) hq (by omega) (by omega) (by
   rw[Nat.mul_assoc,<-Nat.pow_add];congr 2)
  exact⟨q',l,hr,h1,by rw[sc_of neg q' l _ 0 hv,sc_whole]⟩
def whole(m:Nat)(i:Int):Nat:=if 0<=i then m*2^i.toNat else m/2^(-i).toNat
theorem cut_whole(s:Bool)(m:Nat)(i:Int):Toward.zero.cut s (m <<< i.toNat) (-i).toNat=whole m i:=by
 unfold whole
 by_cases h:0<=i
 ·have e:(-i).toNat=0:=by omega
  rw[if_pos h,e,cut_zero_drop,Nat.shiftLeft_eq]
 ·have e:i.toNat=0:=by omega
  rw[if_neg h,e,Nat.shiftLeft_zero]
  unfold Toward.cut
  dsimp only
  generalize (-i).toNat=d
  rw[Nat.one_shiftLeft]
  by_cases hd:d<=m.log2+2
  ·rw[Nat.min_eq_left hd];simp
  ·rw[Nat.min_eq_right (by omega)]
   have h1:m<2^(m.log2+2):=by
    by_cases h0:m=0
    ·subst h0;simp
    ·exact(Nat.log2_lt h0).1 (by omega)
   have h2:m<2^d:=Nat.lt_of_lt_of_le h1 (Nat.pow_le_pow_right (by omega) (by omega))
   rw[Nat.div_eq_of_lt h1,Nat.div_eq_of_lt h2];simp
theorem toInt_number(s:Bool)(m:Nat)(i:Int):(Datum.number s m i).toInt .zero=some (sg s (whole m i)):=by
 show some (signed s (Toward.zero.cut s (m <<< i.toNat) (-i).toNat) 0)=_
 rw[cut_whole]
 unfold signed sg
 cases s<;>simp
theorem integral_number(s:Bool)(m:Nat)(i:Int):(Datum.number s m i).integral .zero=.number s (whole m i) 0:=by
 show Datum.number s (Toward.zero.cut s (m <<< i.toNat) (-i).toNat) 0=_
 rw[cut_whole]
theorem fits_whole(m:Nat)(i:Int)(hm:m<2^53)(hi:i<=971):Fits (whole m i):=by
 unfold whole
 by_cases h:0<=i
 ·rw[if_pos h];exact⟨m,i.toNat,rfl,hm,by omega⟩
 ·rw[if_neg h]
  exact fits_small (Nat.lt_of_le_of_lt (Nat.div_le_self _ _) hm)
theorem whole_bounds(m:Nat)(i:Int)(hi:-1074<=i):(whole m i:Int)*U<=sc false m i/\sc false m i<((whole m i:Int)+1)*U:=by
 unfold sc U whole
 rw[signed_eq]
 by_cases h:0<=i
 ·rw[if_pos h]
  have e:(i+1074).toNat=i.toNat+1074:=by omega
  rw[e,Int.pow_add]
  have hp:=pow_pos' 1074
  generalize (2:Int)^1074=u at hp
  have e2:((m*2^i.toNat:Nat):Int)=(m:Int)*2^i.toNat:=by norm_cast
  rw[e2]
  simp only[Bool.false_eq_true,if_false,Int.one_mul,<-Int.mul_assoc,Int.add_mul]
  generalize (m:Int)*2^i.toNat*u=z
  omega
 ·rw[if_neg h]
  obtain⟨d,hd⟩:∃d,d=(-i).toNat:=⟨_,rfl⟩
  rw[<-hd]
  obtain⟨kk,hkk⟩:∃kk:Nat,kk=1074:=⟨_,rfl⟩
  rw[<-hkk]
  have e:kk=(i+(kk:Int)).toNat+d:=by omega
  have e':((1074:Int))=(kk:Int):=by omega
  rw[e']
  generalize (i+(kk:Int)).toNat=k at e
  rw[e,Int.pow_add]
  have h1:=Nat.div_add_mod m (2^d)
  have h2:=Nat.mod_lt m (Nat.two_pow_pos d)
  generalize m/2^d=q at h1
  have hk:=pow_pos' k
  simp only[Bool.false_eq_true,if_false,Int.one_mul]
  have e1:(q:Int)*((2:Int)^k*2^d)=((2^d*q:Nat):Int)*2^k:=by
   push_cast;rw[Int.mul_comm ((2:Int)^k),<-Int.mul_assoc,Int.mul_comm (q:Int)]
  have e2:((q:Int)+1)*((2:Int)^k*2^d)=((2^d*q+2^d:Nat):Int)*2^k:=by
   rw[Int.add_mul,e1];push_cast;rw[Int.add_mul,Int.one_mul,Int.mul_comm ((2:Int)^k)]
  rw[e1,e2]
  exact⟨Int.mul_le_mul_of_nonneg_right (by omega) (by omega),Int.mul_lt_mul_of_pos_right (by omega) hk⟩
theorem sc_neg(m:Nat)(i:Int):sc true m i=-sc false m i:=by
 unfold sc signed;simp
theorem ord_of{x y:Nat}{s t:Bool}{m n:Nat}{i j:Int}(hx:double.read x=.number s m i)(hy:double.read y=.number t n j)(hi:-1074<=i)(hj:-1074<=j):
  double.order x y=some (compare (sc s m i) (sc t n j)):=by
 unfold Format.order
 rw[hx,hy,order_number s t m n i j hi hj]
theorem read_c63:double.read 4890909195324358656=.number false 4503599627370496 11:=by decide
theorem read_m63:double.read 14114281232179134464=.number true 4503599627370496 11:=by decide
theorem read_one:double.read 4607182418800017408=.number false 4503599627370496 (-52):=by decide
theorem read_nil:double.read 0=.number false 0 (-1074):=by decide
theorem sc_c63:sc false 4503599627370496 11=9223372036854775808*U:=by
 unfold sc U
 rw[signed_eq]
 have:((11:Int)+1074).toNat=11+1074:=by decide
 rw[this,Int.pow_add]
 generalize (2:Int)^1074=u
 simp;omega
theorem sc_m63:sc true 4503599627370496 11=-(9223372036854775808*U):=by rw[sc_neg,sc_c63]
theorem toIntVal{x:Nat}{s:Bool}{m:Nat}{i:Int}(hx:double.read x=.number s m i)(hi:-1074<=i)(h1:-(9223372036854775808*U)<=sc s m i)(h2:sc s m i<9223372036854775808*U):
  floatToIntVal .f64 x .i64=some (sg s (whole m i)):=by
 have hd:(FloatKind.f64.decode x).toInt .zero=some (sg s (whole m i)):=by
  show(double.read x).toInt .zero=_
  rw[hx,toInt_number]
 have hb:=whole_bounds m i hi
 have hu:=U_pos
 have key:IntKind.i64.min<=sg s (whole m i)/\sg s (whole m i)<=IntKind.i64.max:=by
  have e1:IntKind.i64.min=-9223372036854775808:=by decide
  have e2:IntKind.i64.max=9223372036854775807:=by decide
  rw[e1,e2]
  generalize whole m i=k at*
  cases s
  ·have hlt:(k:Int)*U<9223372036854775808*U:=by omega
   have:=Int.lt_of_mul_lt_mul_right hlt (by omega)
   simp only[sg,Bool.false_eq_true,if_false];omega
  ·rw[sc_neg]at h1
   have hlt:(k:Int)*U<=9223372036854775808*U:=by omega
   have:=Int.le_of_mul_le_mul_right hlt hu
   simp only[sg,if_true];omega
 unfold floatToIntVal
 rw[hd]
 simp only
 rw[if_pos key]
theorem ord_trunc{x:Nat}{s:Bool}{m:Nat}{i:Int}(hx:double.read x=.number s m i)(hi:-1074<=i)(hi2:i<=971)(hm:m<2^53):
  (double.order x (double.nearest s (whole m i) 0)==some .eq)=decide (sc s m i=sg s (whole m i)*U):=by
 obtain⟨q,l,hr,hl,hv⟩:=nearest_whole s (whole m i) (fits_whole m i hm hi2)
 rw[ord_of hx hr hi hl,cmp_eq,hv]
end Fl
section
open Go.RowKit
theorem run_store_float{P:Program}{w:World}{a:Addr}{m:Mode}(k:FloatKind)(n:Nat):(store a (.float k n) m).run P w=stored P w a (.float k n) m:=run_store P w a _ m rfl
theorem run_equalIn_float{P:Program}{w:World}(d:Nat)(t:TypeId)(k k':FloatKind)(a b:Nat)(h:P.underlying t=some (.float k')):(Op.equalIn (d+1) t (.float k a) (.float k b)).run P w=.ok (k.format.order a b==some .eq) w:=by
 simp[Op.equalIn,run_underlying h,Op.floatEq]
attribute [local go_sem] run_store_float run_equalIn_float
abbrev V(kind num:Int)(flt:Nat)(s:ByteArray)(ref:Int):Value:=.agg #[.int .i64 kind,.int .i64 num,.float .f64 flt,.string s,.int .i64 ref]
abbrev KV(code kind num:Int)(flt:Nat)(s:ByteArray)(ref:Int):Value:=.agg #[.int .i64 code,.int .i64 kind,.int .i64 num,.float .f64 flt,.string s,.int .i64 ref]
def fz(f:Nat):Bool:=FloatKind.f64.format.order f 0==some .eq
def fnan(f:Nat):Bool:=FloatKind.f64.format.order f f !=some .eq
def validB(kind num:Int)(flt:Nat)(s:ByteArray)(ref:Int):Bool:=
 if kind=0 then num==0&&fz flt&&s.toList.isEmpty&&ref==0
 else if kind=1 then(fz flt&&s.toList.isEmpty&&ref==0)&&(num==0||num==1)
 else if kind=2 then(fz flt&&s.toList.isEmpty&&ref==0)
 else if kind=3 then(num==0&&s.toList.isEmpty&&ref==0)
 else if kind=4 then(num==0&&fz flt&&ref==0)&&decide ((s.size:Int)<=4000)
 else if kind=5 then(num==0&&fz flt&&s.toList.isEmpty)&&decide (0<=ref)
 else if kind=6 then(num==0&&fz flt&&s.toList.isEmpty)&&decide (0<=ref)
 else if kind=7 then(num==0&&fz flt&&s.toList.isEmpty)&&decide (0<=ref)
 else if kind=8 then(fz flt&&s.toList.isEmpty&&ref==0)&&decide (0<=num)&&decide (num<15)
 else false
structure Vl where
 kind:Int
 num:Int
 flt:Nat
 str:ByteArray
 ref:Int
instance:Inhabited Vl:=⟨⟨0,0,0,⟨#[]⟩,0⟩⟩
def Vl.ok(x:Vl):Bool:=validB x.kind x.num x.flt x.str x.ref
theorem isValid_any(kind num:Int)(flt:Nat)(s:ByteArray)(ref:Int)(w:World):
  Calls Tryz.prog 150 #[V kind num flt s ref] w fun e w'=>e=.returned (.bool (validB kind num flt s ref))/\Below w.heap.size w w':=by
 by_cases k0:kind=0
 ·subst k0
  go_enter Tryz.func150,Tryz.ntmps150
  go_wp2
  all_goals
   go_ret
   refine⟨?_,?_⟩
   ·simp_all [validB,fz]
   ·exact((Below.refl _ _).alloc (Nat.le_refl _) _).alloc (by simp) _
 by_cases k1:kind=1
 ·subst k1
  go_enter Tryz.func150,Tryz.ntmps150
  go_wp2
  all_goals
   go_ret
   refine⟨?_,?_⟩
   ·simp_all [validB,fz]
   ·exact((Below.refl _ _).alloc (Nat.le_refl _) _).alloc (by simp) _
 by_cases k2:kind=2
 ·subst k2
  go_enter Tryz.func150,Tryz.ntmps150
  go_wp2
  all_goals
   go_ret
   refine⟨?_,?_⟩
   ·simp_all [validB,fz]
   ·exact((Below.refl _ _).alloc (Nat.le_refl _) _).alloc (by simp) _
 by_cases k3:kind=3
 ·subst k3
  go_enter Tryz.func150,Tryz.ntmps150
  go_wp2
  all_goals
   go_ret
   refine⟨?_,?_⟩
   ·simp_all [validB]
   ·exact((Below.refl _ _).alloc (Nat.le_refl _) _).alloc (by simp) _
 by_cases k4:kind=4
 ·subst k4
  go_enter Tryz.func150,Tryz.ntmps150
  go_wp2
  all_goals
   go_ret
   refine⟨?_,?_⟩
   ·simp_all [validB,fz]
   ·exact((Below.refl _ _).alloc (Nat.le_refl _) _).alloc (by simp) _
 by_cases k5:kind=5
 ·subst k5
  go_enter Tryz.func150,Tryz.ntmps150
  go_wp2
  all_goals
   go_ret
   refine⟨?_,?_⟩
   ·simp_all [validB,fz]
   ·exact((Below.refl _ _).alloc (Nat.le_refl _) _).alloc (by simp) _
 by_cases k6:kind=6
 ·subst k6
  go_enter Tryz.func150,Tryz.ntmps150
  go_wp2
  all_goals
   go_ret
   refine⟨?_,?_⟩
   ·simp_all [validB,fz]
   ·exact((Below.refl _ _).alloc (Nat.le_refl _) _).alloc (by simp) _
 by_cases k7:kind=7
 ·subst k7
  go_enter Tryz.func150,Tryz.ntmps150
  go_wp2
  all_goals
   go_ret
   refine⟨?_,?_⟩
   ·simp_all [validB,fz]
   ·exact((Below.refl _ _).alloc (Nat.le_refl _) _).alloc (by simp) _
 by_cases k8:kind=8
 ·subst k8
  go_enter Tryz.func150,Tryz.ntmps150
  go_wp2
  all_goals
   go_ret
   refine⟨?_,?_⟩
   ·simp_all [validB,fz]
    try(intros;omega)
   ·exact((Below.refl _ _).alloc (Nat.le_refl _) _).alloc (by simp) _
 have b0:(kind==0)=false:=by simp[k0]
 have b1:(kind==1)=false:=by simp[k1]
 have b2:(kind==2)=false:=by simp[k2]
 have b3:(kind==3)=false:=by simp[k3]
 have b4:(kind==4)=false:=by simp[k4]
 have b5:(kind==5)=false:=by simp[k5]
 have b6:(kind==6)=false:=by simp[k6]
 have b7:(kind==7)=false:=by simp[k7]
 have b8:(kind==8)=false:=by simp[k8]
 go_enter Tryz.func150,Tryz.ntmps150
 go_wp2
 all_goals
  go_ret
  refine⟨?_,?_⟩
  ·simp_all [validB]
  ·exact((Below.refl _ _).alloc (Nat.le_refl _) _).alloc (by simp) _
end
section
open Go.RowKit
attribute [local go_sem] run_store_float run_equalIn_float
theorem arch_is(x:Nat)(s:Bool)(m:Nat)(i:Int)(h1:FloatKind.f64.decode x=.number s m i):
  Extern.MathFloor.toIntegral "math.archTrunc" .zero #[.float .f64 x]=pure (.float .f64 (FloatKind.f64.encode ((Ieee.Datum.number s m i).integral .zero))):=by
 show Extern.MathFloor.toIntegral.match_1 (fun _=>Sem Value) (FloatKind.f64.decode x) (fun s t=>_) (fun d=>_)=_
 rw[h1]
theorem arch_run(x:Nat)(w:World)(s:Bool)(m:Nat)(i:Int)(hx:Ieee.double.read x=.number s m i):
  (callFunc 281 #[.float .f64 x]).run Tryz.prog w=.ok (.value (.float .f64 (Ieee.double.nearest s (Fl.whole m i) 0))) w:=by
 rw[run_callFunc_extern (e:=Extern.MathFloor.toIntegral "math.archTrunc" .zero) Tryz.func281 (by kernel_rfl) (by kernel_rfl) (by kernel_rfl) (by kernel_rfl)]
 rw[arch_is x s m i hx,Fl.integral_number]
 rfl
theorem trunc_any(x:Nat)(w:World)(s:Bool)(m:Nat)(i:Int)(hx:Ieee.double.read x=.number s m i):
  Calls Tryz.prog 264 #[.float .f64 x] w fun e w'=>e=.returned (.float .f64 (Ieee.double.nearest s (Fl.whole m i) 0))/\w'=w:=by
 have ha:=fun w=>arch_run x w s m i hx
 clear hx
 go_enter Tryz.func264,Tryz.ntmps264
 go_wp2
 go_ret
 exact⟨rfl,rfl⟩
theorem fin_of{x:Nat}(h1:(Ieee.double.order x 14114281232179134464==some .gt||Ieee.double.order x 14114281232179134464==some .eq)=true)(h2:(Ieee.double.order x 4890909195324358656==some .lt)=true):
  ∃s m i,Ieee.double.read x=.number s m i/\-1074<=i/\i<=971/\m<2^53/\-(9223372036854775808*Fl.U)<=Fl.sc s m i/\Fl.sc s m i<9223372036854775808*Fl.U:=by
 rcases Fl.read_cases x with⟨s,m,i,hr,hi,hi2,hm,_⟩|⟨s,hr⟩|⟨s,t,hr⟩
 ·refine⟨s,m,i,hr,hi,hi2,hm,?_,?_⟩
  ·rw[Fl.ord_of hr Fl.read_m63 hi (by omega),Fl.sc_m63,Fl.cmp_gt,Fl.cmp_eq]at h1
   simp at h1;omega
  ·rw[Fl.ord_of hr Fl.read_c63 hi (by omega),Fl.sc_c63,Fl.cmp_lt]at h2
   simpa using h2
 ·exfalso
  unfold Ieee.Format.order at h1 h2
  rw[hr,Fl.read_m63]at h1
  rw[hr,Fl.read_c63]at h2
  cases s<;>simp[Ieee.Datum.order]at h1 h2
 ·exfalso
  unfold Ieee.Format.order at h1 h2
  rw[hr]at h1
  simp[Ieee.Datum.order]at h1
def geB(x:Nat):Bool:=FloatKind.f64.format.order x 14114281232179134464==some .gt||FloatKind.f64.format.order x 14114281232179134464==some .eq
def ltB(x:Nat):Bool:=FloatKind.f64.format.order x 4890909195324358656==some .lt
def isW(x:Nat):Bool:=match Ieee.double.read x with
 |.number s m i=>decide (Fl.sc s m i=Fl.sg s (Fl.whole m i)*Fl.U)
 |_=>false
def fint(x:Nat):Int:=match Ieee.double.read x with
 |.number s m i=>Fl.sg s (Fl.whole m i)
 |_=>0
def wholeB(x:Nat):Bool:=geB x&&ltB x&&isW x
theorem isWhole_any(x:Nat)(w:World):
  Calls Tryz.prog 237 #[.float .f64 x] w fun e w'=>e=.returned (.bool (wholeB x))/\w'=w:=by
 by_cases h1:geB x=true
 ·by_cases h2:ltB x=true
  ·obtain⟨s,m,i,hr,hi,hi2,hm,_,_⟩:=fin_of h1 h2
   have hw:wholeB x=decide (Fl.sc s m i=Fl.sg s (Fl.whole m i)*Fl.U):=by
    unfold wholeB isW;rw[h1,h2,hr];simp
   have ho:=Fl.ord_trunc hr hi hi2 hm
   rw[<-hw]at ho
   have hto:(FloatKind.f64.format.order x (Ieee.double.nearest s (Fl.whole m i) 0)==some .eq)=wholeB x:=ho
   have H:Hid ((FloatKind.f64.format.order x (Ieee.double.nearest s (Fl.whole m i) 0)==some .eq)=wholeB x):=hto
   have HR:Hid (Ieee.double.read x=.number s m i):=hr
   have g1:(FloatKind.f64.format.order x 14114281232179134464==some .gt||FloatKind.f64.format.order x 14114281232179134464==some .eq)=true:=h1
   have g2:(FloatKind.f64.format.order x 4890909195324358656==some .lt)=true:=h2
   clear hw ho hto hr h1 h2 hi hi2 hm
   go_enter Tryz.func237,Tryz.ntmps237
   go_wp2_with (go_at_call 264;refine(trunc_any x _ s m i HR.out).mono ?_;rintro e w' ⟨rfl,rfl⟩)
   all_goals
    go_ret
    exact⟨by rw[<-H.out];simp,rfl⟩
  ·have g1:(FloatKind.f64.format.order x 14114281232179134464==some .gt||FloatKind.f64.format.order x 14114281232179134464==some .eq)=true:=h1
   have g2:(FloatKind.f64.format.order x 4890909195324358656==some .lt)=false:=(by simpa using h2:ltB x=false)
   have hw:wholeB x=false:=by unfold wholeB;simp at h2;rw[h1,h2];simp
   rw[hw]
   clear h1 h2 hw
   go_enter Tryz.func237,Tryz.ntmps237
   go_wp2
   all_goals
    go_ret
    exact⟨rfl,rfl⟩
 ·have g1:(FloatKind.f64.format.order x 14114281232179134464==some .gt||FloatKind.f64.format.order x 14114281232179134464==some .eq)=false:=(by simpa using h1:geB x=false)
  have hw:wholeB x=false:=by unfold wholeB;simp at h1;rw[h1];simp
  rw[hw]
  clear h1 hw
  go_enter Tryz.func237,Tryz.ntmps237
  go_wp2
  all_goals
   go_ret
   exact⟨rfl,rfl⟩
end
section
open Go.RowKit
attribute [local go_sem] run_store_float run_equalIn_float
def asIs(x:Nat):Bool:=fnan x||fz x||(FloatKind.f64.format.order x 4890909195324358656==some .gt||FloatKind.f64.format.order x 4890909195324358656==some .eq)||(FloatKind.f64.format.order x 14114281232179134464==some .lt||FloatKind.f64.format.order x 14114281232179134464==some .eq)
theorem asIs_whole{x:Nat}(h:asIs x=true)(hn:fnan x=false)(h1:geB x=true)(h2:ltB x=true):isW x=true:=by
 obtain⟨s,m,i,hr,hi,hi2,hm,hlo,hhi⟩:=fin_of h1 h2
 have hw:isW x=decide (Fl.sc s m i=Fl.sg s (Fl.whole m i)*Fl.U):=by unfold isW;rw[hr]
 rw[hw]
 have hb:=Fl.whole_bounds m i hi
 have hu:=Fl.U_pos
 unfold asIs at h
 rw[hn]at h
 have e1:fz x=decide (Fl.sc s m i=0):=by
  show(Ieee.double.order x 0==some .eq)=_
  rw[Fl.ord_of hr Fl.read_nil hi (by omega),Fl.cmp_eq,Fl.sc_zero]
 have e2:(FloatKind.f64.format.order x 4890909195324358656==some .gt||FloatKind.f64.format.order x 4890909195324358656==some .eq)=false:=by
  show(Ieee.double.order x 4890909195324358656==some .gt||Ieee.double.order x 4890909195324358656==some .eq)=false
  rw[Fl.ord_of hr Fl.read_c63 hi (by omega),Fl.sc_c63,Fl.cmp_gt,Fl.cmp_eq]
  simp;omega
 have e3:(FloatKind.f64.format.order x 14114281232179134464==some .lt||FloatKind.f64.format.order x 14114281232179134464==some .eq)=decide (Fl.sc s m i=-(9223372036854775808*Fl.U)):=by
  show(Ieee.double.order x 14114281232179134464==some .lt||Ieee.double.order x 14114281232179134464==some .eq)=_
  rw[Fl.ord_of hr Fl.read_m63 hi (by omega),Fl.sc_m63,Fl.cmp_lt,Fl.cmp_eq]
  have:¬Fl.sc s m i< -(9223372036854775808*Fl.U):=by omega
  simp[this]
 rw[e1,e2,e3]at h
 simp at h
 have hk:(Fl.whole m i:Int)=0\/(s=true/\(Fl.whole m i:Int)=9223372036854775808):=by
  rcases h with h|h
  ·left
   have h0:Fl.sc false m i=0:=by
    cases s
    ·exact h
    ·rw[Fl.sc_neg]at h;omega
   rw[h0]at hb
   have:=Int.le_of_mul_le_mul_right (show(Fl.whole m i:Int)*Fl.U<=0*Fl.U from by omega) hu
   omega
  ·right
   have hs:s=true:=by
    cases s
    ·exfalso
     have h0:0<=(Fl.whole m i:Int)*Fl.U:=Int.mul_nonneg (by omega) (by omega)
     omega
    ·rfl
   subst hs
   rw[Fl.sc_neg]at h
   have h0:Fl.sc false m i=9223372036854775808*Fl.U:=by omega
   rw[h0]at hb
   have h3:=Int.lt_of_mul_lt_mul_right hb.2 (by omega)
   have h4:=Int.le_of_mul_le_mul_right hb.1 hu
   exact⟨rfl,by omega⟩
 rcases h with h|h
 ·have:(Fl.whole m i:Int)=0:=by
   rcases hk with k|⟨k1,k2⟩
   ·exact k
   ·exfalso;subst k1;rw[Fl.sc_neg]at h;rw[k2]at hb;omega
  have e0:Fl.whole m i=0:=by omega
  rw[h,e0];cases s<;>simp[Fl.sg]
 ·rcases hk with k|⟨k1,k2⟩
  ·exfalso
   rw[k]at hb
   have:Fl.sc false m i<Fl.U:=by simpa using hb.2
   cases s
   ·omega
   ·rw[Fl.sc_neg]at h;omega
  ·subst k1
   have e0:Fl.whole m i=9223372036854775808:=by omega
   rw[h,e0];simp[Fl.sg,Int.neg_mul]
end
section
open Go.RowKit
attribute [local go_sem] run_store_float run_equalIn_float
theorem below_set6{B:Nat}{a w:World}(h:Below B a w)(b:Nat)(hb:B<=b)(v0 v1 v2 v3 v4 v5:Value):
  Below B a ((((((w.setCell ⟨b,0,none⟩ v0).setCell ⟨b,1,none⟩ v1).setCell ⟨b,2,none⟩ v2).setCell ⟨b,3,none⟩ v3).setCell ⟨b,4,none⟩ v4).setCell ⟨b,5,none⟩ v5):=
 (((((h.setCell (p:=⟨b,0,none⟩) hb v0).setCell (p:=⟨b,1,none⟩) hb v1).setCell (p:=⟨b,2,none⟩) hb v2).setCell (p:=⟨b,3,none⟩) hb v3).setCell (p:=⟨b,4,none⟩) hb v4).setCell (p:=⟨b,5,none⟩) hb v5
theorem below_drewN'{B:Nat}{a w:World}(h:Below B a w)(n:Nat):Below B a (w.drewN n):=⟨h.os,h.tape,h.output,h.size,h.block⟩
theorem two_then{B:Nat}{w w1:World}{o1 o2:Obj}(hB:B<=w.heap.size)(hb:Below ((w.alloc o1).alloc o2).heap.size ((w.alloc o1).alloc o2) w1):Below B w w1:=
 (((Below.refl B w).alloc hB o1).alloc (by simp;omega) o2).trans (hb.mono (by simp;omega))
def keyV(kind num:Int)(flt:Nat)(s:ByteArray)(ref:Int):Value:=
 if validB kind num flt s ref=true then
  if kind=0 then KV 1 0 0 0 ⟨#[]⟩ 0
  else if kind=3 then
   if fnan flt=true then KV 1 0 0 0 ⟨#[]⟩ 0
   else if wholeB flt=true then KV 0 2 (fint flt) 0 ⟨#[]⟩ 0
   else KV 0 kind num flt s ref
  else KV 0 kind num flt s ref
 else KV 2 0 0 0 ⟨#[]⟩ 0
end
section
open Go.RowKit
attribute [local go_sem] run_store_float run_equalIn_float
theorem fint_conv{x:Nat}(h1:geB x=true)(h2:ltB x=true)(w:World):
  (convert 29 2 (.float .f64 x)).run Tryz.prog w=.ok (.int .i64 (fint x)) w:=by
 obtain⟨s,m,i,hr,hi,hi2,hm,hlo,hhi⟩:=fin_of h1 h2
 have e:fint x=Fl.sg s (Fl.whole m i):=by unfold fint;rw[hr]
 rw[e]
 exact run_convert_float_int w 29 2 .f64 .i64 x _ (by kernel_rfl) Tryz.underlying2 (Fl.toIntVal hr hi hlo hhi)
end
end Go.Proofs.YtgmlkfgfjjggnaaGreatDoor
