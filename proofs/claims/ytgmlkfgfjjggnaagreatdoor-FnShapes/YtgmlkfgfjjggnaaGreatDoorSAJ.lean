import Derived.Lib.ItoaLen
import Derived.Test.YtgmlkfgfjjggnaaGreatDoorSAI
import Derived.Laws.IdiomStrings
import Derived.Test.YtgmlkfgfjjggnaaGreatDoorSAA
import Derived.Test.YtgmlkfgfjjggnaaGreatDoorSAB
import Derived.Below
import Derived.ProofKit
import Derived.OpenShut
import Derived.ShutString
import Derived.ChangeOld
import Derived.Deep.DeepHandedRow
import Derived.Lib.LaidTab
import Derived.LaidSub
import Derived.Deep.Slices
import Derived.ChangeSame
import Derived.Test.YtgmlkfgfjjggnaaGreatDoorRows
import Derived.Test.YtgmlkfgfjjggnaaGreatDoorSAC
import Derived.Test.YtgmlkfgfjjggnaaGreatDoorSAD
import Derived.Maps.Own
import Derived.Maps.OwnSet
import Derived.Maps.Views
import Derived.DeepKeys4
import Derived.BigQuiet
import Derived.RegionTactic
import Derived.ChangeAlike
set_option linter.unusedVariables false
set_option linter.unusedSimpArgs false
set_option maxHeartbeats 40000000
set_option maxRecDepth 100000
namespace Go.Proofs.YtgmlkfgfjjggnaaGreatDoor
section
open Go.RowKit
def ftext(s:Bool)(M:Nat)(E:Int):List UInt8:=Lib.itoa (Fl.sg s M)++[112]++Lib.itoa E
theorem ftext_core(x z2 r u t:Nat)(ex a b:Int)(w:World)(hT:Tabs w)
  (h1:(FloatKind.f64.format.order x 9218868437227405311==some .gt)=false) (h2:(FloatKind.f64.format.order (Op.negFloat .f64 x) 9218868437227405311==some .gt)=false)
  (hF:∀w:World,Calls Tryz.prog 286 #[.float .f64 x] w fun e w'=>e=.returned (.tuple #[.float .f64 z2,.int .i64 ex])/\w'=w)
  (hm:floatBits .mul .f64 z2 4845873199050653696=some r) (hc:floatToIntVal .f64 r .i64=some a)
  (hu:IntKind.u64.wrap a=(u:Int)) (hu0:u≠0) (hu1:u<18446744073709551616) (ht:Lib.ctz 64 u=t) (ht1:t<53) (hb:a/2^t=b)
  (hb1:-9007199254740992<b) (hb2:b<9007199254740992) (he1:-1200<ex) (he2:ex<1200):
  Calls Tryz.prog 272 #[.float .f64 x] w fun e w'=>e=.returned (.string ⟨(Lib.itoa b++[112]++Lib.itoa (ex-53+t)).toArray⟩)/\Below w.heap.size w w':=by
 have HF:Hid (∀w:World,Calls Tryz.prog 286 #[.float .f64 x] w fun e w'=>e=.returned (.tuple #[.float .f64 z2,.int .i64 ex])/\w'=w):=hF
 have hr:∀w:World,(binOp .mul 29 (.float .f64 z2) (.float .f64 4845873199050653696)).run Tryz.prog w=.ok (.float .f64 r) w:=fun w=>run_float_arith w .mul 29 .f64 _ _ r hm
 have hcv:∀w:World,(convert 29 2 (.float .f64 r)).run Tryz.prog w=.ok (.int .i64 a) w:=fun w=>run_convert_float_int w 29 2 .f64 .i64 r _ (by kernel_rfl) Tryz.underlying2 hc
 have HT:Hid (Lib.ctz 64 u=t):=ht
 have H2:Hid ((FloatKind.f64.format.order (Op.negFloat .f64 x) 9218868437227405311==some .gt)=false):=h2
 have H1:Hid ((FloatKind.f64.format.order x 9218868437227405311==some .gt)=false):=h1
 clear hF hm hc ht h2 h1
 go_enter Tryz.func272,Tryz.ntmps272
 go_wp2_with fail
 refine(isInf_pos x _).mono ?_
 rintro e w1 ⟨rfl,rfl⟩
 rw[H1.out]
 go_wp2_with fail
 refine(isInf_neg x _).mono ?_
 rintro e w1 ⟨rfl,rfl⟩
 rw[H2.out]
 go_wp2_with fail
 refine(HF.out _).mono ?_
 rintro e w1 ⟨rfl,rfl⟩
 go_wp2_with fail
 refine(tz64_any u hu1 hu0 _ hT).mono ?_
 rintro e w1 ⟨rfl,rfl⟩
 rw[HT.out]
 go_wp2_with fail
 refine(Tryz.strconv_FormatInt_10 b (by omega) (by omega) _ hT.p10).mono ?_
 rintro e w2 ⟨rfl,kk,os,hw2⟩
 have hb2':Below w1.heap.size w1 w2:=by rw[hw2];exact Lib.below_grow _ _ (Nat.le_refl _) _ _
 clear hw2
 have hT2:=hT.below hb2' hT.sz
 have hl1:=Lib.itoa_length_le b (by omega) (by omega)
 have hl2:=Lib.itoa_length_le (ex-53+t) (by omega) (by omega)
 go_wp2_with fail
 refine(Tryz.strconv_Itoa (ex-53+t) (by omega) (by omega) _ hT2.p10).mono ?_
 rintro e w3 ⟨rfl,k3,os3,hw3⟩
 have hb3':Below w2.heap.size w2 w3:=by rw[hw3];exact Lib.below_grow _ _ (Nat.le_refl _) _ _
 clear hw3
 go_wp2_with fail
 go_ret
 exact⟨ret_str (by rw[ba_append,ba_append]),hb2'.trans (hb3'.mono hb2'.size)⟩
def OddF(m:Nat)(i:Int)(M:Nat)(E:Int):Prop:=∃a b:Nat,m*2^a=(2*M+1)*2^b/\E=i+b-a
theorem oddF_unique{m:Nat}{i:Int}{M M':Nat}{E E':Int}(h:OddF m i M E)(h':OddF m i M' E'):M=M'/\E=E':=by
 obtain⟨a,b,e1,rfl⟩:=h
 obtain⟨a',b',e2,rfl⟩:=h'
 have e:2^(b+a')*(2*M+1)=2^(b'+a)*(2*M'+1):=by
  rw[Nat.pow_add,Nat.pow_add,Nat.mul_comm (2^b),Nat.mul_assoc,Nat.mul_comm (2^b),<-e1,Nat.mul_comm (2^b'),Nat.mul_assoc,Nat.mul_comm (2^b'),<-e2]
  rw[Nat.mul_left_comm,Nat.mul_left_comm (2^a),Nat.mul_comm (2^a')]
 obtain⟨h1,h2⟩:=Fl.odd_unique _ _ _ _ e
 exact⟨h2,by omega⟩
theorem shift53(N c d:Nat)(h:d=52+c):N*4503599627370496*2^c=N*2^d:=by
 rw[h,Nat.pow_add,Fl.c52,Nat.mul_assoc]
theorem floatText_num(x:Nat)(hx:x<18446744073709551616)(s:Bool)(m:Nat)(i:Int)(hr:Ieee.double.read x=.number s m i)(hi:-1074<=i)(hi2:i<=971)(hm:m<2^53)(hm0:m≠0):
  ∃M E,OddF m i M E/\∀w:World,Tabs w->Calls Tryz.prog 272 #[.float .f64 x] w fun e w'=>e=.returned (.string ⟨(ftext s (2*M+1) E).toArray⟩)/\Below w.heap.size w w':=by
 obtain⟨ya,y,e0,z,z2,k,j,F⟩:=Fl.frexp_facts x hx s m i hr hm0
 have hN0:0<m*2^j:=by have:=F.lo;omega
 obtain⟨M,hM,ht⟩:=Fl.ctz_spec s (m*2^j) hN0 F.hi
 obtain⟨r,q,l,hmul,hrd,hl1,hl2,hv⟩:=Fl.mul_exact F.rd Fl.read_p53 (by have:=F.lo;omega) (by omega) (m*2^j) 0 F.hi (by omega) (by omega) (shift53 (m*2^j) _ _ (by decide))
 rw[Bool.xor_false]at hrd
 have hw:=Fl.whole_of q l (m*2^j) hl1 hv
 have hu:=Fl.U_pos
 have hsc:Fl.sc s q l=Fl.sg s (m*2^j)*Fl.U:=by rw[Fl.sc_of s q l (m*2^j) 0 hv,Fl.sc_whole]
 have hcv:floatToIntVal .f64 r .i64=some (Fl.sg s (m*2^j)):=by
  have h:=Fl.toIntVal hrd hl1 (by
   rw[hsc]
   have:-9223372036854775808<=Fl.sg s (m*2^j):=by have:=F.hi;cases s<;>simp only[Fl.sg,Bool.false_eq_true,if_false,if_true]<;>omega
   have:=Int.mul_le_mul_of_nonneg_right this (Int.le_of_lt hu)
   omega) (by
   rw[hsc]
   have:Fl.sg s (m*2^j)<9223372036854775808:=by have:=F.hi;cases s<;>simp only[Fl.sg,Bool.false_eq_true,if_false,if_true]<;>omega
   exact Int.mul_lt_mul_of_pos_right this hu)
  rw[hw]at h;exact h
 have hNs':=F.hi
 generalize hN:m*2^j=N at*
 generalize htt:Lib.ctz 64 (Fl.uw s N)=t at*
 have hNs:N<9007199254740992:=hNs'
 have hMb:2*M+1<9007199254740992:=by
  have:1*(2*M+1)<=2^t*(2*M+1):=Nat.mul_le_mul_right _ (Nat.two_pow_pos t)
  omega
 refine⟨M,i-j+t,⟨j,t,by rw[hN,hM,Nat.mul_comm],by omega⟩,fun w hT=>?_⟩
 have hex:=F.ex
 have he1:k+((e0:Int)-1023+1)-53+t=i-j+t:=by omega
 have c:=ftext_core x z2 r (Fl.uw s N) t (k+((e0:Int)-1023+1)) (Fl.sg s N) (Fl.sg s (2*M+1)) w hT
  (Fl.not_above hr hi hi2 hm)
  (Fl.not_above (x:=Op.negFloat .f64 x) (s:=!s) (m:=m) (i:=i) (by rw[Fl.read_neg x hx,hr];rfl) hi hi2 hm)
  (fun w=>frexp_pub hr hi hm0 F w) hmul hcv (Fl.uw_wrap s N hN0 hNs')
  (by unfold Fl.uw;split<;>omega) (by unfold Fl.uw;split<;>omega) htt (by omega)
  (by rw[hM];exact Fl.sg_shift s t M)
  (by cases s<;>simp only[Fl.sg,Bool.false_eq_true,if_false,if_true]<;>omega)
  (by cases s<;>simp only[Fl.sg,Bool.false_eq_true,if_false,if_true]<;>omega)
  (by have:=F.hk;have:=F.he0;omega) (by have:=F.hk2;have:=F.he0;omega)
 rw[he1]at c
 exact c
end
section
open Go.RowKit
def ftOf(x:Nat):List UInt8:=match Ieee.double.read x with
 |.infinity s=>(if s then[45]else[])++[105,110,102]
 |.number s m i=>ftext s (2*(m/2^Lib.ctz 64 m/2)+1) (i+Lib.ctz 64 m)
 |_=>[]
theorem oddF_ctz(m:Nat)(i:Int)(hm0:m≠0)(hm:m<2^53):OddF m i (m/2^Lib.ctz 64 m/2) (i+Lib.ctz 64 m):=by
 obtain⟨M,h1,_⟩:=Fl.ctz_spec false m (by omega) hm
 have e:Fl.uw false m=m:=rfl
 rw[e]at h1
 refine⟨0,Lib.ctz 64 m,?_,by omega⟩
 generalize Lib.ctz 64 m=t at h1
 have:m/2^t=2*M+1:=by rw[h1];exact Nat.mul_div_cancel_left _ (Nat.two_pow_pos t)
 rw[this,show 2*((2*M+1)/2)+1=2*M+1 from by omega,Nat.pow_zero,Nat.mul_one,Nat.mul_comm]
 exact h1
theorem itext_inf(x:Nat)(w:World)(h:(FloatKind.f64.format.order x 9218868437227405311==some .gt)=true):
  Calls Tryz.prog 272 #[.float .f64 x] w fun e w'=>e=.returned (.string ⟨#[105,110,102]⟩)/\w'=w:=by
 have H:Hid ((FloatKind.f64.format.order x 9218868437227405311==some .gt)=true):=h
 clear h
 go_enter Tryz.func272,Tryz.ntmps272
 go_wp2_with fail
 refine(isInf_pos x _).mono ?_
 rintro e w1 ⟨rfl,rfl⟩
 rw[H.out]
 go_wp2_with fail
 go_ret
 exact⟨rfl,rfl⟩
theorem itext_ninf(x:Nat)(w:World)(h:(FloatKind.f64.format.order x 9218868437227405311==some .gt)=false)(h2:(FloatKind.f64.format.order (Op.negFloat .f64 x) 9218868437227405311==some .gt)=true):
  Calls Tryz.prog 272 #[.float .f64 x] w fun e w'=>e=.returned (.string ⟨#[45,105,110,102]⟩)/\w'=w:=by
 have H:Hid ((FloatKind.f64.format.order x 9218868437227405311==some .gt)=false):=h
 have H2:Hid ((FloatKind.f64.format.order (Op.negFloat .f64 x) 9218868437227405311==some .gt)=true):=h2
 clear h h2
 go_enter Tryz.func272,Tryz.ntmps272
 go_wp2_with fail
 refine(isInf_pos x _).mono ?_
 rintro e w1 ⟨rfl,rfl⟩
 rw[H.out]
 go_wp2_with fail
 refine(isInf_neg x _).mono ?_
 rintro e w1 ⟨rfl,rfl⟩
 rw[H2.out]
 go_wp2_with fail
 go_ret
 exact⟨rfl,rfl⟩
end
section
open Go.RowKit
theorem num_ne{x:Nat}{s:Bool}{m:Nat}{i:Int}(hr:Ieee.double.read x=.number s m i)(hi:-1074<=i)(hz:fz x=false):m≠0:=by
 intro e;subst e
 have h:(Ieee.double.order x 0==some .eq)=false:=hz
 rw[Fl.ord_of hr Fl.read_nil hi (by omega),Fl.cmp_eq,Fl.sc_zero,Fl.sc_zero]at h
 simp at h
theorem itext_any(x:Nat)(hx:x<18446744073709551616)(hn:fnan x=false)(hz:fz x=false)(w:World)(hT:Tabs w):
  Calls Tryz.prog 272 #[.float .f64 x] w fun e w'=>e=.returned (.string ⟨(ftOf x).toArray⟩)/\Below w.heap.size w w':=by
 rcases Fl.read_cases x with⟨s,m,i,hr,hi,hi2,hm,_⟩|⟨s,hr⟩|⟨s,t,hr⟩
 ·have hm0:=num_ne hr hi hz
  obtain⟨M,E,hO,hc⟩:=floatText_num x hx s m i hr hi hi2 hm hm0
  obtain⟨e1,e2⟩:=oddF_unique hO (oddF_ctz m i hm0 hm)
  have e:ftOf x=ftext s (2*M+1) E:=by unfold ftOf;rw[hr,e1,e2]
  rw[e];exact hc w hT
 ·cases s
  ·have e:ftOf x=[105,110,102]:=by unfold ftOf;rw[hr];rfl
   rw[e]
   exact(itext_inf x w (Fl.inf_above hr)).mono fun e w' ⟨h1,h2⟩=>⟨h1,h2▸Below.refl _ _⟩
  ·have e:ftOf x=[45,105,110,102]:=by unfold ftOf;rw[hr];rfl
   rw[e]
   exact(itext_ninf x w (Fl.ninf_above hr) (Fl.inf_above (by rw[Fl.read_neg x hx,hr];rfl))).mono fun e w' ⟨h1,h2⟩=>⟨h1,h2▸Below.refl _ _⟩
 ·exfalso
  have h:(!(Ieee.double.order x x==some .eq))=false:=hn
  unfold Ieee.Format.order at h
  rw[hr]at h
  simp[Ieee.Datum.order]at h
theorem ctz_le(x:Nat)(h0:x≠0)(h:x<2^53):Lib.ctz 64 x<=53:=by
 obtain⟨M,_,h2⟩:=Fl.ctz_spec false x (by omega) h
 have:Fl.uw false x=x:=rfl
 rw[this]at h2
 omega
theorem ftOf_len(x:Nat)(hn:fnan x=false)(hz:fz x=false):(ftOf x).length<=60:=by
 rcases Fl.read_cases x with⟨s,m,i,hr,hi,hi2,hm,_⟩|⟨s,hr⟩|⟨s,t,hr⟩
 ·have hm0:=num_ne hr hi hz
  have hc:=ctz_le m hm0 hm
  unfold ftOf;rw[hr]
  unfold ftext
  have hM:m/2^Lib.ctz 64 m/2<=m:=Nat.le_trans (Nat.div_le_self _ _) (Nat.div_le_self _ _)
  have h1:=Lib.itoa_length_le (Fl.sg s (2*(m/2^Lib.ctz 64 m/2)+1)) (by cases s<;>simp only[Fl.sg,Bool.false_eq_true,if_false,if_true]<;>omega) (by cases s<;>simp only[Fl.sg,Bool.false_eq_true,if_false,if_true]<;>omega)
  have h2:=Lib.itoa_length_le (i+Lib.ctz 64 m) (by omega) (by omega)
  simp only[List.length_append,List.length_cons,List.length_nil]
  omega
 ·unfold ftOf;rw[hr];cases s<;>decide
 ·unfold ftOf;rw[hr];exact Nat.zero_le _
def hashI(kind num:Int)(flt:Nat)(s:ByteArray)(ref:Int):Int:=
 if kind=4 then fnv s.data.toList
 else if kind=3 then fnv (ftOf flt)
 else if kind=2 then mixI (IntKind.u64.wrap num)
 else mixI (IntKind.u64.wrap (IntKind.u64.wrap (kind*1099511627776+IntKind.u64.wrap num)+IntKind.u64.wrap ref))
structure HK (kind:Int) (flt:Nat) (s:ByteArray):Prop where
 str:s.size<=maxLen
 klo:0<=kind
 khi:kind<=8
 flt:kind=3->flt<18446744073709551616/\fnan flt=false/\fz flt=false
theorem hashKey_any(kind num:Int)(flt:Nat)(s:ByteArray)(ref:Int)(w:World)(h:HK kind flt s)(hT:Tabs w):
  Calls Tryz.prog 247 #[V kind num flt s ref] w fun e w'=>e=.returned (.int .u64 (hashI kind num flt s ref))/\Below w.heap.size w w':=by
 have hs:=h.str
 have hk1:=h.klo
 have hk2:=h.khi
 by_cases k4:kind=4
 ·subst k4
  have e:hashI 4 num flt s ref=fnv s.data.toList:=by unfold hashI;rw[if_pos rfl]
  rw[e]
  clear e hk1 hk2
  go_enter Tryz.func247,Tryz.ntmps247
  go_wp2_with (go_at_call 271;refine(hashText_any s _ hs).mono ?_;rintro e w1 ⟨rfl,rfl⟩)
  go_ret
  exact⟨rfl,(Below.refl _ _).alloc (Nat.le_refl _) _⟩
 have b4:(kind==4)=false:=by simp[k4]
 by_cases k3:kind=3
 ·subst k3
  obtain⟨f1,f2,f3⟩:=h.flt rfl
  have e:hashI 3 num flt s ref=fnv (ftOf flt):=by unfold hashI;rw[if_neg (by decide),if_pos rfl]
  rw[e]
  have hl:=ftOf_len flt f2 f3
  have HT:Hid (Tabs w):=hT
  clear e hk1 hk2 b4 k4
  go_enter Tryz.func247,Tryz.ntmps247
  go_wp2_with fail
  refine(itext_any flt f1 f2 f3 _ (HT.out.below ((Below.refl _ _).alloc (Nat.le_refl _) _) HT.out.sz)).mono ?_
  rintro e w1 ⟨rfl,hb⟩
  go_wp2_with fail
  refine(hashText_any ⟨(ftOf flt).toArray⟩ _ (by unfold maxLen;rw[show(ByteArray.mk (ftOf flt).toArray).size=(ftOf flt).length from by simp[ByteArray.size]];omega)).mono ?_
  rintro e w2 ⟨rfl,rfl⟩
  go_wp2_with fail
  go_ret
  exact⟨by simp,((Below.refl _ _).alloc (Nat.le_refl _) _).trans (hb.mono (by simp))⟩
 have b3:(kind==3)=false:=by simp[k3]
 by_cases k2:kind=2
 ·subst k2
  have e:hashI 2 num flt s ref=mixI (IntKind.u64.wrap num):=by unfold hashI;rw[if_neg (by decide),if_neg (by decide),if_pos rfl]
  rw[e]
  have hr:=wrap_u64_range num
  clear e hk1 hk2 b4 k4 b3 k3
  go_enter Tryz.func247,Tryz.ntmps247
  go_wp2_with (go_at_call 273;refine(mix_any _ _ hr.1 hr.2).mono ?_;rintro e w1 ⟨rfl,rfl⟩)
  go_ret
  exact⟨rfl,(Below.refl _ _).alloc (Nat.le_refl _) _⟩
 have b2:(kind==2)=false:=by simp[k2]
 have e:hashI kind num flt s ref=mixI (IntKind.u64.wrap (IntKind.u64.wrap (kind*1099511627776+IntKind.u64.wrap num)+IntKind.u64.wrap ref)):=by unfold hashI;rw[if_neg k4,if_neg k3,if_neg k2]
 rw[e]
 clear e k4 k3 k2
 go_enter Tryz.func247,Tryz.ntmps247
 have hr:=wrap_u64_range (IntKind.u64.wrap (kind*1099511627776+IntKind.u64.wrap num)+IntKind.u64.wrap ref)
 go_wp2_with (go_at_call 273;refine(mix_any _ _ hr.1 hr.2).mono ?_;rintro e w1 ⟨rfl,rfl⟩)
 go_ret
 exact⟨rfl,(Below.refl _ _).alloc (Nat.le_refl _) _⟩
end
section
open Go.RowKit
attribute [local go_sem] run_store_float run_equalIn_float
theorem fz_whole{x:Nat}(h:fz x=true):wholeB x=true:=by
 have h':(Ieee.double.order x 0==some .eq)=true:=h
 rcases Fl.read_cases x with⟨s,m,i,hr,hi,hi2,hm,_⟩|⟨s,hr⟩|⟨s,t,hr⟩
 ·rw[Fl.ord_of hr Fl.read_nil hi (by omega),Fl.cmp_eq,Fl.sc_zero]at h'
  have h0:Fl.sc s m i=0:=by simpa using h'
  have hu:=Fl.U_pos
  have g:geB x=true:=by
   show(Ieee.double.order x 14114281232179134464==some .gt||Ieee.double.order x 14114281232179134464==some .eq)=true
   rw[Fl.ord_of hr Fl.read_m63 hi (by omega),Fl.sc_m63,Fl.cmp_gt,Fl.cmp_eq,h0]
   simp only[Bool.or_eq_true,decide_eq_true_eq];left;omega
  have l:ltB x=true:=by
   show(Ieee.double.order x 4890909195324358656==some .lt)=true
   rw[Fl.ord_of hr Fl.read_c63 hi (by omega),Fl.sc_c63,Fl.cmp_lt,h0]
   simp only[decide_eq_true_eq];omega
  have hn:fnan x=false:=by
   show(!(Ieee.double.order x x==some .eq))=false
   rw[Fl.ord_of hr hr hi hi,Fl.cmp_eq];simp
  have ha:asIs x=true:=by unfold asIs;rw[h];simp
  unfold wholeB
  rw[g,l,asIs_whole ha hn g l];rfl
 ·exfalso
  unfold Ieee.Format.order at h'
  rw[hr,Fl.read_nil]at h'
  cases s<;>simp[Ieee.Datum.order]at h'
 ·exfalso
  unfold Ieee.Format.order at h'
  rw[hr]at h'
  simp[Ieee.Datum.order]at h'
theorem valid_kind{kind num:Int}{flt:Nat}{s:ByteArray}{ref:Int}(h:validB kind num flt s ref=true):0<=kind/\kind<=8:=by
 unfold validB at h
 by_cases k0:kind=0
 ·omega
 by_cases k1:kind=1
 ·omega
 by_cases k2:kind=2
 ·omega
 by_cases k3:kind=3
 ·omega
 by_cases k4:kind=4
 ·omega
 by_cases k5:kind=5
 ·omega
 by_cases k6:kind=6
 ·omega
 by_cases k7:kind=7
 ·omega
 by_cases k8:kind=8
 ·omega
 exfalso
 simp[k0,k1,k2,k3,k4,k5,k6,k7,k8]at h
end
section
open Go.RowKit
theorem hashI_range(k n:Int)(f:Nat)(s:ByteArray)(r:Int):0<=hashI k n f s r/\hashI k n f s r<18446744073709551616:=by
 unfold hashI
 split
 ·exact fnv_range _
 ·split
  ·exact fnv_range _
  ·split
   ·exact mixI_range _
   ·exact mixI_range _
def hN(v:Vl):Nat:=(hashI v.kind v.num v.flt v.str v.ref).toNat
theorem hN_eq(v:Vl):((hN v:Nat):Int)=hashI v.kind v.num v.flt v.str v.ref:=by
 have:=hashI_range v.kind v.num v.flt v.str v.ref
 unfold hN
 omega
structure Wf (v:Vl):Prop where
 flt:v.flt<18446744073709551616
 str:v.str.size<=maxLen
theorem hk_of{v:Vl}(h:keyB v=true)(hw:Wf v):HK v.kind v.flt v.str:=by
 unfold keyB Vl.ok at h
 simp only[Bool.and_eq_true,bne_iff_ne,ne_eq,Bool.not_eq_true',Bool.and_eq_false_iff,Bool.or_eq_false_iff,beq_eq_false_iff_ne]at h
 obtain⟨⟨hv,h0⟩,h3⟩:=h
 have hk:=valid_kind hv
 refine⟨hw.str,hk.1,hk.2,fun e=>?_⟩
 rcases h3 with h3|h3
 ·exact absurd e h3
 ·refine⟨hw.flt,h3.1,?_⟩
  rw[Bool.eq_false_iff]
  intro hz
  rw[fz_whole hz]at h3
  exact absurd h3.2 (by decide)
theorem hsI{v:Vl}(h:keyB v=true)(hw:Wf v):HsI Tabs v (hN v):=
 ⟨by have:=hashI_range v.kind v.num v.flt v.str v.ref;have:=hN_eq v;omega,fun w hT=>by rw[hN_eq];exact hashKey_any v.kind v.num v.flt v.str v.ref w (hk_of h hw) hT⟩
theorem lastsT:Lasts Tabs:=fun w w' hT hb=>hT.below hb hT.sz
def WfD(d:Dc):Prop:=∀i,i<d.n->Wf (d.L i).key/\Wf (d.L i).val
def hD(d:Dc)(i:Nat):Nat:=hN (d.L i).key
theorem implOk(la:Option Addr)(lc:Nat)(ia:Option Addr)(ic:Nat)(xa:Option Addr)(xc:Nat)(d:Dc)(w:World)(hT:Tabs w)(hA:DAt w la ia xa d)(hS:Small d)(hW:WfD d):
  Calls Tryz.prog 212 #[Dv la lc ia ic xa xc d] w fun e w'=>e=.returned (.int .i64 (dictOk d (hD d)))/\Below w.heap.size w w':=
 implDictOk Tabs lastsT la lc ia ic xa xc d (hD d) w hT hA hS (fun i hi hk=>hsI hk (hW i hi).1)
end
section
open Go.ChangeShapes Go.WideShapes Go.ChangeAt Go.RowKit
theorem own:ownKnob Tryz.prog.godebug=none:=by kernel_rfl
theorem laidOut:laidOutB Tryz.prog=true:=by kernel_rfl
def laid3:List (String×DataW Unit):=[("math/bits.deBruijn32tab",Rows.laid_math_bits_deBruijn32tab),("math/bits.deBruijn64tab",Rows.laid_math_bits_deBruijn64tab),("internal/strconv.uint64pow10",Rows.laid_internal_strconv_uint64pow10)]
def tab32:List Nat:=[0,1,28,2,29,14,24,3,30,22,20,15,25,17,4,8,31,27,13,23,21,19,16,7,26,12,18,6,11,5,10,9]
def setTab(cs:Array Value):Obj->Obj
 |.cells _ t frozen=>.cells cs t frozen
 |o=>o
def withTabs(w:World):World:=
 {w with heap:=((w.heap.modify 4 (setTab (tab32.map fun n:Nat=>Value.int .u8 (n:Int)).toArray)).modify 2 (setTab (Lib.deBruijn64tab.map fun n:Nat=>Value.int .u8 (n:Int)).toArray)).modify 3 (setTab (Lib.pow10Tab.map fun n=>Value.int .u64 n).toArray)}
theorem one64{W:World}(h:laidMetH Tryz.prog laid3 W):Lib.TabIs Tryz.prog W "math/bits.deBruijn64tab" .u8 (Lib.deBruijn64tab.map fun n:Nat=>(n:Int)):=by
 have h1:=laidMetH.filter (fun x=>x.1== "math/bits.deBruijn64tab") h
 have e:(laid3.filter fun x=>x.1== "math/bits.deBruijn64tab")=[("math/bits.deBruijn64tab",Lib.tabData .u8 (Lib.deBruijn64tab.map fun n:Nat=>(n:Int)))]:=by kernel_rfl
 rw[e]at h1
 exact Lib.tabIs_of_head (rest:=[]) (g:=2) (by kernel_rfl) (t:=384) (by kernel_rfl) Tryz.underlying384 Tryz.underlying5 (by kernel_rfl) (by kernel_rfl) h1
theorem one10{W:World}(h:laidMetH Tryz.prog laid3 W):Lib.TabIs Tryz.prog W "internal/strconv.uint64pow10" .u64 Lib.pow10Tab:=by
 have h1:=laidMetH.filter (fun x=>x.1== "internal/strconv.uint64pow10") h
 have e:(laid3.filter fun x=>x.1== "internal/strconv.uint64pow10")=[("internal/strconv.uint64pow10",Lib.tabData .u64 Lib.pow10Tab)]:=by kernel_rfl
 rw[e]at h1
 exact Lib.tabIs_of_head (rest:=[]) (g:=3) (by kernel_rfl) (t:=391) (by kernel_rfl) Tryz.underlying391 Tryz.underlying136 (by kernel_rfl) (by kernel_rfl) h1
theorem g64:Tryz.prog.globalNamed "math/bits.deBruijn64tab" =some 2:=by kernel_rfl
theorem g10:Tryz.prog.globalNamed "internal/strconv.uint64pow10" =some 3:=by kernel_rfl
theorem g32:Tryz.prog.globalNamed "math/bits.deBruijn32tab" =some 4:=by kernel_rfl
theorem one32{W:World}(h:laidMetH Tryz.prog laid3 W):Lib.TabIs Tryz.prog W "math/bits.deBruijn32tab" .u8 (tab32.map fun n:Nat=>(n:Int)):=by
 have h1:=laidMetH.filter (fun x=>x.1== "math/bits.deBruijn32tab") h
 have e:(laid3.filter fun x=>x.1== "math/bits.deBruijn32tab")=[("math/bits.deBruijn32tab",Lib.tabData .u8 (tab32.map fun n:Nat=>(n:Int)))]:=by kernel_rfl
 rw[e]at h1
 exact Lib.tabIs_of_head (rest:=[]) (g:=4) (by kernel_rfl) (t:=393) (by kernel_rfl) Tryz.underlying393 Tryz.underlying5 (by kernel_rfl) (by kernel_rfl) h1
theorem tabs_of{W:World}(h:laidMetH Tryz.prog laid3 W):Tabs W:=by
 have h64:=one64 h
 have h32:=one32 h
 refine⟨?_,one10 h,?_⟩
 ·intro j hj
  have:=h64.cell g64 j (by simpa using hj)
  rw[this]
  simp[List.getD,hj]
 ·have c1:=World.block_lt_of_cell? _ _ (h32.cell g32 0 (by decide))
  have c2:=World.block_lt_of_cell? _ _ (h64.cell g64 0 (by decide))
  have c3:=World.block_lt_of_cell? _ _ ((one10 h).cell g10 0 (by decide))
  simp only at c1 c2 c3
  omega
end
section
open Go.ChangeShapes Go.WideShapes Go.ChangeAt Go.RowKit Go.Deep
section
variable {H:Type} {enc:TypeId×Value->H} {P:Program} {w:World} {base:Nat} {spare:Nat->Bool} {held:Bool}
end
end
section
open Go.RowKit
def Rule1(n:Nat):Prop:=n≠0/\n<=200
def Rule2(f:Nat->Shp):Prop:=(f 0).parent=-1/\(f 0).key.toList=[]/\(f 0).count=0
def Ok3(f:Nat->Shp)(i:Nat):Prop:=0<=(f i).parent/\(f i).parent<i/\(f i).count=(f (f i).parent.toNat).count+1/\(f i).count<=12/\(f i).key.size<=4000
def Rule3(n:Nat)(f:Nat->Shp):Prop:=∀i,1<=i->i<n->Ok3 f i
def Twin(f:Nat->Shp)(k i:Nat):Prop:=(f k).parent=(f i).parent/\(f k).key.toList=(f i).key.toList
def Rule4(n:Nat)(f:Nat->Shp):Prop:=∀i k,1<=k->k<i->i<n->¬Twin f k i
def upI(f:Nat->Shp)(i:Nat):Nat->Int
 |0=>(f i).parent
 |t+1=>(f (upI f i t).toNat).parent
def Rule5(n:Nat)(f:Nat->Shp):Prop:=∀i t,1<=i->i<n->(∀s,s<=t->0<upI f i s)->(f (upI f i t).toNat).key.toList≠(f i).key.toList
open Classical in
noncomputable def forestOk(n:Nat)(f:Nat->Shp):Int:=
 if Rule1 n then if Rule2 f then if Rule3 n f then if Rule4 n f then if Rule5 n f then 0 else 5 else 4 else 3 else 2 else 1
theorem forestOk1{n:Nat}{f:Nat->Shp}(h:¬Rule1 n):forestOk n f=1:=if_neg h
theorem forestOk2{n:Nat}{f:Nat->Shp}(h1:Rule1 n)(h:¬Rule2 f):forestOk n f=2:=by unfold forestOk;rw[if_pos h1,if_neg h]
theorem forestOk3{n:Nat}{f:Nat->Shp}(h1:Rule1 n)(h2:Rule2 f)(h:¬Rule3 n f):forestOk n f=3:=by unfold forestOk;rw[if_pos h1,if_pos h2,if_neg h]
theorem forestOk4{n:Nat}{f:Nat->Shp}(h1:Rule1 n)(h2:Rule2 f)(h3:Rule3 n f)(h:¬Rule4 n f):forestOk n f=4:=by unfold forestOk;rw[if_pos h1,if_pos h2,if_pos h3,if_neg h]
theorem forestOk5{n:Nat}{f:Nat->Shp}(h1:Rule1 n)(h2:Rule2 f)(h3:Rule3 n f)(h4:Rule4 n f)(h:¬Rule5 n f):forestOk n f=5:=by unfold forestOk;rw[if_pos h1,if_pos h2,if_pos h3,if_pos h4,if_neg h]
theorem forestOk0{n:Nat}{f:Nat->Shp}(h1:Rule1 n)(h2:Rule2 f)(h3:Rule3 n f)(h4:Rule4 n f)(h:Rule5 n f):forestOk n f=0:=by unfold forestOk;rw[if_pos h1,if_pos h2,if_pos h3,if_pos h4,if_pos h]
theorem below_drewN{B:Nat}{a w:World}(h:Below B a w)(m:Nat):Below B a (w.drewN m):=⟨h.os,h.tape,h.output,h.size,h.block⟩
theorem count_bound{f:Nat->Shp}{k:Nat}(h2:Rule2 f)(h:∀j,1<=j->j<k->Ok3 f j):∀j,j<k->0<=(f j).count/\(f j).count<=12:=by
 intro j
 induction j using Nat.strongRecOn with
 |ind j ih=>
  intro hj
  by_cases h0:j=0
  ·subst h0;have:=h2.2.2;omega
  ·obtain⟨a,b,c,d,_⟩:=h j (by omega) hj
   have:=(ih (f j).parent.toNat (by omega) (by omega)).1
   omega
end
section
open Go.RowKit
def anc(f:Nat->Shp)(i:Nat):Nat->Nat
 |0=>i
 |t+1=>(f (anc f i t)).parent.toNat
def nf(f:Nat->Shp)(i:Nat):Nat:=(f i).count.toNat
def fld(f:Nat->Shp)(i j:Nat):ByteArray:=(f (anc f i (nf f i-1-j))).key
theorem count_pos{n:Nat}{f:Nat->Shp}(h2:Rule2 f)(h3:Rule3 n f){i:Nat}(hi:i<n)(h0:0<i):1<=(f i).count/\(f i).count<=12:=by
 obtain⟨a,b,c,d,_⟩:=h3 i h0 hi
 have:=(count_bound (k:=n) h2 (fun j h1 h2=>h3 j h1 h2) (f i).parent.toNat (by omega)).1
 omega
theorem anc_bound{n:Nat}{f:Nat->Shp}(h2:Rule2 f)(h3:Rule3 n f){i:Nat}(hi:i<n):∀t,t<=nf f i->anc f i t<n/\(f (anc f i t)).count=nf f i-t:=by
 intro t
 induction t with
 |zero=>
  intro _
  have:=(count_bound (k:=n) h2 (fun j h1 h2=>h3 j h1 h2) i hi).1
  exact⟨hi,by show(f i).count=_;unfold nf;omega⟩
 |succ t ih=>
  intro ht
  obtain⟨ha,hc⟩:=ih (by omega)
  have h0:0<anc f i t:=by
   rcases Nat.eq_zero_or_pos (anc f i t)with e|e
   ·rw[e,h2.2.2]at hc;omega
   ·exact e
  obtain⟨a,b,c,_⟩:=h3 _ h0 ha
  exact⟨by show(f (anc f i t)).parent.toNat<n;omega,by show(f (f (anc f i t)).parent.toNat).count=_;omega⟩
theorem infoStr:(Tryz.prog.info? 9).map (fun i=>(i.zero,i.size,i.bytes))=some (some (.string ⟨#[]⟩),1,16):=by kernel_rfl
def StRow(w:World)(b n:Nat)(g:Nat->ByteArray):Prop:=w.rowIs b 9 n (fun j=>.string (g j))
theorem forestOk_zero{n:Nat}{f:Nat->Shp}(h:forestOk n f=0):Rule1 n/\Rule2 f/\Rule3 n f/\Rule4 n f/\Rule5 n f:=by
 unfold forestOk at h
 split at h
 ·split at h
  ·split at h
   ·split at h
    ·split at h
     ·rename_i h1 h2 h3 h4 h5;exact⟨h1,h2,h3,h4,h5⟩
     ·omega
    ·omega
   ·omega
  ·omega
 ·omega
end
section
open Go.RowKit
open Go.Maps (Keyed)
def tokR(v:Value):Option (DataW Value×List MemPlace):=some (.held v,[])
def MapIs(P:Program)(K:TypeId)(w:World)(m n:Nat)(g:Value->Value):Prop:=
 ∃D,w.ownsMap P K tokR m n D/\∀key kl,keyOf P K key=some kl->D.atKey kl (.held (.pointer none))=.held (g key)
theorem MapIs.made(P:Program)(K:TypeId)(w:World):MapIs P K (w.alloc (.map #[] 0)) w.heap.size 0 (fun _=>.pointer none):=
 ⟨_,World.ownsMap_made w P K tokR,fun key kl h=>rfl⟩
theorem MapIs.isMap{P:Program}{K:TypeId}{w:World}{m n:Nat}{g:Value->Value}(h:MapIs P K w m n g):∃es c,w.heap[m]?=some (.map es c):=by
 obtain⟨D,⟨es,c,hb,_⟩,_⟩:=h
 exact⟨es,c,hb⟩
theorem MapIs.block{P:Program}{K:TypeId}{w w':World}{m n:Nat}{g:Value->Value}(h:MapIs P K w m n g)(e:w'.heap[m]?=w.heap[m]?):MapIs P K w' m n g:=by
 obtain⟨D,⟨es,c,hb,F,hs,hD⟩,hl⟩:=h
 exact⟨D,⟨es,c,e.trans hb,F,hs,hD⟩,hl⟩
theorem MapIs.mono{P:Program}{K:TypeId}{w:World}{m n n':Nat}{g:Value->Value}(h:MapIs P K w m n g)(hn:n<=n'):MapIs P K w m n' g:=by
 obtain⟨D,ho,hl⟩:=h
 exact⟨D,ho.mono hn,hl⟩
theorem MapIs.look{P:Program}{K t e:TypeId}{w:World}{m n:Nat}{g:Value->Value}(h:MapIs P K w m n g)(L:Keyed P K)(ht:P.underlying t=some (.map K e))(hz:(zeroValue e).run P w=.ok (.pointer none) w){key:Value}{kl:Lit}(hk:keyOf P K key=some kl):
  (Instr.lookup t (.map (some m)) key false).run P w=.ok (g key) w:=by
 obtain⟨D,ho,hl⟩:=h
 obtain⟨v,ps,hrun,hv⟩:=ho.lookup L ht hz (zd:=.held (.pointer none)) (zp:=[]) rfl hk
 rw[hl key kl hk]at hv
 unfold tokR at hv
 simp at hv
 rw[hrun,hv.1]
open Classical in
theorem MapIs.put{P:Program}{K t e:TypeId}{w:World}{m n:Nat}{g:Value->Value}(h:MapIs P K w m n g)(L:Keyed P K)(ht:P.underlying t=some (.map K e))(hn:n<maxLen){key:Value}(val:Value){kl:Lit}(hk:keyOf P K key=some kl):
  ∃w',(Instr.mapUpdate t (.map (some m)) key val).run P w=.ok () w'/\MapIs P K w' m (n+1) (fun k=>if k=key then val else g k)/\w.grownBy w' (some m):=by
 obtain⟨D,ho,hl⟩:=h
 obtain⟨w',hrun,ho',hg⟩:=ho.update L ht hn hk (val:=val) (d:=.held val) (ps:=[]) rfl
 refine⟨w',hrun,⟨_,ho',fun k' kl' hk'=>?_⟩,hg⟩
 by_cases e:k'=key
 ·subst e
  have:kl'=kl:=by rw[hk]at hk';exact(Option.some.inj hk').symm
  subst this
  show _=DataW.held (if k'=k' then val else g k')
  rw[if_pos rfl]
  exact Maps.atKey_put_same ho.isMap (L.key hk) _ _
 ·show _=DataW.held (if k'=key then val else g k')
  rw[if_neg e,Maps.atKey_put_other (fun e2=>e (L.inj hk' (by rw[e2];exact hk)))]
  exact hl k' kl' hk'
def nodeCell(i:Nat)(s:Shp)(par:Option Addr)(m:Option Nat):Nat->Value
 |0=>.int .i64 i
 |1=>.int .i64 s.parent
 |2=>.string s.key
 |3=>.int .i64 s.count
 |4=>.pointer par
 |_=>.map m
abbrev ShV(s:Shp):Value:=Sh s.parent s.key s.count
abbrev shPar(f:Nat->Shp)(i:Nat):Nat:=(f i).parent.toNat
theorem ShV_inj{a b:Shp}(h:ShV a=ShV b):a=b:=by
 cases a;cases b
 simp at h
 simp[h]
def Kids(f:Nat->Shp)(k:Nat)(B N:Nat->Nat)(i:Nat)(g:Value->Value):Prop:=
 ∀v,(∃j,0<j/\j<k/\N j=j/\N (shPar f j)=i/\v=ShV (f j)/\g v=.pointer (some ⟨B j,0,none⟩))\/
  (g v=.pointer none/\∀j,0<j->j<k->N j=j->N (shPar f j)=i->ShV (f j)≠v)
def parOf(f:Nat->Shp)(B:Nat->Nat)(i:Nat):Option Addr:=if i=0 then none else some ⟨B (shPar f i),0,none⟩
structure Nodes (P:Program) (K Tn:TypeId) (w:World) (f:Nat->Shp) (b0 k:Nat) (B N:Nat->Nat) (M:Nat->Option Nat):Prop where
 pos:0<k
 n0:N 0=0
 le:∀i,i<k->N i<=i
 own:∀i,i<k->N (N i)=N i
 same:∀i,i<k->f (N i)=f i
 one:∀i j,i<k->j<k->f i=f j->N i=N j
 blk:∀i,i<k->B (N i)=B i
 base:∀i,i<k->b0<=B i
 node:∀i,i<k->N i=i->w.rowIs (B i) Tn 6 (nodeCell i (f i) (parOf f B i) (M i))
 apart:∀i j,i<k->j<k->N i=i->N j=j->B i=B j->i=j
 mbase:∀i m,i<k->N i=i->M i=some m->b0<=m
 mapart:∀i j m,i<k->j<k->N i=i->N j=j->M i=some m->M j=some m->i=j
 bare:∀i,i<k->N i=i->M i=none->∀j,0<j->j<k->N j=j->N (shPar f j)≠i
 kids:∀i m,i<k->N i=i->M i=some m->∃g,MapIs P K w m k g/\Kids f k B N i g
def Nodal(Tn:TypeId)(w:World)(b:Nat):Prop:=(∃c,w.heap[b]?=some (.cells c Tn (0,0)))\/∃es c,w.heap[b]?=some (.map es c)
theorem Nodes.keep{P:Program}{K Tn:TypeId}{w w':World}{f:Nat->Shp}{b0 k:Nat}{B N:Nat->Nat}{M:Nat->Option Nat}(h:Nodes P K Tn w f b0 k B N M)(hk:∀b,Nodal Tn w b->w'.heap[b]?=w.heap[b]?):Nodes P K Tn w' f b0 k B N M:=
 {h with
  node:=fun i hi hn=>(h.node i hi hn).of_block (hk _ (by obtain⟨c,hb,_⟩:=h.node i hi hn;exact .inl ⟨c,hb⟩))
  kids:=fun i m hi hn hm=>by
   obtain⟨g,hg,hK⟩:=h.kids i m hi hn hm
   exact⟨g,hg.block (hk _ (.inr hg.isMap)),hK⟩}
structure Grown (Tn:TypeId) (b0:Nat) (w w':World):Prop where
 os:w'.os=w.os
 tape:w'.tape=w.tape
 output:w'.output=w.output
 size:w.heap.size<=w'.heap.size
 block:∀b,b<w.heap.size->b<b0\/¬Nodal Tn w b->w'.heap[b]?=w.heap[b]?
theorem Nodes.found{P:Program}{K Tn:TypeId}{w:World}{f:Nat->Shp}{b0 k:Nat}{B N:Nat->Nat}{M:Nat->Option Nat}(h:Nodes P K Tn w f b0 k B N M){j:Nat}(hj:j<k)(hp:shPar f k<k)(hNj:N j=j)(hs:f j=f k)
  (hpp:∀i,0<i->i<k->shPar f i<i):
  Nodes P K Tn w f b0 (k+1) (fun i=>if i=k then B j else B i) (fun i=>if i=k then j else N i) M:=by
 have nB:∀i,i<k->(if i=k then B j else B i)=B i:=fun i hi=>if_neg (by omega)
 have nN:∀i,i<k->(if i=k then j else N i)=N i:=fun i hi=>if_neg (by omega)
 have own':∀i,i<k+1->(if i=k then j else N i)=i->i<k/\N i=i:=fun i hi e=>by
  by_cases e2:i=k
  ·rw[if_pos e2]at e;omega
  ·rw[if_neg e2]at e;exact⟨by omega,e⟩
 have hpar:∀i,i<k->parOf f (fun i=>if i=k then B j else B i) i=parOf f B i:=fun i hi=>by
  unfold parOf
  by_cases e:i=0
  ·simp[e]
  ·have:=hpp i (by omega) hi
   simp only[e,if_false]
   rw[if_neg (by omega)]
 constructor
 ·exact Nat.succ_pos _
 ·show(if 0=k then j else N 0)=0
  rw[nN 0 h.pos];exact h.n0
 ·intro i hi
  show(if i=k then j else N i)<=i
  split
  ·omega
  ·exact h.le i (by omega)
 ·intro i hi
  show(if(if i=k then j else N i)=k then j else N (if i=k then j else N i))=(if i=k then j else N i)
  by_cases e:i=k
  ·rw[if_pos e,if_neg (by omega)];exact hNj
  ·rw[if_neg e,if_neg (by have:=h.le i (by omega);omega)];exact h.own i (by omega)
 ·intro i hi
  show f (if i=k then j else N i)=f i
  by_cases e:i=k
  ·rw[if_pos e,e];exact hs
  ·rw[if_neg e];exact h.same i (by omega)
 ·intro i l hi hl e
  show(if i=k then j else N i)=(if l=k then j else N l)
  by_cases e1:i=k
  ·by_cases e2:l=k
   ·rw[if_pos e1,if_pos e2]
   ·rw[if_pos e1,if_neg e2,<-hNj];exact h.one _ _ hj (by omega) (by rw[hs,<-e1];exact e)
  ·by_cases e2:l=k
   ·rw[if_neg e1,if_pos e2,<-hNj];exact h.one _ _ (by omega) hj (by rw[hs,<-e2];exact e)
   ·rw[if_neg e1,if_neg e2];exact h.one _ _ (by omega) (by omega) e
 ·intro i hi
  show(if(if i=k then j else N i)=k then B j else B (if i=k then j else N i))=(if i=k then B j else B i)
  by_cases e:i=k
  ·rw[if_pos e,if_neg (by omega),if_pos e]
  ·rw[if_neg e,if_neg (by have:=h.le i (by omega);omega),if_neg e];exact h.blk i (by omega)
 ·intro i hi
  show b0<=(if i=k then B j else B i)
  split
  ·exact h.base j hj
  ·exact h.base i (by omega)
 ·intro i hi hn
  obtain⟨h1,h2⟩:=own' i hi hn
  show w.rowIs (if i=k then B j else B i) Tn 6 _
  rw[hpar i h1,nB i h1]
  exact h.node i h1 h2
 ·intro i l hi hl hn hm e
  obtain⟨h1,h2⟩:=own' i hi hn
  obtain⟨h3,h4⟩:=own' l hl hm
  have e:(if i=k then B j else B i)=(if l=k then B j else B l):=e
  rw[nB i h1,nB l h3]at e
  exact h.apart i l h1 h3 h2 h4 e
 ·intro i m hi hn hm
  obtain⟨h1,h2⟩:=own' i hi hn
  exact h.mbase i m h1 h2 hm
 ·intro i l m hi hl hn hm e1 e2
  obtain⟨h1,h2⟩:=own' i hi hn
  obtain⟨h3,h4⟩:=own' l hl hm
  exact h.mapart i l m h1 h3 h2 h4 e1 e2
 ·intro i hi hn hm l h0 hl hnl
  obtain⟨h1,h2⟩:=own' i hi hn
  obtain⟨h3,h4⟩:=own' l hl hnl
  show(if shPar f l=k then j else N (shPar f l))≠i
  have:=hpp l h0 h3
  rw[nN _ (by omega)]
  exact h.bare i h1 h2 hm l h0 h3 h4
 ·intro i m hi hn hm
  obtain⟨h1,h2⟩:=own' i hi hn
  obtain⟨g,hg,hK⟩:=h.kids i m h1 h2 hm
  refine⟨g,hg.mono (Nat.le_succ _),fun v=>?_⟩
  rcases hK v with⟨l,a1,a2,a3,a4,a5,a6⟩|⟨a1,a2⟩
  ·have:=hpp l a1 a2
   exact .inl ⟨l,a1,by omega,by show(if l=k then j else N l)=l;rw[nN l a2];exact a3,by show(if shPar f l=k then j else N (shPar f l))=i;rw[nN _ (by omega)];exact a4,a5,by show _=Value.pointer (some ⟨if l=k then B j else B l,0,none⟩);rw[nB l a2];exact a6⟩
  ·refine .inr ⟨a1,fun l b1 b2 b3 b4=>?_⟩
   obtain⟨h3,h4⟩:=own' l b2 b3
   have:=hpp l b1 h3
   have b4:(if shPar f l=k then j else N (shPar f l))=i:=b4
   rw[nN _ (by omega)]at b4
   exact a2 l b1 h3 h4 b4
open Classical in
theorem Nodes.fresh{P:Program}{K Tn:TypeId}{w w':World}{f:Nat->Shp}{b0 k:Nat}{B N:Nat->Nat}{M:Nat->Option Nat}(h:Nodes P K Tn w f b0 k B N M)(hp:shPar f k<k)
  (hpp:∀i,0<i->i<k->shPar f i<i) (hno:∀j,j<k->f j≠f k) {a r mm:Nat} {g:Value->Value} (ha:a=N (shPar f k))
  (ra:w'.rowIs (B a) Tn 6 (nodeCell a (f a) (parOf f B a) (some mm)))
  (ro:∀i,i<k->N i=i->i≠a->w'.heap[B i]?=w.heap[B i]?)
  (mo:∀i m,i<k->N i=i->i≠a->M i=some m->w'.heap[m]?=w.heap[m]?/\m≠mm)
  (rn:w'.rowIs r Tn 6 (nodeCell k (f k) (some ⟨B (shPar f k),0,none⟩) none))
  (hr:b0<=r) (hrB:∀i,i<k->B i≠r) (hmm:b0<=mm) (hK:Kids f k B N a g)
  (hM:MapIs P K w' mm (k+1) (fun v=>if v=ShV (f k)then .pointer (some ⟨r,0,none⟩)else g v)):
  Nodes P K Tn w' f b0 (k+1) (fun i=>if i=k then r else B i) (fun i=>if i=k then k else N i) (fun i=>if i=k then none else if i=a then some mm else M i):=by
 have hak:a<k:=by rw[ha];exact Nat.lt_of_le_of_lt (h.le _ hp) hp
 have hNa:N a=a:=by rw[ha];exact h.own _ hp
 have hk0:=h.pos
 have nB:∀i,i<k->(if i=k then r else B i)=B i:=fun i hi=>if_neg (by omega)
 have nN:∀i,i<k->(if i=k then k else N i)=N i:=fun i hi=>if_neg (by omega)
 have nM:∀i,i<k->i≠a->(if i=k then none else if i=a then some mm else M i)=M i:=fun i hi ha=>by rw[if_neg (by omega),if_neg ha]
 have nMa:(if a=k then none else if a=a then some mm else M a)=some mm:=by rw[if_neg (by omega),if_pos rfl]
 have own':∀i,i<k+1->(if i=k then k else N i)=i->i=k\/i<k/\N i=i:=fun i hi e=>by
  by_cases e2:i=k
  ·exact .inl e2
  ·rw[if_neg e2]at e;exact .inr ⟨by omega,e⟩
 have hpar:∀i,i<k->parOf f (fun i=>if i=k then r else B i) i=parOf f B i:=fun i hi=>by
  unfold parOf
  by_cases e:i=0
  ·simp[e]
  ·have:=hpp i (by omega) hi
   simp only[e,if_false]
   rw[if_neg (by omega)]
 have hpp':∀i,0<i->i<k+1->shPar f i<k:=fun i h0 hi=>by
  by_cases e:i=k
  ·rw[e];exact hp
  ·have:=hpp i h0 (by omega);omega
 constructor
 ·exact Nat.succ_pos _
 ·show(if 0=k then k else N 0)=0
  rw[nN 0 h.pos];exact h.n0
 ·intro i hi
  show(if i=k then k else N i)<=i
  split
  ·omega
  ·exact h.le i (by omega)
 ·intro i hi
  show(if(if i=k then k else N i)=k then k else N (if i=k then k else N i))=(if i=k then k else N i)
  by_cases e:i=k
  ·rw[if_pos e,if_pos rfl]
  ·rw[if_neg e,if_neg (by have:=h.le i (by omega);omega)];exact h.own i (by omega)
 ·intro i hi
  show f (if i=k then k else N i)=f i
  by_cases e:i=k
  ·rw[if_pos e,e]
  ·rw[if_neg e];exact h.same i (by omega)
 ·intro i l hi hl e
  show(if i=k then k else N i)=(if l=k then k else N l)
  by_cases e1:i=k
  ·by_cases e2:l=k
   ·rw[if_pos e1,if_pos e2]
   ·exact absurd (by rw[<-e1];exact e.symm) (hno l (by omega))
  ·by_cases e2:l=k
   ·exact absurd (by rw[<-e2];exact e) (hno i (by omega))
   ·rw[if_neg e1,if_neg e2];exact h.one _ _ (by omega) (by omega) e
 ·intro i hi
  show(if(if i=k then k else N i)=k then r else B (if i=k then k else N i))=(if i=k then r else B i)
  by_cases e:i=k
  ·rw[if_pos e,if_pos rfl,if_pos e]
  ·rw[if_neg e,if_neg (by have:=h.le i (by omega);omega),if_neg e];exact h.blk i (by omega)
 ·intro i hi
  show b0<=(if i=k then r else B i)
  split
  ·exact hr
  ·exact h.base i (by omega)
 ·intro i hi hn
  show w'.rowIs (if i=k then r else B i) Tn 6 (nodeCell i (f i) (parOf f (fun i=>if i=k then r else B i) i) (if i=k then none else if i=a then some mm else M i))
  rcases own' i hi hn with h1|⟨h1,h2⟩
  ·rw[if_pos h1,if_pos h1,h1]
   have:parOf f (fun i=>if i=k then r else B i) k=some ⟨B (shPar f k),0,none⟩:=by
    unfold parOf
    rw[if_neg (by omega)]
    show some (⟨if shPar f k=k then r else B (shPar f k),0,none⟩:Addr)=_
    rw[if_neg (by omega)]
   rw[this]
   exact rn
  ·rw[hpar i h1,nB i h1]
   by_cases e:i=a
   ·rw[e,nMa];exact ra
   ·rw[nM i h1 e];exact(h.node i h1 h2).of_block (ro i h1 h2 e)
 ·intro i l hi hl hn hm e
  have e:(if i=k then r else B i)=(if l=k then r else B l):=e
  rcases own' i hi hn with h1|⟨h1,h2⟩
  ·rcases own' l hl hm with h3|⟨h3,h4⟩
   ·omega
   ·rw[if_pos h1,nB l h3]at e;exact absurd e.symm (hrB l h3)
  ·rcases own' l hl hm with h3|⟨h3,h4⟩
   ·rw[if_pos h3,nB i h1]at e;exact absurd e (hrB i h1)
   ·rw[nB i h1,nB l h3]at e
    exact h.apart i l h1 h3 h2 h4 e
 ·intro i m hi hn hm
  have hm:(if i=k then none else if i=a then some mm else M i)=some m:=hm
  rcases own' i hi hn with h1|⟨h1,h2⟩
  ·rw[if_pos h1]at hm;cases hm
  ·by_cases e:i=a
   ·rw[e,nMa]at hm;cases hm;exact hmm
   ·rw[nM i h1 e]at hm;exact h.mbase i m h1 h2 hm
 ·intro i l m hi hl hn hm e1 e2
  have e1:(if i=k then none else if i=a then some mm else M i)=some m:=e1
  have e2:(if l=k then none else if l=a then some mm else M l)=some m:=e2
  rcases own' i hi hn with h1|⟨h1,h2⟩
  ·rw[if_pos h1]at e1;cases e1
  ·rcases own' l hl hm with h3|⟨h3,h4⟩
   ·rw[if_pos h3]at e2;cases e2
   ·by_cases x:i=a
    ·by_cases y:l=a
     ·omega
     ·rw[x,nMa]at e1
      cases e1
      rw[nM l h3 y]at e2
      exact absurd rfl (mo l _ h3 h4 y e2).2
    ·by_cases y:l=a
     ·rw[y,nMa]at e2
      cases e2
      rw[nM i h1 x]at e1
      exact absurd rfl (mo i _ h1 h2 x e1).2
     ·rw[nM i h1 x]at e1
      rw[nM l h3 y]at e2
      exact h.mapart i l m h1 h3 h2 h4 e1 e2
 ·intro i hi hn hm l h0 hl hnl
  have hm:(if i=k then none else if i=a then some mm else M i)=none:=hm
  show(if shPar f l=k then k else N (shPar f l))≠i
  have hpl:=hpp' l h0 hl
  rw[nN _ hpl]
  rcases own' i hi hn with h1|⟨h1,h2⟩
  ·have:=h.le _ hpl;omega
  ·have x:i≠a:=fun x=>by rw[x,nMa]at hm;cases hm
   rw[nM i h1 x]at hm
   rcases own' l hl hnl with h3|⟨h3,h4⟩
   ·rw[h3,<-ha];exact fun e=>x e.symm
   ·exact h.bare i h1 h2 hm l h0 h3 h4
 ·intro i m hi hn hm
  have hm:(if i=k then none else if i=a then some mm else M i)=some m:=hm
  rcases own' i hi hn with h1|⟨h1,h2⟩
  ·rw[if_pos h1]at hm;cases hm
  ·by_cases x:i=a
   ·rw[x,nMa]at hm
    cases hm
    refine⟨_,hM,fun v=>?_⟩
    show(∃j,0<j/\j<k+1/\(if j=k then k else N j)=j/\(if shPar f j=k then k else N (shPar f j))=i/\v=ShV (f j)/\(if v=ShV (f k)then Value.pointer (some ⟨r,0,none⟩)else g v)=.pointer (some ⟨if j=k then r else B j,0,none⟩))\/((if v=ShV (f k)then Value.pointer (some ⟨r,0,none⟩)else g v)=.pointer none/\∀j,0<j->j<k+1->(if j=k then k else N j)=j->(if shPar f j=k then k else N (shPar f j))=i->ShV (f j)≠v)
    by_cases e:v=ShV (f k)
    ·refine .inl ⟨k,hk0,by omega,by rw[if_pos rfl],by rw[nN _ hp,<-ha,x],e,by rw[if_pos e,if_pos rfl]⟩
    ·rw[if_neg e]
     rcases hK v with⟨l,a1,a2,a3,a4,a5,a6⟩|⟨a1,a2⟩
     ·have:=hpp l a1 a2
      exact .inl ⟨l,a1,by omega,by rw[nN l a2];exact a3,by rw[nN _ (by omega),x];exact a4,a5,by rw[nB l a2];exact a6⟩
     ·refine .inr ⟨a1,fun l b1 b2 b3 b4=>?_⟩
      rw[nN _ (hpp' l b1 b2)]at b4
      rcases own' l b2 b3 with h3|⟨h3,h4⟩
      ·rw[h3];exact fun e2=>e e2.symm
      ·exact a2 l b1 h3 h4 (by rw[b4,x])
   ·rw[nM i h1 x]at hm
    obtain⟨g1,hg1,hK1⟩:=h.kids i m h1 h2 hm
    refine⟨g1,(hg1.block (mo i m h1 h2 x hm).1).mono (Nat.le_succ _),fun v=>?_⟩
    rcases hK1 v with⟨l,a1,a2,a3,a4,a5,a6⟩|⟨a1,a2⟩
    ·have:=hpp l a1 a2
     exact .inl ⟨l,a1,by omega,by show(if l=k then k else N l)=l;rw[nN l a2];exact a3,by show(if shPar f l=k then k else N (shPar f l))=i;rw[nN _ (by omega)];exact a4,a5,by show _=Value.pointer (some ⟨if l=k then r else B l,0,none⟩);rw[nB l a2];exact a6⟩
    ·refine .inr ⟨a1,fun l b1 b2 b3 b4=>?_⟩
     have b4:(if shPar f l=k then k else N (shPar f l))=i:=b4
     rw[nN _ (hpp' l b1 b2)]at b4
     rcases own' l b2 b3 with h3|⟨h3,h4⟩
     ·rw[h3,<-ha]at b4;exact absurd b4.symm x
     ·exact a2 l b1 h3 h4 b4
end
section
open Go.RowKit
open Go.Maps (Keyed)
theorem laidOutN:laidOutB Tryz.prog=true:=by kernel_rfl
theorem rowShape:205<Tryz.prog.types.size:=of_decide_eq_true (by kernel_rfl)
theorem shapeKey:Tryz.prog.keyTypeAt 2 205=true:=by kernel_rfl
theorem shapeLaw:Keyed Tryz.prog 205:=Keyed.of_law (deep_law_laid laidOutN (m:=2) (by omega) rowShape shapeKey (by rw[Tryz.underlying205]))
theorem zeroNode(w:World):(zeroValue 163).run Tryz.prog w=.ok (.pointer none) w:=by kernel_rfl
theorem keyLits3{P:Program}{k ti ts:TypeId}{fs:Array Field}{f0 f1 f2:Field}(hu:P.underlying k=some (.struct fs))(hfs:fs=#[f0,f1,f2])(hi:P.underlying ti=some (.int .i64))(hs:P.underlying ts=some .string)
  (hc:P.cellsOf k=3) (hci:P.cellsOf ti=1) (hcs:P.cellsOf ts=1) (t0:f0.type=ti) (t1:f1.type=ts) (t2:f2.type=ti) (o0:f0.offset=0) (o1:f1.offset=1) (o2:f2.offset=2)
  (n0:f0.name != "_") (n1:f1.name != "_") (n2:f2.name != "_") (s:Shp) (h1:(Lit.int .i64 s.parent).wf=true) (h2:s.key.size<=maxLen) (h3:(Lit.int .i64 s.count).wf=true) (n:Nat):
  P.keyLits (n+2) k [.int .i64 s.parent,.string s.key,.int .i64 s.count]=some [.int .i64 s.parent,.string s.key.data.toList,.int .i64 s.count]:=by
 subst hfs
 have a0:P.keyLits (n+1) ti [.int .i64 s.parent]=some [.int .i64 s.parent]:=by unfold Program.keyLits;simp[hi,h1]
 have a1:P.keyLits (n+1) ts [.string s.key]=some [.string s.key.data.toList]:=by unfold Program.keyLits;simp[hs,h2]
 have a2:P.keyLits (n+1) ti [.int .i64 s.count]=some [.int .i64 s.count]:=by unfold Program.keyLits;simp[hi,h3]
 have m0:f0.name≠ "_" :=by simpa using n0
 have m1:f1.name≠ "_" :=by simpa using n1
 have m2:f2.name≠ "_" :=by simpa using n2
 rw[Program.keyLits.eq_def]
 simp[hu,hc,t0,t1,t2,o0,o1,o2,hci,hcs,a0,a1,a2,m0,m1,m2]
theorem cellsShape:Tryz.prog.cellsOf 205=3:=by kernel_rfl
theorem cellsInt:Tryz.prog.cellsOf 3=1:=by kernel_rfl
theorem cellsStr:Tryz.prog.cellsOf 9=1:=by kernel_rfl
theorem shapeKeyed:Tryz.prog.keyType 205=true:=by kernel_rfl
theorem keyShape(s:Shp)(h1:(Lit.int .i64 s.parent).wf=true)(h2:s.key.size<=maxLen)(h3:(Lit.int .i64 s.count).wf=true):∃kl,keyOf Tryz.prog 205 (ShV s)=some kl:=by
 have hn:1<Tryz.prog.types.size:=of_decide_eq_true (by kernel_rfl)
 obtain⟨n,hn⟩:∃n,Tryz.prog.types.size+1=n+2:=⟨Tryz.prog.types.size-1,by omega⟩
 have hf:(ShV s).formed Tryz.prog 205=true:=by simp[Value.formed,Tryz.underlying205,cellsShape]
 have hl:=keyLits3 Tryz.underlying205 rfl Tryz.underlying3 Tryz.underlying9 cellsShape cellsInt cellsStr rfl rfl rfl rfl rfl rfl rfl rfl rfl s h1 h2 h3 n
 rw[<-hn]at hl
 have hcell:(ShV s).cells.toList=[.int .i64 s.parent,.string s.key,.int .i64 s.count]:=rfl
 unfold keyOf
 rw[Tryz.underlying205]
 simp only[shapeKeyed,hf,Bool.and_self,if_true]
 rw[hcell,hl]
 exact⟨_,rfl⟩
end
section
open Go.RowKit
open Go.Maps (Keyed)
abbrev NodesP(w:World)(f:Nat->Shp)(b0 k:Nat)(B N:Nat->Nat)(M:Nat->Option Nat):Prop:=Nodes Tryz.prog 205 208 w f b0 k B N M
abbrev GrownP(b0:Nat)(w w':World):Prop:=Grown 208 b0 w w'
theorem grown_drewN{a c:World}{row:Option Nat}(h:a.grownBy c row)(n:Nat):a.grownBy (c.drewN n) row:=⟨h.os,h.tape,h.output,h.size,h.block⟩
theorem look_kid{w:World}{m n:Nat}{g:Value->Value}(h:MapIs Tryz.prog 205 w m n g){s:Shp}(h1:(Lit.int .i64 s.parent).wf=true)(h2:s.key.size<=maxLen)(h3:(Lit.int .i64 s.count).wf=true):
  ∀q,(Instr.lookup 206 (.map (some m)) (ShV s) false).run Tryz.prog (w.drewN q)=.ok (g (ShV s)) (w.drewN q):=by
 intro q
 obtain⟨kl,hkl⟩:=keyShape s h1 h2 h3
 exact(h.block (w':=w.drewN q) rfl).look shapeLaw Tryz.underlying206 (zeroNode _) hkl
theorem look_none{w:World}{s:Shp}(h1:(Lit.int .i64 s.parent).wf=true)(h2:s.key.size<=maxLen)(h3:(Lit.int .i64 s.count).wf=true):
  ∀q,(Instr.lookup 206 (.map none) (ShV s) false).run Tryz.prog (w.drewN q)=.ok (.pointer none) (w.drewN q):=by
 intro q
 obtain⟨kl,hkl⟩:=keyShape s h1 h2 h3
 simpa using Maps.look_nil (w:=w.drewN q) false shapeLaw Tryz.underlying206 (zeroNode _) hkl
theorem intern_found(w:World)(r br j:Nat)(m:Nat)(g:Value->Value)(n:Nat)(s:Shp)(num:Nat)(sp:Shp)(par:Option Addr)(pn:Nat)
  (hrow:w.rowIs br 208 6 (nodeCell pn sp par (some m))) (hmap:MapIs Tryz.prog 205 w m n g) (hg:g (ShV s)=.pointer (some ⟨r,0,none⟩))
  (h1:(Lit.int .i64 s.parent).wf=true) (h2:s.key.size<=maxLen) (h3:(Lit.int .i64 s.count).wf=true):
  Calls Tryz.prog 223 #[.pointer (some ⟨br,0,none⟩),ShV s,.int .i64 num] w fun e w'=>e=.returned (.pointer (some ⟨r,0,none⟩))/\Below w.heap.size w w':=by
 have hl:=World.rowIs.lt hrow
 have hmap':=hmap.block (w':=w.alloc (.cells #[.int .i64 s.parent,.string s.key,.int .i64 s.count] 205)) (by obtain⟨es,c,hm⟩:=hmap.isMap;exact Deep.blk_alloc_lt _ _ _ (Array.getElem?_eq_some_iff.1 hm).1)
 have hlk:=look_kid hmap' h1 h2 h3
 rw[hg]at hlk
 have c5:w.cell? ⟨br,5,none⟩=some (.map (some m)):=hrow.cell (i:=5) (by omega)
 clear hmap hmap' hrow hg h1 h2 h3
 go_enter Tryz.func223,Tryz.ntmps223
 go_wp2
 go_quiet (fail)
 go_wp2
 go_ret
 exact⟨rfl,below_drewN ((Below.refl _ _).alloc (Nat.le_refl _) _) _⟩
open Classical in
theorem put_kid{w:World}{m n:Nat}{g:Value->Value}(h:MapIs Tryz.prog 205 w m n g)(hn:n<=1000){s:Shp}(h1:(Lit.int .i64 s.parent).wf=true)(h2:s.key.size<=maxLen)(h3:(Lit.int .i64 s.count).wf=true)(v:Value):
  ∃w',(Instr.mapUpdate 206 (.map (some m)) (ShV s) v).run Tryz.prog w=.ok () w'/\MapIs Tryz.prog 205 w' m (n+1) (fun k=>if k=ShV s then v else g k)/\w.grownBy w' (some m):=by
 obtain⟨kl,hkl⟩:=keyShape s h1 h2 h3
 exact h.put shapeLaw Tryz.underlying206 (by unfold maxLen;omega) v hkl
open Classical in
theorem intern_more(w:World)(br:Nat)(m:Nat)(g:Value->Value)(n:Nat)(s:Shp)(num:Nat)(sp:Shp)(par:Option Addr)(pn:Nat)(hn:n<=1000)
  (hrow:w.rowIs br 208 6 (nodeCell pn sp par (some m))) (hmap:MapIs Tryz.prog 205 w m n g) (hg:g (ShV s)=.pointer none)
  (h1:(Lit.int .i64 s.parent).wf=true) (h2:s.key.size<=maxLen) (h3:(Lit.int .i64 s.count).wf=true):
  Calls Tryz.prog 223 #[.pointer (some ⟨br,0,none⟩),ShV s,.int .i64 num] w fun e w'=>∃r,e=.returned (.pointer (some ⟨r,0,none⟩))/\w.heap.size<=r/\w'.rowIs r 208 6 (nodeCell num s (some ⟨br,0,none⟩) none)/\
   MapIs Tryz.prog 205 w' m (n+1) (fun k=>if k=ShV s then .pointer (some ⟨r,0,none⟩)else g k)/\w.grownBy w' (some m):=by
 have hl:=World.rowIs.lt hrow
 obtain⟨es,cl,hm⟩:=hmap.isMap
 have hml:m<w.heap.size:=(Array.getElem?_eq_some_iff.1 hm).1
 have hmap':=hmap.block (w':=w.alloc (.cells #[.int .i64 s.parent,.string s.key,.int .i64 s.count] 205)) (Deep.blk_alloc_lt _ _ _ hml)
 have hlk:=look_kid hmap' h1 h2 h3
 rw[hg]at hlk
 have c5:w.cell? ⟨br,5,none⟩=some (.map (some m)):=hrow.cell (i:=5) (by omega)
 have HM:=uy hmap'
 have H1:=uy h1
 have H2:=uy h2
 have H3:=uy h3
 have qT:∀(w:World),(binOp .eql 206 (.map (some m)) (.map none)).run Tryz.prog w=.ok (.bool false) w:=fun w=>run_eql_map_nil w _ _ _ (some m) Tryz.underlying206
 clear hmap hmap' hrow hg h1 h2 h3 hm
 go_enter Tryz.func223,Tryz.ntmps223
 go_wp2
 go_quiet (fail)
 go_wp2
 obtain⟨W1,hW1⟩:∃W1,W1=((w.alloc (.cells #[.int .i64 s.parent,.string s.key,.int .i64 s.count] 205)).drewN nq).alloc (.cells #[.int .i64 num,.int .i64 s.parent,.string s.key,.int .i64 s.count,.pointer (some ⟨br,0,none⟩),.map none] 208):=⟨_,rfl⟩
 rw[<-hW1]
 have hz1:W1.heap.size=w.heap.size+2:=by rw[hW1];simp
 have hgr:w.grownBy W1 none:=by rw[hW1];exact(grown_drewN (World.grownBy_alloc w _ none) nq).trans (World.grownBy_alloc _ _ none)
 have d5:W1.cell? ⟨br,5,none⟩=some (.map (some m)):=by rw[<-c5];exact World.cell?_of_block (hgr.block br hl (by simp))
 have x0:W1.cell? ⟨w.heap.size,0,none⟩=some (.int .i64 s.parent):=by rw[hW1];simp[go_sem]
 have x1:W1.cell? ⟨w.heap.size,1,none⟩=some (.string s.key):=by rw[hW1];simp[go_sem]
 have x2:W1.cell? ⟨w.heap.size,2,none⟩=some (.int .i64 s.count):=by rw[hW1];simp[go_sem]
 have hrn:W1.rowIs (w.heap.size+1) 208 6 (nodeCell num s (some ⟨br,0,none⟩) none):=by
  have:=World.rowIs_alloc ((w.alloc (.cells #[.int .i64 s.parent,.string s.key,.int .i64 s.count] 205)).drewN nq) #[.int .i64 num,.int .i64 s.parent,.string s.key,.int .i64 s.count,.pointer (some ⟨br,0,none⟩),.map none] 208 (nodeCell num s (some ⟨br,0,none⟩) none) (fun i hi=>by
   have:i<6:=hi
   match i,this with
   |0,_=>rfl
   |1,_=>rfl
   |2,_=>rfl
   |3,_=>rfl
   |4,_=>rfl
   |5,_=>rfl)
  rw[hW1]
  simpa using this
 have hmp:MapIs Tryz.prog 205 W1.drew m n g:=(uh HM).block (by
  show W1.heap[m]?=_
  rw[hgr.block m hml (by simp)]
  exact(Deep.blk_alloc_lt _ _ _ hml).symm)
 obtain⟨w2,hrun,hmap2,hg2⟩:=put_kid hmp hn (uh H1) (uh H2) (uh H3) (.pointer (some ⟨w.heap.size+1,0,none⟩))
 have HG:=uy (hgr.but (some m))
 have HG2:=uy hg2
 have HM2:=uy hmap2
 have HR:=uy hrn
 clear hW1 hgr hrn hmp hmap2 hg2 HM hlk
 go_region
 go_wp2
 go_ret
 refine⟨w.heap.size+1,rfl,by omega,(uh HR).of_block ((uh HG2).block _ (by show _<W1.heap.size;omega) (by simp;omega)),uh HM2,(uh HG).trans ?_⟩
 exact⟨(uh HG2).os,(uh HG2).tape,(uh HG2).output,(uh HG2).size,(uh HG2).block⟩
theorem row6(w:World)(num:Nat)(s:Shp)(par:Option Addr):(w.alloc (.cells #[.int .i64 num,.int .i64 s.parent,.string s.key,.int .i64 s.count,.pointer par,.map none] 208)).rowIs w.heap.size 208 6 (nodeCell num s par none):=
 World.rowIs_alloc w _ 208 _ (fun i hi=>by
   have:i<6:=hi
   match i,this with
   |0,_=>rfl
   |1,_=>rfl
   |2,_=>rfl
   |3,_=>rfl
   |4,_=>rfl
   |5,_=>rfl)
theorem nodeCell_set(num:Nat)(s:Shp)(par:Option Addr)(o m:Option Nat)(i:Nat)(hi:i<6):(if i=5 then Value.map m else nodeCell num s par o i)=nodeCell num s par m i:=by
 match i,hi with
 |0,_=>rfl
 |1,_=>rfl
 |2,_=>rfl
 |3,_=>rfl
 |4,_=>rfl
 |5,_=>rfl
open Classical in
theorem intern_first(w:World)(br:Nat)(s:Shp)(num:Nat)(sp:Shp)(par:Option Addr)(pn:Nat)
  (hrow:w.rowIs br 208 6 (nodeCell pn sp par none))
  (h1:(Lit.int .i64 s.parent).wf=true) (h2:s.key.size<=maxLen) (h3:(Lit.int .i64 s.count).wf=true):
  Calls Tryz.prog 223 #[.pointer (some ⟨br,0,none⟩),ShV s,.int .i64 num] w fun e w'=>∃r mm,e=.returned (.pointer (some ⟨r,0,none⟩))/\w.heap.size<=r/\w.heap.size<=mm/\w'.rowIs r 208 6 (nodeCell num s (some ⟨br,0,none⟩) none)/\
   w'.rowIs br 208 6 (nodeCell pn sp par (some mm))/\
   MapIs Tryz.prog 205 w' mm 1 (fun k=>if k=ShV s then .pointer (some ⟨r,0,none⟩)else .pointer none)/\w.grownBy w' (some br):=by
 have hl:=World.rowIs.lt hrow
 have hlk:=look_none (w:=w.alloc (.cells #[.int .i64 s.parent,.string s.key,.int .i64 s.count] 205)) h1 h2 h3
 have c5:w.cell? ⟨br,5,none⟩=some (.map none):=hrow.cell (i:=5) (by omega)
 have f5:w.frozen? ⟨br,5,none⟩=false:=hrow.frozen 5
 have hmm:=@run_makeMap Tryz.prog
 have HW:=uy hrow
 have H1:=uy h1
 have H2:=uy h2
 have H3:=uy h3
 have qT:∀(w:World),(binOp .eql 206 (.map none) (.map none)).run Tryz.prog w=.ok (.bool true) w:=fun w=>run_eql_map_nil w _ _ _ none Tryz.underlying206
 clear hrow h1 h2 h3
 go_enter Tryz.func223,Tryz.ntmps223
 go_wp2
 go_quiet (fail)
 go_wp2
 obtain⟨W1,hW1⟩:∃W1,W1=((((w.alloc (.cells #[.int .i64 s.parent,.string s.key,.int .i64 s.count] 205)).drewN nq).setCell ⟨br,5,none⟩ (.map (some (w.heap.size+1)))).alloc (.map #[] 0)).alloc (.cells #[.int .i64 num,.int .i64 s.parent,.string s.key,.int .i64 s.count,.pointer (some ⟨br,0,none⟩),.map none] 208):=⟨_,rfl⟩
 rw[<-hW1]
 have hz1:W1.heap.size=w.heap.size+3:=by rw[hW1];simp
 have ga:w.grownBy ((w.alloc (.cells #[.int .i64 s.parent,.string s.key,.int .i64 s.count] 205)).drewN nq) none:=grown_drewN (World.grownBy_alloc w _ none) nq
 have ra:=(uh HW).of_block (ga.block br hl (by simp))
 have rb:=(ra.set 5 (.map (some (w.heap.size+1)))).congr (fun i hi=>nodeCell_set pn sp par none (some (w.heap.size+1)) i hi)
 have gb:w.grownBy (((w.alloc (.cells #[.int .i64 s.parent,.string s.key,.int .i64 s.count] 205)).drewN nq).setCell ⟨br,5,none⟩ (.map (some (w.heap.size+1)))) (some br):=
  ⟨ga.os,ga.tape,ga.output,by simp,fun i hi hne=>by rw[Deep.blk_setCell_other _ _ _ _ (fun e=>hne (by rw[e]))];exact ga.block i hi (by simp)⟩
 have hgr:w.grownBy W1 (some br):=by rw[hW1];exact(gb.trans (World.grownBy_alloc _ _ _)).trans (World.grownBy_alloc _ _ _)
 have rbr:W1.rowIs br 208 6 (nodeCell pn sp par (some (w.heap.size+1))):=by rw[hW1];exact(rb.alloc _).alloc _
 have d5:W1.cell? ⟨br,5,none⟩=some (.map (some (w.heap.size+1))):=rbr.cell (i:=5) (by omega)
 have x0:W1.cell? ⟨w.heap.size,0,none⟩=some (.int .i64 s.parent):=by rw[hW1];simp[go_sem]
 have x1:W1.cell? ⟨w.heap.size,1,none⟩=some (.string s.key):=by rw[hW1];simp[go_sem]
 have x2:W1.cell? ⟨w.heap.size,2,none⟩=some (.int .i64 s.count):=by rw[hW1];simp[go_sem]
 have hrn:W1.rowIs (w.heap.size+2) 208 6 (nodeCell num s (some ⟨br,0,none⟩) none):=by
  have:=row6 ((((w.alloc (.cells #[.int .i64 s.parent,.string s.key,.int .i64 s.count] 205)).drewN nq).setCell ⟨br,5,none⟩ (.map (some (w.heap.size+1)))).alloc (.map #[] 0)) num s (some ⟨br,0,none⟩)
  rw[hW1]
  simpa using this
 have hmp:MapIs Tryz.prog 205 W1.drew (w.heap.size+1) 0 (fun _=>.pointer none):=by
  have h0:=MapIs.made Tryz.prog 205 (((w.alloc (.cells #[.int .i64 s.parent,.string s.key,.int .i64 s.count] 205)).drewN nq).setCell ⟨br,5,none⟩ (.map (some (w.heap.size+1))))
  have hz:(((w.alloc (.cells #[.int .i64 s.parent,.string s.key,.int .i64 s.count] 205)).drewN nq).setCell ⟨br,5,none⟩ (.map (some (w.heap.size+1)))).heap.size=w.heap.size+1:=by simp
  rw[hz]at h0
  refine h0.block ?_
  show W1.heap[w.heap.size+1]?=_
  rw[hW1]
  exact Deep.blk_alloc_lt _ _ _ (by simp)
 obtain⟨w2,hrun,hmap2,hg2⟩:=put_kid hmp (by omega) (uh H1) (uh H2) (uh H3) (.pointer (some ⟨w.heap.size+1+1,0,none⟩))
 have HG:=uy hgr
 have HG2:=uy hg2
 have HM2:=uy hmap2
 have HR:=uy hrn
 have HRB:=uy rbr
 clear hW1 hgr hrn hmp hmap2 hg2 hlk ga ra rb gb rbr HW
 go_region
 go_wp2
 go_ret
 refine⟨w.heap.size+2,w.heap.size+1,rfl,by omega,by omega,(uh HR).of_block ((uh HG2).block _ (by show _<W1.heap.size;omega) (by simp)),(uh HRB).of_block ((uh HG2).block _ (by show _<W1.heap.size;omega) (by simp;omega)),uh HM2,?_⟩
 refine World.grownBy.andThen (uh HG) (row':=some (w.heap.size+1)) ?_ (fun j hj=>by cases hj;exact .inl (by omega))
 exact⟨(uh HG2).os,(uh HG2).tape,(uh HG2).output,(uh HG2).size,(uh HG2).block⟩
end
end Go.Proofs.YtgmlkfgfjjggnaaGreatDoor
