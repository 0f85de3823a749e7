import Derived.Test.YtgmlkfgfjjggnaaGreatDoorSBK
import Derived.Test.YtgmlkfgfjjggnaaGreatDoorSAA
import Derived.Test.YtgmlkfgfjjggnaaGreatDoorSAO
import Derived.Test.YtgmlkfgfjjggnaaGreatDoorSAZ
import Derived.Test.YtgmlkfgfjjggnaaGreatDoorSAJ
import Derived.Test.YtgmlkfgfjjggnaaGreatDoorSAR
set_option linter.unusedVariables false
set_option linter.unusedSimpArgs false
set_option maxHeartbeats 40000000
set_option maxRecDepth 100000
namespace Go.Proofs.YtgmlkfgfjjggnaaGreatDoor
section
open Go.RowKit
theorem wByte_at(a:Option Addr)(len cap:Nat)(i:Nat)(w:World){b:Nat}(hcode:CodeAt w b a len)(hle:(len:Int)<=1048576)(hi:i<1000):
  ∃z:Int,0<=z/\z<256/\∀(w':World),(∀k,k<b->w'.heap[k]?=w.heap[k]?)->Calls Tryz.prog 41 #[.slice a len cap,.int .i64 i] w' fun e w''=>e=.returned (.int .i64 z)/\w''=w':=by
 by_cases h0:len=0
 ·subst h0
  refine⟨0,by omega,by omega,fun w' _=>?_⟩
  clear hcode
  go_enter Tryz.func41,Tryz.ntmps41
  go_wp2
  go_ret
  exact⟨rfl,rfl⟩
 ·obtain⟨k,off,rfl,hk,hc⟩:=hcode.2.resolve_left h0
  obtain⟨z,hz,hz0,hz1⟩:=hc (i%len) (Nat.mod_lt _ (by omega))
  refine⟨z,hz0,by omega,fun w' hw'=>?_⟩
  have hz':w'.cell? ⟨k,off+i%len,none⟩=some (.int .u8 z):=(World.cell?_of_block (hw' k hk)).trans hz
  have hne:((len:Int)==0)=false:=by simp;omega
  have hne2:¬(len:Int)=0:=by omega
  have hmod:Int.tmod (i:Int) (len:Int)=((i%len:Nat):Int):=by rw[Int.tmod_eq_emod_of_nonneg (by omega)];rfl
  have hp:((i%len:Nat):Int)<(len:Int):=by have:=Nat.mod_lt i (show 0<len by omega);omega
  have hp2:(i%len:Nat)<len:=Nat.mod_lt i (by omega)
  clear hcode hc hw'
  go_enter Tryz.func41,Tryz.ntmps41
  go_wp2
  go_ret
  exact⟨rfl,rfl⟩
end
section
open Go.RowKit Go.Shelf
attribute [local go_sem] run_store_float run_equalIn_float
theorem conv_two(u v:Int)(h0:0<=u)(h1:u<256)(g0:0<=v)(g1:v<256)(wr:World):(convert 71 9 (.slice (some ⟨wr.heap.size,0,none⟩) 2 2)).run Tryz.prog (wr.alloc (.cells #[.int .u8 u,.int .u8 v] 5))=.ok (.string ⟨[UInt8.ofNat u.toNat,UInt8.ofNat v.toNat].toArray⟩) (wr.alloc (.cells #[.int .u8 u,.int .u8 v] 5)):=
 run_convert_bytes_back (P:=Tryz.prog) (wr.alloc (.cells #[.int .u8 u,.int .u8 v] 5)) 71 9 5 ⟨wr.heap.size,0,none⟩ 2 [UInt8.ofNat u.toNat,UInt8.ofNat v.toNat] Tryz.underlying71 Tryz.underlying5 Tryz.underlying9 (by
  intro j hj
  have hj2:j<2:=hj
  have e:((UInt8.ofNat u.toNat).toNat:Int)=u:=by rw[UInt8.toNat_ofNat'];omega
  have e':((UInt8.ofNat v.toNat).toNat:Int)=v:=by rw[UInt8.toNat_ofNat'];omega
  rcases(show j=0\/j=1 by omega)with rfl|rfl
  ·have e2:([UInt8.ofNat u.toNat,UInt8.ofNat v.toNat][0]'hj)=UInt8.ofNat u.toNat:=rfl
   rw[e2,e]
   simp[Addr.add,go_sem]
  ·have e2:([UInt8.ofNat u.toNat,UInt8.ofNat v.toNat][1]'hj)=UInt8.ofNat v.toNat:=rfl
   rw[e2,e']
   simp[Addr.add,go_sem])
def wkS(i:Nat):ByteArray:=⟨[UInt8.ofNat (97+i%26),UInt8.ofNat (97+i/26)].toArray⟩
def κW(i:Nat):Vl:=⟨4,0,0,wkS i,0⟩
theorem wkS_size(i:Nat):(wkS i).size=2:=rfl
theorem wKeys:Keys κW (fun i=>i<2000):=by
 refine⟨fun i _=>⟨?_,⟨by show(0:Nat)<_;decide,by show(wkS i).size<=_;rw[wkS_size];decide⟩⟩,fun i j hi hj h=>?_⟩
 ·unfold keyB Vl.ok validB κW
  simp[fz_nil,wkS_size]
 ·have h2:=toList_inj (like_flt h).2.1
  have h3:[UInt8.ofNat (97+i%26),UInt8.ofNat (97+i/26)]=[UInt8.ofNat (97+j%26),UInt8.ofNat (97+j/26)]:=h2
  injection h3 with e1 e2
  injection e2 with e2 _
  have e1:=congrArg UInt8.toNat e1
  have e2:=congrArg UInt8.toNat e2
  rw[UInt8.toNat_ofNat',UInt8.toNat_ofNat']at e1 e2
  omega
theorem wKey_any(i:Nat)(hi:i<2000)(w:World):Calls Tryz.prog 42 #[.int .i64 i] w fun e w'=>e=.returned (V (κW i).kind (κW i).num (κW i).flt (κW i).str (κW i).ref)/\Below w.heap.size w w':=by
 have hcv:=conv_two (97+(i:Int)%26) (97+(i:Int)/26) (by omega) (by omega) (by omega) (by omega) (w.alloc (.cells #[.int .i64 0,.int .i64 0,.float .f64 0,.string ⟨#[]⟩,.int .i64 0] 43))
 rw[show(w.alloc (.cells #[.int .i64 0,.int .i64 0,.float .f64 0,.string ⟨#[]⟩,.int .i64 0] 43)).heap.size=w.heap.size+1 by simp,show(97+(i:Int)%26).toNat=97+i%26 by omega,show(97+(i:Int)/26).toNat=97+i/26 by omega]at hcv
 have hws:(⟨[UInt8.ofNat (97+i%26),UInt8.ofNat (97+i/26)].toArray⟩:ByteArray)=wkS i:=rfl
 rw[hws]at hcv
 clear hws
 go_enter Tryz.func42,Tryz.ntmps42
 go_wp2
 refine bodyPost_ret (v:=V 4 0 0 (wkS i) 0) (by simp[results,go_sem]) rfl ⟨rfl,?_⟩
 exact((Below.refl _ _).alloc (Nat.le_refl _) _).alloc (by simp) _
end
section
open Go.RowKit
def headA(n odd:Nat):List Ac:=([aSite (wkS 3)]++tabsA (wkS 1) (wkS 3) (κW 9) n)++tailA (wkS 3) n odd
def scrA(n odd:Nat):List Ac:=headA n odd++fldsA (n+1)++[aFld 0]
theorem tabsA_length(ka kb:ByteArray)(vA:Vl):∀n,(tabsA ka kb vA n).length=3*n
 |0=>rfl
 |n+1=>by simp[tabsA,tabsA_length ka kb vA n,tblA];omega
theorem tailA_length(kb:ByteArray){n odd:Nat}(ho:odd<3):(tailA kb n odd).length=1+odd:=by
 rcases(show odd=0\/odd=1\/odd=2 by omega)with rfl|rfl|rfl<;>rfl
theorem headA_length{n odd:Nat}(ho:odd<3):(headA n odd).length=2+3*n+odd:=by
 simp[headA,tabsA_length,tailA_length _ ho];omega
theorem scrA_length{n odd:Nat}(ho:odd<3):(scrA n odd).length=4+4*n+odd:=by
 simp[scrA,headA_length ho,fldsA_length];omega
theorem wk_ne:(wkS 1).toList≠(wkS 3).toList:=by
 intro h
 have:=wKeys.inj 1 3 (by decide) (by decide)
 have h2:=toList_inj h
 have h3:[UInt8.ofNat (97+1%26),UInt8.ofNat (97+1/26)]=[UInt8.ofNat (97+3%26),UInt8.ofNat (97+3/26)]:=h2
 injection h3 with e1 e2
 exact absurd e1 (by decide)
theorem wk_le(i:Nat):(wkS i).size<=4000:=by rw[wkS_size];decide
theorem wk_ok(i:Nat):(κW i).ok=true:=fstr_ok (wk_le i)
theorem head_ready{n odd:Nat}(hn:n<=90)(hn0:0<n)(ho:odd<3):Ready (runS E0 (headA n odd)) n (wkS 3) odd (lastV (wkS 3) odd):=by
 unfold headA
 rw[runS_append,runS_append,stN_zero (ka:=wkS 1) (vA:=κW 9) (wk_le 3),stN_run wk_ne (wk_le 1) (wk_le 3) (wk_ok 9) (by show(4:Int)≠0;decide) n (by omega)]
 exact ready wk_ne (wk_le 3) hn hn0 ho
theorem fldsA_take:∀{q m:Nat},q<=m->(fldsA m).take q=fldsA q
 |q,0,h=>by rw[show q=0 by omega];rfl
 |q,m+1,h=>by
  show(fldsA m++[aFld m]).take q=_
  by_cases e:q=m+1
  ·rw[List.take_of_length_le (by simp[fldsA_length];omega),e];rfl
  ·rw[List.take_append_of_le_length (by rw[fldsA_length];omega)]
   exact fldsA_take (by omega)
theorem fldsA_get:∀{q m:Nat},q<m->(fldsA m)[q]?=some (aFld q)
 |q,m+1,h=>by
  show(fldsA m++[aFld m])[q]?=_
  by_cases e:q=m
  ·rw[e,List.getElem?_append_right (by rw[fldsA_length];omega),fldsA_length];simp
  ·rw[List.getElem?_append_left (by rw[fldsA_length];omega)]
   exact fldsA_get (by omega)
theorem scr_at{n odd q:Nat}(ho:odd<3)(hq:q<=n):acF (scrA n odd) (2+3*n+odd+q)=aFld q/\(scrA n odd).take (2+3*n+odd+q)=headA n odd++fldsA q:=by
 have hl:=headA_length (n:=n) ho
 have e:scrA n odd=headA n odd++(fldsA (n+1)++[aFld 0]):=by unfold scrA;rw[List.append_assoc]
 constructor
 ·unfold acF List.getD
  rw[e,List.getElem?_append_right (by omega),hl,show 2+3*n+odd+q-(2+3*n+odd)=q by omega,List.getElem?_append_left (by rw[fldsA_length];omega),fldsA_get (by omega)]
  rfl
 ·rw[e,List.take_append,hl,List.take_of_length_le (by omega),show 2+3*n+odd+q-(2+3*n+odd)=q by omega,List.take_append_of_le_length (by rw[fldsA_length];omega),fldsA_take (by omega)]
theorem sites_says{n odd:Nat}(hn:n<=90)(hn0:0<n)(ho:odd<3):
  (∀t,t<n->(ansQ E0 (acF (scrA n odd)) (2+3*n+odd+t)).val=intV t)/\(ansQ E0 (acF (scrA n odd)) (2+3*n+odd+n)).val=lastV (wkS 3) odd/\
  (aftS E0 (acF (scrA n odd)) (4+4*n+odd)).ns=1/\(aftS E0 (acF (scrA n odd)) (4+4*n+odd)).S 0=siE (wkS 3) n odd:=by
 have hr:=head_ready hn hn0 ho
 have hl:=scrA_length (n:=n) ho
 refine⟨fun t ht=>?_,?_,?_⟩
 ·obtain⟨e1,e2⟩:=scr_at (n:=n) (q:=t) ho (by omega)
  rw[ansQ_run _ _ (by omega),e1,e2,runS_append,rd_run hr t (by omega)]
  exact(rd_step hr ht).2
 ·obtain⟨e1,e2⟩:=scr_at (n:=n) (q:=n) ho (by omega)
  rw[ansQ_run _ _ (by omega),e1,e2,runS_append,rd_run hr n (by omega)]
  exact(rd_odd hr).2
 ·have hE:aftS E0 (acF (scrA n odd)) (4+4*n+odd)=siS (runS E0 (headA n odd)) (siE (wkS 3) n odd):=by
   rw[aftS_run _ _ _ (by omega),List.take_of_length_le (by omega)]
   unfold scrA
   rw[runS_append,runS_append]
   show runS (runS (runS E0 (headA n odd)) (fldsA n++[aFld n])) [aFld 0]=_
   rw[runS_append,rd_run hr n (by omega),(rd_odd hr).1,rd_end hr]
  rw[hE]
  exact⟨hr.ns,siS_0 _ _⟩
theorem siE_says{n odd:Nat}(ho:odd<3):(siE (wkS 3) n odd).misses=(if odd=1 then 3 else 2)/\(siE (wkS 3) n odd).hits=(n:Int)+2-(if odd=1 then 3 else 2):=by
 unfold siE
 split
 ·exact⟨rfl,by show(n:Int)-1=_;omega⟩
 ·exact⟨rfl,by show(n:Int)=_;omega⟩
end
section
open Go.RowKit
attribute [local go_sem] run_store_float run_equalIn_float
theorem zero_num'{x:Nat}(h:fz x=true):∃s i,Ieee.double.read x=.number s 0 i:=by
 have h':(Ieee.double.order x 0==some .eq)=true:=h
 rcases Fl.read_cases x with⟨s,m,i,hr,hi,hi2,hm,_⟩|⟨s,hr⟩|⟨s,t,hr⟩
 ·rw[Fl.ord_of hr Fl.read_nil hi (by omega),Fl.cmp_eq,Fl.sc_zero]at h'
  have h0:Fl.sc s m i=0:=by simpa using h'
  unfold Fl.sc at h0
  rw[Fl.signed_eq]at h0
  have hp:=Fl.pow_pos' (i+1074).toNat
  have:m=0:=by
   generalize (2:Int)^(i+1074).toNat=u at h0 hp
   have h1:(m:Int)*u=0:=by
    cases s
    ·simpa using h0
    ·simpa using h0
   rcases Int.mul_eq_zero.1 h1 with h|h<;>omega
  subst this
  exact⟨s,i,hr⟩
 ·exfalso
  unfold Ieee.Format.order at h'
  rw[hr,Fl.read_nil]at h'
  cases s<;>simp[Ieee.Datum.order]at h'
 ·exfalso
  unfold Ieee.Format.order at h'
  rw[hr]at h'
  simp[Ieee.Datum.order]at h'
theorem quo_zero'{x:Nat}(h:fz x=true):∃r,floatBits .quo .f64 4607182418800017408 x=some r/\(FloatKind.f64.format.order r r==some .eq)=true:=by
 obtain⟨s,i,hr⟩:=zero_num' h
 refine⟨Ieee.double.write (.infinity (false^^s)),?_,?_⟩
 ·show((Ieee.double.read 4607182418800017408).quotient _ (Ieee.double.read x)).map Ieee.double.write=_
  rw[hr,Fl.read_one]
  simp[Ieee.Datum.quotient]
 ·cases s<;>decide
theorem wVal_self(kind num:Int)(flt:Nat)(s:ByteArray)(ref:Int)(w:World):
  Calls Tryz.prog 44 #[V kind num flt s ref,V kind num flt s ref] w fun e w'=>e=.returned (.bool true)/\Below w.heap.size w w':=by
 by_cases h1:fnan flt=true
 ·have g1:(FloatKind.f64.format.order flt flt !=some .eq)=true:=h1
  clear h1
  go_enter Tryz.func44,Tryz.ntmps44
  go_wp2
  go_ret
  exact⟨rfl,((Below.refl _ _).alloc (Nat.le_refl _) _).alloc (by simp) _⟩
 have g1:(FloatKind.f64.format.order flt flt !=some .eq)=false:=(by simpa using h1:fnan flt=false)
 have g2:(FloatKind.f64.format.order flt flt==some .eq)=true:=by simpa using g1
 by_cases h2:fz flt=true
 ·have g3:(FloatKind.f64.format.order flt 0!=some .eq)=false:=by
   have:(FloatKind.f64.format.order flt 0==some .eq)=true:=h2
   simpa using this
  obtain⟨r,hr,g4⟩:=quo_zero' h2
  have hq:∀w:World,(binOp .quo 29 (.float .f64 4607182418800017408) (.float .f64 flt)).run Tryz.prog w=.ok (.float .f64 r) w:=fun w=>run_float_arith w .quo 29 .f64 _ _ r hr
  clear h1 h2 hr
  go_enter Tryz.func44,Tryz.ntmps44
  go_wp2
  go_ret
  exact⟨rfl,((Below.refl _ _).alloc (Nat.le_refl _) _).alloc (by simp) _⟩
 ·have g3:(FloatKind.f64.format.order flt 0!=some .eq)=true:=by
   have:(FloatKind.f64.format.order flt 0==some .eq)=false:=(by simpa using h2:fz flt=false)
   simpa using this
  clear h1 h2
  go_enter Tryz.func44,Tryz.ntmps44
  go_wp2
  go_ret
  exact⟨rfl,((Below.refl _ _).alloc (Nat.le_refl _) _).alloc (by simp) _⟩
end
section
open Go.RowKit
attribute [local go_sem] run_store_float run_equalIn_float run_store_func
abbrev AcZr:Value:=.agg #[.int .i64 0,.int .i64 0,.int .i64 0,.int .i64 0,.int .i64 0,.int .i64 0,.float .f64 0,.string ⟨#[]⟩,.int .i64 0,.int .i64 0,.int .i64 0,.float .f64 0,.string ⟨#[]⟩,.int .i64 0]
theorem infoActs:(Tryz.prog.info? 51).map (fun i=>(i.zero,i.size,i.bytes))=some (some AcZr,14,128):=by kernel_rfl
def acR:List Ac->List Value
 |[]=>[]
 |a::L=>(ActBx a).toList++acR L
theorem acR_length:∀L:List Ac,(acR L).length=L.length*14
 |[]=>rfl
 |a::L=>by show((ActBx a).toList++acR L).length=_;rw[List.length_append,acR_length L];simp;omega
theorem acR_append:∀(L M:List Ac),acR (L++M)=acR L++acR M
 |[],M=>rfl
 |a::L,M=>by show _++acR (L++M)=_;rw[acR_append L M];simp[acR]
theorem acR_get:∀(L:List Ac) {i j:Nat},i<L.length->j<14->(acR L)[i*14+j]?=(ActBx (acF L i)).toList[j]?
 |a::L,0,j,_,hj=>by show((ActBx a).toList++acR L)[0*14+j]?=_;rw[List.getElem?_append_left (by simp;omega)];simp[acF]
 |a::L,i+1,j,hi,hj=>by
  show((ActBx a).toList++acR L)[(i+1)*14+j]?=_
  rw[List.getElem?_append_right (by simp;omega),show(i+1)*14+j-(ActBx a).toList.length=i*14+j by simp;omega,acR_get L (by simpa using hi) hj]
  simp[acF]
structure AR (w:World) (L:List Ac) (v:Value) (wr:World):Prop where
 own:wr.ownsRow w.heap.size 51 14 v L.length (acR L)
 bel:Below w.heap.size w wr
theorem AR.below{w wr w':World}{L:List Ac}{v:Value}(h:AR w L v wr)(hb:Below wr.heap.size wr w'):AR w L v w':=⟨own_belowK h.own hb,h.bel.trans (hb.mono h.bel.size)⟩
theorem AR.app{w X w3:World}{L M:List Ac}{v:Value}{g3 cp3 n:Nat}(h:AR w L v X)(hg:X.grownBy w3 v.ownBlock)(hn:n=(L++M).length)(hown:w3.ownsRow w.heap.size 51 14 (.slice (some ⟨g3,0,none⟩) n cp3) n (acR L++acR M)):AR w (L++M) (.slice (some ⟨g3,0,none⟩) n cp3) w3:=by
 subst hn
 rw[<-acR_append]at hown
 have hb:=h.bel
 exact⟨hown,⟨hg.os.trans hb.os,hg.tape.trans hb.tape,hg.output.trans hb.output,Nat.le_trans hb.size hg.size,fun k hk=>(hg.block k (by have:=hb.size;omega) (fun e=>by have:=(h.own.lt k e.symm).1;omega)).trans (hb.block k hk)⟩⟩
theorem AR.at{w wr:World}{L:List Ac}{v:Value}(h:AR w L v wr)(hL:0<L.length):AcAt wr v L.length (acF L):=by
 obtain⟨hl,⟨hv,h0⟩|⟨g,cap,cur,hv,hb,hblk,h1,h2,h3,h4⟩⟩:=id h.own
 ·omega
 ·refine⟨g,cap,hv,(Array.getElem?_eq_some_iff.1 hblk).1,fun i hi j u hu=>?_⟩
  have hj:j<14:=(List.getElem?_eq_some_iff.1 hu).1
  rw[World.ownsRow.cellAt (hv▸h.own) (i*14+j) (by omega),acR_get L hi hj,hu]
theorem wKeyS(i:Nat)(hi:i<2000)(w:World):Calls Tryz.prog 42 #[.int .i64 i] w fun e w'=>e=.returned (V 4 0 0 (wkS i) 0)/\Below w.heap.size w w':=wKey_any i hi w
def WfA(a:Ac):Prop:=Wf a.k/\Wf a.v/\(a.op=1\/(a.op=2/\a.v.kind≠0/\¬((kval a.k).kind=2/\0<(kval a.k).num))\/a.op=7\/a.op=8)
theorem put_str{s:ByteArray}(h:s.size<=4000):¬((kval (strV s)).kind=2/\0<(kval (strV s)).num):=by rw[fstr_kval h];exact fun e=>absurd e.1 (show¬(4:Int)=2 by decide)
theorem put_int0:¬((kval (intV 0)).kind=2/\0<(kval (intV 0)).num):=by rw[fint_kval];exact fun e=>absurd e.2 (show¬(0:Int)<0 by decide)
theorem wf_nov:Wf nov:=⟨by show(0:Nat)<_;decide,Nat.zero_le _⟩
theorem wf_strV{s:ByteArray}(h:s.size<=4000):Wf (strV s):=(ky_str h).2
theorem wf_intV(n:Int):Wf (intV n):=⟨by show(0:Nat)<_;decide,Nat.zero_le _⟩
theorem wf_tabs:∀n,∀a∈tabsA (wkS 1) (wkS 3) (κW 9) n,WfA a
 |0,a,h=>by cases h
 |n+1,a,h=>by
  rcases List.mem_append.1 (show a∈tabsA _ _ _ n++tblA _ _ _ n from h)with h|h
  ·exact wf_tabs n a h
  ·simp only[tblA,List.mem_cons,List.not_mem_nil,or_false]at h
   rcases h with rfl|rfl|rfl
   ·exact⟨wf_nov,wf_nov,.inl rfl⟩
   ·exact⟨wf_strV (wk_le 1),wf_strV (wk_le 9),.inr (.inl ⟨rfl,show¬(4:Int)=0 by decide,put_str (wk_le 1)⟩)⟩
   ·exact⟨wf_strV (wk_le 3),wf_intV _,.inr (.inl ⟨rfl,show¬(2:Int)=0 by decide,put_str (wk_le 3)⟩)⟩
theorem wf_flds:∀n,∀a∈fldsA n,WfA a
 |0,a,h=>by cases h
 |n+1,a,h=>by
  rcases List.mem_append.1 (show a∈fldsA n++[aFld n]from h)with h|h
  ·exact wf_flds n a h
  ·rw[List.mem_singleton.1 h]
   exact⟨wf_nov,wf_nov,.inr (.inr (.inr rfl))⟩
theorem wf_scr(n odd:Nat):∀a∈scrA n odd,WfA a:=by
 intro a h
 unfold scrA headA tailA at h
 simp only[List.mem_append,List.mem_singleton]at h
 rcases h with(((rfl|h)|((rfl|h)|h))|h)|rfl
 ·exact⟨wf_strV (wk_le 3),wf_nov,.inr (.inr (.inl rfl))⟩
 ·exact wf_tabs n a h
 ·exact⟨wf_nov,wf_nov,.inl rfl⟩
 ·split at h
  ·rw[List.mem_singleton.1 h];exact⟨wf_strV (wk_le 3),wf_strV (wk_le 3),.inr (.inl ⟨rfl,show¬(4:Int)=0 by decide,put_str (wk_le 3)⟩)⟩
  ·cases h
 ·split at h
  ·rw[List.mem_singleton.1 h];exact⟨wf_intV 0,wf_strV (wk_le 3),.inr (.inl ⟨rfl,show¬(4:Int)=0 by decide,put_int0⟩)⟩
  ·cases h
 ·exact wf_flds _ a h
 ·exact⟨wf_nov,wf_nov,.inr (.inr (.inr rfl))⟩
theorem wf_acF{L:List Ac}(h:∀a∈L,WfA a)(i:Nat)(hi:i<L.length):Wf (acF L i).k/\Wf (acF L i).v:=by
 have e:acF L i=L[i]:=by simp[acF,List.getD,hi]
 rw[e]
 exact⟨(h _ (List.getElem_mem hi)).1,(h _ (List.getElem_mem hi)).2.1⟩
theorem deed_acF{L:List Ac}(h:∀a∈L,WfA a)(i:Nat)(hi:i<L.length):DeedOf (acF L i):=by
 have e:acF L i=L[i]:=by simp[acF,List.getD,hi]
 rw[e]
 exact deed_few (h _ (List.getElem_mem hi)).2.2
end
section
open Go.RowKit
attribute [local go_sem] run_store_float run_equalIn_float run_store_func
theorem act_one(a:Ac):∀u∈(ActBx a).toList,u.oneCell'=true:=by simp[Value.oneCell']
theorem acR_one:∀L:List Ac,∀u∈acR L,u.oneCell'=true
 |[],u,h=>by cases h
 |a::L,u,h=>(List.mem_append.1 (show u∈(ActBx a).toList++acR L from h)).elim (act_one a u) (acR_one L u)
theorem append_acts{w W:World}{L:List Ac}{v:Value}(M:List Ac){m:Nat}{ops:Array Oper}{rest:List Oper}{o:Oper}{a:Act}{Q:Exit->Act->World->Prop}(hgd:o.guard=none)(s x:Operand)
  (ho:o.op=.call {callee:=.builtin .append,args:=#[s,x],argTypes:=#[64,64]}) (hA:AR w L v W) (hs:a.eval s=v) (hx:a.eval x=.slice (some ⟨W.heap.size,0,none⟩) m m) (hm:M.length=m) (hm0:0<m) (hl:L.length+m<=1000)
  (h:∀v' w',AR w (L++M) v' w'->wpList Tryz.prog ops Q rest (a.put o.dst v') w'):wpList Tryz.prog ops Q (o::rest) a (W.alloc (.cells (acR M).toArray 51)):=by
 obtain⟨i0,hi0,iz0,iz1,iz2⟩:=info_parts infoActs
 refine wpList_append_lies _ hgd s x 64 ho w.heap.size 51 i0 AcZr 14 128 Tryz.underlying64 hi0 iz0 iz1 iz2 rfl (by decide) v L.length (acR L) hs (World.ownsRow.alloc hA.own _) ⟨W.heap.size,0,none⟩ m m (acR M) hx (by rw[acR_length,hm]) (World.news_of_block (Deep.blk_alloc_new W _)) (acR_one _) hm0 (by unfold maxLen;omega) (by omega) (by have:=hA.bel.size;simp;omega) _ rfl ?_
 intro g3 cp3 w5 hown3 hgr3 hloc3 hlt3
 exact h _ _ ((hA.below ((Below.refl _ _).alloc (Nat.le_refl _) _)).app (M:=M) hgr3 (by simp[hm]) hown3)
theorem AR.slice{w wr:World}{L:List Ac}{v:Value}(h:AR w L v wr){K:Nat}(hK:L.length=K):∃av cv,v=.slice av K cv:=by
 subst hK
 exact own_slice h.own
end
end Go.Proofs.YtgmlkfgfjjggnaaGreatDoor
