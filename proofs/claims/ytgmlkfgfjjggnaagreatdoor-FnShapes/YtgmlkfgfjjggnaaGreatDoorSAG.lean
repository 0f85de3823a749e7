import Derived.Test.YtgmlkfgfjjggnaaGreatDoorSAB
set_option linter.unusedVariables false
set_option linter.unusedSimpArgs false
set_option maxHeartbeats 40000000
set_option maxRecDepth 100000
namespace Go.Proofs.YtgmlkfgfjjggnaaGreatDoor
section
open Go.RowKit
attribute [local go_sem] run_store_float run_equalIn_float
def popA(x:Int):Int:=IntKind.u64.wrap (bits BinOp.and IntKind.u64 (x/2) 6148914691236517205+bits BinOp.and IntKind.u64 x 6148914691236517205)
def popB(x:Int):Int:=IntKind.u64.wrap (bits BinOp.and IntKind.u64 (x/4) 3689348814741910323+bits BinOp.and IntKind.u64 x 3689348814741910323)
def popC(x:Int):Int:=bits BinOp.and IntKind.u64 (IntKind.u64.wrap (x/16+x)) 1085102592571150095
def popD(x:Int):Int:=IntKind.u64.wrap (x+x/256)
def popE(x:Int):Int:=IntKind.u64.wrap (x+x/65536)
def popF(x:Int):Int:=IntKind.u64.wrap (x+x/4294967296)
def pop(x:Int):Int:=bits BinOp.and IntKind.i64 (wrap64 (popF (popE (popD (popC (popB (popA x))))))) 127
theorem onesCount64_any(x:Nat)(hx:x<=4000)(w:World):
  Calls Tryz.prog 284 #[.int .u64 (x:Int)] w fun e w'=>e=.returned (.int .i64 (pop x))/\w'=w:=by
 go_enter Tryz.func284,Tryz.ntmps284
 go_wp2
 go_ret
 exact⟨rfl,rfl⟩
theorem onesCount_any(x:Nat)(hx:x<=4000)(w:World):
  Calls Tryz.prog 267 #[.int .u64 (x:Int)] w fun e w'=>e=.returned (.int .i64 (pop x))/\w'=w:=by
 go_enter Tryz.func267,Tryz.ntmps267
 go_wp2_with (go_at_call 284;refine(onesCount64_any x hx _).mono ?_;rintro e w1 ⟨rfl,rfl⟩)
 go_ret
 exact⟨rfl,rfl⟩
theorem pop_pows:∀k:Nat,k<12->pop ((2^k:Nat):Int)=1:=by decide +kernel
theorem pop_one:∀x:Nat,x<4001->pop (x:Int)=1->x∈[1,2,4,8,16,32,64,128,256,512,1024,2048]:=by decide +kernel
theorem pop_iff{x:Nat}(hx:x<=4000):pop x=1↔Pow2 x:=by
 constructor
 ·intro h
  have:=pop_one x (by omega) h
  simp only[List.mem_cons,List.not_mem_nil,or_false]at this
  rcases this with h|h|h|h|h|h|h|h|h|h|h|h
  ·exact⟨0,h⟩
  ·exact⟨1,h⟩
  ·exact⟨2,h⟩
  ·exact⟨3,h⟩
  ·exact⟨4,h⟩
  ·exact⟨5,h⟩
  ·exact⟨6,h⟩
  ·exact⟨7,h⟩
  ·exact⟨8,h⟩
  ·exact⟨9,h⟩
  ·exact⟨10,h⟩
  ·exact⟨11,h⟩
 ·rintro⟨k,rfl⟩
  have hk:k<12:=by
   rcases Nat.lt_or_ge k 12 with h|h
   ·exact h
   ·have:=Nat.pow_le_pow_right (n:=2) (by decide) h
    omega
  exact pop_pows k hk
theorem countsFit_any(la:Option Addr)(lc:Nat)(ia:Option Addr)(ic:Nat)(xa:Option Addr)(xc:Nat)(d:Dc)(w:World)(hS:Small d):
  Calls Tryz.prog 242 #[Dv la lc ia ic xa xc d] w fun e w'=>e=.returned (.bool (tells (D1 d)))/\Below w.heap.size w w':=by
 have hn:=hS.n
 clear hS
 have hb2:∀o1 o2,Below w.heap.size w ((w.alloc o1).alloc o2):=fun o1 o2=>((Below.refl _ _).alloc (Nat.le_refl _) _).alloc (by simp) _
 have HB:=uy hb2
 clear hb2
 by_cases h1:d.live<0
 ·have HT:=uy (tells_no (p:=D1 d) (fun h=>by unfold D1 at h;omega))
  go_enter Tryz.func242,Tryz.ntmps242
  go_wp2
  go_ret
  exact⟨by rw[uh HT];rfl,uh HB _ _⟩
 by_cases h2:500<d.live
 ·have HT:=uy (tells_no (p:=D1 d) (fun h=>by unfold D1 at h;omega))
  go_enter Tryz.func242,Tryz.ntmps242
  go_wp2
  go_ret
  exact⟨by rw[uh HT];rfl,uh HB _ _⟩
 by_cases h3:d.turns<0
 ·have HT:=uy (tells_no (p:=D1 d) (fun h=>by unfold D1 at h;omega))
  go_enter Tryz.func242,Tryz.ntmps242
  go_wp2
  go_ret
  exact⟨by rw[uh HT];rfl,uh HB _ _⟩
 by_cases h4:1000000000000<d.turns
 ·have HT:=uy (tells_no (p:=D1 d) (fun h=>by unfold D1 at h;omega))
  go_enter Tryz.func242,Tryz.ntmps242
  go_wp2
  go_ret
  exact⟨by rw[uh HT];rfl,uh HB _ _⟩
 by_cases h5:(d.n:Int)<=8
 ·have HT:=uy (tells_yes (p:=D1 d) ⟨by omega,by omega,by omega,by omega,.inl h5⟩)
  go_enter Tryz.func242,Tryz.ntmps242
  go_wp2
  go_ret
  exact⟨by rw[uh HT];rfl,uh HB _ _⟩
 have hw:IntKind.i64.wrap (2*d.live)=2*d.live:=by rw[IntKind.wrap_i64];omega
 by_cases h6:(d.n:Int)<=2*d.live
 ·have HT:=uy (tells_yes (p:=D1 d) ⟨by omega,by omega,by omega,by omega,.inr h6⟩)
  have hd':decide ((d.n:Int)<=2*d.live)=true:=by simp[h6]
  go_enter Tryz.func242,Tryz.ntmps242
  go_wp2
  go_ret
  exact⟨by rw[uh HT];simp,uh HB _ _⟩
 ·have HT:=uy (tells_no (p:=D1 d) (fun h=>by unfold D1 at h;omega))
  have hd':decide ((d.n:Int)<=2*d.live)=false:=by simp[h6]
  go_enter Tryz.func242,Tryz.ntmps242
  go_wp2
  go_ret
  exact⟨by rw[uh HT];simp,uh HB _ _⟩
theorem fz_self{x:Nat}(h:fz x=true):feq x x=true:=by
 have h':(Ieee.double.order x 0==some .eq)=true:=h
 show(Ieee.double.order x x==some .eq)=true
 rcases Fl.read_cases x with⟨s,m,i,hr,hi,hi2,hm,_⟩|⟨s,hr⟩|⟨s,t,hr⟩
 ·rw[Fl.ord_of hr hr hi hi,Fl.cmp_eq];simp
 ·exfalso
  unfold Ieee.Format.order at h'
  rw[hr,Fl.read_nil]at h'
  cases s<;>simp[Ieee.Datum.order]at h'
 ·exfalso
  unfold Ieee.Format.order at h'
  rw[hr]at h'
  simp[Ieee.Datum.order]at h'
theorem key_feq{v:Vl}(h:keyB v=true):feq v.flt v.flt=true:=by
 unfold keyB Vl.ok at h
 simp only[Bool.and_eq_true,bne_iff_ne,ne_eq,Bool.not_eq_true',Bool.and_eq_false_iff,Bool.or_eq_false_iff,beq_eq_false_iff_ne]at h
 obtain⟨⟨hv,h0⟩,h3⟩:=h
 by_cases hk:v.kind=3
 ·rcases h3 with h3|h3
  ·exact absurd hk h3
  ·have:(FloatKind.f64.format.order v.flt v.flt !=some .eq)=false:=h3.1
   unfold feq
   simpa using this
 ·have hz:fz v.flt=true:=by
   unfold validB at hv
   by_cases k1:v.kind=1
   ·simp[k1]at hv;simp[hv]
   by_cases k2:v.kind=2
   ·simp[k2]at hv;simp[hv]
   by_cases k4:v.kind=4
   ·simp[k4]at hv;simp[hv]
   by_cases k5:v.kind=5
   ·simp[k5]at hv;simp[hv]
   by_cases k6:v.kind=6
   ·simp[k6]at hv;simp[hv]
   by_cases k7:v.kind=7
   ·simp[k7]at hv;simp[hv]
   by_cases k8:v.kind=8
   ·simp[k8]at hv;simp[hv]
   exfalso
   simp[h0,hk,k1,k2,k4,k5,k6,k7,k8]at hv
  exact fz_self hz
end
end Go.Proofs.YtgmlkfgfjjggnaaGreatDoor
