import Derived.Deep.QuietTactic
import Derived.BigQuiet
import Derived.Test.YtgmlkfgfjjggnaaGreatDoorSAL
import Derived.Test.YtgmlkfgfjjggnaaGreatDoorSAP
import Derived.Test.YtgmlkfgfjjggnaaGreatDoorSAQ
import Derived.OrdersHeld
import Derived.Deep.RegionHeld
import Derived.Test.YtgmlkfgfjjggnaaGreatDoorSAA
import Derived.Handy
import Derived.Deep.RegionLaw
import Derived.Lib.SliceRun
import Derived.Test.YtgmlkfgfjjggnaaGreatDoorSAO
import Derived.Laws.OwnMore
import Derived.Test.YtgmlkfgfjjggnaaGreatDoorSAN
import Derived.Deep.MidRow
import Derived.Deep.Cut
import Derived.Test.YtgmlkfgfjjggnaaGreatDoorSAJ
set_option linter.unusedVariables false
set_option linter.unusedSimpArgs false
set_option maxHeartbeats 40000000
set_option maxRecDepth 100000
namespace Go.Proofs.YtgmlkfgfjjggnaaGreatDoor
section
open Go.RowKit
attribute [local go_sem] run_store_float run_equalIn_float
theorem isBelow_any(n lim nm:Int)(w:World):
  Calls Tryz.prog 83 #[.int .i64 n,.int .i64 lim,.int .i64 nm] w fun e w'=>e=.returned (.bool (belowB n lim nm))/\w'=w:=by
 by_cases h:nm=0
 ·have hd:(nm==0)=true:=by simp[h]
  have HT:Hid (belowB n lim nm=(decide (0<=n)&&decide (n<1))):=uy (by unfold belowB;rw[if_pos h])
  clear h
  cases t:decide (0<=n)
  ·go_enter Tryz.func83,Tryz.ntmps83
   go_wp2
   go_ret
   exact⟨by rw[uh HT,t];rfl,rfl⟩
  ·go_enter Tryz.func83,Tryz.ntmps83
   go_wp2
   go_ret
   exact⟨by rw[uh HT,t];rfl,rfl⟩
 ·have hd:(nm==0)=false:=by simp[h]
  have HT:Hid (belowB n lim nm=(decide (0<=n)&&decide (n<lim))):=uy (by unfold belowB;rw[if_neg h])
  clear h
  cases t:decide (0<=n)
  ·go_enter Tryz.func83,Tryz.ntmps83
   go_wp2
   go_ret
   exact⟨by rw[uh HT,t];rfl,rfl⟩
  ·go_enter Tryz.func83,Tryz.ntmps83
   go_wp2
   go_ret
   exact⟨by rw[uh HT,t];rfl,rfl⟩
theorem isOperand_any(v:Vl)(nm:Int)(w:World):
  Calls Tryz.prog 84 #[V v.kind v.num v.flt v.str v.ref,.int .i64 nm] w fun e w'=>e=.returned (.bool (operB v nm))/\Below w.heap.size w w':=by
 have hb0:Below w.heap.size w (w.alloc (.cells #[.int .i64 v.kind,.int .i64 v.num,.float .f64 v.flt,.string v.str,.int .i64 v.ref] 43)):=(Below.refl _ _).alloc (Nat.le_refl _) _
 have HB:=uy hb0
 clear hb0
 cases t0:v.ok
 ·have HT:Hid (operB v nm=false):=uy (by unfold operB;rw[t0];rfl)
  go_enter Tryz.func84,Tryz.ntmps84
  go_wp2_with fail
  refine((show validB v.kind v.num v.flt v.str v.ref=_ from t0)▸isValid_any v.kind v.num v.flt v.str v.ref _).mono ?_
  rintro e w1 ⟨rfl,hb⟩
  go_wp2_with fail
  go_ret
  exact⟨by rw[uh HT];rfl,(uh HB).trans (hb.mono (uh HB).size)⟩
 ·by_cases h:nm=0
  ·have hd:(nm==0)=true:=by simp[h]
   have hd':(nm !=0)=false:=by simp[h]
   have HT:Hid (operB v nm=(v.kind==0)):=uy (by unfold operB;rw[t0,hd'];rfl)
   clear h
   go_enter Tryz.func84,Tryz.ntmps84
   go_wp2_with fail
   refine((show validB v.kind v.num v.flt v.str v.ref=_ from t0)▸isValid_any v.kind v.num v.flt v.str v.ref _).mono ?_
   rintro e w1 ⟨rfl,hb⟩
   obtain⟨hc,hf⟩:=bcell hb
   have HB:=uy ((uh HB).trans (hb.mono (uh HB).size))
   clear hb
   go_wp2_with fail
   go_ret
   exact⟨by rw[uh HT];rfl,uh HB⟩
  ·have hd:(nm==0)=false:=by simp[h]
   have hd':(nm !=0)=true:=by simp[h]
   have HT:Hid (operB v nm=true):=uy (by unfold operB;rw[t0,hd'];rfl)
   clear h
   go_enter Tryz.func84,Tryz.ntmps84
   go_wp2_with fail
   refine((show validB v.kind v.num v.flt v.str v.ref=_ from t0)▸isValid_any v.kind v.num v.flt v.str v.ref _).mono ?_
   rintro e w1 ⟨rfl,hb⟩
   obtain⟨hc,hf⟩:=bcell hb
   have HB:=uy ((uh HB).trans (hb.mono (uh HB).size))
   clear hb
   go_wp2_with fail
   go_ret
   exact⟨by rw[uh HT];rfl,uh HB⟩
theorem ix_deeds(op:Int)(h1:1<=op)(h9:op<=9):∃fn,∀w,(Instr.index 149 deedsV (.int .i64 op)).run Tryz.prog w=.ok (.agg #[.int .i64 (nmI op),fn]) w:=by
 rcases(by omega:op=1\/op=2\/op=3\/op=4\/op=5\/op=6\/op=7\/op=8\/op=9)with rfl|rfl|rfl|rfl|rfl|rfl|rfl|rfl|rfl
 ·exact⟨.func (.func 141) #[] #[],fun w=>by kernel_rfl⟩
 ·exact⟨.func (.func 142) #[] #[],fun w=>by kernel_rfl⟩
 ·exact⟨.func (.func 143) #[] #[],fun w=>by kernel_rfl⟩
 ·exact⟨.func (.func 144) #[] #[],fun w=>by kernel_rfl⟩
 ·exact⟨.func (.func 145) #[] #[],fun w=>by kernel_rfl⟩
 ·exact⟨.func (.func 146) #[] #[],fun w=>by kernel_rfl⟩
 ·exact⟨.func (.func 147) #[] #[],fun w=>by kernel_rfl⟩
 ·exact⟨.func (.func 148) #[] #[],fun w=>by kernel_rfl⟩
 ·exact⟨.func (.func 149) #[] #[],fun w=>by kernel_rfl⟩
theorem fd_deed(x:Int)(fn:Value)(w:World):(Instr.field 148 (.agg #[.int .i64 x,fn]) 0).run Tryz.prog w=.ok (.int .i64 x) w:=by kernel_rfl
theorem implActOk(a:Ac)(w:World):
  Calls Tryz.prog 32 #[AcV a] w fun e w'=>e=.returned (.bool (actB a))/\Below w.heap.size w w':=by
 obtain⟨W,hW⟩:∃W,W=w.alloc (.cells #[.int .i64 a.op,.int .i64 a.t,.int .i64 a.site,.int .i64 a.n,.int .i64 a.k.kind,.int .i64 a.k.num,.float .f64 a.k.flt,.string a.k.str,.int .i64 a.k.ref,.int .i64 a.v.kind,.int .i64 a.v.num,.float .f64 a.v.flt,.string a.v.str,.int .i64 a.v.ref] 51):=⟨_,rfl⟩
 have hb0:Below w.heap.size w W:=by rw[hW];exact(Below.refl _ _).alloc (Nat.le_refl _) _
 have c0:W.cell? ⟨w.heap.size,0,none⟩=some (.int .i64 a.op):=by rw[hW];simp[go_sem]
 have c1:W.cell? ⟨w.heap.size,1,none⟩=some (.int .i64 a.t):=by rw[hW];simp[go_sem]
 have c2:W.cell? ⟨w.heap.size,2,none⟩=some (.int .i64 a.site):=by rw[hW];simp[go_sem]
 have c3:W.cell? ⟨w.heap.size,3,none⟩=some (.int .i64 a.n):=by rw[hW];simp[go_sem]
 have c4:W.cell? ⟨w.heap.size,4,none⟩=some (.int .i64 a.k.kind):=by rw[hW];simp[go_sem]
 have c5:W.cell? ⟨w.heap.size,5,none⟩=some (.int .i64 a.k.num):=by rw[hW];simp[go_sem]
 have c6:W.cell? ⟨w.heap.size,6,none⟩=some (.float .f64 a.k.flt):=by rw[hW];simp[go_sem]
 have c7:W.cell? ⟨w.heap.size,7,none⟩=some (.string a.k.str):=by rw[hW];simp[go_sem]
 have c8:W.cell? ⟨w.heap.size,8,none⟩=some (.int .i64 a.k.ref):=by rw[hW];simp[go_sem]
 have c9:W.cell? ⟨w.heap.size,9,none⟩=some (.int .i64 a.v.kind):=by rw[hW];simp[go_sem]
 have c10:W.cell? ⟨w.heap.size,10,none⟩=some (.int .i64 a.v.num):=by rw[hW];simp[go_sem]
 have c11:W.cell? ⟨w.heap.size,11,none⟩=some (.float .f64 a.v.flt):=by rw[hW];simp[go_sem]
 have c12:W.cell? ⟨w.heap.size,12,none⟩=some (.string a.v.str):=by rw[hW];simp[go_sem]
 have c13:W.cell? ⟨w.heap.size,13,none⟩=some (.int .i64 a.v.ref):=by rw[hW];simp[go_sem]
 have hzW:w.heap.size<W.heap.size:=by rw[hW];simp
 have HB:=uy hb0
 clear hb0
 by_cases h1:a.op<1
 ·have hd:decide (a.op<1)=true:=by simp[h1]
  have HT:Hid (actB a=false):=uy (by unfold actB;simp[show a.op≠1 by omega,show a.op≠2 by omega,show a.op≠3 by omega,show a.op≠4 by omega,show a.op≠5 by omega,show a.op≠6 by omega,show a.op≠7 by omega,show a.op≠8 by omega,show a.op≠9 by omega])
  clear h1
  go_enter Tryz.func32,Tryz.ntmps32
  go_wp2_with fail
  go_ret
  exact⟨by rw[uh HT];rfl,by rw[<-hW];exact uh HB⟩
 have hd:decide (a.op<1)=false:=by simp[h1]
 by_cases h9:9<a.op
 ·have hd':decide (9<a.op)=true:=by simp[h9]
  have HT:Hid (actB a=false):=uy (by unfold actB;simp[show a.op≠1 by omega,show a.op≠2 by omega,show a.op≠3 by omega,show a.op≠4 by omega,show a.op≠5 by omega,show a.op≠6 by omega,show a.op≠7 by omega,show a.op≠8 by omega,show a.op≠9 by omega])
  clear h1 h9
  go_enter Tryz.func32,Tryz.ntmps32
  go_wp2_with fail
  go_ret
  exact⟨by rw[uh HT];rfl,by rw[<-hW];exact uh HB⟩
 have hd':decide (9<a.op)=false:=by simp[h9]
 obtain⟨fn,hix⟩:=ix_deeds a.op (by omega) (by omega)
 have hfd:=fd_deed
 have HR:Hid (1<=a.op/\a.op<=9):=uy ⟨by omega,by omega⟩
 clear h1 h9
 go_enter Tryz.func32,Tryz.ntmps32
 go_wp2_with fail
 rw[<-hW]
 clear hW
 refine wp_region_quiet (C:=fun w'=>Below W.heap.size W w') (by kernel_rfl) (by kernel_rfl) ((Below.refl _ _).drew) ?_
 show wpQuiet _ _ _ _ [_,_,_,_,_,_] _
 refine wpQuiet_step (fun K hK=>?_)
 go_simp
 apply Exists.intro
 refine And.intro (fun w' hw'=>?_) (hK _ ?_)
 ·refine(deeds_any _).mono ?_
  rintro e w'' ⟨rfl,hb⟩
  exact⟨rfl,hw'.trans (hb.mono hw'.size)⟩
 clear hK K
 (refine wpQuiet_step (fun K hK=>?_);go_simp;refine⟨_,fun w' hw'=>rfl,hK _ ?_⟩;clear hK K)
 (refine wpQuiet_step (fun K hK=>?_);go_simp;refine Exists.intro ?_ (And.intro (fun w' hw'=>?_) (hK _ ?_));rotate_left;obtain⟨hc',hf'⟩:=bcell hw';go_simp;first|rfl|exact⟨rfl,rfl⟩|exact⟨rfl⟩;clear hK K)
 refine wpQuiet_step (fun K hK=>?_)
 go_simp
 apply Exists.intro
 refine And.intro (fun w' hw'=>?_) (hK _ ?_)
 ·rfl
 clear hK K
 refine wpQuiet_step (fun K hK=>?_)
 go_simp
 apply Exists.intro
 refine And.intro (fun w' hw'=>?_) (hK _ ?_)
 ·rfl
 clear hK K
 (refine wpQuiet_step (fun K hK=>?_);go_simp;refine⟨_,fun w' hw'=>rfl,hK _ ?_⟩;clear hK K)
 refine wpQuiet_nil ?_
 intro w1 hb1
 obtain⟨hc1,hf1⟩:=bcell hb1
 have e0:=(hc1 _ _ hzW).trans c0
 have e1:=(hc1 _ _ hzW).trans c1
 have e2:=(hc1 _ _ hzW).trans c2
 have e3:=(hc1 _ _ hzW).trans c3
 have e4:=(hc1 _ _ hzW).trans c4
 have e5:=(hc1 _ _ hzW).trans c5
 have e6:=(hc1 _ _ hzW).trans c6
 have e7:=(hc1 _ _ hzW).trans c7
 have e8:=(hc1 _ _ hzW).trans c8
 have e9:=(hc1 _ _ hzW).trans c9
 have e10:=(hc1 _ _ hzW).trans c10
 have e11:=(hc1 _ _ hzW).trans c11
 have e12:=(hc1 _ _ hzW).trans c12
 have e13:=(hc1 _ _ hzW).trans c13
 have hz1:w.heap.size<w1.heap.size:=Nat.lt_of_lt_of_le hzW hb1.size
 have HB:=uy ((uh HB).trans (hb1.mono (uh HB).size))
 clear hb1 hc1 hf1 c0 c1 c2 c3 c4 c5 c6 c7 c8 c9 c10 c11 c12 c13 hzW hd hd' hix hfd
 have HQ:=uy (implB_eq a (uh HR).1 (uh HR).2)
 cases t0:belowB a.t 100 (bt a.op 1)
 case false=>
  have HT:Hid (actB a=false):=uy (by rw[<-uh HQ];unfold implB;simp[t0])
  go_wp2_with fail
  refine(t0▸isBelow_any a.t 100 (bt a.op 1) _).mono ?_
  rintro e w2 ⟨rfl,rfl⟩
  go_wp2_with fail
  go_ret
  exact⟨by rw[uh HT];rfl,uh HB⟩
 cases t1:belowB a.site 50 (bt a.op 2)
 case false=>
  have HT:Hid (actB a=false):=uy (by rw[<-uh HQ];unfold implB;simp[t1])
  go_wp2_with fail
  refine(t0▸isBelow_any a.t 100 (bt a.op 1) _).mono ?_
  rintro e w2 ⟨rfl,rfl⟩
  go_wp2_with fail
  refine(t1▸isBelow_any a.site 50 (bt a.op 2) _).mono ?_
  rintro e w3 ⟨rfl,rfl⟩
  go_wp2_with fail
  go_ret
  exact⟨by rw[uh HT];rfl,uh HB⟩
 cases t2:belowB a.n 1000000000001 (bt a.op 4)
 case false=>
  have HT:Hid (actB a=false):=uy (by rw[<-uh HQ];unfold implB;simp[t2])
  go_wp2_with fail
  refine(t0▸isBelow_any a.t 100 (bt a.op 1) _).mono ?_
  rintro e w2 ⟨rfl,rfl⟩
  go_wp2_with fail
  refine(t1▸isBelow_any a.site 50 (bt a.op 2) _).mono ?_
  rintro e w3 ⟨rfl,rfl⟩
  go_wp2_with fail
  refine(t2▸isBelow_any a.n 1000000000001 (bt a.op 4) _).mono ?_
  rintro e w4 ⟨rfl,rfl⟩
  go_wp2_with fail
  go_ret
  exact⟨by rw[uh HT];rfl,uh HB⟩
 cases t3:operB a.k (bt a.op 8)
 case false=>
  have HT:Hid (actB a=false):=uy (by rw[<-uh HQ];unfold implB;simp[t3])
  go_wp2_with fail
  refine(t0▸isBelow_any a.t 100 (bt a.op 1) _).mono ?_
  rintro e w2 ⟨rfl,rfl⟩
  go_wp2_with fail
  refine(t1▸isBelow_any a.site 50 (bt a.op 2) _).mono ?_
  rintro e w3 ⟨rfl,rfl⟩
  go_wp2_with fail
  refine(t2▸isBelow_any a.n 1000000000001 (bt a.op 4) _).mono ?_
  rintro e w4 ⟨rfl,rfl⟩
  go_wp2_with fail
  refine(t3▸isOperand_any a.k (bt a.op 8) _).mono ?_
  rintro e w5 ⟨rfl,hb⟩
  obtain⟨hc,hf⟩:=bcell hb
  have e0:=(hc _ _ hz1).trans e0
  have e1:=(hc _ _ hz1).trans e1
  have e2:=(hc _ _ hz1).trans e2
  have e3:=(hc _ _ hz1).trans e3
  have e4:=(hc _ _ hz1).trans e4
  have e5:=(hc _ _ hz1).trans e5
  have e6:=(hc _ _ hz1).trans e6
  have e7:=(hc _ _ hz1).trans e7
  have e8:=(hc _ _ hz1).trans e8
  have e9:=(hc _ _ hz1).trans e9
  have e10:=(hc _ _ hz1).trans e10
  have e11:=(hc _ _ hz1).trans e11
  have e12:=(hc _ _ hz1).trans e12
  have e13:=(hc _ _ hz1).trans e13
  have hz1:=Nat.lt_of_lt_of_le hz1 hb.size
  have HB:=uy ((uh HB).trans (hb.mono (uh HB).size))
  clear hb hc hf
  go_wp2_with fail
  go_ret
  exact⟨by rw[uh HT];rfl,uh HB⟩
 cases t4:operB a.v (bt a.op 16)
 case false=>
  have HT:Hid (actB a=false):=uy (by rw[<-uh HQ];unfold implB;simp[t4])
  go_wp2_with fail
  refine(t0▸isBelow_any a.t 100 (bt a.op 1) _).mono ?_
  rintro e w2 ⟨rfl,rfl⟩
  go_wp2_with fail
  refine(t1▸isBelow_any a.site 50 (bt a.op 2) _).mono ?_
  rintro e w3 ⟨rfl,rfl⟩
  go_wp2_with fail
  refine(t2▸isBelow_any a.n 1000000000001 (bt a.op 4) _).mono ?_
  rintro e w4 ⟨rfl,rfl⟩
  go_wp2_with fail
  refine(t3▸isOperand_any a.k (bt a.op 8) _).mono ?_
  rintro e w5 ⟨rfl,hb⟩
  obtain⟨hc,hf⟩:=bcell hb
  have e0:=(hc _ _ hz1).trans e0
  have e1:=(hc _ _ hz1).trans e1
  have e2:=(hc _ _ hz1).trans e2
  have e3:=(hc _ _ hz1).trans e3
  have e4:=(hc _ _ hz1).trans e4
  have e5:=(hc _ _ hz1).trans e5
  have e6:=(hc _ _ hz1).trans e6
  have e7:=(hc _ _ hz1).trans e7
  have e8:=(hc _ _ hz1).trans e8
  have e9:=(hc _ _ hz1).trans e9
  have e10:=(hc _ _ hz1).trans e10
  have e11:=(hc _ _ hz1).trans e11
  have e12:=(hc _ _ hz1).trans e12
  have e13:=(hc _ _ hz1).trans e13
  have hz1:=Nat.lt_of_lt_of_le hz1 hb.size
  have HB:=uy ((uh HB).trans (hb.mono (uh HB).size))
  clear hb hc hf
  go_wp2_with fail
  refine(t4▸isOperand_any a.v (bt a.op 16) _).mono ?_
  rintro e w6 ⟨rfl,hb⟩
  obtain⟨hc,hf⟩:=bcell hb
  have e0:=(hc _ _ hz1).trans e0
  have e1:=(hc _ _ hz1).trans e1
  have e2:=(hc _ _ hz1).trans e2
  have e3:=(hc _ _ hz1).trans e3
  have e4:=(hc _ _ hz1).trans e4
  have e5:=(hc _ _ hz1).trans e5
  have e6:=(hc _ _ hz1).trans e6
  have e7:=(hc _ _ hz1).trans e7
  have e8:=(hc _ _ hz1).trans e8
  have e9:=(hc _ _ hz1).trans e9
  have e10:=(hc _ _ hz1).trans e10
  have e11:=(hc _ _ hz1).trans e11
  have e12:=(hc _ _ hz1).trans e12
  have e13:=(hc _ _ hz1).trans e13
  have hz1:=Nat.lt_of_lt_of_le hz1 hb.size
  have HB:=uy ((uh HB).trans (hb.mono (uh HB).size))
  clear hb hc hf
  go_wp2_with fail
  go_ret
  exact⟨by rw[uh HT];rfl,uh HB⟩
 have HT:Hid (actB a=(a.op !=7||a.k.kind==4)):=uy (by rw[<-uh HQ];unfold implB;rw[t0,t1,t2,t3,t4];rfl)
 by_cases h7:a.op=7
 ·have o1:(a.op==7)=true:=by simp[h7]
  have o2:(a.op !=7)=false:=by simp[h7]
  have HT:Hid (actB a=(a.k.kind==4)):=uy (by rw[uh HT,o2];rfl)
  clear h7
  go_wp2_with fail
  refine(t0▸isBelow_any a.t 100 (bt a.op 1) _).mono ?_
  rintro e w2 ⟨rfl,rfl⟩
  go_wp2_with fail
  refine(t1▸isBelow_any a.site 50 (bt a.op 2) _).mono ?_
  rintro e w3 ⟨rfl,rfl⟩
  go_wp2_with fail
  refine(t2▸isBelow_any a.n 1000000000001 (bt a.op 4) _).mono ?_
  rintro e w4 ⟨rfl,rfl⟩
  go_wp2_with fail
  refine(t3▸isOperand_any a.k (bt a.op 8) _).mono ?_
  rintro e w5 ⟨rfl,hb⟩
  obtain⟨hc,hf⟩:=bcell hb
  have e0:=(hc _ _ hz1).trans e0
  have e1:=(hc _ _ hz1).trans e1
  have e2:=(hc _ _ hz1).trans e2
  have e3:=(hc _ _ hz1).trans e3
  have e4:=(hc _ _ hz1).trans e4
  have e5:=(hc _ _ hz1).trans e5
  have e6:=(hc _ _ hz1).trans e6
  have e7:=(hc _ _ hz1).trans e7
  have e8:=(hc _ _ hz1).trans e8
  have e9:=(hc _ _ hz1).trans e9
  have e10:=(hc _ _ hz1).trans e10
  have e11:=(hc _ _ hz1).trans e11
  have e12:=(hc _ _ hz1).trans e12
  have e13:=(hc _ _ hz1).trans e13
  have hz1:=Nat.lt_of_lt_of_le hz1 hb.size
  have HB:=uy ((uh HB).trans (hb.mono (uh HB).size))
  clear hb hc hf
  go_wp2_with fail
  refine(t4▸isOperand_any a.v (bt a.op 16) _).mono ?_
  rintro e w6 ⟨rfl,hb⟩
  obtain⟨hc,hf⟩:=bcell hb
  have e0:=(hc _ _ hz1).trans e0
  have e1:=(hc _ _ hz1).trans e1
  have e2:=(hc _ _ hz1).trans e2
  have e3:=(hc _ _ hz1).trans e3
  have e4:=(hc _ _ hz1).trans e4
  have e5:=(hc _ _ hz1).trans e5
  have e6:=(hc _ _ hz1).trans e6
  have e7:=(hc _ _ hz1).trans e7
  have e8:=(hc _ _ hz1).trans e8
  have e9:=(hc _ _ hz1).trans e9
  have e10:=(hc _ _ hz1).trans e10
  have e11:=(hc _ _ hz1).trans e11
  have e12:=(hc _ _ hz1).trans e12
  have e13:=(hc _ _ hz1).trans e13
  have hz1:=Nat.lt_of_lt_of_le hz1 hb.size
  have HB:=uy ((uh HB).trans (hb.mono (uh HB).size))
  clear hb hc hf
  go_wp2_with fail
  go_ret
  exact⟨by rw[uh HT];rfl,uh HB⟩
 ·have o1:(a.op==7)=false:=by simp[h7]
  have o2:(a.op !=7)=true:=by simp[h7]
  have HT:Hid (actB a=true):=uy (by rw[uh HT,o2];rfl)
  clear h7
  go_wp2_with fail
  refine(t0▸isBelow_any a.t 100 (bt a.op 1) _).mono ?_
  rintro e w2 ⟨rfl,rfl⟩
  go_wp2_with fail
  refine(t1▸isBelow_any a.site 50 (bt a.op 2) _).mono ?_
  rintro e w3 ⟨rfl,rfl⟩
  go_wp2_with fail
  refine(t2▸isBelow_any a.n 1000000000001 (bt a.op 4) _).mono ?_
  rintro e w4 ⟨rfl,rfl⟩
  go_wp2_with fail
  refine(t3▸isOperand_any a.k (bt a.op 8) _).mono ?_
  rintro e w5 ⟨rfl,hb⟩
  obtain⟨hc,hf⟩:=bcell hb
  have e0:=(hc _ _ hz1).trans e0
  have e1:=(hc _ _ hz1).trans e1
  have e2:=(hc _ _ hz1).trans e2
  have e3:=(hc _ _ hz1).trans e3
  have e4:=(hc _ _ hz1).trans e4
  have e5:=(hc _ _ hz1).trans e5
  have e6:=(hc _ _ hz1).trans e6
  have e7:=(hc _ _ hz1).trans e7
  have e8:=(hc _ _ hz1).trans e8
  have e9:=(hc _ _ hz1).trans e9
  have e10:=(hc _ _ hz1).trans e10
  have e11:=(hc _ _ hz1).trans e11
  have e12:=(hc _ _ hz1).trans e12
  have e13:=(hc _ _ hz1).trans e13
  have hz1:=Nat.lt_of_lt_of_le hz1 hb.size
  have HB:=uy ((uh HB).trans (hb.mono (uh HB).size))
  clear hb hc hf
  go_wp2_with fail
  refine(t4▸isOperand_any a.v (bt a.op 16) _).mono ?_
  rintro e w6 ⟨rfl,hb⟩
  obtain⟨hc,hf⟩:=bcell hb
  have e0:=(hc _ _ hz1).trans e0
  have e1:=(hc _ _ hz1).trans e1
  have e2:=(hc _ _ hz1).trans e2
  have e3:=(hc _ _ hz1).trans e3
  have e4:=(hc _ _ hz1).trans e4
  have e5:=(hc _ _ hz1).trans e5
  have e6:=(hc _ _ hz1).trans e6
  have e7:=(hc _ _ hz1).trans e7
  have e8:=(hc _ _ hz1).trans e8
  have e9:=(hc _ _ hz1).trans e9
  have e10:=(hc _ _ hz1).trans e10
  have e11:=(hc _ _ hz1).trans e11
  have e12:=(hc _ _ hz1).trans e12
  have e13:=(hc _ _ hz1).trans e13
  have hz1:=Nat.lt_of_lt_of_le hz1 hb.size
  have HB:=uy ((uh HB).trans (hb.mono (uh HB).size))
  clear hb hc hf
  go_wp2_with fail
  go_ret
  exact⟨by rw[uh HT];rfl,uh HB⟩
end
section
open Go.RowKit
attribute [local go_sem] run_store_float run_equalIn_float
def errV(c:Int):Value:=if c=0 then .nilIface else .iface 267 (.agg #[.int .i64 c])
theorem codeOf_any(c:Int)(w:World)(hg:ErrG w):
  Calls Tryz.prog 114 #[errV c] w fun e w'=>e=.returned (.int .i64 c)/\Below w.heap.size w w':=by
 unfold errV
 by_cases h0:c=0
 ·subst h0
  rw[if_pos rfl]
  go_enter Tryz.func114,Tryz.ntmps114
  go_wp2_with (go_at_call 183;refine(as_nil _ _).mono ?_;rintro e w1 ⟨rfl,rfl⟩)
  go_ret
  exact⟨rfl,(Below.refl _ _).alloc (Nat.le_refl _) _⟩
 ·rw[if_neg h0]
  clear h0
  have hlt:=hg.lt
  obtain⟨W,hW⟩:∃W,W=w.alloc (.cells #[.int .i64 0] 267):=⟨_,rfl⟩
  have hb0:Below w.heap.size w W:=by rw[hW];exact(Below.refl _ _).alloc (Nat.le_refl _) _
  have hgW:ErrG W:=hg.below hb0 hlt
  have hl:w.heap.size<W.heap.size:=by rw[hW];simp
  have q0:W.cell? ⟨w.heap.size,0,none⟩=some (.int .i64 0):=by rw[hW];simp[go_sem]
  have q1:W.frozen? ⟨w.heap.size,0,none⟩=false:=by rw[hW];simp[go_sem]
  have HB:=uy hb0
  go_enter Tryz.func114,Tryz.ntmps114
  go_wp2_with fail
  rw[<-hW]
  refine(as_hit c w.heap.size _ W hgW hl q0 q1).mono ?_
  rintro e w1 ⟨rfl,h1⟩
  have hb1:Below w.heap.size w w1:=by
   rw[h1]
   refine Below.setCell (p:=⟨w.heap.size,0,none⟩) ?_ (Nat.le_refl _) _
   exact((((uh HB).alloc (by omega) _).alloc (by simp;omega) _).alloc (by simp;omega) _).alloc (by simp;omega) _
  have q2:w1.cell? ⟨w.heap.size,0,none⟩=some (.int .i64 c):=by
   rw[h1]
   apply World.cell?_setCell_same (u:=.int .i64 0)
   rw[World.cell?_alloc_lt _ _ ⟨w.heap.size,0,none⟩ (by simp;omega),World.cell?_alloc_lt _ _ ⟨w.heap.size,0,none⟩ (by simp;omega),World.cell?_alloc_lt _ _ ⟨w.heap.size,0,none⟩ (by simp;omega),World.cell?_alloc_lt _ _ ⟨w.heap.size,0,none⟩ hl]
   exact q0
  clear h1 hW q0 q1 hgW
  go_wp2_with fail
  go_ret
  exact⟨rfl,hb1⟩
end
section
open Go.RowKit
attribute [local go_sem] run_store_float run_equalIn_float
theorem bts{op:Int}(h1:1<=op)(h9:op<=9):(bt op 1!=0)=tabB op/\(bt op 2!=0)=sitB op/\(bt op 8!=0)=(op==2||op==3||op==7):=by
 rcases(by omega:op=1\/op=2\/op=3\/op=4\/op=5\/op=6\/op=7\/op=8\/op=9)with rfl|rfl|rfl|rfl|rfl|rfl|rfl|rfl|rfl
 ·rw[bt1.1,bt1.2.1,bt1.2.2.2.1];decide
 ·rw[bt2.1,bt2.2.1,bt2.2.2.2.1];decide
 ·rw[bt3.1,bt3.2.1,bt3.2.2.2.1];decide
 ·rw[bt4.1,bt4.2.1,bt4.2.2.2.1];decide
 ·rw[bt5.1,bt5.2.1,bt5.2.2.2.1];decide
 ·rw[bt6.1,bt6.2.1,bt6.2.2.2.1];decide
 ·rw[bt7.1,bt7.2.1,bt7.2.2.2.1];decide
 ·rw[bt8.1,bt8.2.1,bt8.2.2.2.1];decide
 ·rw[bt9.1,bt9.2.1,bt9.2.2.2.1];decide
theorem fd_keyed(c k n:Int)(f:Nat)(s:ByteArray)(r:Int)(w:World):(Instr.field 182 (KV c k n f s r) 0).run Tryz.prog w=.ok (.int .i64 c) w:=by kernel_rfl
theorem site_key{a:Ac}(h:actB a=true)(h7:a.op=7):kcode a.k=0:=by
 have h1:=actB_site h h7
 have h2:=(actB_rng h).2.2.1
 unfold kcode
 rw[if_pos h2,if_neg (by omega),if_neg (by omega)]
theorem chk_by{a:Ac}(h:actB a=true)(nt ns:Nat):chk a nt ns=if(bt a.op 1!=0)=true/\(nt:Int)<=a.t then 2 else if(bt a.op 2!=0)=true/\(ns:Int)<=a.site then 3 else if(bt a.op 8!=0)=true/\kcode a.k≠0 then 4 else 0:=by
 obtain⟨_,_,_,_,_,h1,h9⟩:=actB_rng h
 obtain⟨e1,e2,e3⟩:=bts h1 h9
 unfold chk
 rw[if_neg (by rw[h];simp),e1,e2,e3]
 by_cases h7:a.op=7
 ·have hk:=site_key h h7
  simp[hk]
 ·congr 2
  simp[h7]
theorem check_any(a:Ac)(nt ns:Nat)(w:World)(hnt:nt<=100)(hns:ns<=50):
  Calls Tryz.prog 182 #[AcV a,.int .i64 nt,.int .i64 ns] w fun e w'=>e=.returned (errV (chk a nt ns))/\Below w.heap.size w w':=by
 obtain⟨W,hW⟩:∃W,W=w.alloc (.cells #[.int .i64 a.op,.int .i64 a.t,.int .i64 a.site,.int .i64 a.n,.int .i64 a.k.kind,.int .i64 a.k.num,.float .f64 a.k.flt,.string a.k.str,.int .i64 a.k.ref,.int .i64 a.v.kind,.int .i64 a.v.num,.float .f64 a.v.flt,.string a.v.str,.int .i64 a.v.ref] 51):=⟨_,rfl⟩
 have hb0:Below w.heap.size w W:=by rw[hW];exact(Below.refl _ _).alloc (Nat.le_refl _) _
 have c0:W.cell? ⟨w.heap.size,0,none⟩=some (.int .i64 a.op):=by rw[hW];simp[go_sem]
 have c1:W.cell? ⟨w.heap.size,1,none⟩=some (.int .i64 a.t):=by rw[hW];simp[go_sem]
 have c2:W.cell? ⟨w.heap.size,2,none⟩=some (.int .i64 a.site):=by rw[hW];simp[go_sem]
 have c4:W.cell? ⟨w.heap.size,4,none⟩=some (.int .i64 a.k.kind):=by rw[hW];simp[go_sem]
 have c5:W.cell? ⟨w.heap.size,5,none⟩=some (.int .i64 a.k.num):=by rw[hW];simp[go_sem]
 have c6:W.cell? ⟨w.heap.size,6,none⟩=some (.float .f64 a.k.flt):=by rw[hW];simp[go_sem]
 have c7:W.cell? ⟨w.heap.size,7,none⟩=some (.string a.k.str):=by rw[hW];simp[go_sem]
 have c8:W.cell? ⟨w.heap.size,8,none⟩=some (.int .i64 a.k.ref):=by rw[hW];simp[go_sem]
 have hz:w.heap.size<W.heap.size:=by rw[hW];simp
 have HC:=uy (And.intro c0 (And.intro c1 (And.intro c2 (And.intro c4 (And.intro c5 (And.intro c6 (And.intro c7 c8)))))))
 have HB:=uy hb0
 clear hb0 c0 c1 c2 c4 c5 c6 c7 c8
 go_enter Tryz.func182,Tryz.ntmps182
 go_wp2_with fail
 rw[<-hW]
 clear hW
 refine(implActOk a _).mono ?_
 rintro e w1 ⟨rfl,hb1⟩
 have HB1:=uy ((uh HB).trans (hb1.mono (uh HB).size))
 have hz1:w.heap.size<w1.heap.size:=Nat.lt_of_lt_of_le hz hb1.size
 have c0:=(hb1.cell (p:=⟨w.heap.size,0,none⟩) hz).trans (uh HC).1
 have HC1:Hid (w1.heap[w.heap.size]?=W.heap[w.heap.size]?):=uy (hb1.block _ hz)
 clear hb1
 cases hA:actB a
 ·have HR:Hid (chk a nt ns=1):=uy (by unfold chk;rw[if_pos hA])
  go_wp2_with fail
  go_ret
  exact⟨by rw[uh HR];rfl,uh HB1⟩
 ·have HR:=uy (chk_by hA nt ns)
  obtain⟨_,_,_,_,_,h1,h9⟩:=actB_rng hA
  obtain⟨fn,hix⟩:=ix_deeds a.op (by omega) (by omega)
  have hfd:=fd_deed
  clear h1 h9
  go_wp2_with fail
  refine wp_region_quiet (C:=fun w'=>Below w1.heap.size w1 w') (by kernel_rfl) (by kernel_rfl) ((Below.refl _ _).drew) ?_
  show wpQuiet _ _ _ _ [_,_,_,_,_,_] _
  refine wpQuiet_step (fun K hK=>?_)
  go_simp
  apply Exists.intro
  refine And.intro (fun w' hw'=>?_) (hK _ ?_)
  ·refine(deeds_any _).mono ?_
   rintro e w'' ⟨rfl,hb⟩
   exact⟨rfl,hw'.trans (hb.mono hw'.size)⟩
  clear hK K
  (refine wpQuiet_step (fun K hK=>?_);go_simp;refine⟨_,fun w' hw'=>rfl,hK _ ?_⟩;clear hK K)
  (refine wpQuiet_step (fun K hK=>?_);go_simp;refine Exists.intro ?_ (And.intro (fun w' hw'=>?_) (hK _ ?_));rotate_left;obtain⟨hc',hf'⟩:=bcell hw';go_simp;first|rfl|exact⟨rfl,rfl⟩|exact⟨rfl⟩;clear hK K)
  refine wpQuiet_step (fun K hK=>?_)
  go_simp
  apply Exists.intro
  refine And.intro (fun w' hw'=>?_) (hK _ ?_)
  ·rfl
  clear hK K
  refine wpQuiet_step (fun K hK=>?_)
  go_simp
  apply Exists.intro
  refine And.intro (fun w' hw'=>?_) (hK _ ?_)
  ·rfl
  clear hK K
  (refine wpQuiet_step (fun K hK=>?_);go_simp;refine⟨_,fun w' hw'=>rfl,hK _ ?_⟩;clear hK K)
  refine wpQuiet_nil ?_
  intro w2 hb2
  have hz2:w.heap.size<w2.heap.size:=Nat.lt_of_lt_of_le hz1 hb2.size
  have hk2:=(hb2.block _ hz1).trans (uh HC1)
  obtain⟨_,c1,c2,c4,c5,c6,c7,c8⟩:=uh HC
  have c1:=(World.cell?_of_block (a:=⟨w.heap.size,1,none⟩) hk2).trans c1
  have c2:=(World.cell?_of_block (a:=⟨w.heap.size,2,none⟩) hk2).trans c2
  have c4:=(World.cell?_of_block (a:=⟨w.heap.size,4,none⟩) hk2).trans c4
  have c5:=(World.cell?_of_block (a:=⟨w.heap.size,5,none⟩) hk2).trans c5
  have c6:=(World.cell?_of_block (a:=⟨w.heap.size,6,none⟩) hk2).trans c6
  have c7:=(World.cell?_of_block (a:=⟨w.heap.size,7,none⟩) hk2).trans c7
  have c8:=(World.cell?_of_block (a:=⟨w.heap.size,8,none⟩) hk2).trans c8
  have HB2:=uy ((uh HB1).trans (hb2.mono (uh HB1).size))
  have hkp:=keyV_parts a.k
  have HKP:=uy hkp
  have hfk:=fd_keyed
  clear hb2 hk2 hix hfd HC1 c0 hkp
  generalize hb1':(bt a.op 1!=0)=x1 at HR
  generalize hb2':(bt a.op 2!=0)=x2 at HR
  generalize hb3':(bt a.op 8!=0)=x3 at HR
  by_cases g1:x1=true/\(nt:Int)<=a.t
  ·have HE:Hid (chk a nt ns=2):=uy ((uh HR).trans (if_pos g1))
   obtain⟨rfl,g1⟩:=g1
   go_wp2_with fail
   go_ret
   exact⟨by rw[uh HE];rfl,uh HB2⟩
  ·have HR1:=uy ((uh HR).trans (if_neg g1))
   have q1:x1=false\/(x1=true/\¬(nt:Int)<=a.t):=by
    cases x1
    ·exact .inl rfl
    ·exact .inr ⟨rfl,fun h=>g1 ⟨rfl,h⟩⟩
   clear g1
   by_cases g2:x2=true/\(ns:Int)<=a.site
   ·have HE:Hid (chk a nt ns=3):=uy ((uh HR1).trans (if_pos g2))
    obtain⟨rfl,g2⟩:=g2
    rcases q1 with rfl|⟨rfl,g1⟩
    all_goals(go_wp2_with fail;go_ret;exact⟨by rw[uh HE];rfl,uh HB2⟩)
   ·have HR2:=uy ((uh HR1).trans (if_neg g2))
    have q2:x2=false\/(x2=true/\¬(ns:Int)<=a.site):=by
     cases x2
     ·exact .inl rfl
     ·exact .inr ⟨rfl,fun h=>g2 ⟨rfl,h⟩⟩
    clear g2
    cases x3
    ·have HE:Hid (chk a nt ns=0):=uy ((uh HR2).trans (if_neg (by simp)))
     rcases q1 with rfl|⟨rfl,g1⟩<;>rcases q2 with rfl|⟨rfl,g2⟩
     all_goals(go_wp2_with fail;go_ret;exact⟨by rw[uh HE];rfl,uh HB2⟩)
    ·by_cases g3:kcode a.k=0
     ·have HE:Hid (chk a nt ns=0):=uy ((uh HR2).trans (if_neg (by simp[g3])))
      have d3:(kcode a.k !=0)=false:=by simp[g3]
      clear g3
      rcases q1 with rfl|⟨rfl,g1⟩<;>rcases q2 with rfl|⟨rfl,g2⟩
      all_goals(go_wp2_with (go_at_call 204;refine(ikey_any a.k.kind a.k.num a.k.flt a.k.str a.k.ref _).mono ?_;rintro e w3 ⟨rfl,hb3⟩;rw[uh HKP]);go_ret;exact⟨by rw[uh HE];rfl,(uh HB2).trans (hb3.mono (uh HB2).size)⟩)
     ·have HE:Hid (chk a nt ns=4):=uy ((uh HR2).trans (if_pos ⟨rfl,g3⟩))
      have d3:(kcode a.k !=0)=true:=by simp[g3]
      clear g3
      rcases q1 with rfl|⟨rfl,g1⟩<;>rcases q2 with rfl|⟨rfl,g2⟩
      all_goals(go_wp2_with (go_at_call 204;refine(ikey_any a.k.kind a.k.num a.k.flt a.k.str a.k.ref _).mono ?_;rintro e w3 ⟨rfl,hb3⟩;rw[uh HKP]);go_ret;exact⟨by rw[uh HE];rfl,(uh HB2).trans (hb3.mono (uh HB2).size)⟩)
end
section
open Go.RowKit
def QN(Q:Exit->Act->World->Prop):Exit->Act->World->Prop
 |.normal,a,w=>Q .normal a w
 |_,_,_=>False
theorem QN.no{Q:Exit->Act->World->Prop}:¬LetsOut (QN Q):=fun⟨a,w,h⟩=>h
theorem QN.normal{Q:Exit->Act->World->Prop}{a:Act}{w:World}(h:Q .normal a w):QN Q .normal a w:=h
section
variable {P:Program} {ops:Array Oper} {md:Region.Mode}
theorem tk{Q:Exit->Act->World->Prop}{S:World->Prop}{l rest:List Oper}(i:Nat){oi:Oper}{v:Value}{fuel:Nat}{listed:Array Bool}{a:Act}{w:World}(hd:l.drop i=oi::rest)(hc:(Region.noSelect l.toArray&&Region.free md l.toArray listed i&&(Region.ready md l.toArray listed).contains i)=true)
  (hw:Region.wanted oi (yielded l.toArray a.tmps)=true) (hy:∀w,S w->(execOp a.eval oi).run P w=.ok (.value v) w) (hS:S w) (h:wpAnyH P md l.toArray (QN Q) S fuel (listed.setIfInBounds i true) (a.put oi.dst v) w):wpAnyH P md l.toArray (QN Q) S (fuel+1) listed a w:=by
 simp only[Bool.and_eq_true]at hc
 have hi:l.toArray[i]?=some oi:=by
  have h1:(l.drop i)[0]?=some oi:=by rw[hd];rfl
  rw[List.getElem?_drop]at h1
  simpa using h1
 exact wpAnyH_take hi hc.1.1 hc.1.2 hc.2 (fun _ _ _ h=>h) (Or.inl ⟨hw,hy⟩) hS h
theorem QN.imp{Q:Exit->Act->World->Prop}:∀(e:Exit) (a:Act) (w:World),QN Q e a w->Q e a w:=fun e a w h=>by
 cases e<;>first|exact h|exact False.elim h
theorem wpN_held{id:Nat}{Q:Exit->Act->World->Prop}{a:Act}{w:World}(S:World->Prop)(hm:P.follows .mixedOrders=true)(h:wpAnyH P .any ops (QN Q) S ops.size (Array.replicate ops.size false) a {w with drawn:=w.drawn+1}):(Code.region id ops true).wp P Q a w:=
 Code.wp_mono QN.imp (wp_region_held hm h)
end
end
section
open Go.RowKit
theorem tq{P:Program}{md:Region.Mode}{Q:Exit->Act->World->Prop}{S:World->Prop}{l rest:List Oper}(i:Nat){oi:Oper}{v:Value}{fuel:Nat}{listed:Array Bool}{a:Act}{w:World}(hy:∀w,S w->(execOp a.eval oi).run P w=.ok (.value v) w)(h:wpAnyH P md l.toArray (QN Q) S fuel (listed.setIfInBounds i true) (a.put oi.dst v) w)(hd:l.drop i=oi::rest:=by rfl)(hc:(Region.noSelect l.toArray&&Region.free md l.toArray listed i&&(Region.ready md l.toArray listed).contains i)=true:=by kernel_rfl)(hw:Region.wanted oi (yielded l.toArray a.tmps)=true:=by rfl)(hS:S w:=by assumption):wpAnyH P md l.toArray (QN Q) S (fuel+1) listed a w:=tk i hd hc hw hy hS h
end
section
open Go.RowKit
attribute [local go_sem] run_store_float run_equalIn_float run_store_func
structure RdT (w:World) (s:Sto) (B0:Nat) (Bk:Nat->Nat) (A:Ad) (x:Tb):Prop where
 nd:NdS w s B0 Bk
 v:VAt w A.va x.nv x.V
 d:DAt w A.la A.ia A.xa x.d
 tb:Tabs w
theorem RdT.below{w w':World}{s:Sto}{B0:Nat}{Bk:Nat->Nat}{A:Ad}{x:Tb}(h:RdT w s B0 Bk A x)(hb:Below w.heap.size w w'):RdT w' s B0 Bk A x:=⟨h.nd.below hb,h.v.below hb rfl,h.d.below hb,lastsT _ _ h.tb hb⟩
theorem kind_get{s:Sto}{B0:Nat}{Bk:Nat->Nat}{A:Ad}{x:Tb}(hf:forestOk s.nf s.F=0)(hx:TGd s x){k:Vl}(hk:Ky k):
  (kindV Bk A x=.iface 239 (HdA A x)/\∀w,RdT w s B0 Bk A x->Calls Tryz.prog 349 #[HdA A x,VVa k] w fun e w'=>e=.returned (VVa (tget s.F x k))/\Below w.heap.size w w')\/
  (∃p,kindV Bk A x=.iface 236 (ShdA p A x)/\∀w,RdT w s B0 Bk A x->Calls Tryz.prog 342 #[ShdA p A x,VVa k] w fun e w'=>e=.returned (VVa (tget s.F x k))/\Below w.heap.size w w'):=by
 rcases hx.way with⟨h1,h2,h3⟩|⟨j,h1,h2,h3,h4,h5⟩
 ·exact .inl ⟨if_pos h1,fun w hr=>unshapedGet_any A x s.F k w hr.tb h1 h3 hx.wf hx.small hk hr.d⟩
 ·refine .inr ⟨Bk j,?_,fun w hr=>shapedGet_any A x s B0 Bk j k w hr.nd hf h2 h1 h3 hr.v⟩
  unfold kindV
  rw[if_neg (by omega),h1]
  rfl
theorem fd_key1(c k n:Int)(f:Nat)(s:ByteArray)(r:Int)(w:World):(Instr.field 182 (KV c k n f s r) 1).run Tryz.prog w=.ok (V k n f s r) w:=by kernel_rfl
attribute [local go_sem] fd_key1
end
section
open Go.RowKit
attribute [local go_sem] run_store_float run_equalIn_float
theorem pL_one(f:Nat->Pr):∀n,∀u∈pL f n,u.oneCell'=true
 |0,u,h=>by cases h
 |n+1,u,h=>by
  rcases List.mem_append.1 h with h|h
  ·exact pL_one f n u h
  ·exact prL_one _ u h
abbrev PZL:List Value:=[.int .i64 0,.int .i64 0,.float .f64 0,.string ⟨#[]⟩,.int .i64 0,.int .i64 0,.int .i64 0,.float .f64 0,.string ⟨#[]⟩,.int .i64 0,.int .i64 0]
end
section
open Go.RowKit
attribute [local go_sem] run_store_float run_equalIn_float
theorem sz_pair(w:World):(sizeOf 96).run Tryz.prog w=.ok 11 w:=by kernel_rfl
end
section
open Go.RowKit
theorem IOwn.form{w:World}{B n:Nat}{v:Value}{f:Nat->Int}(h:IOwn w B v n f)(hn:0<n):∃g cp,v=.slice (some ⟨g,0,none⟩) n cp/\B<=g/\g<w.heap.size/\n<=cp/\(∀i,i<n->w.cell? ⟨g,i,none⟩=some (.int .i64 (f i)))/\∀q,w.frozen? ⟨g,q,none⟩=false:=by
 have h':=h
 obtain⟨hl,⟨hv,h0⟩|⟨g,cap,cur,hv,hb,hblk,h1,h2,h3,h4⟩⟩:=h'
 ·omega
 ·subst hv
  exact⟨g,cap,rfl,hb,(h.lt g rfl).2,h1,fun i hi=>by rw[World.ownsRow.cellAt h _ (by omega),iL_get hi],fun q=>World.ownsRow.frozenAt h q⟩
theorem POwn.form{w:World}{B n:Nat}{v:Value}{f:Nat->Pr}(h:POwn w B v n f)(hn:0<n):∃g cp,v=.slice (some ⟨g,0,none⟩) n cp/\B<=g/\g<w.heap.size/\n<=cp/\(∀i,i<n->PCell w g (i*11) (f i))/\∀q,w.frozen? ⟨g,q,none⟩=false:=by
 have h':=h
 obtain⟨hl,⟨hv,h0⟩|⟨g,cap,cur,hv,hb,hblk,h1,h2,h3,h4⟩⟩:=h'
 ·omega
 ·subst hv
  refine⟨g,cap,rfl,hb,(h.lt g rfl).2,h1,fun i hi=>PCell.of fun j u hu=>?_,fun q=>World.ownsRow.frozenAt h q⟩
  have hj:j<11:=by
   have:=(List.getElem?_eq_some_iff.1 hu).1
   simpa[prL]using this
  rw[World.ownsRow.cellAt h _ (by omega),pL_get hi hj,hu]
theorem iL_set(f:Nat->Int)(n i:Nat)(x:Int)(hi:i<n):(iL f n).set i (.int .i64 x)=iL (upd f i x) n:=by
 apply List.ext_getElem?
 intro q
 rw[List.getElem?_set]
 by_cases hq:q<n
 ·by_cases e:i=q
  ·subst e;rw[if_pos rfl,if_pos (by rw[iL_length];omega),iL_get hq,upd_same]
  ·rw[if_neg e,iL_get hq,iL_get hq,upd_other _ _ (fun e'=>e e'.symm)]
 ·rw[if_neg (by omega),List.getElem?_eq_none (by rw[iL_length];omega),List.getElem?_eq_none (by rw[iL_length];omega)]
theorem IOwn.set{w:World}{B g n cp:Nat}{f:Nat->Int}(h:IOwn w B (.slice (some ⟨g,0,none⟩) n cp) n f){i:Nat}(hi:i<n)(x:Int):IOwn (w.setCell ⟨g,i,none⟩ (.int .i64 x)) B (.slice (some ⟨g,0,none⟩) n cp) n (upd f i x):=by
 have h1:=(World.ownsRow.stored h i (.int .i64 x)).1
 rw[iL_set f n i x hi]at h1
 exact h1
section
variable {w:World} {c o B:Nat} {v0 v1 v2:Value} {d:Dc}
end
theorem iL_zero(n:Nat):(madeCells #[Value.int .i64 0] n).toList=iL (fun _=>0) n:=by
 rw[toList_madeCells_one]
 induction n with
 |zero=>rfl
 |succ n ih=>rw[List.replicate_succ'];show _=iL (fun _=>0) n++[.int .i64 0];rw[<-ih]
theorem IOwn.made(w:World)(B n:Nat)(hb:B<=w.heap.size)(hn:n<=4194304):IOwn (w.alloc (.cells (madeCells #[Value.int .i64 0] n) 3)) B (.slice (some ⟨w.heap.size,0,none⟩) n n) n (fun _=>0):=by
 have h:=World.ownsRow_lit (base:=B) (e:=3) (size:=1) w (madeCells #[Value.int .i64 0] n) n hb (by unfold maxLen;omega) (by rw[size_madeCells];omega)
 rw[iL_zero]at h
 exact h
end
section
open Go.RowKit
attribute [local go_sem] run_store_float run_equalIn_float run_store_func
theorem storeAt_new{t:TypeId}{n:Nat}(hs:∀w,(sizeOf t).run Tryz.prog w=.ok n w)(w:World){old vs:List Value}{ty:TypeId}(hl:vs.length=old.length)(hn:vs.length=n)(h1:∀v∈vs,v.oneCell'=true){v:Value}(hv:v.cells=vs.toArray):
  (Instr.storeAt t (.pointer (some ⟨w.heap.size,0,none⟩)) v).run Tryz.prog (w.alloc (.cells old.toArray ty))=.ok () (w.alloc (.cells vs.toArray ty)):=by
 have h:=storeCells_new (P:=Tryz.prog) w ty vs [] old hl h1
 unfold Instr.storeAt storeVar
 simp only[List.nil_append,List.length_nil]at h
 have hsa:∀w',(Instr.sureAddr (.pointer (some ⟨w.heap.size,0,none⟩))).run Tryz.prog w'=.ok ⟨w.heap.size,0,none⟩ w':=fun w'=>by simp[go_sem]
 simp only[Sem.run_bind]
 simp[hsa,hs,hv,hn]
 exact h
theorem info11:(Tryz.prog.info? 96).map (·.size)=some 11:=by kernel_rfl
theorem st_pairN(w:World)(p:Pr):(Instr.storeAt 96 (.pointer (some ⟨w.heap.size,0,none⟩)) (.agg (prL p).toArray)).run Tryz.prog (w.alloc (.cells PZL.toArray 96))=.ok () (w.alloc (.cells (prL p).toArray 96)):=
 storeAt_new sz_pair w (by rfl) (by rfl) (prL_one p) rfl
theorem pair_mid{w:World}{g i:Nat}{p:Pr}(h:PCell w g (i*11) p):w.rangeAt g (i*11) (prL p):=by
 intro j v hv
 have hj:j<11:=(List.getElem?_eq_some_iff.1 hv).1
 obtain⟨c0,c1,c2,c3,c4,c5,c6,c7,c8,c9,c10⟩:=h
 rcases j with _|_|_|_|_|_|_|_|_|_|_|j
 all_goals first|(cases hv;assumption)|omega
end
end Go.Proofs.YtgmlkfgfjjggnaaGreatDoor
