import Derived.Deep.DeepHandedRow
import Derived.LaidSub
import Derived.Deep.Slices
import Derived.Deep.RegionHeld
import Derived.Deep.DeepCutAuto
import Derived.Test.YtgmlkfgfjjggnaaGreatDoorChecked
import Derived.WalkSpells
import Derived.WalkLawsBesides
import Derived.Shelf.Spec.TrailingZeros
import Derived.Shelf.Strconv.Itoa4
import Derived.Lib.AppendIntMem
import Derived.Lib.ItoaLen
import Derived.Deep.OwnRows
import Derived.Deep.AppendLies
import Derived.ProofKit
import Derived.OpenShut
import Derived.ShutString
import Derived.RangeFuncNested
import Derived.RangeFuncBound
import Derived.Shelf.RegionOpen
import Derived.OwnWalkIn
import Derived.LoopNIn
import Derived.LoopIn
set_option linter.all false
set_option maxHeartbeats 40000000
set_option maxRecDepth 100000
namespace Go.Proofs.YtgmlkfgfjjggnaaGreatDoor
theorem As:type_of%@World.cell?_of_block:=@World.cell?_of_block
theorem At:type_of%@Deep.blk_setCell_other:=@Deep.blk_setCell_other
theorem A0:type_of%@Nat.le_refl:=@Nat.le_refl
theorem Be:type_of%@Nat.lt_of_lt_of_le:=@Nat.lt_of_lt_of_le
theorem BE:type_of%@Deep.blk_alloc_new:=@Deep.blk_alloc_new
theorem Cs:type_of%@if_neg:=@if_neg
theorem C3:type_of%@if_pos:=@if_pos
theorem DD:type_of%@RowKit.Below.refl:=@RowKit.Below.refl
theorem DO:type_of%@bodyPost_ret:=@bodyPost_ret
theorem E1:type_of%@Array.getElem?_eq_some_iff:=@Array.getElem?_eq_some_iff
theorem Fs:type_of%@Deep.blk_alloc_lt:=@Deep.blk_alloc_lt
theorem FZ:type_of%@Nat.le_trans:=@Nat.le_trans
theorem GC:type_of%@World.cell?_alloc_lt:=@World.cell?_alloc_lt
theorem GO:type_of%@wpQuiet_nil:=@wpQuiet_nil
theorem GP:type_of%@World.news_of_block:=@World.news_of_block
theorem GS:type_of%@wpQuiet_step:=@wpQuiet_step
theorem GW:type_of%@heap_setCell_same:=@heap_setCell_same
theorem Hi:type_of%@World.block_lt_of_cell?:=@World.block_lt_of_cell?
theorem Is:type_of%@AllReadyIn.cons:=@AllReadyIn.cons
theorem It:type_of%@IntKind.wrap_i64:=@IntKind.wrap_i64
theorem ID:type_of%@grownBy_putObj':=@grownBy_putObj'
theorem IF:type_of%@cell_kept:=@cell_kept
theorem IH:type_of%@World.ownsRow.alloc:=@World.ownsRow.alloc
theorem I9:type_of%@World.ownsRow.cellAt:=@World.ownsRow.cellAt
theorem Lo:type_of%@Int.toNat_natCast:=@Int.toNat_natCast
theorem MM:type_of%@List.mem_singleton:=@List.mem_singleton
theorem NB:type_of%@cell_of_row:=@cell_of_row
theorem NO:type_of%@Nat.not_lt_zero:=@Nat.not_lt_zero
theorem NX:type_of%@World.cell?_setCell_same':=@World.cell?_setCell_same'
theorem Of:type_of%@AllReadyIn.nil:=@AllReadyIn.nil
theorem Ok:type_of%@wpAnyIn_ready:=@wpAnyIn_ready
theorem On:type_of%@List.getElem?_eq_some_iff:=@List.getElem?_eq_some_iff
theorem OK:type_of%@World.frozen?_of_block:=@World.frozen?_of_block
theorem ON:type_of%@World.ownsRow_nil:=@World.ownsRow_nil
theorem OR:type_of%@Bool.and_eq_true:=@Bool.and_eq_true
theorem PC:type_of%@List.getElem?_append_left:=@List.getElem?_append_left
theorem P9:type_of%@Nat.zero_le:=@Nat.zero_le
theorem Re:type_of%@World.rowIs.of_block:=@World.rowIs.of_block
theorem RC:type_of%@AllReadyH.cons:=@AllReadyH.cons
theorem So:type_of%@List.nil_append:=@List.nil_append
theorem SO:type_of%@List.getElem?_eq_none:=@List.getElem?_eq_none
theorem Tn:type_of%@info_parts:=@info_parts
theorem To:type_of%@List.length_append:=@List.length_append
theorem TC:type_of%@KeepsOthers.setCell:=@KeepsOthers.setCell
theorem TO:type_of%@List.getElem?_append_right:=@List.getElem?_append_right
theorem UP:type_of%@List.length_nil:=@List.length_nil
theorem VC:type_of%@callsIn_wide:=@callsIn_wide
theorem We:type_of%@World.rowIs.lt:=@World.rowIs.lt
theorem Wx:type_of%@World.ownsRow.stored:=@World.ownsRow.stored
theorem W0:type_of%@RowKit.Below.setCell:=@RowKit.Below.setCell
theorem W9:type_of%@World.ownsRow.frozenAt:=@World.ownsRow.frozenAt
theorem XN:type_of%@Nat.mul_assoc:=@Nat.mul_assoc
theorem X9:type_of%@if_false:=@if_false
theorem Aaa:type_of%@Nat.zero_add:=@Nat.zero_add
theorem Aab:type_of%@List.getD_eq_getElem?_getD:=@List.getD_eq_getElem?_getD
theorem Aac:type_of%@List.map_append:=@List.map_append
theorem Aad:type_of%@List.length_cons:=@List.length_cons
theorem Aae:type_of%@Nat.mod_lt:=@Nat.mod_lt
theorem Aaf:type_of%@Array.replicate_zero:=@Array.replicate_zero
theorem Aag:type_of%@Array.replicate_succ:=@Array.replicate_succ
theorem Aah:type_of%@wpList_append_lies:=@wpList_append_lies
theorem Aai:type_of%@Bool.false_eq_true:=@Bool.false_eq_true
theorem Aaj:type_of%@Option.some.inj:=@Option.some.inj
theorem Aak:type_of%@List.append_toArray:=@List.append_toArray
theorem Aal:type_of%@List.cons_append:=@List.cons_append
theorem Aam:type_of%@List.setIfInBounds_toArray:=@List.setIfInBounds_toArray
theorem Aan:type_of%@wpList_load_row:=@wpList_load_row
theorem Aao:type_of%@Nat.two_pow_pos:=@Nat.two_pow_pos
theorem Aap:type_of%@step_append_lies:=@step_append_lies
theorem Aaq:type_of%@List.not_mem_nil:=@List.not_mem_nil
theorem Aar:type_of%@Nat.le_of_lt:=@Nat.le_of_lt
theorem Aas:type_of%@List.size_toArray:=@List.size_toArray
theorem Aat:type_of%@List.push_toArray:=@List.push_toArray
theorem Aau:type_of%@List.mem_cons:=@List.mem_cons
theorem Aav:type_of%@Nat.mul_comm:=@Nat.mul_comm
theorem Aaw:type_of%@Array.getElem?_eq_getElem:=@Array.getElem?_eq_getElem
theorem Aax:type_of%@List.length_singleton:=@List.length_singleton
theorem Aay:type_of%@Nat.lt_of_le_of_lt:=@Nat.lt_of_le_of_lt
theorem Aaz:type_of%@if_true:=@if_true
theorem AaA:type_of%@Sem.run_bind:=@Sem.run_bind
theorem AaB:type_of%@List.length_map:=@List.length_map
theorem AaC:type_of%@Int.le_refl:=@Int.le_refl
theorem AaD:type_of%@Bool.eq_iff_iff:=@Bool.eq_iff_iff
theorem AaE:type_of%@run_takeDeferred:=@run_takeDeferred
theorem AaF:type_of%@Nat.mod_eq_of_lt:=@Nat.mod_eq_of_lt
theorem AaG:type_of%@wpAnyH_ready:=@wpAnyH_ready
theorem AaH:type_of%@Nat.eq_zero_or_pos:=@Nat.eq_zero_or_pos
theorem AaI:type_of%@AllReadyH.nil:=@AllReadyH.nil
theorem AaJ:type_of%@decide_eq_true_eq:=@decide_eq_true_eq
theorem AaK:type_of%@World.rowIs_alloc:=@World.rowIs_alloc
theorem AaL:type_of%@Nat.lt_trichotomy:=@Nat.lt_trichotomy
theorem AaM:type_of%@List.mem_append:=@List.mem_append
theorem AaN:type_of%@Nat.pow_succ:=@Nat.pow_succ
theorem AaO:type_of%@wpIn_rangeFunc_ownF:=@wpIn_rangeFunc_ownF
theorem AaP:type_of%@callsIn_of_wp_marks:=@callsIn_of_wp_marks
theorem AaQ:type_of%@ByteArray.toList_eq:=@ByteArray.toList_eq
theorem AaR:type_of%@List.mem_range:=@List.mem_range
theorem AaS:type_of%@List.getElem_cons_zero:=@List.getElem_cons_zero
theorem AaT:type_of%@List.getElem_cons_succ:=@List.getElem_cons_succ
theorem AaU:type_of%@List.getElem?_take:=@List.getElem?_take
section
open Go.RowKit
abbrev G(b o:Nat):Addr:=⟨b,o,none⟩
abbrev J(x:Int):Value:=.int .i64 x
abbrev Q9(b:Nat):Value:=.pointer (some ⟨b,0,none⟩)
abbrev S9(b n c:Nat):Value:=.slice (some ⟨b,0,none⟩) n c
abbrev B9(w w':World):Prop:=Below w.heap.size w w'
abbrev R9(v:Value)(w:World)(e:Ending)(w':World):Prop:=e=.returned v/\Below w.heap.size w w'
abbrev F9(x:Nat):Value:=.float .f64 x
abbrev E9:Value:=.string ⟨#[]⟩
abbrev O9(a b:Nat):Option Ordering:=FloatKind.f64.format.order a b
abbrev T9:Type:=Option Addr
abbrev N9:Value:=.slice none 0 0
abbrev y(w:World)(o:Nat):Addr:=⟨w.heap.size,o,none⟩
abbrev Y9(w:World)(o:Nat):Addr:=⟨w.heap.size+1,o,none⟩
abbrev Z9(w:World)(o:Nat):Addr:=⟨w.heap.size+1+1,o,none⟩
theorem n9{w:World}{o:Obj}:Below w.heap.size w (w.alloc o):=(DD _ _).alloc (A0 _) _
abbrev Y:Type:=World
abbrev V9:Type:=Value
abbrev C9(f:FuncId)(a:Array Value)(w:World)(Q:Ending->World->Prop):Prop:=Calls Tryz.prog f a w Q
theorem m9{P:Program}{f:FuncId}{g:Array Value}{w:World}{v:Value}{Q:Ending->World->Prop}(h:Calls P f g w (R9 v w))(k:∀w',Below w.heap.size w w'->Q (.returned v) w'):Calls P f g w Q:=h.mono fun e w' ⟨a,b⟩=>a▸k w' b
end
section
open Go.RowKit
def Mz(h:Int)(c:UInt8):Int:=IntKind.u64.wrap (bits BinOp.xor IntKind.u64 h (IntKind.u64.wrap (c.toNat:Int))*1099511628211)
def UC(l:List UInt8):Int:=l.foldl Mz 14695981039346656037
def Sn(x:Int):Int:=
 bits BinOp.xor IntKind.u64
  (IntKind.u64.wrap (bits BinOp.xor IntKind.u64 (IntKind.u64.wrap (bits BinOp.xor IntKind.u64 x (x/8589934592)*18397679294719823053)) (IntKind.u64.wrap (bits BinOp.xor IntKind.u64 x (x/8589934592)*18397679294719823053)/8589934592)*14181476777654086739))
  (IntKind.u64.wrap (bits BinOp.xor IntKind.u64 (IntKind.u64.wrap (bits BinOp.xor IntKind.u64 x (x/8589934592)*18397679294719823053)) (IntKind.u64.wrap (bits BinOp.xor IntKind.u64 x (x/8589934592)*18397679294719823053)/8589934592)*14181476777654086739)/8589934592)
theorem CU(n:Int):0<=IntKind.u64.wrap n/\IntKind.u64.wrap n<18446744073709551616:=by
 rw[IntKind.wrap_u64];omega
theorem Mj(op:BinOp)(x Z:Int):0<=bits op IntKind.u64 x Z/\bits op IntKind.u64 x Z<18446744073709551616:=by
 unfold bits;exact CU _
theorem MN(x:Int):0<=Sn x/\Sn x<18446744073709551616:=Mj _ _ _
theorem Qv(h:Int)(c:UInt8):0<=Mz h c/\Mz h c<18446744073709551616:=CU _
theorem Qj(l:List UInt8)(h:Int)(a:0<=h/\h<18446744073709551616):0<=l.foldl Mz h/\l.foldl Mz h<18446744073709551616:=by
 induction l generalizing h with
 |nil=>exact a
 |cons c l ih=>exact ih _ (Qv h c)
theorem Od(l:List UInt8):0<=UC l/\UC l<18446744073709551616:=Qj l _ (by omega)
theorem Vy(s:ByteArray)(k:Nat)(h:k<s.size):s.data.toList.take (k+1)=s.data.toList.take k++[s[k]]:=by
 rw[List.take_succ_eq_append_getElem (by simpa using h)];rfl
theorem WO(s:ByteArray)(k:Nat)(h:k<s.size):UC (s.data.toList.take (k+1))=Mz (UC (s.data.toList.take k)) s[k]:=by
 rw[Vy s k h];unfold UC;rw[List.foldl_append];rfl
theorem ZF{k:IntKind}{a b:Int}(h:a=b):Ending.returned (.int k a)=.returned (.int k b):=by rw[h]
theorem Zk(x:Int)(w:Y)(a:0<=x)(h1:x<18446744073709551616):
  C9 273 #[.int .u64 x] w fun e w'=>e=.returned (.int .u64 (Sn x))/\w'=w:=by
 go_enter Tryz.func273,Tryz.ntmps273
 go_wp2;go_ret;exact⟨rfl,rfl⟩
theorem Jy(s:ByteArray)(w:Y)(hs:s.size<=maxLen):
  C9 271 #[.string s] w fun e w'=>e=.returned (.int .u64 (UC s.data.toList))/\w'=w:=by
 unfold maxLen at hs
 go_enter Tryz.func271,Tryz.ntmps271
 go_wp2
 go_loop [3,7] (fun h i=>∃k:Nat,k<=s.size/\i=J k/\h=.int .u64 (UC (s.data.toList.take k))) (fun _ i=>s.size-(intOf i).toNat)
 case atStart=>exact⟨0,P9 _,rfl,rfl⟩
 case round=>
  obtain⟨k,hk,rfl,rfl⟩:=hrel;by_cases a:k<s.size
  ·have b:Hid (UC (s.data.toList.take (k+1))=Mz (UC (s.data.toList.take k)) s[k]):=WO s k a;go_wp2;exact⟨⟨k+1,by omega,by go_num,by rw[b.out];rfl⟩,by simp[intOf];omega⟩
  ·go_wp2;go_ret;exact⟨ZF (by rw[List.take_of_length_le (by simp;omega)]),rfl⟩
def Dh(w:Y)(b:Nat)(a:T9)(len:Nat):Prop:=
 len<9007199254740992/\(len=0\/∃k off,a=some (G k off)/\k<b/\∀i,i<len->∃Z:Int,w.cell? (G k (off+i))=some (.int .u8 Z)/\0<=Z/\Z<256)
structure Cu (b N:Nat) (w:Y):Prop where
 ex:∃a len cap at_ seed,w.cell? (G b 0)=some (.slice a len cap)/\w.cell? (G b 1)=some (J at_)/\w.cell? (G b 2)=some (.int .u64 seed)/\0<=at_/\at_<=N/\0<=seed/\seed<18446744073709551616/\Dh w b a len
 fz:∀o,w.frozen? (G b o)=false
structure KK (b:Nat) (w w':Y):Prop where
 os:w'.os=w.os
 tape:w'.tape=w.tape
 output:w'.output=w.output
 size:w'.heap.size=w.heap.size
 block:∀k,k≠b->w'.heap[k]?=w.heap[k]?
theorem KK.refl(b:Nat)(w:Y):KK b w w:=⟨rfl,rfl,rfl,rfl,fun _ _=>rfl⟩
theorem KK.trans{b:Nat}{u v w:Y}(h:KK b u v)(k:KK b v w):KK b u w:=
 ⟨k.os.trans h.os,k.tape.trans h.tape,k.output.trans h.output,k.size.trans h.size,fun i hi=>(k.block i hi).trans (h.block i hi)⟩
theorem KK.cell{b:Nat}{w w':Y}(h:KK b w w')(k o:Nat)(hk:k≠b):w'.cell? (G k o)=w.cell? (G k o):=As (w:=w) (h.block k hk)
theorem KK.frozen{b:Nat}{w w':Y}(h:KK b w w')(k o:Nat)(hk:k≠b):w'.frozen? (G k o)=w.frozen? (G k o):=OK (w:=w) (h.block k hk)
theorem KK.below{b B:Nat}{w w':Y}(h:KK b w w')(a:B<=b):Below B w w':=⟨h.os,h.tape,h.output,by rw[h.size];exact A0 _,fun k hk=>h.block k (by omega)⟩
theorem T5(b o:Nat)(w:Y)(v:V9):KK b w (w.setCell (G b o) v):=
 ⟨rfl,rfl,rfl,by simp[World.setCell],fun k hk=>Below.heap_setCell _ _ _ _ (by simpa using hk)⟩
theorem Vw(b n:Nat)(w:Y):KK b w (w.drewN n):=⟨rfl,rfl,rfl,rfl,fun _ _=>rfl⟩
theorem LO(b o o' n:Nat)(w:Y)(v v':V9):KK b w (((w.drewN n).setCell (G b o) v).setCell (G b o') v'):=
 ((Vw b n w).trans (T5 b o _ v)).trans (T5 b o' _ v')
theorem Dh.kB{b:Nat}{w w':Y}{a:Option Addr}{len:Nat}(h:Dh w b a len)(s:KK b w w'):Dh w' b a len:=by
 refine⟨h.1,?_⟩;rcases h.2 with h|⟨k,off,e,hk,hc⟩
 ·exact .inl h
 ·refine .inr ⟨k,off,e,hk,fun i hi=>?_⟩;obtain⟨Z,h1,h2⟩:=hc i hi;exact⟨Z,by rw[s.cell k _ (by omega)];exact h1,h2⟩
theorem Wq{b Z:Nat}{w:Y}{a:Option Addr}{len cap:Nat}{at_ seed:Int}(fz:∀o,w.frozen? (G b o)=false)
  (e:w.cell? (G b 0)=some (.slice a len cap)) (h1:w.cell? (G b 1)=some (J at_)) (h2:w.cell? (G b 2)=some (.int .u64 seed))
  (f:0<=at_) (g:at_<=Z) (hc:Dh w b a len) (n:Nat) (s:Int) (c:0<=s) (d:s<18446744073709551616):
  Cu b (Z+1) (((w.drewN n).setCell (G b 1) (J (at_+1))).setCell (G b 2) (.int .u64 s))/\Cu b (Z+1) (((w.drewN n).setCell (G b 2) (.int .u64 s)).setCell (G b 1) (J (at_+1))):=by
 constructor
 ·exact⟨⟨a,len,cap,at_+1,s,by simp[go_sem,e],by simp[go_sem,h1],by simp[go_sem,h2],by omega,by omega,c,d,hc.kB (LO b 1 2 n w _ _)⟩,fun o=>by simp[go_sem,fz]⟩
 ·exact⟨⟨a,len,cap,at_+1,s,by simp[go_sem,e],by simp[go_sem,h1],by simp[go_sem,h2],by omega,by omega,c,d,hc.kB (LO b 2 1 n w _ _)⟩,fun o=>by simp[go_sem,fz]⟩
theorem Zp(b Z:Nat)(len cap:Nat)(at_ seed X:Int)(k off:Nat)(w:Y)(fz:∀o,w.frozen? (G b o)=false)(a:Dh w b (some (G k off)) len)
  (h:w.cell? (G b 0)=some (.slice (some (G k off)) len cap)) (h1:w.cell? (G b 1)=some (J at_)) (h2:w.cell? (G b 2)=some (.int .u64 seed))
  (c:0<=at_) (d:at_<=Z) (hN:Z<=1099511627776) (i:at_<len) (f:(len:Int)<9007199254740992) (hk:k<b) (j:0<=X) (l:X<256)
  (hc:w.cell? (G k (off+at_.toNat))=some (.int .u8 X)):
  C9 135 #[Q9 b] w fun e w'=>e=.returned (J X)/\Cu b (Z+1) w'/\KK b w w':=by
 have m:¬k=b:=by omega
 have f1:=fz 1;have f2:=fz 2;have n:Hid (∀o,w.frozen? (G b o)=false):=fz;have p:Hid (Dh w b (some (G k off)) len):=a;clear fz a
 go_enter Tryz.func135,Tryz.ntmps135
 go_wp2
 go_quiet (fail)
 go_wp2
 go_quiet (fail)
 go_wp2;go_ret;have g:=CU (IntKind.u64.wrap (IntKind.u64.wrap (seed*6364136223846793005)+X)+1442695040888963407);exact⟨rfl,(Wq n.out h h1 h2 c d p.out _ _ g.1 g.2).1,LO _ _ _ _ _ _ _⟩
theorem aW(X:Int)(a:0<=X)(h1:X<18446744073709551616):0<=wrap64 (bits BinOp.and IntKind.u64 X 255)/\wrap64 (bits BinOp.and IntKind.u64 X 255)<256:=by
 have h:=u64_and X 255 a h1 (by omega) (by omega);have e:(255:Int).toNat=2^8-1:=by decide
 rw[e,Nat.and_two_pow_sub_one_eq_mod]at h;rw[h];have b:X.toNat%2^8<256:=Aae _ (by decide);generalize X.toNat%2^8=q at b;have:wrap64 (q:Int)=q:=by unfold wrap64;omega
 rw[this];omega
theorem Xr(b Z:Nat)(a:T9)(len cap:Nat)(at_ seed:Int)(w:Y)(fz:∀o,w.frozen? (G b o)=false)(c:Dh w b a len)
  (h:w.cell? (G b 0)=some (.slice a len cap)) (h1:w.cell? (G b 1)=some (J at_)) (h2:w.cell? (G b 2)=some (.int .u64 seed))
  (d:0<=at_) (f:at_<=Z) (hN:Z<=1099511627776) (i:(len:Int)<=at_):
  C9 135 #[Q9 b] w fun e w'=>(∃X:Int,e=.returned (J X)/\0<=X/\X<256)/\Cu b (Z+1) w'/\KK b w w':=by
 have f1:=fz 1;have f2:=fz 2;have j:Hid (∀o,w.frozen? (G b o)=false):=fz;have k:Hid (Dh w b a len):=c;clear fz c
 go_enter Tryz.func135,Tryz.ntmps135
 go_wp2
 go_quiet (fail)
 go_wp2;go_ret;have g:=CU (IntKind.u64.wrap (seed*6364136223846793005)+1442695040888963407);have h2:=aW (IntKind.u64.wrap (IntKind.u64.wrap (seed*6364136223846793005)+1442695040888963407)/1099511627776) (by omega) (by omega);exact⟨⟨_,rfl,h2.1,h2.2⟩,(Wq j.out h h1 ‹_› d f k.out _ _ g.1 g.2).2,LO _ _ _ _ _ _ _⟩
theorem MO(b Z:Nat)(w:Y)(h:Cu b Z w)(hN:Z<=1099511627776):
  C9 135 #[Q9 b] w fun e w'=>(∃X:Int,e=.returned (J X)/\0<=X/\X<256)/\Cu b (Z+1) w'/\KK b w w':=by
 obtain⟨a,len,cap,at_,seed,l,h1,h2,c,d,_,_,hc⟩:=h.ex;by_cases f:at_<len
 ·rcases hc.2 with e|⟨k,off,rfl,hk,j⟩
  ·subst e;exfalso;simp at f;omega
  ·obtain⟨X,hz,g,i⟩:=j at_.toNat (by omega)
   refine(Zp b Z len cap at_ seed X k off w h.fz hc l h1 h2 c d hN f (by have:=hc.1;omega) hk g i hz).mono ?_;rintro e w' ⟨rfl,h3⟩;exact⟨⟨X,rfl,g,i⟩,h3⟩
 ·exact Xr b Z a len cap at_ seed w h.fz hc l h1 h2 c d hN (by omega)
theorem Ax(b Z:Nat)(n:Int)(w:Y)(h:Cu b Z w)(hN:Z<=1099511627000)(l:1<n)(m:n<=70000):
  C9 77 #[Q9 b,J n] w fun e w'=>(∃x:Int,e=.returned (J x)/\0<=x/\x<n)/\Cu b (Z+2) w'/\KK b w w':=by
 have H:Hid (Cu b Z w):=h;clear h;by_cases hs:n<=200
 ·go_enter Tryz.func77,Tryz.ntmps77
  go_wp2_with fail
  refine(MO b Z _ H.out (by omega)).mono ?_;rintro e w1 ⟨⟨W,rfl,f,g⟩,c,d⟩;go_wp2_with fail
  go_ret;refine⟨⟨_,rfl,?_,?_⟩,⟨?_,c.fz⟩,d⟩
  ·exact Int.emod_nonneg _ (by omega)
  ·exact Int.emod_lt_of_pos _ (by omega)
  ·obtain⟨a,len,cap,at_,seed,o,h1,h2,i,p,r⟩:=c.ex;exact⟨a,len,cap,at_,seed,o,h1,h2,i,by omega,r⟩
 ·have q:200<n:=by omega
  go_enter Tryz.func77,Tryz.ntmps77
  go_wp2_with fail
  refine(MO b Z _ H.out (by omega)).mono ?_;rintro e w1 ⟨⟨W,rfl,f,g⟩,c,d⟩;go_wp2_with fail
  refine(MO b (Z+1) _ c (by omega)).mono ?_;rintro e w2 ⟨⟨X,rfl,s,t⟩,j,k⟩;go_wp2_with fail
  go_ret;refine⟨⟨_,rfl,?_,?_⟩,j,d.trans k⟩
  ·exact Int.emod_nonneg _ (by omega)
  ·exact Int.emod_lt_of_pos _ (by omega)
theorem hide{p:Prop}(h:p):Hid p:=h
theorem dJ{p:Prop}(h:Hid p):p:=h
theorem AJ{W w1:Y}(hb:B9 W w1):(∀b o,b<W.heap.size->w1.cell? (G b o)=W.cell? (G b o))/\(∀b o,b<W.heap.size->w1.frozen? (G b o)=W.frozen? (G b o)):=
 ⟨fun b o h=>hb.cell (p:=(G b o)) h,fun b o h=>hb.frozen (p:=(G b o)) h⟩
theorem O{p:Prop}(h:p):Hid p:=hide h
theorem z{p:Prop}(h:Hid p):p:=dJ h
theorem sA{α:Type _}(l:List α)(i:Nat)(a:α):l.toArray.setIfInBounds i a=(l.set i a).toArray:=Aam ..
theorem sB{α:Type _}(x:α)(l:List α)(n:Nat)(v:α):(x::l).set (n+1) v=x::l.set n v:=rfl
theorem sC{α:Type _}(x:α)(l:List α)(v:α):(x::l).set 0 v=v::l:=rfl
theorem pS:(∀(a:Act) (d:Tmp) (v:V9),Act.put a (some d) v=⟨a.tmps.setIfInBounds d v,a.defers⟩)/\(∀(a:Act) (v:V9),Act.put a none v=a)/\(∀(l:List Value) (i:Nat) (a:V9),l.toArray.setIfInBounds i a=(l.set i a).toArray)/\(∀(x:V9) (l:List Value) (n:Nat) (v:V9),(x::l).set (n+1) v=x::l.set n v)/\∀(x:V9) (l:List Value) (v:V9),(x::l).set 0 v=v::l:=⟨fun _ _ _=>rfl,fun _ _=>rfl,fun _ _ _=>Aam ..,fun _ _ _ _=>rfl,fun _ _ _=>rfl⟩
theorem N{P:Program}{ops:Array Oper}{C:World->Prop}{Q:Act->Prop}{a b:Act}{o:Oper}{rest:List Oper}{v:V9}(f:Region.wanted o (yielded ops a.tmps)=true:=by rfl)(hy:∀w,C w->(execOp a.eval o).run P w=.ok (.value v) w:=by(intro w' c;first|(go_simp;done)|(go_simp;with_reducible rfl)|(obtain⟨d,e⟩:=AJ c;go_simp;with_reducible rfl)|(obtain⟨d,e⟩:=AJ c;go_simp;done)))(hb:a.put o.dst v=b:=by(simp only[pS];rfl))(h:wpQuiet P ops C Q rest b):wpQuiet P ops C Q (o::rest) a:=by
  show ite _ _ _;rw[C3 f];exact⟨v,fun w g=>by unfold Oper.quietAt;rw[hy w g];exact⟨rfl,rfl⟩,hb▸h⟩
theorem qr{P:Program}{l:List Oper}{id:Nat}{Q:Exit->Act->World->Prop}{a:Act}{w:Y}(W:Y)(h:wpQuiet P l.toArray (fun w'=>B9 W w') (fun a'=>∀w',B9 W w'->Q .normal a' w') l a)(b:P.follows .mixedOrders=true:=by kernel_rfl)(c:Region.lexB .any l.toArray=true:=by kernel_rfl)(d:B9 W {w with drawn:=w.drawn+1}:=by exact(DD _ _).drew):(Code.region id l.toArray true).wp P Q a w:=wp_region_quiet (C:=fun w'=>B9 W w') b c d h
theorem qk{P:Program}{f:Nat}{g:Array Value}{W w':Y}{v:V9}(d:B9 W w')(h:Calls P f g w' fun e c=>e=.returned v/\B9 w' c):Calls P f g w' fun e c=>e=.returned v/\B9 W c:=h.mono fun _ _ ⟨a,b⟩=>⟨a,d.trans (b.mono d.size)⟩
structure Gr (b:Nat) (w w':Y):Prop where
 os:w'.os=w.os
 tape:w'.tape=w.tape
 output:w'.output=w.output
 size:w.heap.size<=w'.heap.size
 block:∀k,k≠b->k<w.heap.size->w'.heap[k]?=w.heap[k]?
theorem KK.gr{b:Nat}{w w':Y}(h:KK b w w'):Gr b w w':=⟨h.os,h.tape,h.output,by rw[h.size];exact A0 _,fun k hk _=>h.block k hk⟩
theorem Gr.trans{b:Nat}{u v w:Y}(h:Gr b u v)(k:Gr b v w):Gr b u w:=
 ⟨k.os.trans h.os,k.tape.trans h.tape,k.output.trans h.output,FZ h.size k.size,fun i hi hs=>(k.block i hi (Be hs h.size)).trans (h.block i hi hs)⟩
theorem Gr.Ay{b:Nat}{w w':Y}(h:B9 w w'):Gr b w w':=⟨h.os,h.tape,h.output,h.size,fun k _ hk=>h.block k hk⟩
theorem Gr.cell{b:Nat}{w w':Y}(h:Gr b w w'):∀k o,k≠b->k<w.heap.size->w'.cell? (G k o)=w.cell? (G k o):=fun k o hk hs=>As (w:=w) (h.block k hk hs)
theorem Gr.frozen{b:Nat}{w w':Y}(h:Gr b w w'):∀k o,k≠b->k<w.heap.size->w'.frozen? (G k o)=w.frozen? (G k o):=fun k o hk hs=>OK (w:=w) (h.block k hk hs)
theorem Gr.below{b B:Nat}{w w':Y}(h:Gr b w w')(h1:B<=b)(h2:B<=w.heap.size):Below B w w':=⟨h.os,h.tape,h.output,h.size,fun k hk=>h.block k (by omega) (by omega)⟩
theorem A5{B:Nat}{a w:Y}(h:Below B a w)(b:Nat)(hb:B<=b)(v0 v1 v2 v3 v4:V9):
  Below B a (((((w.setCell (G b 0) v0).setCell (G b 1) v1).setCell (G b 2) v2).setCell (G b 3) v3).setCell (G b 4) v4):=
 ((((h.setCell (p:=(G b 0)) hb v0).setCell (p:=(G b 1)) hb v1).setCell (p:=(G b 2)) hb v2).setCell (p:=(G b 3)) hb v3).setCell (p:=(G b 4)) hb v4
theorem Gr.AR{b B:Nat}{u v w:Y}(h:Gr b u v)(k:Below B v w)(a:u.heap.size<=B):Gr b u w:=
 ⟨k.os.trans h.os,k.tape.trans h.tape,k.output.trans h.output,FZ h.size k.size,fun i hi hs=>(k.block i (by omega)).trans (h.block i hi hs)⟩
theorem Dh.of_eq{b:Nat}{w w':Y}{a:Option Addr}{len:Nat}(h:Dh w b a len)(s:∀k,k<b->w'.heap[k]?=w.heap[k]?):Dh w' b a len:=by
 refine⟨h.1,?_⟩;rcases h.2 with h|⟨k,off,e,hk,hc⟩
 ·exact .inl h
 ·refine .inr ⟨k,off,e,hk,fun i hi=>?_⟩;obtain⟨Z,h1,h2⟩:=hc i hi;exact⟨Z,(As (w:=w) (a:=(G k (off+i))) (s k hk)).trans h1,h2⟩
theorem Cu.below{b Z:Nat}{w w':Y}(h:Cu b Z w){B:Nat}(hb:Below B w w')(c:b<B):Cu b Z w':=by
 obtain⟨a,len,cap,at_,seed,d,h1,h2,r1,r2,e,f,hc⟩:=h.ex;refine⟨⟨a,len,cap,at_,seed,?_,?_,?_,r1,r2,e,f,hc.of_eq fun k hk=>hb.block k (by omega)⟩,fun o=>?_⟩
 ·rw[hb.cell (p:=(G b 0)) c];exact d
 ·rw[hb.cell (p:=(G b 1)) c];exact h1
 ·rw[hb.cell (p:=(G b 2)) c];exact h2
 ·rw[hb.frozen (p:=(G b o)) c];exact h.fz o
theorem Cu.mono{b Z M:Nat}{w:Y}(h:Cu b Z w)(c:Z<=M):Cu b M w:=by
 obtain⟨a,len,cap,at_,seed,d,h1,h2,r1,r2,r⟩:=h.ex;exact⟨⟨a,len,cap,at_,seed,d,h1,h2,r1,by omega,r⟩,h.fz⟩
theorem Cu.lt{b Z:Nat}{w:Y}(h:Cu b Z w):b<w.heap.size:=by
 obtain⟨a,len,cap,at_,seed,c,_⟩:=h.ex;exact Hi _ _ c
theorem Qa(v:Int)(a:0<=v)(h1:v<256)(wr:Y):(convert 71 9 (S9 wr.heap.size 1 1)).run Tryz.prog (wr.alloc (.cells #[.int .u8 v] 5))=.ok (.string ⟨[UInt8.ofNat v.toNat].toArray⟩) (wr.alloc (.cells #[.int .u8 v] 5)):=
 run_convert_bytes_back (P:=Tryz.prog) (wr.alloc (.cells #[.int .u8 v] 5)) 71 9 5 (y wr 0) 1 [UInt8.ofNat v.toNat] Tryz.underlying71 Tryz.underlying5 Tryz.underlying9 (by
  intro j hj;have:j=0:=by simpa using hj
  subst this;have e:((UInt8.ofNat v.toNat).toNat:Int)=v:=by rw[UInt8.toNat_ofNat'];omega
  have e2:([UInt8.ofNat v.toNat][0]'hj)=UInt8.ofNat v.toNat:=rfl;rw[e2,e];simp[Addr.add,go_sem])
def strOf:Value->ByteArray|.string s=>s|_=>ByteArray.empty
theorem Ia(b Z:Nat)(w:Y)(h:Cu b Z w)(hN:Z<=1099511620000):
  C9 131 #[Q9 b] w fun e w'=>(∃s:ByteArray,e=.returned (.string s)/\s.size<=4000)/\Cu b (Z+4) w'/\Gr b w w':=by
 have H:Hid (Cu b Z w):=h;clear h
 go_enter Tryz.func131,Tryz.ntmps131
 go_wp2_with fail
 refine(Ax b Z 40 _ H.out (by omega) (by omega) (by omega)).mono ?_;rintro e w1 ⟨⟨x,rfl,j,k⟩,d,f⟩;by_cases x0:x=0
 ·subst x0;go_wp2_with fail
  go_loop [3] (fun t=>∃s:ByteArray,t=.string s/\10<=s.size/\s.size<8000) (fun t=>8000-(strOf t).size)
  case atStart=>exact⟨_,rfl,by decide,by decide⟩
  case round=>
   obtain⟨s,rfl,h1,h2⟩:=hrel;by_cases l:s.size<4000
   ·have hl:((s.size:Nat):Int)<4000:=by omega
    go_wp2_with fail
    go_round
    case rel=>exact⟨_,rfl,by simp;omega,by simp;omega⟩
    case measure=>simp[strOf];omega
   ·have hl:(4000:Int)<=((s.size:Nat):Int):=by omega
    go_wp2_with fail
    refine(Ax b (Z+2) 2 _ d (by omega) (by omega) (by omega)).mono ?_;rintro e w2 ⟨⟨X,rfl,g,i⟩,a,c⟩;go_wp2_with fail
    go_ret;refine⟨⟨_,rfl,?_⟩,a,(f.trans c).gr⟩;simp;omega
 have b0:(x==0)=false:=by simp[x0]
 go_wp2_with fail
 refine(Ax b (Z+2) 15 _ d (by omega) (by omega) (by omega)).mono ?_;rintro e w2 ⟨⟨X,rfl,g,i⟩,a,c⟩;have m:=Qa (97+X) (by omega) (by omega) w2;go_wp2_with fail
 go_ret;have hb:B9 w2 (w2.alloc (.cells #[.int .u8 (97+X)] 5)):=n9;exact⟨⟨_,rfl,by simp[ByteArray.size]⟩,a.below hb a.lt,((f.trans c).gr).trans (Gr.Ay hb)⟩
end
namespace Fl
open Ieee
def sc(s:Bool)(m:Nat)(i:Int):Int:=signed s m (i+1074).toNat
theorem Cv(s:Bool)(m k:Nat):signed s m k=(if s then -1 else 1)*((m:Int)*(2:Int)^k):=by
 unfold signed;rw[Nat.shiftLeft_eq];cases s<;>simp<;>norm_cast
theorem Ep(k:Nat):(0:Int)<(2:Int)^k:=Int.pow_pos (by omega)
theorem Fb(s:Bool)(m k c:Nat):signed s m (k+c)=signed s m k*(2:Int)^c:=by
 rw[Cv,Cv,Int.pow_add];simp only[Int.mul_assoc]
theorem Nv(a b:Int)(c:Nat):compare (a*(2:Int)^c) (b*(2:Int)^c)=compare a b:=by
 have h:=Ep c;simp only[compare,compareOfLessAndEq];have h1:a*(2:Int)^c<b*(2:Int)^c↔a<b:=Int.mul_lt_mul_right h;have h2:a*(2:Int)^c=b*(2:Int)^c↔a=b:=Int.mul_eq_mul_right_iff (by omega);simp only[h1,h2]
theorem PD(s t:Bool)(m n:Nat)(i j:Int)(hi:-1074<=i)(hj:-1074<=j):
  Datum.order (.number s m i) (.number t n j)=some (compare (sc s m i) (sc t n j)):=by
 show some (compare (signed s m (i-min i j).toNat) (signed t n (j-min i j).toNat))=_;unfold sc;obtain⟨c,hc⟩:∃c:Nat,c=(min i j+1074).toNat:=⟨_,rfl⟩;have e1:(i+1074).toNat=(i-min i j).toNat+c:=by omega
 have e2:(j+1074).toNat=(j-min i j).toNat+c:=by omega
 rw[e1,e2,Fb,Fb,Nv]
theorem C0(a b:Int):(some (compare a b)==some Ordering.eq)=decide (a=b):=by
 simp only[compare,compareOfLessAndEq];by_cases h:a<b
 ·have:¬a=b:=by omega
  simp[h,this]
 ·by_cases h2:a=b<;>simp[h,h2]
theorem Kd(a b:Int):(some (compare a b)==some Ordering.lt)=decide (a<b):=by
 simp only[compare,compareOfLessAndEq];by_cases h:a<b
 ·simp[h]
 ·by_cases h2:a=b<;>simp[h,h2]
theorem I7(a b:Int):(some (compare a b)==some Ordering.gt)=decide (b<a):=by
 simp only[compare,compareOfLessAndEq];by_cases h:a<b
 ·have:¬b<a:=by omega
  simp[h,this]
 ·by_cases h2:a=b
  ·simp[h2]
  ·have:b<a:=by omega
   simp[h,h2,this]
theorem CG(x:Nat):(∃s m i,double.read x=.number s m i/\-1074<=i/\i<=971/\m<2^53/\(i=-1074\/2^52<=m))\/(∃s,double.read x=.infinity s)\/(∃s t,double.read x=.nan s t):=by
 unfold Format.read;have hb:double.binade=4503599627370496:=by decide
 have a:double.infRung=9218868437227405312:=by decide
 have hl:double.leastPlace=-1074:=by decide
 dsimp only;rw[hb,a,hl];generalize x%double.signWeight=r;generalize (x/double.signWeight%2==1)=s;by_cases h1:r<4503599627370496
 ·left;exact⟨s,r,-1074,by rw[C3 h1],by omega,by omega,by omega,.inl rfl⟩
 ·by_cases h2:r<9218868437227405312
  ·left;refine⟨s,_,_,by rw[Cs h1,C3 h2],by omega,by omega,by omega,.inr (by omega)⟩
  ·by_cases h3:r=9218868437227405312
   ·right;left;exact⟨s,by rw[Cs h1,Cs h2,C3 h3]⟩
   ·right;right;exact⟨s,_,by rw[Cs h1,Cs h2,Cs h3]⟩
theorem GI(m k:Nat)(h:m≠0):(m*2^k).log2=m.log2+k:=by
 induction k with
 |zero=>simp
 |succ k ih=>
  rw[AaN,<-XN,Aav _ 2,Nat.log2_two_mul (Nat.mul_ne_zero h (by have:=Aao k;omega)),ih];omega
theorem IL(way:Toward)(neg:Bool)(n:Nat):way.cut neg n 0=n:=by
 unfold Toward.cut;cases way<;>simp[Nat.mod_one]
theorem Vq(neg:Bool)(kept:Nat)(last:Int)(h1:-1074<=last)(h2:last<=971)(h3:kept<2^53)(h4:last=-1074\/2^52<=kept):
  double.read (double.word neg (min ((last-double.leastPlace).toNat*double.binade+kept) double.infRung))=.number neg kept last:=by
 have hb:double.binade=4503599627370496:=by decide
 have c:double.infRung=9218868437227405312:=by decide
 have hl:double.leastPlace=-1074:=by decide
 have hs:double.signWeight=9223372036854775808:=by decide
 rw[hl,hb,c];obtain⟨p,d⟩:∃p:Nat,p=(last- -1074).toNat:=⟨_,rfl⟩;rw[<-d];have a:last=(p:Int)-1074:=by omega
 have b:min (p*4503599627370496+kept) 9218868437227405312=p*4503599627370496+kept:=by
  apply Nat.min_eq_left;omega
 rw[b];unfold Format.read Format.word;dsimp only;rw[hb,c,hl,hs];have e:∀r:Nat,r<9223372036854775808->(if neg=true then 9223372036854775808+r else r)%9223372036854775808=r:=by
  intro r h;cases neg<;>simp<;>omega
 have hn:∀r:Nat,r<9223372036854775808->((if neg=true then 9223372036854775808+r else r)/9223372036854775808%2==1)=neg:=by
  intro r h;cases neg
  ·have:r/9223372036854775808%2=0:=by omega
   simp[this]
  ·have:(9223372036854775808+r)/9223372036854775808%2=1:=by omega
   rw[C3 rfl,this];rfl
 rw[e _ (by omega),hn _ (by omega)];by_cases hz:p*4503599627370496+kept<4503599627370496
 ·rw[C3 hz];have:p=0:=by omega
  subst this;simp[a]
 ·rw[Cs hz,C3 (by omega)]
  congr 1
  ·omega
  ·omega
theorem F7(neg:Bool)(a:Nat)(place:Int)(m:Nat)(p:Int)(n:a≠0)(v:-1074<=place)(w:m<2^53)(x:-1074<=p)(A:p<=971)
  (g:a*2^(place+1074).toNat=m*2^(p+1074).toNat):
  ∃q l,double.read (double.nearest neg a place)=.number neg q l/\-1074<=l/\l<=971/\q*2^(l+1074).toNat=a*2^(place+1074).toNat:=by
 have hl:double.leastPlace=-1074:=by decide
 have hf:double.fractionBits=52:=rfl;have i:m≠0:=by
  intro e;subst e;have:=Aao (place+1074).toNat;rw[Nat.zero_mul]at g;rcases Nat.mul_eq_zero.1 g with h|h<;>omega
 have t:a.log2+(place+1074).toNat=m.log2+(p+1074).toNat:=by
  rw[<-GI a _ n,<-GI m _ i,g]
 have u:m.log2<=52:=by
  have:=(Nat.log2_lt i).2 w;omega
 unfold Format.nearest;rw[Cs n];dsimp only;rw[hf];obtain⟨last,b⟩:∃last:Int,last=max (place+↑a.log2-((52:Nat):Int)) double.leastPlace:=⟨_,rfl⟩;rw[<-b];rw[hl]at b;have l1:-1074<=last:=by omega
 have l2:last<=971:=by omega
 obtain⟨kept,hk,k⟩:∃kept,Toward.even.cut neg (a <<< (place-last).toNat) (last-place).toNat=kept/\kept*2^(last+1074).toNat=a*2^(place+1074).toNat:=by
  by_cases hc:last<=place
  ·refine⟨_,rfl,?_⟩;have e0:(last-place).toNat=0:=by omega
   rw[e0,IL,Nat.shiftLeft_eq,XN,<-Nat.pow_add]
   congr 2;omega
  ·have e0:(place-last).toNat=0:=by omega
   rw[e0,Nat.shiftLeft_zero];obtain⟨d,B⟩:∃d,d=(last-place).toNat:=⟨_,rfl⟩;rw[<-B];have o:d<=a.log2+2:=by omega
   have j:∃q,a=q*2^d:=by
    obtain⟨c,C⟩:∃c,c=(p-place).toNat:=⟨_,rfl⟩;have e1:(p+1074).toNat=c+(place+1074).toNat:=by omega
    rw[e1,Nat.pow_add,<-XN]at g;have e2:=Nat.eq_of_mul_eq_mul_right (Aao _) g;refine⟨m*2^(c-d),?_⟩;rw[e2,XN,<-Nat.pow_add]
    congr 2;omega
   obtain⟨q,hq⟩:=j;refine⟨q,?_,?_⟩
   ·unfold Toward.cut;dsimp only;rw[Nat.min_eq_left o,Nat.one_shiftLeft];have r:=Aao d;have m1:a/2^d=q:=by rw[hq];exact Nat.mul_div_cancel _ r
    have m2:a%2^d=0:=by rw[hq];exact Nat.mul_mod_left _ _
    have m3:(2^d==0)=false:=by simp
    rw[m1,m2];simp
   ·rw[hq,XN,<-Nat.pow_add]
    congr 2;omega
 rw[hk];have f:kept≠0:=by
  intro e;subst e;have:=Aao (place+1074).toNat;rw[Nat.zero_mul]at k;rcases Nat.mul_eq_zero.1 k.symm with h|h<;>omega
 have s:kept.log2+(last+1074).toNat=a.log2+(place+1074).toNat:=by
  rw[<-GI a _ n,<-GI kept _ f,k]
 have k1:kept<2^53:=by
  apply(Nat.log2_lt f).1;omega
 have k2:last=-1074\/2^52<=kept:=by
  by_cases h:last=-1074
  ·exact .inl h
  ·right;exact(Nat.le_log2 f).1 (by omega)
 exact⟨kept,last,Vq neg kept last l1 l2 k1 k2,l1,l2,k⟩
theorem JG(neg:Bool)(place:Int):double.read (double.nearest neg 0 place)=.number neg 0 (-1074):=by
 cases neg<;>(unfold Format.nearest;rw[C3 rfl];decide)
theorem TY(s:Bool)(q:Nat)(l:Int)(a:Nat)(place:Int)(h:q*2^(l+1074).toNat=a*2^(place+1074).toNat):sc s q l=sc s a place:=by
 unfold sc signed;rw[Nat.shiftLeft_eq,Nat.shiftLeft_eq,h]
theorem Fa(s:Bool)(i:Int):sc s 0 i=0:=by
 unfold sc signed;rw[Nat.shiftLeft_eq,Nat.zero_mul];cases s<;>rfl
def U:Int:=(2:Int)^1074
theorem N1:0<U:=Ep _
def sg(s:Bool)(n:Nat):Int:=if s then -(n:Int)else n
theorem M4(s:Bool)(n:Nat):sc s n 0=sg s n*U:=by
 unfold sc sg U;rw[Cv];have:((0:Int)+1074).toNat=1074:=by decide
 rw[this];generalize (2:Int)^1074=u;cases s
 ·simp
 ·simp[Int.neg_mul]
def Fits(n:Nat):Prop:=∃q c:Nat,n=q*2^c/\q<2^53/\c<=971
theorem Ms{n:Nat}(h:n<2^53):Fits n:=⟨n,0,by simp,h,by omega⟩
theorem F8(neg:Bool)(n:Nat)(h:Fits n):∃q l,double.read (double.nearest neg n 0)=.number neg q l/\-1074<=l/\sc neg q l=sg neg n*U:=by
 by_cases a:n=0
 ·subst a;exact⟨0,-1074,JG _ _,by omega,by rw[Fa];cases neg<;>simp[sg]⟩
 ·obtain⟨q,c,rfl,hq,hc⟩:=h;obtain⟨b,l,d,h1,_,e⟩:=F7 neg (q*2^c) 0 q c a (by omega) hq (by omega) (by omega) (by
   rw[XN,<-Nat.pow_add];congr 2)
  exact⟨b,l,d,h1,by rw[TY neg b l _ 0 e,M4]⟩
def whole(m:Nat)(i:Int):Nat:=if 0<=i then m*2^i.toNat else m/2^(-i).toNat
theorem N6(s:Bool)(m:Nat)(i:Int):Toward.zero.cut s (m <<< i.toNat) (-i).toNat=whole m i:=by
 unfold whole;by_cases h:0<=i
 ·have e:(-i).toNat=0:=by omega
  rw[C3 h,e,IL,Nat.shiftLeft_eq]
 ·have e:i.toNat=0:=by omega
  rw[Cs h,e,Nat.shiftLeft_zero];unfold Toward.cut;dsimp only;generalize (-i).toNat=d;rw[Nat.one_shiftLeft];by_cases b:d<=m.log2+2
  ·rw[Nat.min_eq_left b];simp
  ·rw[Nat.min_eq_right (by omega)];have h1:m<2^(m.log2+2):=by
    by_cases a:m=0
    ·subst a;simp
    ·exact(Nat.log2_lt a).1 (by omega)
   have h2:m<2^d:=Be h1 (Nat.pow_le_pow_right (by omega) (by omega));rw[Nat.div_eq_of_lt h1,Nat.div_eq_of_lt h2];simp
theorem PR(s:Bool)(m:Nat)(i:Int):(Datum.number s m i).toInt .zero=some (sg s (whole m i)):=by
 show some (signed s (Toward.zero.cut s (m <<< i.toNat) (-i).toNat) 0)=_;rw[N6];unfold signed sg;cases s<;>simp
theorem Ln(s:Bool)(m:Nat)(i:Int):(Datum.number s m i).integral .zero=.number s (whole m i) 0:=by
 show Datum.number s (Toward.zero.cut s (m <<< i.toNat) (-i).toNat) 0=_;rw[N6]
theorem Mt(m:Nat)(i:Int)(a:m<2^53)(hi:i<=971):Fits (whole m i):=by
 unfold whole;by_cases h:0<=i
 ·rw[C3 h];exact⟨m,i.toNat,rfl,a,by omega⟩
 ·rw[Cs h];exact Ms (Aay (Nat.div_le_self _ _) a)
theorem Ff(m:Nat)(i:Int)(hi:-1074<=i):(whole m i:Int)*U<=sc false m i/\sc false m i<((whole m i:Int)+1)*U:=by
 unfold sc U whole;rw[Cv];by_cases h:0<=i
 ·rw[C3 h];have e:(i+1074).toNat=i.toNat+1074:=by omega
  rw[e,Int.pow_add];have c:=Ep 1074;generalize (2:Int)^1074=u at c;have e2:((m*2^i.toNat:Nat):Int)=(m:Int)*2^i.toNat:=by norm_cast
  rw[e2];simp only[Aai,X9,Int.one_mul,<-Int.mul_assoc,Int.add_mul];generalize (m:Int)*2^i.toNat*u=Z;omega
 ·rw[Cs h];obtain⟨d,f⟩:∃d,d=(-i).toNat:=⟨_,rfl⟩;rw[<-f];obtain⟨a,b⟩:∃a:Nat,a=1074:=⟨_,rfl⟩;rw[<-b];have e:a=(i+(a:Int)).toNat+d:=by omega
  have e':((1074:Int))=(a:Int):=by omega
  rw[e'];generalize (i+(a:Int)).toNat=k at e;rw[e,Int.pow_add];have h1:=Nat.div_add_mod m (2^d);have h2:=Aae m (Aao d);generalize m/2^d=q at h1;have hk:=Ep k;simp only[Aai,X9,Int.one_mul];have e1:(q:Int)*((2:Int)^k*2^d)=((2^d*q:Nat):Int)*2^k:=by
   push_cast;rw[Int.mul_comm ((2:Int)^k),<-Int.mul_assoc,Int.mul_comm (q:Int)]
  have e2:((q:Int)+1)*((2:Int)^k*2^d)=((2^d*q+2^d:Nat):Int)*2^k:=by
   rw[Int.add_mul,e1];push_cast;rw[Int.add_mul,Int.one_mul,Int.mul_comm ((2:Int)^k)]
  rw[e1,e2];exact⟨Int.mul_le_mul_of_nonneg_right (by omega) (by omega),Int.mul_lt_mul_of_pos_right (by omega) hk⟩
theorem Es(m:Nat)(i:Int):sc true m i=-sc false m i:=by
 unfold sc signed;simp
theorem Rj(m:Nat)(i:Int)(b:m<2^53)(Cy:(whole m i:Int)*U≠sc false m i):whole m i<2^52:=by
 by_cases h:0<=i
 ·exfalso;apply Cy;unfold sc U whole;rw[Cv,C3 h];have e:(i+1074).toNat=i.toNat+1074:=by omega
  rw[e,Int.pow_add];generalize (2:Int)^1074=u
  push_cast
  simp[Int.mul_assoc]
 ·unfold whole;rw[Cs h];obtain⟨d,a⟩:∃d,(-i).toNat=d+1:=⟨(-i).toNat-1,by omega⟩;rw[a,AaN,Aav,<-Nat.div_div_eq_div_mul];refine Aay (Nat.div_le_self _ _) (by omega)
theorem Vt(s:Bool)(k:Nat):(sg s k).natAbs=k:=by cases s<;>simp[sg]
theorem QZ(n:Int):sg (decide (n<0)) n.natAbs=n:=by
 by_cases h:n<0<;>simp[sg,h]<;>omega
theorem B6{x Z:Nat}{s t:Bool}{m n:Nat}{i j:Int}(hx:double.read x=.number s m i)(hy:double.read Z=.number t n j)(hi:-1074<=i)(hj:-1074<=j):
  double.order x Z=some (compare (sc s m i) (sc t n j)):=by
 unfold Format.order;rw[hx,hy,PD s t m n i j hi hj]
theorem Gu:double.read 4890909195324358656=.number false 4503599627370496 11:=by decide
theorem Gv:double.read 14114281232179134464=.number true 4503599627370496 11:=by decide
theorem QT:double.read 4607182418800017408=.number false 4503599627370496 (-52):=by decide
theorem CP:double.read 0=.number false 0 (-1074):=by decide
theorem M3:sc false 4503599627370496 11=9223372036854775808*U:=by
 unfold sc U;rw[Cv];have:((11:Int)+1074).toNat=11+1074:=by decide
 rw[this,Int.pow_add];generalize (2:Int)^1074=u;simp;omega
theorem PJ:sc true 4503599627370496 11=-(9223372036854775808*U):=by rw[Es,M3]
theorem dB:sc false 4503599627370496 (-52)=U:=by
 unfold sc U;rw[Cv];have h:((-52:Int)+1074).toNat=1022:=by decide
 have h2:(1074:Nat)=52+1022:=by decide
 rw[h,h2,Int.pow_add];generalize (2:Int)^1022=u;simp
theorem Ni{x:Nat}{s:Bool}{m:Nat}{i:Int}(hx:double.read x=.number s m i)(hi:-1074<=i)(h1:-(9223372036854775808*U)<=sc s m i)(h2:sc s m i<9223372036854775808*U):
  floatToIntVal .f64 x .i64=some (sg s (whole m i)):=by
 have b:(FloatKind.f64.decode x).toInt .zero=some (sg s (whole m i)):=by
  show(double.read x).toInt .zero=_;rw[hx,PR]
 have hb:=Ff m i hi;have hu:=N1;have key:IntKind.i64.min<=sg s (whole m i)/\sg s (whole m i)<=IntKind.i64.max:=by
  have e1:IntKind.i64.min=-9223372036854775808:=by decide
  have e2:IntKind.i64.max=9223372036854775807:=by decide
  rw[e1,e2];generalize whole m i=k at*;cases s
  ·have a:(k:Int)*U<9223372036854775808*U:=by omega
   have:=Int.lt_of_mul_lt_mul_right a (by omega);simp only[sg,Aai,X9];omega
  ·rw[Es]at h1;have a:(k:Int)*U<=9223372036854775808*U:=by omega
   have:=Int.le_of_mul_le_mul_right a hu;simp only[sg,Aaz];omega
 unfold floatToIntVal;rw[b];simp only;rw[C3 key]
theorem Vj{x:Nat}{s:Bool}{m:Nat}{i:Int}(hx:double.read x=.number s m i)(hi:-1074<=i)(a:i<=971)(b:m<2^53):
  (double.order x (double.nearest s (whole m i) 0)==some .eq)=decide (sc s m i=sg s (whole m i)*U):=by
 obtain⟨q,l,c,hl,d⟩:=F8 s (whole m i) (Mt m i b a);rw[B6 hx c hi hl,C0,d]
theorem Vi{x:Nat}{s:Bool}{m:Nat}{i:Int}(hx:double.read x=.number s m i)(hi:-1074<=i)(a:i<=971)(d:m<2^53):
  double.order x (double.nearest (decide (sg s (whole m i)<0)) (sg s (whole m i)).natAbs 0)=some (compare (sc s m i) (sg s (whole m i)*U))/\
  double.order (double.nearest (decide (sg s (whole m i)<0)) (sg s (whole m i)).natAbs 0) x=some (compare (sg s (whole m i)*U) (sc s m i)):=by
 obtain⟨q,l,c,hl,b⟩:=F8 (decide (sg s (whole m i)<0)) (sg s (whole m i)).natAbs (by rw[Vt];exact Mt m i d a);rw[QZ]at b;exact⟨by rw[B6 hx c hi hl,b],by rw[B6 c hx hl hi,b]⟩
theorem sub_one(n:Int)(h:-(2^52)<n)(h2:n<2^52):∃r q l b,double.sub (double.nearest (decide (n<0)) n.natAbs 0) 4607182418800017408=some r/\double.read r=.number b q l/\-1074<=l/\sc b q l=(n-1)*U:=by
 obtain⟨q,l,p,hl,j⟩:=F8 (decide (n<0)) n.natAbs (Ms (by omega));rw[QZ]at j;unfold Format.sub;rw[p,QT];simp only[Datum.opposite,Datum.sum,Option.map_some];obtain⟨base,d⟩:∃base:Int,base=min l (-52):=⟨_,rfl⟩;rw[<-d];obtain⟨a,c⟩:∃a:Int,a=signed (decide (n<0)) q (l-base).toNat+signed (!false) 4503599627370496 (-52-base).toNat:=⟨_,rfl⟩;rw[<-c];have hs:a*(2:Int)^(base+1074).toNat=(n-1)*U:=by
  have e1:signed (decide (n<0)) q (l-base).toNat*(2:Int)^(base+1074).toNat=sc (decide (n<0)) q l:=by
   unfold sc;rw[<-Fb];congr 1;omega
  have e2:signed (!false) 4503599627370496 (-52-base).toNat*(2:Int)^(base+1074).toNat=-U:=by
   rw[<-dB,<-Es];unfold sc;rw[<-Fb];congr 1;omega
  rw[c,Int.add_mul,e1,e2,j,Int.sub_mul];omega
 by_cases k:a=0
 ·rw[k,Int.zero_mul]at hs;refine⟨_,0,-1074,(if a=0 then decide (n<0)&&!false else decide (a<0)),rfl,?_,by omega,?_⟩
  ·show double.read (double.nearest _ a.natAbs base)=_;rw[show a.natAbs=0 from by omega];exact JG _ _
  ·rw[Fa,hs]
 ·have s:n-1≠0:=by
   intro e;rw[e,Int.zero_mul]at hs;have:=Ep (base+1074).toNat;rcases Int.mul_eq_zero.1 hs with h|h<;>omega
  have Qt:a.natAbs*2^(base+1074).toNat=(n-1).natAbs*2^((0:Int)+1074).toNat:=by
   have e:(a*(2:Int)^(base+1074).toNat).natAbs=((n-1)*U).natAbs:=by rw[hs]
   rw[Int.natAbs_mul,Int.natAbs_mul]at e;have e0:((0:Int)+1074).toNat=1074:=by decide
   rw[e0];unfold U at e;have e3:(2:Int).natAbs=2:=rfl;rw[Int.natAbs_pow,Int.natAbs_pow,e3]at e;exact e
  obtain⟨m,o,g,i,_,hv'⟩:=F7 (decide (a<0)) a.natAbs base (n-1).natAbs 0 (by omega) (by omega) (by omega) (by omega) (by omega) Qt;refine⟨_,m,o,decide (a<0),rfl,?_,i,?_⟩
  ·show double.read (double.nearest (if a=0 then decide (n<0)&&!false else decide (a<0)) a.natAbs base)=_;rw[Cs k];exact g
  ·rw[TY _ m o _ base hv'];unfold sc;rw[<-hs];rw[Cv];rw[<-Int.mul_assoc]
   congr 1
   by_cases f:a<0<;>simp[f]<;>omega
theorem WN{x:Nat}{s:Bool}{m:Nat}{i:Int}(hx:double.read x=.number s m i)(hi:-1074<=i)(c:m<2^53)
  (a:sc s m i<sg s (whole m i)*U):
  ∃r,floatBits .sub .f64 (double.nearest (decide (sg s (whole m i)<0)) (sg s (whole m i)).natAbs 0) 4607182418800017408=some r/\(double.order x r==some .eq)=false:=by
 have hb:=Ff m i hi;have hu:=N1;have hs:s=true:=by
  cases s
  ·exfalso;simp only[sg,Aai,X9]at a;omega
  ·rfl
 subst hs;have d:=Rj m i c (by
  intro e;rw[Es]at a;simp only[sg,Aaz]at a;rw[Int.neg_mul]at a;omega)
 obtain⟨r,q,l,b,h1,h2,h3,h4⟩:=sub_one (sg true (whole m i)) (by simp only[sg,Aaz];omega) (by simp only[sg,Aaz];omega);refine⟨r,h1,?_⟩;rw[B6 hx h2 hi h3,C0,h4,Es];simp only[sg,Aaz];have e:(-(whole m i:Int)-1)*U=-(((whole m i:Int)+1)*U):=by rw[<-Int.neg_mul];congr 1;omega
 rw[e];simp;omega
end Fl
namespace Fl
open Ieee
theorem fields(x:Nat)(hx:x<18446744073709551616):∃a e f:Nat,x=a*9223372036854775808+e*4503599627370496+f/\a<2/\e<2048/\f<4503599627370496:=
 ⟨x/9223372036854775808,x/4503599627370496%2048,x%4503599627370496,by omega,by omega,by omega,by omega⟩
theorem BM(a e f:Nat)(h1:a<2)(h2:e<2047)(h3:f<4503599627370496):
  double.read (a*9223372036854775808+e*4503599627370496+f)=.number (a==1) (if e=0 then f else 4503599627370496+f) (if e=0 then -1074 else(e:Int)-1075):=by
 unfold Format.read;have hb:double.binade=4503599627370496:=by decide
 have c:double.infRung=9218868437227405312:=by decide
 have hl:double.leastPlace=-1074:=by decide
 have hs:double.signWeight=9223372036854775808:=by decide
 dsimp only;rw[hb,c,hl,hs];have e1:(a*9223372036854775808+e*4503599627370496+f)%9223372036854775808=e*4503599627370496+f:=by omega
 have e2:(a*9223372036854775808+e*4503599627370496+f)/9223372036854775808%2=a:=by omega
 rw[e1,e2];by_cases b:e=0
 ·subst b;rw[C3 (by omega),C3 rfl,C3 rfl];simp
 ·rw[Cs (by omega),C3 (by omega),Cs b,Cs b]
  congr 1
  ·omega
  ·have:(e*4503599627370496+f)/4503599627370496=e:=by omega
   rw[this];omega
theorem BN(a f:Nat)(h1:a<2)(h3:f<4503599627370496):
  double.read (a*9223372036854775808+2047*4503599627370496+f)=if f=0 then .infinity (a==1)else .nan (a==1) f:=by
 unfold Format.read;have hb:double.binade=4503599627370496:=by decide
 have b:double.infRung=9218868437227405312:=by decide
 have hs:double.signWeight=9223372036854775808:=by decide
 dsimp only;rw[hb,b,hs];have e1:(a*9223372036854775808+2047*4503599627370496+f)%9223372036854775808=9218868437227405312+f:=by omega
 have e2:(a*9223372036854775808+2047*4503599627370496+f)/9223372036854775808%2=a:=by omega
 rw[e1,e2,Cs (by omega),Cs (by omega)];by_cases hf:f=0
 ·subst hf;simp
 ·rw[Cs (by omega),Cs hf,show 9218868437227405312+f-9218868437227405312=f from by omega]
theorem YO:(2:Nat)^63=9223372036854775808:=by decide
theorem iV:(2:Nat)^63-1=9223372036854775807:=by decide
theorem VT:(2:Nat)^52=4503599627370496:=by decide
theorem iU:(2:Nat)^52-1=4503599627370495:=by decide
theorem RG:(2:Nat)^11=2048:=by decide
theorem iT:(2:Nat)^11-1=2047:=by decide
theorem QW(a:Nat):a*9223372036854775808%2^52=0:=by
 have e:a*9223372036854775808=a*2048*2^52:=by rw[VT,XN]
 rw[e];exact Nat.mul_mod_left _ _
theorem KN(a e f:Nat)(h1:a<2)(h2:e<2048)(h3:f<4503599627370496):
  bits BinOp.andNot IntKind.u64 ((a*9223372036854775808+e*4503599627370496+f:Nat):Int) 9223372036854775808=((e*4503599627370496+f:Nat):Int):=by
 have h:=u64_andNot_nat (a*9223372036854775808+e*4503599627370496+f) 9223372036854775808 (by omega) (by omega);refine h.trans ?_
 congr 1
 have:=Nat.and_two_pow_sub_one_eq_mod (a*9223372036854775808+e*4503599627370496+f) 63;rw[iV,YO]at this;rw[show 18446744073709551615-9223372036854775808=9223372036854775807 from rfl,this];omega
theorem RD(a e f:Nat)(h1:a<2)(h2:e<2048)(h3:f<4503599627370496):
  bits BinOp.andNot IntKind.u64 ((a*9223372036854775808+e*4503599627370496+f:Nat):Int) 9218868437227405312=((a*9223372036854775808+f:Nat):Int):=by
 have h:=u64_andNot_nat (a*9223372036854775808+e*4503599627370496+f) 9218868437227405312 (by omega) (by omega);refine h.trans ?_
 congr 1
 have m1:18446744073709551615-9218868437227405312=9223372036854775808 ||| 4503599627370495:=by decide
 rw[m1,Nat.and_or_distrib_left];have a1:=nat_bit 63 (a*9223372036854775808+e*4503599627370496+f);have a2:=Nat.and_two_pow_sub_one_eq_mod (a*9223372036854775808+e*4503599627370496+f) 52;rw[YO]at a1;rw[iU,VT]at a2;rw[a1,a2];have e1:(a*9223372036854775808+e*4503599627370496+f)/9223372036854775808%2=a:=by omega
 have e2:(a*9223372036854775808+e*4503599627370496+f)%4503599627370496=f:=by omega
 rw[e1,e2,nat_join 52 (a*9223372036854775808) f (QW a) (by rw[VT];omega)]
theorem cU(a f:Nat)(h1:a<2)(h3:f<4503599627370496):
  bits BinOp.or IntKind.u64 ((a*9223372036854775808+f:Nat):Int) 4602678819172646912=((a*9223372036854775808+1022*4503599627370496+f:Nat):Int):=by
 have h:=u64_or_nat (a*9223372036854775808+f) 4602678819172646912 (by omega) (by omega);refine h.trans ?_
 congr 1
 have b:=nat_join 52 (a*9223372036854775808) f (QW a) (by rw[VT];omega);have c:=nat_join 52 4602678819172646912 f (by rw[VT]) (by rw[VT];omega);have d:=nat_join 63 (a*9223372036854775808) (4602678819172646912+f) (by rw[YO];exact Nat.mul_mod_left _ _) (by rw[YO];omega);rw[<-b,Nat.or_assoc,Nat.or_comm f,c,d];omega
theorem YL(e:Nat)(h2:e<4096):bits BinOp.and IntKind.u64 (e:Int) 2047=((e%2048:Nat):Int):=by
 have h:=u64_and_nat e 2047 (by omega) (by omega);refine h.trans ?_
 congr 1
 have:=Nat.and_two_pow_sub_one_eq_mod e 11;rw[iT,RG]at this;exact this
theorem Oy{x Z:Nat}{s t:Bool}{m n:Nat}{i j:Int}(hx:double.read x=.number s m i)(hy:double.read Z=.number t n j)(f:m*n≠0)(b:-1074<=i+j)
  (a:Nat) (p:Int) (g:a<2^53) (c:-1074<=p) (d:p<=971) (e:(m*n)*2^(i+j+1074).toNat=a*2^(p+1074).toNat):
  ∃r q l,floatBits .mul .f64 x Z=some r/\double.read r=.number (s^^t) q l/\-1074<=l/\l<=971/\q*2^(l+1074).toNat=a*2^(p+1074).toNat:=by
 obtain⟨q,l,h1,h2,h3,h4⟩:=F7 (s^^t) (m*n) (i+j) a p f b g c d e;refine⟨double.nearest (s^^t) (m*n) (i+j),q,l,?_,h1,h2,h3,h4.trans e⟩;show((double.read x).product (double.read Z)).map double.write=_;rw[hx,hy];rfl
theorem MY:double.read 9218868437227405311=.number false 9007199254740991 971:=by decide
theorem XO:double.read 4841369599423283200=.number false 4503599627370496 0:=by decide
theorem XP:double.read 4845873199050653696=.number false 4503599627370496 1:=by decide
theorem MX:double.read 4503599627370496=.number false 4503599627370496 (-1074):=by decide
theorem FD(m:Nat)(i:Int):sc false m i=((m*2^(i+1074).toNat:Nat):Int):=by
 unfold sc signed;rw[Nat.shiftLeft_eq];simp
theorem Vs(s:Bool)(m:Nat)(i:Int)(c:m<2^53)(hi:i<=971):sc s m i<=sc false 9007199254740991 971:=by
 have h1:sc s m i<=sc false m i:=by
  cases s
  ·exact AaC _
  ·rw[Es,FD];omega
 refine Int.le_trans h1 ?_;rw[FD,FD];have a:m<=9007199254740991:=by omega
 have b:2^(i+1074).toNat<=2^((971:Int)+1074).toNat:=Nat.pow_le_pow_right (by omega) (by omega);exact Int.ofNat_le.2 (Nat.mul_le_mul a b)
theorem Iu{x:Nat}{s:Bool}{m:Nat}{i:Int}(hx:double.read x=.number s m i)(hi:-1074<=i)(a:i<=971)(b:m<2^53):(double.order x 9218868437227405311==some .gt)=false:=by
 rw[B6 hx MY hi (by omega),I7];have:=Vs s m i b a;simp;omega
theorem Og{x:Nat}(hx:double.read x=.infinity false):(double.order x 9218868437227405311==some .gt)=true:=by
 unfold Format.order;rw[hx,MY];rfl
theorem Sp{x:Nat}(hx:double.read x=.infinity true):(double.order x 9218868437227405311==some .gt)=false:=by
 unfold Format.order;rw[hx,MY];rfl
end Fl
namespace Fl
open Ieee
structure Fr (x:Nat) (s:Bool) (m:Nat) (i:Int) (a y e0 z z2:Nat) (k:Int) (j:Nat):Prop where
 hk:-60<=k
 G4:k<=60
 bS:e0<2048
 Qt:bits BinOp.andNot IntKind.u64 (x:Int) 9223372036854775808=(a:Int)
 Nr:(double.order a 9218868437227405311==some .gt)=false
 TB:(k=0/\y=x/\(double.order a 4503599627370496==some .lt)=false)\/(k=-52/\floatBits .mul .f64 x 4841369599423283200=some y/\(double.order a 4503599627370496==some .lt)=true)
 h1:bits BinOp.and IntKind.u64 ((y:Int)/4503599627370496) 2047=(e0:Int)
 h2:bits BinOp.andNot IntKind.u64 (y:Int) 9218868437227405312=(z:Int)
 h3:bits BinOp.or IntKind.u64 (z:Int) 4602678819172646912=(z2:Int)
 rd:double.read z2=.number s (m*2^j) (-53)
 lo:2^52<=m*2^j
 hi:m*2^j<2^53
 ex:k+((e0:Int)-1023+1)-53=i-j
theorem Mu(Z a e f:Nat)(hy:Z=a*9223372036854775808+e*4503599627370496+f)(h1:a<2)(h2:e<2048)(h3:f<4503599627370496):
  bits BinOp.and IntKind.u64 ((Z:Int)/4503599627370496) 2047=(e:Int)/\
  bits BinOp.andNot IntKind.u64 (Z:Int) 9218868437227405312=((a*9223372036854775808+f:Nat):Int)/\
  bits BinOp.or IntKind.u64 ((a*9223372036854775808+f:Nat):Int) 4602678819172646912=((a*9223372036854775808+1022*4503599627370496+f:Nat):Int):=by
 subst hy;refine⟨?_,RD a e f h1 h2 h3,cU a f h1 h3⟩;have q:(((a*9223372036854775808+e*4503599627370496+f:Nat):Int)/4503599627370496)=((a*2048+e:Nat):Int):=by omega
 rw[q,YL _ (by omega)]
 congr 1;omega
theorem Qm(x:Nat)(hx:x<18446744073709551616)(s:Bool)(m:Nat)(i:Int)(B:double.read x=.number s m i)(R:m≠0):
  ∃M Z e0 X z2 k j,Fr x s m i M Z e0 X z2 k j:=by
 obtain⟨o,e,f,rfl,b1,b2,b3⟩:=fields x hx;have K:e<2047:=by
  apply Nat.lt_of_le_of_ne (by omega);intro h;subst h;rw[BN o f b1 b3]at B
  split at B<;>cases B
 rw[BM o e f b1 K b3]at B;injection B with hs d g
 have u:double.read (0*9223372036854775808+e*4503599627370496+f)=_:=BM 0 e f (by omega) K b3;rw[Nat.zero_mul,Aaa]at u;by_cases E:e=0
 ·subst E;simp only[Aaz]at d g u;subst d g;have F:double.read (o*9223372036854775808+0*4503599627370496+f)=.number s f (-1074):=by
   rw[BM o 0 f b1 (by omega) b3];simp[hs]
  obtain⟨r,q,l,t,b,P,Q,A⟩:=Oy F XO (by omega) (by omega) f (-1022) (by omega) (by omega) (by omega) (by
   rw[show((-1074:Int)+0+1074).toNat=0 from by decide,show((-1022:Int)+1074).toNat=52 from by decide,Nat.pow_zero,Nat.mul_one,<-VT])
  rw[show((-1022:Int)+1074).toNat=52 from by decide]at A;have C:r<18446744073709551616:=by
   have:=floatBits_wf t;simpa[Lit.wf]using this
  obtain⟨n,e',f',w,d1,d2,d3⟩:=fields r C;have H:e'<2047:=by
   apply Nat.lt_of_le_of_ne (by omega);intro h;rw[w,h,BN n f' d1 d3]at b
   split at b<;>cases b
  rw[w,BM n e' f' d1 H d3]at b;injection b with g1 g2 g3
  have Cy:e'≠0:=by
   intro h;subst h;simp only[Aaz]at g2 g3;subst g2 g3;rw[show((-1074:Int)+1074).toNat=0 from by decide,Nat.pow_zero,Nat.mul_one,VT]at A;omega
  rw[Cs Cy]at g2 g3;subst g2 g3;rw[Bool.xor_false]at g1;obtain⟨c,hc⟩:∃c:Nat,c=((e':Int)-1075+1074).toNat:=⟨_,rfl⟩;rw[<-hc]at A;have L:c<=52:=by
   apply Nat.le_of_not_lt;intro I;have p1:2^53<=2^c:=Nat.pow_le_pow_right (by omega) I;have p2:(4503599627370496+f')*2^53<=(4503599627370496+f')*2^c:=Nat.mul_le_mul_left _ p1;rw[VT]at A;omega
  have hj:4503599627370496+f'=f*2^(52-c):=by
   have e1:2^52=2^(52-c)*2^c:=by rw[<-Nat.pow_add];congr 1;omega
   rw[e1,<-XN]at A;exact Nat.eq_of_mul_eq_mul_right (Aao c) A
  obtain⟨t1,t2,t3⟩:=Mu r n e' f' w d1 (by omega) d3;have D:(double.order f 4503599627370496==some .lt)=true:=by
   have a:double.read f=.number false f (-1074):=by simpa using u
   rw[B6 a MX (by omega) (by omega),Kd,FD,FD];simp;omega
  refine⟨f,r,e',_,_,-52,52-c,by omega,by omega,by omega,?_,?_,.inr ⟨rfl,t,D⟩,t1,t2,t3,?_,?_,?_,?_⟩
  ·have:=KN o 0 f b1 (by omega) b3;simpa using this
  ·have a:double.read f=.number false f (-1074):=by simpa using u
   exact Iu a (by omega) (by omega) (by omega)
  ·rw[BM n 1022 f' d1 (by omega) d3,Cs (by omega),Cs (by omega),g1,hj];rfl
  ·rw[<-hj,VT];omega
  ·rw[<-hj];omega
  ·omega
 ·rw[Cs E]at d g u;rw[Cs E]at u;subst d g;obtain⟨t1,t2,t3⟩:=Mu _ o e f rfl b1 (by omega) b3;have a:double.read (e*4503599627370496+f)=.number false (4503599627370496+f) ((e:Int)-1075):=by simpa using u
  refine⟨e*4503599627370496+f,_,e,_,_,0,0,by omega,by omega,by omega,KN o e f b1 b2 b3,?_,.inl ⟨rfl,rfl,?_⟩,t1,t2,t3,?_,?_,?_,?_⟩
  ·exact Iu a (by omega) (by omega) (by omega)
  ·rw[B6 a MX (by omega) (by omega),Kd,FD,FD];have p:1<=2^((e:Int)-1075+1074).toNat:=Aao _;have p2:(4503599627370496+f)*1<=(4503599627370496+f)*2^((e:Int)-1075+1074).toNat:=Nat.mul_le_mul_left _ p;generalize (4503599627370496+f)*2^((e:Int)-1075+1074).toNat=v at p2;rw[show((-1074:Int)+1074).toNat=0 from by decide];simp;omega
  ·rw[BM o 1022 f b1 (by omega) b3,Cs (by omega),Cs (by omega),hs];simp
  ·rw[Nat.pow_zero,VT];omega
  ·rw[Nat.pow_zero];omega
  ·omega
end Fl
namespace Fl
open Ieee
theorem GL:∀(a b m n:Nat),2^a*(2*m+1)=2^b*(2*n+1)->a=b/\m=n
 |0,0,m,n,h=>by simp at h;exact⟨rfl,by omega⟩
 |0,b+1,m,n,h=>by
  rw[AaN]at h;simp at h;exfalso;have:(2*m+1)%2=(2^b*2*(2*n+1))%2:=by rw[h]
  rw[XN,Nat.mul_left_comm,Nat.mul_mod_right]at this;omega
 |a+1,0,m,n,h=>by
  rw[AaN]at h;simp at h;exfalso;have:(2^a*2*(2*m+1))%2=(2*n+1)%2:=by rw[h]
  rw[XN,Nat.mul_left_comm,Nat.mul_mod_right]at this;omega
 |a+1,b+1,m,n,h=>by
  have h':2^a*(2*m+1)=2^b*(2*n+1):=by
   rw[AaN,AaN,Aav (2^a),Aav (2^b),XN,XN]at h;exact Nat.eq_of_mul_eq_mul_left (by omega) h
  obtain⟨e1,e2⟩:=GL a b m n h';exact⟨by omega,e2⟩
def uw(s:Bool)(Z:Nat):Nat:=if s then 18446744073709551616-Z else Z
theorem ZU(s:Bool)(Z:Nat)(a:0<Z)(h:Z<2^53):IntKind.u64.wrap (sg s Z)=((uw s Z:Nat):Int):=by
 rw[IntKind.wrap_u64];cases s
 ·simp only[sg,uw,Aai,X9];omega
 ·simp only[sg,uw,Aaz];omega
theorem Mn(s:Bool)(Z:Nat)(l:0<Z)(h:Z<2^53):∃M,Z=2^Lib.ctz 64 (uw s Z)*(2*M+1)/\Lib.ctz 64 (uw s Z)<53:=by
 have m:Z≠0:=by omega
 obtain⟨M,b,c⟩:=Lib.ctzFrom_spec 53 Z l h;generalize o:Lib.ctzFrom 53 Z=t at b c;have j:uw s Z≠0:=by unfold uw;split<;>omega
 have f:uw s Z<2^64:=by unfold uw;split<;>omega
 obtain⟨M',a,_⟩:=Lib.ctzFrom_spec 64 (uw s Z) (by omega) f;have e:Lib.ctz 64 (uw s Z)=Lib.ctzFrom 64 (uw s Z):=by unfold Lib.ctz;rw[Cs j]
 rw[e];generalize Lib.ctzFrom 64 (uw s Z)=t' at a;have k:t=t':=by
  cases s
  ·have:uw false Z=Z:=rfl;rw[this,b]at a;exact(GL _ _ _ _ a).1
  ·have hu:uw true Z=18446744073709551616-Z:=rfl;obtain⟨d,n⟩:∃d,64=t+(d+1):=⟨63-t,by omega⟩;have g:18446744073709551616=2^t*2^(d+1):=by rw[<-Nat.pow_add,<-n]
   have i:2*M+1<2^(d+1):=by
    have:2^t*(2*M+1)<2^t*2^(d+1):=by rw[<-b,<-g];omega
    exact Nat.lt_of_mul_lt_mul_left this
   have:uw true Z=2^t*(2*(2^d-M-1)+1):=by
    rw[hu,b,g,<-Nat.mul_sub]
    congr 1
    rw[AaN]at i ⊢;omega
   rw[this]at a;exact(GL _ _ _ _ a).1
 subst k;exact⟨M,b,c⟩
theorem X0(s:Bool)(t M:Nat):sg s (2^t*(2*M+1))/2^t=sg s (2*M+1):=by
 have a:(2:Int)^t≠0:=by have:=Ep t;omega
 cases s
 ·simp only[sg,Aai,X9]
  push_cast
  exact Int.mul_ediv_cancel_left _ a
 ·simp only[sg,Aaz]
  push_cast
  rw[<-Int.mul_neg];exact Int.mul_ediv_cancel_left _ a
theorem Yw(q:Nat)(l:Int)(Z:Nat)(hl:-1074<=l)(h:q*2^(l+1074).toNat=Z*2^((0:Int)+1074).toNat):whole q l=Z:=by
 have hb:=Ff q l hl;have hu:=N1;rw[TY false q l Z 0 h,M4]at hb;have e:sg false Z=(Z:Int):=rfl;rw[e]at hb;have h1:=Int.le_of_mul_le_mul_right hb.1 hu;have h2:=Int.lt_of_mul_lt_mul_right hb.2 (by omega);omega
theorem Rn(r:Nat)(h:r<9223372036854775808):r ^^^ 9223372036854775808=9223372036854775808+r/\(9223372036854775808+r) ^^^ 9223372036854775808=r:=by
 have e:r ^^^ 2^63=2^63+r:=by
  apply Nat.eq_of_testBit_eq;intro i;rw[Nat.testBit_xor,Nat.testBit_two_pow];by_cases hi:i=63
  ·subst hi;rw[Nat.testBit_two_pow_add_eq];have:r.testBit 63=false:=Nat.testBit_lt_two_pow (by rw[YO];exact h);simp[this]
  ·by_cases a:i<63
   ·rw[Nat.testBit_two_pow_add_gt a];have:(63:Nat)≠i:=by omega
    simp[this]
   ·have h1:r.testBit i=false:=Nat.testBit_lt_two_pow (Be (by rw[<-YO]at h;exact h) (Nat.pow_le_pow_right (by omega) (by omega)));have h2:(2^63+r).testBit i=false:=Nat.testBit_lt_two_pow (Be (show 2^63+r<2^64 from by rw[YO];omega) (Nat.pow_le_pow_right (by omega) (by omega)));have:(63:Nat)≠i:=by omega
    rw[h1,h2];simp[this]
 rw[YO]at e;refine⟨e,?_⟩;rw[<-e,Nat.xor_assoc,Nat.xor_self,Nat.xor_zero]
theorem cM(x:Nat):Op.negFloat .f64 x=x ^^^ 9223372036854775808:=by
 unfold Op.negFloat;have:FloatKind.f64.format.exponentBits+FloatKind.f64.format.fractionBits=63:=rfl;rw[this,YO]
theorem Uy(e f:Nat)(b2:e<2048)(b3:f<4503599627370496):e*4503599627370496+f<9223372036854775808:=by
 have h:e*4503599627370496<=2047*4503599627370496:=Nat.mul_le_mul_right _ (by omega);omega
theorem QS(x:Nat)(hx:x<18446744073709551616):double.read (Op.negFloat .f64 x)=(double.read x).opposite:=by
 rw[cM];obtain⟨a,e,f,rfl,b1,b2,b3⟩:=fields x hx;have hs:a=0\/a=1:=by omega
 have hb:e*4503599627370496+f<9223372036854775808:=Uy e f b2 b3;have key:(a*9223372036854775808+e*4503599627370496+f) ^^^ 9223372036854775808=(1-a)*9223372036854775808+e*4503599627370496+f:=by
  rcases hs with rfl|rfl
  ·have:=(Rn (e*4503599627370496+f) hb).1;rw[show 0*9223372036854775808+e*4503599627370496+f=e*4503599627370496+f from by rw[Nat.zero_mul,Aaa],this];show _=1*9223372036854775808+e*4503599627370496+f;rw[Nat.one_mul,Nat.add_assoc]
  ·have:=(Rn (e*4503599627370496+f) hb).2;rw[show 1*9223372036854775808+e*4503599627370496+f=9223372036854775808+(e*4503599627370496+f)from by rw[Nat.one_mul,Nat.add_assoc],this];show _=0*9223372036854775808+e*4503599627370496+f;rw[Nat.zero_mul,Aaa]
 rw[key];by_cases b:e<2047
 ·rw[BM _ e f (by omega) b b3,BM a e f b1 b b3];rcases hs with rfl|rfl<;>rfl
 ·have:e=2047:=by omega
  subst this;rw[BN _ f (by omega) b3,BN a f b1 b3];rcases hs with rfl|rfl<;>by_cases hf:f=0<;>simp[hf,Datum.opposite]
end Fl
section
open Go.RowKit
theorem M0(x:Nat)(w:Y):(callFunc 300 #[F9 x]).run Tryz.prog w=.ok (.value (.int .u64 (x:Int))) w:=by
 rw[run_callFunc_extern (e:=Extern.MathFloatBits.float64bits) Tryz.func300 (by kernel_rfl) (by kernel_rfl) (by kernel_rfl) (by kernel_rfl)];rfl
theorem Hw(x:Nat)(w:Y):(callFunc 301 #[.int .u64 (x:Int)]).run Tryz.prog w=.ok (.value (F9 x)) w:=by
 rw[run_callFunc_extern (e:=Extern.MathFloatBits.float64frombits) Tryz.func301 (by kernel_rfl) (by kernel_rfl) (by kernel_rfl) (by kernel_rfl)];rfl
theorem O6(x Z:Nat)(w:Y)(h:bits BinOp.andNot IntKind.u64 (x:Int) 9223372036854775808=(Z:Int)):
  C9 298 #[F9 x] w fun e w'=>e=.returned (F9 Z)/\w'=w:=by
 have h1:=M0 x;have h2:=Hw Z
 go_enter Tryz.func298,Tryz.ntmps298
 go_wp2;go_ret;exact⟨rfl,rfl⟩
theorem R5(x Z:Nat)(w:Y)(h:bits BinOp.andNot IntKind.u64 (x:Int) 9223372036854775808=(Z:Int)):
  C9 285 #[F9 x,J 0] w fun e w'=>e=.returned (.bool (O9 Z 9218868437227405311==some .gt))/\w'=w:=by
 have H:Hid (bits BinOp.andNot IntKind.u64 (x:Int) 9223372036854775808=(Z:Int)):=h;clear h
 go_enter Tryz.func285,Tryz.ntmps285
 go_wp2_with (go_at_call 298;refine(O6 x Z _ H.out).mono ?_;rintro e w1 ⟨rfl,rfl⟩)
 go_ret;exact⟨rfl,rfl⟩
theorem Kj(x:Nat)(w:Y):
  C9 285 #[F9 x,J 1] w fun e w'=>e=.returned (.bool (O9 x 9218868437227405311==some .gt))/\w'=w:=by
 go_enter Tryz.func285,Tryz.ntmps285
 go_wp2;go_ret;exact⟨rfl,rfl⟩
theorem Oh(x:Nat)(w:Y):
  C9 285 #[F9 x,J (-1)] w fun e w'=>e=.returned (.bool (O9 (Op.negFloat .f64 x) 9218868437227405311==some .gt))/\w'=w:=by
 have a:∀w:World,(Op.unary .neg (F9 x)).run Tryz.prog w=.ok (F9 (Op.negFloat .f64 x)) w:=fun _=>rfl
 go_enter Tryz.func285,Tryz.ntmps285
 go_wp2;go_ret;exact⟨rfl,rfl⟩
theorem Lq(x Z r:Nat)(w:Y)(h:bits BinOp.andNot IntKind.u64 (x:Int) 9223372036854775808=(Z:Int))(b:(O9 Z 4503599627370496==some .lt)=true)
  (a:floatBits .mul .f64 x 4841369599423283200=some r):
  C9 309 #[F9 x] w fun e w'=>e=.returned (.tuple #[F9 r,J (-52)])/\w'=w:=by
 have H:Hid (bits BinOp.andNot IntKind.u64 (x:Int) 9223372036854775808=(Z:Int)):=h;have c:∀w:World,(binOp .mul 29 (F9 x) (F9 4841369599423283200)).run Tryz.prog w=.ok (F9 r) w:=fun w=>run_float_arith w .mul 29 .f64 _ _ r a
 clear h a
 go_enter Tryz.func309,Tryz.ntmps309
 go_wp2_with (go_at_call 298;refine(O6 x Z _ H.out).mono ?_;rintro e w1 ⟨rfl,rfl⟩)
 go_ret2
 exact⟨rfl,rfl⟩
theorem NH(x Z:Nat)(w:Y)(h:bits BinOp.andNot IntKind.u64 (x:Int) 9223372036854775808=(Z:Int))(a:(O9 Z 4503599627370496==some .lt)=false):
  C9 309 #[F9 x] w fun e w'=>e=.returned (.tuple #[F9 x,J 0])/\w'=w:=by
 have H:Hid (bits BinOp.andNot IntKind.u64 (x:Int) 9223372036854775808=(Z:Int)):=h;clear h
 go_enter Tryz.func309,Tryz.ntmps309
 go_wp2_with (go_at_call 298;refine(O6 x Z _ H.out).mono ?_;rintro e w1 ⟨rfl,rfl⟩)
 go_ret2
 exact⟨rfl,rfl⟩
theorem UI(x a Z e0 X z2:Nat)(k:Int)(w:Y)(hk:-60<=k)(G4:k<=60)(bS:e0<2048)
  (hz:(O9 x 0==some .eq)=false) (hn:(O9 x x !=some .eq)=false)
  (Qt:bits BinOp.andNot IntKind.u64 (x:Int) 9223372036854775808=(a:Int)) (Nr:(O9 a 9218868437227405311==some .gt)=false)
  (TB:∀w:World,C9 309 #[F9 x] w fun e w'=>e=.returned (.tuple #[F9 Z,J k])/\w'=w)
  (h1:bits BinOp.and IntKind.u64 ((Z:Int)/4503599627370496) 2047=(e0:Int))
  (h2:bits BinOp.andNot IntKind.u64 (Z:Int) 9218868437227405312=(X:Int))
  (h3:bits BinOp.or IntKind.u64 (X:Int) 4602678819172646912=(z2:Int)):
  C9 303 #[F9 x] w fun e w'=>e=.returned (.tuple #[F9 z2,J (k+((e0:Int)-1023+1))])/\w'=w:=by
 have H:Hid (bits BinOp.andNot IntKind.u64 (x:Int) 9223372036854775808=(a:Int)):=Qt;have b:Hid (∀w:World,C9 309 #[F9 x] w fun e w'=>e=.returned (.tuple #[F9 Z,J k])/\w'=w):=TB;have b1:=M0 Z;have b2:=Hw z2;have c:Hid ((O9 a 9218868437227405311==some .gt)=false):=Nr;clear Qt TB Nr
 go_enter Tryz.func303,Tryz.ntmps303
 go_wp2_with (first|(go_at_call 285;refine(R5 x a _ H.out).mono ?_;rintro e w1 ⟨rfl,rfl⟩;rw[c.out])|(go_at_call 236;go_in)|(go_at_call 309;refine(b.out _).mono ?_;rintro e w1 ⟨rfl,rfl⟩))
 go_ret2
 exact⟨rfl,rfl⟩
end
end Go.Proofs.YtgmlkfgfjjggnaaGreatDoor
namespace Go.Proofs
open Go.Shelf
def Tryz.Pu:Go.Shelf.Ren:=⟨fun|171=>289|243=>305|246=>304|283=>310|284=>311|285=>312|286=>313|129=>317|317=>316|318=>318|319=>319|320=>320|337=>321|338=>287|n=>n,fun|3=>3|9=>9|2=>2|4=>4|171=>386|0=>0|53=>136|37=>71|5=>5|173=>388|212=>391|51=>367|20=>20|213=>392|46=>276|232=>393|233=>384|n=>n,fun|17=>3|18=>4|19=>2|n=>n⟩
theorem Tryz.Xk:Go.Proofs.LaysM.n171 Tryz.prog Tryz.Pu:={
 mixed:=by kernel_rfl
 f129:=Tryz.func317.trans (congrArg some (by kernel_rfl))
 f171:=Tryz.func289.trans (congrArg some (by kernel_rfl))
 f243:=Tryz.func305.trans (congrArg some (by kernel_rfl))
 f246:=Tryz.func304.trans (congrArg some (by kernel_rfl))
 f283:=Tryz.func310.trans (congrArg some (by kernel_rfl))
 f284:=Tryz.func311.trans (congrArg some (by kernel_rfl))
 f285:=Tryz.func312.trans (congrArg some (by kernel_rfl))
 f286:=Tryz.func313.trans (congrArg some (by kernel_rfl))
 f317:=Tryz.func316.trans (congrArg some (by kernel_rfl))
 f318:=Tryz.func318.trans (congrArg some (by kernel_rfl))
 f319:=Tryz.func319.trans (congrArg some (by kernel_rfl))
 f320:=Tryz.func320.trans (congrArg some (by kernel_rfl))
 f337:=Tryz.func321.trans (congrArg some (by kernel_rfl))
 f338:=Tryz.func287.trans (congrArg some (by kernel_rfl))
 t0:=Tryz.underlying0
 a0:=Tryz.isAgg0
 z0:=Tryz.sizeOf0
 v0:=Tryz.zeroValue0
 t2:=Tryz.underlying2
 a2:=Tryz.isAgg2
 z2:=Tryz.sizeOf2
 v2:=Tryz.zeroValue2
 t3:=Tryz.underlying3
 a3:=Tryz.isAgg3
 z3:=Tryz.sizeOf3
 v3:=Tryz.zeroValue3
 t4:=Tryz.underlying4
 a4:=Tryz.isAgg4
 z4:=Tryz.sizeOf4
 v4:=Tryz.zeroValue4
 t5:=Tryz.underlying5
 a5:=Tryz.isAgg5
 z5:=Tryz.sizeOf5
 v5:=Tryz.zeroValue5
 t9:=Tryz.underlying9
 a9:=Tryz.isAgg9
 z9:=Tryz.sizeOf9
 v9:=Tryz.zeroValue9
 t20:=Tryz.underlying20
 a20:=Tryz.isAgg20
 z20:=Tryz.sizeOf20
 v20:=Tryz.zeroValue20
 t37:=Tryz.underlying71
 a37:=Tryz.isAgg71
 z37:=Tryz.sizeOf71
 v37:=Tryz.zeroValue71
 t46:=Tryz.underlying276
 a46:=Tryz.isAgg276
 z46:=Tryz.sizeOf276
 v46:=Tryz.zeroValue276
 t51:=Tryz.underlying367
 a51:=Tryz.isAgg367
 z51:=Tryz.sizeOf367
 v51:=Tryz.zeroValue367
 t53:=Tryz.underlying136
 a53:=Tryz.isAgg136
 z53:=Tryz.sizeOf136
 v53:=Tryz.zeroValue136
 t171:=Tryz.underlying386
 a171:=Tryz.isAgg386
 z171:=Tryz.sizeOf386
 v171:=Tryz.zeroValue386
 t173:=Tryz.underlying388
 a173:=Tryz.isAgg388
 z173:=Tryz.sizeOf388
 v173:=Tryz.zeroValue388
 t212:=Tryz.underlying391
 a212:=Tryz.isAgg391
 z212:=Tryz.sizeOf391
 v212:=Tryz.zeroValue391
 t213:=Tryz.underlying392
 a213:=Tryz.isAgg392
 z213:=Tryz.sizeOf392
 t232:=Tryz.underlying393
 a232:=Tryz.isAgg393
 z232:=Tryz.sizeOf393
 v232:=Tryz.zeroValue393
 t233:=Tryz.underlying384
 a233:=Tryz.isAgg384
 z233:=Tryz.sizeOf384
 v233:=Tryz.zeroValue384
 g17:=by kernel_rfl
 g18:=by kernel_rfl
 g19:=by kernel_rfl
 i0:=by kernel_rfl
 i2:=by kernel_rfl
 i3:=by kernel_rfl
 i4:=by kernel_rfl
 i5:=by kernel_rfl
 i9:=by kernel_rfl
 i20:=by kernel_rfl
 i37:=by kernel_rfl
 i46:=by kernel_rfl
 i51:=by kernel_rfl
 i53:=by kernel_rfl
 i171:=by kernel_rfl
 i173:=by kernel_rfl
 i212:=by kernel_rfl
 i232:=by kernel_rfl
 i233:=by kernel_rfl
 m17:=by kernel_rfl
 m18:=by kernel_rfl
 m19:=by kernel_rfl}
open Go.RowKit Go.Sort Go.Lib in
theorem Tryz.strconv_Itoa(n:Int)(b:-9223372036854775808<=n)(h1:n<=9223372036854775807)(w:World)(a:Lib.TabIs Tryz.prog w "internal/strconv.uint64pow10" .u64 Lib.pow10Tab):
  Calls Tryz.prog 289 #[.int .i64 n] w fun e w'=>e=.returned (.string ⟨(Lib.itoa n).toArray⟩)/\∃k os,w'=grow (w.drewN k) os:=Any.strconv_Itoa Tryz.Xk n b h1 w a
def Tryz.Pv:Go.Shelf.Ren:=⟨fun|173=>288|246=>304|283=>310|284=>311|285=>312|286=>313|129=>317|317=>316|318=>318|319=>319|320=>320|337=>321|338=>287|n=>n,fun|2=>2|3=>3|9=>9|4=>4|171=>386|0=>0|53=>136|37=>71|5=>5|173=>388|212=>391|51=>367|20=>20|213=>392|46=>276|232=>393|233=>384|n=>n,fun|17=>3|18=>4|19=>2|n=>n⟩
theorem Tryz.Xl:Go.Proofs.LaysM.n173 Tryz.prog Tryz.Pv:={
 mixed:=by kernel_rfl
 f129:=Tryz.func317.trans (congrArg some (by kernel_rfl))
 f173:=Tryz.func288.trans (congrArg some (by kernel_rfl))
 f246:=Tryz.func304.trans (congrArg some (by kernel_rfl))
 f283:=Tryz.func310.trans (congrArg some (by kernel_rfl))
 f284:=Tryz.func311.trans (congrArg some (by kernel_rfl))
 f285:=Tryz.func312.trans (congrArg some (by kernel_rfl))
 f286:=Tryz.func313.trans (congrArg some (by kernel_rfl))
 f317:=Tryz.func316.trans (congrArg some (by kernel_rfl))
 f318:=Tryz.func318.trans (congrArg some (by kernel_rfl))
 f319:=Tryz.func319.trans (congrArg some (by kernel_rfl))
 f320:=Tryz.func320.trans (congrArg some (by kernel_rfl))
 f337:=Tryz.func321.trans (congrArg some (by kernel_rfl))
 f338:=Tryz.func287.trans (congrArg some (by kernel_rfl))
 t0:=Tryz.underlying0
 a0:=Tryz.isAgg0
 z0:=Tryz.sizeOf0
 v0:=Tryz.zeroValue0
 t2:=Tryz.underlying2
 a2:=Tryz.isAgg2
 z2:=Tryz.sizeOf2
 v2:=Tryz.zeroValue2
 t3:=Tryz.underlying3
 a3:=Tryz.isAgg3
 z3:=Tryz.sizeOf3
 v3:=Tryz.zeroValue3
 t4:=Tryz.underlying4
 a4:=Tryz.isAgg4
 z4:=Tryz.sizeOf4
 v4:=Tryz.zeroValue4
 t5:=Tryz.underlying5
 a5:=Tryz.isAgg5
 z5:=Tryz.sizeOf5
 v5:=Tryz.zeroValue5
 t9:=Tryz.underlying9
 a9:=Tryz.isAgg9
 z9:=Tryz.sizeOf9
 v9:=Tryz.zeroValue9
 t20:=Tryz.underlying20
 a20:=Tryz.isAgg20
 z20:=Tryz.sizeOf20
 v20:=Tryz.zeroValue20
 t37:=Tryz.underlying71
 a37:=Tryz.isAgg71
 z37:=Tryz.sizeOf71
 v37:=Tryz.zeroValue71
 t46:=Tryz.underlying276
 a46:=Tryz.isAgg276
 z46:=Tryz.sizeOf276
 v46:=Tryz.zeroValue276
 t51:=Tryz.underlying367
 a51:=Tryz.isAgg367
 z51:=Tryz.sizeOf367
 v51:=Tryz.zeroValue367
 t53:=Tryz.underlying136
 a53:=Tryz.isAgg136
 z53:=Tryz.sizeOf136
 v53:=Tryz.zeroValue136
 t171:=Tryz.underlying386
 a171:=Tryz.isAgg386
 z171:=Tryz.sizeOf386
 v171:=Tryz.zeroValue386
 t173:=Tryz.underlying388
 a173:=Tryz.isAgg388
 z173:=Tryz.sizeOf388
 v173:=Tryz.zeroValue388
 t212:=Tryz.underlying391
 a212:=Tryz.isAgg391
 z212:=Tryz.sizeOf391
 v212:=Tryz.zeroValue391
 t213:=Tryz.underlying392
 a213:=Tryz.isAgg392
 z213:=Tryz.sizeOf392
 t232:=Tryz.underlying393
 a232:=Tryz.isAgg393
 z232:=Tryz.sizeOf393
 v232:=Tryz.zeroValue393
 t233:=Tryz.underlying384
 a233:=Tryz.isAgg384
 z233:=Tryz.sizeOf384
 v233:=Tryz.zeroValue384
 g17:=by kernel_rfl
 g18:=by kernel_rfl
 g19:=by kernel_rfl
 i0:=by kernel_rfl
 i2:=by kernel_rfl
 i3:=by kernel_rfl
 i4:=by kernel_rfl
 i5:=by kernel_rfl
 i9:=by kernel_rfl
 i20:=by kernel_rfl
 i37:=by kernel_rfl
 i46:=by kernel_rfl
 i51:=by kernel_rfl
 i53:=by kernel_rfl
 i171:=by kernel_rfl
 i173:=by kernel_rfl
 i212:=by kernel_rfl
 i232:=by kernel_rfl
 i233:=by kernel_rfl
 m17:=by kernel_rfl
 m18:=by kernel_rfl
 m19:=by kernel_rfl}
open Go.RowKit Go.Sort Go.Lib in
theorem Tryz.strconv_FormatInt_10(n:Int)(b:-9223372036854775808<=n)(h1:n<=9223372036854775807)(w:World)(a:Lib.TabIs Tryz.prog w "internal/strconv.uint64pow10" .u64 Lib.pow10Tab):
  Calls Tryz.prog 288 #[.int .i64 n,.int .i64 10] w fun e w'=>e=.returned (.string ⟨(Lib.itoa n).toArray⟩)/\∃k os,w'=grow (w.drewN k) os:=Any.strconv_FormatInt_10 Tryz.Xl n b h1 w a
end Go.Proofs
namespace Go.Proofs.YtgmlkfgfjjggnaaGreatDoor
section
open Go.RowKit
structure A8 (w:Y):Prop where
 t64:TabAt 2 Lib.deBruijn64tab w
 fY:Lib.TabIs Tryz.prog w "internal/strconv.uint64pow10" .u64 Lib.pow10Tab
 sz:5<=w.heap.size
theorem A8.below{w w':Y}(h:A8 w){B:Nat}(hb:Below B w w')(a:5<=B):A8 w':=
 ⟨fun j hj=>(hb.cell (p:=(G 2 j)) (show 2<B from by omega)).trans (h.t64 j hj),
  var?_below hb (show Tryz.prog.globalNamed "internal/strconv.uint64pow10" =some 3 from by kernel_rfl) (by omega) h.fY,
  FZ h.sz hb.size⟩
theorem SN(x k idx:Nat)(w:Y)(b:((x:Int)==0)=false)
  (key:IntKind.u64.wrap (bits BinOp.and IntKind.u64 (x:Int) (IntKind.u64.wrap (-(x:Int)))*285870213051353865)/288230376151711744=(idx:Int))
  (hi:idx<64) (hk:k<64) (a:w.cell? (G 2 idx)=some (.int .u8 k)):
  C9 287 #[.int .u64 x] w fun e w'=>e=.returned (J k)/\w'=w:=by
 go_enter Tryz.func287,Tryz.ntmps287
 go_wp2_with (simp only[key])
 go_ret;exact⟨rfl,rfl⟩
theorem Yn(x:Nat)(hx:x<18446744073709551616)(b:x≠0)(w:Y)(f:A8 w):
  C9 287 #[.int .u64 x] w fun e w'=>e=.returned (J (Lib.ctz 64 x))/\w'=w:=by
 obtain⟨c,hk⟩:=Lib.lowest_bit 64 x b hx;obtain⟨hi,d⟩:=Lib.deBruijn64_at _ hk;have a:=f.t64 _ hi;rw[d]at a;exact SN x _ _ w (by simp;omega) (tz64_key x _ hx b c) hi hk a
theorem WQ{x:Nat}{s:Bool}{m:Nat}{i:Int}{a Z e0 X z2:Nat}{k:Int}{j:Nat}(b:Ieee.double.read x=.number s m i)(hi:-1074<=i)(d:m≠0)(F:Fl.Fr x s m i a Z e0 X z2 k j)(w:Y):
  C9 303 #[F9 x] w fun e w'=>e=.returned (.tuple #[F9 z2,J (k+((e0:Int)-1023+1))])/\w'=w:=by
 have hz:(O9 x 0==some .eq)=false:=by
  show(Ieee.double.order x 0==some .eq)=false;rw[Fl.B6 b Fl.CP hi (by omega),Fl.C0,Fl.Fa];have c:=Fl.Ep (i+1074).toNat;simp only[decide_eq_false_iff_not];unfold Fl.sc;rw[Fl.Cv];generalize (2:Int)^(i+1074).toNat=u at c;intro h;have h1:(m:Int)*u=0:=by cases s<;>simpa using h
  rcases Int.mul_eq_zero.1 h1 with h|h<;>omega
 have hn:(O9 x x !=some .eq)=false:=by
  show(!(Ieee.double.order x x==some .eq))=false;rw[Fl.B6 b b hi hi,Fl.C0];simp
 refine UI x a Z e0 X z2 k w F.hk F.G4 F.bS hz hn F.Qt F.Nr ?_ F.h1 F.h2 F.h3;intro w;rcases F.TB with⟨h1,h2,h3⟩|⟨h1,h2,h3⟩
 ·rw[h1,h2];exact NH x a w F.Qt h3
 ·rw[h1];exact Lq x a Z w F.Qt h3 h2
theorem UJ{x:Nat}{s:Bool}{m:Nat}{i:Int}{c Z e0 X z2:Nat}{k:Int}{j:Nat}(a:Ieee.double.read x=.number s m i)(hi:-1074<=i)(b:m≠0)(F:Fl.Fr x s m i c Z e0 X z2 k j)(w:Y):
  C9 286 #[F9 x] w fun e w'=>e=.returned (.tuple #[F9 z2,J (k+((e0:Int)-1023+1))])/\w'=w:=by
 have H:Hid (∀w:World,C9 303 #[F9 x] w fun e w'=>e=.returned (.tuple #[F9 z2,J (k+((e0:Int)-1023+1))])/\w'=w):=fun w=>WQ a hi b F w
 clear F a b hi
 go_enter Tryz.func286,Tryz.ntmps286
 go_wp2_with (go_at_call 303;refine(H.out _).mono ?_;rintro e w1 ⟨rfl,rfl⟩)
 go_ret2
 exact⟨rfl,rfl⟩
theorem N5(a b:List UInt8):(⟨a.toArray⟩++⟨b.toArray⟩:ByteArray)=⟨(a++b).toArray⟩:=by
 apply ByteArray.ext;simp
theorem ZG{a b:ByteArray}(h:a=b):Ending.returned (.string a)=.returned (.string b):=by rw[h]
def Tx(s:Bool)(M:Nat)(E:Int):List UInt8:=Lib.itoa (Fl.sg s M)++[112]++Lib.itoa E
theorem RS(x z2 r u t:Nat)(ex a b:Int)(w:Y)(h:A8 w)
  (h1:(O9 x 9218868437227405311==some .gt)=false) (h2:(O9 (Op.negFloat .f64 x) 9218868437227405311==some .gt)=false)
  (l:∀w:World,C9 286 #[F9 x] w fun e w'=>e=.returned (.tuple #[F9 z2,J ex])/\w'=w)
  (m:floatBits .mul .f64 z2 4845873199050653696=some r) (hc:floatToIntVal .f64 r .i64=some a)
  (hu:IntKind.u64.wrap a=(u:Int)) (i:u≠0) (j:u<18446744073709551616) (n:Lib.ctz 64 u=t) (o:t<53) (hb:a/2^t=b)
  (p:-9007199254740992<b) (q:b<9007199254740992) (s:-1200<ex) (v:ex<1200):
  C9 272 #[F9 x] w (R9 (.string ⟨(Lib.itoa b++[112]++Lib.itoa (ex-53+t)).toArray⟩) w):=by
 have A:Hid (∀w:World,C9 286 #[F9 x] w fun e w'=>e=.returned (.tuple #[F9 z2,J ex])/\w'=w):=l;have K:∀w:World,(binOp .mul 29 (F9 z2) (F9 4845873199050653696)).run Tryz.prog w=.ok (F9 r) w:=fun w=>run_float_arith w .mul 29 .f64 _ _ r m
 have B:∀w:World,(convert 29 2 (F9 r)).run Tryz.prog w=.ok (J a) w:=fun w=>run_convert_float_int w 29 2 .f64 .i64 r _ (by kernel_rfl) Tryz.underlying2 hc
 have C:Hid (Lib.ctz 64 u=t):=n;have D:Hid ((O9 (Op.negFloat .f64 x) 9218868437227405311==some .gt)=false):=h2;have E:Hid ((O9 x 9218868437227405311==some .gt)=false):=h1;clear l m hc n h2 h1
 go_enter Tryz.func272,Tryz.ntmps272
 go_wp2_with fail
 refine(Kj x _).mono ?_;rintro e w1 ⟨rfl,rfl⟩;rw[E.out];go_wp2_with fail
 refine(Oh x _).mono ?_;rintro e w1 ⟨rfl,rfl⟩;rw[D.out];go_wp2_with fail
 refine(A.out _).mono ?_;rintro e w1 ⟨rfl,rfl⟩;go_wp2_with fail
 refine(Yn u j i _ h).mono ?_;rintro e w1 ⟨rfl,rfl⟩;rw[C.out];go_wp2_with fail
 refine(Tryz.strconv_FormatInt_10 b (by omega) (by omega) _ h.fY).mono ?_;rintro e w2 ⟨rfl,L,os,d⟩;have c:B9 w1 w2:=by rw[d];exact Lib.below_grow _ _ (A0 _) _ _
 clear d;have k:=h.below c h.sz;have F:=Lib.itoa_length_le b (by omega) (by omega);have H:=Lib.itoa_length_le (ex-53+t) (by omega) (by omega);go_wp2_with fail
 refine(Tryz.strconv_Itoa (ex-53+t) (by omega) (by omega) _ k.fY).mono ?_;rintro e w3 ⟨rfl,k3,I,f⟩;have g:B9 w2 w3:=by rw[f];exact Lib.below_grow _ _ (A0 _) _ _
 clear f;go_wp2_with fail
 go_ret;exact⟨ZG (by rw[N5,N5]),c.trans (g.mono c.size)⟩
def YE(m:Nat)(i:Int)(M:Nat)(E:Int):Prop:=∃a b:Nat,m*2^a=(2*M+1)*2^b/\E=i+b-a
theorem QK{m:Nat}{i:Int}{M M':Nat}{E E':Int}(h:YE m i M E)(h':YE m i M' E'):M=M'/\E=E':=by
 obtain⟨a,b,e1,rfl⟩:=h;obtain⟨a',b',e2,rfl⟩:=h';have e:2^(b+a')*(2*M+1)=2^(b'+a)*(2*M'+1):=by
  rw[Nat.pow_add,Nat.pow_add,Aav (2^b),XN,Aav (2^b),<-e1,Aav (2^b'),XN,Aav (2^b'),<-e2];rw[Nat.mul_left_comm,Nat.mul_left_comm (2^a),Aav (2^a')]
 obtain⟨h1,h2⟩:=Fl.GL _ _ _ _ e;exact⟨h2,by omega⟩
theorem ZL(Z c d:Nat)(h:d=52+c):Z*4503599627370496*2^c=Z*2^d:=by
 rw[h,Nat.pow_add,Fl.VT,XN]
theorem Ny(x:Nat)(hx:x<18446744073709551616)(s:Bool)(m:Nat)(i:Int)(p:Ieee.double.read x=.number s m i)(hi:-1074<=i)(b:i<=971)(B:m<2^53)(d:m≠0):
  ∃M E,YE m i M E/\∀w:World,A8 w->C9 272 #[F9 x] w (R9 (.string ⟨(Tx s (2*M+1) E).toArray⟩) w):=by
 obtain⟨Q,X,e0,W,z2,k,j,F⟩:=Fl.Qm x hx s m i p d;have e:0<m*2^j:=by have:=F.lo;omega
 obtain⟨M,C,R⟩:=Fl.Mn s (m*2^j) e F.hi;obtain⟨r,q,l,f,g,n,H,D⟩:=Fl.Oy F.rd Fl.XP (by have:=F.lo;omega) (by omega) (m*2^j) 0 F.hi (by omega) (by omega) (ZL (m*2^j) _ _ (by decide));rw[Bool.xor_false]at g;have I:=Fl.Yw q l (m*2^j) n D;have hu:=Fl.N1;have o:Fl.sc s q l=Fl.sg s (m*2^j)*Fl.U:=by rw[Fl.TY s q l (m*2^j) 0 D,Fl.M4]
 have u:floatToIntVal .f64 r .i64=some (Fl.sg s (m*2^j)):=by
  have h:=Fl.Ni g n (by
   rw[o];have:-9223372036854775808<=Fl.sg s (m*2^j):=by have:=F.hi;cases s<;>simp only[Fl.sg,Aai,X9,Aaz]<;>omega
   have:=Int.mul_le_mul_of_nonneg_right this (Int.le_of_lt hu);omega) (by
   rw[o];have:Fl.sg s (m*2^j)<9223372036854775808:=by have:=F.hi;cases s<;>simp only[Fl.sg,Aai,X9,Aaz]<;>omega
   exact Int.mul_lt_mul_of_pos_right this hu)
  rw[I]at h;exact h
 have a:=F.hi;generalize hN:m*2^j=Z at*;generalize v:Lib.ctz 64 (Fl.uw s Z)=t at*;have K:Z<9007199254740992:=a;have L:2*M+1<9007199254740992:=by
  have:1*(2*M+1)<=2^t*(2*M+1):=Nat.mul_le_mul_right _ (Aao t);omega
 refine⟨M,i-j+t,⟨j,t,by rw[hN,C,Aav],by omega⟩,fun w P=>?_⟩;have hex:=F.ex;have A:k+((e0:Int)-1023+1)-53+t=i-j+t:=by omega
 have c:=RS x z2 r (Fl.uw s Z) t (k+((e0:Int)-1023+1)) (Fl.sg s Z) (Fl.sg s (2*M+1)) w P
  (Fl.Iu p hi b B)
  (Fl.Iu (x:=Op.negFloat .f64 x) (s:=!s) (m:=m) (i:=i) (by rw[Fl.QS x hx,p];rfl) hi b B)
  (fun w=>UJ p hi d F w) f u (Fl.ZU s Z e a)
  (by unfold Fl.uw;split<;>omega) (by unfold Fl.uw;split<;>omega) v (by omega)
  (by rw[C];exact Fl.X0 s t M)
  (by cases s<;>simp only[Fl.sg,Aai,X9,Aaz]<;>omega)
  (by cases s<;>simp only[Fl.sg,Aai,X9,Aaz]<;>omega)
  (by have:=F.hk;have:=F.bS;omega) (by have:=F.G4;have:=F.bS;omega)
 rw[A]at c;exact c
theorem AA{P:Program}{w:Y}{a:Addr}{m:Mode}(k:FloatKind)(n:Nat):(store a (.float k n) m).run P w=stored P w a (.float k n) m:=run_store P w a _ m rfl
theorem Aw{P:Program}{w:Y}(d:Nat)(t:TypeId)(k k':FloatKind)(a b:Nat)(h:P.underlying t=some (.float k')):(Op.equalIn (d+1) t (.float k a) (.float k b)).run P w=.ok (k.format.order a b==some .eq) w:=by
 simp[Op.equalIn,run_underlying h,Op.floatEq]
attribute [local go_sem] AA Aw
abbrev V(kind num:Int)(Ae:Nat)(s:ByteArray)(ref:Int):Value:=.agg #[J kind,J num,F9 Ae,.string s,J ref]
abbrev KV(code kind num:Int)(Ae:Nat)(s:ByteArray)(ref:Int):Value:=.agg #[J code,J kind,J num,F9 Ae,.string s,J ref]
def fz(f:Nat):Bool:=O9 f 0==some .eq
def Ea(f:Nat):Bool:=O9 f f !=some .eq
def AB(kind num:Int)(Ae:Nat)(s:ByteArray)(ref:Int):Bool:=
 if kind=0 then num==0&&fz Ae&&s.toList.isEmpty&&ref==0
 else if kind=1 then(fz Ae&&s.toList.isEmpty&&ref==0)&&(num==0||num==1)
 else if kind=2 then(fz Ae&&s.toList.isEmpty&&ref==0)
 else if kind=3 then(num==0&&s.toList.isEmpty&&ref==0)
 else if kind=4 then(num==0&&fz Ae&&ref==0)&&decide ((s.size:Int)<=4000)
 else if kind=5 then(num==0&&fz Ae&&s.toList.isEmpty)&&decide (0<=ref)
 else if kind=6 then(num==0&&fz Ae&&s.toList.isEmpty)&&decide (0<=ref)
 else if kind=7 then(num==0&&fz Ae&&s.toList.isEmpty)&&decide (0<=ref)
 else if kind=8 then(fz Ae&&s.toList.isEmpty&&ref==0)&&decide (0<=num)&&decide (num<15)
 else false
structure Vl where
 kind:Int
 num:Int
 Ae:Nat
 str:ByteArray
 ref:Int
instance:Inhabited Vl:=⟨⟨0,0,0,⟨#[]⟩,0⟩⟩
def Vl.ok(x:Vl):Bool:=AB x.kind x.num x.Ae x.str x.ref
theorem BF(kind num:Int)(Ae:Nat)(s:ByteArray)(ref:Int)(w:Y):
  C9 85 #[V kind num Ae s ref] w (R9 (.bool (AB kind num Ae s ref)) w):=by
 by_cases k0:kind=0
 ·subst k0
  go_enter Tryz.func85,Tryz.ntmps85
  go_wp2;all_goals
   go_ret;refine⟨?_,?_⟩
   ·simp_all [AB,fz]
   ·exact(n9).alloc (by simp) _
 by_cases k1:kind=1
 ·subst k1
  go_enter Tryz.func85,Tryz.ntmps85
  go_wp2;all_goals
   go_ret;refine⟨?_,?_⟩
   ·simp_all [AB,fz]
   ·exact(n9).alloc (by simp) _
 by_cases k2:kind=2
 ·subst k2
  go_enter Tryz.func85,Tryz.ntmps85
  go_wp2;all_goals
   go_ret;refine⟨?_,?_⟩
   ·simp_all [AB,fz]
   ·exact(n9).alloc (by simp) _
 by_cases k3:kind=3
 ·subst k3
  go_enter Tryz.func85,Tryz.ntmps85
  go_wp2;all_goals
   go_ret;refine⟨?_,?_⟩
   ·simp_all [AB]
   ·exact(n9).alloc (by simp) _
 by_cases k4:kind=4
 ·subst k4
  go_enter Tryz.func85,Tryz.ntmps85
  go_wp2;all_goals
   go_ret;refine⟨?_,?_⟩
   ·simp_all [AB,fz]
   ·exact(n9).alloc (by simp) _
 by_cases a:kind=5
 ·subst a
  go_enter Tryz.func85,Tryz.ntmps85
  go_wp2;all_goals
   go_ret;refine⟨?_,?_⟩
   ·simp_all [AB,fz]
   ·exact(n9).alloc (by simp) _
 by_cases b:kind=6
 ·subst b
  go_enter Tryz.func85,Tryz.ntmps85
  go_wp2;all_goals
   go_ret;refine⟨?_,?_⟩
   ·simp_all [AB,fz]
   ·exact(n9).alloc (by simp) _
 by_cases c:kind=7
 ·subst c
  go_enter Tryz.func85,Tryz.ntmps85
  go_wp2;all_goals
   go_ret;refine⟨?_,?_⟩
   ·simp_all [AB,fz]
   ·exact(n9).alloc (by simp) _
 by_cases d:kind=8
 ·subst d
  go_enter Tryz.func85,Tryz.ntmps85
  go_wp2;all_goals
   go_ret;refine⟨?_,?_⟩
   ·simp_all [AB,fz]
    try(intros;omega)
   ·exact(n9).alloc (by simp) _
 have b0:(kind==0)=false:=by simp[k0]
 have b1:(kind==1)=false:=by simp[k1]
 have b2:(kind==2)=false:=by simp[k2]
 have b3:(kind==3)=false:=by simp[k3]
 have b4:(kind==4)=false:=by simp[k4]
 have b5:(kind==5)=false:=by simp[a]
 have b6:(kind==6)=false:=by simp[b]
 have e:(kind==7)=false:=by simp[c]
 have f:(kind==8)=false:=by simp[d]
 go_enter Tryz.func85,Tryz.ntmps85
 go_wp2;all_goals
  go_ret;refine⟨?_,?_⟩
  ·simp_all [AB]
  ·exact(DD _ _).alloc (A0 _) _
theorem BK(kind num:Int)(Ae:Nat)(s:ByteArray)(ref:Int)(w:Y):
  C9 150 #[V kind num Ae s ref] w (R9 (.bool (AB kind num Ae s ref)) w):=by
 by_cases k0:kind=0
 ·subst k0
  go_enter Tryz.func150,Tryz.ntmps150
  go_wp2;all_goals
   go_ret;refine⟨?_,?_⟩
   ·simp_all [AB,fz]
   ·exact(n9).alloc (by simp) _
 by_cases k1:kind=1
 ·subst k1
  go_enter Tryz.func150,Tryz.ntmps150
  go_wp2;all_goals
   go_ret;refine⟨?_,?_⟩
   ·simp_all [AB,fz]
   ·exact(n9).alloc (by simp) _
 by_cases k2:kind=2
 ·subst k2
  go_enter Tryz.func150,Tryz.ntmps150
  go_wp2;all_goals
   go_ret;refine⟨?_,?_⟩
   ·simp_all [AB,fz]
   ·exact(n9).alloc (by simp) _
 by_cases k3:kind=3
 focus
  subst k3
 rotate_left
 focus
  by_cases k4:kind=4
  ·subst k4
   go_enter Tryz.func150,Tryz.ntmps150
   go_wp2;all_goals
    go_ret;refine⟨?_,?_⟩
    ·simp_all [AB,fz]
    ·exact(n9).alloc (by simp) _
  by_cases a:kind=5
  ·subst a
   go_enter Tryz.func150,Tryz.ntmps150
   go_wp2;all_goals
    go_ret;refine⟨?_,?_⟩
    ·simp_all [AB,fz]
    ·exact(n9).alloc (by simp) _
  by_cases b:kind=6
  ·subst b
   go_enter Tryz.func150,Tryz.ntmps150
   go_wp2;all_goals
    go_ret;refine⟨?_,?_⟩
    ·simp_all [AB,fz]
    ·exact(n9).alloc (by simp) _
  by_cases c:kind=7
  ·subst c
   go_enter Tryz.func150,Tryz.ntmps150
   go_wp2;all_goals
    go_ret;refine⟨?_,?_⟩
    ·simp_all [AB,fz]
    ·exact(n9).alloc (by simp) _
  by_cases d:kind=8
  ·subst d
   go_enter Tryz.func150,Tryz.ntmps150
   go_wp2;all_goals
    go_ret;refine⟨?_,?_⟩
    ·simp_all [AB,fz]
     try(intros;omega)
    ·exact(n9).alloc (by simp) _
  have b0:(kind==0)=false:=by simp[k0]
  have b1:(kind==1)=false:=by simp[k1]
  have b2:(kind==2)=false:=by simp[k2]
  have b3:(kind==3)=false:=by simp[k3]
  have b4:(kind==4)=false:=by simp[k4]
  have b5:(kind==5)=false:=by simp[a]
  have b6:(kind==6)=false:=by simp[b]
  have e:(kind==7)=false:=by simp[c]
  have f:(kind==8)=false:=by simp[d]
 all_goals
  go_enter Tryz.func150,Tryz.ntmps150
  go_wp2;all_goals
   go_ret;refine⟨?_,?_⟩
   ·simp_all [AB]
   ·exact(n9).alloc (by simp) _
end
section
open Go.RowKit
attribute [local go_sem] AA Aw
theorem YN(x:Nat)(s:Bool)(m:Nat)(i:Int)(h1:FloatKind.f64.decode x=.number s m i):
  Extern.MathFloor.toIntegral "math.archTrunc" .zero #[F9 x]=pure (F9 (FloatKind.f64.encode ((Ieee.Datum.number s m i).integral .zero))):=by
 show Extern.MathFloor.toIntegral.match_1 (fun _=>Sem Value) (FloatKind.f64.decode x) (fun s t=>_) (fun d=>_)=_;rw[h1]
theorem Wl(x:Nat)(w:Y)(s:Bool)(m:Nat)(i:Int)(hx:Ieee.double.read x=.number s m i):
  (callFunc 281 #[F9 x]).run Tryz.prog w=.ok (.value (F9 (Ieee.double.nearest s (Fl.whole m i) 0))) w:=by
 rw[run_callFunc_extern (e:=Extern.MathFloor.toIntegral "math.archTrunc" .zero) Tryz.func281 (by kernel_rfl) (by kernel_rfl) (by kernel_rfl) (by kernel_rfl)];rw[YN x s m i hx,Fl.Ln];rfl
theorem VE(x:Nat)(w:Y)(s:Bool)(m:Nat)(i:Int)(hx:Ieee.double.read x=.number s m i):
  C9 264 #[F9 x] w fun e w'=>e=.returned (F9 (Ieee.double.nearest s (Fl.whole m i) 0))/\w'=w:=by
 have a:=fun w=>Wl x w s m i hx
 clear hx
 go_enter Tryz.func264,Tryz.ntmps264
 go_wp2;go_ret;exact⟨rfl,rfl⟩
theorem RN{x:Nat}(h1:(Ieee.double.order x 14114281232179134464==some .gt||Ieee.double.order x 14114281232179134464==some .eq)=true)(h2:(Ieee.double.order x 4890909195324358656==some .lt)=true):
  ∃s m i,Ieee.double.read x=.number s m i/\-1074<=i/\i<=971/\m<2^53/\-(9223372036854775808*Fl.U)<=Fl.sc s m i/\Fl.sc s m i<9223372036854775808*Fl.U:=by
 rcases Fl.CG x with⟨s,m,i,a,hi,b,c,_⟩|⟨s,a⟩|⟨s,t,a⟩
 ·refine⟨s,m,i,a,hi,b,c,?_,?_⟩
  ·rw[Fl.B6 a Fl.Gv hi (by omega),Fl.PJ,Fl.I7,Fl.C0]at h1;simp at h1;omega
  ·rw[Fl.B6 a Fl.Gu hi (by omega),Fl.M3,Fl.Kd]at h2;simpa using h2
 ·exfalso;unfold Ieee.Format.order at h1 h2;rw[a,Fl.Gv]at h1;rw[a,Fl.Gu]at h2;cases s<;>simp[Ieee.Datum.order]at h1 h2
 ·exfalso;unfold Ieee.Format.order at h1 h2;rw[a]at h1;simp[Ieee.Datum.order]at h1
def Ty(x:Nat):Bool:=O9 x 14114281232179134464==some .gt||O9 x 14114281232179134464==some .eq
def Ve(x:Nat):Bool:=O9 x 4890909195324358656==some .lt
def UW(x:Nat):Bool:=match Ieee.double.read x with
 |.number s m i=>decide (Fl.sc s m i=Fl.sg s (Fl.whole m i)*Fl.U)
 |_=>false
def Lm(x:Nat):Int:=match Ieee.double.read x with
 |.number s m i=>Fl.sg s (Fl.whole m i)
 |_=>0
def B2(x:Nat):Bool:=Ty x&&Ve x&&UW x
theorem K3(x:Nat)(w:Y):
  C9 237 #[F9 x] w fun e w'=>e=.returned (.bool (B2 x))/\w'=w:=by
 by_cases h1:Ty x=true
 ·by_cases h2:Ve x=true
  ·obtain⟨s,m,i,d,hi,b,g,_,_⟩:=RN h1 h2;have a:B2 x=decide (Fl.sc s m i=Fl.sg s (Fl.whole m i)*Fl.U):=by
    unfold B2 UW;rw[h1,h2,d];simp
   have f:=Fl.Vj d hi b g;rw[<-a]at f;have c:(O9 x (Ieee.double.nearest s (Fl.whole m i) 0)==some .eq)=B2 x:=f;have H:Hid ((O9 x (Ieee.double.nearest s (Fl.whole m i) 0)==some .eq)=B2 x):=c;have h:Hid (Ieee.double.read x=.number s m i):=d;have g1:(O9 x 14114281232179134464==some .gt||O9 x 14114281232179134464==some .eq)=true:=h1;have g2:(O9 x 4890909195324358656==some .lt)=true:=h2;clear a f c d h1 h2 hi b g
   go_enter Tryz.func237,Tryz.ntmps237
   go_wp2_with (go_at_call 264;refine(VE x _ s m i h.out).mono ?_;rintro e w' ⟨rfl,rfl⟩)
   all_goals
    go_ret;exact⟨by rw[<-H.out];simp,rfl⟩
  ·have g1:(O9 x 14114281232179134464==some .gt||O9 x 14114281232179134464==some .eq)=true:=h1;have g2:(O9 x 4890909195324358656==some .lt)=false:=(by simpa using h2:Ve x=false);have a:B2 x=false:=by unfold B2;simp at h2;rw[h1,h2];simp
   rw[a];clear h1 h2 a
   go_enter Tryz.func237,Tryz.ntmps237
   go_wp2;all_goals
    go_ret;exact⟨rfl,rfl⟩
 ·have g1:(O9 x 14114281232179134464==some .gt||O9 x 14114281232179134464==some .eq)=false:=(by simpa using h1:Ty x=false);have a:B2 x=false:=by unfold B2;simp at h1;rw[h1];simp
  rw[a];clear h1 a
  go_enter Tryz.func237,Tryz.ntmps237
  go_wp2;all_goals
   go_ret;exact⟨rfl,rfl⟩
def Ll(x:Nat):Bool:=Ea x||fz x||(O9 x 4890909195324358656==some .gt||O9 x 4890909195324358656==some .eq)||(O9 x 14114281232179134464==some .lt||O9 x 14114281232179134464==some .eq)
theorem RR(x:Nat)(w:Y)(h:Ll x=true):
  C9 163 #[F9 x] w fun e w'=>e=.returned (F9 x)/\w'=w:=by
 by_cases h1:Ea x=true
 ·have g1:(O9 x x !=some .eq)=true:=h1;clear h h1
  go_enter Tryz.func163,Tryz.ntmps163
  go_wp2;go_ret;exact⟨rfl,rfl⟩
 have g1:(O9 x x !=some .eq)=false:=(by simpa using h1:Ea x=false);by_cases h2:fz x=true
 ·have g2:(O9 x 0==some .eq)=true:=h2;clear h h1 h2
  go_enter Tryz.func163,Tryz.ntmps163
  go_wp2;go_ret;exact⟨rfl,rfl⟩
 have g2:(O9 x 0==some .eq)=false:=(by simpa using h2:fz x=false);by_cases h3:(O9 x 4890909195324358656==some .gt||O9 x 4890909195324358656==some .eq)=true
 ·clear h h1 h2
  go_enter Tryz.func163,Tryz.ntmps163
  go_wp2;go_ret;exact⟨rfl,rfl⟩
 have g3:(O9 x 4890909195324358656==some .gt||O9 x 4890909195324358656==some .eq)=false:=Bool.eq_false_iff.2 h3;have g4:(O9 x 14114281232179134464==some .lt||O9 x 14114281232179134464==some .eq)=true:=by
  unfold Ll at h;rw[g3]at h;have a1:Ea x=false:=Bool.eq_false_iff.2 h1;have a2:fz x=false:=Bool.eq_false_iff.2 h2;rw[a1,a2]at h;simpa using h
 clear h h1 h2 h3
 go_enter Tryz.func163,Tryz.ntmps163
 go_wp2;go_ret;exact⟨rfl,rfl⟩
theorem QJ{x:Nat}(h:Ll x=false):Ea x=false/\fz x=false/\(O9 x 4890909195324358656==some .gt||O9 x 4890909195324358656==some .eq)=false/\(O9 x 14114281232179134464==some .lt||O9 x 14114281232179134464==some .eq)=false:=by
 unfold Ll at h;simp only[Bool.or_eq_false_iff]at h;exact⟨h.1.1.1,h.1.1.2,by simp[h.1.2],by simp[h.2]⟩
theorem cQ{x:Nat}(h:Ll x=false):∃s m i,Ieee.double.read x=.number s m i/\-1074<=i/\i<=971/\m<2^53/\-(9223372036854775808*Fl.U)<=Fl.sc s m i/\Fl.sc s m i<9223372036854775808*Fl.U:=by
 obtain⟨h1,h2,h3,h4⟩:=QJ h;have d:(Ieee.double.order x x !=some .eq)=false:=h1;have a:(Ieee.double.order x 4890909195324358656==some .gt||Ieee.double.order x 4890909195324358656==some .eq)=false:=h3;have b:(Ieee.double.order x 14114281232179134464==some .lt||Ieee.double.order x 14114281232179134464==some .eq)=false:=h4;rcases Fl.CG x with⟨s,m,i,c,hi,e,f,_⟩|⟨s,c⟩|⟨s,t,c⟩
 ·refine⟨s,m,i,c,hi,e,f,?_,?_⟩
  ·rw[Fl.B6 c Fl.Gv hi (by omega),Fl.PJ,Fl.Kd,Fl.C0]at b;simp at b;omega
  ·rw[Fl.B6 c Fl.Gu hi (by omega),Fl.M3,Fl.I7,Fl.C0]at a;simp at a;omega
 ·exfalso;unfold Ieee.Format.order at a b;rw[c,Fl.Gu]at a;rw[c,Fl.Gv]at b;cases s<;>simp[Ieee.Datum.order]at a b
 ·exfalso;unfold Ieee.Format.order at d;rw[c]at d;simp[Ieee.Datum.order]at d
theorem RQ(x:Nat)(h:Ll x=false):
  ∃r,(O9 x r==some .eq)=UW x/\∀w:World,C9 163 #[F9 x] w fun e w'=>e=.returned (F9 r)/\w'=w:=by
 obtain⟨s,m,i,g,hi,c,j,d,f⟩:=cQ h;obtain⟨h1,h2,h3,h4⟩:=QJ h;have g1:(O9 x x !=some .eq)=false:=h1;have g2:(O9 x 0==some .eq)=false:=h2;have k:UW x=decide (Fl.sc s m i=Fl.sg s (Fl.whole m i)*Fl.U):=by unfold UW;rw[g]
 have hint:=Fl.Ni g hi d f;obtain⟨o1,o2⟩:=Fl.Vi g hi c j;have l:∀w:World,(convert 29 2 (F9 x)).run Tryz.prog w=.ok (J (Fl.sg s (Fl.whole m i))) w:=fun w=>run_convert_float_int w 29 2 .f64 .i64 x _ (by kernel_rfl) Tryz.underlying2 hint
 by_cases a:Fl.sc s m i<Fl.sg s (Fl.whole m i)*Fl.U
 focus
  obtain⟨r,b,Cy⟩:=Fl.WN g hi j a;have o:∀w:World,(binOp .sub 29 (F9 (floatOfInt .f64 (Fl.sg s (Fl.whole m i)))) (F9 4607182418800017408)).run Tryz.prog w=.ok (F9 r) w:=fun w=>run_float_arith w .sub 29 .f64 _ _ r b
  have q:UW x=false:=by rw[k];simp;omega
  have g5:(O9 (floatOfInt .f64 (Fl.sg s (Fl.whole m i))) x==some .gt)=true:=by
   show(Ieee.double.order (Ieee.double.nearest (decide (Fl.sg s (Fl.whole m i)<0)) (Fl.sg s (Fl.whole m i)).natAbs 0) x==some .gt)=true;rw[o2,Fl.I7];simpa using a
  have p:Hid ((O9 x r==some .eq)=UW x):=by rw[q];exact Cy
  refine⟨r,p.out,fun w=>?_⟩;clear g h1 h2 k hint o1 o2 a b Cy q h d f hi c j
 rotate_left
 focus
  have g5:(O9 (floatOfInt .f64 (Fl.sg s (Fl.whole m i))) x==some .gt)=false:=by
   show(Ieee.double.order (Ieee.double.nearest (decide (Fl.sg s (Fl.whole m i)<0)) (Fl.sg s (Fl.whole m i)).natAbs 0) x==some .gt)=false;rw[o2,Fl.I7];simpa using a
  have p:Hid ((O9 x (floatOfInt .f64 (Fl.sg s (Fl.whole m i)))==some .eq)=UW x):=by
   show(Ieee.double.order x (Ieee.double.nearest (decide (Fl.sg s (Fl.whole m i)<0)) (Fl.sg s (Fl.whole m i)).natAbs 0)==some .eq)=UW x;rw[o1,Fl.C0,k]
  refine⟨_,p.out,fun w=>?_⟩;clear g h1 h2 k hint o1 o2 a h d f hi c j
 rotate_left;all_goals
  generalize Fl.sg s (Fl.whole m i)=n at*
  go_enter Tryz.func163,Tryz.ntmps163
  go_wp2;go_ret;exact⟨rfl,rfl⟩
theorem Mh{x:Nat}(h:Ll x=true)(hn:Ea x=false)(h1:Ty x=true)(h2:Ve x=true):UW x=true:=by
 obtain⟨s,m,i,a,hi,c,g,d,e⟩:=RN h1 h2;have f:UW x=decide (Fl.sc s m i=Fl.sg s (Fl.whole m i)*Fl.U):=by unfold UW;rw[a]
 rw[f];have hb:=Fl.Ff m i hi;have hu:=Fl.N1;unfold Ll at h;rw[hn]at h;have e1:fz x=decide (Fl.sc s m i=0):=by
  show(Ieee.double.order x 0==some .eq)=_;rw[Fl.B6 a Fl.CP hi (by omega),Fl.C0,Fl.Fa]
 have e2:(O9 x 4890909195324358656==some .gt||O9 x 4890909195324358656==some .eq)=false:=by
  show(Ieee.double.order x 4890909195324358656==some .gt||Ieee.double.order x 4890909195324358656==some .eq)=false;rw[Fl.B6 a Fl.Gu hi (by omega),Fl.M3,Fl.I7,Fl.C0];simp;omega
 have e3:(O9 x 14114281232179134464==some .lt||O9 x 14114281232179134464==some .eq)=decide (Fl.sc s m i=-(9223372036854775808*Fl.U)):=by
  show(Ieee.double.order x 14114281232179134464==some .lt||Ieee.double.order x 14114281232179134464==some .eq)=_;rw[Fl.B6 a Fl.Gv hi (by omega),Fl.PJ,Fl.Kd,Fl.C0];have:¬Fl.sc s m i< -(9223372036854775808*Fl.U):=by omega
  simp[this]
 rw[e1,e2,e3]at h;simp at h;have hk:(Fl.whole m i:Int)=0\/(s=true/\(Fl.whole m i:Int)=9223372036854775808):=by
  rcases h with h|h
  ·left;have b:Fl.sc false m i=0:=by
    cases s
    ·exact h
    ·rw[Fl.Es]at h;omega
   rw[b]at hb;have:=Int.le_of_mul_le_mul_right (show(Fl.whole m i:Int)*Fl.U<=0*Fl.U from by omega) hu;omega
  ·right;have hs:s=true:=by
    cases s
    ·exfalso;have b:0<=(Fl.whole m i:Int)*Fl.U:=Int.mul_nonneg (by omega) (by omega);omega
    ·rfl
   subst hs;rw[Fl.Es]at h;have b:Fl.sc false m i=9223372036854775808*Fl.U:=by omega
   rw[b]at hb;have h3:=Int.lt_of_mul_lt_mul_right hb.2 (by omega);have h4:=Int.le_of_mul_le_mul_right hb.1 hu;exact⟨rfl,by omega⟩
 rcases h with h|h
 ·have:(Fl.whole m i:Int)=0:=by
   rcases hk with k|⟨k1,k2⟩
   ·exact k
   ·exfalso;subst k1;rw[Fl.Es]at h;rw[k2]at hb;omega
  have e0:Fl.whole m i=0:=by omega
  rw[h,e0];cases s<;>simp[Fl.sg]
 ·rcases hk with k|⟨k1,k2⟩
  ·exfalso;rw[k]at hb;have:Fl.sc false m i<Fl.U:=by simpa using hb.2
   cases s
   ·omega
   ·rw[Fl.Es]at h;omega
  ·subst k1;have e0:Fl.whole m i=9223372036854775808:=by omega
   rw[h,e0];simp[Fl.sg,Int.neg_mul]
theorem BQ{B:Nat}{a w:Y}(h:Below B a w)(b:Nat)(hb:B<=b)(v0 v1 v2 v3 v4 v5:V9):
  Below B a ((((((w.setCell (G b 0) v0).setCell (G b 1) v1).setCell (G b 2) v2).setCell (G b 3) v3).setCell (G b 4) v4).setCell (G b 5) v5):=
 (((((h.setCell (p:=(G b 0)) hb v0).setCell (p:=(G b 1)) hb v1).setCell (p:=(G b 2)) hb v2).setCell (p:=(G b 3)) hb v3).setCell (p:=(G b 4)) hb v4).setCell (p:=(G b 5)) hb v5
theorem Ef{B:Nat}{a w:Y}(h:Below B a w)(n:Nat):Below B a (w.drewN n):=⟨h.os,h.tape,h.output,h.size,h.block⟩
theorem CS{B:Nat}{w w1:Y}{o1 o2:Obj}(a:B<=w.heap.size)(hb:Below ((w.alloc o1).alloc o2).heap.size ((w.alloc o1).alloc o2) w1):Below B w w1:=
 (((DD B w).alloc a o1).alloc (by simp;omega) o2).trans (hb.mono (by simp;omega))
def JD(kind num:Int)(Ae:Nat)(s:ByteArray)(ref:Int):Value:=
 if AB kind num Ae s ref=true then
  if kind=0 then KV 1 0 0 0 ⟨#[]⟩ 0
  else if kind=3 then
   if Ea Ae=true then KV 1 0 0 0 ⟨#[]⟩ 0
   else if B2 Ae=true then KV 0 2 (Lm Ae) 0 ⟨#[]⟩ 0
   else KV 0 kind num Ae s ref
  else KV 0 kind num Ae s ref
 else KV 2 0 0 0 ⟨#[]⟩ 0
theorem gH(kind num:Int)(Ae:Nat)(s:ByteArray)(ref:Int)(w:Y)(a:AB kind num Ae s ref=false):
  C9 101 #[V kind num Ae s ref] w (R9 (KV 2 0 0 0 ⟨#[]⟩ 0) w):=by
 go_enter Tryz.func101,Tryz.ntmps101
 go_wp2_with (go_at_call 85;refine m9 (BF kind num Ae s ref _) fun w1 hb=>?_;rw[a];obtain⟨hc,hf⟩:=AJ hb;have hz:=hb.size;simp at hz)
 exact DO (v:=KV 2 0 0 0 ⟨#[]⟩ 0) (by simp[results,Tryz.results101,go_sem,hc]) rfl ⟨rfl,BQ (CS (A0 _) hb) _ (by omega) _ _ _ _ _ _⟩
theorem gI(num:Int)(Ae:Nat)(s:ByteArray)(ref:Int)(w:Y)(a:AB 0 num Ae s ref=true):
  C9 101 #[V 0 num Ae s ref] w (R9 (KV 1 0 0 0 ⟨#[]⟩ 0) w):=by
 go_enter Tryz.func101,Tryz.ntmps101
 go_wp2_with (go_at_call 85;refine m9 (BF 0 num Ae s ref _) fun w1 hb=>?_;rw[a];obtain⟨hc,hf⟩:=AJ hb;have hz:=hb.size;simp at hz)
 exact DO (v:=KV 1 0 0 0 ⟨#[]⟩ 0) (by simp[results,Tryz.results101,go_sem,hc]) rfl ⟨rfl,BQ (CS (A0 _) hb) _ (by omega) _ _ _ _ _ _⟩
theorem gJ(num:Int)(Ae:Nat)(s:ByteArray)(ref:Int)(w:Y)(a:AB 3 num Ae s ref=true)(hn:Ea Ae=true):
  C9 101 #[V 3 num Ae s ref] w (R9 (KV 1 0 0 0 ⟨#[]⟩ 0) w):=by
 have g1:(O9 Ae Ae !=some .eq)=true:=hn;clear hn
 go_enter Tryz.func101,Tryz.ntmps101
 go_wp2_with (first|(go_at_call 85;refine m9 (BF 3 num Ae s ref _) fun w1 hb=>?_;rw[a];obtain⟨hc,hf⟩:=AJ hb;have hz:=hb.size;simp at hz)|(go_at_call 162;go_in))
 exact DO (v:=KV 1 0 0 0 ⟨#[]⟩ 0) (by simp[results,Tryz.results101,go_sem,hc]) rfl ⟨rfl,BQ (CS (A0 _) hb) _ (by omega) _ _ _ _ _ _⟩
theorem gM(kind num:Int)(Ae:Nat)(s:ByteArray)(ref:Int)(w:Y)(a:AB kind num Ae s ref=true)(b:(kind==0)=false)(h3:(kind==3)=false):
  C9 101 #[V kind num Ae s ref] w (R9 (KV 0 kind num Ae s ref) w):=by
 go_enter Tryz.func101,Tryz.ntmps101
 go_wp2_with (go_at_call 85;refine m9 (BF kind num Ae s ref _) fun w1 hb=>?_;rw[a];obtain⟨hc,hf⟩:=AJ hb;have hz:=hb.size;simp at hz)
 go_quiet (fail)
 go_wp2;exact DO (v:=KV 0 kind num Ae s ref) (by simp[results,Tryz.results101,go_sem,hc]) rfl ⟨rfl,BQ (Ef (CS (A0 _) hb) _) _ (by omega) _ _ _ _ _ _⟩
theorem gL(num:Int)(Ae:Nat)(s:ByteArray)(ref:Int)(w:Y)(c:AB 3 num Ae s ref=true)(hn:Ea Ae=false)(r:Nat)
  (a:∀w:World,C9 163 #[F9 Ae] w fun e w'=>e=.returned (F9 r)/\w'=w)
  (b:((O9 Ae r==some .eq)&&Ty Ae&&Ve Ae)=false):
  C9 101 #[V 3 num Ae s ref] w (R9 (KV 0 3 num Ae s ref) w):=by
 have g1:(O9 Ae Ae !=some .eq)=false:=hn;have f:=O b;have d:=O a;clear hn b a;by_cases t1:(O9 Ae r==some .eq)=true
 ·by_cases t2:Ty Ae=true
  focus
   have t3:Ve Ae=false:=by have:=z f;rw[t1,t2]at this;simpa using this
   have g2:(O9 Ae 14114281232179134464==some .gt||O9 Ae 14114281232179134464==some .eq)=true:=t2;have g3:(O9 Ae 4890909195324358656==some .lt)=false:=t3;clear t2 t3
  rotate_left
  focus
   have g2:(O9 Ae 14114281232179134464==some .gt||O9 Ae 14114281232179134464==some .eq)=false:=(by simpa using t2:Ty Ae=false);clear t2
  rotate_left;all_goals
   go_enter Tryz.func101,Tryz.ntmps101
   go_wp2_with (first|(go_at_call 85;refine m9 (BF 3 num Ae s ref _) fun w1 hb=>?_;rw[c];obtain⟨hc,hf⟩:=AJ hb;have hz:=hb.size;simp at hz)|(go_at_call 162;go_in))
   go_quiet ((go_at_call 163;exact Calls.quiet_of_same (d _)))
   go_wp2;exact DO (v:=KV 0 3 num Ae s ref) (by simp[results,Tryz.results101,go_sem,hc]) rfl ⟨rfl,BQ (Ef (CS (A0 _) hb) _) _ (by omega) _ _ _ _ _ _⟩
 ·have g:(O9 Ae r==some .eq)=false:=by simpa using t1
  clear t1
  go_enter Tryz.func101,Tryz.ntmps101
  go_wp2_with (first|(go_at_call 85;refine m9 (BF 3 num Ae s ref _) fun w1 hb=>?_;rw[c];obtain⟨hc,hf⟩:=AJ hb;have hz:=hb.size;simp at hz)|(go_at_call 162;go_in))
  go_quiet ((go_at_call 163;exact Calls.quiet_of_same (d _)))
  go_wp2;exact DO (v:=KV 0 3 num Ae s ref) (by simp[results,Tryz.results101,go_sem,hc]) rfl ⟨rfl,BQ (Ef (CS (A0 _) hb) _) _ (by omega) _ _ _ _ _ _⟩
theorem Bv(n:Int)(w:Y):
  C9 133 #[J n] w (R9 (V 2 n 0 ⟨#[]⟩ 0) w):=by
 go_enter Tryz.func133,Tryz.ntmps133
 go_wp2;exact DO (v:=V 2 n 0 ⟨#[]⟩ 0) (by simp[results,go_sem]) rfl ⟨rfl,n9⟩
theorem OV(b Z:Nat)(w:Y)(h:Cu b Z w)(hN:Z<=1099511620000):
  C9 194 #[Q9 b] w fun e w'=>(∃W:Int,e=.returned (J W))/\Cu b (Z+4) w'/\KK b w w':=by
 have H:Hid (Cu b Z w):=h;clear h
 go_enter Tryz.func194,Tryz.ntmps194
 go_wp2_with fail
 refine(Ax b Z 6 _ H.out (by omega) (by omega) (by omega)).mono ?_;rintro e w1 ⟨⟨x,rfl,j,k⟩,d,f⟩;by_cases x0:x=0
 ·subst x0;go_wp2_with fail
  refine(Ax b (Z+2) 3 _ d (by omega) (by omega) (by omega)).mono ?_;rintro e w2 ⟨⟨X,rfl,g,i⟩,a,c⟩;go_wp2_with fail
  go_ret;exact⟨⟨_,rfl⟩,a,f.trans c⟩
 have b0:(x==0)=false:=by simp[x0]
 by_cases x1:x=1
 ·subst x1;go_wp2_with fail
  refine(Ax b (Z+2) 3 _ d (by omega) (by omega) (by omega)).mono ?_;rintro e w2 ⟨⟨X,rfl,g,i⟩,a,c⟩;go_wp2_with fail
  go_ret;exact⟨⟨_,rfl⟩,a,f.trans c⟩
 have b1:(x==1)=false:=by simp[x1]
 by_cases x2:x=2
 focus
  subst x2;go_wp2_with fail
  refine(Ax b (Z+2) 70000 _ d (by omega) (by omega) (by omega)).mono ?_
 rotate_left
 focus
  have b2:(x==2)=false:=by simp[x2]
  go_wp2_with fail
  refine(Ax b (Z+2) 12 _ d (by omega) (by omega) (by omega)).mono ?_
 all_goals
  rintro e w2 ⟨⟨X,rfl,g,i⟩,a,c⟩;go_wp2_with fail
  go_ret;exact⟨⟨_,rfl⟩,a,f.trans c⟩
abbrev aO(x:Nat):Prop:=x<18446744073709551616/\x≠9223372036854775808
theorem YR:FloatKind.f64.format.div 0 0=none:=by decide
theorem Zm(w:Y):∃r,(binOp .quo 29 (F9 0) (F9 0)).run Tryz.prog w=.ok (F9 r) w.drew/\aO r:=by
 refine⟨(Question.nanBits .f64 0 0).cut (w.tape w.drawn (.nanBits .f64 0 0)),?_,?_⟩
 ·simp[binOp,Op.floatArith,YR,Question.forced]
 ·unfold aO;simp only[Question.cut];omega
theorem div_one:floatBits .quo .f64 4607182418800017408 0=some 9218868437227405312:=by decide
theorem Wr:floatBits .quo .f64 13830554455654793216 0=some 18442240474082181120:=by decide
theorem U9(f:Nat)(w:Y):
  C9 230 #[F9 f] w (R9 (V 3 0 f ⟨#[]⟩ 0) w):=by
 go_enter Tryz.func230,Tryz.ntmps230
 go_wp2;exact DO (v:=V 3 0 f ⟨#[]⟩ 0) (by simp[results,go_sem]) rfl ⟨rfl,n9⟩
theorem DW(s:ByteArray)(w:Y):
  C9 130 #[.string s] w (R9 (V 4 0 0 s 0) w):=by
 go_enter Tryz.func130,Tryz.ntmps130
 go_wp2;exact DO (v:=V 4 0 0 s 0) (by simp[results,go_sem]) rfl ⟨rfl,n9⟩
theorem Y0(b Z:Nat)(w:Y)(h:Cu b Z w)(hN:Z<=1099511620000):
  C9 195 #[Q9 b] w fun e w'=>(∃f:Nat,e=.returned (V 3 0 f ⟨#[]⟩ 0)/\aO f)/\Cu b (Z+2) w'/\Gr b w w':=by
 have H:Hid (Cu b Z w):=h;have i:=h.lt;clear h;have d1:∀w:World,(binOp .quo 29 (F9 4607182418800017408) (F9 0)).run Tryz.prog w=.ok (F9 9218868437227405312) w:=fun w=>run_float_arith w .quo 29 .f64 _ _ _ div_one
 have d2:∀w:World,(binOp .quo 29 (F9 13830554455654793216) (F9 0)).run Tryz.prog w=.ok (F9 18442240474082181120) w:=fun w=>run_float_arith w .quo 29 .f64 _ _ _ Wr
 obtain⟨r,d3,n⟩:=Zm (w.alloc (.cells #[J 0,J 0,F9 0,E9,J 0] 43))
 go_enter Tryz.func195,Tryz.ntmps195
 go_wp2_with fail
 have j:=H.out.below ((((DD w.heap.size w).alloc (A0 _) (.cells #[J 0,J 0,F9 0,E9,J 0] 43)).alloc (by simp) (.cells #[F9 4602678819172646912,F9 4609434218613702656,F9 4611686018427387904,F9 13821547256400052224,F9 9094988921128908188,F9 4845873199050653696,F9 14114281232179134464,F9 4890909195324358656,F9 9218868437227405312,F9 18442240474082181120,F9 r,F9 0,F9 4613937818241073152] 29)).drew) i;refine(Ax b Z 13 _ j (by omega) (by omega) (by omega)).mono ?_;rintro e w2 ⟨⟨x,rfl,p,q⟩,k,a⟩;have n0:¬w.heap.size=b:=by omega
 have s:¬w.heap.size+1=b:=by omega
 obtain⟨g,hg,l⟩:∃g:Nat,w2.cell? (Y9 w x.toNat)=some (F9 g)/\aO g:=by
  rw[a.cell _ _ s];have hx:x=0\/x=1\/x=2\/x=3\/x=4\/x=5\/x=6\/x=7\/x=8\/x=9\/x=10\/x=11\/x=12:=by omega
  rcases hx with rfl|rfl|rfl|rfl|rfl|rfl|rfl|rfl|rfl|rfl|rfl|rfl|rfl;all_goals(refine⟨_,by simp[go_sem];rfl,by first|exact n|decide⟩)
 have rc:∀o,w2.cell? (y w o)=_:=fun o=>a.cell w.heap.size o n0
 have rf:∀o,w2.frozen? (y w o)=_:=fun o=>a.frozen w.heap.size o n0
 have hz:=a.size;simp at hz;have t:=O a;have u:=O k;clear a k j d1 d2 d3;go_wp2_with (go_at_call 230;refine m9 (U9 g _) fun w3 d=>?_;obtain⟨m,A⟩:=AJ d;have B:=d.size;have c:w.heap.size<w2.heap.size:=(by omega))
 have C:Gr b w w2:=(Gr.Ay ((((DD w.heap.size w).alloc (A0 _) _).alloc (by simp) _).drew)).trans t.gr;have b3:=A5 (d.mono (Aar c)) w.heap.size (A0 _) (J 3) (J 0) (F9 g) (E9) (J 0);exact DO (v:=V 3 0 g ⟨#[]⟩ 0) (by simp[results,Tryz.results195,go_sem,m,c,rc]) rfl ⟨⟨g,rfl,l⟩,u.below b3 i,C.AR b3 (by omega)⟩
theorem Oc{x:Nat}(h1:Ty x=true)(h2:Ve x=true)(w:Y):
  (convert 29 2 (F9 x)).run Tryz.prog w=.ok (J (Lm x)) w:=by
 obtain⟨s,m,i,c,hi,d,f,a,b⟩:=RN h1 h2;have e:Lm x=Fl.sg s (Fl.whole m i):=by unfold Lm;rw[c]
 rw[e];exact run_convert_float_int w 29 2 .f64 .i64 x _ (by kernel_rfl) Tryz.underlying2 (Fl.Ni c hi a b)
theorem gK(num:Int)(Ae:Nat)(s:ByteArray)(ref:Int)(w:Y)(h:AB 3 num Ae s ref=true)(hn:Ea Ae=false)(r:Nat)
  (c:∀w:World,C9 163 #[F9 Ae] w fun e w'=>e=.returned (F9 r)/\w'=w)
  (t1:(O9 Ae r==some .eq)=true) (t2:Ty Ae=true) (t3:Ve Ae=true):
  C9 101 #[V 3 num Ae s ref] w (R9 (KV 0 2 (Lm Ae) 0 ⟨#[]⟩ 0) w):=by
 have g1:(O9 Ae Ae !=some .eq)=false:=hn;have i:=O c;have g2:(O9 Ae 14114281232179134464==some .gt||O9 Ae 14114281232179134464==some .eq)=true:=t2;have g3:(O9 Ae 4890909195324358656==some .lt)=true:=t3;have j:=Oc t2 t3;clear t2 t3 hn c;generalize Lm Ae=n at*
 go_enter Tryz.func101,Tryz.ntmps101
 go_wp2_with (first|(go_at_call 85;refine m9 (BF 3 num Ae s ref _) fun w1 hb=>?_;rw[h];obtain⟨hc,hf⟩:=AJ hb;have hz:=hb.size;simp at hz)|(go_at_call 162;go_in))
 go_quiet ((go_at_call 163;exact Calls.quiet_of_same (i _)))
 obtain⟨w2,a,d⟩:∃w2,Below _ _ w2/\w1.drewN nq=w2:=⟨_,Ef hb nq,rfl⟩;rw[d];clear d hb hc hf hz;obtain⟨hc,hf⟩:=AJ a;have hz:=a.size;simp at hz;have f:w.heap.size+1<w2.heap.size:=by omega
 have k:w.heap.size<w2.heap.size:=by omega
 go_wp2_with (go_at_call 133;refine m9 (Bv n _) fun w3 b=>?_;obtain⟨g,l⟩:=AJ b;have m:=b.size)
 exact DO (v:=KV 0 2 n 0 ⟨#[]⟩ 0) (by simp[results,Tryz.results101,go_sem,hc,g,f]) rfl ⟨rfl,BQ ((CS (A0 _) a).trans (b.mono (by omega))) _ (by omega) _ _ _ _ _ _⟩
theorem DM(kind num:Int)(Ae:Nat)(s:ByteArray)(ref:Int)(w:Y):
  C9 101 #[V kind num Ae s ref] w (R9 (JD kind num Ae s ref) w):=by
 unfold JD;by_cases b:AB kind num Ae s ref=true
 ·rw[C3 b];by_cases h:kind=0
  ·subst h;rw[C3 rfl];exact gI num Ae s ref w b
  ·rw[Cs h];by_cases h3:kind=3
   ·subst h3;rw[C3 rfl];by_cases hn:Ea Ae=true
    ·rw[C3 hn];exact gJ num Ae s ref w b hn
    ·rw[Cs hn];have a:Ea Ae=false:=by simpa using hn
     obtain⟨r,c,d⟩:∃r,((O9 Ae r==some .eq)&&Ty Ae&&Ve Ae)=B2 Ae/\∀w:World,C9 163 #[F9 Ae] w fun e w'=>e=.returned (F9 r)/\w'=w:=by
      by_cases i:Ll Ae=true
      ·refine⟨Ae,?_,fun w=>RR Ae w i⟩;have e:(O9 Ae Ae==some .eq)=true:=by
        have:(O9 Ae Ae !=some .eq)=false:=a;simpa using this
       rw[e];unfold B2;by_cases g:Ty Ae=true
       ·by_cases l:Ve Ae=true
        ·rw[Mh i a g l];simp
        ·have:Ve Ae=false:=by simpa using l
         rw[this];simp
       ·have:Ty Ae=false:=by simpa using g
        rw[this];simp
      ·have j:Ll Ae=false:=by simpa using i
       obtain⟨r,h1,h2⟩:=RQ Ae j;refine⟨r,?_,h2⟩;rw[h1];unfold B2;cases UW Ae<;>cases Ty Ae<;>cases Ve Ae<;>rfl
     by_cases f:B2 Ae=true
     ·rw[C3 f];rw[f]at c;simp only[OR]at c;exact gK num Ae s ref w b a r d c.1.1 c.1.2 c.2
     ·rw[Cs f];have k:B2 Ae=false:=by simpa using f
      rw[k]at c;exact gL num Ae s ref w b a r d c
   ·rw[Cs h3];exact gM kind num Ae s ref w b (by simp[h]) (by simp[h3])
 ·rw[Cs b];exact gH kind num Ae s ref w (by simpa using b)
theorem Pt(b Z:Nat)(w:Y)(h:Cu b Z w)(hN:Z<=1099511610000):
  C9 132 #[Q9 b] w fun e w'=>(∃(kind num:Int) (Ae:Nat) (s:ByteArray) (ref:Int),e=.returned (V kind num Ae s ref)/\s.size<=4000/\aO Ae)/\Cu b (Z+10) w'/\Gr b w w':=by
 have n:=h.lt;have n0:¬w.heap.size=b:=by omega
 have a:Gr b w (w.alloc (.cells #[J 0,J 0,F9 0,E9,J 0] 43)):=Gr.Ay ((DD w.heap.size w).alloc (A0 _) _);have p:=O a;have H:=O (h.below ((DD w.heap.size w).alloc (A0 _) (.cells #[J 0,J 0,F9 0,E9,J 0] 43)) n);clear h a
 go_enter Tryz.func132,Tryz.ntmps132
 go_wp2_with fail
 refine(Ax b Z 12 _ H (by omega) (by omega) (by omega)).mono ?_;rintro e w1 ⟨⟨x,rfl,ad,ae⟩,F,I⟩;have a:=z p;have q:=O F;have r:=O I;clear F I;by_cases x0:x=0
 ·subst x0;clear a;go_wp2_with fail
  refine(Ax b (Z+2) 9 _ q (by omega) (by omega) (by omega)).mono ?_;rintro e w2 ⟨⟨X,rfl,u,A⟩,c,j⟩;have m:=O (r.gr.trans j.gr);have d:=O c;clear c j;go_wp2_with fail
  refine m9 (Bv (1+X) _) fun w3 g=>?_
  have i:=O (m.trans (Gr.Ay g));have k:=O (d.below g d.lt);clear g;have rc:∀o,w3.cell? (y w o)=(w.alloc (.cells #[J 0,J 0,F9 0,E9,J 0] 43)).cell? (y w o):=fun o=>(i).cell w.heap.size o n0 (by simp)
  have rf:∀o,w3.frozen? (y w o)=(w.alloc (.cells #[J 0,J 0,F9 0,E9,J 0] 43)).frozen? (y w o):=fun o=>(i).frozen w.heap.size o n0 (by simp)
  go_wp2_with fail
  have a:=z p;have l:=A5 (DD w.heap.size w3) w.heap.size (A0 _) (J 2) (J (1+X)) (F9 0) (E9) (J 0);exact DO (v:=V 2 (1+X) 0 ⟨#[]⟩ 0) (by simp[results,Tryz.results132,go_sem,rc]) rfl ⟨⟨2,(1+X),0,⟨#[]⟩,0,rfl,by decide,by decide⟩,(k.mono (by omega)).below l n,(a.trans i).AR l (A0 _)⟩
 have b0:(x==0)=false:=by simp[x0]
 by_cases x1:x=1
 ·subst x1;clear a;go_wp2_with fail
  refine(Ax b (Z+2) 9 _ q (by omega) (by omega) (by omega)).mono ?_;rintro e w2 ⟨⟨X,rfl,u,A⟩,c,j⟩;have m:=O (r.gr.trans j.gr);have d:=O c;clear c j;go_wp2_with fail
  refine m9 (Bv (1+X) _) fun w3 g=>?_
  have i:=O (m.trans (Gr.Ay g));have k:=O (d.below g d.lt);clear g;have rc:∀o,w3.cell? (y w o)=(w.alloc (.cells #[J 0,J 0,F9 0,E9,J 0] 43)).cell? (y w o):=fun o=>(i).cell w.heap.size o n0 (by simp)
  have rf:∀o,w3.frozen? (y w o)=(w.alloc (.cells #[J 0,J 0,F9 0,E9,J 0] 43)).frozen? (y w o):=fun o=>(i).frozen w.heap.size o n0 (by simp)
  go_wp2_with fail
  have a:=z p;have l:=A5 (DD w.heap.size w3) w.heap.size (A0 _) (J 2) (J (1+X)) (F9 0) (E9) (J 0);exact DO (v:=V 2 (1+X) 0 ⟨#[]⟩ 0) (by simp[results,Tryz.results132,go_sem,rc]) rfl ⟨⟨2,(1+X),0,⟨#[]⟩,0,rfl,by decide,by decide⟩,(k.mono (by omega)).below l n,(a.trans i).AR l (A0 _)⟩
 have b1:(x==1)=false:=by simp[x1]
 by_cases x2:x=2
 ·subst x2;clear a;go_wp2_with fail
  refine(Ax b (Z+2) 9 _ q (by omega) (by omega) (by omega)).mono ?_;rintro e w2 ⟨⟨X,rfl,u,A⟩,c,j⟩;have m:=O (r.gr.trans j.gr);have d:=O c;clear c j;go_wp2_with fail
  refine m9 (Bv (1+X) _) fun w3 g=>?_
  have i:=O (m.trans (Gr.Ay g));have k:=O (d.below g d.lt);clear g;have rc:∀o,w3.cell? (y w o)=(w.alloc (.cells #[J 0,J 0,F9 0,E9,J 0] 43)).cell? (y w o):=fun o=>(i).cell w.heap.size o n0 (by simp)
  have rf:∀o,w3.frozen? (y w o)=(w.alloc (.cells #[J 0,J 0,F9 0,E9,J 0] 43)).frozen? (y w o):=fun o=>(i).frozen w.heap.size o n0 (by simp)
  go_wp2_with fail
  have a:=z p;have l:=A5 (DD w.heap.size w3) w.heap.size (A0 _) (J 2) (J (1+X)) (F9 0) (E9) (J 0);exact DO (v:=V 2 (1+X) 0 ⟨#[]⟩ 0) (by simp[results,Tryz.results132,go_sem,rc]) rfl ⟨⟨2,(1+X),0,⟨#[]⟩,0,rfl,by decide,by decide⟩,(k.mono (by omega)).below l n,(a.trans i).AR l (A0 _)⟩
 have b2:(x==2)=false:=by simp[x2]
 by_cases P:x=3
 ·subst P;clear a;go_wp2_with fail
  refine(Ax b (Z+2) 9 _ q (by omega) (by omega) (by omega)).mono ?_;rintro e w2 ⟨⟨X,rfl,u,A⟩,c,j⟩;have m:=O (r.gr.trans j.gr);have d:=O c;clear c j;go_wp2_with fail
  refine m9 (Bv (1+X) _) fun w3 g=>?_
  have i:=O (m.trans (Gr.Ay g));have k:=O (d.below g d.lt);clear g;have rc:∀o,w3.cell? (y w o)=(w.alloc (.cells #[J 0,J 0,F9 0,E9,J 0] 43)).cell? (y w o):=fun o=>(i).cell w.heap.size o n0 (by simp)
  have rf:∀o,w3.frozen? (y w o)=(w.alloc (.cells #[J 0,J 0,F9 0,E9,J 0] 43)).frozen? (y w o):=fun o=>(i).frozen w.heap.size o n0 (by simp)
  go_wp2_with fail
  have a:=z p;have l:=A5 (DD w.heap.size w3) w.heap.size (A0 _) (J 2) (J (1+X)) (F9 0) (E9) (J 0);exact DO (v:=V 2 (1+X) 0 ⟨#[]⟩ 0) (by simp[results,Tryz.results132,go_sem,rc]) rfl ⟨⟨2,(1+X),0,⟨#[]⟩,0,rfl,by decide,by decide⟩,(k.mono (by omega)).below l n,(a.trans i).AR l (A0 _)⟩
 have b3:(x==3)=false:=by simp[P]
 by_cases x4:x=4
 ·subst x4;clear a;go_wp2_with fail
  refine(OV b (Z+2) _ q (by omega)).mono ?_;rintro e w2 ⟨⟨X,rfl⟩,c,j⟩;have m:=O (r.gr.trans j.gr);have d:=O c;clear c j;go_wp2_with fail
  refine m9 (Bv X _) fun w3 g=>?_
  have i:=O (m.trans (Gr.Ay g));have k:=O (d.below g d.lt);clear g;have rc:∀o,w3.cell? (y w o)=(w.alloc (.cells #[J 0,J 0,F9 0,E9,J 0] 43)).cell? (y w o):=fun o=>(i).cell w.heap.size o n0 (by simp)
  have rf:∀o,w3.frozen? (y w o)=(w.alloc (.cells #[J 0,J 0,F9 0,E9,J 0] 43)).frozen? (y w o):=fun o=>(i).frozen w.heap.size o n0 (by simp)
  go_wp2_with fail
  have a:=z p;have l:=A5 (DD w.heap.size w3) w.heap.size (A0 _) (J 2) (J X) (F9 0) (E9) (J 0);exact DO (v:=V 2 X 0 ⟨#[]⟩ 0) (by simp[results,Tryz.results132,go_sem,rc]) rfl ⟨⟨2,X,0,⟨#[]⟩,0,rfl,by decide,by decide⟩,(k.mono (by omega)).below l n,(a.trans i).AR l (A0 _)⟩
 have b4:(x==4)=false:=by simp[x4]
 by_cases Q:x=5
 ·subst Q;clear a;go_wp2_with fail
  refine(Ia b (Z+2) _ q (by omega)).mono ?_;rintro e w2 ⟨⟨s,rfl,C⟩,c,t⟩;have m:=O (r.gr.trans t);have d:=O c;clear c t;go_wp2_with fail
  refine m9 (DW s _) fun w3 g=>?_
  have i:=O (m.trans (Gr.Ay g));have k:=O (d.below g d.lt);clear g;have rc:∀o,w3.cell? (y w o)=(w.alloc (.cells #[J 0,J 0,F9 0,E9,J 0] 43)).cell? (y w o):=fun o=>(i).cell w.heap.size o n0 (by simp)
  have rf:∀o,w3.frozen? (y w o)=(w.alloc (.cells #[J 0,J 0,F9 0,E9,J 0] 43)).frozen? (y w o):=fun o=>(i).frozen w.heap.size o n0 (by simp)
  go_wp2_with fail
  have a:=z p;have l:=A5 (DD w.heap.size w3) w.heap.size (A0 _) (J 4) (J 0) (F9 0) (.string s) (J 0);exact DO (v:=V 4 0 0 s 0) (by simp[results,Tryz.results132,go_sem,rc]) rfl ⟨⟨4,0,0,s,0,rfl,C,by decide⟩,(k.mono (by omega)).below l n,(a.trans i).AR l (A0 _)⟩
 have b5:(x==5)=false:=by simp[Q]
 by_cases R:x=6
 ·subst R;clear a;go_wp2_with fail
  refine(Ia b (Z+2) _ q (by omega)).mono ?_;rintro e w2 ⟨⟨s,rfl,C⟩,c,t⟩;have m:=O (r.gr.trans t);have d:=O c;clear c t;go_wp2_with fail
  refine m9 (DW s _) fun w3 g=>?_
  have i:=O (m.trans (Gr.Ay g));have k:=O (d.below g d.lt);clear g;have rc:∀o,w3.cell? (y w o)=(w.alloc (.cells #[J 0,J 0,F9 0,E9,J 0] 43)).cell? (y w o):=fun o=>(i).cell w.heap.size o n0 (by simp)
  have rf:∀o,w3.frozen? (y w o)=(w.alloc (.cells #[J 0,J 0,F9 0,E9,J 0] 43)).frozen? (y w o):=fun o=>(i).frozen w.heap.size o n0 (by simp)
  go_wp2_with fail
  have a:=z p;have l:=A5 (DD w.heap.size w3) w.heap.size (A0 _) (J 4) (J 0) (F9 0) (.string s) (J 0);exact DO (v:=V 4 0 0 s 0) (by simp[results,Tryz.results132,go_sem,rc]) rfl ⟨⟨4,0,0,s,0,rfl,C,by decide⟩,(k.mono (by omega)).below l n,(a.trans i).AR l (A0 _)⟩
 have b6:(x==6)=false:=by simp[R]
 by_cases S:x=7
 ·subst S;clear a;go_wp2_with fail
  refine(Ia b (Z+2) _ q (by omega)).mono ?_;rintro e w2 ⟨⟨s,rfl,C⟩,c,t⟩;have m:=O (r.gr.trans t);have d:=O c;clear c t;go_wp2_with fail
  refine m9 (DW s _) fun w3 g=>?_
  have i:=O (m.trans (Gr.Ay g));have k:=O (d.below g d.lt);clear g;have rc:∀o,w3.cell? (y w o)=(w.alloc (.cells #[J 0,J 0,F9 0,E9,J 0] 43)).cell? (y w o):=fun o=>(i).cell w.heap.size o n0 (by simp)
  have rf:∀o,w3.frozen? (y w o)=(w.alloc (.cells #[J 0,J 0,F9 0,E9,J 0] 43)).frozen? (y w o):=fun o=>(i).frozen w.heap.size o n0 (by simp)
  go_wp2_with fail
  have a:=z p;have l:=A5 (DD w.heap.size w3) w.heap.size (A0 _) (J 4) (J 0) (F9 0) (.string s) (J 0);exact DO (v:=V 4 0 0 s 0) (by simp[results,Tryz.results132,go_sem,rc]) rfl ⟨⟨4,0,0,s,0,rfl,C,by decide⟩,(k.mono (by omega)).below l n,(a.trans i).AR l (A0 _)⟩
 have b7:(x==7)=false:=by simp[S]
 by_cases T:x=8
 ·subst T;clear a;go_wp2_with fail
  refine(Y0 b (Z+2) _ q (by omega)).mono ?_;rintro e w2 ⟨⟨f,rfl,hf⟩,c,t⟩;have m:=O (r.gr.trans t);have d:=O c;clear c t;have rc:∀o,w2.cell? (y w o)=(w.alloc (.cells #[J 0,J 0,F9 0,E9,J 0] 43)).cell? (y w o):=fun o=>(m).cell w.heap.size o n0 (by simp)
  have rf:∀o,w2.frozen? (y w o)=(w.alloc (.cells #[J 0,J 0,F9 0,E9,J 0] 43)).frozen? (y w o):=fun o=>(m).frozen w.heap.size o n0 (by simp)
  go_wp2_with fail
  have a:=z p;have l:=A5 (DD w.heap.size w2) w.heap.size (A0 _) (J 3) (J 0) (F9 f) (E9) (J 0);exact DO (v:=V 3 0 f ⟨#[]⟩ 0) (by simp[results,Tryz.results132,go_sem,rc]) rfl ⟨⟨3,0,f,⟨#[]⟩,0,rfl,by decide,hf⟩,(d.mono (by omega)).below l n,(a.trans m).AR l (A0 _)⟩
 have b8:(x==8)=false:=by simp[T]
 by_cases U:x=9
 ·subst U;clear a;go_wp2_with fail
  refine(Ax b (Z+2) 2 _ q (by omega) (by omega) (by omega)).mono ?_;rintro e w2 ⟨⟨X,rfl,u,A⟩,c,j⟩;have m:=O (r.gr.trans j.gr);have d:=O c;clear c j;have rc:∀o,w2.cell? (y w o)=(w.alloc (.cells #[J 0,J 0,F9 0,E9,J 0] 43)).cell? (y w o):=fun o=>(m).cell w.heap.size o n0 (by simp)
  have rf:∀o,w2.frozen? (y w o)=(w.alloc (.cells #[J 0,J 0,F9 0,E9,J 0] 43)).frozen? (y w o):=fun o=>(m).frozen w.heap.size o n0 (by simp)
  go_wp2_with fail
  have a:=z p;have l:=A5 (DD w.heap.size w2) w.heap.size (A0 _) (J 1) (J X) (F9 0) (E9) (J 0);exact DO (v:=V 1 X 0 ⟨#[]⟩ 0) (by simp[results,Tryz.results132,go_sem,rc]) rfl ⟨⟨1,X,0,⟨#[]⟩,0,rfl,by decide,by decide⟩,(d.mono (by omega)).below l n,(a.trans m).AR l (A0 _)⟩
 have af:(x==9)=false:=by simp[U]
 by_cases K:x=10
 ·subst K;clear a;go_wp2_with fail
  refine(Ax b (Z+2) 3 _ q (by omega) (by omega) (by omega)).mono ?_;rintro e w2 ⟨⟨X,rfl,u,A⟩,c,j⟩;have B:=O (r.gr.trans j.gr);have d:=O c;clear c j;go_wp2_with fail
  refine(Ax b (Z+4) 9 _ d (by omega) (by omega) (by omega)).mono ?_;rintro e w3 ⟨⟨W,rfl,L,M⟩,D,E⟩;have m:=O (B.trans E.gr);have k:=O D;clear D E;have rc:∀o,w3.cell? (y w o)=(w.alloc (.cells #[J 0,J 0,F9 0,E9,J 0] 43)).cell? (y w o):=fun o=>(m).cell w.heap.size o n0 (by simp)
  have rf:∀o,w3.frozen? (y w o)=(w.alloc (.cells #[J 0,J 0,F9 0,E9,J 0] 43)).frozen? (y w o):=fun o=>(m).frozen w.heap.size o n0 (by simp)
  go_wp2_with fail
  have a:=z p;have l:=A5 (DD w.heap.size w3) w.heap.size (A0 _) (J (5+X)) (J 0) (F9 0) (E9) (J W);exact DO (v:=V (5+X) 0 0 ⟨#[]⟩ W) (by simp[results,Tryz.results132,go_sem,rc]) rfl ⟨⟨(5+X),0,0,⟨#[]⟩,W,rfl,by decide,by decide⟩,(k.mono (by omega)).below l n,(a.trans m).AR l (A0 _)⟩
 have ag:(x==10)=false:=by simp[K]
 clear a;go_wp2_with fail
 refine(Ax b (Z+2) 3 _ q (by omega) (by omega) (by omega)).mono ?_;rintro e w2 ⟨⟨X,rfl,u,A⟩,c,j⟩;have B:=O (r.gr.trans j.gr);have d:=O c;clear c j;by_cases y0:X=0
 ·subst y0;have rc:∀o,w2.cell? (y w o)=(w.alloc (.cells #[J 0,J 0,F9 0,E9,J 0] 43)).cell? (y w o):=fun o=>(B).cell w.heap.size o n0 (by simp)
  have rf:∀o,w2.frozen? (y w o)=(w.alloc (.cells #[J 0,J 0,F9 0,E9,J 0] 43)).frozen? (y w o):=fun o=>(B).frozen w.heap.size o n0 (by simp)
  go_wp2_with fail
  have a:=z p;have l:=A5 (DD w.heap.size w2) w.heap.size (A0 _) (J 0) (J 0) (F9 0) (E9) (J 0);exact DO (v:=V 0 0 0 ⟨#[]⟩ 0) (by simp[results,Tryz.results132,go_sem,rc]) rfl ⟨⟨0,0,0,⟨#[]⟩,0,rfl,by decide,by decide⟩,(d.mono (by omega)).below l n,(a.trans B).AR l (A0 _)⟩
 ·have c0:(X==0)=false:=by simp[y0]
  go_wp2_with fail
  refine(Ax b (Z+4) 15 _ d (by omega) (by omega) (by omega)).mono ?_;rintro e w3 ⟨⟨W,rfl,L,M⟩,D,E⟩;have m:=O (B.trans E.gr);have k:=O D;clear D E;have rc:∀o,w3.cell? (y w o)=(w.alloc (.cells #[J 0,J 0,F9 0,E9,J 0] 43)).cell? (y w o):=fun o=>(m).cell w.heap.size o n0 (by simp)
  have rf:∀o,w3.frozen? (y w o)=(w.alloc (.cells #[J 0,J 0,F9 0,E9,J 0] 43)).frozen? (y w o):=fun o=>(m).frozen w.heap.size o n0 (by simp)
  go_wp2_with fail
  have a:=z p;have l:=A5 (DD w.heap.size w3) w.heap.size (A0 _) (J 8) (J W) (F9 0) (E9) (J 0);exact DO (v:=V 8 W 0 ⟨#[]⟩ 0) (by simp[results,Tryz.results132,go_sem,rc]) rfl ⟨⟨8,W,0,⟨#[]⟩,0,rfl,by decide,by decide⟩,(k.mono (by omega)).below l n,(a.trans m).AR l (A0 _)⟩
theorem Ti(b Z:Nat)(w:Y)(h:Cu b Z w)(hN:Z<=1099511600000):
  C9 136 #[Q9 b] w fun e w'=>(∃(kind num:Int) (Ae:Nat) (s:ByteArray) (ref:Int),e=.returned (V kind num Ae s ref)/\s.size<=4000/\aO Ae)/\Cu b (Z+20) w'/\Gr b w w':=by
 have i:=h.lt;have n0:¬w.heap.size=b:=by omega
 have k:=O (Gr.Ay (b:=b) ((DD w.heap.size w).alloc (A0 _) (.cells #[J 0,J 0,F9 0,E9,J 0] 43)));have H:=O (h.below ((DD w.heap.size w).alloc (A0 _) (.cells #[J 0,J 0,F9 0,E9,J 0] 43)) i);clear h
 go_enter Tryz.func136,Tryz.ntmps136
 go_wp2_with fail
 refine(Pt b Z _ H (by omega)).mono ?_;rintro e w1 ⟨⟨kind,num,Ae,s,ref,rfl,l,hf⟩,u,A⟩;have F:=A.size;simp at F;have r:¬w1.heap.size=b:=by omega
 have B:B9 w1 (w1.alloc (.cells #[J kind,J num,F9 Ae,.string s,J ref] 43)):=n9;have I:=O (u.below B u.lt);have K:=O (A.trans (Gr.Ay B));clear u A B;go_wp2_with fail
 refine(Ax b (Z+10) 5 _ I (by omega) (by omega) (by omega)).mono ?_;rintro e w2 ⟨⟨x,rfl,R,S⟩,D,m⟩;have L:=m.size;simp at L;have d:=O (K.trans m.gr);have n:=O D;have C:∀o,w2.cell? (G w1.heap.size o)=(w1.alloc (.cells #[J kind,J num,F9 Ae,.string s,J ref] 43)).cell? (G w1.heap.size o):=fun o=>m.cell w1.heap.size o r
 have j:∀o,w2.frozen? (G w1.heap.size o)=(w1.alloc (.cells #[J kind,J num,F9 Ae,.string s,J ref] 43)).frozen? (G w1.heap.size o):=fun o=>m.frozen w1.heap.size o r
 clear D m;have m1:¬w.heap.size=w1.heap.size:=by omega
 by_cases x0:x=0
 ·subst x0;go_wp2_with fail
  refine(Ax b (Z+12) 11 _ n (by omega) (by omega) (by omega)).mono ?_;rintro e w3 ⟨⟨X,rfl,M,P⟩,f,a⟩;have c:=O (d.trans a.gr);have q:=O f;have E:∀o,w3.cell? (G w1.heap.size o)=(w1.alloc (.cells #[J kind,J num,F9 Ae,.string s,J ref] 43)).cell? (G w1.heap.size o):=fun o=>(a.cell w1.heap.size o r).trans (C o)
  have t:∀o,w3.frozen? (G w1.heap.size o)=(w1.alloc (.cells #[J kind,J num,F9 Ae,.string s,J ref] 43)).frozen? (G w1.heap.size o):=fun o=>(a.frozen w1.heap.size o r).trans (j o)
  clear f a C j;have rc:∀o,w3.cell? (G w.heap.size o)=(w.alloc (.cells #[J 0,J 0,F9 0,E9,J 0] 43)).cell? (G w.heap.size o):=fun o=>c.cell w.heap.size o n0 (by simp)
  have rf:∀o,w3.frozen? (G w.heap.size o)=(w.alloc (.cells #[J 0,J 0,F9 0,E9,J 0] 43)).frozen? (G w.heap.size o):=fun o=>c.frozen w.heap.size o n0 (by simp)
  go_wp2_with fail
  have g:=A5 ((DD w.heap.size w3).setCell (p:=(G w1.heap.size 0)) (by simp;omega) (J (X-1))) w.heap.size (A0 _) (J (X-1)) (J num) (F9 Ae) (.string s) (J ref);exact DO (v:=V (X-1) num Ae s ref) (by simp[results,Tryz.results136,go_sem,rc]) rfl ⟨⟨(X-1),num,Ae,s,ref,rfl,l,hf⟩,(q.mono (by omega)).below g i,(k.trans c).AR g (A0 _)⟩
 have b0:(x==0)=false:=by simp[x0]
 by_cases x1:x=1
 ·subst x1;go_wp2_with fail
  refine(OV b (Z+12) _ n (by omega)).mono ?_;rintro e w3 ⟨⟨X,rfl⟩,f,a⟩;have c:=O (d.trans a.gr);have q:=O f;have E:∀o,w3.cell? (G w1.heap.size o)=(w1.alloc (.cells #[J kind,J num,F9 Ae,.string s,J ref] 43)).cell? (G w1.heap.size o):=fun o=>(a.cell w1.heap.size o r).trans (C o)
  have t:∀o,w3.frozen? (G w1.heap.size o)=(w1.alloc (.cells #[J kind,J num,F9 Ae,.string s,J ref] 43)).frozen? (G w1.heap.size o):=fun o=>(a.frozen w1.heap.size o r).trans (j o)
  clear f a C j;have rc:∀o,w3.cell? (G w.heap.size o)=(w.alloc (.cells #[J 0,J 0,F9 0,E9,J 0] 43)).cell? (G w.heap.size o):=fun o=>c.cell w.heap.size o n0 (by simp)
  have rf:∀o,w3.frozen? (G w.heap.size o)=(w.alloc (.cells #[J 0,J 0,F9 0,E9,J 0] 43)).frozen? (G w.heap.size o):=fun o=>c.frozen w.heap.size o n0 (by simp)
  go_wp2_with fail
  have g:=A5 ((DD w.heap.size w3).setCell (p:=(G w1.heap.size 1)) (by simp;omega) (J X)) w.heap.size (A0 _) (J kind) (J X) (F9 Ae) (.string s) (J ref);exact DO (v:=V kind X Ae s ref) (by simp[results,Tryz.results136,go_sem,rc]) rfl ⟨⟨kind,X,Ae,s,ref,rfl,l,hf⟩,(q.mono (by omega)).below g i,(k.trans c).AR g (A0 _)⟩
 have b1:(x==1)=false:=by simp[x1]
 by_cases x2:x=2
 ·subst x2;have rc:∀o,w2.cell? (G w.heap.size o)=(w.alloc (.cells #[J 0,J 0,F9 0,E9,J 0] 43)).cell? (G w.heap.size o):=fun o=>d.cell w.heap.size o n0 (by simp)
  have rf:∀o,w2.frozen? (G w.heap.size o)=(w.alloc (.cells #[J 0,J 0,F9 0,E9,J 0] 43)).frozen? (G w.heap.size o):=fun o=>d.frozen w.heap.size o n0 (by simp)
  go_wp2_with fail
  have g:=A5 ((DD w.heap.size w2).setCell (p:=(G w1.heap.size 2)) (by simp;omega) (F9 13826050856027422720)) w.heap.size (A0 _) (J kind) (J num) (F9 13826050856027422720) (.string s) (J ref);exact DO (v:=V kind num 13826050856027422720 s ref) (by simp[results,Tryz.results136,go_sem,rc]) rfl ⟨⟨kind,num,13826050856027422720,s,ref,rfl,l,by decide⟩,(n.mono (by omega)).below g i,(k.trans d).AR g (A0 _)⟩
 have b2:(x==2)=false:=by simp[x2]
 by_cases Q:x=3
 ·subst Q;go_wp2_with fail
  refine(Ax b (Z+12) 3 _ n (by omega) (by omega) (by omega)).mono ?_;rintro e w3 ⟨⟨X,rfl,M,P⟩,f,a⟩;have c:=O (d.trans a.gr);have q:=O f;have E:∀o,w3.cell? (G w1.heap.size o)=(w1.alloc (.cells #[J kind,J num,F9 Ae,.string s,J ref] 43)).cell? (G w1.heap.size o):=fun o=>(a.cell w1.heap.size o r).trans (C o)
  have t:∀o,w3.frozen? (G w1.heap.size o)=(w1.alloc (.cells #[J kind,J num,F9 Ae,.string s,J ref] 43)).frozen? (G w1.heap.size o):=fun o=>(a.frozen w1.heap.size o r).trans (j o)
  clear f a C j;have rc:∀o,w3.cell? (G w.heap.size o)=(w.alloc (.cells #[J 0,J 0,F9 0,E9,J 0] 43)).cell? (G w.heap.size o):=fun o=>c.cell w.heap.size o n0 (by simp)
  have rf:∀o,w3.frozen? (G w.heap.size o)=(w.alloc (.cells #[J 0,J 0,F9 0,E9,J 0] 43)).frozen? (G w.heap.size o):=fun o=>c.frozen w.heap.size o n0 (by simp)
  go_wp2_with fail
  have g:=A5 ((DD w.heap.size w3).setCell (p:=(G w1.heap.size 4)) (by simp;omega) (J (X-1))) w.heap.size (A0 _) (J kind) (J num) (F9 Ae) (.string s) (J (X-1));exact DO (v:=V kind num Ae s (X-1)) (by simp[results,Tryz.results136,go_sem,rc]) rfl ⟨⟨kind,num,Ae,s,(X-1),rfl,l,hf⟩,(q.mono (by omega)).below g i,(k.trans c).AR g (A0 _)⟩
 have b3:(x==3)=false:=by simp[Q]
 have rc:∀o,w2.cell? (G w.heap.size o)=(w.alloc (.cells #[J 0,J 0,F9 0,E9,J 0] 43)).cell? (G w.heap.size o):=fun o=>d.cell w.heap.size o n0 (by simp)
 have rf:∀o,w2.frozen? (G w.heap.size o)=(w.alloc (.cells #[J 0,J 0,F9 0,E9,J 0] 43)).frozen? (G w.heap.size o):=fun o=>d.frozen w.heap.size o n0 (by simp)
 go_wp2_with fail
 have g:=A5 (DD w.heap.size w2) w.heap.size (A0 _) (J kind) (J num) (F9 Ae) (.string s) (J ref);exact DO (v:=V kind num Ae s ref) (by simp[results,Tryz.results136,go_sem,rc]) rfl ⟨⟨kind,num,Ae,s,ref,rfl,l,hf⟩,(n.mono (by omega)).below g i,(k.trans d).AR g (A0 _)⟩
theorem GG(n:Int)(w:Y):
  C9 238 #[J n] w (R9 (V 2 n 0 ⟨#[]⟩ 0) w):=by
 go_enter Tryz.func238,Tryz.ntmps238
 go_wp2;exact DO (v:=V 2 n 0 ⟨#[]⟩ 0) (by simp[results,go_sem]) rfl ⟨rfl,n9⟩
theorem fC(kind num:Int)(Ae:Nat)(s:ByteArray)(ref:Int)(w:Y)(a:AB kind num Ae s ref=false):
  C9 204 #[V kind num Ae s ref] w (R9 (KV 2 0 0 0 ⟨#[]⟩ 0) w):=by
 go_enter Tryz.func204,Tryz.ntmps204
 go_wp2_with (go_at_call 150;refine m9 (BK kind num Ae s ref _) fun w1 hb=>?_;rw[a];obtain⟨hc,hf⟩:=AJ hb;have hz:=hb.size;simp at hz)
 exact DO (v:=KV 2 0 0 0 ⟨#[]⟩ 0) (by simp[results,Tryz.results204,go_sem,hc]) rfl ⟨rfl,BQ (CS (A0 _) hb) _ (by omega) _ _ _ _ _ _⟩
theorem fD(num:Int)(Ae:Nat)(s:ByteArray)(ref:Int)(w:Y)(a:AB 0 num Ae s ref=true):
  C9 204 #[V 0 num Ae s ref] w (R9 (KV 1 0 0 0 ⟨#[]⟩ 0) w):=by
 go_enter Tryz.func204,Tryz.ntmps204
 go_wp2_with (go_at_call 150;refine m9 (BK 0 num Ae s ref _) fun w1 hb=>?_;rw[a];obtain⟨hc,hf⟩:=AJ hb;have hz:=hb.size;simp at hz)
 exact DO (v:=KV 1 0 0 0 ⟨#[]⟩ 0) (by simp[results,Tryz.results204,go_sem,hc]) rfl ⟨rfl,BQ (CS (A0 _) hb) _ (by omega) _ _ _ _ _ _⟩
theorem fF(num:Int)(Ae:Nat)(s:ByteArray)(ref:Int)(w:Y)(a:AB 3 num Ae s ref=true)(hn:Ea Ae=true):
  C9 204 #[V 3 num Ae s ref] w (R9 (KV 1 0 0 0 ⟨#[]⟩ 0) w):=by
 have g1:(O9 Ae Ae !=some .eq)=true:=hn;clear hn
 go_enter Tryz.func204,Tryz.ntmps204
 go_wp2_with (first|(go_at_call 150;refine m9 (BK 3 num Ae s ref _) fun w1 hb=>?_;rw[a];obtain⟨hc,hf⟩:=AJ hb;have hz:=hb.size;simp at hz)|(go_at_call 236;go_in))
 exact DO (v:=KV 1 0 0 0 ⟨#[]⟩ 0) (by simp[results,Tryz.results204,go_sem,hc]) rfl ⟨rfl,BQ (CS (A0 _) hb) _ (by omega) _ _ _ _ _ _⟩
theorem fI(kind num:Int)(Ae:Nat)(s:ByteArray)(ref:Int)(w:Y)(a:AB kind num Ae s ref=true)(b:(kind==0)=false)(h3:(kind==3)=false):
  C9 204 #[V kind num Ae s ref] w (R9 (KV 0 kind num Ae s ref) w):=by
 go_enter Tryz.func204,Tryz.ntmps204
 go_wp2_with (go_at_call 150;refine m9 (BK kind num Ae s ref _) fun w1 hb=>?_;rw[a];obtain⟨hc,hf⟩:=AJ hb;have hz:=hb.size;simp at hz)
 exact DO (v:=KV 0 kind num Ae s ref) (by simp[results,Tryz.results204,go_sem,hc]) rfl ⟨rfl,BQ (CS (A0 _) hb) _ (by omega) _ _ _ _ _ _⟩
theorem fH(num:Int)(Ae:Nat)(s:ByteArray)(ref:Int)(w:Y)(b:AB 3 num Ae s ref=true)(hn:Ea Ae=false)(a:B2 Ae=false):
  C9 204 #[V 3 num Ae s ref] w (R9 (KV 0 3 num Ae s ref) w):=by
 have g1:(O9 Ae Ae !=some .eq)=false:=hn;clear hn
 go_enter Tryz.func204,Tryz.ntmps204
 go_wp2_with (first|(go_at_call 150;refine m9 (BK 3 num Ae s ref _) fun w1 hb=>?_;rw[b];obtain⟨hc,hf⟩:=AJ hb;have hz:=hb.size;simp at hz)|(go_at_call 236;go_in)|(go_at_call 237;refine(K3 Ae _).mono ?_;rintro e w2 ⟨rfl,rfl⟩;rw[a]))
 exact DO (v:=KV 0 3 num Ae s ref) (by simp[results,Tryz.results204,go_sem,hc]) rfl ⟨rfl,BQ (CS (A0 _) hb) _ (by omega) _ _ _ _ _ _⟩
theorem fG(num:Int)(Ae:Nat)(s:ByteArray)(ref:Int)(w:Y)(f:AB 3 num Ae s ref=true)(hn:Ea Ae=false)(b:B2 Ae=true):
  C9 204 #[V 3 num Ae s ref] w (R9 (KV 0 2 (Lm Ae) 0 ⟨#[]⟩ 0) w):=by
 have g1:(O9 Ae Ae !=some .eq)=false:=hn;have g:∀w:World,(convert 29 2 (F9 Ae)).run Tryz.prog w=.ok (J (Lm Ae)) w:=by
  unfold B2 at b;simp only[OR]at b;exact Oc b.1.1 b.1.2
 clear hn;generalize Lm Ae=n at*
 go_enter Tryz.func204,Tryz.ntmps204
 go_wp2_with (first|(go_at_call 150;refine m9 (BK 3 num Ae s ref _) fun w1 hb=>?_;rw[f];obtain⟨hc,hf⟩:=AJ hb;have hz:=hb.size;simp at hz;have c:w.heap.size+1<w1.heap.size:=(by omega);have h:w.heap.size<w1.heap.size:=(by omega))|(go_at_call 236;go_in)|(go_at_call 237;refine(K3 Ae _).mono ?_;rintro e w2 ⟨rfl,rfl⟩;rw[b])|(go_at_call 238;refine m9 (GG n _) fun w3 a=>?_;obtain⟨d,i⟩:=AJ a;have j:=a.size))
 exact DO (v:=KV 0 2 n 0 ⟨#[]⟩ 0) (by simp[results,Tryz.results204,go_sem,hc,d,c]) rfl ⟨rfl,BQ ((CS (A0 _) hb).trans (a.mono (by omega))) _ (by omega) _ _ _ _ _ _⟩
theorem Hm(kind num:Int)(Ae:Nat)(s:ByteArray)(ref:Int)(w:Y):
  C9 204 #[V kind num Ae s ref] w (R9 (JD kind num Ae s ref) w):=by
 unfold JD;by_cases a:AB kind num Ae s ref=true
 ·rw[C3 a];by_cases d:kind=0
  ·subst d;rw[C3 rfl];exact fD num Ae s ref w a
  ·rw[Cs d];by_cases h3:kind=3
   ·subst h3;rw[C3 rfl];by_cases hn:Ea Ae=true
    ·rw[C3 hn];exact fF num Ae s ref w a hn
    ·rw[Cs hn];have b:Ea Ae=false:=by simpa using hn
     by_cases c:B2 Ae=true
     ·rw[C3 c];exact fG num Ae s ref w a b c
     ·rw[Cs c];exact fH num Ae s ref w a b (by simpa using c)
   ·rw[Cs h3];exact fI kind num Ae s ref w a (by simp[d]) (by simp[h3])
 ·rw[Cs a];exact fC kind num Ae s ref w (by simpa using a)
end
section
open Go.RowKit
structure Pr where
 key:Vl
 val:Vl
 turn:Int
instance:Inhabited Pr:=⟨⟨default,default,0⟩⟩
def Eb(p:Pr):List Value:=[J p.key.kind,J p.key.num,F9 p.key.Ae,.string p.key.str,J p.key.ref,J p.val.kind,J p.val.num,F9 p.val.Ae,.string p.val.str,J p.val.ref,J p.turn]
abbrev PV(p:Pr):Value:=.agg #[J p.key.kind,J p.key.num,F9 p.key.Ae,.string p.key.str,J p.key.ref,J p.val.kind,J p.val.num,F9 p.val.Ae,.string p.val.str,J p.val.ref,J p.turn]
structure Hf (w:Y) (b o:Nat) (p:Pr):Prop where
 k0:w.cell? (G b o)=some (J p.key.kind)
 k1:w.cell? (G b (o+1))=some (J p.key.num)
 k2:w.cell? (G b (o+2))=some (F9 p.key.Ae)
 k3:w.cell? (G b (o+3))=some (.string p.key.str)
 k4:w.cell? (G b (o+4))=some (J p.key.ref)
 v0:w.cell? (G b (o+5))=some (J p.val.kind)
 v1:w.cell? (G b (o+6))=some (J p.val.num)
 v2:w.cell? (G b (o+7))=some (F9 p.val.Ae)
 v3:w.cell? (G b (o+8))=some (.string p.val.str)
 v4:w.cell? (G b (o+9))=some (J p.val.ref)
 tn:w.cell? (G b (o+10))=some (J p.turn)
theorem Hf.of{w:Y}{b o:Nat}{p:Pr}(h:∀j u,(Eb p)[j]?=some u->w.cell? (G b (o+j))=some u):Hf w b o p:=
 ⟨h 0 _ rfl,h 1 _ rfl,h 2 _ rfl,h 3 _ rfl,h 4 _ rfl,h 5 _ rfl,h 6 _ rfl,h 7 _ rfl,h 8 _ rfl,h 9 _ rfl,h 10 _ rfl⟩
theorem Hf.keep{w w':Y}{b o:Nat}{p:Pr}(h:Hf w b o p)(e:∀q,w'.cell? (G b q)=w.cell? (G b q)):Hf w' b o p:=
 ⟨(e _).trans h.k0,(e _).trans h.k1,(e _).trans h.k2,(e _).trans h.k3,(e _).trans h.k4,(e _).trans h.v0,(e _).trans h.v1,(e _).trans h.v2,(e _).trans h.v3,(e _).trans h.v4,(e _).trans h.tn⟩
def O0(w:Y)(a:T9)(n:Nat)(f:Nat->Pr):Prop:=
 n=0\/∃b off,a=some (G b off)/\b<w.heap.size/\∀i,i<n->Hf w b (off+i*11) (f i)
def V5(w:Y)(a:T9)(n:Nat)(f:Nat->Int):Prop:=
 n=0\/∃b off,a=some (G b off)/\b<w.heap.size/\∀i,i<n->w.cell? (G b (off+i))=some (J (f i))
theorem O0.below{w w':Y}{B:Nat}{a:Option Addr}{n:Nat}{f:Nat->Pr}(h:O0 w a n f)(hb:Below B w w')(d:B=w.heap.size):O0 w' a n f:=by
 subst d;rcases h with h|⟨b,off,e,c,hc⟩
 ·exact .inl h
 ·exact .inr ⟨b,off,e,Be c hb.size,fun i hi=>(hc i hi).keep (fun q=>hb.cell (p:=(G b q)) c)⟩
theorem V5.below{w w':Y}{B:Nat}{a:Option Addr}{n:Nat}{f:Nat->Int}(h:V5 w a n f)(hb:Below B w w')(d:B=w.heap.size):V5 w' a n f:=by
 subst d;rcases h with h|⟨b,off,e,c,hc⟩
 ·exact .inl h
 ·exact .inr ⟨b,off,e,Be c hb.size,fun i hi=>(hb.cell (p:=(G b (off+i))) c).trans (hc i hi)⟩
structure Dc where
 n:Nat
 L:Nat->Pr
 m:Nat
 I:Nat->Int
 x:Nat
 X:Nat->Int
 used:Int
 live:Int
 turns:Int
abbrev Dv(la:T9)(lc:Nat)(ia:T9)(ic:Nat)(xa:T9)(xc:Nat)(d:Dc):Value:=.agg #[.slice la d.n lc,.slice ia d.m ic,.slice xa d.x xc,J d.used,J d.live,J d.turns]
structure Gy (w:Y) (la ia xa:T9) (d:Dc):Prop where
 log:O0 w la d.n d.L
 ints:V5 w ia d.m d.I
 index:V5 w xa d.x d.X
theorem Gy.below{w w':Y}{la ia xa:Option Addr}{d:Dc}(h:Gy w la ia xa d)(hb:B9 w w'):Gy w' la ia xa d:=⟨h.log.below hb rfl,h.ints.below hb rfl,h.index.below hb rfl⟩
structure Small (d:Dc):Prop where
 n:d.n<=4194304
 m:d.m<=4194304
 x:d.x<=4194304
open Classical in
noncomputable def tells(p:Prop):Bool:=if p then true else false
theorem Bl{p:Prop}(h:p):tells p=true:=C3 h
theorem Bj{p:Prop}(h:¬p):tells p=false:=Cs h
def Gl(v:Vl):Bool:=v.kind==0&&v.ok
def Db(v:Vl):Bool:=v.ok&&v.kind !=0&&!(v.kind==3&&(Ea v.Ae||B2 v.Ae))
def OD(turns last:Int)(p:Pr):Bool:=decide (last<p.turn)&&decide (p.turn<=turns)&&Db p.key&&p.val.ok&&p.val.kind !=0
def Dw(d:Dc):Nat->Option (Int×Int)
 |0=>some (0,0)
 |k+1=>match Dw d k with
  |none=>none
  |some (live,last)=>if(d.L k).turn=0 then(if Gl (d.L k).key&&Gl (d.L k).val then some (live,last)else none)else if OD d.turns last (d.L k)then some (live+1,(d.L k).turn)else none
theorem Sl{d:Dc}{k:Nat}(h:Dw d k=none):∀j,Dw d (k+j)=none:=by
 intro j
 induction j with
 |zero=>exact h
 |succ j ih=>show(match Dw d (k+j)with|none=>none|some (live,last)=>_)=none;rw[ih]
theorem K6{d:Dc}{k n:Nat}(h:Dw d k=none)(hk:k<=n):Dw d n=none:=by
 have:=Sl h (n-k)
 rwa [show k+(n-k)=n by omega]at this
def D1(d:Dc):Prop:=0<=d.live/\d.live<=500/\0<=d.turns/\d.turns<=1000000000000/\((d.n:Int)<=8\/(d.n:Int)<=2*d.live)
def D2(d:Dc):Prop:=∃last,Dw d d.n=some (d.live,last)
abbrev Dc.at(d:Dc)(p:Int):Pr:=d.L (p-1).toNat
def Hr(d:Dc)(i:Nat):Prop:=d.I i=0\/(0<d.I i/\d.I i<=d.n/\(d.at (d.I i)).turn≠0/\(d.at (d.I i)).key.kind=2/\(d.at (d.I i)).key.num=i+1)
def D3(d:Dc):Prop:=(∀i,i<d.m->Hr d i)/\(d.m=0\/0<d.I (d.m-1))
def AH(m:Nat)(k:Vl):Prop:=k.kind=2/\1<=k.num/\k.num<=m
def Sr(d:Dc)(j:Nat):Prop:=d.X j=0\/d.X j=-1\/(0<d.X j/\d.X j<=d.n/\(d.at (d.X j)).turn≠0/\¬AH d.m (d.at (d.X j)).key)
def Ev(d:Dc):Nat->Nat
 |0=>0
 |k+1=>if d.X k=0 then Ev d k else Ev d k+1
def Rv(x:Nat):Prop:=∃k,x=2^k
def D4(d:Dc):Prop:=(d.x=0\/(8<=d.x/\d.x<=4000/\Rv d.x))/\(∀j,j<d.x->Sr d j)/\(Ev d d.x:Int)=d.used/\2*Ev d d.x<=d.x
def EM(f:Nat->Int)(i:Nat):Nat->Nat
 |0=>0
 |k+1=>if f k=(i:Int)+1 then EM f i k+1 else EM f i k
end
section
open Go.RowKit
attribute [local go_sem] AA Aw
def pL(f:Nat->Pr):Nat->List Value
 |0=>[]
 |k+1=>pL f k++Eb (f k)
theorem DZ(f:Nat->Pr)(n:Nat):(pL f n).length=n*11:=by
 induction n with
 |zero=>rfl
 |succ n ih=>simp[pL,ih,Eb];omega
theorem Kq{f:Nat->Pr}{n i j:Nat}(hi:i<n)(hj:j<11):(pL f n)[i*11+j]?=(Eb (f i))[j]?:=by
 induction n with
 |zero=>omega
 |succ n ih=>
  show(pL f n++Eb (f n))[i*11+j]?=_;by_cases h:i<n
  ·rw[PC (by rw[DZ];omega),ih h]
  ·have:i=n:=by omega
   subst this;rw[TO (by rw[DZ];omega),DZ,show i*11+j-i*11=j by omega]
def iL(f:Nat->Int):Nat->List Value
 |0=>[]
 |k+1=>iL f k++[J (f k)]
theorem Cr(f:Nat->Int)(n:Nat):(iL f n).length=n:=by
 induction n with
 |zero=>rfl
 |succ n ih=>simp[iL,ih]
theorem GF{f:Nat->Int}{n i:Nat}(hi:i<n):(iL f n)[i]?=some (J (f i)):=by
 induction n with
 |zero=>omega
 |succ n ih=>
  show(iL f n++[J (f n)])[i]?=_;by_cases h:i<n
  ·rw[PC (by rw[Cr];omega),ih h]
  ·have:i=n:=by omega
   subst this;rw[TO (by rw[Cr];omega),Cr];simp
abbrev Ci(w:Y)(base:Nat)(v:V9)(n:Nat)(f:Nat->Pr):Prop:=w.ownsRow base 96 11 v n (pL f n)
abbrev DG(w:Y)(base:Nat)(v:V9)(n:Nat)(f:Nat->Int):Prop:=w.ownsRow base 3 1 v n (iL f n)
theorem Ci.at{w:Y}{base:Nat}{v:V9}{n:Nat}{f:Nat->Pr}(h:Ci w base v n f):∃a d,v=.slice a n d/\O0 w a n f:=by
 have h':=h;obtain⟨hl,⟨b,e⟩|⟨g,cap,cur,b,hb,c,h1,h2,h3,h4⟩⟩:=h'
 ·subst b e;exact⟨none,0,rfl,.inl rfl⟩
 ·subst b;refine⟨_,_,rfl,.inr ⟨g,0,rfl,(h.lt g rfl).2,fun i hi=>Hf.of fun j u hu=>?_⟩⟩;have hj:j<11:=by
   have:=(On.1 hu).1;simpa[Eb]using this
  rw[Aaa,I9 h _ (by omega),Kq hi hj,hu]
abbrev PZ:Value:=.agg #[J 0,J 0,F9 0,E9,J 0,J 0,J 0,F9 0,E9,J 0,J 0]
theorem Gi:(Tryz.prog.info? 96).map (fun i=>(i.zero,i.size,i.bytes))=some (some PZ,11,104):=by kernel_rfl
theorem TG:(Tryz.prog.info? 3).map (fun i=>(i.zero,i.size,i.bytes))=some (some (J 0),1,8):=by kernel_rfl
theorem Er(p:Pr):∀u∈Eb p,u.oneCell'=true:=by
 intro u hu;simp only[Eb,Aau,Aaq,or_false]at hu;rcases hu with rfl|rfl|rfl|rfl|rfl|rfl|rfl|rfl|rfl|rfl|rfl<;>rfl
theorem Ab{w:Y}{b o o':Nat}{v:V9}(h:o≠o'):(w.setCell (G b o) v).cell? (G b o')=w.cell? (G b o'):=by
 apply World.cell?_setCell_other;intro e;cases e;exact h rfl
theorem AX{w:Y}{b b' o o':Nat}{v:V9}(h:b≠b'):(w.setCell (G b o) v).cell? (G b' o')=w.cell? (G b' o'):=by
 apply World.cell?_setCell_other;intro e;cases e;exact h rfl
theorem DI(w:Y)(a:Addr)(v:V9):w.grownBy (w.setCell a v) (some a.block):=⟨rfl,rfl,rfl,by simp,fun k _ Cy=>At _ _ _ _ (fun e=>Cy (by rw[e]))⟩
theorem KT{w w':Y}{v:V9}{B:Nat}(a:w.grownBy w' v.ownBlock)(b:∀q,v.ownBlock=some q->B<=q)(c:B<=w.heap.size):Below B w w':=
 ⟨a.os,a.tape,a.output,a.size,fun k hk=>a.block k (by omega) (fun e=>by have:=b k e.symm;omega)⟩
theorem DK{w:Y}{base a e size:Nat}{v:V9}{n:Nat}{xs:List Value}(h:w.ownsRow base e size v n xs)(hb:a<=base):w.ownsRow a e size v n xs:=by
 obtain⟨hl,h|⟨g,cap,cur,h1,h2,h3⟩⟩:=h
 ·exact⟨hl,.inl h⟩
 ·exact⟨hl,.inr ⟨g,cap,cur,h1,FZ hb h2,h3⟩⟩
theorem Gm{w w':Y}{base e size:Nat}{v:V9}{n:Nat}{xs:List Value}(h:w.ownsRow base e size v n xs)(hs:w.heap.size<=w'.heap.size)(hq:∀q,base<=q->q<w.heap.size->w'.heap[q]?=w.heap[q]?):w'.ownsRow base e size v n xs:=by
 obtain⟨hl,h|⟨g,cap,cur,h1,h2,h3,h4⟩⟩:=h
 ·exact⟨hl,.inl h⟩
 ·exact⟨hl,.inr ⟨g,cap,cur,h1,h2,(hq g h2 (E1.1 h3).1).trans h3,h4⟩⟩
theorem R8(v:Vl):(Db v=true/\JD v.kind v.num v.Ae v.str v.ref=KV 0 v.kind v.num v.Ae v.str v.ref)\/(Db v=false/\∃c k n f t r,JD v.kind v.num v.Ae v.str v.ref=KV c k n f t r/\(c≠0\/(v.kind=3/\k=2))):=by
 unfold JD Db Vl.ok;by_cases a:AB v.kind v.num v.Ae v.str v.ref=true
 ·rw[C3 a,a];by_cases b:v.kind=0
  ·rw[C3 b];right;exact⟨by simp[b],1,0,0,0,⟨#[]⟩,0,rfl,.inl (by decide)⟩
  ·rw[Cs b];by_cases h3:v.kind=3
   ·rw[C3 h3];by_cases hn:Ea v.Ae=true
    ·rw[C3 hn];right;exact⟨by simp[h3,hn],1,0,0,0,⟨#[]⟩,0,rfl,.inl (by decide)⟩
    ·rw[Cs hn];by_cases d:B2 v.Ae=true
     ·rw[C3 d];right;exact⟨by simp[h3,d],0,2,Lm v.Ae,0,⟨#[]⟩,0,rfl,.inr ⟨h3,rfl⟩⟩
     ·rw[Cs d];left;exact⟨by simp[h3,hn,d],rfl⟩
   ·rw[Cs h3];left;exact⟨by simp[b,h3],rfl⟩
 ·rw[Cs a];right;have:AB v.kind v.num v.Ae v.str v.ref=false:=by simpa using a
  exact⟨by rw[this];rfl,2,0,0,0,⟨#[]⟩,0,rfl,.inl (by decide)⟩
theorem Jg{d:Dc}{k:Nat}{live last:Int}(h:Dw d k=some (live,last))(a:(d.L k).turn=0):Dw d (k+1)=if Gl (d.L k).key&&Gl (d.L k).val then some (live,last)else none:=by
 show(match Dw d k with|none=>none|some (live,last)=>_)=_;rw[h];simp only[a,Aaz]
theorem Jh{d:Dc}{k:Nat}{live last:Int}(h:Dw d k=some (live,last))(a:(d.L k).turn≠0):Dw d (k+1)=if OD d.turns last (d.L k)then some (live+1,(d.L k).turn)else none:=by
 show(match Dw d k with|none=>none|some (live,last)=>_)=_;rw[h];simp only[a,X9]
theorem cP{d:Dc}{k:Nat}(hk:k<d.n)(h:Dw d (k+1)=none):tells (D2 d)=false:=Bj (fun⟨l,e⟩=>by rw[K6 h (by omega)]at e;cases e)
def Entry(d:Dc)(i:Nat):Prop:=((d.L i).turn=0/\Gl (d.L i).key=true/\Gl (d.L i).val=true)\/(0<(d.L i).turn/\(d.L i).turn<=d.turns/\Db (d.L i).key=true/\(d.L i).val.ok=true/\(d.L i).val.kind≠0)
theorem NF{d:Dc}:∀(k:Nat) {live last:Int},Dw d k=some (live,last)->0<=last/\∀i,i<k->Entry d i:=by
 intro k
 induction k with
 |zero=>intro live last h;simp[Dw]at h;exact⟨by omega,fun i hi=>by omega⟩
 |succ k ih=>
  intro live last h;cases hk:Dw d k with
  |none=>rw[K6 hk (by omega)]at h;cases h
  |some x=>
   obtain⟨l0,t0⟩:=x;obtain⟨b,i2⟩:=ih hk;by_cases a:(d.L k).turn=0
   ·rw[Jg hk a]at h
    split at h
    ·next hn=>
     simp only[Option.some.injEq,Prod.mk.injEq]at h;refine⟨by omega,fun i hi=>?_⟩;by_cases e:i=k
     ·subst e;left;simpa[a]using hn
     ·exact i2 i (by omega)
    ·cases h
   ·rw[Jh hk a]at h
    split at h
    ·next hn=>
     simp only[Option.some.injEq,Prod.mk.injEq]at h;unfold OD at hn;simp at hn;refine⟨by omega,fun i hi=>?_⟩;by_cases e:i=k
     ·subst e;right;exact⟨by omega,hn.1.1.1.2,hn.1.1.2,hn.1.2,hn.2⟩
     ·exact i2 i (by omega)
    ·cases h
theorem D2.entry{d:Dc}(h:D2 d){i:Nat}(hi:i<d.n):Entry d i:=by
 obtain⟨l,e⟩:=h;exact(NF d.n e).2 i hi
theorem D2.pos{d:Dc}(h:D2 d){i:Nat}(hi:i<d.n)(a:(d.L i).turn≠0):0<(d.L i).turn/\Db (d.L i).key=true:=by
 rcases h.entry hi with h|h
 ·exact absurd h.1 a
 ·exact⟨h.1,h.2.2.1⟩
def Cz(d:Dc)(i:Nat):Prop:=0<(d.L i).turn/\¬AH d.m (d.L i).key
theorem VK(d:Dc)(k:Nat):Ev d k<=k:=by
 induction k with
 |zero=>exact A0 _
 |succ k ih=>unfold Ev;split<;>omega
def aA(x:Nat):Prop:=x=0\/(8<=x/\x<=4000/\Rv x)
def Nx(a b:Nat):Bool:=O9 a b==some .eq
def Ap(a b:Vl):Bool:=a.kind==b.kind&&(a.num==b.num&&(Nx a.Ae b.Ae&&(a.str.toList==b.str.toList&&a.ref==b.ref)))
def probe(d:Dc)(v:Vl):Nat->Nat->Option Nat
 |_,0=>none
 |at0,f+1=>if d.X at0=0 then none else if 0<d.X at0/\Ap (d.at (d.X at0)).key v=true then some at0 else probe d v ((at0+1)%d.x) f
def Bi(d:Dc)(v:Vl)(h:Nat):Option Nat:=if d.x=0 then none else probe d v (h%d.x) d.x
def Hz:Option Nat->Int
 |none=>-1
 |some s=>s
def aL(d:Dc):Option Nat->Int
 |none=>-1
 |some s=>d.X s-1
open Classical in
noncomputable def AE(d:Dc)(v:Vl)(h:Nat):Int:=if AH d.m v then d.I (v.num-1).toNat-1 else aL d (Bi d v h)
theorem Jj{d:Dc}{v:Vl}{a f:Nat}(h:d.X a=0):probe d v a (f+1)=none:=C3 h
theorem Ks{d:Dc}{v:Vl}{a f:Nat}(h:0<d.X a)(hl:Ap (d.at (d.X a)).key v=true):probe d v a (f+1)=some a:=by
 show(if _ then _ else _)=_;rw[Cs (by omega),C3 ⟨h,hl⟩]
theorem GQ{d:Dc}{v:Vl}{a f:Nat}(h:d.X a≠0)(hl:¬(0<d.X a/\Ap (d.at (d.X a)).key v=true)):probe d v a (f+1)=probe d v ((a+1)%d.x) f:=by
 show(if _ then _ else _)=_;rw[Cs h,Cs hl]
theorem XI{d:Dc}{v:Vl}(hx:0<d.x):∀(f a s:Nat),a<d.x->probe d v a f=some s->s<d.x/\0<d.X s:=by
 intro f
 induction f with
 |zero=>intro a s _ h;cases h
 |succ f ih=>
  intro a s c h;by_cases b:d.X a=0
  ·rw[Jj b]at h;cases h
  ·by_cases hl:0<d.X a/\Ap (d.at (d.X a)).key v=true
   ·rw[Ks hl.1 hl.2]at h;cases h;exact⟨c,hl.1⟩
   ·rw[GQ b hl]at h;exact ih _ _ (Aae _ hx) h
theorem OL{d:Dc}{v:Vl}{h s:Nat}(e:Bi d v h=some s):s<d.x/\0<d.X s:=by
 unfold Bi at e
 split at e
 ·cases e
 ·exact XI (by omega) _ _ _ (Aae _ (by omega)) e
end
section
open Go.RowKit
attribute [local go_sem] AA Aw
def D5(d:Dc)(H:Nat->Nat):Prop:=∀i,i<d.n->(d.L i).turn≠0->EM d.I i d.m+EM d.X i d.x=1/\AE d (d.L i).key (H i)=i/\¬((d.L i).key.kind=2/\(d.L i).key.num=(d.m:Int)+1)
theorem Ow(n:Nat)(hn:n<=4194304)(w:Y):
  (Instr.makeSlice 90 (J (n:Int)) (J (n:Int))).run Tryz.prog w=.ok (S9 w.heap.size n n) (w.alloc (.cells (madeCells (Value.int .i64 0).cells n) 3)):=by
 obtain⟨i,hi,hz,hs,hb⟩:=Tn TG;have:=run_make (P:=Tryz.prog) w 90 3 i _ Tryz.underlying90 hi hz .i64 .i64 n n (by omega) (AaC _) (by rw[hb];omega) (by omega);simp only[Lo,hs,Nat.mul_one]at this;exact this
theorem Sm(w:Y)(n:Nat):(w.alloc (.cells (madeCells (Value.int .i64 0).cells n) 3)).rowIs w.heap.size 3 n (fun _=>J 0):=by
 have h:=AaK w (madeCells (Value.int .i64 0).cells n) 3 (fun _=>J 0) (fun i hi=>by
  rw[size_madeCells]at hi;unfold madeCells;simp[Value.cells,hi,Nat.mod_one])
 rw[size_madeCells]at h;exact h
theorem RI(f:Nat->Int)(i k:Nat):EM f i k<=k:=by
 induction k with
 |zero=>exact A0 _
 |succ k ih=>unfold EM;split<;>omega
def BP(w:Y)(b n:Nat)(g:Nat->Nat):Prop:=∃h,w.rowIs b 3 n h/\∀j,j<n->h j=J (g j)
theorem BP.cell{w:Y}{b n:Nat}{g:Nat->Nat}(h:BP w b n g){j:Nat}(hj:j<n):w.cell? (G b j)=some (J (g j)):=by
 obtain⟨c,a,hg⟩:=h;rw[a.cell hj,hg j hj]
theorem BP.frozen{w:Y}{b n:Nat}{g:Nat->Nat}(h:BP w b n g)(j:Nat):w.frozen? (G b j)=false:=by
 obtain⟨c,a,hg⟩:=h;exact a.frozen j
theorem BP.lt{w:Y}{b n:Nat}{g:Nat->Nat}(h:BP w b n g):b<w.heap.size:=by
 obtain⟨c,a,hg⟩:=h;exact a.lt
theorem BP.below{w w':Y}{b n:Nat}{g:Nat->Nat}(h:BP w b n g)(hb:B9 w w'):BP w' b n g:=by
 obtain⟨c,a,hg⟩:=h;exact⟨c,a.of_block (hb.block b a.lt),hg⟩
theorem BP.bump{w:Y}{b n q:Nat}{g:Nat->Nat}(h:BP w b n g):BP (w.setCell (G b q) (J ((g q:Int)+1))) b n (fun j=>if j=q then g q+1 else g j):=by
 obtain⟨c,a,hg⟩:=h;refine⟨_,a.set q _,fun j hj=>?_⟩;by_cases e:j=q
 ·subst e;simp
 ·simp only[e,X9];exact hg j hj
theorem BP.congr{w:Y}{b n:Nat}{g g':Nat->Nat}(h:BP w b n g)(e:∀j,j<n->g' j=g j):BP w b n g':=by
 obtain⟨a,c,hg⟩:=h;exact⟨a,c,fun j hj=>by rw[e j hj];exact hg j hj⟩
end
section
open Go.RowKit
attribute [local go_sem] AA Aw
open Classical in
noncomputable def CE(d:Dc)(H:Nat->Nat):Int:=
 if D1 d then if D2 d then if D3 d then if D4 d then if D5 d H then 0 else 5 else 4 else 3 else 2 else 1
theorem YQ{d:Dc}{H:Nat->Nat}(h1:D1 d)(h2:D2 d)(h3:D3 d)(h4:D4 d)(h:D5 d H):CE d H=0:=by unfold CE;rw[C3 h1,C3 h2,C3 h3,C3 h4,C3 h]
structure Sound (d:Dc) (H:Nat->Nat):Prop where
 d1:D1 d
 d2:D2 d
 d3:D3 d
 d4:D4 d
 d5:D5 d H
theorem JW{d:Dc}{H:Nat->Nat}(h:CE d H=0):Sound d H:=by
 unfold CE at h
 split at h
 ·next h1=>
  split at h
  ·next h2=>
   split at h
   ·next h3=>
    split at h
    ·next h4=>
     split at h
     ·next h5=>exact⟨h1,h2,h3,h4,h5⟩
     ·cases h
    ·cases h
   ·cases h
  ·cases h
 ·cases h
theorem Sound.zero{d:Dc}{H:Nat->Nat}(h:Sound d H):CE d H=0:=YQ h.d1 h.d2 h.d3 h.d4 h.d5
end
section
open Go.RowKit
attribute [local go_sem] AA Aw
theorem Cl{P:Program}{w:Y}{a:Addr}{m:Mode}(f:Fn)(x Z:Array Value):(store a (.func f x Z) m).run P w=stored P w a (.func f x Z) m:=run_store P w a _ m rfl
attribute [local go_sem] Cl
structure Gz (R:Nat) (u w:Y):Prop where
 os:w.os=u.os
 tape:w.tape=u.tape
 output:w.output=u.output
 size:u.heap.size<=w.heap.size
 block:∀q,q<u.heap.size->q≠R->w.heap[q]?=u.heap[q]?
theorem Gz.refl(R:Nat)(u:Y):Gz R u u:=⟨rfl,rfl,rfl,A0 _,fun _ _ _=>rfl⟩
theorem Gz.trans{R:Nat}{a b c:Y}(h:Gz R a b)(h':Gz R b c):Gz R a c:=⟨h'.os.trans h.os,h'.tape.trans h.tape,h'.output.trans h.output,FZ h.size h'.size,fun q hq d=>(h'.block q (Be hq h.size) d).trans (h.block q hq d)⟩
theorem Gz.alloc{R:Nat}{a b:Y}(h:Gz R a b)(o:Obj):Gz R a (b.alloc o):=⟨h.os,h.tape,h.output,by simp;have:=h.size;omega,fun q hq c=>(Fs _ _ _ (Be hq h.size)).trans (h.block q hq c)⟩
theorem Gz.setCell{R:Nat}{a b:Y}(h:Gz R a b)(o:Nat)(v:V9):Gz R a (b.setCell (G R o) v):=⟨h.os,h.tape,h.output,by simpa using h.size,fun q hq c=>(At _ _ _ _ (by exact c)).trans (h.block q hq c)⟩
theorem Gz.drew{R:Nat}{a b:Y}(h:Gz R a b):Gz R a b.drew:=⟨h.os,h.tape,h.output,h.size,h.block⟩
theorem Gz.cell{R:Nat}{a b:Y}(h:Gz R a b){q o:Nat}(hq:q<a.heap.size)(c:q≠R):b.cell? (G q o)=a.cell? (G q o):=As (h.block q hq c)
theorem Gz.frozen{R:Nat}{a b:Y}(h:Gz R a b){q o:Nat}(hq:q<a.heap.size)(c:q≠R):b.frozen? (G q o)=a.frozen? (G q o):=OK (h.block q hq c)
theorem Gz.below{R B:Nat}{a b:Y}(h:Gz R a b)(c:B<=a.heap.size)(d:B<=R):Below B a b:=⟨h.os,h.tape,h.output,h.size,fun k hk=>h.block k (by omega) (by omega)⟩
abbrev Fu(p:Pr)(i:Nat):Array Value:=#[J p.key.kind,J p.key.num,F9 p.key.Ae,.string p.key.str,J p.key.ref,J p.val.kind,J p.val.num,F9 p.val.Ae,.string p.val.str,J p.val.ref,J p.turn,J (i:Int)]
abbrev SH(v:Vl)(e:Nat):Array Value:=#[J v.kind,J v.num,F9 v.Ae,.string v.str,J v.ref,Q9 e,.bool false]
abbrev Qq:Array Value:=#[J 0,J 0,F9 0,E9,J 0,.pointer none,.bool true]
structure Bo (w:Y) (b:Nat) (p:Pr) (i:Nat):Prop where
 lt:b<w.heap.size
 k0:w.cell? (G b 0)=some (J p.key.kind)
 k1:w.cell? (G b 1)=some (J p.key.num)
 k2:w.cell? (G b 2)=some (F9 p.key.Ae)
 k3:w.cell? (G b 3)=some (.string p.key.str)
 k4:w.cell? (G b 4)=some (J p.key.ref)
 v0:w.cell? (G b 5)=some (J p.val.kind)
 v1:w.cell? (G b 6)=some (J p.val.num)
 v2:w.cell? (G b 7)=some (F9 p.val.Ae)
 v3:w.cell? (G b 8)=some (.string p.val.str)
 v4:w.cell? (G b 9)=some (J p.val.ref)
 tn:w.cell? (G b 10)=some (J p.turn)
 pl:w.cell? (G b 11)=some (J (i:Int))
 ob:w.heap[b]?=some (.cells (Fu p i) 294 (0,0))
theorem Bo.keep{w w':Y}{b:Nat}{p:Pr}{i:Nat}(h:Bo w b p i)(hs:w.heap.size<=w'.heap.size)(e:w'.heap[b]?=w.heap[b]?):Bo w' b p i:=by
 have e':∀o,w'.cell? (G b o)=w.cell? (G b o):=fun o=>As e
 exact⟨Be h.lt hs,(e' _).trans h.k0,(e' _).trans h.k1,(e' _).trans h.k2,(e' _).trans h.k3,(e' _).trans h.k4,(e' _).trans h.v0,(e' _).trans h.v1,(e' _).trans h.v2,(e' _).trans h.v3,(e' _).trans h.v4,(e' _).trans h.tn,(e' _).trans h.pl,e.trans h.ob⟩
theorem Bo.drew{w:Y}{b:Nat}{p:Pr}{i:Nat}(h:Bo w b p i):Bo w.drew b p i:=h.keep (A0 _) rfl
structure Ge (w:Y) (b:Nat) (v:Vl) (e:Nat):Prop where
 lt:b<w.heap.size
 k0:w.cell? (G b 0)=some (J v.kind)
 k1:w.cell? (G b 1)=some (J v.num)
 k2:w.cell? (G b 2)=some (F9 v.Ae)
 k3:w.cell? (G b 3)=some (.string v.str)
 k4:w.cell? (G b 4)=some (J v.ref)
 pt:w.cell? (G b 5)=some (Q9 e)
 gn:w.cell? (G b 6)=some (.bool false)
 ob:w.heap[b]?=some (.cells (SH v e) 333 (0,0))
theorem Ge.keep{w w':Y}{b:Nat}{v:Vl}{i:Nat}(h:Ge w b v i)(hs:w.heap.size<=w'.heap.size)(e:w'.heap[b]?=w.heap[b]?):Ge w' b v i:=by
 have e':∀o,w'.cell? (G b o)=w.cell? (G b o):=fun o=>As e
 exact⟨Be h.lt hs,(e' _).trans h.k0,(e' _).trans h.k1,(e' _).trans h.k2,(e' _).trans h.k3,(e' _).trans h.k4,(e' _).trans h.pt,(e' _).trans h.gn,e.trans h.ob⟩
def B1(E:Nat->Nat)(p:Int):Option Addr:=if 0<p then some (G (E (p-1).toNat) 0)else none
def Dd(S:Nat->Nat)(j:Nat)(p:Int):Option Addr:=if p=0 then none else some (G (S j) 0)
structure NT (w:Y) (b:Nat):Prop where
 lt:b<w.heap.size
 gn:w.cell? (G b 6)=some (.bool true)
 ob:w.heap[b]?=some (.cells Qq 333 (0,0))
theorem NT.keep{w w':Y}{b:Nat}(h:NT w b)(hs:w.heap.size<=w'.heap.size)(e:w'.heap[b]?=w.heap[b]?):NT w' b:=
 ⟨Be h.lt hs,(As (a:=(G b 6)) e).trans h.gn,e.trans h.ob⟩
def Dj(w:Y)(E S:Nat->Nat)(d:Dc)(j:Nat):Prop:=
 (0<d.X j->Ge w (S j) (d.at (d.X j)).key (E (d.X j-1).toNat))/\(d.X j<0->NT w (S j))
abbrev KY:Value:=.func (.func 247) #[] #[]
structure I0 (w:Y) (bk b c R2:Nat) (E S:Nat->Nat) (d:Dc):Prop where
 lt:bk<w.heap.size
 c0:∃a k,w.cell? (G bk 0)=some (.slice a d.n k)/\(0<d.n->a=some (G b 0))
 c1:∃k,w.cell? (G bk 1)=some (S9 c d.m k)
 c2:w.cell? (G bk 2)=some KY
 c3:w.cell? (G bk 3)=some (S9 R2 d.x d.x)
 c4:w.cell? (G bk 4)=some (J d.used)
 c5:w.cell? (G bk 5)=some (J d.live)
 c6:w.cell? (G bk 6)=some (J d.turns)
 r0:∀i,i<d.n->w.cell? (G b i)=some (Q9 (E i))
 Ca:∀i,i<d.n->Bo w (E i) (d.L i) i
 inj:∀i j,i<d.n->j<d.n->E i=E j->i=j
 r1:∀i,i<d.m->w.cell? (G c i)=some (.pointer (B1 E (d.I i)))
 r2:∀j,j<d.x->w.cell? (G R2 j)=some (.pointer (Dd S j (d.X j)))
 sl:∀j,j<d.x->Dj w E S d j
 l0:b<w.heap.size
 l1:c<w.heap.size
 l2:R2<w.heap.size
theorem I0.below{w w':Y}{bk c f R2:Nat}{E S:Nat->Nat}{d:Dc}(h:I0 w bk c f R2 E S d)(hb:B9 w w'):I0 w' bk c f R2 E S d:=by
 have e:∀q o,q<w.heap.size->w'.cell? (G q o)=w.cell? (G q o):=fun q o hq=>hb.cell (p:=(G q o)) hq
 refine⟨Be h.lt hb.size,by obtain⟨a,k,h1,h2⟩:=h.c0;exact⟨a,k,(e _ _ h.lt).trans h1,h2⟩,by obtain⟨k,h1⟩:=h.c1;exact⟨k,(e _ _ h.lt).trans h1⟩,(e _ _ h.lt).trans h.c2,(e _ _ h.lt).trans h.c3,(e _ _ h.lt).trans h.c4,(e _ _ h.lt).trans h.c5,(e _ _ h.lt).trans h.c6,fun i hi=>(e _ _ h.l0).trans (h.r0 i hi),fun i hi=>(h.Ca i hi).keep hb.size (hb.block _ (h.Ca i hi).lt),h.inj,fun i hi=>(e _ _ h.l1).trans (h.r1 i hi),fun i hi=>(e _ _ h.l2).trans (h.r2 i hi),fun j hj=>⟨fun b=>((h.sl j hj).1 b).keep hb.size (hb.block _ ((h.sl j hj).1 b).lt),fun b=>((h.sl j hj).2 b).keep hb.size (hb.block _ ((h.sl j hj).2 b).lt)⟩,Be h.l0 hb.size,Be h.l1 hb.size,Be h.l2 hb.size⟩
theorem Im:(Tryz.prog.info? 292).map (fun i=>(i.zero,i.size,i.bytes))=some (some (.pointer none),1,8):=by kernel_rfl
theorem Qx:(Tryz.prog.info? 331).map (fun i=>(i.zero,i.size,i.bytes))=some (some (.pointer none),1,8):=by kernel_rfl
theorem Ir{b a:TypeId}(hu:Tryz.prog.underlying b=some (.slice a))(hi:(Tryz.prog.info? a).map (fun i=>(i.zero,i.size,i.bytes))=some (some (.pointer none),1,8))(n:Nat)(hn:n<=4194304)(w:Y):
  (Instr.makeSlice b (J (n:Int)) (J (n:Int))).run Tryz.prog w=.ok (S9 w.heap.size n n) (w.alloc (.cells (madeCells (Value.pointer none).cells n) a)):=by
 obtain⟨i,hi,hz,hs,hb⟩:=Tn hi;have:=run_make (P:=Tryz.prog) w b a i _ hu hi hz .i64 .i64 n n (by omega) (AaC _) (by rw[hb];omega) (by omega);simp only[Lo,hs,Nat.mul_one]at this;exact this
theorem Ov(w:Y)(n:Nat)(a:TypeId):(w.alloc (.cells (madeCells (Value.pointer none).cells n) a)).rowIs w.heap.size a n (fun _=>.pointer none):=by
 have h:=AaK w (madeCells (Value.pointer none).cells n) a (fun _=>.pointer none) (fun i hi=>by
  rw[size_madeCells]at hi;unfold madeCells;simp[Value.cells,hi,Nat.mod_one])
 rw[size_madeCells]at h;exact h
def CD(w:Y)(R n:Nat)(a:TypeId)(f:Nat->Option Addr):Prop:=∃g,w.rowIs R a n g/\∀i,i<n->g i=.pointer (f i)
theorem CD.cell{w:Y}{R n:Nat}{a:TypeId}{f:Nat->Option Addr}(h:CD w R n a f){i:Nat}(hi:i<n):w.cell? (G R i)=some (.pointer (f i)):=by
 obtain⟨g,b,hg⟩:=h;rw[b.cell hi,hg i hi]
theorem CD.frozen{w:Y}{R n:Nat}{a:TypeId}{f:Nat->Option Addr}(h:CD w R n a f)(i:Nat):w.frozen? (G R i)=false:=by
 obtain⟨g,b,hg⟩:=h;exact b.frozen i
theorem CD.keep{w w':Y}{R n:Nat}{a:TypeId}{f:Nat->Option Addr}(h:CD w R n a f)(e:w'.heap[R]?=w.heap[R]?):CD w' R n a f:=by
 obtain⟨g,b,hg⟩:=h;exact⟨g,b.of_block e,hg⟩
theorem CD.set{w:Y}{R n q:Nat}{a:TypeId}{f:Nat->Option Addr}(h:CD w R n a f)(p:T9):CD (w.setCell (G R q) (.pointer p)) R n a (fun i=>if i=q then p else f i):=by
 obtain⟨g,b,hg⟩:=h;refine⟨_,b.set q _,fun i hi=>?_⟩;by_cases e:i=q
 ·subst e;simp
 ·simp only[e,X9];exact hg i hi
theorem CD.congr{w:Y}{R n:Nat}{a:TypeId}{f f':Nat->Option Addr}(h:CD w R n a f)(e:∀i,i<n->f' i=f i):CD w R n a f':=by
 obtain⟨g,b,hg⟩:=h;exact⟨g,b,fun i hi=>by rw[e i hi];exact hg i hi⟩
theorem Ur(w:Y)(p:Pr)(k:Nat):Bo (w.alloc (.cells (Fu p k) 294)) w.heap.size p k:=
 ⟨by simp,by simp[go_sem],by simp[go_sem],by simp[go_sem],by simp[go_sem],by simp[go_sem],by simp[go_sem],by simp[go_sem],by simp[go_sem],by simp[go_sem],by simp[go_sem],by simp[go_sem],by simp[go_sem],BE _ _⟩
structure Bk (w v:Y) (xa:T9) (xc:Nat) (d:Dc) (E:Nat->Nat) (s1 s2 a b:V9):Prop where
 below:B9 w v
 sz:w.heap.size+3<=v.heap.size
 a2:v.cell? (y w 2)=some (.slice xa d.x xc)
 a3:v.cell? (y w 3)=some (J d.used)
 b0:v.cell? (Y9 w 0)=some (S9 (w.heap.size+1+1) d.n d.n)
 b1:v.cell? (Y9 w 1)=some s1
 b2:v.cell? (Y9 w 2)=some s2
 b3:v.cell? (Y9 w 3)=some a
 b4:v.cell? (Y9 w 4)=some b
 b5:v.cell? (Y9 w 5)=some (J d.live)
 b6:v.cell? (Y9 w 6)=some (J d.turns)
 fz:∀o,v.frozen? (Y9 w o)=false
 ptr:CD v (w.heap.size+1+1) d.n 292 (fun i=>some (G (E i) 0))
 Ca:∀i,i<d.n->Bo v (E i) (d.L i) i/\w.heap.size+3<=E i
theorem Bk.jA{w v v':Y}{xa:Option Addr}{xc R:Nat}{d:Dc}{E:Nat->Nat}{s1 s2 b c:V9}(h:Bk w v xa xc d E s1 s2 b c)(a:Gz R v v')(f:w.heap.size+3<=R)(e:∀i,i<d.n->E i≠R):Bk w v' xa xc d E s1 s2 b c:=by
 have hz:=h.sz;have e0:∀o,v'.cell? (y w o)=v.cell? (y w o):=fun o=>a.cell (by omega) (by omega)
 have e1:∀o,v'.cell? (Y9 w o)=v.cell? (Y9 w o):=fun o=>a.cell (by omega) (by omega)
 exact⟨h.below.trans (a.below (by omega) (by omega)),FZ h.sz a.size,(e0 _).trans h.a2,(e0 _).trans h.a3,(e1 _).trans h.b0,(e1 _).trans h.b1,(e1 _).trans h.b2,(e1 _).trans h.b3,(e1 _).trans h.b4,(e1 _).trans h.b5,(e1 _).trans h.b6,fun o=>(a.frozen (by omega) (by omega)).trans (h.fz o),h.ptr.keep (a.block _ (by omega) (by omega)),fun i hi=>⟨(h.Ca i hi).1.keep a.size (a.block _ (h.Ca i hi).1.lt (e i hi)),(h.Ca i hi).2⟩⟩
theorem Bk.alloc{w v:Y}{xa:Option Addr}{xc:Nat}{d:Dc}{E:Nat->Nat}{s1 s2 a b:V9}(h:Bk w v xa xc d E s1 s2 a b)(o:Obj):Bk w (v.alloc o) xa xc d E s1 s2 a b:=
 h.jA (R:=v.heap.size) ((Gz.refl _ _).alloc o) h.sz (fun i hi=>Nat.ne_of_lt (h.Ca i hi).1.lt)
theorem Bk.PA{w v:Y}{xa:Option Addr}{xc o:Nat}{d:Dc}{E:Nat->Nat}{u s1 s2 f g a b c e:V9}(h:Bk w v xa xc d E s1 s2 f g)
  (g0:o≠0) (g5:o≠5) (g6:o≠6)
  (g1:(v.setCell (Y9 w o) u).cell? (Y9 w 1)=some a) (g2:(v.setCell (Y9 w o) u).cell? (Y9 w 2)=some b) (g3:(v.setCell (Y9 w o) u).cell? (Y9 w 3)=some c) (g4:(v.setCell (Y9 w o) u).cell? (Y9 w 4)=some e):Bk w (v.setCell (Y9 w o) u) xa xc d E a b c e:=by
 have hz:=h.sz;refine⟨h.below.setCell (by show _<=w.heap.size+1;omega) _,by simpa using h.sz,(AX (by omega)).trans h.a2,(AX (by omega)).trans h.a3,(Ab g0).trans h.b0,g1,g2,g3,g4,(Ab g5).trans h.b5,(Ab g6).trans h.b6,fun q=>by rw[World.frozen?_setCell];exact h.fz q,h.ptr.keep (At _ _ _ _ (by show w.heap.size+1+1≠w.heap.size+1;omega)),fun i hi=>⟨(h.Ca i hi).1.keep (by simp) (At _ _ _ _ (by show E i≠w.heap.size+1;have:=(h.Ca i hi).2;omega)),(h.Ca i hi).2⟩⟩
theorem Bk.dE{w v:Y}{xa:Option Addr}{xc:Nat}{d:Dc}{E:Nat->Nat}{s1 s2 a b:V9}(h:Bk w v xa xc d E s1 s2 a b)(u:V9):Bk w (v.setCell (Y9 w 1) u) xa xc d E u s2 a b:=
 h.PA (by decide) (by decide) (by decide) (NX _ _ _ (by rw[h.b1];rfl)) ((Ab (by decide)).trans h.b2) ((Ab (by decide)).trans h.b3) ((Ab (by decide)).trans h.b4)
theorem Bk.dF{w v:Y}{xa:Option Addr}{xc:Nat}{d:Dc}{E:Nat->Nat}{s1 s2 a b:V9}(h:Bk w v xa xc d E s1 s2 a b)(u:V9):Bk w (v.setCell (Y9 w 2) u) xa xc d E s1 u a b:=
 h.PA (by decide) (by decide) (by decide) ((Ab (by decide)).trans h.b1) (NX _ _ _ (by rw[h.b2];rfl)) ((Ab (by decide)).trans h.b3) ((Ab (by decide)).trans h.b4)
theorem Bk.gD{w v:Y}{xa:Option Addr}{xc:Nat}{d:Dc}{E:Nat->Nat}{s1 s2 b a:V9}(h:Bk w v xa xc d E s1 s2 b a)(u:V9):Bk w (v.setCell (Y9 w 3) u) xa xc d E s1 s2 u a:=
 h.PA (by decide) (by decide) (by decide) ((Ab (by decide)).trans h.b1) ((Ab (by decide)).trans h.b2) (NX _ _ _ (by rw[h.b3];rfl)) ((Ab (by decide)).trans h.b4)
theorem Bk.jS{w v:Y}{xa:Option Addr}{xc:Nat}{d:Dc}{E:Nat->Nat}{s1 s2 a b:V9}(h:Bk w v xa xc d E s1 s2 a b)(u:V9):Bk w (v.setCell (Y9 w 4) u) xa xc d E s1 s2 a u:=
 h.PA (by decide) (by decide) (by decide) ((Ab (by decide)).trans h.b1) ((Ab (by decide)).trans h.b2) ((Ab (by decide)).trans h.b3) (NX _ _ _ (by rw[h.b4];rfl))
theorem CD.fresh(w:Y)(n:Nat)(a:TypeId):CD (w.alloc (.cells (madeCells #[.pointer none] n) a)) w.heap.size n a (fun _=>none):=by
 have:=Ov w n a;exact⟨_,by simpa[Value.cells]using this,fun i hi=>rfl⟩
theorem X6(w:Y)(v:Vl)(e:Nat):Ge (w.alloc (.cells (SH v e) 333)) w.heap.size v e:=
 ⟨by simp,by simp[go_sem],by simp[go_sem],by simp[go_sem],by simp[go_sem],by simp[go_sem],by simp[go_sem],by simp[go_sem],BE _ _⟩
structure Ry (w:Y) (B bk a b R2:Nat) (E S:Nat->Nat) (d:Dc):Prop where
 e0:w.cell? (G bk 0)=some (S9 a d.n d.n)
 e1:w.cell? (G bk 1)=some (S9 b d.m d.m)
 fz:∀o,w.frozen? (G bk o)=false
 o0:CD w a d.n 292 (fun i=>some (G (E i) 0))
 o1:CD w b d.m 292 (fun i=>B1 E (d.I i))
 o2:CD w R2 d.x 331 (fun j=>Dd S j (d.X j))
 kX:a≠b
 gb:B<=bk
 g0:bk<a
 g1:bk<b
 g2:bk<R2
 gE:∀i,i<d.n->bk<E i
 gS:∀j,j<d.x->d.X j≠0->R2<S j
theorem GM(la:T9)(lc:Nat)(ia:T9)(ic:Nat)(xa:T9)(xc:Nat)(d:Dc)(w:Y)(hD:Gy w la ia xa d)(hS:Small d)(h3:D3 d)(h4:D4 d):
  C9 213 #[Dv la lc ia ic xa xc d] w fun e w'=>(∃bk R0 s R2 E S,e=.returned (Q9 bk)/\I0 w' bk R0 s R2 E S d/\Ry w' w.heap.size bk R0 s R2 E S d)/\B9 w w':=by
 have hn:=hS.n;have hm:=hS.m;have hx:=hS.x;have HD:=O hD;have H3:=O h3;have H4:=O h4;clear hD hS h3 h4;have bz:=Ir Tryz.underlying324 Im d.n hn
 go_enter Tryz.func213,Tryz.ntmps213
 go_wp2_with fail
 obtain⟨u1,g⟩:∃u1,u1=(((w.alloc (.cells #[.slice la d.n lc,.slice ia d.m ic,.slice xa d.x xc,J d.used,J d.live,J d.turns] 92)).alloc (.cells #[S9 (w.heap.size+1+1) d.n d.n,N9,.nilFunc,N9,J 0,J d.live,J d.turns] 330)).alloc (.cells (madeCells #[.pointer none] d.n) 292)):=⟨_,rfl⟩;rw[<-g];have b7:u1.heap.size=w.heap.size+3:=by rw[g];simp
 have V:Hid (B9 w u1):=O (by rw[g];exact((n9).alloc (by simp) _).alloc (by simp;omega) _);have bg:Hid (CD u1 (w.heap.size+1+1) d.n 292 (fun _=>none)):=O (by
  rw[g];have:=Ov ((w.alloc (.cells #[.slice la d.n lc,.slice ia d.m ic,.slice xa d.x xc,J d.used,J d.live,J d.turns] 92)).alloc (.cells #[S9 (w.heap.size+1+1) d.n d.n,N9,.nilFunc,N9,J 0,J d.live,J d.turns] 330)) d.n 292;exact⟨_,by simpa[Value.cells]using this,fun i hi=>rfl⟩)
 have a1:u1.cell? (y w 1)=some (.slice ia d.m ic):=by rw[g];simp[go_sem]
 have a2:u1.cell? (y w 2)=some (.slice xa d.x xc):=by rw[g];simp[go_sem]
 have a3:u1.cell? (y w 3)=some (J d.used):=by rw[g];simp[go_sem]
 have b0:u1.cell? (Y9 w 0)=some (S9 (w.heap.size+1+1) d.n d.n):=by rw[g];simp[go_sem]
 have b1:u1.cell? (Y9 w 1)=some (N9):=by rw[g];simp[go_sem]
 have b2:u1.cell? (Y9 w 2)=some .nilFunc:=by rw[g];simp[go_sem]
 have b3:u1.cell? (Y9 w 3)=some (N9):=by rw[g];simp[go_sem]
 have b4:u1.cell? (Y9 w 4)=some (J 0):=by rw[g];simp[go_sem]
 have b5:u1.cell? (Y9 w 5)=some (J d.live):=by rw[g];simp[go_sem]
 have b6:u1.cell? (Y9 w 6)=some (J d.turns):=by rw[g];simp[go_sem]
 have f1:∀o,u1.frozen? (Y9 w o)=false:=by intro o;rw[g];simp[go_sem]
 clear g bz;go_loopw [26] (fun i wr=>∃(k:Nat) (E:Nat->Nat),k<=d.n/\i=J k/\Gz (w.heap.size+1+1) u1 wr/\CD wr (w.heap.size+1+1) d.n 292 (fun i=>if i<k then some (G (E i) 0)else none)/\(∀i,i<k->Bo wr (E i) (d.L i) i/\w.heap.size+3<=E i)/\∀i j,i<k->j<k->E i=E j->i=j) (fun i _=>d.n-(intOf i).toNat)
 case atStart=>exact⟨0,fun _=>0,by omega,rfl,Gz.refl _ _,bg.congr (fun i hi=>Cs (by omega)),fun i hi=>by omega,fun i j hi=>by omega⟩
 case round=>
  clear bg;obtain⟨k,E,hk,rfl,a,r,hE,F⟩:=hrel;by_cases l:k<d.n
  ·obtain⟨b,off,rfl,Z,hcs⟩:=HD.log.resolve_left (by omega);have ao:B9 w wr:=V.trans (a.below (by omega) (by omega));obtain⟨e0,e1,e2,e3,e4,e5,e6,e7,e8,e9,b8⟩:=(hcs k l).keep (fun q=>ao.cell (p:=(G b q)) Z);have cr:=a.size;have HF:=O a;have HP:=O r;have HE:=O hE;have HI:=O F;have ct:=O ao;have r0:=r.cell l;have r1:=r.frozen k;have U:=(a.cell (o:=0) (q:=w.heap.size+1) (by omega) (by omega)).trans b0;clear hcs a r hE F ao;go_wp2_with fail
   obtain⟨W,C⟩:∃W,W=wr.alloc (.cells #[J (d.L k).key.kind,J (d.L k).key.num,F9 (d.L k).key.Ae,.string (d.L k).key.str,J (d.L k).key.ref,J (d.L k).val.kind,J (d.L k).val.num,F9 (d.L k).val.Ae,.string (d.L k).val.str,J (d.L k).val.ref,J (d.L k).turn] 96):=⟨_,rfl⟩;rw[<-C];have y0:W.cell? (y wr 0)=some (J (d.L k).key.kind):=by rw[C];simp[go_sem]
   have y1:W.cell? (y wr 1)=some (J (d.L k).key.num):=by rw[C];simp[go_sem]
   have y2:W.cell? (y wr 2)=some (F9 (d.L k).key.Ae):=by rw[C];simp[go_sem]
   have y3:W.cell? (y wr 3)=some (.string (d.L k).key.str):=by rw[C];simp[go_sem]
   have y4:W.cell? (y wr 4)=some (J (d.L k).key.ref):=by rw[C];simp[go_sem]
   have y5:W.cell? (y wr 5)=some (J (d.L k).val.kind):=by rw[C];simp[go_sem]
   have y6:W.cell? (y wr 6)=some (J (d.L k).val.num):=by rw[C];simp[go_sem]
   have y7:W.cell? (y wr 7)=some (F9 (d.L k).val.Ae):=by rw[C];simp[go_sem]
   have y8:W.cell? (y wr 8)=some (.string (d.L k).val.str):=by rw[C];simp[go_sem]
   have y9:W.cell? (y wr 9)=some (J (d.L k).val.ref):=by rw[C];simp[go_sem]
   have cu:W.cell? (y wr 10)=some (J (d.L k).turn):=by rw[C];simp[go_sem]
   have aq:W.heap.size=wr.heap.size+1:=by rw[C];simp
   have ar:Gz (w.heap.size+1+1) wr W:=by rw[C];exact(Gz.refl _ _).alloc _
   have q0:=(ar.cell (o:=0) (q:=w.heap.size+1) (by omega) (by omega)).trans U;have H:W.heap[w.heap.size+1+1]?=wr.heap[w.heap.size+1+1]?:=by rw[C];exact Fs _ _ _ (by omega)
   have au:=O (HP.keep H);have s0:=(au.cell l);have s1:=(au.frozen k);have b9:=O ar;have ca:=O aq;have bh:w.heap.size+1<W.heap.size:=by omega
   have cb:w.heap.size+1+1<W.heap.size:=by omega
   have cv:wr.heap.size<W.heap.size:=by omega
   clear C ar aq H e0 e1 e2 e3 e4 e5 e6 e7 e8 e9 b8 r0 r1 U;obtain⟨t,f⟩:∃t,t=((W.setCell (Z9 w k) (Q9 W.heap.size)).alloc (.cells #[J (d.L k).key.kind,J (d.L k).key.num,F9 (d.L k).key.Ae,.string (d.L k).key.str,J (d.L k).key.ref,J (d.L k).val.kind,J (d.L k).val.num,F9 (d.L k).val.Ae,.string (d.L k).val.str,J (d.L k).val.ref,J (d.L k).turn,J (k:Int)] 294)).drew:=⟨_,rfl⟩;have c:Gz (w.heap.size+1+1) wr t:=by rw[f];exact((b9.setCell _ _).alloc _).drew
   have bj:CD t (w.heap.size+1+1) d.n 292 (fun i=>if i<k+1 then some (G ((fun i=>if i=k then W.heap.size else E i) i) 0)else none):=by
    refine((au.set (q:=k) (some (G W.heap.size 0))).keep (w':=t) ?_).congr (fun i hi=>?_)
    ·rw[f];exact Fs _ _ _ (by simpa using cb)
    ·by_cases e:i=k
     ·subst e;simp
     ·simp only[e,X9];by_cases e2:i<k
      ·rw[C3 (by omega),C3 e2]
      ·rw[Cs (by omega),Cs e2]
   have bm:∀i,i<k+1->Bo t ((fun i=>if i=k then W.heap.size else E i) i) (d.L i) i/\w.heap.size+3<=(fun i=>if i=k then W.heap.size else E i) i:=by
    intro i hi;by_cases e:i=k
    ·subst e;simp only[Aaz];refine⟨?_,by omega⟩;have:=Ur (W.setCell (Z9 w i) (Q9 W.heap.size)) (d.L i) i;rw[f];refine Bo.drew ?_;simpa using this
    ·simp only[e,X9];obtain⟨h1,h2⟩:=z HE i (by omega);exact⟨h1.keep c.size (c.block _ h1.lt (by omega)),h2⟩
   have bn:∀i j,i<k+1->j<k+1->(fun i=>if i=k then W.heap.size else E i) i=(fun i=>if i=k then W.heap.size else E i) j->i=j:=by
    intro i j hi hj he;have aq:=z ca;by_cases e:i=k
    ·by_cases e2:j=k
     ·omega
     ·simp only[e,e2,Aaz,X9]at he;have:=(HE j (by omega)).1.lt;omega
    ·by_cases e2:j=k
     ·simp only[e,e2,Aaz,X9]at he;have:=(HE i (by omega)).1.lt;omega
     ·simp only[e,e2,X9]at he;exact HI i j (by omega) (by omega) he
   have A:=O (⟨HF.trans c,bj,bm,bn⟩:Gz (w.heap.size+1+1) u1 t/\_/\_/\_);clear c bj bm bn
   go_region
   rw[<-f];clear f;go_wp2;go_roundw
   case rel=>exact⟨k+1,_,by omega,by go_num,A.1,A.2.1,A.2.2.1,A.2.2.2⟩
   case measure=>simp[intOf];omega
  have B:k=d.n:=by omega
  subst B;have D:CD wr (w.heap.size+1+1) d.n 292 (fun i=>some (G (E i) 0)):=r.congr (fun i hi=>(C3 hi).symm);have bh:=a.size;have av:Hid (B9 w wr):=O (V.trans (a.below (by omega) (by omega)));have bp:=(a.cell (o:=1) (q:=w.heap.size) (by omega) (by omega)).trans a1;have K:=(a.cell (o:=2) (q:=w.heap.size) (by omega) (by omega)).trans a2;have M:=(a.cell (o:=3) (q:=w.heap.size) (by omega) (by omega)).trans a3;have aw:=(a.cell (o:=0) (q:=w.heap.size+1) (by omega) (by omega)).trans b0;have ax:=(a.cell (o:=1) (q:=w.heap.size+1) (by omega) (by omega)).trans b1;have P:=(a.cell (o:=2) (q:=w.heap.size+1) (by omega) (by omega)).trans b2;have Q:=(a.cell (o:=3) (q:=w.heap.size+1) (by omega) (by omega)).trans b3;have R:=(a.cell (o:=4) (q:=w.heap.size+1) (by omega) (by omega)).trans b4;have ay:=(a.cell (o:=5) (q:=w.heap.size+1) (by omega) (by omega)).trans b5;have az:=(a.cell (o:=6) (q:=w.heap.size+1) (by omega) (by omega)).trans b6;have cf:∀o,wr.frozen? (Y9 w o)=false:=fun o=>(a.frozen (o:=o) (q:=w.heap.size+1) (by omega) (by omega)).trans (f1 o)
  have ah:w.heap.size+3<=wr.heap.size:=by omega
  obtain⟨v1,bq⟩:∃v,v=wr:=⟨_,rfl⟩;rw[<-bq]at av bp K M aw ax P Q R ay az cf ah D hE ⊢;have HI:=O F;have cc:=Ir Tryz.underlying324 Im d.m hm;have aM:w.heap.size<v1.heap.size:=by omega
  have a6:w.heap.size+1<v1.heap.size:=by omega
  have cd:w.heap.size+1≠v1.heap.size:=by omega
  have a7:Hid (Bk w v1 xa xc d E (N9) .nilFunc (N9) (J 0)):=O ⟨av,ah,K,M,aw,ax,P,Q,R,ay,az,cf,D,hE⟩;clear bq r D hE F a bh hk l a1 a2 a3 b0 b1 b2 b3 b4 b5 b6 f1 V b7 av;go_wp2_with fail
  clear cc;obtain⟨u2,ad⟩:∃u2,u2=((v1.setCell (Y9 w 1) (S9 v1.heap.size d.m d.m)).alloc (.cells (madeCells #[.pointer none] d.m) 292)):=⟨_,rfl⟩;rw[<-ad];have HK:Hid (Bk w u2 xa xc d E (S9 v1.heap.size d.m d.m) .nilFunc (N9) (J 0)):=O (by rw[ad];exact(a7.dE _).alloc _);have HQ:Hid (CD u2 v1.heap.size d.m 292 (fun _=>none)):=O (by rw[ad];have:=CD.fresh (v1.setCell (Y9 w 1) (S9 v1.heap.size d.m d.m)) d.m 292;simpa using this);have br:∀i,i<d.n->E i<v1.heap.size:=fun i hi=>(a7.Ca i hi).1.lt
  have a8:=O br;obtain⟨s,bb⟩:∃s,s=v1.heap.size:=⟨_,rfl⟩;have cw:u2.heap.size=s+1:=by rw[ad,bb];simp
  rw[<-bb]at HK HQ a8 ah ⊢;clear ad br a7 cf bp K M aw ax P Q R ay az aM a6 cd bb;go_loopw [52] (fun i wr=>∃k:Nat,k<=d.m/\i=J k/\Gz s u2 wr/\CD wr s d.m 292 (fun i=>if i<k then B1 E (d.I i)else none)) (fun i _=>d.m-(intOf i).toNat)
  case atStart=>exact⟨0,by omega,rfl,Gz.refl _ _,HQ.congr (fun i hi=>Cs (by omega))⟩
  case round=>
   clear HQ;obtain⟨k,hk,rfl,a,r⟩:=hrel;have hK:Bk w wr xa xc d E (S9 s d.m d.m) .nilFunc (N9) (J 0):=HK.jA a ah (fun i hi=>Nat.ne_of_lt (a8 i hi));by_cases l:k<d.m
   ·obtain⟨b,off,rfl,Z,hcs⟩:=HD.ints.resolve_left (by omega);have e0:=(hK.below.cell (p:=(G b (off+k))) Z).trans (hcs k l);have HF:=O a;have HP:=O r;have ai:=a.size;rcases H3.1 k l with hz|hz
    ·have A:Hid (CD wr s d.m 292 (fun i=>if i<k+1 then B1 E (d.I i)else none)):=O (r.congr (fun i hi=>by
      by_cases e:i=k
      ·subst e;simp[B1,hz]
      ·by_cases e2:i<k
       ·rw[C3 (by omega),C3 e2]
       ·rw[Cs (by omega),Cs e2]))
     rw[hz]at e0;clear hcs a r hK hz;go_wp2;go_roundw
     case rel=>exact⟨k+1,by omega,by go_num,HF,A⟩
     case measure=>simp[intOf];omega
    ·obtain⟨q,hq⟩:∃q:Nat,d.I k=(q:Int)+1:=⟨(d.I k-1).toNat,by omega⟩;have aj:q<d.n:=by omega
     have c0:=hK.b0;have c1:=hK.b1;have U:=hK.ptr.cell aj;have r0:=r.cell l;have r1:=r.frozen k;have bt:B1 E (d.I k)=some (G (E q) 0):=by unfold B1;rw[C3 (by omega),hq];congr 3;omega
     have A:Hid (CD (wr.setCell (G s k) (Q9 (E q))).drew s d.m 292 (fun i=>if i<k+1 then B1 E (d.I i)else none)):=O ((r.set (q:=k) (some (G (E q) 0))).congr (fun i hi=>by
      by_cases e:i=k
      ·subst e;simp[bt]
      ·simp only[e,X9];by_cases e2:i<k
       ·rw[C3 (by omega),C3 e2]
       ·rw[Cs (by omega),Cs e2]))
     have cg:IntKind.i64.wrap (q:Int)=q:=by rw[It];omega
     have ch:w.heap.size+1<wr.heap.size:=by omega
     have cj:w.heap.size+1+1<wr.heap.size:=by omega
     have G4:s<wr.heap.size:=by omega
     rw[hq]at e0;clear hcs a r hK hz hq bt;go_wp2_with fail
     go_region
     go_wp2;go_roundw
     case rel=>exact⟨k+1,by omega,by go_num,(HF.setCell _ _).drew,A⟩
     case measure=>simp[intOf];omega
   have B:k=d.m:=by omega
   subst B;have HQ:Hid (CD wr s d.m 292 (fun i=>B1 E (d.I i))):=O (r.congr (fun i hi=>(C3 hi).symm));have ai:=a.size;have K:=hK.a2;have M:=hK.a3;have P:=hK.b2;have Q:=hK.b3;have R:=hK.b4;have cf:=hK.fz;have ak:=O hK;obtain⟨v2,bu⟩:∃v,v=wr:=⟨_,rfl⟩;rw[<-bu]at HQ K M P Q R cf ak ai ⊢;have ck:=Ir Tryz.underlying326 Qx d.x hx;have aM:w.heap.size<v2.heap.size:=by omega
   have a6:w.heap.size+1<v2.heap.size:=by omega
   have bw:s<v2.heap.size:=by omega
   clear r a hK hk l bu HK;go_wp2_with fail
   clear ck;obtain⟨u3,T⟩:∃u3,u3=(((((v2.setCell (Y9 w 2) KY).setCell (Y9 w 3) (N9)).setCell (Y9 w 4) (J d.used)).setCell (Y9 w 3) (S9 v2.heap.size d.x d.x)).alloc (.cells (madeCells #[.pointer none] d.x) 331)):=⟨_,rfl⟩;rw[<-T];have HK:Hid (Bk w u3 xa xc d E (S9 s d.m d.m) KY (S9 v2.heap.size d.x d.x) (J d.used)):=O (by rw[T];exact((((ak.dF _).gD _).jS _).gD _).alloc _);have bc:Hid (CD u3 v2.heap.size d.x 331 (fun _=>none)):=O (by rw[T];have:=CD.fresh ((((v2.setCell (Y9 w 2) KY).setCell (Y9 w 3) (N9)).setCell (Y9 w 4) (J d.used)).setCell (Y9 w 3) (S9 v2.heap.size d.x d.x)) d.x 331;simpa using this);have cl:Hid (CD u3 s d.m 292 (fun i=>B1 E (d.I i))):=O (HQ.keep (by
    rw[T];refine(Fs _ _ _ (by simpa using bw)).trans ?_;exact(At _ _ _ _ (by show s≠w.heap.size+1;omega)).trans ((At _ _ _ _ (by show s≠w.heap.size+1;omega)).trans ((At _ _ _ _ (by show s≠w.heap.size+1;omega)).trans (At _ _ _ _ (by show s≠w.heap.size+1;omega))))))
   have af:Hid (∀i,i<d.n->E i<v2.heap.size):=O (fun i hi=>(ak.Ca i hi).1.lt);obtain⟨R2,bd⟩:∃R2,R2=v2.heap.size:=⟨_,rfl⟩;have cq:u3.heap.size=R2+1:=by rw[T,bd];simp
   rw[<-bd]at HK bc af bw ai ⊢;clear T ak HQ a8 cf K M P Q R aM a6 bd;have bf:s≠R2:=by omega
   have cm:w.heap.size+3<=R2:=by omega
   go_loopw [91] (fun i wr=>∃(k:Nat) (S:Nat->Nat),k<=d.x/\i=J k/\Gz R2 u3 wr/\CD wr R2 d.x 331 (fun j=>if j<k then Dd S j (d.X j)else none)/\∀j,j<k->Dj wr E S d j/\(d.X j≠0->R2<S j)) (fun i _=>d.x-(intOf i).toNat)
   case atStart=>exact⟨0,fun _=>0,by omega,rfl,Gz.refl _ _,bc.congr (fun i hi=>Cs (by omega)),fun j hj=>by omega⟩
   case round=>
    clear bc;obtain⟨k,S,hk,rfl,a,r,u⟩:=hrel;have hK:Bk w wr xa xc d E (S9 s d.m d.m) KY (S9 R2 d.x d.x) (J d.used):=HK.jA a cm (fun i hi=>Nat.ne_of_lt (af i hi));have ai:=a.size;by_cases l:k<d.x
    ·obtain⟨b,off,rfl,Z,hcs⟩:=HD.index.resolve_left (by omega);have e0:=(hK.below.cell (p:=(G b (off+k))) Z).trans (hcs k l);have HF:=O a;have HP:=O r;have cx:=O u;have ch:w.heap.size+1<wr.heap.size:=by omega
     have cj:w.heap.size+1+1<wr.heap.size:=by omega
     have G4:R2<wr.heap.size:=by omega
     have c0:=hK.b0;have c3:=hK.b3;have r0:=r.cell l;have r1:=r.frozen k;by_cases U:d.X k=0
     ·have A:Hid (CD wr R2 d.x 331 (fun j=>if j<k+1 then Dd S j (d.X j)else none)):=O (r.congr (fun j hj=>by
       by_cases e:j=k
       ·subst e;simp[Dd,U]
       ·by_cases e2:j<k
        ·rw[C3 (by omega),C3 e2]
        ·rw[Cs (by omega),Cs e2]))
      have cn:Hid (∀j,j<k+1->Dj wr E S d j/\(d.X j≠0->R2<S j)):=O (fun j hj=>by
       by_cases e:j=k
       ·subst e;exact⟨⟨fun h=>by omega,fun h=>by omega⟩,fun h=>absurd U h⟩
       ·exact u j (by omega))
      rw[U]at e0;clear hcs a r hK u U;go_wp2;go_roundw
      case rel=>exact⟨k+1,S,by omega,by go_num,HF,A,cn⟩
      case measure=>simp[intOf];omega
     have ae:∀(W':Y) (sb:Nat),W'.heap[R2]?=(wr.setCell (G R2 k) (Q9 sb)).heap[R2]?->CD W' R2 d.x 331 (fun j=>if j<k+1 then Dd (fun i=>if i=k then sb else S i) j (d.X j)else none):=by
      intro W' sb H;refine((r.set (q:=k) (some (G sb 0))).keep H).congr (fun j hj=>?_);by_cases e:j=k
      ·subst e;simp[Dd,U]
      ·simp only[e,X9,Dd];by_cases e2:j<k
       ·rw[C3 (by omega),C3 e2]
       ·rw[Cs (by omega),Cs e2]
     have cy:=O ae;rcases H4.2.1 k l with hs|hs|hs
     ·exact absurd hs U
     ·obtain⟨t,f⟩:∃t,t=(wr.setCell (G R2 k) (Q9 wr.heap.size)).alloc (.cells #[J 0,J 0,F9 0,E9,J 0,.pointer none,.bool true] 333):=⟨_,rfl⟩;have c:Gz R2 wr t:=by rw[f];exact((Gz.refl _ _).setCell _ _).alloc _
      have A:Hid (Gz R2 u3 t/\CD t R2 d.x 331 (fun j=>if j<k+1 then Dd (fun i=>if i=k then wr.heap.size else S i) j (d.X j)else none)/\∀j,j<k+1->Dj t E (fun i=>if i=k then wr.heap.size else S i) d j/\(d.X j≠0->R2<(fun i=>if i=k then wr.heap.size else S i) j)):=O ⟨a.trans c,ae t _ (by rw[f];exact Fs _ _ _ (by simpa using G4)),fun j hj=>by
       by_cases e:j=k
       ·subst e;simp only[Aaz];refine⟨⟨fun h=>by omega,fun _=>?_⟩,fun _=>G4⟩;simp only[Aaz];rw[f];exact⟨by simp,by simp[go_sem],by have hg:=BE (wr.setCell (G R2 j) (Q9 wr.heap.size)) (.cells Qq 333);simpa using hg⟩
       ·obtain⟨⟨h1,h2⟩,h3⟩:=u j (by omega);refine⟨⟨fun h=>?_,fun h=>?_⟩,fun h=>?_⟩
        ·simp only[e,X9];have:=h3 (by omega);exact(h1 h).keep c.size (c.block _ (h1 h).lt (by omega))
        ·simp only[e,X9];have:=h3 (by omega);exact(h2 h).keep c.size (c.block _ (h2 h).lt (by omega))
        ·simp only[e,X9];exact h3 h⟩
      rw[hs]at e0;clear hcs a r hK u U hs ae c;go_wp2_with fail
      rw[<-f];clear f;go_roundw
      case rel=>exact⟨k+1,_,by omega,by go_num,A.1,A.2.1,A.2.2⟩
      case measure=>simp[intOf];omega
     ·obtain⟨q,hq⟩:∃q:Nat,d.X k=(q:Int)+1:=⟨(d.X k-1).toNat,by omega⟩;have aj:q<d.n:=by omega
      have p1:=hK.ptr.cell aj;obtain⟨cz,g0,g1,g2,g3,g4,_,_,_,_,_,_,_⟩:=(hK.Ca q aj).1;have bx:(d.X k-1).toNat=q:=by omega
      obtain⟨t,f⟩:∃t,t=((wr.setCell (G R2 k) (Q9 wr.heap.size)).alloc (.cells #[J (d.L q).key.kind,J (d.L q).key.num,F9 (d.L q).key.Ae,.string (d.L q).key.str,J (d.L q).key.ref,Q9 (E q),.bool false] 333)).drew:=⟨_,rfl⟩;have c:Gz R2 wr t:=by rw[f];exact(((Gz.refl _ _).setCell _ _).alloc _).drew
      have A:Hid (Gz R2 u3 t/\CD t R2 d.x 331 (fun j=>if j<k+1 then Dd (fun i=>if i=k then wr.heap.size else S i) j (d.X j)else none)/\∀j,j<k+1->Dj t E (fun i=>if i=k then wr.heap.size else S i) d j/\(d.X j≠0->R2<(fun i=>if i=k then wr.heap.size else S i) j)):=O ⟨a.trans c,ae t _ (by rw[f];exact Fs _ _ _ (by simpa using G4)),fun j hj=>by
       by_cases e:j=k
       ·subst e;refine⟨⟨fun _=>?_,fun h=>by omega⟩,fun _=>by simpa using G4⟩;simp only[Aaz];rw[f];have hn:=X6 (wr.setCell (G R2 j) (Q9 wr.heap.size)) (d.L q).key (E q);have cp:Ge ((wr.setCell (G R2 j) (Q9 wr.heap.size)).alloc (.cells #[J (d.L q).key.kind,J (d.L q).key.num,F9 (d.L q).key.Ae,.string (d.L q).key.str,J (d.L q).key.ref,Q9 (E q),.bool false] 333)) wr.heap.size (d.L q).key (E q):=by simpa using hn
        show Ge _ _ (d.L (d.X j-1).toNat).key (E (d.X j-1).toNat);rw[bx];exact cp.keep (A0 _) rfl
       ·obtain⟨⟨h1,h2⟩,h3⟩:=u j (by omega);refine⟨⟨fun h=>?_,fun h=>?_⟩,fun h=>?_⟩
        ·simp only[e,X9];have:=h3 (by omega);exact(h1 h).keep c.size (c.block _ (h1 h).lt (by omega))
        ·simp only[e,X9];have:=h3 (by omega);exact(h2 h).keep c.size (c.block _ (h2 h).lt (by omega))
        ·simp only[e,X9];exact h3 h⟩
      have cg:IntKind.i64.wrap (q:Int)=q:=by rw[It];omega
      rw[hq]at e0;clear hcs a r hK u U hs ae c hq bx;go_wp2_with fail
      go_region
      rw[<-f];clear f;go_wp2;go_roundw
      case rel=>exact⟨k+1,_,by omega,by go_num,A.1,A.2.1,A.2.2⟩
      case measure=>simp[intOf];omega
    have B:k=d.x:=by omega
    subst B;have D:CD wr R2 d.x 331 (fun j=>Dd S j (d.X j)):=r.congr (fun i hi=>(C3 hi).symm);have hQ:CD wr s d.m 292 (fun i=>B1 E (d.I i)):=cl.keep (a.block _ (by omega) bf);have ag:Hid ((I0 wr (w.heap.size+1) (w.heap.size+1+1) s R2 E S d/\Ry wr w.heap.size (w.heap.size+1) (w.heap.size+1+1) s R2 E S d)/\B9 w wr):=O ⟨⟨⟨by omega,⟨_,_,hK.b0,fun _=>rfl⟩,⟨_,hK.b1⟩,hK.b2,hK.b3,hK.b4,hK.b5,hK.b6,fun i hi=>hK.ptr.cell hi,fun i hi=>(hK.Ca i hi).1,HI,fun i hi=>hQ.cell hi,fun i hi=>D.cell hi,fun j hj=>(u j hj).1,by omega,by omega,by omega⟩,⟨hK.b0,hK.b1,hK.fz,hK.ptr,hQ,D,by omega,by omega,by omega,by omega,by omega,fun i hi=>by have:=(hK.Ca i hi).2;omega,fun j hj h0=>(u j hj).2 h0⟩⟩,hK.below⟩;clear r D a hK u hk l hQ;go_wp2;go_ret;exact⟨⟨_,_,_,_,_,_,rfl,ag.1⟩,ag.2⟩
theorem E7(la:T9)(lc:Nat)(ia:T9)(ic:Nat)(xa:T9)(xc:Nat)(d:Dc)(w:Y)(hD:Gy w la ia xa d)(c:Small d)(h3:D3 d)(h4:D4 d):
  C9 213 #[Dv la lc ia ic xa xc d] w fun e w'=>(∃bk a b R2 E S,e=.returned (Q9 bk)/\I0 w' bk a b R2 E S d)/\B9 w w':=
 (GM la lc ia ic xa xc d w hD c h3 h4).mono fun e w' h=>by
  obtain⟨⟨bk,a,b,R2,E,S,h1,h2,_⟩,h3⟩:=h;exact⟨⟨bk,a,b,R2,E,S,h1,h2⟩,h3⟩
end
section
open Go.RowKit
structure Bf where
 parent:Int
 key:ByteArray
 count:Int
instance:Inhabited Bf:=⟨⟨0,⟨#[]⟩,0⟩⟩
abbrev Sh(p:Int)(k:ByteArray)(c:Int):Value:=.agg #[J p,.string k,J c]
def dW(n:Nat)(f:Nat->Bf):Prop:=n<=1048576/\∀i,i<n->(f i).key.size<=1048576
def cellOf(f:Nat->Bf)(j:Nat):Value:=
 if j%3=0 then J (f (j/3)).parent else if j%3=1 then .string (f (j/3)).key else J (f (j/3)).count
theorem Tj(f:Nat->Bf)(i:Nat):cellOf f (i*3)=J (f i).parent:=by
 have h1:i*3%3=0:=by omega
 have h2:i*3/3=i:=by omega
 simp[cellOf]
theorem Tk(f:Nat->Bf)(i:Nat):cellOf f (i*3+1)=.string (f i).key:=by
 have h1:(i*3+1)%3=1:=by omega
 have h2:(i*3+1)/3=i:=by omega
 simp[cellOf,h1,h2]
theorem Tl(f:Nat->Bf)(i:Nat):cellOf f (i*3+2)=J (f i).count:=by
 have h1:(i*3+2)%3=2:=by omega
 have h2:(i*3+2)/3=i:=by omega
 simp[cellOf,h1,h2]
def Du(w:Y)(b n:Nat)(f:Nat->Bf):Prop:=∃(Z:Nat) (g:Nat->Value),n*3<=Z/\w.rowIs b 205 Z g/\∀j,j<n*3->g j=cellOf f j
theorem Du.lt{w:Y}{b n:Nat}{f:Nat->Bf}(h:Du w b n f):b<w.heap.size:=by obtain⟨_,_,_,h,_⟩:=h;exact h.lt
theorem Du.cells{w:Y}{b n:Nat}{f:Nat->Bf}(h:Du w b n f){i:Nat}(hi:i<n):
  w.cell? (G b (i*3))=some (J (f i).parent)/\w.cell? (G b (i*3+1))=some (.string (f i).key)/\w.cell? (G b (i*3+2))=some (J (f i).count):=by
 obtain⟨Z,g,hN,a,hg⟩:=h;exact⟨by rw[a.cell (by omega),hg _ (by omega),Tj],by rw[a.cell (by omega),hg _ (by omega),Tk],by rw[a.cell (by omega),hg _ (by omega),Tl]⟩
theorem Du.of_block{w w':Y}{b n:Nat}{f:Nat->Bf}(h:Du w b n f)(e:w'.heap[b]?=w.heap[b]?):Du w' b n f:=by
 obtain⟨Z,g,hN,a,hg⟩:=h;exact⟨Z,g,hN,a.of_block e,hg⟩
theorem Du.below{w w':Y}{B b n:Nat}{f:Nat->Bf}(h:Du w b n f)(hb:Below B w w')(a:b<B):Du w' b n f:=h.of_block (hb.block b a)
theorem US:(Tryz.prog.info? 205).map (fun i=>(i.zero,i.size,i.bytes))=some (some (Sh 0 ⟨#[]⟩ 0),3,32):=by kernel_rfl
end
section
open Go.RowKit
attribute [local go_sem] AA Aw
structure Tb where
 shape:Int
 nv:Nat
 V:Nat->Vl
 d:Dc
structure Si where
 key:ByteArray
 shape:Int
 place:Int
 EB:Int
 Bh:Int
structure AV where
 nf:Nat
 F:Nat->Bf
 nt:Nat
 T:Nat->Tb
 ns:Nat
 S:Nat->Si
abbrev FQ(v:Vl):Value:=V v.kind v.num v.Ae v.str v.ref
abbrev SV(s:Si):Value:=.agg #[.string s.key,J s.shape,J s.place,J s.EB,J s.Bh]
abbrev iO(a:T9)(b:Nat)(c:T9)(tc:Nat)(sa:T9)(sc:Nat)(s:AV):Value:=.agg #[.slice a s.nf b,.slice c s.nt tc,.slice sa s.ns sc]
structure IK (w:Y) (b o:Nat) (p:Vl):Prop where
 c0:w.cell? (G b o)=some (J p.kind)
 c1:w.cell? (G b (o+1))=some (J p.num)
 c2:w.cell? (G b (o+2))=some (F9 p.Ae)
 c3:w.cell? (G b (o+3))=some (.string p.str)
 c4:w.cell? (G b (o+4))=some (J p.ref)
theorem IK.keep{w w':Y}{b o:Nat}{p:Vl}(h:IK w b o p)(e:∀q,w'.cell? (G b q)=w.cell? (G b q)):IK w' b o p:=
 ⟨(e _).trans h.c0,(e _).trans h.c1,(e _).trans h.c2,(e _).trans h.c3,(e _).trans h.c4⟩
def Hg(w:Y)(a:T9)(n:Nat)(f:Nat->Vl):Prop:=
 n=0\/∃b off,a=some (G b off)/\b<w.heap.size/\∀i,i<n->IK w b (off+i*5) (f i)
theorem Hg.below{w w':Y}{B:Nat}{a:Option Addr}{n:Nat}{f:Nat->Vl}(h:Hg w a n f)(hb:Below B w w')(d:B=w.heap.size):Hg w' a n f:=by
 subst d;rcases h with h|⟨b,off,e,c,hc⟩
 ·exact .inl h
 ·exact .inr ⟨b,off,e,Be c hb.size,fun i hi=>(hc i hi).keep (fun q=>hb.cell (p:=(G b q)) c)⟩
structure eB (w:Y) (b o:Nat) (p:Si):Prop where
 c0:w.cell? (G b o)=some (.string p.key)
 c1:w.cell? (G b (o+1))=some (J p.shape)
 c2:w.cell? (G b (o+2))=some (J p.place)
 c3:w.cell? (G b (o+3))=some (J p.EB)
 c4:w.cell? (G b (o+4))=some (J p.Bh)
theorem eB.keep{w w':Y}{b o:Nat}{p:Si}(h:eB w b o p)(e:∀q,w'.cell? (G b q)=w.cell? (G b q)):eB w' b o p:=
 ⟨(e _).trans h.c0,(e _).trans h.c1,(e _).trans h.c2,(e _).trans h.c3,(e _).trans h.c4⟩
def L4(w:Y)(a:T9)(n:Nat)(f:Nat->Si):Prop:=
 n=0\/∃b off,a=some (G b off)/\b<w.heap.size/\∀i,i<n->eB w b (off+i*5) (f i)
theorem L4.below{w w':Y}{B:Nat}{a:Option Addr}{n:Nat}{f:Nat->Si}(h:L4 w a n f)(hb:Below B w w')(d:B=w.heap.size):L4 w' a n f:=by
 subst d;rcases h with h|⟨b,off,e,c,hc⟩
 ·exact .inl h
 ·exact .inr ⟨b,off,e,Be c hb.size,fun i hi=>(hc i hi).keep (fun q=>hb.cell (p:=(G b q)) c)⟩
structure N0 (w:Y) (b o:Nat) (va:T9) (vc:Nat) (la:T9) (lc:Nat) (ia:T9) (ic:Nat) (xa:T9) (xc:Nat) (t:Tb):Prop where
 c0:w.cell? (G b o)=some (J t.shape)
 c1:w.cell? (G b (o+1))=some (.slice va t.nv vc)
 c2:w.cell? (G b (o+2))=some (.slice la t.d.n lc)
 c3:w.cell? (G b (o+3))=some (.slice ia t.d.m ic)
 c4:w.cell? (G b (o+4))=some (.slice xa t.d.x xc)
 c5:w.cell? (G b (o+5))=some (J t.d.used)
 c6:w.cell? (G b (o+6))=some (J t.d.live)
 c7:w.cell? (G b (o+7))=some (J t.d.turns)
theorem N0.R7{w w':Y}{b o:Nat}{va la ia xa:Option Addr}{vc lc ic xc:Nat}{t:Tb}(h:N0 w b o va vc la lc ia ic xa xc t)(e:∀j,j<8->w'.cell? (G b (o+j))=w.cell? (G b (o+j))):N0 w' b o va vc la lc ia ic xa xc t:=
 ⟨(e 0 (by omega)).trans h.c0,(e 1 (by omega)).trans h.c1,(e 2 (by omega)).trans h.c2,(e 3 (by omega)).trans h.c3,(e 4 (by omega)).trans h.c4,(e 5 (by omega)).trans h.c5,(e 6 (by omega)).trans h.c6,(e 7 (by omega)).trans h.c7⟩
def Wd(w:Y)(b o:Nat)(t:Tb):Prop:=
 ∃va vc la lc ia ic xa xc,N0 w b o va vc la lc ia ic xa xc t/\Hg w va t.nv t.V/\Gy w la ia xa t.d
theorem Wd.below{w w':Y}{b o:Nat}{t:Tb}(h:Wd w b o t)(hb:B9 w w')(hl:b<w.heap.size):Wd w' b o t:=by
 obtain⟨va,vc,la,lc,ia,ic,xa,xc,h1,h2,h3⟩:=h;exact⟨va,vc,la,lc,ia,ic,xa,xc,h1.R7 (fun q _=>hb.cell (p:=(G b (o+q))) hl),h2.below hb rfl,h3.below hb⟩
def aC(w:Y)(a:T9)(n:Nat)(f:Nat->Tb):Prop:=
 n=0\/∃b off,a=some (G b off)/\b<w.heap.size/\∀i,i<n->Wd w b (off+i*8) (f i)
theorem aC.below{w w':Y}{B:Nat}{a:Option Addr}{n:Nat}{f:Nat->Tb}(h:aC w a n f)(hb:Below B w w')(d:B=w.heap.size):aC w' a n f:=by
 subst d;rcases h with h|⟨b,off,e,c,hc⟩
 ·exact .inl h
 ·exact .inr ⟨b,off,e,Be c hb.size,fun i hi=>(hc i hi).below hb c⟩
structure Ug (s:AV):Prop where
 f:dW s.nf s.F
 nt:s.nt<=1048576
 nv:∀{i:Nat},i<s.nt->(s.T i).nv<=1048576
 Nw:∀{i:Nat},i<s.nt->Small (s.T i).d
 n:s.ns<=1048576
end
section
open Go.RowKit Go.Shelf
section
variable {P:Program} {ops:Array Oper} {C:World->Prop} {md:Region.Mode}
theorem wpIn_of_quiet{l n:Nat}{o:Oper}{a:Act}{K:Act->Prop}{d:Act->World->Prop}{j:Exit->Act->World->Prop}{w:Y}(k:∀c,o.op≠.defer c)(g:C w)(h:∀a w',C w'->K a->d a w')(i:o.quiet P a C K):o.wpIn (Fence.wide.inRound l) n P a w d j:=by
 obtain⟨v,h1,h2⟩:=i;have h3:=h1 w g;unfold Oper.quietAt at h3;refine⟨fun _ _=>trivial,?_⟩;show o.uponIn (Fence.wide.inRound l) n P a d j ((o.semAt (some l) a.eval).run P w);rw[Oper.semAt_some l _ _ k];generalize (execOp a.eval o).run P w=r at*;cases r with
 |ok x w'=>
  cases x<;>simp only[Oper.quietUpon]at h3<;>simp only[Oper.uponIn]
  case value u=>
   obtain⟨e1,e2⟩:=h3;rw[e1,e2];exact h _ _ g h2
  case skip=>
   obtain⟨e1,e2⟩:=h3;rw[e1,<-e2];exact h _ _ g h2
  case enter f args=>
   obtain⟨e1,hc⟩:=h3;rw[e1];refine⟨fun i=>(by cases i),CallsIn.inRound l (VC.2 (hc.mono fun e m ⟨p,b⟩=>?_))⟩;subst p;exact h _ _ b h2
 |halt x w'=>simp only[Oper.quietUpon]at h3
def FY(ops:Array Oper):Bool:=ops.all fun o=>match o.op with|.defer _=>false|_=>true
theorem JH(h:FY ops=true){i:Nat}{o:Oper}(a:ops[i]?=some o):∀c,o.op≠.defer c:=by
 intro c e;unfold FY at h;rw[Array.all_eq_true]at h;obtain⟨hi,b⟩:=E1.1 a;have:=h i hi;rw[b,e]at this;simp at this
theorem NS{l n i:Nat}{a:Act}{K:Act->Prop}{f:Act->World->Prop}{g:Exit->Act->World->Prop}{w:Y}(j:FY ops=true)(d:C w)(h:∀a w',C w'->K a->f a w')(b:qOp P ops C i K a):wpOpIn (Fence.wide.inRound l) n P ops g i f a w:=by
 unfold qOp at b;unfold wpOpIn
 split
 ·rename_i c;simp only[c]at b;exact h _ _ d b
 ·rename_i o c
  simp only[c]at b
  split
  ·rename_i e;simp only[e,Aaz]at b;exact wpIn_of_quiet (JH j c) d h b
  ·rename_i e;simp only[e]at b;exact⟨fun _ _=>trivial,h _ _ d b⟩
theorem wpAnyIn_of_quiet{l n:Nat}{Q:Act->Prop}{e:Exit->Act->World->Prop}(f:FY ops=true)(c:∀a w,C w->Q a->e .normal a w):∀(fuel:Nat) (listed:Array Bool) (a:Act) (w:Y),C w->
  wpAnyQ P md ops C Q fuel listed a->wpAnyIn (Fence.wide.inRound l) n P md ops e fuel listed a w
 |0,_,_,_,b,h=>⟨h.1,c _ _ b h.2⟩
 |fuel+1,_,_,_,b,h=>⟨fun g=>c _ _ b (h.1 g),fun i hi=>NS f b (fun a' w' d=>wpAnyIn_of_quiet f c fuel _ a' w' d) (h.2 i hi)⟩
theorem wpIn_region_quiet{l n id:Nat}{Q:Exit->Act->World->Prop}{a:Act}{w:Y}(d:P.follows .mixedOrders=true)(b:Region.lexB .any ops=true)(e:FY ops=true)(f:C {w with drawn:=w.drawn+1})
  (h:wpQuiet P ops C (fun a'=>∀w',C w'->Q .normal a' w') ops.toList a):(Code.region id ops true).wpIn (Fence.wide.inRound l) n P Q a w:=by
 simp only[Region.lexB,OR]at b;refine wpIn_region_any d (wpAnyIn_of_quiet e (Q:=fun a'=>∀w',C w'->Q .normal a' w') (fun _ w' c h=>h w' c) _ _ _ _ f ?_);have:=wpAnyQ_lex (C:=C) (md:=.any) b.1 ops.toList 0 (Array.replicate ops.size false) a (by simp) (by simpa using b.2) h;simpa using this
end
end
section
open Go.RowKit Go.Shelf
attribute [local go_sem] AA Aw Oper.semAt_some
structure NV (T:World->Prop) (v:Vl) (h:Nat):Prop where
 lt:h<18446744073709551616
 call:∀w:World,T w->C9 247 #[V v.kind v.num v.Ae v.str v.ref] w (R9 (.int .u64 (h:Int)) w)
def DT(T:World->Prop):Prop:=∀w w',T w->B9 w w'->T w'
def Ex(x a0 f:Nat):List Nat:=(List.range f).map (fun j=>(a0+j)%x)
theorem OJ(x a0 f:Nat):Ex x a0 (f+1)=Ex x a0 f++[(a0+f)%x]:=by
 unfold Ex;rw[List.range_succ];simp
theorem Le(x a0 f:Nat):(Ex x a0 f).length=f:=by simp[Ex]
theorem QX{x a0 f g:Nat}(h:f<=g):Ex x a0 f<+:Ex x a0 g:=by
 obtain⟨k,rfl⟩:∃k,g=f+k:=⟨g-f,by omega⟩
 induction k with
 |zero=>exact List.prefix_refl _
 |succ k ih=>
  rw[show f+(k+1)=(f+k)+1 by omega,OJ];exact(ih (by omega)).trans (List.prefix_append _ _)
theorem Qn(p:T9)(v:Vl)(w:Y):
  C9 297 #[.pointer p,V v.kind v.num v.Ae v.str v.ref] w fun e w'=>e=.returned (.func (.func 308) #[] #[Q9 w.heap.size,Q9 (w.heap.size+1)])/\w'=(w.alloc (.cells #[.pointer p] 377)).alloc (.cells #[J v.kind,J v.num,F9 v.Ae,.string v.str,J v.ref] 43):=by
 go_enter Tryz.func297,Tryz.ntmps297
 go_wp2;go_ret;exact⟨rfl,rfl⟩
theorem Mx{w w':Y}(h:B9 w w'):w.grownBy w' none:=⟨h.os,h.tape,h.output,h.size,fun k hk _=>h.block k hk⟩
def aB(d:Dc)(h:Nat)(xs:List {a:Nat//a<d.x}):Prop:=xs.map (·.1)=Ex d.x (h%d.x) d.x
def Wb(d:Dc)(h:Nat)(xs:List {a:Nat//a<d.x}):Prop:=xs.map (·.1)<+:Ex d.x (h%d.x) d.x
def L7(d:Dc)(h j:Nat)(xs:List {a:Nat//a<d.x}):Prop:=xs.map (·.1)=Ex d.x (h%d.x) j
theorem L7.len{d:Dc}{h j:Nat}{xs:List {a:Nat//a<d.x}}(e:L7 d h j xs):xs.length=j:=by
 have:=congrArg List.length e
 rwa [AaB,Le]at this
theorem L7.snoc{d:Dc}{h j:Nat}{xs:List {a:Nat//a<d.x}}(e:L7 d h j xs)(hx:(h%d.x+j)%d.x<d.x):L7 d h (j+1) (xs++[⟨(h%d.x+j)%d.x,hx⟩]):=by
 unfold L7 at*;rw[Aac,e,OJ];rfl
theorem L7.pre{d:Dc}{h j:Nat}{xs:List {a:Nat//a<d.x}}(e:L7 d h j xs)(hj:j<=d.x):Wb d h xs:=by
 unfold L7 at e;unfold Wb;rw[e];exact QX hj
theorem Mv(n:Nat)(hn:1<=n)(T:World->Prop)(m:DT T)(bk R2 I kb:Nat)(d:Dc)(v:Vl)(h n0:Nat)(V:NV T v h)(w:Y)(X:T w)(hx:d.x<=4194304)
  (m0:w.cell? (G I 0)=some (.pointer (some (G bk 2)))) (c2:w.cell? (G bk 2)=some KY) (c3:w.cell? (G bk 3)=some (S9 R2 d.x d.x))
  (k0:w.cell? (G kb 0)=some (J v.kind)) (k1:w.cell? (G kb 1)=some (J v.num)) (k2:w.cell? (G kb 2)=some (F9 v.Ae)) (k3:w.cell? (G kb 3)=some (.string v.str)) (k4:w.cell? (G kb 4)=some (J v.ref)):
  SeqStopsK Fence.wide n Tryz.prog 308 #[Q9 I,Q9 kb] (fun a:{a:Nat//a<d.x}=>#[J (a.1:Int)]) (Below n0)
   (aB d h) (Wb d h) d.x w:=fun l Z Jx W b hJ L hY h0=>by
 have lm:=Hi _ _ m0;have lb:=Hi _ _ c2;have q:=Hi _ _ k0;have m0:=(b.cell (p:=(G I 0)) lm).trans m0;have c2:=(b.cell (p:=(G bk 2)) lb).trans c2;have c3:=(b.cell (p:=(G bk 3)) lb).trans c3;have k0:=(b.cell (p:=(G kb 0)) q).trans k0;have k1:=(b.cell (p:=(G kb 1)) q).trans k1;have k2:=(b.cell (p:=(G kb 2)) q).trans k2;have k3:=(b.cell (p:=(G kb 3)) q).trans k3;have k4:=(b.cell (p:=(G kb 4)) q).trans k4;have ad:I<W.heap.size:=Be lm b.size;have ae:bk<W.heap.size:=Be lb b.size;have af:kb<W.heap.size:=Be q b.size;have HT:=O (m _ _ X b);have M:=O m;have HH:=O V;have HJ:=O hJ;have HY:=O hY;have H0:=O h0;clear L hJ hY X b m V h0;refine callsIn_of_wp Tryz.func308 rfl trivial ?_ rfl;simp only[Tryz.ntmps308,Aas,Aad,UP,Nat.reduceAdd,Nat.reduceSub,Aag,Aaf,Aat,Aak,So,Aal];by_cases g:d.x=0
 ·have s:((d.x:Int)==0)=true:=by simp[g]
  have P:=O g;clear g
  gi_wp2
  refine DO (results_none rfl _ _ _) rfl ?_;exact⟨⟨_,rfl⟩,.inl ⟨[],by unfold aB;rw[z P];rfl,H0⟩⟩
 have s:((d.x:Int)==0)=false:=by simp[g]
 have t:0<d.x:=by omega
 gi_wp2
 refine wpIn_wide.2 ?_;refine qr W ?_;refine N (h:=N (h:=N (h:=N (h:=N (h:=?_)))));refine GS (fun K hK=>?_);go_simp;refine⟨_,fun w' u=>qk u ((HH.call _ (M _ _ HT u))),hK _ ?_⟩;clear hK K;obtain⟨a0,k⟩:∃a0,a0=h%d.x:=⟨_,rfl⟩;have Q:(h:Int).tmod (d.x:Int)=(a0:Int):=by rw[k,Int.tmod_eq_emod_of_nonneg (by omega)];exact(Int.natCast_emod _ _).symm
 have ag:a0<d.x:=by rw[k];exact Aae _ t
 have ah:=HH.lt;have A:=O k;clear k;refine N (h:=N (h:=N (h:=?_)));refine GO ?_;intro w2 B;have C:=O (HJ [] W w2 none H0 (Mx B) (fun r e=>by cases e));clear B Q m0 c2 c3 k0 k1 k2 k3 k4
 gi_wp2
 gi_loopw [24] (fun i wr=>∃(j:Nat) (pre:List {a:Nat//a<d.x}),j<=d.x/\i=.int .u64 (j:Int)/\L7 d h j pre/\Z pre wr) (fun i _=>d.x-(intOf i).toNat)
 case atStart=>exact⟨0,[],by omega,rfl,rfl,C⟩
 case round=>
  clear C;obtain⟨j,pre,hj,rfl,c,o⟩:=hrel;by_cases R:j<d.x
  ·obtain⟨a1,D⟩:∃a1,a1=(a0+j)%d.x:=⟨_,rfl⟩;have f:a1<d.x:=by rw[D];exact Aae _ t
   have ai:((a0:Int)+(j:Int)).tmod (d.x:Int)=(a1:Int):=by rw[D,Int.tmod_eq_emod_of_nonneg (by omega),Int.natCast_emod,Int.natCast_add]
   obtain⟨fn,tmps,assign,body,hy,hR⟩:=z HY pre ⟨a1,f⟩ wr o (by rw[c.len];exact R);have E:Hid (L7 d h (j+1) (pre++[⟨a1,f⟩])):=O (by
    have:=c.snoc (by rw[<-z A,<-D];exact f);simp only[<-z A,<-D]at this;exact this)
   have S:=O hR;clear hR c o D;dsimp only at hy
   gi_wp2
   refine S.mono ?_;rintro e W3 (⟨rfl,U,aj⟩|⟨rfl,F⟩)
   ·clear S hy
    gi_wp2
    go_roundw
    case rel=>exact⟨j+1,_,by omega,by go_num,E,U⟩
    case measure=>simp[intOf];omega
   ·clear S hy
    gi_wp2
    refine DO (results_none rfl _ _ _) rfl ?_;exact⟨⟨_,rfl⟩,.inr ⟨_,E.pre (by omega),F⟩⟩
  ·have H:j=d.x:=by omega
   subst H;have HS:=O c;clear c
   gi_wp2
   go_end0;exact⟨⟨_,rfl⟩,.inl ⟨pre,HS,o⟩⟩
def Stop(d:Dc)(v:Vl)(a:Nat):Prop:=d.X a=0\/(0<d.X a/\Ap (d.at (d.X a)).key v=true)
open Classical in
noncomputable def Ob(d:Dc)(v:Vl):List Nat->Option Nat
 |[]=>none
 |a::l=>if d.X a=0 then none else if 0<d.X a/\Ap (d.at (d.X a)).key v=true then some a else Ob d v l
theorem RO{d:Dc}{v:Vl}{l:List Nat}(h:∀a∈l,¬Stop d v a):Ob d v l=none:=by
 induction l with
 |nil=>rfl
 |cons a l ih=>
  have h1:=h a (by simp);unfold Ob;rw[Cs (fun e=>h1 (.inl e)),Cs (fun e=>h1 (.inr e))];exact ih (fun b hb=>h b (by simp[hb]))
theorem RP{d:Dc}{v:Vl}{l f:List Nat}{a:Nat}(h:∀b∈l,¬Stop d v b)(g:l++[a]<+:f)(hs:Stop d v a):Ob d v f=if d.X a=0 then none else some a:=by
 obtain⟨r,rfl⟩:=g
 induction l with
 |nil=>
  show(if _ then _ else _)=_;by_cases e:d.X a=0
  ·rw[C3 e,C3 e]
  ·rw[Cs e,Cs e,C3 (hs.resolve_left e)]
 |cons b l ih=>
  have h1:=h b (by simp);show(if _ then _ else _)=_;rw[Cs (fun e=>h1 (.inl e)),Cs (fun e=>h1 (.inr e))];exact ih (fun c hc=>h c (by simp[hc]))
theorem QP{d:Dc}{v:Vl}(hx:0<d.x):∀(f a:Nat),a<d.x->probe d v a f=Ob d v (Ex d.x a f):=by
 intro f
 induction f with
 |zero=>intro a _;rfl
 |succ f ih=>
  intro a b;have e:Ex d.x a (f+1)=a::Ex d.x ((a+1)%d.x) f:=by
   unfold Ex;rw[List.range_succ_eq_map];simp only[List.map_cons,List.map_map,Nat.add_zero,AaF b]
   congr 1
   apply List.map_congr_left;intro j _;simp only[Function.comp];rw[Nat.mod_add_mod]
   congr 1
   omega
  rw[e];show(if _ then _ else _)=(if _ then _ else _);rw[ih _ (Aae _ hx)]
theorem JV{d:Dc}{v:Vl}{h:Nat}:Bi d v h=Ob d v (Ex d.x (h%d.x) d.x):=by
 unfold Bi;by_cases a:d.x=0
 ·rw[C3 a,a];rfl
 ·rw[Cs a];exact QP (by omega) _ _ (Aae _ (by omega))
theorem CN{W W':Y}(h:B9 W W'):KeepsOthers W W':=⟨h.size,fun k o hk _=>(h.block k (E1.1 hk).1).trans hk⟩
theorem Mr(T:World->Prop)(ae:DT T)(bk R0 R1 R2:Nat)(E S:Nat->Nat)(d:Dc)(v:Vl)(h:Nat)(hh:NV T v h)(w:Y)(hT:T w)(hB:I0 w bk R0 R1 R2 E S d)(hS:Small d)(h4:D4 d):
  C9 280 #[.pointer (some (G bk 2)),V v.kind v.num v.Ae v.str v.ref] w (R9 (J (Hz (Bi d v h))) w):=by
 have hx:=hS.x;refine(VC (n:=10)).1 ?_;refine AaP Tryz.func280 rfl trivial ?_ rfl;simp only[Tryz.ntmps280,Aas,Aad,UP,Nat.reduceAdd,Nat.reduceSub,Aag,Aaf,Aat,Aak,So,Aal]
 gi_wp2_with (refine⟨trivial,?_⟩;gi_at_call 297;refine(VC.2 (Qn (some (G bk 2)) v _)).mono ?_;rintro e w' ⟨rfl,rfl⟩)
 obtain⟨u,hu⟩:∃u,u=((((w.alloc (.cells #[.pointer (some (G bk 2))] 377)).alloc (.cells #[J v.kind,J v.num,F9 v.Ae,.string v.str,J v.ref] 43)).alloc (.cells #[J 0] 3)).alloc (.cells #[.pointer (some (G bk 2))] 377)).alloc (.cells #[J v.kind,J v.num,F9 v.Ae,.string v.str,J v.ref] 43):=⟨_,rfl⟩;rw[<-hu];have zu:u.heap.size=w.heap.size+5:=by rw[hu];simp
 have bu:B9 w u:=by rw[hu];exact((((n9).alloc (by simp) _).alloc (by simp;omega) _).alloc (by simp;omega) _).alloc (by simp;omega) _
 have n0:u.cell? (y w 0)=some (.pointer (some (G bk 2))):=by rw[hu];simp[go_sem]
 have i0:u.cell? (Y9 w 0)=some (J v.kind):=by rw[hu];simp[go_sem]
 have i1:u.cell? (Y9 w 1)=some (J v.num):=by rw[hu];simp[go_sem]
 have i2:u.cell? (Y9 w 2)=some (F9 v.Ae):=by rw[hu];simp[go_sem]
 have i3:u.cell? (Y9 w 3)=some (.string v.str):=by rw[hu];simp[go_sem]
 have i4:u.cell? (Y9 w 4)=some (J v.ref):=by rw[hu];simp[go_sem]
 have r0:u.cell? (Z9 w 0)=some (J 0):=by rw[hu];simp[go_sem]
 have r1:u.frozen? (Z9 w 0)=false:=by rw[hu];simp[go_sem]
 have m0:u.cell? (G (w.heap.size+1+1+1) 0)=some (.pointer (some (G bk 2))):=by rw[hu];simp[go_sem]
 have j0:u.cell? (G (w.heap.size+1+1+1+1) 0)=some (J v.kind):=by rw[hu];simp[go_sem]
 have j1:u.cell? (G (w.heap.size+1+1+1+1) 1)=some (J v.num):=by rw[hu];simp[go_sem]
 have j2:u.cell? (G (w.heap.size+1+1+1+1) 2)=some (F9 v.Ae):=by rw[hu];simp[go_sem]
 have j3:u.cell? (G (w.heap.size+1+1+1+1) 3)=some (.string v.str):=by rw[hu];simp[go_sem]
 have j4:u.cell? (G (w.heap.size+1+1+1+1) 4)=some (J v.ref):=by rw[hu];simp[go_sem]
 have F:=hB.below bu;have ai:=ae _ _ hT bu;clear hu;refine AaO rfl (by decide) (gf:=308) (lb:=#[Q9 (w.heap.size+1+1+1),Q9 (w.heap.size+1+1+1+1)]) rfl trivial (enters_of Tryz.func308 (by kernel_rfl) rfl)
  (Mv 9 (by decide) T ae bk R2 (w.heap.size+1+1+1) (w.heap.size+1+1+1+1) d v h w.heap.size hh u ai hx m0 F.c2 F.c3 j0 j1 j2 j3 j4) belowK_t (belowK_b (by omega)) (DD _ _) (fun _=>rfl)
  (fun pre W=>((∀Z∈pre,¬Stop d v Z.1)/\W.cell? (y w 0)=some (.pointer (some (G bk 2)))/\W.cell? (Y9 w 0)=some (J v.kind)/\W.cell? (Y9 w 1)=some (J v.num)/\W.cell? (Y9 w 2)=some (F9 v.Ae)/\W.cell? (Y9 w 3)=some (.string v.str)/\W.cell? (Y9 w 4)=some (J v.ref)/\W.cell? (Z9 w 0)=some (J 0)/\W.frozen? (Z9 w 0)=false)/\B9 w W)
  (fun c pre W=>(c=.ret/\(∃i a,pre=i++[a]/\(∀Z∈i,¬Stop d v Z.1)/\Stop d v a.1/\W.cell? (Z9 w 0)=some (J (Hz (if d.X a.1=0 then none else some a.1)))))/\B9 w W)
  (OwnFrom.and (Own.from (fun s A B row hs hg M=>⟨hs.1,IF hs.2.1 hg M,IF hs.2.2.1 hg M,IF hs.2.2.2.1 hg M,IF hs.2.2.2.2.1 hg M,IF hs.2.2.2.2.2.1 hg M,IF hs.2.2.2.2.2.2.1 hg M,IF hs.2.2.2.2.2.2.2.1 hg M,(frozen_kept hs.2.2.2.2.2.2.2.1 hg M).trans hs.2.2.2.2.2.2.2.2⟩) _) (ownFrom_below (A0 _) (by omega)))
  (fun c=>OwnFrom.and (Own.from (fun s A B row hs hg M=>⟨hs.1,by obtain⟨i,a,h1,h2,h3,h4⟩:=hs.2;exact⟨i,a,h1,h2,h3,IF h4 hg M⟩⟩) _) (ownFrom_below (A0 _) (by omega)))
  ⟨⟨by simp,n0,i0,i1,i2,i3,i4,r0,r1⟩,bu⟩
  ?a1 ?assign ?body ?done ?stop
 case assign=>
  intro l x W K hK
  gi_wp2
  exact hK
 case body=>
  rintro l pre ⟨a,ha⟩ W ⟨⟨R,g0,e0,e1,e2,e3,U,H,s1⟩,m⟩ _;have q:=hB.below m;have c3:=q.c3;have p0:=q.r2 a ha;have t:=q.sl a ha;have lW:bk<W.heap.size:=q.lt;have lR:R2<W.heap.size:=q.l2;have z0:=Hi _ _ g0;have k:=Hi _ _ e0;have z2:=Hi _ _ H;dsimp only at z0 k z2;have HP:=O R;have j:=O m;clear q R m n0 i0 i1 i2 i3 i4 r0 r1 m0 j0 j1 j2 j3 j4 F ai bu zu hB hT hh ae;rcases h4.2.1 a ha with hs|hs|hs
  ·have I:Stop d v a:=.inl hs;have HS:=O I;rw[show Dd S a (d.X a)=none from C3 hs]at p0;have HX:Hid (Hz (if d.X a=0 then none else some a)=-1):=O (by rw[C3 hs];rfl);clear t hs I
   gi_wp2
   exact⟨TC _ _ _,⟨rfl,pre,⟨a,ha⟩,rfl,HP,HS,by rw[z HX];exact NX _ _ _ (by rw[H];rfl)⟩,j.setCell (p:=(Z9 w 0)) (by show w.heap.size<=w.heap.size+1+1;omega) _⟩
  ·have L:¬Stop d v a:=fun h=>by rcases h with h|h<;>omega
   have HS:=O L;rw[show Dd S a (d.X a)=some (G (S a) 0)from Cs (by omega)]at p0;obtain⟨ak,ar⟩:=t.2 (by omega);clear t hs L
   gi_wp2
   refine wpIn_region_quiet (C:=fun w'=>B9 W w') (by kernel_rfl) (by kernel_rfl) (by kernel_rfl) ((DD _ _).drew) ?_;show wpQuiet _ _ _ _ [_,_,_,_,_,_,_,_,_,_,_,_,_] _;refine N (h:=N (h:=N (h:=N (h:=N (h:=N (h:=?_))))));iterate 6 (go_big_quiet_step (fail))
   refine N (h:=?_);refine GO ?_;intro w2 f;have HK:=O (CN f);have o:=O f;have g0:=(f.cell (p:=(y w 0)) z0).trans g0;have e0:=(f.cell (p:=(Y9 w 0)) k).trans e0;have e1:=(f.cell (p:=(Y9 w 1)) k).trans e1;have e2:=(f.cell (p:=(Y9 w 2)) k).trans e2;have e3:=(f.cell (p:=(Y9 w 3)) k).trans e3;have U:=(f.cell (p:=(Y9 w 4)) k).trans U;have H:=(f.cell (p:=(Z9 w 0)) z2).trans H;have s1:=(f.frozen (p:=(Z9 w 0)) z2).trans s1;clear f
   gi_wp2
   exact⟨HK,o.mono j.size,⟨fun Z hy=>(AaM.1 hy).elim (HP Z) (fun e=>by simp at e;subst e;exact HS),g0,e0,e1,e2,e3,U,H,s1⟩,j.trans (o.mono j.size)⟩
  ·rw[show Dd S a (d.X a)=some (G (S a) 0)from Cs (by omega)]at p0;obtain⟨ak,f0,f1,f2,f3,f4,f5,f6⟩:=t.1 hs.1;have af:=hs.1;generalize P:(d.at (d.X a)).key=g at*;cases Q:Ap g v
   ·have L:¬Stop d v a:=fun h=>by
     rcases h with h|h
     ·omega
     ·rw[P,Q]at h;exact absurd h.2 (by decide)
    have HS:=O L;have ao:(g.kind==v.kind&&(g.num==v.num&&((O9 g.Ae v.Ae==some .eq)&&(g.str.toList==v.str.toList&&g.ref==v.ref))))=false:=Q;clear t hs L af P
    gi_wp2
    refine wpIn_region_quiet (C:=fun w'=>B9 W w') (by kernel_rfl) (by kernel_rfl) (by kernel_rfl) ((DD _ _).drew) ?_;show wpQuiet _ _ _ _ [_,_,_,_,_,_,_,_,_,_,_,_,_] _;refine N (h:=N (h:=N (h:=N (h:=N (h:=N (h:=N (h:=N (h:=N (h:=N (h:=N (h:=?_)))))))))));refine GS (fun K hK=>?_);go_simp;refine⟨.bool false,fun w' aq=>?_,hK _ ?_⟩
    ·by_cases q1:g.kind=v.kind<;>by_cases q2:g.num=v.num<;>by_cases q3:O9 g.Ae v.Ae=some Ordering.eq<;>by_cases q4:g.str.toList=v.str.toList<;>by_cases q5:g.ref=v.ref<;>simp_all
    clear hK K;refine N (h:=?_);refine GO ?_;intro w2 f;have HK:=O (CN f);have o:=O f;have g0:=(f.cell (p:=(y w 0)) z0).trans g0;have e0:=(f.cell (p:=(Y9 w 0)) k).trans e0;have e1:=(f.cell (p:=(Y9 w 1)) k).trans e1;have e2:=(f.cell (p:=(Y9 w 2)) k).trans e2;have e3:=(f.cell (p:=(Y9 w 3)) k).trans e3;have U:=(f.cell (p:=(Y9 w 4)) k).trans U;have H:=(f.cell (p:=(Z9 w 0)) z2).trans H;have s1:=(f.frozen (p:=(Z9 w 0)) z2).trans s1;clear f
    gi_wp2
    exact⟨HK,o.mono j.size,⟨fun Z hy=>(AaM.1 hy).elim (HP Z) (fun e=>by simp at e;subst e;exact HS),g0,e0,e1,e2,e3,U,H,s1⟩,j.trans (o.mono j.size)⟩
   ·have I:Stop d v a:=.inr ⟨af,by rw[P];exact Q⟩;have HS:=O I;have HX:Hid (Hz (if d.X a=0 then none else some a)=(a:Int)):=O (by rw[Cs (by omega)];rfl);have ao:(g.kind==v.kind&&(g.num==v.num&&((O9 g.Ae v.Ae==some .eq)&&(g.str.toList==v.str.toList&&g.ref==v.ref))))=true:=Q;clear t hs I af P
    gi_wp2
    refine wpIn_region_quiet (C:=fun w'=>B9 W w') (by kernel_rfl) (by kernel_rfl) (by kernel_rfl) ((DD _ _).drew) ?_;show wpQuiet _ _ _ _ [_,_,_,_,_,_,_,_,_,_,_,_,_] _;refine N (h:=N (h:=N (h:=N (h:=N (h:=N (h:=N (h:=N (h:=N (h:=N (h:=N (h:=?_)))))))))));refine GS (fun K hK=>?_);go_simp;refine⟨.bool true,fun w' aq=>?_,hK _ ?_⟩
    ·by_cases q1:g.kind=v.kind<;>by_cases q2:g.num=v.num<;>by_cases q3:O9 g.Ae v.Ae=some Ordering.eq<;>by_cases q4:g.str.toList=v.str.toList<;>by_cases q5:g.ref=v.ref<;>simp_all
    clear hK K;refine N (h:=?_);refine GO ?_;intro w2 f;have HK:=O (CN f);have o:=O f;have g0:=(f.cell (p:=(y w 0)) z0).trans g0;have e0:=(f.cell (p:=(Y9 w 0)) k).trans e0;have e1:=(f.cell (p:=(Y9 w 1)) k).trans e1;have e2:=(f.cell (p:=(Y9 w 2)) k).trans e2;have e3:=(f.cell (p:=(Y9 w 3)) k).trans e3;have U:=(f.cell (p:=(Y9 w 4)) k).trans U;have H:=(f.cell (p:=(Z9 w 0)) z2).trans H;have s1:=(f.frozen (p:=(Z9 w 0)) z2).trans s1;clear f
    gi_wp2
    exact⟨HK.trans (TC _ _ _),⟨rfl,pre,⟨a,ha⟩,rfl,HP,HS,by rw[z HX];exact NX _ _ _ (by rw[H];rfl)⟩,(j.trans (o.mono j.size)).setCell (p:=(Z9 w 0)) (by show w.heap.size<=w.heap.size+1+1;omega) _⟩
 case done=>
  rintro D ys W hD aj ⟨⟨R,_,_,_,_,_,_,ag,au⟩,m⟩ hK;have HR:Hid (Bi d v h=none):=O (by
   rw[JV,<-show ys.map (·.1)=Ex d.x (h%d.x) d.x from aj];exact RO (fun a ha=>by obtain⟨Z,hy,rfl⟩:=List.mem_map.1 ha;exact R Z hy))
  clear aj R hh hB F
  gi_wp2
  have hK':=(TC W (Z9 w 0) (J (-1))).same D _ hK rfl;refine⟨by simp,.inl ⟨_,_,rfl,AaE hK',?_⟩⟩;have ah:=IF (NX W (Z9 w 0) (J (-1)) (by rw[ag];rfl)) (ID _ D (.deferred none)) (fun r e=>by cases e;exact⟨_,hK',rfl⟩);refine⟨J (-1),?_,by rw[z HR];rfl,(m.setCell (p:=(Z9 w 0)) (by show w.heap.size<=w.heap.size+1+1;omega) _).trans (belowK_b (w:=w) (A0 _) _ D _ _ (by omega) hK' rfl rfl)⟩;simp[results,Tryz.f280,go_sem,ah]
 case stop=>
  rintro D c pre W hD ad ⟨⟨rfl,i,a,rfl,h1,h2,ag⟩,m⟩ hK;have HR:Hid (Bi d v h=if d.X a.1=0 then none else some a.1):=O (by
   rw[JV];have R:(i++[a]).map (·.1)<+:Ex d.x (h%d.x) d.x:=ad;rw[Aac]at R;exact RP (fun b hb=>by obtain⟨Z,hy,rfl⟩:=List.mem_map.1 hb;exact h1 Z hy) R h2)
  clear ad h1 h2 hh hB F
  gi_wp2
  refine⟨by simp,.inl ⟨_,_,rfl,AaE hK,?_⟩⟩;have ah:=IF ag (ID _ D (.deferred none)) (fun r e=>by cases e;exact⟨_,hK,rfl⟩);refine⟨J (Hz (if d.X a.1=0 then none else some a.1)),?_,by rw[z HR],m.trans (belowK_b (w:=w) (A0 _) W D _ _ (by omega) hK rfl rfl)⟩;simp[results,Tryz.f280,go_sem,ah]
end
section
open Go.RowKit
attribute [local go_sem] AA Aw
theorem Cb(v:Vl)(m:Nat)(w:Y)(b:m<=4194304):
  C9 268 #[V v.kind v.num v.Ae v.str v.ref,J (m:Int)] w (R9 (.bool (tells (AH m v))) w):=by
 have a:=O (show tells (AH m v)=(v.kind==2&&(decide (1<=v.num)&&decide (v.num<=(m:Int)))) by unfold AH tells;simp;rfl);cases h1:v.kind==2<;>cases h2:decide (1<=v.num)<;>cases h3:decide (v.num<=(m:Int))<;>(rw[h1,h2,h3]at a;go_enter Tryz.func268,Tryz.ntmps268;go_wp2;go_ret;exact⟨by rw[z a];simp,n9⟩)
theorem TI{v:Vl}(h:Db v=true)(hk:v.kind=2):(O9 v.Ae 0==some .eq)=true/\v.str.toList.isEmpty=true/\v.ref=0:=by
 have a:v.ok=true:=by unfold Db at h;simp only[OR]at h;exact h.1.1
 unfold Vl.ok AB at a;simp only[hk]at a;simp[fz]at a;exact⟨by simp[a],by simp[a],a.2⟩
end
section
open Go.RowKit Go.Shelf
attribute [local go_sem] AA Aw Oper.semAt_some
def CO(E:Nat->Nat)(p:Int):Option Addr:=if 0<=p then some (G (E p.toNat) 0)else none
theorem K8{d:Dc}(h3:D3 d)(h4:D4 d)(v:Vl)(h:Nat):-1<=AE d v h/\AE d v h<d.n:=by
 unfold AE;by_cases hs:AH d.m v
 ·rw[C3 hs];have:=hs.2.1;have:=hs.2.2;rcases h3.1 (v.num-1).toNat (by omega)with hh|hh<;>omega
 ·rw[Cs hs];cases e:Bi d v h with
  |none=>exact⟨by show(-1:Int)<=-1;omega,by show(-1:Int)<_;omega⟩
  |some s=>
   obtain⟨h1,h2⟩:=OL e;show -1<=d.X s-1/\d.X s-1<d.n;rcases h4.2.1 s h1 with hh|hh|hh<;>omega
theorem Ig(T:World->Prop)(A:DT T)(bk R0 R1 R2:Nat)(E S:Nat->Nat)(d:Dc)(v:Vl)(h:Nat)(hh:NV T v h)(w:Y)(hT:T w)(hB:I0 w bk R0 R1 R2 E S d)(L:Small d)(h3:D3 d)(h4:D4 d):
  C9 263 #[.pointer (some (G bk 0)),V v.kind v.num v.Ae v.str v.ref] w (R9 (.pointer (CO E (AE d v h))) w):=by
 have hm:=L.m;have hx:=L.x;have hn:=L.n;obtain⟨W,i⟩:∃W,W=w.alloc (.cells #[J v.kind,J v.num,F9 v.Ae,.string v.str,J v.ref] 43):=⟨_,rfl⟩;have j:B9 w W:=by rw[i];exact(DD _ _).alloc (A0 _) _
 have g:=hB.below j;obtain⟨k1,c1⟩:=g.c1;have lb:=g.lt;have l1:=g.l1;have c:w.heap.size<W.heap.size:=by rw[i];simp
 have q0:W.cell? (y w 0)=some (J v.kind):=by rw[i];simp[go_sem]
 have q1:W.cell? (y w 1)=some (J v.num):=by rw[i];simp[go_sem]
 have q2:W.cell? (y w 2)=some (F9 v.Ae):=by rw[i];simp[go_sem]
 have q3:W.cell? (y w 3)=some (.string v.str):=by rw[i];simp[go_sem]
 have q4:W.cell? (y w 4)=some (J v.ref):=by rw[i];simp[go_sem]
 have k:=O j;have M:=O g;have HT:=O (A _ _ hT j);have B:=O A;have HH:=O hh;have HS:=O L;have H3:=O h3;have H4:=O h4;clear j g hT hh L h3 h4 hB A
 go_enter Tryz.func263,Tryz.ntmps263
 go_wp2_with fail
 rw[<-i];clear i;by_cases hs:AH d.m v
 ·have C:=O (Bl hs);obtain⟨k1,k2,k3⟩:=hs;obtain⟨q,hq⟩:∃q:Nat,v.num=(q:Int)+1:=⟨(v.num-1).toNat,by omega⟩;have ad:q<d.m:=by omega
  have HR:Hid (AE d v h=d.I q-1):=O (by unfold AE;rw[C3 ⟨k1,k2,k3⟩,hq];congr 2;omega);have P:=M.r1 q ad;have hI:B1 E (d.I q)=CO E (d.I q-1):=by
   unfold B1 CO;by_cases e:0<d.I q
   ·rw[C3 e,C3 (by omega)]
   ·rw[Cs e,Cs (by omega)]
  rw[hI]at P;have ao:IntKind.i64.wrap (q:Int)=q:=by rw[It];omega
  have HQ:=O hq;clear k1 k2 k3 hI hq;refine qr W ?_;refine N (h:=N (h:=N (h:=N (h:=N (h:=N (h:=?_))))));refine GS (fun K hK=>?_);go_simp;apply Exists.intro;refine And.intro (fun w' b=>?_) (hK _ ?_)
  ·refine(((z C)▸Cb v d.m _ hm)).mono ?_;rintro e ae ⟨rfl,hb⟩;exact⟨rfl,b.trans (hb.mono b.size)⟩
  clear hK K;refine GO ?_;intro w2 a;have aq:=(a.cell (p:=(G bk 1)) lb).trans c1;have ar:=(a.cell (p:=(G R1 q)) l1).trans P;have D:=(a.cell (p:=(y w 1)) c).trans q1;rw[z HQ]at D;have Q:=Be lb a.size;have au:=Be l1 a.size;have af:=Be c a.size;have l:=O (k.trans (a.mono k.size));clear a c1 P q0 q1 q2 q3 q4;go_wp2_with fail
  go_quiet (fail)
  go_wp2;go_ret;exact⟨by rw[z HR];rfl,Ef l _⟩
 ·have C:=O (Bj hs);have HR:Hid (AE d v h=aL d (Bi d v h)):=O (by unfold AE;rw[Cs hs]);clear hs;refine qr W ?_;refine N (h:=N (h:=N (h:=N (h:=N (h:=N (h:=?_))))));refine GS (fun K hK=>?_);go_simp;apply Exists.intro;refine And.intro (fun w' b=>?_) (hK _ ?_)
  ·refine(((z C)▸Cb v d.m _ hm)).mono ?_;rintro e ae ⟨rfl,hb⟩;exact⟨rfl,b.trans (hb.mono b.size)⟩
  clear hK K;refine GO ?_;intro w2 a;have ag:=(a.cell (p:=(y w 0)) c).trans q0;have D:=(a.cell (p:=(y w 1)) c).trans q1;have ah:=(a.cell (p:=(y w 2)) c).trans q2;have ai:=(a.cell (p:=(y w 3)) c).trans q3;have aj:=(a.cell (p:=(y w 4)) c).trans q4;have af:=Be c a.size;have Q:=Be lb a.size;have l:=O (k.trans (a.mono k.size));have t:=O (M.below a);have ak:=O (B _ _ HT a);clear a q0 q1 q2 q3 q4 c1;go_wp2_with fail
  refine qr w2 ?_;refine N (h:=N (h:=N (h:=N (h:=?_))));refine GS (fun K hK=>?_);go_simp;refine⟨_,fun w' b=>qk b ((Mr T B bk R0 R1 R2 E S d v h HH _ (B _ _ ak b) (t.below b) HS H4)),hK _ ?_⟩;clear hK K;refine N (h:=?_);refine GO ?_;intro w3 F;have R:=O (l.trans (F.mono l.size));have f:=t.below F;have c3:=f.c3;have av:=f.lt;have u:=O f;clear F f ag D ah ai aj Q;cases o:Bi d v h with
  |none=>
   have r:Hid (CO E (AE d v h)=none):=O (by rw[z HR,o];rfl);simp only[Hz];go_wp2;go_ret;exact⟨by rw[z r];rfl,R⟩
  |some s=>
   obtain⟨U,Z⟩:=OL o;have H:=(u.sl s U).1 Z;have P:=u.r2 s U;rw[show Dd S s (d.X s)=some (G (S s) 0)from Cs (by omega)]at P;have p1:=H.pt;have ls:=H.lt;have r:Hid (CO E (AE d v h)=some (G (E (d.X s-1).toNat) 0)):=O (by
    rw[z HR,o];show(if 0<=d.X s-1 then _ else _)=_;rw[C3 (by omega)];rfl)
   simp only[Hz];obtain⟨q,hq⟩:∃q,q=(d.X s-1).toNat:=⟨_,rfl⟩;rw[<-hq]at p1 r;clear o Z H hq;go_wp2;go_ret;exact⟨by rw[z r];rfl,R⟩
abbrev He(d:Dc):Type:={i:Nat//i<d.n/\(d.L i).turn≠0}
def AU(d:Dc)(k:Nat):List Nat:=(List.range k).filter (fun i=>(d.L i).turn !=0)
def V6(d:Dc)(xs:List (He d)):Prop:=xs.map (·.1)=AU d d.n
def P3(d:Dc)(xs:List (He d)):Prop:=xs.map (·.1)<+:AU d d.n
def G8(d:Dc)(k:Nat)(xs:List (He d)):Prop:=xs.map (·.1)=AU d k
theorem Ct{d:Dc}{k:Nat}(h:(d.L k).turn=0):AU d (k+1)=AU d k:=by
 unfold AU;rw[List.range_succ,List.filter_append];simp[h]
theorem Br{d:Dc}{k:Nat}(h:(d.L k).turn≠0):AU d (k+1)=AU d k++[k]:=by
 unfold AU;rw[List.range_succ,List.filter_append];simp[h]
theorem Iq(d:Dc)(k:Nat):(AU d k).length<=k:=by
 unfold AU;have:=List.length_filter_le (fun i=>(d.L i).turn !=0) (List.range k);simpa using this
theorem ER{d:Dc}{k n:Nat}(h:k<=n):AU d k<+:AU d n:=by
 obtain⟨j,rfl⟩:∃j,n=k+j:=⟨n-k,by omega⟩
 induction j with
 |zero=>exact List.prefix_refl _
 |succ j ih=>
  refine(ih (by omega)).trans ?_;by_cases e:(d.L (k+j)).turn=0
  ·rw[show k+(j+1)=k+j+1 by omega,Ct e];exact List.prefix_refl _
  ·rw[show k+(j+1)=k+j+1 by omega,Br e];exact List.prefix_append _ _
theorem G8.pre{d:Dc}{k:Nat}{xs:List (He d)}(h:G8 d k xs)(hk:k<=d.n):P3 d xs:=by
 unfold G8 at h;unfold P3;rw[h];exact ER hk
theorem QH{d:Dc}{k i:Nat}:i∈AU d k↔i<k/\(d.L i).turn≠0:=by
 unfold AU;simp[List.mem_filter]
theorem Fz(bk:Nat)(w:Y):
  C9 214 #[Q9 bk] w fun e w'=>e=.returned (.func (.func 248) #[] #[Q9 w.heap.size])/\w'=w.alloc (.cells #[Q9 bk] 289):=by
 go_enter Tryz.func214,Tryz.ntmps214
 go_wp2;go_ret;exact⟨rfl,rfl⟩
theorem JF(n:Nat)(hn:1<=n)(bk A U R2 B n0:Nat)(E S:Nat->Nat)(d:Dc)(w:Y)(M:I0 w bk A U R2 E S d)(P:Small d)(V:A<n0)(Q:∀i,i<d.n->E i<n0)
  (m0:w.cell? (G B 0)=some (Q9 bk)):
  SeqStopsK Fence.wide n Tryz.prog 248 #[Q9 B] (fun a:He d=>#[Q9 (E a.1)]) (Below n0)
   (V6 d) (P3 d) d.n w:=fun l Z Jx W C X D R T=>by
 have lm:=Hi _ _ m0;have m0:=(C.cell (p:=(G B 0)) lm).trans m0;have c:=M.below C;obtain⟨a0,k0,c0,q⟩:=c.c0;have F:=O q;clear q;have lb:=c.lt;have ad:=P.n;have HY:=O R;have H0:=O T;have r:=O c;have HE:=O Q;clear D X R C T c M P Q;refine callsIn_of_wp Tryz.func248 rfl trivial ?_ rfl;simp only[Tryz.ntmps248,Aas,Aad,UP,Nat.reduceAdd,Nat.reduceSub,Aag,Aaf,Aat,Aak,So,Aal]
 gi_wp2
 gi_loopw [10] (fun i wr=>∃(k:Nat) (pre:List (He d)),k<=d.n/\i=J (k:Int)/\G8 d k pre/\Z pre wr/\Below n0 W wr) (fun i _=>d.n-(intOf i).toNat)
 case atStart=>exact⟨0,[],by omega,rfl,rfl,H0,DD _ _⟩
 case round=>
  obtain⟨k,pre,hk,rfl,f,g,j⟩:=hrel;by_cases b:k<d.n
  ·obtain rfl:=z F (by omega);have p0:=(j.cell (p:=(G A k)) V).trans (r.r0 k b);have t0:=(j.cell (p:=(G (E k) 10)) (HE k b)).trans (r.Ca k b).tn;have m:=O f;have s:=O j;clear f j;by_cases o:(d.L k).turn=0
   ·have x:Hid (G8 d (k+1) pre):=O (by unfold G8;rw[Ct o];exact m);rw[o]at t0;clear o
    gi_wp2
    refine⟨fun _ h=>(by cases h),?_⟩
    gi_wp2
    go_roundw
    case rel=>exact⟨k+1,pre,by omega,by go_num,x,g,s⟩
    case measure=>simp[intOf];omega
   ·have ae:((d.L k).turn !=0)=true:=by simp[o]
    obtain⟨fn,tmps,assign,body,hy,t⟩:=z HY pre ⟨k,b,o⟩ wr g (by
     have h1:(pre.map (·.1)).length=(AU d k).length:=congrArg List.length m;rw[AaB]at h1;have:=Iq d k;omega)
    have x:Hid (G8 d (k+1) (pre++[⟨k,b,o⟩])):=O (by
     unfold G8;rw[Br o,Aac,show pre.map (·.1)=AU d k from z m];rfl)
    have H:=O t;clear t g;dsimp only at hy
    gi_wp2
    refine H.mono ?_;rintro e W3 (⟨rfl,I,K⟩|⟨rfl,u⟩)
    ·clear H hy
     gi_wp2
     go_roundw
     case rel=>exact⟨k+1,_,by omega,by go_num,x,I,s.trans K⟩
     case measure=>simp[intOf];omega
    ·clear H hy
     gi_wp2
     refine DO (results_none rfl _ _ _) rfl ?_;exact⟨⟨_,rfl⟩,.inr ⟨_,x.pre (by omega),u⟩⟩
  ·have v:k=d.n:=by omega
   subst v;have HS:=O f;clear f
   gi_wp2
   go_end0;exact⟨⟨_,rfl⟩,.inl ⟨pre,HS,g⟩⟩
end
section
open Go.RowKit
attribute [local go_sem] AA Aw
theorem jC(a b:T9)(n m c d:Nat)(w:Y):(Instr.index 369 (.agg #[.slice a n c,.slice b m d]) (J 0)).run Tryz.prog w=.ok (.slice a n c) w:=by kernel_rfl
theorem jD(a b:T9)(n m c d:Nat)(w:Y):(Instr.index 369 (.agg #[.slice a n c,.slice b m d]) (J 1)).run Tryz.prog w=.ok (.slice b m d) w:=by kernel_rfl
theorem Nh(la:T9)(lc:Nat)(ia:T9)(ic:Nat)(xa:T9)(xc:Nat)(d:Dc)(w:Y)(hD:Gy w la ia xa d)(B:Small d)(h3:D3 d)(h4:D4 d):
  C9 269 #[Dv la lc ia ic xa xc d] w fun e w'=>(∃s,e=.returned (S9 s d.n d.n)/\BP w' s d.n (fun j=>EM d.I j d.m+EM d.X j d.x))/\B9 w w':=by
 have hn:=B.n;have S:=B.m;have hx:=B.x;have C:=Ow d.n hn;have H:=jC ia xa d.m d.x ic xc;have K:=jD ia xa d.m d.x ic xc;have F:=O hD;have L:=O h3;have M:=O h4;clear hD B h3 h4
 go_enter Tryz.func269,Tryz.ntmps269
 go_wp2;obtain⟨u,hu⟩:∃u,u=((w.alloc (.cells #[.slice la d.n lc,.slice ia d.m ic,.slice xa d.x xc,J d.used,J d.live,J d.turns] 322)).alloc (.cells (madeCells #[J 0] d.n) 3)):=⟨_,rfl⟩;rw[<-hu];have r:Hid (B9 w u):=O (by rw[hu];exact(n9).alloc (by simp) _);have t:Hid (BP u (w.heap.size+1) d.n (fun j=>0)):=O (by
  rw[hu];have:=Sm (w.alloc (.cells #[.slice la d.n lc,.slice ia d.m ic,.slice xa d.x xc,J d.used,J d.live,J d.turns] 322)) d.n;exact⟨_,by simpa[Value.cells]using this,fun j hj=>rfl⟩)
 clear hu C;go_loopw [20] (fun i wr=>(i=J 0/\BP wr (w.heap.size+1) d.n (fun j=>0)/\B9 w wr)\/(i=J 1/\BP wr (w.heap.size+1) d.n (fun j=>EM d.I j d.m)/\B9 w wr)\/(i=J 2/\BP wr (w.heap.size+1) d.n (fun j=>EM d.I j d.m+EM d.X j d.x)/\B9 w wr)) (fun i _=>2-(intOf i).toNat)
 case atStart=>exact .inl ⟨rfl,t,r⟩
 case round=>
  clear t r;rcases hrel with⟨rfl,a,hb⟩|⟨rfl,a,hb⟩|⟨rfl,a,hb⟩
  ·have c:=O a;have f:=O hb;clear a hb;go_wp2;go_loopw [25] (fun i wr=>∃k:Nat,k<=d.m/\i=J k/\BP wr (w.heap.size+1) d.n (fun j=>EM d.I j k)/\B9 w wr) (fun i _=>d.m-(intOf i).toNat)
   case atStart=>exact⟨0,by omega,rfl,c,f⟩
   case round=>
    clear c f;obtain⟨k,hk,rfl,a,hb⟩:=hrel;by_cases g:k<d.m
    ·obtain⟨b,off,rfl,l,hcs⟩:=F.ints.resolve_left (by omega);have e0:=(hb.cell (p:=(G b (off+k))) l).trans (hcs k g);have D:=a.lt;have f:=O hb;rcases L.1 k g with hz|hz
     ·have c:Hid (BP wr (w.heap.size+1) d.n (fun j=>EM d.I j (k+1))):=O (a.congr (fun j hj=>by show(if _ then _ else _)=_;rw[Cs (by omega)]));rw[hz]at e0;clear hcs hb a hz;go_wp2;go_roundw
      case rel=>exact⟨k+1,by omega,by go_num,c,f⟩
      case measure=>simp[intOf];omega
     ·obtain⟨q,hq⟩:∃q:Nat,d.I k=(q:Int)+1:=⟨(d.I k-1).toNat,by omega⟩;have o:q<d.n:=by omega
      have r0:=a.cell o;have r1:=a.frozen q;have v:=RI d.I q k;have c:Hid (BP (wr.setCell (Y9 w q) (J ((EM d.I q k:Int)+1))) (w.heap.size+1) d.n (fun j=>EM d.I j (k+1))):=O (a.bump.congr (fun j hj=>by
       show(if d.I k=(j:Int)+1 then _ else _)=(if j=q then _ else _);by_cases e:j=q
       ·subst e;rw[C3 hq,C3 rfl]
       ·rw[Cs (by omega),Cs e]))
      rw[hq]at e0;clear hcs hb a hz hq;go_wp2;go_roundw
      case rel=>exact⟨k+1,by omega,by go_num,c,f.setCell (by show w.heap.size<=w.heap.size+1;omega) _⟩
      case measure=>simp[intOf];omega
    have h:k=d.m:=by omega
    subst h;have c:=O a;have f:=O hb;clear a hb hk g;go_wp2;go_roundw
    case rel=>exact .inr (.inl ⟨rfl,c,f⟩)
    case measure=>simp[intOf]
  ·have c:=O a;have f:=O hb;clear a hb;go_wp2;go_loopw [25] (fun i wr=>∃k:Nat,k<=d.x/\i=J k/\BP wr (w.heap.size+1) d.n (fun j=>EM d.I j d.m+EM d.X j k)/\B9 w wr) (fun i _=>d.x-(intOf i).toNat)
   case atStart=>exact⟨0,by omega,rfl,c,f⟩
   case round=>
    clear c f;obtain⟨k,hk,rfl,a,hb⟩:=hrel;by_cases g:k<d.x
    ·obtain⟨b,off,rfl,l,hcs⟩:=F.index.resolve_left (by omega);have e0:=(hb.cell (p:=(G b (off+k))) l).trans (hcs k g);have D:=a.lt;have f:=O hb;by_cases hz:0<d.X k
     case neg=>
      have c:Hid (BP wr (w.heap.size+1) d.n (fun j=>EM d.I j d.m+EM d.X j (k+1))):=O (a.congr (fun j hj=>by show _+(if _ then _ else _)=_;rw[Cs (by omega)]));have P:decide (0<d.X k)=false:=by simp;omega
      clear hcs hb a;go_wp2;go_roundw
      case rel=>exact⟨k+1,by omega,by go_num,c,f⟩
      case measure=>simp[intOf];omega
     ·obtain⟨q,hq⟩:∃q:Nat,d.X k=(q:Int)+1:=⟨(d.X k-1).toNat,by omega⟩;have o:q<d.n:=by rcases M.2.1 k g with hh|hh|hh<;>omega
      have r0:=a.cell o;have r1:=a.frozen q;have v:=RI d.I q d.m;have A:=RI d.X q k;have c:Hid (BP (wr.setCell (Y9 w q) (J (((EM d.I q d.m+EM d.X q k:Nat):Int)+1))) (w.heap.size+1) d.n (fun j=>EM d.I j d.m+EM d.X j (k+1))):=O (a.bump.congr (fun j hj=>by
       show _+(if d.X k=(j:Int)+1 then _ else _)=(if j=q then _ else _);by_cases e:j=q
       ·subst e;rw[C3 hq,C3 rfl];omega
       ·rw[Cs (by omega),Cs e]))
      generalize E:EM d.I q d.m+EM d.X q k=Q at r0 c;have R:Q<=8388608:=by omega
      rw[hq]at e0;clear hcs hb a hz hq E v A;go_wp2;go_roundw
      case rel=>exact⟨k+1,by omega,by go_num,c,f.setCell (by show w.heap.size<=w.heap.size+1;omega) _⟩
      case measure=>simp[intOf];omega
    have h:k=d.x:=by omega
    subst h;have c:=O a;have f:=O hb;clear a hb hk g;go_wp2;go_roundw
    case rel=>exact .inr (.inr ⟨rfl,c,f⟩)
    case measure=>simp[intOf]
  ·have c:=O a;have f:=O hb;clear a hb;go_wp2;go_ret;exact⟨⟨_,rfl,c⟩,f⟩
theorem Hp(bk h i R2:Nat)(E S:Nat->Nat)(d:Dc)(w:Y)(b:I0 w bk h i R2 E S d)(g:Small d):
  C9 270 #[Q9 bk] w (R9 (V 2 ((d.m:Int)+1) 0 ⟨#[]⟩ 0) w):=by
 have l:=g.m;obtain⟨k1,c1⟩:=b.c1;have j:=b.lt;clear b g
 go_enter Tryz.func270,Tryz.ntmps270
 go_wp2_with (go_at_call 238;refine m9 (GG ((d.m:Int)+1) _) fun w1 a=>?_;obtain⟨c,k⟩:=AJ a;have e:=a.size;simp at e)
 refine DO (v:=V 2 ((d.m:Int)+1) 0 ⟨#[]⟩ 0) (by simp[results,Tryz.results270,go_sem,c]) rfl ⟨rfl,?_⟩;have f:B9 w w1:=(n9).trans (a.mono (by simp));exact(((((f.setCell (p:=(y w 0)) (A0 _) _).setCell (p:=(y w 1)) (A0 _) _).setCell (p:=(y w 2)) (A0 _) _).setCell (p:=(y w 3)) (A0 _) _).setCell (p:=(y w 4)) (A0 _) _)
end
section
open Go.RowKit Go.Shelf
attribute [local go_sem] AA Aw Oper.semAt_some
theorem UQ:(Tryz.prog.info? 294).map (fun i=>i.size)=some 12:=by kernel_rfl
theorem Zn{w:Y}{bk f g R2:Nat}{E S:Nat->Nat}{d:Dc}(b:I0 w bk f g R2 E S d){p:Int}(h1:-1<=p)(h2:p<d.n){i:Nat}(hi:i<d.n):
  (binOp .neq 292 (.pointer (CO E p)) (Q9 (E i))).run Tryz.prog w=.ok (.bool (decide (p≠i))) w:=by
 have c:Tryz.prog.underlying 292=some (.pointer 294):=Tryz.underlying292;obtain⟨j,hj,hs⟩:=Option.map_eq_some_iff.1 UQ;unfold CO;by_cases h:0<=p
 ·rw[C3 h];by_cases e:p=i
  ·subst e;have a:∀k:Nat,(Op.equalIn (k+1) 292 (Q9 (E i)) (Q9 (E i))).run Tryz.prog w=.ok true w:=fun k=>by
    simp[Op.equalIn,run_underlying c,sizeOf,typeInfo,hj,run_sameAddr_same]
   simp only[Lo,binOp];simp[Op.equal,Op.maxDepth,a 9999]
  ·have o1:=(b.Ca p.toNat (by omega)).ob;have o2:=(b.Ca i hi).ob;have Cy:((G (E p.toNat) 0):Addr)≠(G (E i) 0):=fun l=>by
    have:=b.inj p.toNat i (by omega) hi (by simpa using l);omega
   have a:∀k:Nat,(Op.equalIn (k+1) 292 (Q9 (E p.toNat)) (Q9 (E i))).run Tryz.prog w=.ok false w:=fun k=>by
    simp[Op.equalIn,run_underlying c,sizeOf,typeInfo,hj,hs,run_sameAddr_other w Cy o1 o2]
   simp only[binOp];simp[Op.equal,Op.maxDepth,a 9999,e]
 ·rw[Cs h];have e:p≠i:=by omega
  have a:∀k:Nat,(Op.equalIn (k+1) 292 (.pointer none) (Q9 (E i))).run Tryz.prog w=.ok false w:=fun k=>by
   simp[Op.equalIn,run_underlying c,sizeOf,typeInfo]
  simp only[binOp];simp[Op.equal,Op.maxDepth,a 9999,e]
end
end Go.Proofs.YtgmlkfgfjjggnaaGreatDoor
