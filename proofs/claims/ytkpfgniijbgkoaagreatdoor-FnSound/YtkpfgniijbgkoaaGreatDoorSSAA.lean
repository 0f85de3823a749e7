import Derived.Deep.DeepCutAuto
import Derived.ProofKit
import Derived.OpenShut
import Derived.ShutString
import Derived.RangeFuncNested
import Derived.RangeFuncBound
import Derived.Shelf.RegionOpen
import Derived.OwnWalkIn
import Derived.LoopNIn
import Derived.LoopIn
import Derived.Deep.DeepHandedRow
import Derived.LaidSub
import Derived.Deep.Slices
import Derived.Deep.RegionHeld3
import Derived.Test.YtkpfgniijbgkoaaGreatDoorChecked
import Derived.WalkSpells
import Derived.WalkLawsBesides
import Derived.Shelf.Spec.TrailingZeros
import Derived.Shelf.Strconv.Itoa4
import Derived.Lib.AppendIntMem
import Derived.Lib.ItoaLen
import Derived.Deep.OwnRows
import Derived.Deep.AppendLies
set_option linter.all false
set_option maxHeartbeats 40000000
set_option maxRecDepth 100000
namespace Go.Proofs.YtkpfgniijbgkoaaGreatDoor
variable {p q:Prop}{n B b o x f k a c Z m j e0 X z2 M Ah lc ic xc o' e h:Nat}{α:Type _}{P:Program}{a3 a4 a5 a6 a7 a8 a9 a10 a11:Value}{g:Array Value}{ty:TypeId}{s t:Bool}{i num ref kind live last:Int}{la ia xa:Option Addr}{xs:List Value}
def od(h:p:=by unfold maxLen;omega):p:=h
def oe(h:p:=by simp[go_sem]):p:=h
def og(h:p:=by simp[Act.eval]):p:=h
def oh(h:p:=by simp[Value.oneCell']):p:=h
def oj(h:p:=by rw[IntKind.wrap_i64];omega):p:=h
def ol(h:p:=by assumption):p:=h
def om(h:p:=by omega):p:=h
def oo(h:p:=by decide):p:=h
def oq(h:p:=by simp):p:=h
def ot(h:p:=by simp;omega):p:=h
def ou(h:p:=by kernel_rfl):p:=h
def ov(h:p:=by go_num):p:=h
def ow(h:p:=by simp[intOf];omega):p:=h
def ox:n<=n+1:=Nat.le_succ n
def oy:n<=n+1+1:=Nat.le_add_right n 2
def oS(a:q)(h:q->p:=by intro h;simpa[Value.ownBlock]using h):p:=h a
def oT(a:q)(h:q->p:=by intro;omega):p:=h a
def o7{w w'}{x}(k:RowKit.Below B w w')(l:b<B)(h:w.cell? ⟨b,o,none⟩=x):w'.cell? ⟨b,o,none⟩=x:=(k.cell (p:=⟨b,o,none⟩) l).trans h
def o8{w w'}{x}(k:RowKit.Below B w w')(l:b<B)(h:w.frozen? ⟨b,o,none⟩=x):w'.frozen? ⟨b,o,none⟩=x:=(k.frozen (p:=⟨b,o,none⟩) l).trans h
def o9{u v w}(h:RowKit.Below u.heap.size u v)(k:RowKit.Below v.heap.size v w):RowKit.Below u.heap.size u w:=h.trans<|k.mono h.size
def qa{α:Type _}(a:α):∃x,x=a:=⟨_,rfl⟩
def qd{α:Type _}(a:α):∃x,a=x:=⟨_,rfl⟩
def qe{P:Nat->Value->Prop}{a0 a1 a2}(h:∀j u,[a0,a1,a2,a3,a4,a5,a6,a7,a8,a9,a10,a11][j]?=some u->P j u):P 0 a0/\P 1 a1/\P 2 a2/\P 3 a3/\P 4 a4/\P 5 a5/\P 6 a6/\P 7 a7/\P 8 a8/\P 9 a9/\P 10 a10/\P 11 a11:=⟨h 0 _ rfl,h 1 _ rfl,h 2 _ rfl,h 3 _ rfl,h 4 _ rfl,h 5 _ rfl,h 6 _ rfl,h 7 _ rfl,h 8 _ rfl,h 9 _ rfl,h 10 _ rfl,h 11 _ rfl⟩
def qg{P:Nat->Value->Prop}{a0 a1 a2 a12 a13}(h:∀j u,[a0,a1,a2,a3,a4,a5,a6,a7,a8,a9,a10,a11,a12,a13][j]?=some u->P j u):P 0 a0/\P 1 a1/\P 2 a2/\P 3 a3/\P 4 a4/\P 5 a5/\P 6 a6/\P 7 a7/\P 8 a8/\P 9 a9/\P 10 a10/\P 11 a11/\P 12 a12/\P 13 a13:=⟨h 0 _ rfl,h 1 _ rfl,h 2 _ rfl,h 3 _ rfl,h 4 _ rfl,h 5 _ rfl,h 6 _ rfl,h 7 _ rfl,h 8 _ rfl,h 9 _ rfl,h 10 _ rfl,h 11 _ rfl,h 12 _ rfl,h 13 _ rfl⟩
def qh{P:Nat->Value->Prop}{a0 a1 a2}(h:∀j u,[a0,a1,a2,a3,a4,a5,a6,a7][j]?=some u->P j u):P 0 a0/\P 1 a1/\P 2 a2/\P 3 a3/\P 4 a4/\P 5 a5/\P 6 a6/\P 7 a7:=⟨h 0 _ rfl,h 1 _ rfl,h 2 _ rfl,h 3 _ rfl,h 4 _ rfl,h 5 _ rfl,h 6 _ rfl,h 7 _ rfl⟩
def As:type_of%@World.cell?_of_block:=@World.cell?_of_block
def At:type_of%@Deep.blk_setCell_other:=@Deep.blk_setCell_other
def A0:type_of%@Nat.lt_of_lt_of_le:=@Nat.lt_of_lt_of_le
def Be:type_of%@Nat.le_refl:=@Nat.le_refl
def BE:type_of%@RowKit.Below.refl:=@RowKit.Below.refl
def C3:type_of%@if_neg:=@if_neg
def DD:type_of%@if_pos:=@if_pos
def DO:type_of%@Deep.blk_alloc_new:=@Deep.blk_alloc_new
def E1:type_of%@Deep.blk_alloc_lt:=@Deep.blk_alloc_lt
def Fs:type_of%@bodyPost_ret:=@bodyPost_ret
def GC:type_of%@Array.getElem?_eq_some_iff:=@Array.getElem?_eq_some_iff
def GO:type_of%@Nat.le_trans:=@Nat.le_trans
def GP:type_of%@IntKind.wrap_i64:=@IntKind.wrap_i64
def GS:type_of%@wpQuiet_step:=@wpQuiet_step
def GW:type_of%@World.frozen?_of_block:=@World.frozen?_of_block
def Hi:type_of%@cell_of_row:=@cell_of_row
def Hz:type_of%@wpQuiet_nil:=@wpQuiet_nil
def Is:type_of%@World.news_of_block:=@World.news_of_block
def It:type_of%@World.cell?_alloc_lt:=@World.cell?_alloc_lt
def ID:type_of%@World.cell?_setCell_same':=@World.cell?_setCell_same'
def IF:type_of%@World.ownsRow_nil:=@World.ownsRow_nil
def IH:type_of%@heap_setCell_same:=@heap_setCell_same
def I9:type_of%@World.block_lt_of_cell?:=@World.block_lt_of_cell?
def Lo:type_of%@World.ownsRow.cellAt:=@World.ownsRow.cellAt
def MM:type_of%@grownBy_putObj':=@grownBy_putObj'
def NB:type_of%@cell_kept:=@cell_kept
def NO:type_of%@Int.toNat_natCast:=@Int.toNat_natCast
def NX:type_of%@World.ownsRow.alloc:=@World.ownsRow.alloc
def Of:type_of%@Nat.two_pow_pos:=@Nat.two_pow_pos
def Ok:type_of%@info_parts:=@info_parts
def On:type_of%@RowKit.Below.setCell:=@RowKit.Below.setCell
def OK:type_of%@AllReadyH.cons:=@AllReadyH.cons
def ON:type_of%@wpList_append_lies:=@wpList_append_lies
def OR:type_of%@List.length_append:=@List.length_append
def PC:type_of%@World.frozen?_setCell:=@World.frozen?_setCell
def P9:type_of%@Nat.not_lt_zero:=@Nat.not_lt_zero
def Q2:type_of%@KeepsOthers.setCell:=@KeepsOthers.setCell
def Re:type_of%@step_append_lies:=@step_append_lies
def RC:type_of%@World.rowIs.lt:=@World.rowIs.lt
def So:type_of%@Nat.mul_assoc:=@Nat.mul_assoc
def SO:type_of%@List.getElem?_eq_some_iff:=@List.getElem?_eq_some_iff
def Tn:type_of%@Nat.mod_lt:=@Nat.mod_lt
def To:type_of%@Nat.zero_le:=@Nat.zero_le
def TC:type_of%@Nat.mod_eq_of_lt:=@Nat.mod_eq_of_lt
def TO:type_of%@World.rowIs.of_block:=@World.rowIs.of_block
def UP:type_of%@Nat.le_succ:=@Nat.le_succ
def VC:type_of%@List.length_nil:=@List.length_nil
def We:type_of%@World.ownsRow.stored:=@World.ownsRow.stored
def Wx:type_of%@List.nil_append:=@List.nil_append
def W0:type_of%@callsIn_wide:=@callsIn_wide
def W9:type_of%@Nat.eq_of_mul_eq_mul_right:=@Nat.eq_of_mul_eq_mul_right
def XN:type_of%@List.setIfInBounds_toArray:=@List.setIfInBounds_toArray
def X9:type_of%@Nat.zero_add:=@Nat.zero_add
def Aaa:type_of%@Nat.le_of_lt:=@Nat.le_of_lt
def Aab:type_of%@List.getElem?_eq_none:=@List.getElem?_eq_none
def Aac:type_of%@List.length_cons:=@List.length_cons
def Aad:type_of%@if_false:=@if_false
def Aae:type_of%@Array.replicate_zero:=@Array.replicate_zero
def Aaf:type_of%@Array.replicate_succ:=@Array.replicate_succ
def Aag:type_of%@Nat.add_zero:=@Nat.add_zero
def Aah:type_of%@wpList_load_row:=@wpList_load_row
def Aai:type_of%@Option.some.inj:=@Option.some.inj
def Aaj:type_of%@List.map_append:=@List.map_append
def Aak:type_of%@List.getElem?_append_left:=@List.getElem?_append_left
def Aal:type_of%@Nat.le_add_right:=@Nat.le_add_right
def Aam:type_of%@List.append_toArray:=@List.append_toArray
def Aan:type_of%@bodyPost_end:=@bodyPost_end
def Aao:type_of%@List.length_singleton:=@List.length_singleton
def Aap:type_of%@Array.getElem?_modify:=@Array.getElem?_modify
def Aaq:type_of%@Nat.pow_add:=@Nat.pow_add
def Aar:type_of%@Nat.lt_of_le_of_lt:=@Nat.lt_of_le_of_lt
def Aas:type_of%@Nat.eq_zero_or_pos:=@Nat.eq_zero_or_pos
def Aat:type_of%@Nat.mul_le_mul_right:=@Nat.mul_le_mul_right
def Aau:type_of%@List.cons_append:=@List.cons_append
def Aav:type_of%@List.getElem?_append_right:=@List.getElem?_append_right
def Aaw:type_of%@List.size_toArray:=@List.size_toArray
def Aax:type_of%@List.push_toArray:=@List.push_toArray
def Aay:type_of%@AllReadyH.nil:=@AllReadyH.nil
def Aaz:type_of%@wpAnyH_ready:=@wpAnyH_ready
def AaA:type_of%@run_float_arith:=@run_float_arith
def AaB:type_of%@Nat.pow_succ:=@Nat.pow_succ
def AaC:type_of%@Bool.and_eq_true:=@Bool.and_eq_true
def AaD:type_of%@Nat.pow_le_pow_right:=@Nat.pow_le_pow_right
def AaE:type_of%@results_none:=@results_none
def AaF:type_of%@List.ext_getElem?:=@List.ext_getElem?
def AaG:type_of%@List.mem_append:=@List.mem_append
def AaH:type_of%@List.getElem_cons_zero:=@List.getElem_cons_zero
def AaI:type_of%@List.getElem_cons_succ:=@List.getElem_cons_succ
def AaJ:type_of%@run_takeDeferred:=@run_takeDeferred
def AaK:type_of%@List.not_mem_nil:=@List.not_mem_nil
def AaL:type_of%@World.ownsRow.kept:=@World.ownsRow.kept
def AaM:type_of%@Sem.run_bind:=@Sem.run_bind
def AaN:type_of%@Nat.mul_comm:=@Nat.mul_comm
def AaO:type_of%@Classical.byContradiction:=@Classical.byContradiction
def AaP:type_of%@Array.getElem?_eq_getElem:=@Array.getElem?_eq_getElem
def AaQ:type_of%@List.getElem_toArray:=@List.getElem_toArray
def AaR:type_of%@List.length_map:=@List.length_map
def AaS:type_of%@Nat.and_two_pow_sub_one_eq_mod:=@Nat.and_two_pow_sub_one_eq_mod
def AaT:type_of%@World.grownBy_alloc:=@World.grownBy_alloc
def AaU:type_of%@ByteArray.toList_eq:=@ByteArray.toList_eq
def AaV:type_of%@List.set_cons_zero:=@List.set_cons_zero
def AaW:type_of%@List.set_cons_succ:=@List.set_cons_succ
def AaX:type_of%@Lib.itoa_length_le:=@Lib.itoa_length_le
section
open Go.RowKit
abbrev G(b o:Nat):Addr:=⟨b,o,none⟩
abbrev J(x:Int):Value:=.int .i64 x
abbrev Q9(b:Nat):Value:=.pointer<|some ⟨b,0,none⟩
abbrev S9(b n c:Nat):Value:=.slice (some ⟨b,0,none⟩) n c
abbrev B9(w w':World):Prop:=Below w.heap.size w w'
abbrev R9(v:Value)(w:World)(e:Ending)(w':World):Prop:=e=.returned v/\Below w.heap.size w w'
abbrev F9(x:Nat):Value:=.float .f64 x
abbrev E9:Value:=.string ⟨#[]⟩
abbrev O9(a b:Nat):Option Ordering:=FloatKind.f64.format.order a b
abbrev T9:Type:=Option Addr
abbrev N9:Value:=.slice none 0 0
abbrev y(w:World)(o:Nat):Addr:=⟨w.heap.size,o,none⟩
abbrev Y9(w:World)(o:Nat):Addr:=⟨w.heap.size+1,o,none⟩
abbrev Z9(w:World)(o:Nat):Addr:=⟨w.heap.size+1+1,o,none⟩
def n9{w}{o}:Below w.heap.size w<|w.alloc o:=(BE _ _).alloc (Be _) _
abbrev Y:Type:=World
abbrev V9:Type:=Value
abbrev C9(f:FuncId)(a:Array Value)(w:World)(Q:Ending->World->Prop):Prop:=Calls Tryz.prog f a w Q
def m9{f}{w}{v}{Q}(h:Calls P f g w<|R9 v w)(k:∀w',Below w.heap.size w w'->Q (.returned v) w'):Calls P f g w Q:=h.mono λe w' ⟨a,b⟩=>a▸k w' b
end
section
open Go.RowKit
def Ly(h:Int)(c:UInt8):Int:=IntKind.u64.wrap<|bits BinOp.xor IntKind.u64 h (IntKind.u64.wrap (c.toNat:Int))*1099511628211
def SN(l:List UInt8):Int:=l.foldl Ly 14695981039346656037
def QL(x:Int):Int:=
 bits BinOp.xor IntKind.u64
  (IntKind.u64.wrap<|bits BinOp.xor IntKind.u64 (IntKind.u64.wrap<|bits BinOp.xor IntKind.u64 x (x/8589934592)*18397679294719823053) (IntKind.u64.wrap (bits BinOp.xor IntKind.u64 x (x/8589934592)*18397679294719823053)/8589934592)*14181476777654086739)
  (IntKind.u64.wrap (bits BinOp.xor IntKind.u64 (IntKind.u64.wrap<|bits BinOp.xor IntKind.u64 x (x/8589934592)*18397679294719823053) (IntKind.u64.wrap (bits BinOp.xor IntKind.u64 x (x/8589934592)*18397679294719823053)/8589934592)*14181476777654086739)/8589934592)
def CW n:0<=IntKind.u64.wrap n/\IntKind.u64.wrap n<18446744073709551616:=by
 rw[IntKind.wrap_u64];omega
def OT op x Z:0<=bits op IntKind.u64 x Z/\bits op IntKind.u64 x Z<18446744073709551616:=by
 unfold bits;exact CW _
def PG x:0<=QL x/\QL x<18446744073709551616:=OT _ _ _
def Uu h c:0<=Ly h c/\Ly h c<18446744073709551616:=CW _
def Uj(l:List UInt8)h(hh:0<=h/\h<18446744073709551616):0<=l.foldl Ly h/\l.foldl Ly h<18446744073709551616:=by
 induction l generalizing h with
 |nil=>exact hh
 |cons c l ih=>exact ih _<|Uu h c
def Rk l:0<=SN l/\SN l<18446744073709551616:=Uj l _ om
theorem aX(s:ByteArray)k(h:k<s.size):s.data.toList.take (k+1)=s.data.toList.take k++[s[k]]:=by
 rw[List.take_succ_eq_append_getElem (by simpa using h)];rfl
def Ui(s:ByteArray)k(h:k<s.size):SN (s.data.toList.take<|k+1)=Ly (SN<|s.data.toList.take k) s[k]:=by
 grind [SN,Ly,aX]
def YM{k}{a b}(h:a=b):Ending.returned (.int k a)=.returned (.int k b):=by rw[h]
def mV x w(a:0<=x)(h1:x<18446744073709551616):
  C9 167 #[.int .u64 x] w λe w'=>e=.returned (.int .u64<|QL x)/\w'=w:=by
 go_enter Tryz.func167,Tryz.ntmps167;go_wp2;go_ret;exact⟨rfl,rfl⟩
def ZR x w(a:0<=x)(h1:x<18446744073709551616):
  C9 164 #[.int .u64 x] w λe w'=>e=.returned (.int .u64<|QL x)/\w'=w:=by
 go_enter Tryz.func164,Tryz.ntmps164;go_wp2;go_ret;exact⟨rfl,rfl⟩
def Lw s w(hs:s.size<=maxLen):
  C9 165 #[.string s] w λe w'=>e=.returned (.int .u64<|SN s.data.toList)/\w'=w:=by
 unfold maxLen at hs;go_enter Tryz.func165,Tryz.ntmps165;go_wp2
 go_loop [3,7] (λh i=>∃k:Nat,k<=s.size/\i=J k/\h=.int .u64 (SN<|s.data.toList.take k)) λ_ i=>s.size-(intOf i).toNat
 case atStart=>exact⟨0,To _,rfl,rfl⟩
 case round=>
  obtain⟨k,hk,rfl,rfl⟩:=hrel;by_cases a:k<s.size
  .have b:Hid<|SN (s.data.toList.take<|k+1)=Ly (SN<|s.data.toList.take k) s[k]:=Ui s k a;go_wp2;exact⟨⟨k+1,om,ov,by rw[b.out];rfl⟩,by simp[intOf];omega⟩
  go_wp2;go_ret;exact⟨YM<|by rw[List.take_of_length_le ot],rfl⟩
def Nq s w(hs:s.size<=maxLen):
  C9 162 #[.string s] w λe w'=>e=.returned (.int .u64<|SN s.data.toList)/\w'=w:=by
 unfold maxLen at hs;go_enter Tryz.func162,Tryz.ntmps162;go_wp2
 go_loop [3,4] (λh i=>∃k:Nat,k<=s.size/\i=J k/\h=.int .u64 (SN<|s.data.toList.take k)) λ_ i=>s.size-(intOf i).toNat
 case atStart=>exact⟨0,To _,rfl,rfl⟩
 case round=>
  obtain⟨k,hk,rfl,rfl⟩:=hrel;by_cases a:k<s.size
  .have b:Hid<|SN (s.data.toList.take<|k+1)=Ly (SN<|s.data.toList.take k) s[k]:=Ui s k a;go_wp2;exact⟨⟨k+1,om,ov,by rw[b.out];rfl⟩,by simp[intOf];omega⟩
  go_wp2;go_ret;exact⟨YM<|by rw[List.take_of_length_le ot],rfl⟩
def VW(w:Y)(b:Nat)(a:T9)(len:Nat):Prop:=
 len<9007199254740992/\(len=0\/∃k off,a=some (G k off)/\k<b/\∀i,i<len->∃Z:Int,w.cell? (G k<|off+i)=some (.int .u8 Z)/\0<=Z/\Z<256)
structure Sl (b:Nat) (w w':Y):Prop where
 os:w'.os=w.os
 tape:w'.tape=w.tape
 output:w'.output=w.output
 size:w'.heap.size=w.heap.size
 block:∀k,k≠b->w'.heap[k]?=w.heap[k]?
def Sl.refl b w:Sl b w w:=⟨rfl,rfl,rfl,rfl,λ_ _=>rfl⟩
theorem Sl.trans{u v w}(h:Sl b u v)(k:Sl b v w):Sl b u w:=
 ⟨k.os.trans h.os,k.tape.trans h.tape,k.output.trans h.output,k.size.trans h.size,λi hi=>(k.block i hi).trans<|h.block i hi⟩
def Sl.cell{w w'}(h:Sl b w w')k o(hk:k≠b):w'.cell? (G k o)=w.cell? (G k o):=As (w:=w)<|h.block k hk
def Sl.frozen{w w'}(h:Sl b w w')k o(hk:k≠b):w'.frozen? (G k o)=w.frozen? (G k o):=GW (w:=w)<|h.block k hk
def YS b o w v:Sl b w<|w.setCell (G b o) v:=
 ⟨rfl,rfl,rfl,by simp[World.setCell],λk hk=>Below.heap_setCell _ _ _ _<|by simpa using hk⟩
def aV b n w:Sl b w<|w.drewN n:=⟨rfl,rfl,rfl,rfl,λ_ _=>rfl⟩
def Oq b o o' n w v v':Sl b w<|((w.drewN n).setCell (G b o) v).setCell (G b o') v':=
 ((aV b n w).trans<|YS b o _ v).trans (YS b o' _ v')
def qM X(a:0<=X)(h1:X<18446744073709551616):0<=wrap64 (bits BinOp.and IntKind.u64 X 255)/\wrap64 (bits BinOp.and IntKind.u64 X 255)<256:=by
 have h:=u64_and X 255 a h1 om om;have e:(255:Int).toNat=2^8-1:=oo;rw[e,AaS]at h;rw[h];have b:X.toNat%2^8<256:=Tn _ oo;generalize X.toNat%2^8=q at b;have:wrap64 (q:Int)=q:=by unfold wrap64;omega
 rw[this];omega
def hide(h:p):Hid p:=h
def tP(h:Hid p):p:=h
def BF{W w1:Y}(hb:B9 W w1):(∀b o,b<W.heap.size->w1.cell? (G b o)=W.cell? (G b o))/\(∀b o,b<W.heap.size->w1.frozen? (G b o)=W.frozen? (G b o)):=
 ⟨λb o h=>hb.cell h,λb o h=>hb.frozen h⟩
def Ll w o:∃W,W=w.alloc o/\B9 w W/\W.heap.size=w.heap.size+1/\W.heap[w.heap.size]?=some o:=
 ⟨_,rfl,n9,oq,by show(w.heap.push o)[w.heap.size]?=some o;simp⟩
def TM w o p:∃W,W=(w.alloc o).alloc p/\B9 w W/\W.heap.size=w.heap.size+1+1/\W.heap[w.heap.size]?=some o/\W.heap[w.heap.size+1]?=some p:=by
 obtain⟨V,b,hb,hz,b0⟩:=Ll w o;obtain⟨W,c,kb,a,c0⟩:=Ll V p;rw[hz]at c0 a;exact⟨W,by rw[c,b],o9 hb kb,a,(kb.block _ om).trans b0,c0⟩
def kS w o p q:∃W,W=((w.alloc o).alloc p).alloc q/\B9 w W/\W.heap.size=w.heap.size+1+1+1/\W.heap[w.heap.size]?=some o/\W.heap[w.heap.size+1]?=some p/\W.heap[w.heap.size+1+1]?=some q:=by
 obtain⟨V,b,hb,hz,b0,b1⟩:=TM w o p;obtain⟨W,c,kb,a,c0⟩:=Ll V q;rw[hz]at c0 a;exact⟨W,by rw[c,b],o9 hb kb,a,(kb.block _ om).trans b0,(kb.block _ om).trans b1,c0⟩
def kT w o p q r:∃W,W=(((w.alloc o).alloc p).alloc q).alloc r/\B9 w W/\W.heap.size=w.heap.size+1+1+1+1/\W.heap[w.heap.size]?=some o/\W.heap[w.heap.size+1]?=some p/\W.heap[w.heap.size+1+1]?=some q/\W.heap[w.heap.size+1+1+1]?=some r:=by
 obtain⟨V,b,hb,hz,b0,b1,b2⟩:=kS w o p q;obtain⟨W,c,kb,a,c0⟩:=Ll V r;rw[hz]at c0 a;exact⟨W,by rw[c,b],o9 hb kb,a,(kb.block _ om).trans b0,(kb.block _ om).trans b1,(kb.block _ om).trans b2,c0⟩
def v3{w:Y}{a0 a1 a2:V9}{fr:Nat×Nat}(h:w.heap[b]?=some (.cells #[a0,a1,a2] ty fr)):w.cell? (G b 0)=some a0/\w.cell? (G b 1)=some a1/\w.cell? (G b 2)=some a2:=by
 refine⟨?_,?_,?_⟩<;>simp[World.cell?,h]
def v5{w:Y}{a0 a1 a2 a3 a4:V9}{fr}(h:w.heap[b]?=some (.cells #[a0,a1,a2,a3,a4] ty fr)):w.cell? (G b 0)=some a0/\w.cell? (G b 1)=some a1/\w.cell? (G b 2)=some a2/\w.cell? (G b 3)=some a3/\w.cell? (G b 4)=some a4:=by
 refine⟨?_,?_,?_,?_,?_⟩<;>simp[World.cell?,h]
def v6{w:Y}{a0 a1 a2 a3 a4 a5:V9}{fr}(h:w.heap[b]?=some (.cells #[a0,a1,a2,a3,a4,a5] ty fr)):w.cell? (G b 0)=some a0/\w.cell? (G b 1)=some a1/\w.cell? (G b 2)=some a2/\w.cell? (G b 3)=some a3/\w.cell? (G b 4)=some a4/\w.cell? (G b 5)=some a5:=by
 refine⟨?_,?_,?_,?_,?_,?_⟩<;>simp[World.cell?,h]
def v8{w:Y}{a0 a1 a2 a3 a4 a5 a c:V9}{fr}(h:w.heap[b]?=some (.cells #[a0,a1,a2,a3,a4,a5,a,c] ty fr)):w.cell? (G b 0)=some a0/\w.cell? (G b 1)=some a1/\w.cell? (G b 2)=some a2/\w.cell? (G b 3)=some a3/\w.cell? (G b 4)=some a4/\w.cell? (G b 5)=some a5/\w.cell? (G b 6)=some a/\w.cell? (G b 7)=some c:=by
 refine⟨?_,?_,?_,?_,?_,?_,?_,?_⟩<;>simp[World.cell?,h]
def O(h:p):Hid p:=hide h
def z(h:Hid p):p:=tP h
def qp(a:p)(b:q):p/\q:=⟨a,b⟩
def ql(a:Hid q)(h:Hid q->p:=by intro h;rw[z h];try rfl):p:=h a
def qm{α:Sort _}{a b:α}(e:a=b)(h:a=b->p:=by intro h;rw[h];try rfl):p:=h e
def sA{α}(l:List α)i a:l.toArray.setIfInBounds i a=(l.set i a).toArray:=XN ..
def sB{α}x l n(v:α):(x::l).set (n+1) v=x::l.set n v:=rfl
def sC{α}x l(v:α):(x::l).set 0 v=v::l:=rfl
def pS:(∀(a) (d) (v:V9),Act.put a (some d) v=⟨a.tmps.setIfInBounds d v,a.defers⟩)/\(∀(a) (v:V9),Act.put a none v=a)/\(∀(l:List Value) (i) (a:V9),l.toArray.setIfInBounds i a=(l.set i a).toArray)/\(∀(x:V9) (l:List Value) (n) (v),(x::l).set (n+1) v=x::l.set n v)/\∀(x:V9) (l:List Value) (v),(x::l).set 0 v=v::l:=⟨λ_ _ _=>rfl,λ_ _=>rfl,λ_ _ _=>XN ..,λ_ _ _ _=>rfl,λ_ _ _=>rfl⟩
def N{ops:Array Oper}{C:World->Prop}{Q:Act->Prop}{a b:Act}{o:Oper}{rest:List Oper}{v:V9}(f:Region.wanted o (yielded ops a.tmps)=true:=by rfl)(hy:∀w,C w->(execOp a.eval o).run P w=.ok (.value v) w:=by(intro w' c;first|(go_simp;done)|(go_simp;with_reducible rfl)|(obtain⟨d,e⟩:=BF c;go_simp;with_reducible rfl)|(obtain⟨d,e⟩:=BF c;go_simp;done)))(hb:a.put o.dst v=b:=by(simp only[pS];rfl))(h:wpQuiet P ops C Q rest b):wpQuiet P ops C Q (o::rest) a:=by
  show ite _ _ _;rw[DD f];exact⟨v,λw g=>by unfold Oper.quietAt;rw[hy w g];exact⟨rfl,rfl⟩,hb▸h⟩
def qr{l:List Oper}{id:Nat}{Q:Exit->Act->World->Prop}{a:Act}{w:Y}(W:Y)(h:wpQuiet P l.toArray (λw'=>B9 W w') (λa'=>∀w',B9 W w'->Q .normal a' w') l a)(b:P.follows .mixedOrders=true:=by kernel_rfl)(c:Region.lexB .any l.toArray=true:=by kernel_rfl)(d:B9 W {w with drawn:=w.drawn+1}:=by exact(BE _ _).drew):(Code.region id l.toArray true).wp P Q a w:=wp_region_quiet (C:=λw'=>B9 W w') b c d h
def qk{W w':Y}{v:V9}(d:B9 W w')(h:Calls P f g w' λe c=>e=.returned v/\B9 w' c):Calls P f g w' λe c=>e=.returned v/\B9 W c:=h.mono λ_ _ ⟨a,b⟩=>⟨a,o9 d b⟩
structure Gr (b:Nat) (w w':Y):Prop where
 os:w'.os=w.os
 tape:w'.tape=w.tape
 output:w'.output=w.output
 size:w.heap.size<=w'.heap.size
 block:∀k,k≠b->k<w.heap.size->w'.heap[k]?=w.heap[k]?
def Sl.gr{w w'}(h:Sl b w w'):Gr b w w':=⟨h.os,h.tape,h.output,by rw[h.size];exact Be _,λk hk _=>h.block k hk⟩
theorem Gr.trans{u v w}(h:Gr b u v)(k:Gr b v w):Gr b u w:=
 ⟨k.os.trans h.os,k.tape.trans h.tape,k.output.trans h.output,GO h.size k.size,λi hi hs=>(k.block i hi<|A0 hs h.size).trans<|h.block i hi hs⟩
def Gr.Am{w w':Y}(h:B9 w w'):Gr b w w':=⟨h.os,h.tape,h.output,h.size,λk _ hk=>h.block k hk⟩
def Gr.cell{w w'}(h:Gr b w w'):∀k o,k≠b->k<w.heap.size->w'.cell? (G k o)=w.cell? (G k o):=λk o hk hs=>As (w:=w)<|h.block k hk hs
def Gr.frozen{w w'}(h:Gr b w w'):∀k o,k≠b->k<w.heap.size->w'.frozen? (G k o)=w.frozen? (G k o):=λk o hk hs=>GW (w:=w)<|h.block k hk hs
def Gr.below{w w'}(h:Gr b w w')(h1:B<=b)(h2:B<=w.heap.size):Below B w w':=⟨h.os,h.tape,h.output,h.size,λk hk=>h.block k om om⟩
def OS{a w:Y}(h:Below B a w)b(hb:B<=b)v0 v1 v2 v3 v4:
  Below B a (((((w.setCell (G b 0) v0).setCell (G b 1) v1).setCell (G b 2) v2).setCell (G b 3) v3).setCell (G b 4) v4):=
 ((((h.setCell (p:=G b 0) hb v0).setCell (p:=G b 1) hb v1).setCell (p:=G b 2) hb v2).setCell (p:=G b 3) hb v3).setCell (p:=G b 4) hb v4
def Gr.EI{u v w:Y}(h:Gr b u v)(k:Below B v w)(a:u.heap.size<=B):Gr b u w:=
 ⟨k.os.trans h.os,k.tape.trans h.tape,k.output.trans h.output,GO h.size k.size,λi hi hs=>(k.block i om).trans<|h.block i hi hs⟩
def Ua v(a:0<=v)(h1:v<256)(wr:Y):(convert 22 9<|S9 wr.heap.size 1 1).run Tryz.prog (wr.alloc<|.cells #[.int .u8 v] 5)=.ok (.string ⟨[UInt8.ofNat v.toNat].toArray⟩) (wr.alloc<|.cells #[.int .u8 v] 5):=
 run_convert_bytes_back (P:=Tryz.prog) (wr.alloc<|.cells #[.int .u8 v] 5) 22 9 5 (y wr 0) 1 [UInt8.ofNat v.toNat] Tryz.underlying22 Tryz.underlying5 Tryz.underlying9 (by
  intro j hj;have:j=0:=by simpa using hj
  subst this;have e:((UInt8.ofNat v.toNat).toNat:Int)=v:=by rw[UInt8.toNat_ofNat'];omega
  have e2:([UInt8.ofNat v.toNat][0]'hj)=UInt8.ofNat v.toNat:=rfl;rw[e2,e];simp[Addr.add,go_sem])
def strOf:Value->ByteArray|.string s=>s|_=>ByteArray.empty
structure Kd where
 a:Option Addr
 len:Nat
 cap:Nat
 C:Nat->Int
structure Cs where
 t:Int
 s:Int
def Kx(K:Kd)(c:Cs):Int×Cs:=
 if c.t<K.len then(K.C c.t.toNat,⟨c.t+1,IntKind.u64.wrap<|IntKind.u64.wrap (IntKind.u64.wrap (c.s*6364136223846793005)+K.C c.t.toNat)+1442695040888963407⟩)
 else(wrap64<|bits BinOp.and IntKind.u64 (IntKind.u64.wrap (IntKind.u64.wrap (c.s*6364136223846793005)+1442695040888963407)/1099511627776) 255,⟨c.t+1,IntKind.u64.wrap<|IntKind.u64.wrap (c.s*6364136223846793005)+1442695040888963407⟩)
def Ab(K:Kd)(n:Int)(c:Cs):Int×Cs:=
 if n<=1 then(0,c)else if n<=200 then((Kx K c).1%n,(Kx K c).2)
 else(((Kx K c).1*256+(Kx K (Kx K c).2).1)%n,(Kx K (Kx K c).2).2)
def IQ(K:Kd)(c:Cs):Int×Cs:=
 if(Ab K 6 c).1=0 then(9223372036854775807-(Ab K 3 (Ab K 6 c).2).1,(Ab K 3 (Ab K 6 c).2).2)
 else if(Ab K 6 c).1=1 then(-9223372036854775808+(Ab K 3 (Ab K 6 c).2).1,(Ab K 3 (Ab K 6 c).2).2)
 else if(Ab K 6 c).1=2 then((Ab K 70000 (Ab K 6 c).2).1-35000,(Ab K 70000 (Ab K 6 c).2).2)
 else((Ab K 12 (Ab K 6 c).2).1-3,(Ab K 12 (Ab K 6 c).2).2)
def KM:Nat->ByteArray
 |0=> "0123456789".toUTF8
 |k+1=>KM k++KM k
def Hy(K:Kd)(c:Cs):ByteArray×Cs:=
 if(Ab K 40 c).1=0 then((KM 9).extract 0 (4000-(Ab K 2 (Ab K 40 c).2).1).toNat,(Ab K 2 (Ab K 40 c).2).2)
 else(⟨[UInt8.ofNat (97+(Ab K 15 (Ab K 40 c).2).1).toNat].toArray⟩,(Ab K 15 (Ab K 40 c).2).2)
structure Cq (K:Kd) (c:Cs) (b N:Nat) (w:Y):Prop where
 c0:w.cell? (G b 0)=some (.slice K.a K.len K.cap)
 c1:w.cell? (G b 1)=some (J c.t)
 c2:w.cell? (G b 2)=some (.int .u64 c.s)
 fz:∀o,w.frozen? (G b o)=false
 code:K.len<9007199254740992/\(K.len=0\/∃k off,K.a=some (G k off)/\k<b/\∀i,i<K.len->w.cell? (G k<|off+i)=some (.int .u8<|K.C i)/\0<=K.C i/\K.C i<256)
 lo:0<=c.t
 hi:c.t<=N
section
variable {K:Kd} {c:Cs} {b n0 M B:Nat} {w w':Y}
def Cq.lt(h:Cq K c b n0 w):b<w.heap.size:=I9 _ _ h.c0
def Cq.Wi(h:K.len<9007199254740992/\(K.len=0\/∃k off,K.a=some (G k off)/\k<b/\∀i,i<K.len->w.cell? (G k<|off+i)=some (.int .u8<|K.C i)/\0<=K.C i/\K.C i<256))
  (s:∀k,k<b->w'.heap[k]?=w.heap[k]?):K.len<9007199254740992/\(K.len=0\/∃k off,K.a=some (G k off)/\k<b/\∀i,i<K.len->w'.cell? (G k<|off+i)=some (.int .u8<|K.C i)/\0<=K.C i/\K.C i<256):=by
 refine⟨h.1,?_⟩;rcases h.2 with h|⟨k,off,e,hk,hc⟩
 .exact .inl h
 refine .inr ⟨k,off,e,hk,λi hi=>?_⟩;obtain⟨h1,h2⟩:=hc i hi;exact⟨(As (w:=w) (a:=G k<|off+i)<|s k hk).trans h1,h2⟩
def Cq.below(h:Cq K c b n0 w)(hb:Below B w w')(a:b<B):Cq K c b n0 w':=
 ⟨o7 hb a h.c0,o7 hb a h.c1,o7 hb a h.c2,λo=>o8 hb a<|h.fz o,Cq.Wi h.code λk hk=>hb.block k om,h.lo,h.hi⟩
def Cq.mono(h:Cq K c b n0 w)(a:n0<=M):Cq K c b M w:=⟨h.c0,h.c1,h.c2,h.fz,h.code,h.lo,oT h.hi⟩
def Cq.two(h:Cq K c b n0 w)(n)(s'):
  Cq K ⟨c.t+1,s'⟩ b (n0+1) (((w.drewN n).setCell (G b 1)<|J<|c.t+1).setCell (G b 2)<|.int .u64 s')/\Cq K ⟨c.t+1,s'⟩ b (n0+1) (((w.drewN n).setCell (G b 2)<|.int .u64 s').setCell (G b 1)<|J<|c.t+1):=by
 have hl:=h.lo;have hh:=h.hi;exact⟨⟨by simp[go_sem,h.c0],by simp[go_sem,h.c1],by simp[go_sem,h.c2],λo=>by simp[go_sem,h.fz],Cq.Wi h.code λk hk=>(Oq b 1 2 n w _ _).block k om,by show 0<=c.t+1;omega,by show c.t+1<=_;omega⟩,
  ⟨by simp[go_sem,h.c0],by simp[go_sem,h.c1],by simp[go_sem,h.c2],λo=>by simp[go_sem,h.fz],Cq.Wi h.code λk hk=>(Oq b 2 1 n w _ _).block k om,by show 0<=c.t+1;omega,by show c.t+1<=_;omega⟩⟩
end
def Xa{K}{c}(b Z)(w)(h:Cq K c b Z w)(hN:Z<=1099511627776):
  C9 41 #[Q9 b] w λe w'=>∃X c',e=.returned (J X)/\0<=X/\X<256/\Kx K c=(X,c')/\Cq K c' b (Z+1) w'/\Sl b w w':=by
 have g:=h.lo;have i:=h.hi;obtain⟨t,s⟩:=c;simp only at g i;by_cases a:t<K.len
 .have f:=show Kx K ⟨t,s⟩=_ from DD a;obtain⟨hl,j|⟨k,off,d,hk,hcs⟩⟩:=h.code
  .omega
  rcases hcs t.toNat om,h.fz 1,h.fz 2,h.c0 with⟨⟨e0,l,m⟩,f1,f2,j⟩;rw[d]at j;have h1:=h.c1;have h2:=h.c2;simp only at h1 h2;have H:=O h;have n:=O f;clear h hcs d f;simp only at n;generalize K.C t.toNat=X at*;go_enter Tryz.func41,Tryz.ntmps41;go_wp2;go_quiet (fail);go_wp2;go_quiet (fail);go_wp2;go_ret;exact⟨X,_,rfl,l,m,n,(H.two _ _).1,Oq _ _ _ _ _ _ _⟩
 rcases show Kx K ⟨t,s⟩=_ from C3 a,h.fz 1,h.fz 2,h.c0,h.c1,h.c2 with⟨f,f1,f2,j,h1,h2⟩;simp only at h1 h2;go_enter Tryz.func41,Tryz.ntmps41;go_wp2;go_quiet (fail);go_wp2;go_ret;have o:=CW<|IntKind.u64.wrap (s*6364136223846793005)+1442695040888963407;have d:=qM (IntKind.u64.wrap (IntKind.u64.wrap (s*6364136223846793005)+1442695040888963407)/1099511627776) om om;exact⟨_,_,rfl,d.1,d.2,z<|O f,((z<|O h).two _ _).2,Oq _ _ _ _ _ _ _⟩
def gK(b)(n)(w:Y)(hn:n<=1):
  C9 15 #[Q9 b,J n] w λe w'=>e=.returned (J 0)/\w'=w:=by
 go_enter Tryz.func15,Tryz.ntmps15;go_wp2;go_ret;exact⟨rfl,rfl⟩
def AF{K}{c}(b Z)(n)(w)(h:Cq K c b Z w)(hN:Z<=1099511627000)(p:1<=n)(q:n<=4611686018427387904):
  C9 15 #[Q9 b,J n] w λe w'=>∃x c',e=.returned (J x)/\0<=x/\x<n/\Ab K n c=(x,c')/\Cq K c' b (Z+2) w'/\Sl b w w':=by
 by_cases h1:n<=1
 .refine(gK b n w h1).mono λe w' h'=>?_;rw[h'.2];exact⟨0,c,h'.1,om,om,DD h1,h.mono om,Sl.refl _ _⟩
 by_cases hs:n<=200
 .have g:=O<|show Ab K n c=_ from(C3 h1).trans (DD hs);go_enter Tryz.func15,Tryz.ntmps15;go_wp2_with fail;refine(Xa b Z _ h om).mono ?_;rintro e w1 ⟨W,c1,rfl,i,j,a,d,f⟩;have k:=O a;go_wp2_with fail;go_ret;refine⟨_,c1,rfl,Int.emod_nonneg _ om,Int.emod_lt_of_pos _ om,?_,d.mono om,f⟩;rw[z g,z k]
 have r:200<n:=om;have g:=O<|show Ab K n c=_ from(C3 h1).trans (C3 hs);go_enter Tryz.func15,Tryz.ntmps15;go_wp2_with fail;refine(Xa b Z _ h om).mono ?_;rintro e w1 ⟨W,c1,rfl,i,j,a,d,f⟩;go_wp2_with fail;refine(Xa b (Z+1) _ d om).mono ?_;rintro e w2 ⟨X,c2,rfl,s,t,l,m,o⟩;go_wp2_with fail;go_ret;refine⟨_,c2,rfl,Int.emod_nonneg _ om,Int.emod_lt_of_pos _ om,?_,m,f.trans o⟩;rw[z g,z (O a)];simp only[z (O l)]
def YX{K}{c}(b Z)(w)(h:Cq K c b Z w)(hN:Z<=1099511620000):
  C9 79 #[Q9 b] w λe w'=>∃W c',e=.returned (J W)/\IQ K c=(W,c')/\Cq K c' b (Z+4) w'/\Sl b w w':=by
 go_enter Tryz.func79,Tryz.ntmps79;go_wp2_with fail;refine(AF b Z 6 _ h om om om).mono ?_;rintro e w1 ⟨x,d1,rfl,o,p,n,i,j⟩;have k:=O n;by_cases x0:x=0
 .subst x0;go_wp2_with fail;refine(AF b (Z+2) 3 _ i om om om).mono ?_;rintro e w2 ⟨X,d2,rfl,l,m,a,d,f⟩;have g:=O a;go_wp2_with fail;go_ret;exact⟨_,d2,rfl,by simp[IQ,z k,z g],d,j.trans f⟩
 have b0:(x==0)=false:=by simp[x0]
 by_cases x1:x=1
 .subst x1;go_wp2_with fail;refine(AF b (Z+2) 3 _ i om om om).mono ?_;rintro e w2 ⟨X,d2,rfl,l,m,a,d,f⟩;have g:=O a;go_wp2_with fail;go_ret;exact⟨_,d2,rfl,by simp[IQ,z k,z g],d,j.trans f⟩
 have b1:(x==1)=false:=by simp[x1]
 by_cases x2:x=2
 .subst x2;go_wp2_with fail;refine(AF b (Z+2) 70000 _ i om om om).mono ?_;rintro e w2 ⟨X,d2,rfl,l,m,a,d,f⟩;have g:=O a;go_wp2_with fail;go_ret;exact⟨_,d2,rfl,by simp[IQ,z k,z g],d,j.trans f⟩
 have b2:(x==2)=false:=by simp[x2]
 go_wp2_with fail
 refine(AF b (Z+2) 12 _ i om om om).mono ?_;rintro e w2 ⟨X,d2,rfl,l,m,a,d,f⟩;go_wp2_with fail;go_ret;exact⟨_,d2,rfl,by simp[IQ,z k,z (O a),x0,x1,x2],d,j.trans f⟩
theorem OY:∀k,(KM k).size=10*2^k
 |0=>oo
 |k+1=>by rw[KM,ByteArray.size_append,OY k,AaB];omega
def TI{K}{c}(b Z)(w)(h:Cq K c b Z w)(hN:Z<=1099511620000):
  C9 37 #[Q9 b] w λe w'=>∃s c',e=.returned (.string s)/\s.size<=4000/\Hy K c=(s,c')/\Cq K c' b (Z+4) w'/\Gr b w w':=by
 go_enter Tryz.func37,Tryz.ntmps37;go_wp2_with fail;refine(AF b Z 40 _ h om om om).mono ?_;rintro e w1 ⟨x,d1,rfl,r,u,l,g,i⟩;have j:=O l;by_cases x0:x=0
 .subst x0;go_wp2_with fail
  go_loop [3] (λt=>∃k,k<=9/\t=.string (KM k)) λt=>8000-(strOf t).size
  case atStart=>exact⟨0,oo,rfl⟩
  case round=>
   obtain⟨k,hk,rfl⟩:=hrel;have hz:=OY k;by_cases v:k<9
   .have hq:10*2^k<4000:=by
     have:2^k<=2^8:=AaD oo om;omega
    have m:1<=2^k:=Nat.one_le_two_pow;have hl:(((KM k).size:Nat):Int)<4000:=om;have Mh:1<=(KM k).size:=om;have n:KM (k+1)=KM k++KM k:=rfl;generalize KM k=D at*;clear hz hq m;go_wp2_with fail
    go_round
    case rel=>exact⟨k+1,om,congrArg _ n.symm⟩
    case measure=>simp[strOf];omega
   have A:k=9:=om;subst A;have hz:(KM 9).size=5120:=OY 9;have hl:(4000:Int)<=(((KM 9).size:Nat):Int):=om;generalize hD:KM 9=D at hz hl ⊢;go_wp2_with fail;refine(AF b (Z+2) 2 _ g om om om).mono ?_;rintro e w2 ⟨X,d2,rfl,o,p,d,a,f⟩;have q:=O d;go_wp2_with fail;go_ret;refine⟨_,d2,rfl,?_,?_,a,(i.trans f).gr⟩
   .simp;omega
   simp[Hy,z j,z q,hD]
 have b0:(x==0)=false:=by simp[x0]
 go_wp2_with fail
 refine(AF b (Z+2) 15 _ g om om om).mono ?_;rintro e w2 ⟨X,d2,rfl,o,p,d,a,f⟩;have B:=Ua (97+X) om om w2;go_wp2_with fail;go_ret;have hb:B9 w2<|w2.alloc<|.cells #[.int .u8 (97+X)] 5:=n9;exact⟨_,d2,rfl,by simp[ByteArray.size],by simp[Hy,z j,z (O d),x0],a.below hb a.lt,((i.trans f).gr).trans<|Gr.Am hb⟩
end
namespace Fl
open Ieee
def sc(s:Bool)(m:Nat)(i:Int):Int:=signed s m (i+1074).toNat
theorem DN s m k:signed s m k=(if s then -1 else 1)*((m:Int)*(2:Int)^k):=by
 rw[signed,Nat.shiftLeft_eq];grind
def Gp k:(0:Int)<(2:Int)^k:=Int.pow_pos om
def FY s m k c:signed s m (k+c)=signed s m k*(2:Int)^c:=by
 grind [DN]
def Qx a b c:compare (a*(2:Int)^c) (b*(2:Int)^c)=compare a b:=by
 have h:=Gp c;simp only[compare,compareOfLessAndEq];have h1:a*(2:Int)^c<b*(2:Int)^c↔a<b:=Int.mul_lt_mul_right h;have h2:a*(2:Int)^c=b*(2:Int)^c↔a=b:=Int.mul_eq_mul_right_iff om;simp only[h1,h2]
theorem Tj s t m n i j(hi:-1074<=i)(hj:-1074<=j):
  Datum.order (.number s m i) (.number t n j)=some (compare (sc s m i)<|sc t n j):=by
 show some (compare (signed s m (i-min i j).toNat)<|signed t n (j-min i j).toNat)=_;unfold sc;obtain⟨c,hc⟩:∃c:Nat,c=(min i j+1074).toNat:=⟨_,rfl⟩;have e1:(i+1074).toNat=(i-min i j).toNat+c:=om;have e2:(j+1074).toNat=(j-min i j).toNat+c:=om;rw[e1,e2,FY,FY,Qx]
theorem G0(a b:Int):(some (compare a b)==some Ordering.eq)=decide (a=b):=by
 grind
def Jg(a b:Int):(some (compare a b)==some Ordering.lt)=decide (a<b):=by
 simp only[compare,compareOfLessAndEq];grind
def KK(a b:Int):(some (compare a b)==some Ordering.gt)=decide (b<a):=by
 simp only[compare,compareOfLessAndEq];grind
def CB x:(∃s m i,double.read x=.number s m i/\-1074<=i/\i<=971/\m<2^53/\(i=-1074\/2^52<=m))\/(∃s,double.read x=.infinity s)\/(∃s t,double.read x=.nan s t):=by
 unfold Format.read;have hb:double.binade=4503599627370496:=oo;have a:double.infRung=9218868437227405312:=oo;have hl:double.leastPlace=-1074:=oo;rw[hb,a,hl];generalize x%double.signWeight=r;generalize (x/double.signWeight%2==1)=s;by_cases h1:r<4503599627370496
 .left;exact⟨s,r,-1074,by rw[DD h1],om,om,om,.inl rfl⟩
 by_cases h2:r<9218868437227405312
 .left;refine⟨s,_,_,by rw[C3 h1,DD h2],om,om,om,.inr om⟩
 by_cases h3:r=9218868437227405312
 .right;left;exact⟨s,by rw[C3 h1,C3 h2,DD h3]⟩
 right;right;exact⟨s,_,by rw[C3 h1,C3 h2,C3 h3]⟩
def DG m k(h:m≠0):(m*2^k).log2=m.log2+k:=by
 induction k with
 |zero=>simp
 |succ k ih=>
  rw[AaB,<-So,AaN _ 2,Nat.log2_two_mul (Nat.mul_ne_zero h (oT (Of k)))];omega
def G3(way:Toward)neg n:way.cut neg n 0=n:=by
 unfold Toward.cut;cases way<;>simp[Nat.mod_one]
def MR neg kept last(h1:-1074<=last)(h2:last<=971)(h3:kept<2^53)(h4:last=-1074\/2^52<=kept):
  double.read (double.word neg<|min ((last-double.leastPlace).toNat*double.binade+kept) double.infRung)=.number neg kept last:=by
 have hb:double.binade=4503599627370496:=oo;have c:double.infRung=9218868437227405312:=oo;have hl:double.leastPlace=-1074:=oo;have hs:double.signWeight=9223372036854775808:=oo;rw[hl,hb,c];obtain⟨p,hp⟩:∃p:Nat,p=(last- -1074).toNat:=⟨_,rfl⟩;rw[<-hp];have a:last=(p:Int)-1074:=om;have b:min (p*4503599627370496+kept) 9218868437227405312=p*4503599627370496+kept:=by apply Nat.min_eq_left;omega
 rw[b];unfold Format.read Format.word;rw[hb,hl,hs];have d:∀r:Nat,r<9223372036854775808->(if neg=true then 9223372036854775808+r else r)%9223372036854775808=r:=by grind
 have hn:∀r:Nat,r<9223372036854775808->((if neg=true then 9223372036854775808+r else r)/9223372036854775808%2==1)=neg:=by
  intro r h;cases neg
  .have:r/9223372036854775808%2=0:=om;simp[this]
  have:(9223372036854775808+r)/9223372036854775808%2=1:=om;rw[DD rfl,this];rfl
 rw[d _ om,hn _ om];by_cases hz:p*4503599627370496+kept<4503599627370496
 .rw[DD hz];have:p=0:=om;subst this;simp[a]
 rw[C3 hz,DD om];congr 1
 .omega
 omega
def G5(neg)(a)(place)(m)(p)(n:a≠0)(v:-1074<=place)(w:m<2^53)(x:-1074<=p)(A:p<=971)
  (g:a*2^(place+1074).toNat=m*2^(p+1074).toNat):
  ∃q l,double.read (double.nearest neg a place)=.number neg q l/\-1074<=l/\l<=971/\q*2^(l+1074).toNat=a*2^(place+1074).toNat:=by
 have hl:double.leastPlace=-1074:=oo;have hf:double.fractionBits=52:=rfl;have i:m≠0:=by
  intro e;subst e;have:=Of (place+1074).toNat;rw[Nat.zero_mul]at g;rcases Nat.mul_eq_zero.1 g with h|h<;>omega
 have t:a.log2+(place+1074).toNat=m.log2+(p+1074).toNat:=by
  rw[<-DG a _ n,<-DG m _ i,g]
 have u:m.log2<=52:=by
  have:=(Nat.log2_lt i).2 w;omega
 rw[Format.nearest,C3 n];dsimp only;rw[hf];obtain⟨last,b⟩:∃last:Int,last=max (place+↑a.log2-((52:Nat):Int)) double.leastPlace:=⟨_,rfl⟩;rw[<-b];have l1:-1074<=last:=om;have l2:last<=971:=om;obtain⟨kept,hk,k⟩:∃kept,Toward.even.cut neg (a <<< (place-last).toNat) (last-place).toNat=kept/\kept*2^(last+1074).toNat=a*2^(place+1074).toNat:=by
  by_cases hc:last<=place
  .refine⟨_,rfl,?_⟩;have e0:(last-place).toNat=0:=om;rw[e0,G3,Nat.shiftLeft_eq,So,<-Aaq];congr 2;omega
  .have e0:(place-last).toNat=0:=om;rw[e0,Nat.shiftLeft_zero];obtain⟨d,B⟩:=qa<|(last-place).toNat;rw[<-B];have o:d<=a.log2+2:=om;have j:∃q,a=q*2^d:=by
    obtain⟨c,C⟩:=qa<|(p-place).toNat;have e1:(p+1074).toNat=c+(place+1074).toNat:=om;rw[e1,Aaq,<-So]at g;have e2:=W9 (Of _) g;refine⟨m*2^(c-d),?_⟩;rw[e2,So,<-Aaq];congr 2;omega
   obtain⟨q,hq⟩:=j;refine⟨q,?_,?_⟩
   .unfold Toward.cut;dsimp only;rw[Nat.min_eq_left o,Nat.one_shiftLeft];have r:=Of d;have m1:a/2^d=q:=by rw[hq];exact Nat.mul_div_cancel _ r
    have m2:a%2^d=0:=by rw[hq];exact Nat.mul_mod_left _ _
    simp[m1,m2]
   rw[hq,So,<-Aaq];congr 2;omega
 rw[hk];have f:kept≠0:=by
  intro e;subst e;have:=Of (place+1074).toNat;rw[Nat.zero_mul]at k;rcases Nat.mul_eq_zero.1 k.symm with h|h<;>omega
 have s:kept.log2+(last+1074).toNat=a.log2+(place+1074).toNat:=by
  rw[<-DG a _ n,<-DG kept _ f,k]
 have k1:kept<2^53:=by
  apply(Nat.log2_lt f).1;omega
 have k2:last=-1074\/2^52<=kept:=by
  by_cases h:last=-1074
  .exact .inl h
  right;exact(Nat.le_log2 f).1 om
 exact⟨kept,last,MR neg kept last l1 l2 k1 k2,l1,l2,k⟩
def LI neg place:double.read (double.nearest neg 0 place)=.number neg 0 (-1074):=by
 cases neg<;>(unfold Format.nearest;rw[DD rfl];decide)
theorem RQ s q l a place(h:q*2^(l+1074).toNat=a*2^(place+1074).toNat):sc s q l=sc s a place:=by
 unfold sc signed;rw[Nat.shiftLeft_eq,Nat.shiftLeft_eq,h]
def EA s i:sc s 0 i=0:=by
 unfold sc signed;omega
def U:Int:=(2:Int)^1074
def M8:0<U:=Gp _
def sg(s:Bool)(n:Nat):Int:=if s then -(n:Int)else n
def Ho s n:sc s n 0=sg s n*U:=by
 grind [sc,sg,U,sc,sg,DN]
def Fits(n:Nat):Prop:=∃q c:Nat,n=q*2^c/\q<2^53/\c<=971
def O5(h:n<2^53):Fits n:=⟨n,0,oq,h,om⟩
def G6 neg n(h:Fits n):∃q l,double.read (double.nearest neg n 0)=.number neg q l/\-1074<=l/\sc neg q l=sg neg n*U:=by
 by_cases a:n=0
 .subst a;exact⟨0,-1074,LI _ _,om,by rw[EA];cases neg<;>simp[sg]⟩
 obtain⟨q,c,rfl,hq,hc⟩:=h;obtain⟨b,l,d,h1,_,e⟩:=G5 neg (q*2^c) 0 q c a om hq om om (by
  rw[So,<-Aaq];congr 2)
 exact⟨b,l,d,h1,by rw[RQ neg b l _ 0 e,Ho]⟩
def whole(m:Nat)(i:Int):Nat:=if 0<=i then m*2^i.toNat else m/2^(-i).toNat
def Ra s m i:Toward.zero.cut s (m <<< i.toNat) (-i).toNat=whole m i:=by
 rw[whole];by_cases h:0<=i
 .have e:(-i).toNat=0:=om;rw[DD h,e,G3,Nat.shiftLeft_eq]
 have e:i.toNat=0:=om;rw[C3 h,e,Nat.shiftLeft_zero];unfold Toward.cut;dsimp only;generalize (-i).toNat=d;rw[Nat.one_shiftLeft];by_cases b:d<=m.log2+2
 .rw[Nat.min_eq_left b];simp
 rw[Nat.min_eq_right om];have h1:m<2^(m.log2+2):=by
  by_cases a:m=0
  .subst a;simp
  exact(Nat.log2_lt a).1 om
 have h2:m<2^d:=A0 h1<|AaD om om;rw[Nat.div_eq_of_lt h1,Nat.div_eq_of_lt h2];simp
def Ty s m i:(Datum.number s m i).toInt .zero=some (sg s<|whole m i):=by
 show some (signed s (Toward.zero.cut s (m <<< i.toNat) (-i).toNat) 0)=_;rw[Ra];rw[signed,sg];cases s<;>simp
def NJ s m i:(Datum.number s m i).integral .zero=.number s (whole m i) 0:=by
 show Datum.number s (Toward.zero.cut s (m <<< i.toNat) (-i).toNat) 0=_;rw[Ra]
def O6 m i(a:m<2^53)(hi:i<=971):Fits<|whole m i:=by
 rw[whole];by_cases h:0<=i
 .rw[DD h];exact⟨m,i.toNat,rfl,a,om⟩
 rw[C3 h];exact O5<|Aar (Nat.div_le_self _ _) a
def E8 m i(hi:-1074<=i):(whole m i)*U<=sc false m i/\sc false m i<((whole m i:Int)+1)*U:=by
 rw[sc,U,whole,DN];by_cases h:0<=i
 .have e:(i+1074).toNat=i.toNat+1074:=om;rw[e,Int.pow_add];grind [sc]
 rw[C3 h];obtain⟨d,c⟩:=qa<|(-i).toNat;rw[<-c];obtain⟨a,b⟩:∃a:Nat,a=1074:=⟨_,rfl⟩;rw[<-b];have e:a=(i+(a:Int)).toNat+d:=om;have e':(1074:Int)=(a:Int):=om;rw[e'];generalize (i+(a:Int)).toNat=k at e;rw[e,Int.pow_add];have h1:=Nat.div_add_mod m<|2^d;generalize m/2^d=q at h1;have hk:=Gp k;simp only[Bool.false_eq_true,Aad,Int.one_mul];have e1:(q:Int)*((2:Int)^k*2^d)=((2^d*q:Nat):Int)*2^k:=by push_cast;rw[Int.mul_comm ((2:Int)^k),<-Int.mul_assoc,Int.mul_comm (q:Int)]
 have e2:((q:Int)+1)*((2:Int)^k*2^d)=((2^d*q+2^d:Nat):Int)*2^k:=by rw[Int.add_mul,e1];push_cast;rw[Int.add_mul,Int.one_mul,Int.mul_comm ((2:Int)^k)]
 rw[e1,e2];exact⟨Int.mul_le_mul_of_nonneg_right om om,Int.mul_lt_mul_of_pos_right om hk⟩
theorem EG m i:sc true m i=-sc false m i:=by
 unfold sc signed;simp
def NA m i(c:m<2^53)(a:(whole m i)*U≠sc false m i):whole m i<2^52:=by
 by_cases h:0<=i
 .exfalso;apply a;rw[sc,U,whole,DN,DD h];have e:(i+1074).toNat=i.toNat+1074:=om;grind [sc]
 rw[whole,C3 h];obtain⟨d,b⟩:∃d,(-i).toNat=d+1:=⟨(-i).toNat-1,om⟩;rw[b,AaB,AaN,<-Nat.div_div_eq_div_mul];refine Aar (Nat.div_le_self _ _) om
def aL s k:(sg s k).natAbs=k:=by cases s<;>simp[sg]
def iW n:sg (decide (n<0)) n.natAbs=n:=by
 by_cases h:n<0<;>simp[sg]<;>omega
theorem BR{j}(a:double.read x=.number s m i)(hy:double.read Z=.number t n j)(hi:-1074<=i)(hj:-1074<=j):
  double.order x Z=some (compare (sc s m i)<|sc t n j):=by
 grind [Format.order,sc,Tj]
def Hm:double.read 4890909195324358656=.number false 4503599627370496 11:=oo
def Gq:double.read 14114281232179134464=.number true 4503599627370496 11:=oo
def Vi:double.read 4607182418800017408=.number false 4503599627370496 (-52):=oo
def CD:double.read 0=.number false 0 (-1074):=oo
def PY:sc false 4503599627370496 11=9223372036854775808*U:=by
 unfold sc U;grind [sc,DN]
def P0:sc true 4503599627370496 11=-(9223372036854775808*U):=by rw[EG,PY]
def sY:sc false 4503599627370496 (-52)=U:=by
 unfold sc U;grind [sc,DN]
def L9(b:double.read x=.number s m i)(hi:-1074<=i)(h1:-(9223372036854775808*U)<=sc s m i)(h2:sc s m i<9223372036854775808*U):
  floatToIntVal .f64 x .i64=some (sg s<|whole m i):=by
 have c:(FloatKind.f64.decode x).toInt .zero=some (sg s<|whole m i):=by
  show(double.read x).toInt .zero=_;rw[b,Ty]
 have hb:=E8 m i hi;have hu:=M8;have key:IntKind.i64.min<=sg s (whole m i)/\sg s (whole m i)<=IntKind.i64.max:=by
  have e1:IntKind.i64.min=-9223372036854775808:=oo;have e2:IntKind.i64.max=9223372036854775807:=oo;generalize whole m i=k at*;cases s
  .have a:(k:Int)*U<9223372036854775808*U:=om;have:=Int.lt_of_mul_lt_mul_right a om;grind [sg]
  rw[EG]at h1;have a:(k:Int)*U<=9223372036854775808*U:=om;have:=Int.le_of_mul_le_mul_right a hu;simp only[sg,if_true];omega
 grind [floatToIntVal]
def Z7(b:double.read x=.number s m i)(hi:-1074<=i)(a:i<=971)(c:m<2^53):
  (double.order x (double.nearest s (whole m i) 0)==some .eq)=decide (sc s m i=sg s (whole m i)*U):=by
 obtain⟨q,l,d,hl,e⟩:=G6 s (whole m i)<|O6 m i c a;rw[BR b d hi hl,G0,e]
def Z6(c:double.read x=.number s m i)(hi:-1074<=i)(a:i<=971)(b:m<2^53):
  double.order x (double.nearest (decide (sg s (whole m i)<0)) (sg s<|whole m i).natAbs 0)=some (compare (sc s m i)<|sg s (whole m i)*U)/\
  double.order (double.nearest (decide (sg s (whole m i)<0)) (sg s<|whole m i).natAbs 0) x=some (compare (sg s (whole m i)*U)<|sc s m i):=by
 obtain⟨q,l,d,hl,e⟩:=G6 (decide (sg s (whole m i)<0)) (sg s<|whole m i).natAbs (by rw[aL];exact O6 m i b a);grind [sg,sc,BR]
set_option exponentiation.threshold 2000 in
def sub_one n(h:-(2^52)<n)(h2:n<2^52):∃r q l b,double.sub (double.nearest (decide (n<0)) n.natAbs 0) 4607182418800017408=some r/\double.read r=.number b q l/\-1074<=l/\sc b q l=(n-1)*U:=by
 obtain⟨q,l,m,hl,o⟩:=G6 (decide (n<0)) n.natAbs<|O5 om;rw[iW]at o;rw[Format.sub,m,Vi];simp only[Datum.opposite,Datum.sum];obtain⟨base,c⟩:∃base:Int,base=min l (-52):=⟨_,rfl⟩;rw[<-c];obtain⟨a,d⟩:∃a:Int,a=signed (decide (n<0)) q (l-base).toNat+signed (!false) 4503599627370496 (-52-base).toNat:=⟨_,rfl⟩;rw[<-d];have hs:a*(2:Int)^(base+1074).toNat=(n-1)*U:=by
  have e1:signed (decide (n<0)) q (l-base).toNat*(2:Int)^(base+1074).toNat=sc (decide (n<0)) q l:=by unfold sc;rw[<-FY];congr 1;omega
  have e2:signed (!false) 4503599627370496 (-52-base).toNat*(2:Int)^(base+1074).toNat=-U:=by rw[<-sY,<-EG];unfold sc;rw[<-FY];congr 1;omega
  grind
 by_cases i:a=0
 .rw[i,Int.zero_mul]at hs;refine⟨_,0,-1074,if a=0 then decide (n<0)&&!false else decide (a<0),rfl,?_,om,?_⟩
  .rw[show a.natAbs=0 from by omega];exact LI _ _
  rw[EA,hs]
 have p:n-1≠0:=by
  intro e;rw[e,Int.zero_mul]at hs;have:=Gp (base+1074).toNat;rcases Int.mul_eq_zero.1 hs with h|h<;>omega
 have Us:a.natAbs*2^(base+1074).toNat=(n-1).natAbs*2^((0:Int)+1074).toNat:=by
  have e:(a*(2:Int)^(base+1074).toNat).natAbs=((n-1)*U).natAbs:=by rw[hs]
  rw[Int.natAbs_mul,Int.natAbs_mul]at e;have e0:((0:Int)+1074).toNat=1074:=oo;unfold U at e;have e3:(2:Int).natAbs=2:=rfl;exact e
 obtain⟨j,k,f,g,_,hv'⟩:=G5 (decide (a<0)) a.natAbs base (n-1).natAbs 0 om om om om om Us;refine⟨_,j,k,decide (a<0),rfl,?_,g,?_⟩
 .rw[C3 i];exact f
 grind [RQ _ j k _ base hv',sc,DN]
def eE(c:double.read x=.number s m i)(hi:-1074<=i)(d:m<2^53)
  (a:sc s m i<sg s (whole m i)*U):
  ∃r,floatBits .sub .f64 (double.nearest (decide (sg s (whole m i)<0)) (sg s<|whole m i).natAbs 0) 4607182418800017408=some r/\(double.order x r==some .eq)=false:=by
 have hb:=E8 m i hi;have hs:s=true:=by grind [sg]
 subst hs;have f:=NA m i d (by
  intro e;rw[EG]at a;simp only[sg,if_true]at a;rw[Int.neg_mul]at a;omega)
 obtain⟨r,q,l,b,h1,h2,h3,h4⟩:=sub_one (sg true<|whole m i) (by simp only[sg];omega) (by simp only[sg];omega);refine⟨r,h1,?_⟩;simp only[BR c h2 hi h3,G0,h4,EG,sg,if_true];have e:(-(whole m i:Int)-1)*U=-(((whole m i:Int)+1)*U):=by rw[<-Int.neg_mul];congr 1;omega
 simp;omega
end Fl
namespace Fl
open Ieee
def fields x(a:x<18446744073709551616):∃sb e f,x=sb*9223372036854775808+e*4503599627370496+f/\sb<2/\e<2048/\f<4503599627370496:=
 ⟨x/9223372036854775808,x/4503599627370496%2048,x%4503599627370496,om,om,om,om⟩
def DE sb e f(h1:sb<2)(h2:e<2047)(h3:f<4503599627370496):
  double.read (sb*9223372036854775808+e*4503599627370496+f)=.number (sb==1) (if e=0 then f else 4503599627370496+f) (if e=0 then -1074 else(e:Int)-1075):=by
 unfold Format.read;have hb:double.binade=4503599627370496:=oo;have a:double.infRung=9218868437227405312:=oo;have hl:double.leastPlace=-1074:=oo;have hs:double.signWeight=9223372036854775808:=oo;have e2:(sb*9223372036854775808+e*4503599627370496+f)/9223372036854775808%2=sb:=om;grind
def Ez sb f(h1:sb<2)(h3:f<4503599627370496):
  double.read (sb*9223372036854775808+2047*4503599627370496+f)=if f=0 then .infinity (sb==1)else .nan (sb==1) f:=by
 unfold Format.read;have hb:double.binade=4503599627370496:=oo;have a:double.infRung=9218868437227405312:=oo;have hs:double.signWeight=9223372036854775808:=oo;rw[a,hs];have e1:(sb*9223372036854775808+2047*4503599627370496+f)%9223372036854775808=9218868437227405312+f:=om;have e2:(sb*9223372036854775808+2047*4503599627370496+f)/9223372036854775808%2=sb:=om;rw[e1,e2,C3 om];grind
theorem uQ:(2:Nat)^63=9223372036854775808:=oo
def lL:(2:Nat)^52=4503599627370496:=oo
def Vk sb:sb*9223372036854775808%2^52=0:=by
 omega
def Na sb e f(h1:sb<2)(h2:e<2048)(h3:f<4503599627370496):
  bits BinOp.andNot IntKind.u64 ((sb*9223372036854775808+e*4503599627370496+f:Nat):Int) 9223372036854775808=((e*4503599627370496+f:Nat):Int):=by
 have h:=u64_andNot_nat (sb*9223372036854775808+e*4503599627370496+f) 9223372036854775808 om om;have:=AaS (sb*9223372036854775808+e*4503599627370496+f) 63;grind [uQ]
def Wc sb e f(h1:sb<2)(h2:e<2048)(h3:f<4503599627370496):
  bits BinOp.andNot IntKind.u64 ((sb*9223372036854775808+e*4503599627370496+f:Nat):Int) 9218868437227405312=((sb*9223372036854775808+f:Nat):Int):=by
 have h:=u64_andNot_nat (sb*9223372036854775808+e*4503599627370496+f) 9218868437227405312 om om;refine h.trans ?_;have m1:18446744073709551615-9218868437227405312=9223372036854775808 ||| 4503599627370495:=oo
 rw[m1,Nat.and_or_distrib_left];have a1:=nat_bit 63<|sb*9223372036854775808+e*4503599627370496+f;have a2:=AaS (sb*9223372036854775808+e*4503599627370496+f) 52;rw[a1,a2];have e1:(sb*9223372036854775808+e*4503599627370496+f)/9223372036854775808%2=sb:=om;have e2:(sb*9223372036854775808+e*4503599627370496+f)%4503599627370496=f:=om;rw[e1,e2,nat_join 52 (sb*9223372036854775808) f (Vk sb) (by rw[lL];omega)]
def sQ sb f(h1:sb<2)(h3:f<4503599627370496):
  bits BinOp.or IntKind.u64 ((sb*9223372036854775808+f:Nat):Int) 4602678819172646912=((sb*9223372036854775808+1022*4503599627370496+f:Nat):Int):=by
 have h:=u64_or_nat (sb*9223372036854775808+f) 4602678819172646912 om om;refine h.trans ?_;have a:=nat_join 52 (sb*9223372036854775808) f (Vk sb) (by rw[lL];omega);have b:=nat_join 52 4602678819172646912 f (by rw[lL]) (by rw[lL];omega);have c:=nat_join 63 (sb*9223372036854775808) (4602678819172646912+f) (by rw[uQ];exact Nat.mul_mod_left _ _) (by rw[uQ];omega);rw[<-a,Nat.or_assoc,Nat.or_comm f,b,c];omega
def lF(e:Nat)(h2:e<4096):bits BinOp.and IntKind.u64 (e) 2047=((e%2048:Nat):Int):=by
 have h:=u64_and_nat e 2047 om om;refine h.trans ?_;congr 1;have:=AaS e 11;omega
def RE{j}(f:double.read x=.number s m i)(hy:double.read Z=.number t n j)(g:m*n≠0)(b:-1074<=i+j)
  (a) p (h:a<2^53) (c:-1074<=p) (d:p<=971) (e:(m*n)*2^(i+j+1074).toNat=a*2^(p+1074).toNat):
  ∃r q l,floatBits .mul .f64 x Z=some r/\double.read r=.number (s^^t) q l/\-1074<=l/\l<=971/\q*2^(l+1074).toNat=a*2^(p+1074).toNat:=by
 obtain⟨q,l,h1,h2,h3,h4⟩:=G5 (s^^t) (m*n) (i+j) a p g b h c d e;refine⟨double.nearest (s^^t) (m*n)<|i+j,q,l,?_,h1,h2,h3,h4.trans e⟩;show((double.read x).product<|double.read Z).map double.write=_;rw[f,hy];rfl
def iA:double.read 9218868437227405311=.number false 9007199254740991 971:=oo
def aG:double.read 4602678819172646912=.number false 4503599627370496 (-53):=oo
def iE:double.read 4611686018427387904=.number false 4503599627370496 (-51):=oo
def iC:double.read 4841369599423283200=.number false 4503599627370496 0:=oo
def iD:double.read 4845873199050653696=.number false 4503599627370496 1:=oo
def PT:double.read 4503599627370496=.number false 4503599627370496 (-1074):=oo
theorem Cw m i:sc false m i=((m*2^(i+1074).toNat:Nat):Int):=by
 rw[sc,signed];rw[Nat.shiftLeft_eq];simp
def aK s m i(c:m<2^53)(hi:i<=971):sc s m i<=sc false 9007199254740991 971:=by
 have h1:sc s m i<=sc false m i:=by
  cases s;all_goals grind [EG,Cw]
 refine Int.le_trans h1 ?_;rw[Cw,Cw];have a:m<=9007199254740991:=om;have b:2^(i+1074).toNat<=2^((971:Int)+1074).toNat:=AaD om om;exact Int.ofNat_le.2<|Nat.mul_le_mul a b
def J9(b:double.read x=.number s m i)(hi:-1074<=i)(a:i<=971)(c:m<2^53):(double.order x 9218868437227405311==some .gt)=false:=by
 rw[BR b iA hi om,KK];have:=aK s m i c a;simp;omega
def Rr(a:double.read x=.infinity false):(double.order x 9218868437227405311==some .gt)=true:=by
 unfold Format.order;rw[a];rfl
def Xb(a:double.read x=.infinity true):(double.order x 9218868437227405311==some .gt)=false:=by
 unfold Format.order;rw[a];rfl
end Fl
namespace Fl
open Ieee
structure Fr (x:Nat) (s:Bool) (m:Nat) (i:Int) (a y e0 z z2:Nat) (k:Int) (j:Nat):Prop where
 hk:-60<=k
 DM:k<=60
 uE:e0<2048
 Us:bits BinOp.andNot IntKind.u64 (x:Int) 9223372036854775808=(a:Int)
 Ko:(double.order a 9218868437227405311==some .gt)=false
 Yn:(k=0/\y=x/\(double.order a 4503599627370496==some .lt)=false)\/(k=-52/\floatBits .mul .f64 x 4841369599423283200=some y/\(double.order a 4503599627370496==some .lt)=true)
 h1:bits BinOp.and IntKind.u64 ((y:Int)/4503599627370496) 2047=(e0:Int)
 h2:bits BinOp.andNot IntKind.u64 (y:Int) 9218868437227405312=(z:Int)
 h3:bits BinOp.or IntKind.u64 (z:Int) 4602678819172646912=(z2:Int)
 rd:double.read z2=.number s (m*2^j) (-53)
 lo:2^52<=m*2^j
 hi:m*2^j<2^53
 ex:k+((e0:Int)-1023+1)-53=i-j
def Pa(Z sb e f:Nat)(hy:Z=sb*9223372036854775808+e*4503599627370496+f)(h1:sb<2)(h2:e<2048)(h3:f<4503599627370496):
  bits BinOp.and IntKind.u64 ((Z)/4503599627370496) 2047=(e:Int)/\
  bits BinOp.andNot IntKind.u64 (Z:Int) 9218868437227405312=((sb*9223372036854775808+f:Nat):Int)/\
  bits BinOp.or IntKind.u64 ((sb*9223372036854775808+f:Nat):Int) 4602678819172646912=((sb*9223372036854775808+1022*4503599627370496+f:Nat):Int):=by
 subst hy;refine⟨?_,Wc sb e f h1 h2 h3,sQ sb f h1 h3⟩;have q:(((sb*9223372036854775808+e*4503599627370496+f:Nat):Int)/4503599627370496)=((sb*2048+e:Nat):Int):=om;rw[q,lF _ om];congr 1;omega
def Ul x(M:x<18446744073709551616)s m i(w:double.read x=.number s m i)(S:m≠0):
  ∃P Z e0 X z2 k j,Fr x s m i P Z e0 X z2 k j:=by
 obtain⟨sb,e,f,rfl,b1,b2,b3⟩:=fields x M;have K:e<2047:=by
  apply Nat.lt_of_le_of_ne om;intro h;subst h;rw[Ez sb f b1 b3]at w;split at w<;>cases w
 rw[DE sb e f b1 K b3]at w;injection w with hs d g
 have u:=DE 0 e f om K b3;by_cases D:e=0
 .subst D;simp only[if_true]at d g u;subst d g;have E:double.read (sb*9223372036854775808+0*4503599627370496+f)=.number s f (-1074):=by
   rw[DE sb 0 f b1 om b3];simp[hs]
  obtain⟨r,q,l,o,b,Q,R,A⟩:=RE E iC om om f (-1022) om om om (by
   rw[show((-1074:Int)+0+1074).toNat=0 from by decide,show((-1022:Int)+1074).toNat=52 from by decide,Nat.mul_one])
  rw[show((-1022:Int)+1074).toNat=52 from by decide]at A;have B:r<18446744073709551616:=by
   have:=floatBits_wf o;simpa[Lit.wf]using this
  obtain⟨n,e',f',t,d1,d2,d3⟩:=fields r B;have F:e'<2047:=by
   apply Nat.lt_of_le_of_ne om;intro h;rw[t,h,Ez n f' d1 d3]at b;split at b<;>cases b
  rw[t,DE n e' f' d1 F d3]at b;injection b with g1 g2 g3
  have H:e'≠0:=by
   intro h;subst h;simp only[if_true]at g2 g3;subst g2 g3;rw[show((-1074:Int)+1074).toNat=0 from by decide,Nat.mul_one]at A;omega
  rw[C3 H]at g2 g3;subst g2 g3;rw[Bool.xor_false]at g1;obtain⟨c,hc⟩:∃c:Nat,c=((e':Int)-1075+1074).toNat:=⟨_,rfl⟩;rw[<-hc]at A;have L:c<=52:=by
   apply Nat.le_of_not_lt;intro I;have p1:2^53<=2^c:=AaD om I;have p2:(4503599627370496+f')*2^53<=(4503599627370496+f')*2^c:=Nat.mul_le_mul_left _ p1;omega
  have hj:4503599627370496+f'=f*2^(52-c):=by
   have e1:2^52=2^(52-c)*2^c:=by rw[<-Aaq];congr 1;omega
   rw[e1,<-So]at A;exact W9 (Of c) A
  obtain⟨t1,t2,t3⟩:=Pa r n e' f' t d1 om d3;have C:(double.order f 4503599627370496==some .lt)=true:=by
   have a:double.read f=.number false f (-1074):=by simpa using u
   rw[BR a PT om om,Jg,Cw,Cw];simp;omega
  refine⟨f,r,e',_,_,-52,52-c,om,om,om,?_,?_,.inr ⟨rfl,o,C⟩,t1,t2,t3,?_,?_,?_,?_⟩
  .have:=Na sb 0 f b1 om b3;simpa using this
  .have a:double.read f=.number false f (-1074):=by simpa using u
   exact J9 a om om om
  .rw[DE n 1022 f' d1 om d3,C3 om,g1,hj];rfl
  .rw[lL];omega
  .rw[<-hj];omega
  omega
 rw[C3 D]at d g u;rw[C3 D]at u;subst d g;obtain⟨t1,t2,t3⟩:=Pa _ sb e f rfl b1 om b3;have a:double.read (e*4503599627370496+f)=.number false (4503599627370496+f) ((e:Int)-1075):=by simpa using u
 refine⟨e*4503599627370496+f,_,e,_,_,0,0,om,om,om,Na sb e f b1 b2 b3,?_,.inl ⟨rfl,rfl,?_⟩,t1,t2,t3,?_,?_,?_,?_⟩
 .exact J9 a om om om
 .rw[BR a PT om om,Jg,Cw,Cw];have p:1<=2^((e:Int)-1075+1074).toNat:=Of _;have p2:(4503599627370496+f)*1<=(4503599627370496+f)*2^((e:Int)-1075+1074).toNat:=Nat.mul_le_mul_left _ p;generalize (4503599627370496+f)*2^((e:Int)-1075+1074).toNat=v at p2;simp;omega
 .rw[DE sb 1022 f b1 om b3,C3 om,hs];simp
 .rw[lL];omega
 .rw[Nat.pow_zero];omega
 omega
end Fl
namespace Fl
open Ieee
theorem Iw:∀(a b m n:Nat),2^a*(2*m+1)=2^b*(2*n+1)->a=b/\m=n
 |0,0,m,n,h=>by simp at h;exact⟨rfl,om⟩
 |0,b+1,m,n,h=>by
  rw[AaB]at h;simp at h;exfalso;have:(2*m+1)%2=(2^b*2*(2*n+1))%2:=by rw[h]
  rw[So,Nat.mul_left_comm,Nat.mul_mod_right]at this;omega
 |a+1,0,m,n,h=>by
  rw[AaB]at h;simp at h;exfalso;have:(2^a*2*(2*m+1))%2=(2*n+1)%2:=by rw[h]
  rw[So,Nat.mul_left_comm,Nat.mul_mod_right]at this;omega
 |a+1,b+1,m,n,h=>by
  have h':2^a*(2*m+1)=2^b*(2*n+1):=by
   rw[AaB,AaB,AaN (2^a),AaN (2^b),So,So]at h;exact Nat.eq_of_mul_eq_mul_left om h
  obtain⟨e1,e2⟩:=Iw a b m n h';exact⟨om,e2⟩
def uw(s:Bool)(Z:Nat):Nat:=if s then 18446744073709551616-Z else Z
def oO s Z(a:0<Z)(h:Z<2^53):IntKind.u64.wrap (sg s Z)=((uw s Z:Nat):Int):=by
 rw[IntKind.wrap_u64];grind [sg,uw]
def OX s Z(l:0<Z)(h:Z<2^53):∃M,Z=2^Lib.ctz 64 (uw s Z)*(2*M+1)/\Lib.ctz 64 (uw s Z)<53:=by
 obtain⟨M,c,a⟩:=Lib.ctzFrom_spec 53 Z l h;generalize n:Lib.ctzFrom 53 Z=t at c a;have f:uw s Z≠0:=by unfold uw;split<;>omega
 have b:uw s Z<2^64:=by unfold uw;split<;>omega
 obtain⟨M',g,_⟩:=Lib.ctzFrom_spec 64 (uw s Z) om b;have e:Lib.ctz 64 (uw s Z)=Lib.ctzFrom 64 (uw s Z):=by unfold Lib.ctz;rw[C3 f]
 rw[e];generalize Lib.ctzFrom 64 (uw s Z)=t' at g;have i:t=t':=by
  cases s
  .grind [uw,Iw]
  have hu:uw true Z=18446744073709551616-Z:=rfl;obtain⟨d,m⟩:∃d,64=t+(d+1):=⟨63-t,om⟩;have j:18446744073709551616=2^t*2^(d+1):=by rw[<-Aaq,<-m]
  have k:2*M+1<2^(d+1):=by
   have:2^t*(2*M+1)<2^t*2^(d+1):=by rw[<-c];omega
   exact Nat.lt_of_mul_lt_mul_left this
  have:uw true Z=2^t*(2*(2^d-M-1)+1):=by
   rw[hu,c,j];grind
  grind [Iw]
 subst i;exact⟨M,c,a⟩
def iX s t M:sg s (2^t*(2*M+1))/2^t=sg s (2*M+1):=by
 have hp:(2:Int)^t≠0:=oT<|Gp t;cases s
 .simp only[sg,Aad]
  push_cast
  exact Int.mul_ediv_cancel_left _ hp
 simp only[sg]
 push_cast
 rw[<-Int.mul_neg];exact Int.mul_ediv_cancel_left _ hp
def Ql q l Z(hl:-1074<=l)(h:q*2^(l+1074).toNat=Z*2^((0:Int)+1074).toNat):whole q l=Z:=by
 have hb:=E8 q l hl;have hu:=M8;rw[RQ false q l Z 0 h,Ho]at hb;have e:sg false Z=(Z:Int):=rfl;have h1:=Int.le_of_mul_le_mul_right hb.1 hu;have h2:=Int.lt_of_mul_lt_mul_right hb.2 om;omega
theorem VL r(h:r<9223372036854775808):r ^^^ 9223372036854775808=9223372036854775808+r/\(9223372036854775808+r) ^^^ 9223372036854775808=r:=by
 have e:r ^^^ 2^63=2^63+r:=by
  apply Nat.eq_of_testBit_eq;intro i;rw[Nat.testBit_xor,Nat.testBit_two_pow];by_cases hi:i=63
  .grind
  by_cases a:i<63
  .grind [Nat.testBit_two_pow_add_gt a]
  have h1:r.testBit i=false:=Nat.testBit_lt_two_pow<|A0 (by rw[<-uQ]at h;exact h)<|AaD om om;have h2:(2^63+r).testBit i=false:=Nat.testBit_lt_two_pow<|A0 (show 2^63+r<2^64 from by rw[uQ];omega)<|AaD om om;grind
 grind
def sJ x:Op.negFloat .f64 x=x ^^^ 9223372036854775808:=by
 rw[Op.negFloat];have:FloatKind.f64.format.exponentBits+FloatKind.f64.format.fractionBits=63:=rfl;rw[this]
def Zm e f(b2:e<2048)(b3:f<4503599627370496):e*4503599627370496+f<9223372036854775808:=by
 omega
def LU x(b:x<18446744073709551616):double.read (Op.negFloat .f64 x)=(double.read x).opposite:=by
 rw[sJ];obtain⟨sb,e,f,rfl,b1,b2,b3⟩:=fields x b;have hs:sb=0\/sb=1:=om;have hb:=Zm e f b2 b3;have key:(sb*9223372036854775808+e*4503599627370496+f) ^^^ 9223372036854775808=(1-sb)*9223372036854775808+e*4503599627370496+f:=by
  rcases hs with rfl|rfl
  .grind [VL]
  have:=(VL (e*4503599627370496+f) hb).2;grind
 rw[key];by_cases a:e<2047
 .rw[DE _ e f om a b3,DE sb e f b1 a b3];rcases hs with rfl|rfl<;>rfl
 have:e=2047:=om;subst this;rw[Ez _ f om b3,Ez sb f b1 b3];rcases hs with rfl|rfl<;>by_cases hf:f=0<;>simp[hf,Datum.opposite]
end Fl
section
open Go.RowKit
def PX x w:(callFunc 178 #[F9 x]).run Tryz.prog w=.ok (.value<|.int .u64 (x:Int)) w:=by
 rw[run_callFunc_extern (e:=Extern.MathFloatBits.float64bits) Tryz.func178 ou ou ou ou];rfl
def JC(x:Nat)w:(callFunc 179 #[.int .u64 (x)]).run Tryz.prog w=.ok (.value<|F9 x) w:=by
 rw[run_callFunc_extern (e:=Extern.MathFloatBits.float64frombits) Tryz.func179 ou ou ou ou];rfl
def Sn(x Z:Nat)w(h:bits BinOp.andNot IntKind.u64 (x) 9223372036854775808=(Z)):
  C9 176 #[F9 x] w λe w'=>e=.returned (F9 Z)/\w'=w:=by
 have h1:=PX x;have h2:=JC Z;go_enter Tryz.func176,Tryz.ntmps176;go_wp2;go_ret;exact⟨rfl,rfl⟩
def WH(x Z:Nat)w(h:bits BinOp.andNot IntKind.u64 (x) 9223372036854775808=(Z)):
  C9 181 #[F9 x,J 0] w λe w'=>e=.returned (.bool<|O9 Z 9218868437227405311==some .gt)/\w'=w:=by
 have H:Hid<|bits BinOp.andNot IntKind.u64 (x:Int) 9223372036854775808=(Z:Int):=h;clear h;go_enter Tryz.func181,Tryz.ntmps181;go_wp2_with (go_at_call 176;refine(Sn x Z _ H.out).mono ?_;rintro e w1 ⟨rfl,rfl⟩);go_ret;exact⟨rfl,rfl⟩
def MD x w:
  C9 181 #[F9 x,J 1] w λe w'=>e=.returned (.bool<|O9 x 9218868437227405311==some .gt)/\w'=w:=by
 go_enter Tryz.func181,Tryz.ntmps181;go_wp2;go_ret;exact⟨rfl,rfl⟩
def Rs x w:
  C9 181 #[F9 x,J (-1)] w λe w'=>e=.returned (.bool<|O9 (Op.negFloat .f64 x) 9218868437227405311==some .gt)/\w'=w:=by
 have a:∀w:World,(Op.unary .neg<|F9 x).run Tryz.prog w=.ok (F9<|Op.negFloat .f64 x) w:=λ_=>rfl;go_enter Tryz.func181,Tryz.ntmps181;go_wp2;go_ret;exact⟨rfl,rfl⟩
def NK(x Z r:Nat)(w)(h:bits BinOp.andNot IntKind.u64 (x) 9223372036854775808=(Z))(b:(O9 Z 4503599627370496==some .lt)=true)
  (a:floatBits .mul .f64 x 4841369599423283200=some r):
  C9 197 #[F9 x] w λe w'=>e=.returned (.tuple #[F9 r,J (-52)])/\w'=w:=by
 have H:Hid<|bits BinOp.andNot IntKind.u64 (x:Int) 9223372036854775808=(Z:Int):=h;have c:∀w:World,(binOp .mul 30 (F9 x)<|F9 4841369599423283200).run Tryz.prog w=.ok (F9 r) w:=λw=>AaA w .mul 30 .f64 _ _ r a;clear h a;go_enter Tryz.func197,Tryz.ntmps197;go_wp2_with (go_at_call 176;refine(Sn x Z _ H.out).mono ?_;rintro e w1 ⟨rfl,rfl⟩)
 go_ret2
 exact⟨rfl,rfl⟩
def QM(x Z:Nat)w(h:bits BinOp.andNot IntKind.u64 (x) 9223372036854775808=(Z))(a:(O9 Z 4503599627370496==some .lt)=false):
  C9 197 #[F9 x] w λe w'=>e=.returned (.tuple #[F9 x,J 0])/\w'=w:=by
 have H:Hid<|bits BinOp.andNot IntKind.u64 (x:Int) 9223372036854775808=(Z:Int):=h;clear h;go_enter Tryz.func197,Tryz.ntmps197;go_wp2_with (go_at_call 176;refine(Sn x Z _ H.out).mono ?_;rintro e w1 ⟨rfl,rfl⟩)
 go_ret2
 exact⟨rfl,rfl⟩
def Zs(x a Z e0 X z2:Nat)(k)(w)(hk:-60<=k)(DM:k<=60)(uE:e0<2048)
  (hz:(O9 x 0==some .eq)=false) (hn:(O9 x x !=some .eq)=false)
  (Us:bits BinOp.andNot IntKind.u64 x 9223372036854775808=(a)) (Ko:(O9 a 9218868437227405311==some .gt)=false)
  (Yn:∀w,C9 197 #[F9 x] w λe w'=>e=.returned (.tuple #[F9 Z,J k])/\w'=w)
  (h1:bits BinOp.and IntKind.u64 ((Z)/4503599627370496) 2047=(e0))
  (h2:bits BinOp.andNot IntKind.u64 (Z:Int) 9218868437227405312=(X))
  (h3:bits BinOp.or IntKind.u64 (X:Int) 4602678819172646912=(z2)):
  C9 191 #[F9 x] w λe w'=>e=.returned (.tuple #[F9 z2,J (k+((e0:Int)-1023+1))])/\w'=w:=by
 have H:Hid<|bits BinOp.andNot IntKind.u64 (x:Int) 9223372036854775808=(a:Int):=Us;have b:Hid (∀w:World,C9 197 #[F9 x] w λe w'=>e=.returned (.tuple #[F9 Z,J k])/\w'=w):=Yn;have b1:=PX Z;have b2:=JC z2;have c:Hid<|(O9 a 9218868437227405311==some .gt)=false:=Ko;clear Us Yn Ko;go_enter Tryz.func191,Tryz.ntmps191;go_wp2_with (first|(go_at_call 181;refine(WH x a _ H.out).mono ?_;rintro e w1 ⟨rfl,rfl⟩;rw[c.out])|(go_at_call 123;go_in)|(go_at_call 197;refine(b.out _).mono ?_;rintro e w1 ⟨rfl,rfl⟩))
 go_ret2
 exact⟨rfl,rfl⟩
end
end Go.Proofs.YtkpfgniijbgkoaaGreatDoor
namespace Go.Proofs
open Go.Shelf
def Tryz.S7:Go.Shelf.Ren:=⟨λ|171=>185|243=>193|246=>192|283=>198|284=>199|285=>200|286=>201|129=>203|317=>202|318=>204|319=>205|320=>206|337=>207|338=>183|n=>n,λ|3=>3|9=>9|2=>2|4=>4|171=>277|0=>0|53=>48|37=>22|5=>5|173=>279|212=>282|51=>283|20=>20|213=>284|46=>145|232=>287|233=>275|n=>n,λ|17=>3|18=>4|19=>2|n=>n⟩
def Tryz.fP:Go.Proofs.LaysM.n171 Tryz.prog Tryz.S7:={
 mixed:=by kernel_rfl
 f129:=Tryz.func203.trans (congrArg some<|by kernel_rfl)
 f171:=Tryz.func185.trans (congrArg some<|by kernel_rfl)
 f243:=Tryz.func193.trans (congrArg some<|by kernel_rfl)
 f246:=Tryz.func192.trans (congrArg some<|by kernel_rfl)
 f283:=Tryz.func198.trans (congrArg some<|by kernel_rfl)
 f284:=Tryz.func199.trans (congrArg some<|by kernel_rfl)
 f285:=Tryz.func200.trans (congrArg some<|by kernel_rfl)
 f286:=Tryz.func201.trans (congrArg some<|by kernel_rfl)
 f317:=Tryz.func202.trans (congrArg some<|by kernel_rfl)
 f318:=Tryz.func204.trans (congrArg some<|by kernel_rfl)
 f319:=Tryz.func205.trans (congrArg some<|by kernel_rfl)
 f320:=Tryz.func206.trans (congrArg some<|by kernel_rfl)
 f337:=Tryz.func207.trans (congrArg some<|by kernel_rfl)
 f338:=Tryz.func183.trans (congrArg some<|by kernel_rfl)
 t0:=Tryz.underlying0
 a0:=Tryz.isAgg0
 z0:=Tryz.sizeOf0
 v0:=Tryz.zeroValue0
 t2:=Tryz.underlying2
 a2:=Tryz.isAgg2
 z2:=Tryz.sizeOf2
 v2:=Tryz.zeroValue2
 t3:=Tryz.underlying3
 a3:=Tryz.isAgg3
 z3:=Tryz.sizeOf3
 v3:=Tryz.zeroValue3
 t4:=Tryz.underlying4
 a4:=Tryz.isAgg4
 z4:=Tryz.sizeOf4
 v4:=Tryz.zeroValue4
 t5:=Tryz.underlying5
 a5:=Tryz.isAgg5
 z5:=Tryz.sizeOf5
 v5:=Tryz.zeroValue5
 t9:=Tryz.underlying9
 a9:=Tryz.isAgg9
 z9:=Tryz.sizeOf9
 v9:=Tryz.zeroValue9
 t20:=Tryz.underlying20
 a20:=Tryz.isAgg20
 z20:=Tryz.sizeOf20
 v20:=Tryz.zeroValue20
 t37:=Tryz.underlying22
 a37:=Tryz.isAgg22
 z37:=Tryz.sizeOf22
 v37:=Tryz.zeroValue22
 t46:=Tryz.underlying145
 a46:=Tryz.isAgg145
 z46:=Tryz.sizeOf145
 v46:=Tryz.zeroValue145
 t51:=Tryz.underlying283
 a51:=Tryz.isAgg283
 z51:=Tryz.sizeOf283
 v51:=Tryz.zeroValue283
 t53:=Tryz.underlying48
 a53:=Tryz.isAgg48
 z53:=Tryz.sizeOf48
 v53:=Tryz.zeroValue48
 t171:=Tryz.underlying277
 a171:=Tryz.isAgg277
 z171:=Tryz.sizeOf277
 v171:=Tryz.zeroValue277
 t173:=Tryz.underlying279
 a173:=Tryz.isAgg279
 z173:=Tryz.sizeOf279
 v173:=Tryz.zeroValue279
 t212:=Tryz.underlying282
 a212:=Tryz.isAgg282
 z212:=Tryz.sizeOf282
 v212:=Tryz.zeroValue282
 t213:=Tryz.underlying284
 a213:=Tryz.isAgg284
 z213:=Tryz.sizeOf284
 t232:=Tryz.underlying287
 a232:=Tryz.isAgg287
 z232:=Tryz.sizeOf287
 v232:=Tryz.zeroValue287
 t233:=Tryz.underlying275
 a233:=Tryz.isAgg275
 z233:=Tryz.sizeOf275
 v233:=Tryz.zeroValue275
 g17:=by kernel_rfl
 g18:=by kernel_rfl
 g19:=by kernel_rfl
 i0:=by kernel_rfl
 i2:=by kernel_rfl
 i3:=by kernel_rfl
 i4:=by kernel_rfl
 i5:=by kernel_rfl
 i9:=by kernel_rfl
 i20:=by kernel_rfl
 i37:=by kernel_rfl
 i46:=by kernel_rfl
 i51:=by kernel_rfl
 i53:=by kernel_rfl
 i171:=by kernel_rfl
 i173:=by kernel_rfl
 i212:=by kernel_rfl
 i232:=by kernel_rfl
 i233:=by kernel_rfl
 m17:=by kernel_rfl
 m18:=by kernel_rfl
 m19:=by kernel_rfl}
open Go.RowKit Go.Sort Go.Lib in
def Tryz.strconv_Itoa(n:Int)(b:-9223372036854775808<=n)(h1:n<=9223372036854775807)(w:World)(a:Lib.TabIs Tryz.prog w "internal/strconv.uint64pow10" .u64 Lib.pow10Tab):
  Calls Tryz.prog 185 #[.int .i64 n] w λe w'=>e=.returned (.string ⟨(Lib.itoa n).toArray⟩)/\∃k os,w'=grow (w.drewN k) os:=Any.strconv_Itoa Tryz.fP n b h1 w a
def Tryz.S8:Go.Shelf.Ren:=⟨λ|173=>184|246=>192|283=>198|284=>199|285=>200|286=>201|129=>203|317=>202|318=>204|319=>205|320=>206|337=>207|338=>183|n=>n,λ|2=>2|3=>3|9=>9|4=>4|171=>277|0=>0|53=>48|37=>22|5=>5|173=>279|212=>282|51=>283|20=>20|213=>284|46=>145|232=>287|233=>275|n=>n,λ|17=>3|18=>4|19=>2|n=>n⟩
def Tryz.fQ:Go.Proofs.LaysM.n173 Tryz.prog Tryz.S8:={
 mixed:=by kernel_rfl
 f129:=Tryz.func203.trans (congrArg some<|by kernel_rfl)
 f173:=Tryz.func184.trans (congrArg some<|by kernel_rfl)
 f246:=Tryz.func192.trans (congrArg some<|by kernel_rfl)
 f283:=Tryz.func198.trans (congrArg some<|by kernel_rfl)
 f284:=Tryz.func199.trans (congrArg some<|by kernel_rfl)
 f285:=Tryz.func200.trans (congrArg some<|by kernel_rfl)
 f286:=Tryz.func201.trans (congrArg some<|by kernel_rfl)
 f317:=Tryz.func202.trans (congrArg some<|by kernel_rfl)
 f318:=Tryz.func204.trans (congrArg some<|by kernel_rfl)
 f319:=Tryz.func205.trans (congrArg some<|by kernel_rfl)
 f320:=Tryz.func206.trans (congrArg some<|by kernel_rfl)
 f337:=Tryz.func207.trans (congrArg some<|by kernel_rfl)
 f338:=Tryz.func183.trans (congrArg some<|by kernel_rfl)
 t0:=Tryz.underlying0
 a0:=Tryz.isAgg0
 z0:=Tryz.sizeOf0
 v0:=Tryz.zeroValue0
 t2:=Tryz.underlying2
 a2:=Tryz.isAgg2
 z2:=Tryz.sizeOf2
 v2:=Tryz.zeroValue2
 t3:=Tryz.underlying3
 a3:=Tryz.isAgg3
 z3:=Tryz.sizeOf3
 v3:=Tryz.zeroValue3
 t4:=Tryz.underlying4
 a4:=Tryz.isAgg4
 z4:=Tryz.sizeOf4
 v4:=Tryz.zeroValue4
 t5:=Tryz.underlying5
 a5:=Tryz.isAgg5
 z5:=Tryz.sizeOf5
 v5:=Tryz.zeroValue5
 t9:=Tryz.underlying9
 a9:=Tryz.isAgg9
 z9:=Tryz.sizeOf9
 v9:=Tryz.zeroValue9
 t20:=Tryz.underlying20
 a20:=Tryz.isAgg20
 z20:=Tryz.sizeOf20
 v20:=Tryz.zeroValue20
 t37:=Tryz.underlying22
 a37:=Tryz.isAgg22
 z37:=Tryz.sizeOf22
 v37:=Tryz.zeroValue22
 t46:=Tryz.underlying145
 a46:=Tryz.isAgg145
 z46:=Tryz.sizeOf145
 v46:=Tryz.zeroValue145
 t51:=Tryz.underlying283
 a51:=Tryz.isAgg283
 z51:=Tryz.sizeOf283
 v51:=Tryz.zeroValue283
 t53:=Tryz.underlying48
 a53:=Tryz.isAgg48
 z53:=Tryz.sizeOf48
 v53:=Tryz.zeroValue48
 t171:=Tryz.underlying277
 a171:=Tryz.isAgg277
 z171:=Tryz.sizeOf277
 v171:=Tryz.zeroValue277
 t173:=Tryz.underlying279
 a173:=Tryz.isAgg279
 z173:=Tryz.sizeOf279
 v173:=Tryz.zeroValue279
 t212:=Tryz.underlying282
 a212:=Tryz.isAgg282
 z212:=Tryz.sizeOf282
 v212:=Tryz.zeroValue282
 t213:=Tryz.underlying284
 a213:=Tryz.isAgg284
 z213:=Tryz.sizeOf284
 t232:=Tryz.underlying287
 a232:=Tryz.isAgg287
 z232:=Tryz.sizeOf287
 v232:=Tryz.zeroValue287
 t233:=Tryz.underlying275
 a233:=Tryz.isAgg275
 z233:=Tryz.sizeOf275
 v233:=Tryz.zeroValue275
 g17:=by kernel_rfl
 g18:=by kernel_rfl
 g19:=by kernel_rfl
 i0:=by kernel_rfl
 i2:=by kernel_rfl
 i3:=by kernel_rfl
 i4:=by kernel_rfl
 i5:=by kernel_rfl
 i9:=by kernel_rfl
 i20:=by kernel_rfl
 i37:=by kernel_rfl
 i46:=by kernel_rfl
 i51:=by kernel_rfl
 i53:=by kernel_rfl
 i171:=by kernel_rfl
 i173:=by kernel_rfl
 i212:=by kernel_rfl
 i232:=by kernel_rfl
 i233:=by kernel_rfl
 m17:=by kernel_rfl
 m18:=by kernel_rfl
 m19:=by kernel_rfl}
open Go.RowKit Go.Sort Go.Lib in
def Tryz.strconv_FormatInt_10(n:Int)(b:-9223372036854775808<=n)(h1:n<=9223372036854775807)(w:World)(a:Lib.TabIs Tryz.prog w "internal/strconv.uint64pow10" .u64 Lib.pow10Tab):
  Calls Tryz.prog 184 #[.int .i64 n,.int .i64 10] w λe w'=>e=.returned (.string ⟨(Lib.itoa n).toArray⟩)/\∃k os,w'=grow (w.drewN k) os:=Any.strconv_FormatInt_10 Tryz.fQ n b h1 w a
end Go.Proofs
namespace Go.Proofs.YtkpfgniijbgkoaaGreatDoor
variable {p q:Prop}{n B b o x f k a c Z m j e0 X z2 M Ah lc ic xc o' e h:Nat}{α:Type _}{P:Program}{a3 a4 a5 a6 a7 a8 a9 a10 a11:Value}{g:Array Value}{ty:TypeId}{s t:Bool}{i num ref kind live last:Int}{la ia xa:Option Addr}{xs:List Value}
section
open Go.RowKit
structure BZ (w:Y):Prop where
 t64:TabAt 2 Lib.deBruijn64tab w
 sR:Lib.TabIs Tryz.prog w "internal/strconv.uint64pow10" .u64 Lib.pow10Tab
 sz:5<=w.heap.size
def BZ.below{w w':Y}(h:BZ w){B}(hb:Below B w w')(a:5<=B):BZ w':=
 ⟨λj hj=>o7 hb (show 2<B from by omega)<|h.t64 j hj,
  var?_below hb (show Tryz.prog.globalNamed "internal/strconv.uint64pow10" =some 3 from by kernel_rfl) om h.sR,
  GO h.sz hb.size⟩
def XE(x k idx:Nat)(w)(b:((x:Int)==0)=false)
  (key:IntKind.u64.wrap (bits BinOp.and IntKind.u64 x (IntKind.u64.wrap (-(x)))*285870213051353865)/288230376151711744=(idx))
  (hi:idx<64) (hk:k<64) (a:w.cell? (G 2 idx)=some (.int .u8 k)):
  C9 183 #[.int .u64 x] w λe w'=>e=.returned (J k)/\w'=w:=by
 go_enter Tryz.func183,Tryz.ntmps183;go_wp2_with (simp only[key]);go_ret;exact⟨rfl,rfl⟩
def kA(x:Nat)(f:x<18446744073709551616)(b:x≠0){w}(g:BZ w):
  C9 183 #[.int .u64 x] w λe w'=>e=.returned (J<|Lib.ctz 64 x)/\w'=w:=by
 obtain⟨c,hk⟩:=Lib.lowest_bit 64 x b f;obtain⟨hi,d⟩:=Lib.deBruijn64_at _ hk;have a:=g.t64 _ hi;rw[d]at a;exact XE x _ _ w ot (tz64_key x _ f b c) hi hk a
def eJ{k}(b:Ieee.double.read x=.number s m i)(hi:-1074<=i)(c:m≠0)(F:Fl.Fr x s m i a Z e0 X z2 k j)w:
  C9 191 #[F9 x] w λe w'=>e=.returned (.tuple #[F9 z2,J (k+((e0:Int)-1023+1))])/\w'=w:=by
 have hz:(O9 x 0==some .eq)=false:=by
  show(Ieee.double.order x 0==some .eq)=false;rw[Fl.BR b Fl.CD hi om,Fl.G0,Fl.EA];have hp:=Fl.Gp (i+1074).toNat;simp only[decide_eq_false_iff_not];rw[Fl.sc,Fl.DN];generalize (2:Int)^(i+1074).toNat=u at hp;intro h;have h1:(m:Int)*u=0:=by cases s<;>simpa using h
  rcases Int.mul_eq_zero.1 h1 with h|h<;>omega
 have hn:(O9 x x !=some .eq)=false:=by
  show(!(Ieee.double.order x x==some .eq))=false;rw[Fl.BR b b hi hi];simp
 refine Zs x a Z e0 X z2 k w F.hk F.DM F.uE hz hn F.Us F.Ko ?_ F.h1 F.h2 F.h3;intro w;rcases F.Yn with⟨h1,h2,h3⟩|⟨h1,h2,h3⟩
 .rw[h1,h2];exact QM x a w F.Us h3
 rw[h1];exact NK x a Z w F.Us h3 h2
def Zt{k}(a:Ieee.double.read x=.number s m i)(hi:-1074<=i)(b:m≠0)(F:Fl.Fr x s m i c Z e0 X z2 k j)w:
  C9 182 #[F9 x] w λe w'=>e=.returned (.tuple #[F9 z2,J (k+((e0:Int)-1023+1))])/\w'=w:=by
 have H:Hid (∀w:World,C9 191 #[F9 x] w λe w'=>e=.returned (.tuple #[F9 z2,J (k+((e0:Int)-1023+1))])/\w'=w):=λw=>eJ a hi b F w;clear F a b hi;go_enter Tryz.func182,Tryz.ntmps182;go_wp2_with (go_at_call 191;refine(H.out _).mono ?_;rintro e w1 ⟨rfl,rfl⟩)
 go_ret2
 exact⟨rfl,rfl⟩
def CL(a b:List UInt8):(⟨a.toArray⟩++⟨b.toArray⟩:ByteArray)=⟨(a++b).toArray⟩:=by
 apply ByteArray.ext;simp
def Ke{a b}(h:a=b):Ending.returned (.string a)=.returned (.string b):=by rw[h]
def SL{u}(h:u<10):Lib.decDigits u=[UInt8.ofNat (48+u)]:=by rw[Lib.decDigits,dif_pos h]
def Wm{u}(h:¬u<10):Lib.decDigits u=Lib.decDigits (u/10)++[UInt8.ofNat (48+u%10)]:=by rw[Lib.decDigits,dif_neg h]
def O0 u(h:u<9223372036854775808):(Lib.decDigits u).length<=21:=by
 have:=AaX (u:Int) om om;rw[Lib.itoa,C3 om]at this;simpa using this
def rE(u:Nat):UInt8:=UInt8.ofNat<|48+u%10
def Wk(u:Nat)(wr:Y):(convert 22 9<|S9 wr.heap.size 1 1).run Tryz.prog (wr.alloc<|.cells #[.int .u8 (48+(u)%10)] 5)=.ok (.string ⟨[rE u].toArray⟩) (wr.alloc<|.cells #[.int .u8 (48+(u:Int)%10)] 5):=
 run_convert_bytes_back (P:=Tryz.prog) (wr.alloc<|.cells #[.int .u8 (48+(u:Int)%10)] 5) 22 9 5 (y wr 0) 1 [rE u] Tryz.underlying22 Tryz.underlying5 Tryz.underlying9 (by
  intro j hj;have:j=0:=by simpa using hj
  subst this;have e:(rE u).toNat=48+u%10:=by
   unfold rE;rw[UInt8.toNat_ofNat'];omega
  simp[Addr.add,go_sem,e])
def Lt(s:Bool)(M:Nat)(E:Int):List UInt8:=Lib.itoa (Fl.sg s M)++[112]++Lib.itoa E
def Wu(x z2 r u t:Nat)(ex a b){w}(h:BZ w)
  (h1:(O9 x 9218868437227405311==some .gt)=false) (h2:(O9 (Op.negFloat .f64 x) 9218868437227405311==some .gt)=false)
  (k:∀w,C9 182 #[F9 x] w λe w'=>e=.returned (.tuple #[F9 z2,J ex])/\w'=w)
  (l:floatBits .mul .f64 z2 4845873199050653696=some r) (hc:floatToIntVal .f64 r .i64=some a)
  (hu:IntKind.u64.wrap a=(u)) (i:u≠0) (j:u<18446744073709551616) (m:Lib.ctz 64 u=t) (n:t<53) (hb:a/2^t=b)
  (o:-9007199254740992<b) (p:b<9007199254740992) (q:-1200<ex) (s:ex<1200):
  C9 166 #[F9 x] w (R9 (.string ⟨(Lib.itoa b++[112]++Lib.itoa (ex-53+t)).toArray⟩) w):=by
 have v:Hid (∀w:World,C9 182 #[F9 x] w λe w'=>e=.returned (.tuple #[F9 z2,J ex])/\w'=w):=k;have I:∀w:World,(binOp .mul 30 (F9 z2)<|F9 4845873199050653696).run Tryz.prog w=.ok (F9 r) w:=λw=>AaA w .mul 30 .f64 _ _ r l;have A:∀w:World,(convert 30 2<|F9 r).run Tryz.prog w=.ok (J a) w:=λw=>run_convert_float_int w 30 2 .f64 .i64 r _ ou Tryz.underlying2 hc;have B:Hid<|Lib.ctz 64 u=t:=m;have C:Hid<|(O9 (Op.negFloat .f64 x) 9218868437227405311==some .gt)=false:=h2;have D:Hid<|(O9 x 9218868437227405311==some .gt)=false:=h1;go_enter Tryz.func166,Tryz.ntmps166;go_wp2_with fail;refine(MD x _).mono ?_;rintro e w1 ⟨rfl,rfl⟩;rw[D.out];go_wp2_with fail;refine(Rs x _).mono ?_;rintro e w1 ⟨rfl,rfl⟩;rw[C.out];go_wp2_with fail;refine(v.out _).mono ?_;rintro e w1 ⟨rfl,rfl⟩;go_wp2_with fail;refine(kA u j i h).mono ?_;rintro e w1 ⟨rfl,rfl⟩;rw[B.out];go_wp2_with fail;refine(Tryz.strconv_FormatInt_10 b om om _ h.sR).mono ?_;rintro e w2 ⟨rfl,K,os,d⟩;have c:B9 w1 w2:=by rw[d];exact Lib.below_grow _ _ (Be _) _ _
 clear d;have E:=AaX b om om;have F:=AaX (ex-53+t) om om;go_wp2_with fail;refine(Tryz.strconv_Itoa (ex-53+t) om om _ (h.below c h.sz).sR).mono ?_;rintro e w3 ⟨rfl,k3,H,f⟩;have g:B9 w2 w3:=by rw[f];exact Lib.below_grow _ _ (Be _) _ _
 clear f;go_wp2_with fail;go_ret;exact⟨Ke<|by rw[CL,CL],o9 c g⟩
def TW(m:Nat)(i:Int)(M:Nat)(E:Int):Prop:=∃a b:Nat,m*2^a=(2*M+1)*2^b/\E=i+b-a
def Nt{M'}{E E'}(h:TW m i M E)(h':TW m i M' E'):M=M'/\E=E':=by
 obtain⟨a,b,e1,rfl⟩:=h;obtain⟨a',b',e2,rfl⟩:=h';have e:2^(b+a')*(2*M+1)=2^(b'+a)*(2*M'+1):=by grind
 obtain⟨h1,h2⟩:=Fl.Iw _ _ _ _ e;exact⟨h2,om⟩
def nY Z c d(h:d=52+c):Z*4503599627370496*2^c=Z*2^d:=by
 rw[h,Aaq,So]
def Qz x(B:x<18446744073709551616)s m i(o:Ieee.double.read x=.number s m i)(hi:-1074<=i)(a:i<=971)(C:m<2^53)(b:m≠0):
  ∃M E,TW m i M E/\∀w,BZ w->C9 166 #[F9 x] w (R9 (.string ⟨(Lt s (2*M+1) E).toArray⟩) w):=by
 obtain⟨Q,X,e0,W,z2,k,j,F⟩:=Fl.Ul x B s m i o b;have d:0<m*2^j:=oT F.lo;obtain⟨M,D,R⟩:=Fl.OX s (m*2^j) d F.hi;obtain⟨r,q,l,e,f,g,I,H⟩:=Fl.RE F.rd Fl.iD (oT F.lo) om (m*2^j) 0 F.hi om om<|nY (m*2^j) _ _ oo;rw[Bool.xor_false]at f;have K:=Fl.Ql q l (m*2^j) g H;have hu:=Fl.M8;have p:Fl.sc s q l=Fl.sg s (m*2^j)*Fl.U:=by rw[Fl.RQ s q l (m*2^j) 0 H,Fl.Ho]
 have u:floatToIntVal .f64 r .i64=some (Fl.sg s<|m*2^j):=by
  have h:=Fl.L9 f g (by
   have:-9223372036854775808<=Fl.sg s (m*2^j):=by have:=F.hi;cases s<;>simp only[Fl.sg,Aad]<;>omega
   have:=Int.mul_le_mul_of_nonneg_right this (Int.le_of_lt hu);omega) (by
   rw[p];have:Fl.sg s (m*2^j)<9223372036854775808:=by have:=F.hi;cases s<;>simp only[Fl.sg,Aad]<;>omega
   exact Int.mul_lt_mul_of_pos_right this hu)
  rw[K]at h;exact h
 have n:=F.hi;generalize hN:m*2^j=Z at*;generalize v:Lib.ctz 64 (Fl.uw s Z)=t at*;have L:2*M+1<9007199254740992:=by
  have:1*(2*M+1)<=2^t*(2*M+1):=Aat _<|Of t;omega
 refine⟨M,i-j+t,⟨j,t,by rw[hN,D,AaN],om⟩,λw P=>?_⟩;have hex:=F.ex;have A:k+((e0:Int)-1023+1)-53+t=i-j+t:=om;have c:=Wu x z2 r (Fl.uw s Z) t (k+((e0:Int)-1023+1)) (Fl.sg s Z) (Fl.sg s<|2*M+1) P
  (Fl.J9 o hi a C)
  (Fl.J9 (by rw[Fl.LU x B,o];rfl) hi a C)
  (λw=>Zt o hi b F w) e u (Fl.oO s Z d n)
  (by unfold Fl.uw;split<;>omega) (by unfold Fl.uw;split<;>omega) v om
  (by rw[D];exact Fl.iX s t M)
  (by cases s<;>simp only[Fl.sg,Aad]<;>omega)
  (by cases s<;>simp only[Fl.sg,Aad]<;>omega)
  (by have:=F.hk;have:=F.uE;omega) (by have:=F.DM;have:=F.uE;omega)
 rw[A]at c;exact c
def Ng(n:Nat)(hn:n<9007199254740992)w:
  C9 180 #[J n] w (R9 (.string ⟨(Lib.decDigits n).toArray⟩) w):=by
 have hl:=O0 n om;have g2:(0:Int)<=(n:Int):=om;go_enter Tryz.func180,Tryz.ntmps180;go_wp2;go_loopw [0,3] (λa o wr=>∃(u:Nat) (l:List UInt8),u<=n/\a=J (u:Int)/\o=.string ⟨l.toArray⟩/\Lib.decDigits n=Lib.decDigits u++l/\B9 w wr) λa _ _=>(intOf a).toNat
 .exact⟨n,[],Be _,rfl,rfl,oq,BE _ _⟩
 obtain⟨u,l,hu,rfl,rfl,c,hb⟩:=hrel;have d:Hid<|Lib.decDigits n=Lib.decDigits u++l:=c;have e:l.length<=21:=by have:=congrArg List.length c;rw[OR]at this;omega
 clear c;have f:=Wk u wr;by_cases b:u<10
 .have hz:((u:Int)/10==0)=true:=ot;go_wp2;go_ret;refine⟨Ke ?_,hb.alloc hb.size _⟩;rw[CL,d.out,SL b];have:rE u=UInt8.ofNat (48+u):=by unfold rE;rw[TC b]
  rw[this]
 have hz:((u:Int)/10==0)=false:=ot;go_wp2;go_roundw
 .refine⟨u/10,rE u::l,om,ov,?_,?_,hb.alloc hb.size _⟩
  .rw[CL];rfl
  rw[d.out,Wm b,List.append_assoc];rfl
 exact ow
theorem AB{w:Y}{a}{m}k n:(store a (.float k n) m).run P w=stored P w a (.float k n) m:=run_store P w a _ m rfl
theorem Aw{w:Y}d t k k' a b(h:P.underlying t=some (.float k')):(Op.equalIn (d+1) t (.float k a)<|.float k b).run P w=.ok (k.format.order a b==some .eq) w:=by
 simp[Op.equalIn,run_underlying h,Op.floatEq]
attribute [local go_sem] AB Aw
abbrev V(kind num:Int)(Ah:Nat)(s:ByteArray)(ref:Int):Value:=.agg #[J kind,J num,F9 Ah,.string s,J ref]
abbrev KV(code kind num:Int)(Ah:Nat)(s:ByteArray)(ref:Int):Value:=.agg #[J code,J kind,J num,F9 Ah,.string s,J ref]
def fz(f:Nat):Bool:=O9 f 0==some .eq
def C1(f:Nat):Bool:=O9 f f !=some .eq
def Bf(kind num:Int)(Ah:Nat)(s:ByteArray)(ref:Int):Bool:=
 if kind=0 then num==0&&fz Ah&&s.toList.isEmpty&&ref==0
 else if kind=1 then(fz Ah&&s.toList.isEmpty&&ref==0)&&(num==0||num==1)
 else if kind=2 then(fz Ah&&s.toList.isEmpty&&ref==0)
 else if kind=3 then(num==0&&s.toList.isEmpty&&ref==0)
 else if kind=4 then(num==0&&fz Ah&&ref==0)&&decide ((s.size:Int)<=4000)
 else if kind=5 then(num==0&&fz Ah&&s.toList.isEmpty)&&decide (0<=ref)
 else if kind=6 then(num==0&&fz Ah&&s.toList.isEmpty)&&decide (0<=ref)
 else if kind=7 then(num==0&&fz Ah&&s.toList.isEmpty)&&decide (0<=ref)
 else if kind=8 then(fz Ah&&s.toList.isEmpty&&ref==0)&&decide (0<=num)&&decide (num<15)
 else false
structure Vl where
 kind:Int
 num:Int
 Ah:Nat
 str:ByteArray
 ref:Int
abbrev qi(v:Vl):Array Value:=#[J v.kind,J v.num,F9 v.Ah,.string v.str,J v.ref]
instance:Inhabited Vl:=⟨⟨0,0,0,⟨#[]⟩,0⟩⟩
def Vl.ok(x:Vl):Bool:=Bf x.kind x.num x.Ah x.str x.ref
def BA kind num Ah s ref w:
  C9 24 #[V kind num Ah s ref] w (R9 (.bool<|Bf kind num Ah s ref) w):=by
 go_enter Tryz.func24,Tryz.ntmps24;go_wp2;all_goals
  go_ret;refine⟨by simp_all [Bf,fz]<;>intros<;>omega,?_⟩;repeat refine Below.alloc ?_ oq _
  exact BE _ _
def Cu kind num Ah s ref w:
  C9 59 #[V kind num Ah s ref] w (R9 (.bool<|Bf kind num Ah s ref) w):=by
 go_enter Tryz.func59,Tryz.ntmps59;go_wp2;all_goals
  go_ret;refine⟨by simp_all [Bf,fz]<;>intros<;>omega,?_⟩;repeat refine Below.alloc ?_ oq _
  exact BE _ _
end
section
open Go.RowKit
attribute [local go_sem] AB Aw
def lG x s m i(h1:FloatKind.f64.decode x=.number s m i):
  Extern.MathFloor.toIntegral "math.archTrunc" .zero #[F9 x]=pure (F9 (FloatKind.f64.encode ((Ieee.Datum.number s m i).integral .zero))):=by
 show Extern.MathFloor.toIntegral.match_1 (λ_=>Sem Value) (FloatKind.f64.decode x) (λs t=>_) (λd=>_)=_;rw[h1]
def dG x w s m i(a:Ieee.double.read x=.number s m i):
  (callFunc 160 #[F9 x]).run Tryz.prog w=.ok (.value<|F9<|Ieee.double.nearest s (Fl.whole m i) 0) w:=by
 rw[run_callFunc_extern (e:=Extern.MathFloor.toIntegral "math.archTrunc" .zero) Tryz.func160 ou ou ou ou];rw[lG x s m i a,Fl.NJ];rfl
def bB x w s m i(a:Ieee.double.read x=.number s m i):
  C9 144 #[F9 x] w λe w'=>e=.returned (F9<|Ieee.double.nearest s (Fl.whole m i) 0)/\w'=w:=by
 have b:=λw=>dG x w s m i a;clear a;go_enter Tryz.func144,Tryz.ntmps144;go_wp2;go_ret;exact⟨rfl,rfl⟩
def Wq(h1:(Ieee.double.order x 14114281232179134464==some .gt||Ieee.double.order x 14114281232179134464==some .eq)=true)(h2:(Ieee.double.order x 4890909195324358656==some .lt)=true):
  ∃s m i,Ieee.double.read x=.number s m i/\-1074<=i/\i<=971/\m<2^53/\-(9223372036854775808*Fl.U)<=Fl.sc s m i/\Fl.sc s m i<9223372036854775808*Fl.U:=by
 rcases Fl.CB x with⟨s,m,i,a,hi,b,c,_⟩|⟨s,a⟩|⟨s,t,a⟩
 .refine⟨s,m,i,a,hi,b,c,?_,?_⟩
  .rw[Fl.BR a Fl.Gq hi om,Fl.P0,Fl.KK]at h1;simp at h1;omega
  rw[Fl.BR a Fl.Hm hi om,Fl.PY,Fl.Jg]at h2;simpa using h2
 .unfold Ieee.Format.order at h1 h2;rw[a,Fl.Gq]at h1;rw[a,Fl.Hm]at h2;cases s<;>simp[Ieee.Datum.order]at h1 h2
 unfold Ieee.Format.order at h1 h2;rw[a]at h1;simp[Ieee.Datum.order]at h1
def VR(x:Nat):Bool:=O9 x 14114281232179134464==some .gt||O9 x 14114281232179134464==some .eq
def TP(x:Nat):Bool:=O9 x 4890909195324358656==some .lt
def Qq(x:Nat):Bool:=match Ieee.double.read x with
 |.number s m i=>decide (Fl.sc s m i=Fl.sg s (Fl.whole m i)*Fl.U)
 |_=>false
def KR(x:Nat):Int:=match Ieee.double.read x with
 |.number s m i=>Fl.sg s<|Fl.whole m i
 |_=>0
def Ce(x:Nat):Bool:=VR x&&TP x&&Qq x
def Np x w:
  C9 124 #[F9 x] w λe w'=>e=.returned (.bool<|Ce x)/\w'=w:=by
 by_cases h1:VR x=true
 focus
  by_cases h2:TP x=true
  .obtain⟨s,m,i,d,hi,b,g,_,_⟩:=Wq h1 h2;have a:Ce x=decide (Fl.sc s m i=Fl.sg s (Fl.whole m i)*Fl.U):=by
    unfold Ce Qq;rw[h1,h2,d];simp
   have f:=Fl.Z7 d hi b g;rw[<-a]at f;have c:(O9 x (Ieee.double.nearest s (Fl.whole m i) 0)==some .eq)=Ce x:=f;have H:Hid<|(O9 x (Ieee.double.nearest s (Fl.whole m i) 0)==some .eq)=Ce x:=c;have h:Hid<|Ieee.double.read x=.number s m i:=d;have g1:(O9 x 14114281232179134464==some .gt||O9 x 14114281232179134464==some .eq)=true:=h1;have g2:(O9 x 4890909195324358656==some .lt)=true:=h2;clear a f c d h1 h2 hi b g;go_enter Tryz.func124,Tryz.ntmps124;go_wp2_with (go_at_call 144;refine(bB x _ s m i h.out).mono ?_;rintro e w' ⟨rfl,rfl⟩);all_goals
    go_ret;exact⟨by rw[<-H.out];simp,rfl⟩
  have g1:(O9 x 14114281232179134464==some .gt||O9 x 14114281232179134464==some .eq)=true:=h1;have g2:(O9 x 4890909195324358656==some .lt)=false:=(by simpa using h2:TP x=false);have a:Ce x=false:=by unfold Ce;simp at h2;rw[h1,h2];simp
  rw[a];clear h1 h2 a
 rotate_left
 focus
  have g1:(O9 x 14114281232179134464==some .gt||O9 x 14114281232179134464==some .eq)=false:=(by simpa using h1:VR x=false);have a:Ce x=false:=by unfold Ce;simp at h1;rw[h1];simp
  rw[a];clear h1 a
 all_goals
  go_enter Tryz.func124,Tryz.ntmps124;go_wp2;all_goals
   go_ret;exact⟨rfl,rfl⟩
def My(x:Nat):Bool:=C1 x||fz x||(O9 x 4890909195324358656==some .gt||O9 x 4890909195324358656==some .eq)||(O9 x 14114281232179134464==some .lt||O9 x 14114281232179134464==some .eq)
def O8 w(h:My x=true):
  C9 107 #[F9 x] w λe w'=>e=.returned (F9 x)/\w'=w:=by
 by_cases h1:C1 x=true
 .have g1:(O9 x x !=some .eq)=true:=h1;clear h h1;go_enter Tryz.func107,Tryz.ntmps107;go_wp2;go_ret;exact⟨rfl,rfl⟩
 have g1:(O9 x x !=some .eq)=false:=(by simpa using h1:C1 x=false);by_cases h2:fz x=true
 .have g2:(O9 x 0==some .eq)=true:=h2;clear h h1 h2;go_enter Tryz.func107,Tryz.ntmps107;go_wp2;go_ret;exact⟨rfl,rfl⟩
 have g2:(O9 x 0==some .eq)=false:=(by simpa using h2:fz x=false);by_cases h3:(O9 x 4890909195324358656==some .gt||O9 x 4890909195324358656==some .eq)=true
 .clear h h1 h2;go_enter Tryz.func107,Tryz.ntmps107;go_wp2;go_ret;exact⟨rfl,rfl⟩
 have g3:=Bool.eq_false_iff.2 h3;have g4:(O9 x 14114281232179134464==some .lt||O9 x 14114281232179134464==some .eq)=true:=by
  unfold My at h;rw[g3]at h;have a1:=Bool.eq_false_iff.2 h1;have a2:=Bool.eq_false_iff.2 h2;rw[a1,a2]at h;simpa using h
 clear h h1 h2 h3;go_enter Tryz.func107,Tryz.ntmps107;go_wp2;go_ret;exact⟨rfl,rfl⟩
def UY(h:My x=false):C1 x=false/\fz x=false/\(O9 x 4890909195324358656==some .gt||O9 x 4890909195324358656==some .eq)=false/\(O9 x 14114281232179134464==some .lt||O9 x 14114281232179134464==some .eq)=false:=by
 grind [My,C1,fz]
def sM(h:My x=false):∃s m i,Ieee.double.read x=.number s m i/\-1074<=i/\i<=971/\m<2^53/\-(9223372036854775808*Fl.U)<=Fl.sc s m i/\Fl.sc s m i<9223372036854775808*Fl.U:=by
 obtain⟨h1,h2,h3,h4⟩:=UY h;have d:(Ieee.double.order x x !=some .eq)=false:=h1;have a:(Ieee.double.order x 4890909195324358656==some .gt||Ieee.double.order x 4890909195324358656==some .eq)=false:=h3;have b:(Ieee.double.order x 14114281232179134464==some .lt||Ieee.double.order x 14114281232179134464==some .eq)=false:=h4;rcases Fl.CB x with⟨s,m,i,c,hi,e,f,_⟩|⟨s,c⟩|⟨s,t,c⟩
 .refine⟨s,m,i,c,hi,e,f,?_,?_⟩
  .rw[Fl.BR c Fl.Gq hi om,Fl.P0,Fl.Jg]at b;simp at b;omega
  rw[Fl.BR c Fl.Hm hi om,Fl.PY,Fl.KK]at a;simp at a;omega
 .unfold Ieee.Format.order at a b;rw[c,Fl.Hm]at a;rw[c,Fl.Gq]at b;cases s<;>simp[Ieee.Datum.order]at a b
 unfold Ieee.Format.order at d;rw[c]at d;simp[Ieee.Datum.order]at d
def O7(h:My x=false):
  ∃r,(O9 x r==some .eq)=Qq x/\∀w,C9 107 #[F9 x] w λe w'=>e=.returned (F9 r)/\w'=w:=by
 obtain⟨s,m,i,c,hi,d,p,f,g⟩:=sM h;obtain⟨h1,h2,h3,h4⟩:=UY h;have g1:(O9 x x !=some .eq)=false:=h1;have g2:(O9 x 0==some .eq)=false:=h2;have q:Qq x=decide (Fl.sc s m i=Fl.sg s (Fl.whole m i)*Fl.U):=by unfold Qq;rw[c]
 obtain⟨o1,o2⟩:=Fl.Z6 c hi d p;have j:∀w:World,(convert 30 2<|F9 x).run Tryz.prog w=.ok (J<|Fl.sg s<|Fl.whole m i) w:=λw=>run_convert_float_int w 30 2 .f64 .i64 x _ ou Tryz.underlying2<|Fl.L9 c hi f g;by_cases a:Fl.sc s m i<Fl.sg s (Fl.whole m i)*Fl.U
 focus
  obtain⟨r,b,k⟩:=Fl.eE c hi p a;have l:∀w:World,(binOp .sub 30 (F9<|floatOfInt .f64<|Fl.sg s<|Fl.whole m i)<|F9 4607182418800017408).run Tryz.prog w=.ok (F9 r) w:=λw=>AaA w .sub 30 .f64 _ _ r b;have t:Qq x=false:=by rw[q];simp;omega
  have g5:(O9 (floatOfInt .f64<|Fl.sg s<|Fl.whole m i) x==some .gt)=true:=by
   show(Ieee.double.order (Ieee.double.nearest (decide (Fl.sg s (Fl.whole m i)<0)) (Fl.sg s<|Fl.whole m i).natAbs 0) x==some .gt)=true;rw[o2,Fl.KK];simpa using a
  have o:Hid<|(O9 x r==some .eq)=Qq x:=by rw[t];exact k
  refine⟨r,o.out,λw=>?_⟩
 rotate_left
 focus
  have g5:(O9 (floatOfInt .f64<|Fl.sg s<|Fl.whole m i) x==some .gt)=false:=by
   show(Ieee.double.order (Ieee.double.nearest (decide (Fl.sg s (Fl.whole m i)<0)) (Fl.sg s<|Fl.whole m i).natAbs 0) x==some .gt)=false;rw[o2,Fl.KK];simpa using a
  have o:Hid<|(O9 x (floatOfInt .f64<|Fl.sg s<|Fl.whole m i)==some .eq)=Qq x:=by
   show(Ieee.double.order x (Ieee.double.nearest (decide (Fl.sg s (Fl.whole m i)<0)) (Fl.sg s<|Fl.whole m i).natAbs 0)==some .eq)=Qq x;rw[o1,Fl.G0,q]
  refine⟨_,o.out,λw=>?_⟩
 all_goals
  generalize Fl.sg s (Fl.whole m i)=n at*;go_enter Tryz.func107,Tryz.ntmps107;go_wp2;go_ret;exact⟨rfl,rfl⟩
theorem KI(h:My x=true)(hn:C1 x=false)(h1:VR x=true)(h2:TP x=true):Qq x=true:=by
 obtain⟨s,m,i,a,hi,c,g,d,e⟩:=Wq h1 h2;have f:Qq x=decide (Fl.sc s m i=Fl.sg s (Fl.whole m i)*Fl.U):=by unfold Qq;rw[a]
 rw[f];have hb:=Fl.E8 m i hi;have hu:=Fl.M8;unfold My at h;rw[hn]at h;have e1:fz x=decide (Fl.sc s m i=0):=by
  show(Ieee.double.order x 0==some .eq)=_;rw[Fl.BR a Fl.CD hi om,Fl.G0,Fl.EA]
 have e2:(O9 x 4890909195324358656==some .gt||O9 x 4890909195324358656==some .eq)=false:=by grind [C1,TP]
 have e3:(O9 x 14114281232179134464==some .lt||O9 x 14114281232179134464==some .eq)=decide (Fl.sc s m i=-(9223372036854775808*Fl.U)):=by
  show(Ieee.double.order x 14114281232179134464==some .lt||Ieee.double.order x 14114281232179134464==some .eq)=_;rw[Fl.BR a Fl.Gq hi om,Fl.P0,Fl.G0];grind [C1,TP]
 rw[e1,e2,e3]at h;simp at h;have hk:(Fl.whole m i:Int)=0\/(s=true/\(Fl.whole m i:Int)=9223372036854775808):=by
  rcases h with h|h
  .have b:Fl.sc false m i=0:=by
    cases s
    .exact h
    rw[Fl.EG]at h;omega
   have:=Int.le_of_mul_le_mul_right (show(Fl.whole m i:Int)*Fl.U<=0*Fl.U from by omega) hu;omega
  right;have hs:s=true:=by
   cases s
   .have b:0<=(Fl.whole m i:Int)*Fl.U:=Int.mul_nonneg om om;omega
   rfl
  subst hs;rw[Fl.EG]at h;have b:Fl.sc false m i=9223372036854775808*Fl.U:=om;rw[b]at hb;have h3:=Int.lt_of_mul_lt_mul_right hb.2 om;have h4:=Int.le_of_mul_le_mul_right hb.1 hu;exact⟨rfl,om⟩
 rcases h with h|h
 .have:(Fl.whole m i:Int)=0:=by
   rcases hk with k|⟨k1,k2⟩
   .exact k
   exfalso;subst k1;rw[Fl.EG]at h;rw[k2]at hb;omega
  have e0:Fl.whole m i=0:=om;rw[h,e0];cases s<;>simp[Fl.sg]
 rcases hk with k|⟨k1,k2⟩
 .rw[k]at hb;cases s
  .omega
  rw[Fl.EG]at h;omega
 subst k1;have e0:Fl.whole m i=9223372036854775808:=om;rw[h,e0];simp[Fl.sg,Int.neg_mul]
def Ck{a w:Y}(h:Below B a w)b(hb:B<=b)v0 v1 v2 v3 v4 v5:
  Below B a ((((((w.setCell (G b 0) v0).setCell (G b 1) v1).setCell (G b 2) v2).setCell (G b 3) v3).setCell (G b 4) v4).setCell (G b 5) v5):=
 (((((h.setCell hb v0).setCell hb v1).setCell hb v2).setCell hb v3).setCell hb v4).setCell hb v5
def AQ{a w:Y}(h:Below B a w)n:Below B a<|w.drewN n:=⟨h.os,h.tape,h.output,h.size,h.block⟩
def Du{w w1:Y}{o1 o2}(a:B<=w.heap.size)(hb:Below ((w.alloc o1).alloc o2).heap.size ((w.alloc o1).alloc o2) w1):Below B w w1:=
 (((BE B w).alloc a o1).alloc ot o2).trans (hb.mono ot)
def LC(kind num:Int)(Ah:Nat)(s:ByteArray)(ref:Int):Value:=
 if Bf kind num Ah s ref=true then
  if kind=0 then KV 1 0 0 0 ⟨#[]⟩ 0
  else if kind=3 then
   if C1 Ah=true then KV 1 0 0 0 ⟨#[]⟩ 0
   else if Ce Ah=true then KV 0 2 (KR Ah) 0 ⟨#[]⟩ 0
   else KV 0 kind num Ah s ref
  else KV 0 kind num Ah s ref
 else KV 2 0 0 0 ⟨#[]⟩ 0
def wN kind num Ah s ref w(a:Bf kind num Ah s ref=false):
  C9 68 #[V kind num Ah s ref] w (R9 (KV 2 0 0 0 ⟨#[]⟩ 0) w):=by
 go_enter Tryz.func68,Tryz.ntmps68;go_wp2_with (go_at_call 24;refine m9 (BA kind num Ah s ref _) λw1 hb=>?_;rw[a];obtain⟨hc,hf⟩:=BF hb;have hz:=hb.size;simp at hz);exact Fs (v:=KV 2 0 0 0 ⟨#[]⟩ 0) (by simp[results,Tryz.results68,go_sem,hc]) rfl ⟨rfl,Ck (Du (Be _) hb) _ om _ _ _ _ _ _⟩
def wO{s}w(a:Bf 0 num Ah s ref=true):
  C9 68 #[V 0 num Ah s ref] w (R9 (KV 1 0 0 0 ⟨#[]⟩ 0) w):=by
 go_enter Tryz.func68,Tryz.ntmps68;go_wp2_with (go_at_call 24;refine m9 (BA 0 num Ah s ref _) λw1 hb=>?_;rw[a];obtain⟨hc,hf⟩:=BF hb;have hz:=hb.size;simp at hz);exact Fs (v:=KV 1 0 0 0 ⟨#[]⟩ 0) (by simp[results,Tryz.results68,go_sem,hc]) rfl ⟨rfl,Ck (Du (Be _) hb) _ om _ _ _ _ _ _⟩
def wP{s}w(a:Bf 3 num Ah s ref=true)(hn:C1 Ah=true):
  C9 68 #[V 3 num Ah s ref] w (R9 (KV 1 0 0 0 ⟨#[]⟩ 0) w):=by
 have g1:(O9 Ah Ah !=some .eq)=true:=hn;clear hn;go_enter Tryz.func68,Tryz.ntmps68;go_wp2_with (first|(go_at_call 24;refine m9 (BA 3 num Ah s ref _) λw1 hb=>?_;rw[a];obtain⟨hc,hf⟩:=BF hb;have hz:=hb.size;simp at hz)|(go_at_call 106;go_in));exact Fs (v:=KV 1 0 0 0 ⟨#[]⟩ 0) (by simp[results,Tryz.results68,go_sem,hc]) rfl ⟨rfl,Ck (Du (Be _) hb) _ om _ _ _ _ _ _⟩
def wS{s}w(a:Bf kind num Ah s ref=true)(b:(kind==0)=false)(h3:(kind==3)=false):
  C9 68 #[V kind num Ah s ref] w (R9 (KV 0 kind num Ah s ref) w):=by
 go_enter Tryz.func68,Tryz.ntmps68;go_wp2_with (go_at_call 24;refine m9 (BA kind num Ah s ref _) λw1 hb=>?_;rw[a];obtain⟨hc,hf⟩:=BF hb;have hz:=hb.size;simp at hz);go_quiet (fail);go_wp2;exact Fs (v:=KV 0 kind num Ah s ref) (by simp[results,Tryz.results68,go_sem,hc]) rfl ⟨rfl,Ck (AQ (Du (Be _) hb) _) _ om _ _ _ _ _ _⟩
def wR{s}(w)(c:Bf 3 num Ah s ref=true)(hn:C1 Ah=false)(r)
  (a:∀w,C9 107 #[F9 Ah] w λe w'=>e=.returned (F9 r)/\w'=w)
  (b:((O9 Ah r==some .eq)&&VR Ah&&TP Ah)=false):
  C9 68 #[V 3 num Ah s ref] w (R9 (KV 0 3 num Ah s ref) w):=by
 have g1:(O9 Ah Ah !=some .eq)=false:=hn;have d:=O a;by_cases t1:(O9 Ah r==some .eq)=true
 .by_cases t2:VR Ah=true
  focus
   have t3:TP Ah=false:=by have:=z<|O b;rw[t1,t2]at this;simpa using this
   have g2:(O9 Ah 14114281232179134464==some .gt||O9 Ah 14114281232179134464==some .eq)=true:=t2;have g3:(O9 Ah 4890909195324358656==some .lt)=false:=t3
  rotate_left
  focus
   have g2:(O9 Ah 14114281232179134464==some .gt||O9 Ah 14114281232179134464==some .eq)=false:=(by simpa using t2:VR Ah=false)
  all_goals
   go_enter Tryz.func68,Tryz.ntmps68;go_wp2_with (first|(go_at_call 24;refine m9 (BA 3 num Ah s ref _) λw1 hb=>?_;rw[c];obtain⟨hc,hf⟩:=BF hb;have hz:=hb.size;simp at hz)|(go_at_call 106;go_in));go_quiet ((go_at_call 107;exact Calls.quiet_of_same<|d _));go_wp2;exact Fs (v:=KV 0 3 num Ah s ref) (by simp[results,Tryz.results68,go_sem,hc]) rfl ⟨rfl,Ck (AQ (Du (Be _) hb) _) _ om _ _ _ _ _ _⟩
 have f:(O9 Ah r==some .eq)=false:=by simpa using t1
 go_enter Tryz.func68,Tryz.ntmps68;go_wp2_with (first|(go_at_call 24;refine m9 (BA 3 num Ah s ref _) λw1 hb=>?_;rw[c];obtain⟨hc,hf⟩:=BF hb;have hz:=hb.size;simp at hz)|(go_at_call 106;go_in));go_quiet ((go_at_call 107;exact Calls.quiet_of_same<|d _));go_wp2;exact Fs (v:=KV 0 3 num Ah s ref) (by simp[results,Tryz.results68,go_sem,hc]) rfl ⟨rfl,Ck (AQ (Du (Be _) hb) _) _ om _ _ _ _ _ _⟩
def Fh n w:
  C9 39 #[J n] w (R9 (V 2 n 0 ⟨#[]⟩ 0) w):=by
 go_enter Tryz.func39,Tryz.ntmps39;go_wp2;exact Fs (v:=V 2 n 0 ⟨#[]⟩ 0) (by simp[results,go_sem]) rfl ⟨rfl,n9⟩
def Rj(h1:VR x=true)(h2:TP x=true)w:
  (convert 30 2<|F9 x).run Tryz.prog w=.ok (J<|KR x) w:=by
 obtain⟨s,m,i,c,hi,d,f,a,b⟩:=Wq h1 h2;have e:KR x=Fl.sg s (Fl.whole m i):=by unfold KR;rw[c]
 rw[e];exact run_convert_float_int w 30 2 .f64 .i64 x _ ou Tryz.underlying2<|Fl.L9 c hi a b
def wQ{s}(w)(h:Bf 3 num Ah s ref=true)(hn:C1 Ah=false)(r)
  (c:∀w,C9 107 #[F9 Ah] w λe w'=>e=.returned (F9 r)/\w'=w)
  (t1:(O9 Ah r==some .eq)=true) (t2:VR Ah=true) (t3:TP Ah=true):
  C9 68 #[V 3 num Ah s ref] w (R9 (KV 0 2 (KR Ah) 0 ⟨#[]⟩ 0) w):=by
 have g1:(O9 Ah Ah !=some .eq)=false:=hn;have i:=O c;have g2:(O9 Ah 14114281232179134464==some .gt||O9 Ah 14114281232179134464==some .eq)=true:=t2;have g3:(O9 Ah 4890909195324358656==some .lt)=true:=t3;have j:=Rj t2 t3;clear t2 t3 hn c;generalize KR Ah=n at*;go_enter Tryz.func68,Tryz.ntmps68;go_wp2_with (first|(go_at_call 24;refine m9 (BA 3 num Ah s ref _) λw1 hb=>?_;rw[h];obtain⟨hc,hf⟩:=BF hb;have hz:=hb.size;simp at hz)|(go_at_call 106;go_in));go_quiet ((go_at_call 107;exact Calls.quiet_of_same<|i _));obtain⟨w2,a,d⟩:∃w2,Below _ _ w2/\w1.drewN nq=w2:=⟨_,AQ hb nq,rfl⟩;rw[d];clear d hb hc hf hz;obtain⟨hc,hf⟩:=BF a;have hz:=a.size;simp at hz;have f:w.heap.size+1<w2.heap.size:=om;have k:w.heap.size<w2.heap.size:=om;go_wp2_with (go_at_call 39;refine m9 (Fh n _) λw3 b=>?_;obtain⟨g,l⟩:=BF b;have m:=b.size)
 exact Fs (v:=KV 0 2 n 0 ⟨#[]⟩ 0) (by simp[results,Tryz.results68,go_sem,hc,g,f]) rfl ⟨rfl,Ck ((Du (Be _) a).trans<|b.mono om) _ om _ _ _ _ _ _⟩
def Ht kind num Ah s ref w:
  C9 68 #[V kind num Ah s ref] w (R9 (LC kind num Ah s ref) w):=by
 unfold LC;by_cases b:Bf kind num Ah s ref=true
 .rw[DD b];by_cases h:kind=0
  .subst h;rw[DD rfl];exact wO w b
  rw[C3 h];by_cases h3:kind=3
  .subst h3;rw[DD rfl];by_cases hn:C1 Ah=true
   .rw[DD hn];exact wP w b hn
   rw[C3 hn];have a:C1 Ah=false:=by simpa using hn
   obtain⟨r,c,d⟩:∃r,((O9 Ah r==some .eq)&&VR Ah&&TP Ah)=Ce Ah/\∀w:World,C9 107 #[F9 Ah] w λe w'=>e=.returned (F9 r)/\w'=w:=by
    by_cases i:My Ah=true
    .refine⟨Ah,?_,λw=>O8 w i⟩;have e:(O9 Ah Ah==some .eq)=true:=by
      have:(O9 Ah Ah !=some .eq)=false:=a;simpa using this
     rw[e];unfold Ce;by_cases g:VR Ah=true
     .by_cases l:TP Ah=true
      .rw[KI i a g l];simp
      have:TP Ah=false:=by simpa using l
      rw[this];simp
     have:VR Ah=false:=by simpa using g
     rw[this];simp
    have j:My Ah=false:=by simpa using i
    obtain⟨r,h1,h2⟩:=O7 j;refine⟨r,?_,h2⟩;rw[h1];unfold Ce;cases Qq Ah<;>cases VR Ah<;>cases TP Ah<;>rfl
   by_cases f:Ce Ah=true
   .rw[DD f];rw[f]at c;simp only[AaC]at c;exact wQ w b a r d c.1.1 c.1.2 c.2
   rw[C3 f];have k:Ce Ah=false:=by simpa using f
   rw[k]at c;exact wR w b a r d c
  rw[C3 h3];exact wS w b (by simp[h])<|by simp[h3]
 rw[C3 b];exact wN kind num Ah s ref w<|by simpa using b
def FU n w:
  C9 125 #[J n] w (R9 (V 2 n 0 ⟨#[]⟩ 0) w):=by
 go_enter Tryz.func125,Tryz.ntmps125;go_wp2;exact Fs (v:=V 2 n 0 ⟨#[]⟩ 0) (by simp[results,go_sem]) rfl ⟨rfl,n9⟩
def vH kind num Ah s ref w(a:Bf kind num Ah s ref=false):
  C9 98 #[V kind num Ah s ref] w (R9 (KV 2 0 0 0 ⟨#[]⟩ 0) w):=by
 go_enter Tryz.func98,Tryz.ntmps98;go_wp2_with (go_at_call 59;refine m9 (Cu kind num Ah s ref _) λw1 hb=>?_;rw[a];obtain⟨hc,hf⟩:=BF hb;have hz:=hb.size;simp at hz);exact Fs (v:=KV 2 0 0 0 ⟨#[]⟩ 0) (by simp[results,Tryz.results98,go_sem,hc]) rfl ⟨rfl,Ck (Du (Be _) hb) _ om _ _ _ _ _ _⟩
def vI{s}w(a:Bf 0 num Ah s ref=true):
  C9 98 #[V 0 num Ah s ref] w (R9 (KV 1 0 0 0 ⟨#[]⟩ 0) w):=by
 go_enter Tryz.func98,Tryz.ntmps98;go_wp2_with (go_at_call 59;refine m9 (Cu 0 num Ah s ref _) λw1 hb=>?_;rw[a];obtain⟨hc,hf⟩:=BF hb;have hz:=hb.size;simp at hz);exact Fs (v:=KV 1 0 0 0 ⟨#[]⟩ 0) (by simp[results,Tryz.results98,go_sem,hc]) rfl ⟨rfl,Ck (Du (Be _) hb) _ om _ _ _ _ _ _⟩
def vJ{s}w(a:Bf 3 num Ah s ref=true)(hn:C1 Ah=true):
  C9 98 #[V 3 num Ah s ref] w (R9 (KV 1 0 0 0 ⟨#[]⟩ 0) w):=by
 have g1:(O9 Ah Ah !=some .eq)=true:=hn;clear hn;go_enter Tryz.func98,Tryz.ntmps98;go_wp2_with (first|(go_at_call 59;refine m9 (Cu 3 num Ah s ref _) λw1 hb=>?_;rw[a];obtain⟨hc,hf⟩:=BF hb;have hz:=hb.size;simp at hz)|(go_at_call 123;go_in));exact Fs (v:=KV 1 0 0 0 ⟨#[]⟩ 0) (by simp[results,Tryz.results98,go_sem,hc]) rfl ⟨rfl,Ck (Du (Be _) hb) _ om _ _ _ _ _ _⟩
def vO{s}w(a:Bf kind num Ah s ref=true)(b:(kind==0)=false)(h3:(kind==3)=false):
  C9 98 #[V kind num Ah s ref] w (R9 (KV 0 kind num Ah s ref) w):=by
 go_enter Tryz.func98,Tryz.ntmps98;go_wp2_with (go_at_call 59;refine m9 (Cu kind num Ah s ref _) λw1 hb=>?_;rw[a];obtain⟨hc,hf⟩:=BF hb;have hz:=hb.size;simp at hz);exact Fs (v:=KV 0 kind num Ah s ref) (by simp[results,Tryz.results98,go_sem,hc]) rfl ⟨rfl,Ck (Du (Be _) hb) _ om _ _ _ _ _ _⟩
def vM{s}w(b:Bf 3 num Ah s ref=true)(hn:C1 Ah=false)(a:Ce Ah=false):
  C9 98 #[V 3 num Ah s ref] w (R9 (KV 0 3 num Ah s ref) w):=by
 have g1:(O9 Ah Ah !=some .eq)=false:=hn;clear hn;go_enter Tryz.func98,Tryz.ntmps98;go_wp2_with (first|(go_at_call 59;refine m9 (Cu 3 num Ah s ref _) λw1 hb=>?_;rw[b];obtain⟨hc,hf⟩:=BF hb;have hz:=hb.size;simp at hz)|(go_at_call 123;go_in)|(go_at_call 124;refine(Np Ah _).mono ?_;rintro e w2 ⟨rfl,rfl⟩;rw[a]));exact Fs (v:=KV 0 3 num Ah s ref) (by simp[results,Tryz.results98,go_sem,hc]) rfl ⟨rfl,Ck (Du (Be _) hb) _ om _ _ _ _ _ _⟩
def vK{s}w(f:Bf 3 num Ah s ref=true)(hn:C1 Ah=false)(b:Ce Ah=true):
  C9 98 #[V 3 num Ah s ref] w (R9 (KV 0 2 (KR Ah) 0 ⟨#[]⟩ 0) w):=by
 have g1:(O9 Ah Ah !=some .eq)=false:=hn;have g:∀w:World,(convert 30 2<|F9 Ah).run Tryz.prog w=.ok (J<|KR Ah) w:=by
  unfold Ce at b;simp only[AaC]at b;exact Rj b.1.1 b.1.2
 clear hn;generalize KR Ah=n at*;go_enter Tryz.func98,Tryz.ntmps98;go_wp2_with (first|(go_at_call 59;refine m9 (Cu 3 num Ah s ref _) λw1 hb=>?_;rw[f];obtain⟨hc,hf⟩:=BF hb;have hz:=hb.size;simp at hz;have c:w.heap.size+1<w1.heap.size:=om;have h:w.heap.size<w1.heap.size:=om)|(go_at_call 123;go_in)|(go_at_call 124;refine(Np Ah _).mono ?_;rintro e w2 ⟨rfl,rfl⟩;rw[b])|(go_at_call 125;refine m9 (FU n _) λw3 a=>?_;obtain⟨d,i⟩:=BF a;have j:=a.size));exact Fs (v:=KV 0 2 n 0 ⟨#[]⟩ 0) (by simp[results,Tryz.results98,go_sem,hc,d,c]) rfl ⟨rfl,Ck ((Du (Be _) hb).trans<|a.mono om) _ om _ _ _ _ _ _⟩
def Gd kind num Ah s ref w:
  C9 98 #[V kind num Ah s ref] w (R9 (LC kind num Ah s ref) w):=by
 rw[LC];by_cases a:Bf kind num Ah s ref=true
 .rw[DD a];by_cases d:kind=0
  .subst d;rw[DD rfl];exact vI w a
  rw[C3 d];by_cases h3:kind=3
  .subst h3;by_cases hn:C1 Ah=true
   .rw[DD hn];exact vJ w a hn
   rw[C3 hn];have b:C1 Ah=false:=by simpa using hn
   by_cases c:Ce Ah=true
   .rw[DD c];exact vK w a b c
   rw[C3 c];exact vM w a b<|by simpa using c
  rw[C3 h3];exact vO w a (by simp[d])<|by simp[h3]
 rw[C3 a];exact vH kind num Ah s ref w<|by simpa using a
end
section
open Go.RowKit
structure Pr where
 key:Vl
 val:Vl
 turn:Int
instance:Inhabited Pr:=⟨⟨default,default,0⟩⟩
def DA(p:Pr):List Value:=[J p.key.kind,J p.key.num,F9 p.key.Ah,.string p.key.str,J p.key.ref,J p.val.kind,J p.val.num,F9 p.val.Ah,.string p.val.str,J p.val.ref,J p.turn]
abbrev PV(p:Pr):Value:=.agg #[J p.key.kind,J p.key.num,F9 p.key.Ah,.string p.key.str,J p.key.ref,J p.val.kind,J p.val.num,F9 p.val.Ah,.string p.val.str,J p.val.ref,J p.turn]
structure Jd (w:Y) (b o:Nat) (p:Pr):Prop where
 k0:w.cell? (G b o)=some (J p.key.kind)
 k1:w.cell? (G b<|o+1)=some (J p.key.num)
 k2:w.cell? (G b<|o+2)=some (F9 p.key.Ah)
 k3:w.cell? (G b<|o+3)=some (.string p.key.str)
 k4:w.cell? (G b<|o+4)=some (J p.key.ref)
 v0:w.cell? (G b<|o+5)=some (J p.val.kind)
 v1:w.cell? (G b<|o+6)=some (J p.val.num)
 v2:w.cell? (G b<|o+7)=some (F9 p.val.Ah)
 v3:w.cell? (G b<|o+8)=some (.string p.val.str)
 v4:w.cell? (G b<|o+9)=some (J p.val.ref)
 tn:w.cell? (G b<|o+10)=some (J p.turn)
def Jd.of{w}{p}(h:∀j u,(DA p)[j]?=some u->w.cell? (G b<|o+j)=some u):Jd w b o p:=
 ⟨h 0 _ rfl,h 1 _ rfl,h 2 _ rfl,h 3 _ rfl,h 4 _ rfl,h 5 _ rfl,h 6 _ rfl,h 7 _ rfl,h 8 _ rfl,h 9 _ rfl,h 10 _ rfl⟩
def Jd.keep{w w'}{p}(h:Jd w b o p)(e:∀q,w'.cell? (G b q)=w.cell? (G b q)):Jd w' b o p:=
 ⟨(e _).trans h.k0,(e _).trans h.k1,(e _).trans h.k2,(e _).trans h.k3,(e _).trans h.k4,(e _).trans h.v0,(e _).trans h.v1,(e _).trans h.v2,(e _).trans h.v3,(e _).trans h.v4,(e _).trans h.tn⟩
def VN(w:Y)(a:T9)(n:Nat)(f:Nat->Pr):Prop:=
 n=0\/∃b off,a=some (G b off)/\b<w.heap.size/\∀i,i<n->Jd w b (off+i*11) (f i)
def TK(w:Y)(a:T9)(n:Nat)(f:Nat->Int):Prop:=
 n=0\/∃b off,a=some (G b off)/\b<w.heap.size/\∀i,i<n->w.cell? (G b<|off+i)=some (J<|f i)
def VN.below{w w':Y}{a:Option Addr}{f}(h:VN w a n f)(hb:Below B w w')(d:B=w.heap.size):VN w' a n f:=by
 subst d;rcases h with h|⟨b,off,e,c,hc⟩
 .exact .inl h
 exact .inr ⟨b,off,e,A0 c hb.size,λi hi=>(hc i hi).keep λq=>hb.cell c⟩
def TK.below{w w':Y}{a:Option Addr}{f}(h:TK w a n f)(hb:Below B w w')(d:B=w.heap.size):TK w' a n f:=by
 subst d;rcases h with h|⟨b,off,e,c,hc⟩
 .exact .inl h
 exact .inr ⟨b,off,e,A0 c hb.size,λi hi=>(hb.cell c).trans<|hc i hi⟩
structure Dc where
 n:Nat
 L:Nat->Pr
 m:Nat
 I:Nat->Int
 x:Nat
 X:Nat->Int
 used:Int
 live:Int
 turns:Int
abbrev Dv(la:T9)(lc:Nat)(ia:T9)(ic:Nat)(xa:T9)(xc:Nat)(d:Dc):Value:=.agg #[.slice la d.n lc,.slice ia d.m ic,.slice xa d.x xc,J d.used,J d.live,J d.turns]
structure FJ (w:Y) (la ia xa:T9) (d:Dc):Prop where
 log:VN w la d.n d.L
 ints:TK w ia d.m d.I
 index:TK w xa d.x d.X
def FJ.below{w w':Y}{d}(h:FJ w la ia xa d)(hb:B9 w w'):FJ w' la ia xa d:=⟨h.log.below hb rfl,h.ints.below hb rfl,h.index.below hb rfl⟩
structure Small (d:Dc):Prop where
 n:d.n<=4194304
 m:d.m<=4194304
 x:d.x<=4194304
structure Ia (w:Y) (c o:Nat) (la:T9) (lc:Nat) (ia:T9) (ic:Nat) (xa:T9) (xc:Nat) (d:Dc):Prop where
 lt:c<w.heap.size
 c0:w.cell? (G c o)=some (.slice la d.n lc)
 c1:w.cell? (G c<|o+1)=some (.slice ia d.m ic)
 c2:w.cell? (G c<|o+2)=some (.slice xa d.x xc)
 c3:w.cell? (G c<|o+3)=some (J d.used)
 c4:w.cell? (G c<|o+4)=some (J d.live)
 c5:w.cell? (G c<|o+5)=some (J d.turns)
 rows:FJ w la ia xa d
def Ia.below{w w':Y}{d}(h:Ia w c o la lc ia ic xa xc d)(hb:B9 w w'):Ia w' c o la lc ia ic xa xc d:=
 ⟨A0 h.lt hb.size,(hb.cell h.lt).trans h.c0,(hb.cell h.lt).trans h.c1,(hb.cell h.lt).trans h.c2,(hb.cell h.lt).trans h.c3,(hb.cell h.lt).trans h.c4,(hb.cell h.lt).trans h.c5,h.rows.below hb⟩
open Classical in
noncomputable def tells(p:Prop):Bool:=if p then true else false
theorem Al(h:p):tells p=true:=DD h
theorem Ag(h:¬p):tells p=false:=C3 h
def C0(v:Vl):Bool:=v.kind==0&&v.ok
def Ch(v:Vl):Bool:=v.ok&&v.kind !=0&&!(v.kind==3&&(C1 v.Ah||Ce v.Ah))
def Eo(turns last:Int)(p:Pr):Bool:=decide (last<p.turn)&&decide (p.turn<=turns)&&Ch p.key&&p.val.ok&&p.val.kind !=0
def CR(d:Dc):Nat->Option (Int×Int)
 |0=>some (0,0)
 |k+1=>match CR d k with
  |none=>none
  |some (live,last)=>if(d.L k).turn=0 then(if C0 (d.L k).key&&C0 (d.L k).val then some (live,last)else none)else if Eo d.turns last (d.L k)then some (live+1,(d.L k).turn)else none
def W6{d}(h:CR d k=none):∀j,CR d (k+j)=none:=by
 intro j
 induction j with
 |zero=>exact h
 |succ j ih=>show(match CR d (k+j)with|none=>none|some (live,last)=>_)=none;rw[ih]
def Ns{d}(h:CR d k=none)(hk:k<=n):CR d n=none:=by
 have:=W6 h<|n-k;grind
def D1(d:Dc):Prop:=0<=d.live/\d.live<=500/\0<=d.turns/\d.turns<=1000000000000/\((d.n:Int)<=8\/(d.n:Int)<=2*d.live)
def D2(d:Dc):Prop:=∃last,CR d d.n=some (d.live,last)
abbrev Dc.at(d:Dc)(p:Int):Pr:=d.L (p-1).toNat
def FD(d:Dc)(i:Nat):Prop:=d.I i=0\/(0<d.I i/\d.I i<=d.n/\(d.at<|d.I i).turn≠0/\(d.at<|d.I i).key.kind=2/\(d.at<|d.I i).key.num=i+1)
def D3(d:Dc):Prop:=(∀i,i<d.m->FD d i)/\(d.m=0\/0<d.I (d.m-1))
def AA(m:Nat)(k:Vl):Prop:=k.kind=2/\1<=k.num/\k.num<=m
def Gl(d:Dc)(j:Nat):Prop:=d.X j=0\/d.X j=-1\/(0<d.X j/\d.X j<=d.n/\(d.at<|d.X j).turn≠0/\¬AA d.m (d.at<|d.X j).key)
def BS(d:Dc):Nat->Nat
 |0=>0
 |k+1=>if d.X k=0 then BS d k else BS d k+1
def Hb(x:Nat):Prop:=∃k,x=2^k
def D4(d:Dc):Prop:=(d.x=0\/(8<=d.x/\d.x<=4000/\Hb d.x))/\(∀j,j<d.x->Gl d j)/\(BS d d.x:Int)=d.used/\2*BS d d.x<=d.x
def CX(f:Nat->Int)(i:Nat):Nat->Nat
 |0=>0
 |k+1=>if f k=(i:Int)+1 then CX f i k+1 else CX f i k
end
section
open Go.RowKit
attribute [local go_sem] AB Aw
def pL(f:Nat->Pr):Nat->List Value
 |0=>[]
 |k+1=>pL f k++DA (f k)
theorem C5 f n:(pL f n).length=n*11:=by
 induction n with
 |zero=>rfl
 |succ n ih=>simp[pL,DA];omega
theorem MO{f}{i}(hi:i<n)(hj:j<11):(pL f n)[i*11+j]?=(DA<|f i)[j]?:=by
 induction n with
 |zero=>omega
 |succ n ih=>
  show(pL f n++DA (f n))[i*11+j]?=_;by_cases h:i<n
  .rw[Aak (by rw[C5];omega),ih h]
  have:i=n:=om;subst this;rw[Aav (by rw[C5];omega),C5,show i*11+j-i*11=j by omega]
def iL(f:Nat->Int):Nat->List Value
 |0=>[]
 |k+1=>iL f k++[J (f k)]
theorem C4 f n:(iL f n).length=n:=by
 induction n with
 |zero=>rfl
 |succ n ih=>simp[iL,ih]
theorem KS{f}{i}(hi:i<n):(iL f n)[i]?=some (J<|f i):=by
 induction n with
 |zero=>omega
 |succ n ih=>
  show(iL f n++[J (f n)])[i]?=_;by_cases h:i<n
  .rw[Aak (by rw[C4];omega),ih h]
  have:i=n:=om;subst this;rw[Aav (by rw[C4];omega),C4];simp
abbrev BU(w:Y)(base:Nat)(v:V9)(n:Nat)(f:Nat->Pr):Prop:=w.ownsRow base 168 11 v n<|pL f n
abbrev Bt(w:Y)(base:Nat)(v:V9)(n:Nat)(f:Nat->Int):Prop:=w.ownsRow base 3 1 v n<|iL f n
theorem BU.at{w}{base}{v}{f}(h:BU w base v n f):∃a cp,v=.slice a n cp/\VN w a n f:=by
 have h':=h;obtain⟨hl,⟨b,d⟩|⟨g,cap,cur,b,hb,c,h1,h2,h3,h4⟩⟩:=h'
 .grind [VN]
 subst b;refine⟨_,_,rfl,.inr ⟨g,0,rfl,(h.lt g rfl).2,λi hi=>Jd.of λj u hu=>?_⟩⟩;have hj:j<11:=by
  have:=(SO.1 hu).1;simpa[DA]using this
 rw[X9,Lo h _ om,MO hi hj,hu]
theorem Bt.at{w}{base}{v}{f}(h:Bt w base v n f):∃a cp,v=.slice a n cp/\TK w a n f:=by
 have h':=h;obtain⟨hl,⟨b,d⟩|⟨g,cap,cur,b,hb,c,h1,h2,h3,h4⟩⟩:=h'
 .grind [TK]
 subst b;refine⟨_,_,rfl,.inr ⟨g,0,rfl,(h.lt g rfl).2,λi hi=>?_⟩⟩;rw[X9,Lo h _ om,KS hi]
abbrev PZ:Value:=.agg #[J 0,J 0,F9 0,E9,J 0,J 0,J 0,F9 0,E9,J 0,J 0]
def EX:(Tryz.prog.info? 168).map (λi=>(i.zero,i.size,i.bytes))=some (some PZ,11,104):=ou
def N4:(Tryz.prog.info? 3).map (λi=>(i.zero,i.size,i.bytes))=some (some<|J 0,1,8):=ou
def EZ p:∀u∈DA p,u.oneCell'=true:=by
 intro u hu;simp only[DA,List.mem_cons,AaK,or_false]at hu;rcases hu with rfl|rfl|rfl|rfl|rfl|rfl|rfl|rfl|rfl|rfl|rfl<;>rfl
structure Cp (w wr:Y) (ia:T9) (ic:Nat) (xa:T9) (xc:Nat) (d:Dc) (v0 v1 v2:V9):Prop where
 below:B9 w wr
 sz:w.heap.size+2<=wr.heap.size
 a1:wr.cell? (y w 1)=some (.slice ia d.m ic)
 a2:wr.cell? (y w 2)=some (.slice xa d.x xc)
 b0:wr.cell? (Y9 w 0)=some v0
 b1:wr.cell? (Y9 w 1)=some v1
 b2:wr.cell? (Y9 w 2)=some v2
 b3:wr.cell? (Y9 w 3)=some (J d.used)
 b4:wr.cell? (Y9 w 4)=some (J d.live)
 b5:wr.cell? (Y9 w 5)=some (J d.turns)
 fz:∀q,wr.frozen? (Y9 w q)=false
theorem Cp.same{w wr w1:Y}{d}{v0 v1 v2}(h:Cp w wr ia ic xa xc d v0 v1 v2)(hb:Below (w.heap.size+2) wr w1):Cp w w1 ia ic xa xc d v0 v1 v2:=by
 have e:∀q o,q<w.heap.size+2->w1.cell? (G q o)=wr.cell? (G q o):=λq o hq=>hb.cell hq;have e':∀q o,q<w.heap.size+2->w1.frozen? (G q o)=wr.frozen? (G q o):=λq o hq=>hb.frozen hq;exact⟨h.below.trans<|hb.mono om,GO h.sz hb.size,(e _ _ om).trans h.a1,(e _ _ om).trans h.a2,(e _ _ om).trans h.b0,(e _ _ om).trans h.b1,(e _ _ om).trans h.b2,(e _ _ om).trans h.b3,(e _ _ om).trans h.b4,(e _ _ om).trans h.b5,λq=>(e' _ _ om).trans<|h.fz q⟩
def Aa{w:Y}{v:V9}(h:o≠o'):(w.setCell (G b o) v).cell? (G b o')=w.cell? (G b o'):=by
 apply World.cell?_setCell_other;intro e;cases e;exact h rfl
def Aq{w:Y}{b'}{v:V9}(h:b≠b'):(w.setCell (G b o) v).cell? (G b' o')=w.cell? (G b' o'):=by
 apply World.cell?_setCell_other;intro e;cases e;exact h rfl
def Cp.tD{w wr}{d}{v0 v1 v2}(h:Cp w wr ia ic xa xc d v0 v1 v2)u:Cp w (wr.setCell (Y9 w 0) u) ia ic xa xc d u v1 v2:=
 ⟨h.below.setCell (by show _<=w.heap.size+1;omega) _,by simpa using h.sz,(Aq om).trans h.a1,(Aq om).trans h.a2,ID _ _ _<|by rw[h.b0];rfl,(Aa om).trans h.b1,(Aa om).trans h.b2,(Aa om).trans h.b3,(Aa om).trans h.b4,(Aa om).trans h.b5,λq=>by rw[PC];exact h.fz q⟩
def Cp.iM{w wr}{d}{v0 v1 v2}(h:Cp w wr ia ic xa xc d v0 v1 v2)u:Cp w (wr.setCell (Y9 w 1) u) ia ic xa xc d v0 u v2:=
 ⟨h.below.setCell (by show _<=w.heap.size+1;omega) _,by simpa using h.sz,(Aq om).trans h.a1,(Aq om).trans h.a2,(Aa om).trans h.b0,ID _ _ _<|by rw[h.b1];rfl,(Aa om).trans h.b2,(Aa om).trans h.b3,(Aa om).trans h.b4,(Aa om).trans h.b5,λq=>by rw[PC];exact h.fz q⟩
def Cp.iN{w wr}{d}{v0 v1 v2}(h:Cp w wr ia ic xa xc d v0 v1 v2)u:Cp w (wr.setCell (Y9 w 2) u) ia ic xa xc d v0 v1 u:=
 ⟨h.below.setCell (by show _<=w.heap.size+1;omega) _,by simpa using h.sz,(Aq om).trans h.a1,(Aq om).trans h.a2,(Aa om).trans h.b0,(Aa om).trans h.b1,ID _ _ _<|by rw[h.b2];rfl,(Aa om).trans h.b3,(Aa om).trans h.b4,(Aa om).trans h.b5,λq=>by rw[PC];exact h.fz q⟩
def CI(w:Y)a v:w.grownBy (w.setCell a v)<|some a.block:=⟨rfl,rfl,rfl,oq,λk _ b=>At _ _ _ _ λe=>b<|by rw[e]⟩
def Dd{w w':Y}{v:V9}(a:w.grownBy w' v.ownBlock)(b:∀q,v.ownBlock=some q->B<=q)(c:B<=w.heap.size):Below B w w':=
 ⟨a.os,a.tape,a.output,a.size,λk hk=>a.block k om λe=>oT<|b k e.symm⟩
def Eu{w:Y}{base Kt size}{v:V9}(h:w.ownsRow base e size v n xs)(hb:Kt<=base):w.ownsRow Kt e size v n xs:=by
 obtain⟨hl,h|⟨g,cap,cur,h1,h2,h3⟩⟩:=h
 .exact⟨hl,.inl h⟩
 exact⟨hl,.inr ⟨g,cap,cur,h1,GO hb h2,h3⟩⟩
def Dp{w w':Y}{base size}{v:V9}(h:w.ownsRow base e size v n xs)(hs:w.heap.size<=w'.heap.size)(hq:∀q,base<=q->q<w.heap.size->w'.heap[q]?=w.heap[q]?):w'.ownsRow base e size v n xs:=by
 obtain⟨hl,h|⟨g,cap,cur,h1,h2,h3,h4⟩⟩:=h
 .exact⟨hl,.inl h⟩
 exact⟨hl,.inr ⟨g,cap,cur,h1,h2,(hq g h2 (GC.1 h3).1).trans h3,h4⟩⟩
structure kU (w:Y) (c:Nat) (v0 v1 v2:V9) (d:Dc):Prop where
 sz:c+1<=w.heap.size
 c0:w.cell? (G c 0)=some v0
 c1:w.cell? (G c 1)=some v1
 c2:w.cell? (G c 2)=some v2
 c3:w.cell? (G c 3)=some (J d.used)
 c4:w.cell? (G c 4)=some (J d.live)
 c5:w.cell? (G c 5)=some (J d.turns)
 fz:∀q,w.frozen? (G c q)=false
 log:BU w (c+1) v0 d.n d.L
 ints:Bt w (c+1) v1 d.m d.I
 index:Bt w (c+1) v2 d.x d.X
 ap:∀q,v1.ownBlock=some q->v2.ownBlock≠some q
def kU.ptr{w}{v0 v1 v2}{d}(h:kU w c v0 v1 v2 d):∃la lc ia ic xa xc,v0=.slice la d.n lc/\v1=.slice ia d.m ic/\v2=.slice xa d.x xc/\Ia w c 0 la lc ia ic xa xc d:=by
 rcases h.log.at,h.ints.at,h.index.at with⟨⟨la,lc,e0,a⟩,⟨ia,ic,e1,b⟩,⟨xa,xc,e2,e⟩⟩;subst e0 e1 e2;exact⟨la,lc,ia,ic,xa,xc,rfl,rfl,rfl,h.sz,h.c0,h.c1,h.c2,h.c3,h.c4,h.c5,a,b,e⟩
def Pt lc{ia:Option Addr}ic{xa:Option Addr}xc{d}{w}(hD:FJ w la ia xa d)(hS:Small d):
  C9 66 #[Dv la lc ia ic xa xc d] w λe w'=>(∃c v v' o,e=.returned (Q9 c)/\c=w.heap.size+1/\kU w' c v v' o d)/\B9 w w':=by
 obtain⟨i0,hi,aq,ar,au⟩:=Ok EX;obtain⟨j0,ji,U,V,Z⟩:=Ok N4;obtain⟨hn,hm,hx⟩:=hS;obtain⟨hL,hI,hX⟩:=hD;have HX:=O hX;clear hX;have ae:B9 w<|(w.alloc<|.cells #[.slice la d.n lc,.slice ia d.m ic,.slice xa d.x xc,J d.used,J d.live,J d.turns] 69).alloc<|.cells #[N9,N9,N9,J d.used,J d.live,J d.turns] 69:=(n9).alloc oq _;have af:Hid<|Cp w ((w.alloc<|.cells #[.slice la d.n lc,.slice ia d.m ic,.slice xa d.x xc,J d.used,J d.live,J d.turns] 69).alloc<|.cells #[N9,N9,N9,J d.used,J d.live,J d.turns] 69) ia ic xa xc d N9 N9 N9:=
  O ⟨ae,oq,oe,oe,oe,oe,oe,oe,oe,oe,λq=>oe⟩
 clear ae;go_enter Tryz.func66,Tryz.ntmps66;go_wp2;go_loopw [21] (λi wr=>∃(k:Nat) (v:V9),k<=d.n/\i=J k/\Cp w wr ia ic xa xc d v N9 (N9)/\BU wr (w.heap.size+2) v k d.L) λi _=>d.n-(intOf i).toNat
 .exact⟨0,N9,om,rfl,af,IF _ _ _ _⟩
 clear af;obtain⟨k,v,hk,rfl,hc,r⟩:=hrel;by_cases s:k<d.n
 .obtain⟨b,off,rfl,E,hcs⟩:=hL.resolve_left om;rcases (hcs k s).keep (λq=>hc.below.cell E),O hc,O r with⟨⟨e0,e1,e2,e3,e4,e5,e6,e7,e8,e9,av⟩,t,S⟩;clear hcs hc r;go_wp2_with fail;obtain⟨W,A⟩:=qa<|wr.alloc<|.cells #[J (d.L k).key.kind,J (d.L k).key.num,F9 (d.L k).key.Ah,.string (d.L k).key.str,J (d.L k).key.ref,J (d.L k).val.kind,J (d.L k).val.num,F9 (d.L k).val.Ah,.string (d.L k).val.str,J (d.L k).val.ref,J (d.L k).turn] 168;rw[<-A];have x0:W.cell? (Y9 w 0)=some v:=by rw[A];exact(It _ _ _<|by have:=t.sz;show w.heap.size+1<_;omega).trans t.b0
  have p:=t.sz;have aw:W.heap.size=wr.heap.size+1:=by rw[A];simp
  have Q:=S.lt;have ax:Hid<|BU W.drew (w.heap.size+2) v k d.L:=O (by rw[A];exact(S.alloc _).drew);have ay:Cp w W ia ic xa xc d v N9<|N9:=by rw[A];exact t.same<|(BE _ _).alloc om _
  obtain⟨y0,y1,y2,y3,y4,y5,y6,y7,y8,y9,aM⟩:W.cell? (y wr 0)=some (J (d.L k).key.kind)/\W.cell? (y wr 1)=some (J (d.L k).key.num)/\W.cell? (y wr 2)=some (F9 (d.L k).key.Ah)/\W.cell? (y wr 3)=some (.string (d.L k).key.str)/\W.cell? (y wr 4)=some (J (d.L k).key.ref)/\W.cell? (y wr 5)=some (J (d.L k).val.kind)/\W.cell? (y wr 6)=some (J (d.L k).val.num)/\W.cell? (y wr 7)=some (F9 (d.L k).val.Ah)/\W.cell? (y wr 8)=some (.string (d.L k).val.str)/\W.cell? (y wr 9)=some (J (d.L k).val.ref)/\W.cell? (y wr 10)=some (J (d.L k).turn):=by rw[A];simp[go_sem]
  clear A t S e0 e1 e2 e3 e4 e5 e6 e7 e8 e9 av;have ag:w.heap.size+2<=W.heap.size:=om;have ah:w.heap.size+1<W.heap.size:=om;have F:=O Q;clear aw p Q
  go_region_law (refine Re _ rfl (.tmp 29) (.tmp 31) 66 rfl (w.heap.size+2) 168 i0 PZ 11 104 Tryz.underlying66 hi aq ar au rfl oo v k (pL d.L k) og (ax.alloc _) (y W 0) 1 1 (DA<|d.L k) og rfl (Is<|DO _ _) (EZ _) oo od om ot _ rfl ?_;intro g3 j w3 f g H R;have l:=O<|ay.same<|((BE (w.heap.size+2) W).drew.alloc ot _).trans<|Dd g (λq e=>(F q e).1) ot;have x3:=l.b0;have f3:=l.fz 0;have B:=O f;clear f g)
  all_goals
   have ai:=(B.lt g3 rfl).1;have h:BU (w3.setCell (Y9 w 0)<|S9 g3 (k+1) j) (w.heap.size+2) (S9 g3 (k+1) j) (k+1) d.L:=AaL B (CI w3 _ _)<|.inr (by simp[Value.ownBlock];omega);have K:=O h;clear h;go_wp2;go_roundw
   .exact⟨k+1,S9 g3 (k+1) j,om,ov,l.tD _,K⟩
   exact ow
 have C:k=d.n:=om;subst C;rcases O hc,O r,hc.a1,hc.sz,qa wr with⟨t,HP,q1,M,⟨u1,hu⟩⟩;rw[<-hu]at t HP q1 M ⊢;clear hc r hk s hu;go_wp2;go_loopw [39] (λi wr=>∃(k:Nat) (v':V9),k<=d.m/\i=J k/\Cp w wr ia ic xa xc d v v' (N9)/\Bt wr u1.heap.size v' k d.I/\u1.heap.size<=wr.heap.size/\∀q,w.heap.size+2<=q->q<u1.heap.size->wr.heap[q]?=u1.heap[q]?) λi _=>d.m-(intOf i).toNat
 .exact⟨0,N9,om,rfl,t,IF _ _ _ _,Be _,λ_ _ _=>rfl⟩
 clear t q1;obtain⟨k,v',hk,rfl,hc,r,p,a⟩:=hrel;by_cases s:k<d.m
 .obtain⟨b,off,rfl,E,hcs⟩:=hI.resolve_left om;rcases (hc.below.cell E).trans (hcs k s),hc.b1,hc.sz with⟨e0,x0,ag⟩;have ah:w.heap.size+1<wr.heap.size:=om;rcases O r.lt,O hc,O r,O a with⟨F,t,S,HK⟩;clear hcs hc r a;go_wp2_with (first|(at_builtin;refine ON _ rfl _ _ 67 rfl u1.heap.size 3 j0 (J 0) 1 8 Tryz.underlying67 ji U V Z rfl oo v' k (iL d.I k) rfl (S.alloc _) (y wr 0) 1 1 [J (d.I k)] rfl rfl (Is<|DO _ _) oh oo od om ot _ rfl ?_;intro g3 j w3 f g H R;have D:=O<|((BE u1.heap.size wr).alloc p _).trans<|Dd g (λq e=>(F q e).1) ot;have l:=O<|t.same<|D.mono M;have x3:=l.b1;have f3:=l.fz 1;have B:=O f;clear f g)|go_in);have ai:=(B.lt g3 rfl).1;have h:Bt (w3.setCell (Y9 w 1)<|S9 g3 (k+1) j) u1.heap.size (S9 g3 (k+1) j) (k+1) d.I:=AaL B (CI w3 _ _)<|.inr (by simp[Value.ownBlock];omega);have K:=O h;clear h;go_roundw
  .exact⟨k+1,S9 g3 (k+1) j,om,ov,l.iM _,K,by have:=D.size;simp;omega,λq h1 h2=>(At _ _ _ _<|by show q≠w.heap.size+1;omega).trans<|(D.block q h2).trans<|HK q h1 h2⟩
  exact ow
 have C:k=d.m:=om;subst C;rcases Dp HP p a,O<|Eu r M,O hc,hc.a2,hc.sz,qa wr with⟨T,HQ,t,q1,P,⟨u2,hu⟩⟩;rw[<-hu]at t T HQ q1 P ⊢;clear hc r hk s hu p a HP M;go_wp2;go_loopw [57] (λi wr=>∃(k:Nat) (o:V9),k<=d.x/\i=J k/\Cp w wr ia ic xa xc d v v' o/\Bt wr u2.heap.size o k d.X/\u2.heap.size<=wr.heap.size/\∀q,w.heap.size+2<=q->q<u2.heap.size->wr.heap[q]?=u2.heap[q]?) λi _=>d.x-(intOf i).toNat
 .exact⟨0,N9,om,rfl,t,IF _ _ _ _,Be _,λ_ _ _=>rfl⟩
 clear t q1;obtain⟨k,o,hk,rfl,hc,r,p,a⟩:=hrel;by_cases s:k<d.x
 .obtain⟨b,off,rfl,E,hcs⟩:=HX.resolve_left om;rcases (hc.below.cell E).trans (hcs k s),hc.b2,hc.sz with⟨e0,x0,ag⟩;have ah:w.heap.size+1<wr.heap.size:=om;rcases O r.lt,O hc,O r,O a with⟨F,t,S,HK⟩;clear hcs hc r a;go_wp2_with (first|(at_builtin;refine ON _ rfl _ _ 67 rfl u2.heap.size 3 j0 (J 0) 1 8 Tryz.underlying67 ji U V Z rfl oo o k (iL d.X k) rfl (S.alloc _) (y wr 0) 1 1 [J (d.X k)] rfl rfl (Is<|DO _ _) oh oo od om ot _ rfl ?_;intro g3 j w3 f g H R;have D:=O<|((BE u2.heap.size wr).alloc p _).trans<|Dd g (λq e=>(F q e).1) ot;have l:=O<|t.same<|D.mono P;have x3:=l.b2;have f3:=l.fz 2;have B:=O f;clear f g)|go_in);have ai:=(B.lt g3 rfl).1;have h:Bt (w3.setCell (Y9 w 2)<|S9 g3 (k+1) j) u2.heap.size (S9 g3 (k+1) j) (k+1) d.X:=AaL B (CI w3 _ _)<|.inr (by simp[Value.ownBlock];omega);have K:=O h;clear h;go_roundw
  .exact⟨k+1,S9 g3 (k+1) j,om,ov,l.iN _,K,by have:=D.size;simp;omega,λq h1 h2=>(At _ _ _ _<|by show q≠w.heap.size+1;omega).trans<|(D.block q h2).trans<|HK q h1 h2⟩
  exact ow
 have C:k=d.x:=om;subst C;rcases Dp T p a,Dp HQ p a,Eu r P with⟨aj,ak,ao⟩;have az:Hid<|∀q,v'.ownBlock=some q->o.ownBlock≠some q:=O (λq e e'=>by have h1:=(HQ.lt q e).2;have h2:=(r.lt q e').1;omega);have ad:=O (⟨hc,aj,ak,ao⟩:Cp w wr ia ic xa xc d v v' o/\BU wr (w.heap.size+2) v d.n d.L/\Bt wr (w.heap.size+2) v' d.m d.I/\Bt wr (w.heap.size+2) o d.x d.X);clear hc r hk s p a T HQ P aj ak ao;go_wp2;go_ret;obtain⟨hc,hP,hQ,hX⟩:=z ad;exact⟨⟨_,v,v',o,rfl,rfl,hc.sz,hc.b0,hc.b1,hc.b2,hc.b3,hc.b4,hc.b5,hc.fz,hP,hQ,hX,az⟩,hc.below⟩
abbrev Pc(c o:Nat):Value:=.pointer<|some<|G c o
def UM{d}{w}(hD:Ia w c o la lc ia ic xa xc d)(f:Small d):
  C9 89 #[Pc c o] w (R9 (.bool<|tells<|D1 d) w):=by
 rcases f.n,hD.c0,hD.c4,hD.c5,hD.lt with⟨hn,c0,c4,c5,g⟩;clear hD f;by_cases h1:d.live<0
 .have a:=O<|Ag (p:=D1 d) (λh=>by unfold D1 at h;omega);go_enter Tryz.func89,Tryz.ntmps89;go_wp2;go_ret;exact⟨ql a,BE _ _⟩
 by_cases h2:500<d.live
 .have a:=O<|Ag (p:=D1 d) (λh=>by unfold D1 at h;omega);go_enter Tryz.func89,Tryz.ntmps89;go_wp2;go_ret;exact⟨ql a,BE _ _⟩
 by_cases h3:d.turns<0
 .have a:=O<|Ag (p:=D1 d) (λh=>by unfold D1 at h;omega);go_enter Tryz.func89,Tryz.ntmps89;go_wp2;go_ret;exact⟨ql a,BE _ _⟩
 by_cases h4:1000000000000<d.turns
 .have a:=O<|Ag (p:=D1 d) (λh=>by unfold D1 at h;omega);go_enter Tryz.func89,Tryz.ntmps89;go_wp2;go_ret;exact⟨ql a,BE _ _⟩
 by_cases h5:(d.n:Int)<=8
 .have a:=O<|Al (p:=D1 d) ⟨om,om,om,om,.inl h5⟩;have i:decide ((d.n:Int)<=8)=true:=by simp[h5]
  go_enter Tryz.func89,Tryz.ntmps89;go_wp2;go_quiet (fail);go_wp2;go_ret;exact⟨ql a,AQ (BE _ _) _⟩
 have i:decide ((d.n:Int)<=8)=false:=by simp[h5]
 have j:IntKind.i64.wrap (2*d.live)=2*d.live:=oj;by_cases b:(d.n:Int)<=2*d.live
 focus
  have a:=O<|Al (p:=D1 d) ⟨om,om,om,om,.inr b⟩;have e:decide ((d.n:Int)<=2*d.live)=true:=by simp[b]
 rotate_left
 focus
  have a:=O<|Ag (p:=D1 d) (λh=>by unfold D1 at h;omega);have e:decide ((d.n:Int)<=2*d.live)=false:=by simp[b]
 all_goals
  go_enter Tryz.func89,Tryz.ntmps89;go_wp2;go_quiet (fail);go_wp2;go_ret;exact⟨ql a,AQ (BE _ _) _⟩
def Pw v w:
  C9 61 #[V v.kind v.num v.Ah v.str v.ref] w (R9 (.bool<|C0 v) w):=by
 by_cases h:v.kind=0
 .have hk:(v.kind==0)=true:=by simp[h]
  have a:Hid<|C0 v=v.ok:=O (by unfold C0;rw[hk];rfl);clear h;go_enter Tryz.func61,Tryz.ntmps61;go_wp2_with (go_at_call 24;refine m9 (BA v.kind v.num v.Ah v.str v.ref _) λw1 hb=>?_);go_ret;exact⟨ql a,(n9).trans<|hb.mono oq⟩
 have hk:(v.kind==0)=false:=by simp[h]
 have a:Hid<|C0 v=false:=O (by unfold C0;rw[hk];rfl);clear h;go_enter Tryz.func61,Tryz.ntmps61;go_wp2;go_ret;exact⟨ql a,n9⟩
def Pq v:(Ch v=true/\LC v.kind v.num v.Ah v.str v.ref=KV 0 v.kind v.num v.Ah v.str v.ref)\/(Ch v=false/\∃c k n f t r,LC v.kind v.num v.Ah v.str v.ref=KV c k n f t r/\(c≠0\/(v.kind=3/\k=2))):=by
 unfold LC Ch Vl.ok;by_cases d:Bf v.kind v.num v.Ah v.str v.ref=true
 .rw[d];by_cases a:v.kind=0
  .rw[DD a];right;exact⟨by simp[a],1,0,0,0,⟨#[]⟩,0,rfl,.inl oo⟩
  rw[C3 a];by_cases h3:v.kind=3
  .rw[DD h3];by_cases hn:C1 v.Ah=true
   .rw[DD hn];right;exact⟨by simp[h3,hn],1,0,0,0,⟨#[]⟩,0,rfl,.inl oo⟩
   rw[C3 hn];by_cases b:Ce v.Ah=true
   .rw[DD b];right;exact⟨by simp[h3,b],0,2,KR v.Ah,0,⟨#[]⟩,0,rfl,.inr ⟨h3,rfl⟩⟩
   rw[C3 b];left;exact⟨by simp[h3,hn,b],rfl⟩
  rw[C3 h3];left;exact⟨by simp[a,h3],rfl⟩
 rw[C3 d];right;have:Bf v.kind v.num v.Ah v.str v.ref=false:=by simpa using d
 exact⟨qm this,2,0,0,0,⟨#[]⟩,0,rfl,.inl oo⟩
def J7 v w:
  C9 118 #[V v.kind v.num v.Ah v.str v.ref] w (R9 (.bool<|Ch v) w):=by
 rcases Pq v with⟨hk,b⟩|⟨hk,c,k,n,f,t,r,b,hc⟩
 .have e:=O b;have HK:=O hk;clear hk b;go_enter Tryz.func118,Tryz.ntmps118;go_wp2_with (go_at_call 68;refine m9 (Ht v.kind v.num v.Ah v.str v.ref _) λw1 hb=>?_;rw[z e];obtain⟨hc,hf⟩:=BF hb;have hz:=hb.size;simp at hz;have d:w.heap.size<w1.heap.size:=om);go_ret;exact⟨by rw[z HK];simp,((n9).trans<|hb.mono oq).alloc om _⟩
 have e:=O b;have HK:=O hk;clear hk b;rcases hc with hc|⟨h3,rfl⟩
 focus
  have g:(c==0)=false:=by simp[hc]
  clear hc
 rotate_left
 focus
  have h:((2:Int)==v.kind)=false:=qm h3
  clear h3;by_cases a:c=0
  .subst a;go_enter Tryz.func118,Tryz.ntmps118;go_wp2_with (go_at_call 68;refine m9 (Ht v.kind v.num v.Ah v.str v.ref _) λw1 hb=>?_;rw[z e];obtain⟨hc,hf⟩:=BF hb;have hz:=hb.size;simp at hz;have d:w.heap.size<w1.heap.size:=om);go_ret;exact⟨by rw[z HK];simp,((n9).trans<|hb.mono oq).alloc om _⟩
  have g:(c==0)=false:=by simp[a]
  clear a
 all_goals
  go_enter Tryz.func118,Tryz.ntmps118;go_wp2_with (go_at_call 68;refine m9 (Ht v.kind v.num v.Ah v.str v.ref _) λw1 hb=>?_;rw[z e];obtain⟨hc,hf⟩:=BF hb;have hz:=hb.size;simp at hz;have d:w.heap.size<w1.heap.size:=om);go_ret;exact⟨ql HK,((n9).trans<|hb.mono oq).alloc om _⟩
def Gg{d}(h:CR d k=some (live,last))(a:(d.L k).turn=0):CR d (k+1)=if C0 (d.L k).key&&C0 (d.L k).val then some (live,last)else none:=by
 grind [CR,C0]
def Gh{d}(h:CR d k=some (live,last))(a:(d.L k).turn≠0):CR d (k+1)=if Eo d.turns last (d.L k)then some (live+1,(d.L k).turn)else none:=by
 grind [CR,Eo]
def Fi{d}(hk:k<d.n)(h:CR d (k+1)=none):tells (D2 d)=false:=Ag λ⟨l,e⟩=>by rw[Ns h om]at e;cases e
def UK{d}{w}(hD:Ia w c o la lc ia ic xa xc d)(hS:Small d):
  C9 90 #[Pc c o] w (R9 (.bool<|tells<|D2 d) w):=by
 rcases hS.n,hD.c0,hD.lt,O hD with⟨hn,c0,ah,HD⟩;clear hD hS;go_enter Tryz.func90,Tryz.ntmps90;go_wp2;go_loopw [3,4,12] (λl li i wr=>∃(k:Nat) (live last:Int),k<=d.n/\i=J k/\l=J last/\li=J live/\CR d k=some (live,last)/\0<=live/\live<=k/\B9 w wr) λ_ _ i _=>d.n-(intOf i).toNat
 .exact⟨0,0,0,om,rfl,rfl,rfl,rfl,om,om,BE _ _⟩
 clear c0;obtain⟨k,live,last,hk,rfl,rfl,rfl,E,U,ai,hb⟩:=hrel;have hD:=HD.below hb;rcases hD.c4,hD.c5,hD.lt,O E with⟨c4,c5,V,C⟩;clear hD E;by_cases s:k<d.n
 case neg=>
  have Q:k=d.n:=om;subst Q;have F:=O hb;clear hb;by_cases M:live=d.live
  .have r:=O<|Al (p:=D2 d) ⟨last,by rw[<-M];exact C⟩;have X:(live==d.live)=true:=by simp[M]
   clear M;go_wp2;go_ret;exact⟨by rw[z r];simp,F⟩
  have r:=O<|Ag (p:=D2 d) (λ⟨l,e⟩=>by rw[z C]at e;simp only[Option.some.injEq,Prod.mk.injEq]at e;exact M e.1);have X:(live==d.live)=false:=by simp[M]
  clear M;go_wp2;go_ret;exact⟨by rw[z r];simp,F⟩
 obtain⟨b,off,rfl,R,hcs⟩:=HD.rows.log.resolve_left om;rcases (hcs k s).keep (λq=>hb.cell R),hb.size,O hb with⟨⟨e0,e1,e2,e3,e4,e5,e6,e7,e8,e9,S⟩,aj,F⟩;clear hcs hb;by_cases P:(d.L k).turn=0
 .have B:=O<|Gg C P;rw[P]at S;clear P;go_wp2_with fail;refine m9 (Pw (d.L k).key _) λw1 x=>?_;obtain⟨u,Z⟩:=BF x;have ad:=x.size;simp at ad;have ak:wr.heap.size<w1.heap.size:=om;have A:=(F.alloc F.size _).trans<|x.mono ot;have H:=O A;cases I:C0 (d.L k).key
  .have r:=O<|Fi s<|B.trans<|qm I;clear x A;go_wp2_with fail;go_ret;exact⟨ql r,H⟩
  have d5:w1.cell? (y wr 5)=some (J (d.L k).val.kind):=by rw[u _ _ oq];simp[go_sem]
  have d6:w1.cell? (y wr 6)=some (J (d.L k).val.num):=by rw[u _ _ oq];simp[go_sem]
  have d7:w1.cell? (y wr 7)=some (F9 (d.L k).val.Ah):=by rw[u _ _ oq];simp[go_sem]
  have d8:w1.cell? (y wr 8)=some (.string (d.L k).val.str):=by rw[u _ _ oq];simp[go_sem]
  have d9:w1.cell? (y wr 9)=some (J (d.L k).val.ref):=by rw[u _ _ oq];simp[go_sem]
  clear x A u Z;go_wp2_with fail;refine m9 (Pw (d.L k).val _) λw2 a=>?_;have j:=O<|o9 H a;clear a;cases DM:C0 (d.L k).val
  .have r:=O<|Fi s<|B.trans (by rw[I,DM];rfl);go_wp2_with fail;go_ret;exact⟨ql r,j⟩
  have r:=O (B.trans (by rw[I,DM];rfl):CR d (k+1)=some (live,last));go_wp2_with fail;go_roundw
  .exact⟨k+1,live,last,om,ov,rfl,rfl,r,U,om,j⟩
  exact ow
 have B:=O<|Gh C P;have ao:((d.L k).turn==0)=false:=by simp[P]
 clear P;go_wp2_with fail;obtain⟨W,t⟩:=qa<|wr.alloc<|.cells #[J (d.L k).key.kind,J (d.L k).key.num,F9 (d.L k).key.Ah,.string (d.L k).key.str,J (d.L k).key.ref,J (d.L k).val.kind,J (d.L k).val.num,F9 (d.L k).val.Ah,.string (d.L k).val.str,J (d.L k).val.ref,J (d.L k).turn] 168;rw[<-t];have y0:W.cell? (y wr 0)=some (J (d.L k).key.kind):=by rw[t];simp[go_sem]
 obtain⟨y1,y2,y3,y4,y5,y6,y7,y8,y9,T⟩:W.cell? (y wr 1)=some (J (d.L k).key.num)/\W.cell? (y wr 2)=some (F9 (d.L k).key.Ah)/\W.cell? (y wr 3)=some (.string (d.L k).key.str)/\W.cell? (y wr 4)=some (J (d.L k).key.ref)/\W.cell? (y wr 5)=some (J (d.L k).val.kind)/\W.cell? (y wr 6)=some (J (d.L k).val.num)/\W.cell? (y wr 7)=some (F9 (d.L k).val.Ah)/\W.cell? (y wr 8)=some (.string (d.L k).val.str)/\W.cell? (y wr 9)=some (J (d.L k).val.ref)/\W.cell? (y wr 10)=some (J (d.L k).turn):=by rw[t];simp[go_sem]
 have m:Hid<|B9 w W:=O (by rw[t];exact F.alloc F.size _);have ae:wr.heap.size<W.heap.size:=by rw[t];simp
 have aq:c<W.heap.size:=om;have z5:W.cell? (G c<|o+5)=some (J d.turns):=by rw[t];exact(It _ _ _<|by exact V).trans c5
 clear t e0 e1 e2 e3 e4 e5 e6 e7 e8 e9 S c4 c5 R F;by_cases t1:(d.L k).turn<=last
 .have r:=O<|Fi s<|B.trans<|C3 (by unfold Eo;simp;intros;omega);have hd:decide ((d.L k).turn<=last)=true:=by simp[t1]
  clear t1;refine qr W ?_;(iterate 5 refine N (h:=?_));iterate 7 (go_big_quiet_step (fail))
  refine N (h:=N (h:=?_));iterate 4 (go_big_quiet_step (fail))
  refine N (h:=N (h:=?_));iterate 4 (go_big_quiet_step (fail))
  refine N (h:=N (h:=?_));iterate 4 (go_big_quiet_step (fail))
  refine N (h:=?_);refine Hz ?_;intro w2 g;have a:=o9 m g;have j:=O a;clear g a;go_wp2;go_ret;exact⟨ql r,j⟩
 have hd:decide ((d.L k).turn<=last)=false:=ot;by_cases t2:d.turns<(d.L k).turn
 .have r:=O<|Fi s<|B.trans<|C3 (by unfold Eo;simp;intros;omega);have af:decide (d.turns<(d.L k).turn)=true:=by simp[t2]
  clear t1 t2;refine qr W ?_;(iterate 12 refine N (h:=?_));refine N (h:=N (h:=?_));iterate 4 (go_big_quiet_step (fail))
  refine N (h:=N (h:=?_));iterate 4 (go_big_quiet_step (fail))
  refine N (h:=N (h:=?_));iterate 4 (go_big_quiet_step (fail))
  refine N (h:=?_);refine Hz ?_;intro w2 g;have a:=o9 m g;have j:=O a;clear g a;go_wp2;go_ret;exact⟨ql r,j⟩
 have af:decide (d.turns<(d.L k).turn)=false:=ot;cases t3:Ch (d.L k).key
 .have r:=O<|Fi s<|B.trans<|C3 (by unfold Eo;simp[t3]);clear t1 t2;refine qr W ?_;(iterate 12 refine N (h:=?_));(iterate 4 refine N (h:=?_));refine GS λK hK=>?_;go_simp;apply Exists.intro;refine qp (λw' f=>?_)<|hK _ ?_
  .refine(t3▸J7 (d.L k).key _).mono ?_;rintro e v ⟨rfl,hb⟩;exact⟨rfl,o9 f hb⟩
  clear hK K;refine N (h:=N (h:=N (h:=?_)));iterate 4 (go_big_quiet_step (fail))
  refine N (h:=N (h:=?_));iterate 4 (go_big_quiet_step (fail))
  refine N (h:=?_);refine Hz ?_;intro w2 g;have a:=o9 m g;have j:=O a;clear g a;go_wp2;go_ret;exact⟨ql r,j⟩
 cases t4:(d.L k).val.ok
 .have r:=O<|Fi s<|B.trans<|C3 (by unfold Eo;simp[t4]);have D:Bf (d.L k).val.kind (d.L k).val.num (d.L k).val.Ah (d.L k).val.str (d.L k).val.ref=false:=t4;clear t1 t2;refine qr W ?_;(iterate 12 refine N (h:=?_));(iterate 4 refine N (h:=?_));refine GS λK hK=>?_;go_simp;apply Exists.intro;refine qp (λw' f=>?_)<|hK _ ?_
  .refine(t3▸J7 (d.L k).key _).mono ?_;rintro e v ⟨rfl,hb⟩;exact⟨rfl,o9 f hb⟩
  clear hK K;(iterate 5 refine N (h:=?_));refine GS λK hK=>?_;go_simp;apply Exists.intro;refine qp (λw' f=>?_)<|hK _ ?_
  .refine(D▸BA (d.L k).val.kind (d.L k).val.num (d.L k).val.Ah (d.L k).val.str (d.L k).val.ref _).mono ?_;rintro e v ⟨rfl,hb⟩;exact⟨rfl,o9 f hb⟩
  clear hK K;refine N (h:=N (h:=N (h:=?_)));iterate 4 (go_big_quiet_step (fail))
  refine N (h:=?_);refine Hz ?_;intro w2 g;have a:=o9 m g;have j:=O a;clear g a;go_wp2;go_ret;exact⟨ql r,j⟩
 have D:Bf (d.L k).val.kind (d.L k).val.num (d.L k).val.Ah (d.L k).val.str (d.L k).val.ref=true:=t4;by_cases t5:(d.L k).val.kind=0
 .have r:=O<|Fi s<|B.trans<|C3 (by unfold Eo;simp[t5]);have ag:((d.L k).val.kind==0)=true:=by simp[t5]
  clear t1 t2 t5;refine qr W ?_;(iterate 12 refine N (h:=?_));(iterate 4 refine N (h:=?_));refine GS λK hK=>?_;go_simp;apply Exists.intro;refine qp (λw' f=>?_)<|hK _ ?_
  .refine(t3▸J7 (d.L k).key _).mono ?_;rintro e v ⟨rfl,hb⟩;exact⟨rfl,o9 f hb⟩
  clear hK K;(iterate 5 refine N (h:=?_));refine GS λK hK=>?_;go_simp;apply Exists.intro;refine qp (λw' f=>?_)<|hK _ ?_
  .refine(D▸BA (d.L k).val.kind (d.L k).val.num (d.L k).val.Ah (d.L k).val.str (d.L k).val.ref _).mono ?_;rintro e v ⟨rfl,hb⟩;exact⟨rfl,o9 f hb⟩
  clear hK K;(iterate 8 refine N (h:=?_));refine Hz ?_;intro w2 g;have a:=o9 m g;have j:=O a;clear g a;go_wp2;go_ret;exact⟨ql r,j⟩
 have r:=O<|B.trans<|DD (by unfold Eo;simp[t3,t4,t5];omega);have ag:((d.L k).val.kind==0)=false:=by simp[t5]
 clear t1 t2 t5;refine qr W ?_;(iterate 12 refine N (h:=?_));(iterate 4 refine N (h:=?_));refine GS λK hK=>?_;go_simp;apply Exists.intro;refine qp (λw' f=>?_)<|hK _ ?_
 .refine(t3▸J7 (d.L k).key _).mono ?_;rintro e v ⟨rfl,hb⟩;exact⟨rfl,o9 f hb⟩
 clear hK K;(iterate 5 refine N (h:=?_));refine GS λK hK=>?_;go_simp;apply Exists.intro;refine qp (λw' f=>?_)<|hK _ ?_
 .refine(D▸BA (d.L k).val.kind (d.L k).val.num (d.L k).val.Ah (d.L k).val.str (d.L k).val.ref _).mono ?_;rintro e v ⟨rfl,hb⟩;exact⟨rfl,o9 f hb⟩
 clear hK K;(iterate 8 refine N (h:=?_));refine Hz ?_;intro w2 g;have a:=o9 m g;have ar:=o7 g ae T;have j:=O a;clear g a y0 y1 y2 y3 y4 y5 y6 y7 y8 y9 T;go_wp2;go_roundw
 .exact⟨k+1,live+1,(d.L k).turn,om,ov,rfl,ov,r,om,om,j⟩
 exact ow
def K2{d}(hk:k<d.m)(h:¬FD d k):tells (D3 d)=false:=Ag λh'=>h<|h'.1 k hk
def SY{d}{w}(hD:Ia w c o la lc ia ic xa xc d)(H:Small d):
  C9 91 #[Pc c o] w (R9 (.bool<|tells<|D3 d) w):=by
 rcases H.n,H.m,hD.c1,O hD with⟨hn,X,c1,F⟩;clear hD H;go_enter Tryz.func91,Tryz.ntmps91;go_wp2;go_loopw [11] (λi wr=>∃(k:Nat),k<=d.m/\i=J k/\(∀j,j<k->FD d j)/\B9 w wr) λi _=>d.m-(intOf i).toNat
 .exact⟨0,om,rfl,λj hj=>om,BE _ _⟩
 clear c1;obtain⟨k,hk,rfl,t,hb⟩:=hrel;have hD:=F.below hb;rcases hD.c0,hD.c1,O t with⟨c0,c1,g⟩;clear hD t;by_cases r:k<d.m
 case neg=>
  have B:k=d.m:=om;subst B;by_cases a:d.m=0
  .have l:=O<|Al (p:=D3 d) ⟨g,.inl a⟩;have v:((d.m:Int)==0)=true:=by simp[a]
   have f:=O hb;clear hb a;go_wp2_with fail;go_quiet (fail);go_wp2;go_ret;exact⟨ql l,AQ f _⟩
  have v:((d.m:Int)==0)=false:=ot;obtain⟨q,hq⟩:∃q,d.m=q+1:=⟨d.m-1,om⟩;obtain⟨b,off,rfl,x,hcs⟩:=F.rows.ints.resolve_left a;have e0:=(hb.cell x).trans<|hcs q om;have T:IntKind.i64.wrap ((d.m:Int)-1)=(q:Int):=oj;have U:q<d.m:=om;have f:=O hb;clear hcs hb;by_cases hp:0<d.I q
  focus
   have l:=O<|Al (p:=D3 d) ⟨g,.inr<|by rw[hq];exact hp⟩;have V:decide (0<d.I q)=true:=by simp[hp]
  rotate_left
  focus
   have l:=O (Ag (p:=D3 d) (λh=>by
    rcases h.2 with h|h
    .exact a h
    rw[hq]at h;exact hp h))
   have V:decide (0<d.I q)=false:=ot
  all_goals
   have K:=O hq;clear hp hq a;go_wp2_with fail;go_quiet (fail);go_wp2;go_ret;exact⟨ql l,AQ f _⟩
 obtain⟨b,off,rfl,x,hcs⟩:=F.rows.ints.resolve_left om;have e0:=(hb.cell x).trans<|hcs k r;clear hcs;by_cases a:d.I k=0
 .have f:=O hb;have M:FD d k:=.inl a;rw[a]at e0;clear hb a;go_wp2;go_roundw
  .exact⟨k+1,om,ov,λj hj=>(by by_cases e:j=k;exact e▸z M;exact g j om),f⟩
  exact ow
 have v:(d.I k==0)=false:=by simp[a]
 by_cases h1:d.I k<0
 .have l:=O<|K2 r (λh=>by rcases h with h|h;exact a h;omega);have f:=O hb;clear hb a;go_wp2;go_ret;exact⟨ql l,f⟩
 by_cases h2:(d.n:Int)<d.I k
 .have l:=O<|K2 r (λh=>by rcases h with h|h;exact a h;omega);have f:=O hb;clear hb a;go_wp2;go_ret;exact⟨ql l,f⟩
 obtain⟨q,hq⟩:∃q:Nat,d.I k=(q:Int)+1:=⟨(d.I k-1).toNat,om⟩;have P:q<d.n:=om;obtain⟨lb,lo,rfl,Q,C⟩:=F.rows.log.resolve_left om;obtain⟨e1,e2,e3,Z,e5,_,_,_,_,_,R⟩:=(C q P).keep λq=>hb.cell Q;have A:Hid<|d.at (d.I k)=d.L q:=O (by unfold Dc.at;rw[hq];congr 1;omega);have f:=O hb;rw[hq]at e0;have g0:((q:Int)+1==0)=false:=ot;have g1:¬(q:Int)+1<0:=om;have g2:¬(d.n:Int)<(q:Int)+1:=om;have K:=O hq;have S:=O a;clear C hb a h1 h2 v hq;by_cases u:(d.L q).turn=0
 .have l:=O<|K2 r (λh=>by rcases h with h|h;exact S h;rw[z A]at h;exact h.2.2.1 u);rw[u]at R;clear u;go_wp2;go_ret;exact⟨ql l,f⟩
 have W:((d.L q).turn==0)=false:=by simp[u]
 have hw:IntKind.i64.wrap ((k:Int)+1)=(k:Int)+1:=oj;by_cases DM:(d.L q).key.kind=2
 case neg=>
  have l:=O<|K2 r (λh=>by rcases h with h|h;exact S h;rw[z A]at h;exact DM h.2.2.2.1);have D:((d.L q).key.kind !=2)=true:=by simp[DM]
  clear DM u;go_wp2;go_ret;exact⟨ql l,f.alloc f.size _⟩
 have D:((d.L q).key.kind !=2)=false:=by simp[DM]
 by_cases s:(d.L q).key.num=(k:Int)+1
 case neg=>
  have l:=O<|K2 r (λh=>by rcases h with h|h;exact S h;rw[z A]at h;exact s h.2.2.2.2);have E:((d.L q).key.num !=(k:Int)+1)=true:=by simp[s]
  clear DM u s;go_wp2;go_ret;exact⟨ql l,f.alloc f.size _⟩
 have M:FD d k:=.inr ⟨by rw[z K];omega,by rw[z K];omega,by rw[z A];exact u,by rw[z A];exact DM,by rw[z A];exact s⟩;have E:((d.L q).key.num !=(k:Int)+1)=false:=by simp[s]
 clear DM u s;go_wp2;go_roundw
 .exact⟨k+1,om,ov,λj hj=>(by by_cases e:j=k;exact e▸z M;exact g j om),f.alloc f.size _⟩
 exact ow
def GJ{d}v{w}(hD:Ia w c o la lc ia ic xa xc d)(g:Small d):
  C9 135 #[Pc c o,V v.kind v.num v.Ah v.str v.ref] w (R9 (.bool<|tells<|AA d.m v) w):=by
 rcases g.m,hD.c1,hD.lt with⟨j,c1,i⟩;clear hD g;by_cases h1:v.kind=2
 case neg=>
  have a:=O<|Ag (p:=AA d.m v) λh=>h1 h.1;have b:(v.kind==2)=false:=by simp[h1]
  clear h1;go_enter Tryz.func135,Tryz.ntmps135;go_wp2;go_quiet (fail);go_wp2;go_ret;exact⟨ql a,AQ n9 _⟩
 have b:(v.kind==2)=true:=by simp[h1]
 by_cases h2:1<=v.num
 case neg=>
  have a:=O<|Ag (p:=AA d.m v) λh=>h2 h.2.1;have e:decide (1<=v.num)=false:=by simp[h2]
  clear h1 h2;go_enter Tryz.func135,Tryz.ntmps135;go_wp2;go_quiet (fail);go_wp2;go_ret;exact⟨ql a,AQ n9 _⟩
 have e:decide (1<=v.num)=true:=by simp[h2]
 by_cases h3:v.num<=(d.m:Int)
 focus
  have a:=O<|Al (p:=AA d.m v) ⟨h1,h2,h3⟩;have f:decide (v.num<=(d.m:Int))=true:=by simp[h3]
 rotate_left
 focus
  have a:=O<|Ag (p:=AA d.m v) λh=>h3 h.2.2;have f:decide (v.num<=(d.m:Int))=false:=by simp[h3]
 all_goals
  clear h1 h2 h3;go_enter Tryz.func135,Tryz.ntmps135;go_wp2;go_quiet (fail);go_wp2;go_ret;exact⟨ql a,AQ n9 _⟩
def Entry(d:Dc)(i:Nat):Prop:=((d.L i).turn=0/\C0 (d.L i).key=true/\C0 (d.L i).val=true)\/(0<(d.L i).turn/\(d.L i).turn<=d.turns/\Ch (d.L i).key=true/\(d.L i).val.ok=true/\(d.L i).val.kind≠0)
def QJ{d}:∀(k) {live last:Int},CR d k=some (live,last)->0<=last/\∀i,i<k->Entry d i:=by
 intro k
 induction k with
 |zero=>intro live last h;simp[CR]at h;exact⟨om,λi hi=>om⟩
 |succ k ih=>
  intro live last h;cases hk:CR d k with
  |none=>rw[Ns hk om]at h;cases h
  |some x=>
   obtain⟨b,i2⟩:=ih hk;by_cases a:(d.L k).turn=0
   .rw[Gg hk a]at h;split at h
    .next hn=>
     simp only[Option.some.injEq,Prod.mk.injEq]at h;refine⟨om,λi hi=>?_⟩;by_cases e:i=k
     .subst e;left;simpa[a]using hn
     exact i2 i om
    cases h
   rw[Gh hk a]at h;split at h
   .next hn=>
    simp only[Option.some.injEq,Prod.mk.injEq]at h;unfold Eo at hn;simp at hn;refine⟨om,λi hi=>?_⟩;by_cases e:i=k
    .subst e;right;exact⟨om,hn.1.1.1.2,hn.1.1.2,hn.1.2,hn.2⟩
    exact i2 i om
   cases h
def D2.entry{d}(h:D2 d){i}(hi:i<d.n):Entry d i:=by
 obtain⟨l,e⟩:=h;exact(QJ d.n e).2 i hi
theorem D2.pos{d}(h:D2 d){i}(hi:i<d.n)(a:(d.L i).turn≠0):0<(d.L i).turn/\Ch (d.L i).key=true:=by
 rcases h.entry hi with h|h;all_goals grind [D2]
def AZ(d:Dc)(i:Nat):Prop:=0<(d.L i).turn/\¬AA d.m (d.L i).key
def Fv{d}q{w}(hD:Ia w c o la lc ia ic xa xc d)(f:Small d)(hq:q<d.n):
  C9 119 #[Pc c o,J q] w (R9 (.bool<|tells<|AZ d q) w):=by
 have c0:=hD.c0;obtain⟨b,off,rfl,g,a⟩:=hD.rows.log.resolve_left om;rcases a q hq,O hD,O f with⟨⟨e0,e1,e2,e3,t,u,v,x,A,B,i⟩,j,k⟩;clear hD f a;by_cases h1:0<(d.L q).turn
 case neg=>
  have l:=O<|Ag (p:=AZ d q) λh=>h1 h.1;have e:decide (0<(d.L q).turn)=false:=ot;clear h1;go_enter Tryz.func119,Tryz.ntmps119;go_wp2;go_ret;exact⟨ql l,n9⟩
 have e:decide (0<(d.L q).turn)=true:=by simp[h1]
 have r:Hid<|tells (AZ d q)=!tells (AA d.m (d.L q).key):=O (by
  by_cases hs:AA d.m (d.L q).key
  .rw[Al hs,Ag (λh=>h.2 hs)];rfl
  rw[Ag hs,Al ⟨h1,hs⟩];rfl)
 clear h1;go_enter Tryz.func119,Tryz.ntmps119;go_wp2_with fail;refine m9 (GJ (d.L q).key (j.below n9) k) λw1 hb=>?_;have s:=O hb;clear hb;go_wp2;go_ret;exact⟨by rw[z r];simp,(n9).trans<|s.mono oq⟩
def aE(h:1<=a):Hb (2*a)↔Hb a:=by
 constructor
 .rintro⟨k,hk⟩;cases k with
  |zero=>simp at hk;omega
  |succ k=>exact⟨k,by rw[AaB]at hk;omega⟩
 rintro⟨k,hk⟩;exact⟨k+1,by rw[hk];omega⟩
def gU(h:1<a)(b:a%2≠0):¬Hb a:=by
 rintro⟨k,hk⟩;cases k with
 |zero=>simp at hk;omega
 |succ k=>rw[AaB]at hk;omega
def gV:Hb 1:=⟨0,rfl⟩
def R4 d k:BS d k<=k:=by
 induction k with
 |zero=>exact Be _
 |succ k ih=>unfold BS;split<;>omega
def GB(x:Nat):Prop:=x=0\/(8<=x/\x<=4000/\Hb x)
def PL{d}(hk:k<d.x)(h:¬Gl d k):tells (D4 d)=false:=Ag λh'=>h<|h'.2.1 k hk
def Oa{d}(h:¬GB d.x):tells (D4 d)=false:=Ag λh'=>h h'.1
def QE{d}{w}(hD:Ia w c o la lc ia ic xa xc d)(S:Small d)(h2:D2 d):
  C9 92 #[Pc c o] w (R9 (.bool<|tells<|D4 d) w):=by
 rcases S.n,S.x,hD.c2,hD.lt,O hD,O h2 with⟨hn,hx,c2,aq,H,H2⟩;clear hD h2;by_cases s1:0<d.x/\d.x<8
 .have f:=O<|Oa (d:=d) (λh=>by rcases h with h|h<;>omega);obtain⟨s1,s2⟩:=s1;go_enter Tryz.func92,Tryz.ntmps92;go_wp2;go_ret;exact⟨ql f,BE _ _⟩
 by_cases s2:4000<d.x
 .have f:=O<|Oa (d:=d) (λh=>by rcases h with h|h<;>omega);have C:¬(d.x:Int)<8:=om;clear s1;go_enter Tryz.func92,Tryz.ntmps92;go_wp2;go_ret;exact⟨ql f,BE _ _⟩
 have Z:=O s1;clear s1;go_enter Tryz.func92,Tryz.ntmps92;have C:d.x=0\/(0<d.x/\¬d.x<8):=oT<|z Z;rcases C with C|⟨C,s4⟩
 .have s:=O C;have ad:¬(0:Int)<d.x:=om;clear C;go_wp2_with fail;go_loopw [4] (λm wr=>m=J d.x/\wr=w) λ_ _=>0
  .exact⟨rfl,rfl⟩
  obtain⟨rfl,rfl⟩:=hrel;go_wp2_with fail;go_loopw [5,36] (λu i ae=>u=J 0/\i=J 0/\ae=wr) λ_ _ _=>0
  .exact⟨rfl,rfl,rfl⟩
  obtain⟨rfl,rfl,rfl⟩:=hrel;have c3:=H.c3;have ar:(0:Int)<=d.x:=om;by_cases hu:(0:Int)=d.used
  .have f:=O<|Al (p:=D4 d) ⟨.inl s,λj hj=>oT<|z s,by rw[z s];exact hu,by rw[z s];exact Be _⟩;have I:((0:Int)==d.used)=true:=by simp[hu]
   have K:(d.used==0)=true:=by simp[<-hu]
   rw[<-hu]at c3;clear hu I K;go_wp2;go_ret;exact⟨ql f,BE _ _⟩
  have f:=O<|Ag (p:=D4 d) (λh=>by have:=h.2.2.1;rw[z s]at this;exact hu this);have I:((0:Int)==d.used)=false:=by simp[hu]
  clear hu;go_wp2;go_ret;exact⟨ql f,BE _ _⟩
 have ad:(0:Int)<d.x:=om;have au:d.x<=4000:=om;clear C;go_wp2_with fail;go_loopw [4] (λm wr=>∃a:Nat,m=J a/\1<=a/\a<=4000/\(Hb d.x↔Hb a)/\wr=w) λm _=>(intOf m).toNat
 .exact⟨d.x,rfl,om,om,Iff.rfl,rfl⟩
 obtain⟨a,rfl,af,ag,A,M⟩:=hrel;rw[M];clear M;have T:=O A;clear A;by_cases ha:1<a
 .obtain⟨q,r,av,hr⟩:∃q r,a=2*q+r/\r<2:=⟨a/2,a%2,om,om⟩;have hm:(a:Int).tmod 2=r:=by rw[Int.tmod_eq_emod_of_nonneg om];omega
  have P:r=0\/r=1:=om;rcases P with rfl|rfl
  .have ah:Hid<|Hb d.x↔Hb q:=O<|T.trans (by rw[show a=2*q by omega];exact aE om);go_wp2;refine⟨⟨q,rfl,om,om,ah,trivial⟩,?_⟩;exact ow
  have f:=O (Oa (d:=d) (λh=>by
   rcases h with h|h
   .omega
   exact gU ha om (T.1 h.2.2)))
  go_wp2;go_ret;exact⟨ql f,BE _ _⟩
 have ai:a=1:=om;subst ai;rw[show((1:Nat):Int)=1 from rfl];have HP:GB d.x:=.inr ⟨om,om,T.2 gV⟩;clear T af ag ha;go_wp2_with fail;clear c2;go_loopw [5,36] (λu i wr=>∃k:Nat,k<=d.x/\i=J k/\u=J (BS d k)/\(∀j,j<k->Gl d j)/\B9 w wr) λ_ i _=>d.x-(intOf i).toNat
 .exact⟨0,om,rfl,rfl,λj hj=>om,BE _ _⟩
 obtain⟨k,hk,rfl,rfl,B,hb⟩:=hrel;have hD:=H.below hb;rcases hD.c0,hD.c3,R4 d k,O B with⟨c0,c3,aw,g⟩;clear hD B;by_cases v:k<d.x
 case neg=>
  have Q:k=d.x:=om;subst Q;have l:=O hb;clear hb;by_cases h1:(BS d d.x:Int)=d.used
  case neg=>
   have f:=O<|Ag (p:=D4 d) λh=>h1 h.2.2.1;have aj:((BS d d.x:Int)==d.used)=false:=by simp[h1]
   clear h1;go_wp2;go_ret;exact⟨ql f,l⟩
  have aj:((BS d d.x:Int)==d.used)=true:=by simp[h1]
  by_cases h2:2*BS d d.x<=d.x
  .have f:=O<|Al (p:=D4 d) ⟨HP,g,h1,h2⟩;have ak:decide (2*(BS d d.x:Int)<=d.x)=true:=ot;clear h1 h2;go_wp2;go_ret;exact⟨by rw[z f];simp,l⟩
  have f:=O<|Ag (p:=D4 d) λh=>h2 h.2.2.2;have ak:decide (2*(BS d d.x:Int)<=d.x)=false:=ot;clear h1 h2;go_wp2;go_ret;exact⟨by rw[z f];simp,l⟩
 obtain⟨b,off,rfl,ao,hcs⟩:=H.rows.index.resolve_left om;have e0:=(hb.cell ao).trans<|hcs k v;have l:=O hb;clear hcs hb;by_cases p1:d.X k< -1
 .have f:=O<|PL v (λh=>by rcases h with h|h|h<;>omega);go_wp2;go_ret;exact⟨ql f,l⟩
 by_cases p2:(d.n:Int)<d.X k
 .have f:=O<|PL v (λh=>by rcases h with h|h|h<;>omega);go_wp2;go_ret;exact⟨ql f,l⟩
 by_cases D:d.X k=0
 .have R:Gl d k:=.inl D;have U:Hid<|BS d (k+1)=BS d k:=O (by show(if d.X k=0 then _ else _)=_;rw[DD D]);rw[D]at e0;clear p1 p2 D;go_wp2;go_roundw
  .exact⟨k+1,om,ov,ql U,λj hj=>(by by_cases e:j=k;exact e▸z R;exact g j om),l⟩
  exact ow
 have U:Hid<|BS d (k+1)=BS d k+1:=O (by show(if d.X k=0 then _ else _)=_;rw[C3 D]);by_cases V:d.X k=-1
 .have R:Gl d k:=.inr<|.inl V;rw[V]at e0;clear p1 p2 D V;go_wp2;go_roundw
  .exact⟨k+1,om,ov,by rw[z U];go_num,λj hj=>(by by_cases e:j=k;exact e▸z R;exact g j om),l⟩
  exact ow
 obtain⟨q,hq⟩:∃q:Nat,d.X k=(q:Int)+1:=⟨(d.X k-1).toNat,om⟩;have E:q<d.n:=om;have HA:Hid<|d.at (d.X k)=d.L q:=O (by unfold Dc.at;rw[hq];congr 1;omega);rw[hq]at e0;have g0:((q:Int)+1!=0)=true:=ot;have g1:¬(q:Int)+1< -1:=om;have g2:¬(d.n:Int)<(q:Int)+1:=om;have W:=O hq;clear p1 p2 D V hq;by_cases hi:AZ d q
 .have HR:=O<|Al hi;have R:Gl d k:=.inr<|.inr ⟨by rw[z W];omega,by rw[z W];omega,by rw[z HA];have:=hi.1;omega,by rw[z HA];exact hi.2⟩;clear hi;go_wp2_with fail;refine m9 (Fv q (H.below l) S E) λw1 t=>?_;rw[z HR];have F:=o9 l t;clear t;go_wp2;go_roundw
  .exact⟨k+1,om,ov,by rw[z U];go_num,λj hj=>(by by_cases e:j=k;exact e▸z R;exact g j om),F⟩
  exact ow
 have HR:=O<|Ag hi;have f:=O (PL v (λh=>by
  rcases h with h|h|h
  .rw[z W]at h;omega
  .rw[z W]at h;omega
  rw[z HA]at h;exact hi ⟨(H2.pos E h.2.2.1).1,h.2.2.2⟩))
 clear hi;go_wp2_with fail;refine m9 (Fv q (H.below l) S E) λw1 t=>?_;rw[z HR];have F:=o9 l t;clear t;go_wp2;go_ret;exact⟨ql f,F⟩
def NI(a b:Nat):Bool:=O9 a b==some .eq
def AH(a b:Vl):Bool:=a.kind==b.kind&&(a.num==b.num&&(NI a.Ah b.Ah&&(a.str.toList==b.str.toList&&a.ref==b.ref)))
def probe(d:Dc)(v:Vl):Nat->Nat->Option Nat
 |_,0=>none
 |at0,f+1=>if d.X at0=0 then none else if 0<d.X at0/\AH (d.at<|d.X at0).key v=true then some at0 else probe d v ((at0+1)%d.x) f
def A1(d:Dc)(v:Vl)(h:Nat):Option Nat:=if d.x=0 then none else probe d v (h%d.x) d.x
def FR:Option Nat->Int
 |none=>-1
 |some s=>s
def jC(d:Dc):Option Nat->Int
 |none=>-1
 |some s=>d.X s-1
open Classical in
noncomputable def Ay(d:Dc)(v:Vl)(h:Nat):Int:=if AA d.m v then d.I (v.num-1).toNat-1 else jC d (A1 d v h)
def Fj{d}{v}(h:d.X a=0):probe d v a (f+1)=none:=DD h
def F6{d}{v}(h:0<d.X a)(hl:AH (d.at<|d.X a).key v=true):probe d v a (f+1)=some a:=by
 grind [AH,probe]
def Di{d}{v}(h:d.X a≠0)(hl:¬(0<d.X a/\AH (d.at<|d.X a).key v=true)):probe d v a (f+1)=probe d v ((a+1)%d.x) f:=by
 show(if _ then _ else _)=_;rw[C3 h,C3 hl]
def gX{d}{v}(c:0<d.x):∀(f a s),a<d.x->probe d v a f=some s->s<d.x/\0<d.X s:=by
 intro f
 induction f with
 |zero=>intro a s _ h;cases h
 |succ f ih=>
  intro a s e h;by_cases b:d.X a=0
  .rw[Fj b]at h;cases h
  by_cases hl:0<d.X a/\AH (d.at<|d.X a).key v=true
  .rw[F6 hl.1 hl.2]at h;cases h;exact⟨e,hl.1⟩
  rw[Di b hl]at h;exact ih _ _ (Tn _ c) h
def MV{d}{v}{s}(e:A1 d v h=some s):s<d.x/\0<d.X s:=by
 unfold A1 at e;split at e
 .cases e
 exact gX om _ _ _ (Tn _ om) e
structure YZ (v:Vl) (h:Nat):Prop where
 lt:h<18446744073709551616
 call:∀w:World,C9 151 #[V v.kind v.num v.Ah v.str v.ref] w<|R9 (.int .u64 (h:Int)) w
def Pu a b w:
  C9 152 #[V a.kind a.num a.Ah a.str a.ref,V b.kind b.num b.Ah b.str b.ref] w (R9 (.bool<|AH a b) w):=by
 go_enter Tryz.func152,Tryz.ntmps152;go_wp2;all_goals(go_ret;refine⟨by simp_all [AH,NI],(n9).alloc oq _⟩)
def T3(hp:Hb x)(a:x<=4000)(hh:h<18446744073709551616):bits BinOp.and IntKind.u64 (h) ((x)-1)=((h%x:Nat):Int):=by
 obtain⟨k,rfl⟩:=hp;have h1:=Of k;have e:(((2^k:Nat):Int)-1)=((2^k-1:Nat):Int):=om;rw[e,bits_and_u64_nat _ _ hh om,AaS]
def KU{d}{v}{w}(hD:Ia w c o la lc ia ic xa xc d)(T:Small d)(h4:D4 d)(hh:YZ v h):
  C9 136 #[Pc c o,V v.kind v.num v.Ah v.str v.ref] w (R9 (J<|FR<|A1 d v h) w):=by
 rcases T.n,T.x,hD.c2,hD.lt,O hD with⟨hn,hx,c2,ag,U⟩;clear hD T;by_cases r:d.x=0
 .have F:Hid<|A1 d v h=none:=O<|DD r;have H:((d.x:Int)==0)=true:=by simp[r]
  clear r;go_enter Tryz.func136,Tryz.ntmps136;go_wp2;go_ret;exact⟨ql F,n9⟩
 have A:=h4.1.resolve_left r;have hand:=T3 (h:=h) A.2.2 A.2.1 hh.lt;have P:h%d.x<d.x:=Tn _ om;have F:Hid<|A1 d v h=probe d v (h%d.x) d.x:=O<|C3 r;have H:((d.x:Int)==0)=false:=ot;rcases A.1,A.2.1,qa (h%d.x) with⟨ah,ai,⟨a0,Q⟩⟩;rw[<-Q]at hand P F;clear r A Q;go_enter Tryz.func136,Tryz.ntmps136;go_wp2_with fail;refine(hh.call _).mono ?_;rintro e w1 ⟨rfl,D⟩;obtain⟨s,W⟩:=BF D;have q0:w1.cell? (y w 0)=some (J v.kind):=by rw[s _ _ oq];simp[go_sem]
 have q1:w1.cell? (y w 1)=some (J v.num):=by rw[s _ _ oq];simp[go_sem]
 have q2:w1.cell? (y w 2)=some (F9 v.Ah):=by rw[s _ _ oq];simp[go_sem]
 have q3:w1.cell? (y w 3)=some (.string v.str):=by rw[s _ _ oq];simp[go_sem]
 have q4:w1.cell? (y w 4)=some (J v.ref):=by rw[s _ _ oq];simp[go_sem]
 have t:w.heap.size<w1.heap.size:=by have:=D.size;simp at this;omega
 have g:=((BE w.heap.size w).alloc (Be _) _).trans<|D.mono oq;clear D s W c2;go_wp2_with fail;go_loopw [6,7] (λp i wr=>∃(a j:Nat),p=J a/\i=J j/\a<d.x/\j<=d.x/\probe d v a0 d.x=probe d v a (d.x-j)/\B9 w1 wr) λ_ i _=>d.x-(intOf i).toNat
 .exact⟨a0,0,oq,rfl,P,om,rfl,BE _ _⟩
 obtain⟨a,j,rfl,rfl,ha,hj,Z,hb⟩:=hrel;have hD:=U.below<|o9 g hb;rcases hD.c0,hD.c2,hD.lt,O (F.trans Z) with⟨c0,c2,aj,u⟩;by_cases ak:j<d.x
 case neg=>
  have B:Hid<|A1 d v h=none:=O<|u.trans (by rw[show d.x-j=0 by omega];rfl);have C:=O hb;go_wp2;go_ret;exact⟨ql B,o9 g C⟩
 obtain⟨f,hf⟩:∃f,d.x-j=f+1:=⟨d.x-j-1,om⟩;obtain⟨b,off,rfl,R,hcs⟩:=U.rows.index.resolve_left om;rcases (hb.cell<|A0 R g.size).trans ((g.cell R).trans<|hcs a ha),(hb.cell t).trans q0,(hb.cell t).trans q1,(hb.cell t).trans q2,(hb.cell t).trans q3,(hb.cell t).trans q4,A0 t hb.size,O hb with⟨e0,p0,p1,p2,p3,p4,ao,C⟩;rw[hf]at u;have S:=O hf;by_cases r:d.X a=0
 .have B:=O<|u.trans<|Fj r;rw[r]at e0;go_wp2;go_ret;exact⟨ql B,o9 g C⟩
 have H:(d.X a==0)=false:=by simp[r]
 rcases h4.2.1 a ha with hs|hs|hs
 .exact absurd hs r
 .have B:=O<|u.trans<|Di r λh=>om;rw[hs]at e0;go_wp2_with fail;refine qr wr ?_;refine N (h:=N (h:=N (h:=?_)));iterate 11 (go_big_quiet_step (fail))
  refine N (h:=?_);refine Hz ?_;intro w2 l;have m:=o9 C l;by_cases hw:a+1=d.x
  .have k:((a:Int)+1==d.x)=true:=ot;have I:Hid<|(a+1)%d.x=0:=O (by rw[hw];exact Nat.mod_self _);go_wp2;go_roundw
   .exact⟨0,j+1,rfl,ov,om,om,by rw[<-z F,z B,z I,show d.x-(j+1)=f by have:=z S;omega],m⟩
   exact ow
  have k:((a:Int)+1==d.x)=false:=ot;have I:Hid<|(a+1)%d.x=a+1:=O<|TC om;have l:a+1<d.x:=om;go_wp2;go_roundw
  .exact⟨a+1,j+1,ov,ov,om,om,by rw[<-z F,z B,z I,show d.x-(j+1)=f by have:=z S;omega],m⟩
  exact ow
 obtain⟨q,hq⟩:∃q:Nat,d.X a=(q:Int)+1:=⟨(d.X a-1).toNat,om⟩;have ad:q<d.n:=om;obtain⟨lb,lo,rfl,M,ae⟩:=U.rows.log.resolve_left om;obtain⟨e1,e2,e3,e4,e5,_,_,_,_,_,_⟩:=(ae q ad).keep λq=>(C.cell<|A0 M g.size).trans<|g.cell M;have aq:=A0 (A0 M g.size) C.size;have HA:Hid<|d.at (d.X a)=d.L q:=O (by unfold Dc.at;rw[hq];congr 1;omega);rw[hq]at e0 H;have ar:IntKind.i64.wrap (q:Int)=q:=oj;have HQ:=O hq;have H0:=O r;cases E:AH (d.L q).key v
 .have B:=O<|u.trans<|Di H0 (λh=>by rw[z HA,E]at h;exact absurd h.2 oo);go_wp2_with fail;refine qr wr ?_;(iterate 12 refine N (h:=?_));refine N (h:=?_);refine GS λK hK=>?_;go_simp;apply Exists.intro;refine qp (λw' k=>?_)<|hK _ ?_
  .refine(E▸Pu (d.L q).key v _).mono ?_;rintro e af ⟨rfl,hb⟩;exact⟨rfl,o9 k hb⟩
  clear hK K;refine N (h:=?_);refine Hz ?_;intro w2 l;have m:=o9 C l;by_cases hw:a+1=d.x
  .have k:((a:Int)+1==d.x)=true:=ot;have I:Hid<|(a+1)%d.x=0:=O (by rw[hw];exact Nat.mod_self _);go_wp2;go_roundw
   .exact⟨0,j+1,rfl,ov,om,om,by rw[<-z F,z B,z I,show d.x-(j+1)=f by have:=z S;omega],m⟩
   exact ow
  have k:((a:Int)+1==d.x)=false:=ot;have I:Hid<|(a+1)%d.x=a+1:=O<|TC om;have l:a+1<d.x:=om;go_wp2;go_roundw
  .exact⟨a+1,j+1,ov,ov,om,om,by rw[<-z F,z B,z I,show d.x-(j+1)=f by have:=z S;omega],m⟩
  exact ow
 have B:=O<|u.trans<|F6 (by rw[z HQ];omega) (by rw[z HA];exact E);go_wp2_with fail;refine qr wr ?_;(iterate 12 refine N (h:=?_));refine N (h:=?_);refine GS λK hK=>?_;go_simp;apply Exists.intro;refine qp (λw' k=>?_)<|hK _ ?_
 .refine(E▸Pu (d.L q).key v _).mono ?_;rintro e af ⟨rfl,hb⟩;exact⟨rfl,o9 k hb⟩
 clear hK K;refine N (h:=?_);refine Hz ?_;intro w2 l;have m:=o9 C l;go_wp2;go_ret;exact⟨ql B,o9 g m⟩
end
section
open Go.RowKit
attribute [local go_sem] AB Aw
def fX:Nat:=9221120237041090561
def cn(x:Nat):Nat:=if C1 x=true then fX else x
def Bl(v:Vl):Vl:={v with Ah:=cn v.Ah}
def EU:cn 0=0:=oo
@[simp] theorem GM (k n:Int) (s:ByteArray) (r:Int):Bl ⟨k,n,0,s,r⟩=⟨k,n,0,s,r⟩:=by unfold Bl;rw[EU]
def vA:List Nat:=[4602678819172646912,4609434218613702656,4611686018427387904,13821547256400052224,9094988921128908188,4845873199050653696,14114281232179134464,4890909195324358656,9218868437227405312,18442240474082181120,fX,0,4613937818241073152]
def mB(K:Kd)(c:Cs):Nat×Cs:=(vA.getD (Ab K 13 c).1.toNat 0,(Ab K 13 c).2)
def iB(h:9218868437227405312<x%9223372036854775808):∃s f,Ieee.double.read x=.nan s f:=by
 have e1:Ieee.double.signWeight=9223372036854775808:=oo;have e2:Ieee.double.binade=4503599627370496:=oo;have e3:Ieee.double.infRung=9218868437227405312:=oo;refine⟨x/9223372036854775808%2==1,x%9223372036854775808-9218868437227405312,?_⟩;unfold Ieee.Format.read;simp only[e1,e2,e3];rw[C3 om,C3 om,C3 om]
def eF(h:Ieee.double.read x=.nan s f):C1 x=true:=by
 have:O9 x x=none:=by
  show(Ieee.double.read x).order (Ieee.double.read x)=none;rw[h];rfl
 unfold C1;rw[this];rfl
def qS(h:9218868437227405312<x%9223372036854775808):cn x=fX:=by
 obtain⟨s,f,h⟩:=iB h;exact DD<|eF h
abbrev kW(x:Nat):Prop:=x<18446744073709551616/\x≠9223372036854775808
def lP:FloatKind.f64.format.div 0 0=none:=oo
def mX(w:Y):∃r,(binOp .quo 30 (F9 0)<|F9 0).run Tryz.prog w=.ok (F9 r) w.drew/\kW r/\cn r=fX:=by
 refine⟨(Question.nanBits .f64 0 0).cut<|w.tape w.drawn<|.nanBits .f64 0 0,?_,?_,?_⟩
 .simp[binOp,Op.floatArith,lP,Question.forced]
 .unfold kW;simp only[Question.cut];omega
 apply qS;simp only[Question.cut];generalize w.tape w.drawn (.nanBits .f64 0 0)=t;have h2:t/2%(2^52-1)<2^52-1:=Tn _ oo;generalize t/2%(2^52-1)=u at*;rcases Nat.mod_two_eq_zero_or_one t with h|h<;>rw[h]<;>omega
def div_one:floatBits .quo .f64 4607182418800017408 0=some 9218868437227405312:=oo
def dL:floatBits .quo .f64 13830554455654793216 0=some 18442240474082181120:=oo
def ZQ(f)(w:Y):
  C9 116 #[F9 f] w (R9 (V 3 0 f ⟨#[]⟩ 0) w):=by
 go_enter Tryz.func116,Tryz.ntmps116;go_wp2;exact Fs (v:=V 3 0 f ⟨#[]⟩ 0) (by simp[results,go_sem]) rfl ⟨rfl,n9⟩
def MG(s)(w:Y):
  C9 36 #[.string s] w (R9 (V 4 0 0 s 0) w):=by
 go_enter Tryz.func36,Tryz.ntmps36;go_wp2;exact Fs (v:=V 4 0 0 s 0) (by simp[results,go_sem]) rfl ⟨rfl,n9⟩
def vB{K}{c}(b Z)(w)(h:Cq K c b Z w)(hN:Z<=1099511620000):
  C9 80 #[Q9 b] w λe w'=>∃(f:Nat) (c':Cs),e=.returned (V 3 0 f ⟨#[]⟩ 0)/\kW f/\mB K c=(cn f,c')/\Cq K c' b (Z+2) w'/\Gr b w w':=by
 have j:=h.lt;have d1:∀w:World,(binOp .quo 30 (F9 4607182418800017408)<|F9 0).run Tryz.prog w=.ok (F9 9218868437227405312) w:=λw=>AaA w .quo 30 .f64 _ _ _ div_one;have d2:∀w:World,(binOp .quo 30 (F9 13830554455654793216)<|F9 0).run Tryz.prog w=.ok (F9 18442240474082181120) w:=λw=>AaA w .quo 30 .f64 _ _ _ dL;obtain⟨r,d3,s,k⟩:=mX<|w.alloc<|.cells #[J 0,J 0,F9 0,E9,J 0] 32;go_enter Tryz.func80,Tryz.ntmps80;go_wp2_with fail;refine(AF b Z 13 _ (h.below ((((BE w.heap.size w).alloc (Be _)<|.cells #[J 0,J 0,F9 0,E9,J 0] 32).alloc oq<|.cells #[F9 4602678819172646912,F9 4609434218613702656,F9 4611686018427387904,F9 13821547256400052224,F9 9094988921128908188,F9 4845873199050653696,F9 14114281232179134464,F9 4890909195324358656,F9 9218868437227405312,F9 18442240474082181120,F9 r,F9 0,F9 4613937818241073152] 30).drew) j) om om om).mono ?_;rintro e w2 ⟨x,c2,rfl,t,u,l,m,a⟩;have n0:¬w.heap.size=b:=om;have A:¬w.heap.size+1=b:=om;obtain⟨g,F,n,p⟩:∃g:Nat,w2.cell? (Y9 w x.toNat)=some (F9 g)/\kW g/\vA.getD x.toNat 0=cn g:=by
  rw[a.cell _ _ A];have B:x=0\/x=1\/x=2\/x=3\/x=4\/x=5\/x=6\/x=7\/x=8\/x=9\/x=10\/x=11\/x=12:=om;rcases B with rfl|rfl|rfl|rfl|rfl|rfl|rfl|rfl|rfl|rfl|rfl|rfl|rfl;all_goals(refine⟨_,by simp[go_sem];rfl,by first|exact s|decide,by first|exact k.symm|decide⟩)
 have rc:∀o,w2.cell? (y w o)=_:=λo=>a.cell w.heap.size o n0;have rf:∀o,w2.frozen? (y w o)=_:=λo=>a.frozen w.heap.size o n0;have hz:=a.size;simp at hz;go_wp2_with (go_at_call 116;refine m9 (ZQ g _) λw3 i=>?_;obtain⟨q,C⟩:=BF i;have D:=i.size;have d:w.heap.size<w2.heap.size:=om);have E:Gr b w w2:=(Gr.Am<|(((BE w.heap.size w).alloc (Be _) _).alloc oq _).drew).trans a.gr;have b3:=OS (i.mono<|Aaa d) w.heap.size (Be _) (J 3) (J 0) (F9 g) E9<|J 0;exact Fs (v:=V 3 0 g ⟨#[]⟩ 0) (by simp[results,Tryz.results80,go_sem,q,d,rc]) rfl ⟨g,c2,rfl,n,by simp only[mB,z (O l),p],m.below b3 j,E.EI b3 om⟩
def EO(K:Kd)(c:Cs):Vl×Cs:=
 if(Ab K 12 c).1<=3 then(⟨2,1+(Ab K 9 (Ab K 12 c).2).1,0,⟨#[]⟩,0⟩,(Ab K 9 (Ab K 12 c).2).2)
 else if(Ab K 12 c).1=4 then(⟨2,(IQ K (Ab K 12 c).2).1,0,⟨#[]⟩,0⟩,(IQ K (Ab K 12 c).2).2)
 else if(Ab K 12 c).1<=7 then(⟨4,0,0,(Hy K (Ab K 12 c).2).1,0⟩,(Hy K (Ab K 12 c).2).2)
 else if(Ab K 12 c).1=8 then(⟨3,0,(mB K (Ab K 12 c).2).1,⟨#[]⟩,0⟩,(mB K (Ab K 12 c).2).2)
 else if(Ab K 12 c).1=9 then(⟨1,(Ab K 2 (Ab K 12 c).2).1,0,⟨#[]⟩,0⟩,(Ab K 2 (Ab K 12 c).2).2)
 else if(Ab K 12 c).1=10 then(⟨5+(Ab K 3 (Ab K 12 c).2).1,0,0,⟨#[]⟩,(Ab K 9 (Ab K 3 (Ab K 12 c).2).2).1⟩,(Ab K 9 (Ab K 3 (Ab K 12 c).2).2).2)
 else if(Ab K 3 (Ab K 12 c).2).1=0 then(⟨0,0,0,⟨#[]⟩,0⟩,(Ab K 3 (Ab K 12 c).2).2)
 else(⟨8,(Ab K 15 (Ab K 3 (Ab K 12 c).2).2).1,0,⟨#[]⟩,0⟩,(Ab K 15 (Ab K 3 (Ab K 12 c).2).2).2)
theorem Gr.box{q}{w w'}(g:Gr b w w')(n:¬q=b)(h:q<w.heap.size):(∀o,w'.cell? (G q o)=w.cell? (G q o))/\∀o,w'.frozen? (G q o)=w.frozen? (G q o):=⟨λo=>g.cell q o n h,λo=>g.frozen q o n h⟩
def tU{K}{c'}{w w3 w4:Y}(a:b<w.heap.size)(hb:Below w.heap.size w3 w4)(h1:Cq K c' b M w3)(h2:M<=Z)(h3:Gr b (w.alloc<|.cells #[J 0,J 0,F9 0,E9,J 0] 32) w3)(v0 v1 v2 v3 v4:V9):Cq K c' b Z (((((w4.setCell (y w 0) v0).setCell (y w 1) v1).setCell (y w 2) v2).setCell (y w 3) v3).setCell (y w 4) v4)/\Gr b w (((((w4.setCell (y w 0) v0).setCell (y w 1) v1).setCell (y w 2) v2).setCell (y w 3) v3).setCell (y w 4) v4):=
 have c:=OS hb w.heap.size (Be _) v0 v1 v2 v3 v4
 ⟨(h1.mono h2).below c a,((Gr.Am n9).trans h3).EI c<|Be _⟩
def M0{K}{c'}{P}{w w3 w4:Y}(a:b<w.heap.size){k n}{f}{s}{r}(hb:Below w.heap.size w3 w4)(h1:Cq K c' b M w3)(h2:M<=Z)(h3:Gr b (w.alloc<|.cells #[J 0,J 0,F9 0,E9,J 0] 32) w3)(h4:s.size<=4000)(h5:kW f)(c:P=(Bl ⟨k,n,f,s,r⟩,c')):
  ∃(kind num:Int) (Ah:Nat) (s':ByteArray) (ref:Int) (c':Cs),Ending.returned (V k n f s r)=.returned (V kind num Ah s' ref)/\s'.size<=4000/\kW Ah/\P=(Bl ⟨kind,num,Ah,s',ref⟩,c')/\Cq K c' b Z (((((w4.setCell (y w 0)<|J k).setCell (y w 1)<|J n).setCell (y w 2)<|F9 f).setCell (y w 3)<|.string s).setCell (y w 4)<|J r)/\Gr b w (((((w4.setCell (y w 0)<|J k).setCell (y w 1)<|J n).setCell (y w 2)<|F9 f).setCell (y w 3)<|.string s).setCell (y w 4)<|J r):=
 ⟨k,n,f,s,r,c',rfl,h4,h5,c,tU a hb h1 h2 h3 _ _ _ _ _⟩
def fH{K}{c}(b Z)(w)(h:Cq K c b Z w)(hN:Z<=1099511610000):
  C9 38 #[Q9 b] w λe w'=>∃(kind num:Int) (Ah:Nat) (s:ByteArray) (ref:Int) (c':Cs),e=.returned (V kind num Ah s ref)/\s.size<=4000/\kW Ah/\EO K c=(Bl ⟨kind,num,Ah,s,ref⟩,c')/\Cq K c' b (Z+10) w'/\Gr b w w':=by
 have j:=h.lt;have n0:¬w.heap.size=b:=om;have F:B9 w<|w.alloc<|.cells #[J 0,J 0,F9 0,E9,J 0] 32:=n9;go_enter Tryz.func38,Tryz.ntmps38;go_wp2_with fail;refine(AF b Z 12 _ (z<|h.below F j) om om om).mono ?_;rintro e w1 ⟨x,d1,rfl,S,T,H,q,I⟩;have k:=O H;have r:=O I.gr;rcases(by omega:(x=0\/x=1\/x=2\/x=3)\/x=4\/(x=5\/x=6\/x=7)\/x=8\/x=9\/x=10\/x=11)with hx|rfl|hx|rfl|rfl|rfl|rfl
 .rcases hx with rfl|rfl|rfl|rfl;all_goals
   go_wp2_with fail
   refine(AF b (Z+2) 9 _ q om om om).mono ?_;rintro e w2 ⟨X,d2,rfl,D,E,g,i,o⟩;rcases O g,r.trans o.gr,O i with⟨d,l,a⟩;go_wp2_with fail;refine m9 (Fh (1+X) _) λw3 m=>?_;have n:=l.trans<|Gr.Am m;have p:=a.below m a.lt;obtain⟨rc,rf⟩:=n.box n0 oq;go_wp2_with fail;exact Fs (v:=V 2 (1+X) 0 ⟨#[]⟩ 0) (by simp[results,Tryz.results38,go_sem,rc]) rfl (M0 j (BE _ _) p om n oo oo<|by simp[EO,z k,z d])
 .go_wp2_with fail
  refine(YX b (Z+2) _ q om).mono ?_;rintro e w2 ⟨X,d2,rfl,g,i,o⟩;rcases O g,r.trans o.gr,O i with⟨d,l,a⟩;go_wp2_with fail;refine m9 (Fh X _) λw3 m=>?_;have n:=l.trans<|Gr.Am m;have p:=a.below m a.lt;obtain⟨rc,rf⟩:=n.box n0 oq;go_wp2_with fail;exact Fs (v:=V 2 X 0 ⟨#[]⟩ 0) (by simp[results,Tryz.results38,go_sem,rc]) rfl (M0 j (BE _ _) p om n oo oo<|by simp[EO,z k,z d])
 .rcases hx with rfl|rfl|rfl;all_goals
   go_wp2_with fail
   refine(TI b (Z+2) _ q om).mono ?_;rintro e w2 ⟨s,d2,rfl,L,g,i,u⟩;rcases O g,r.trans u,O i with⟨d,l,a⟩;go_wp2_with fail;refine m9 (MG s _) λw3 m=>?_;have n:=l.trans<|Gr.Am m;have p:=a.below m a.lt;obtain⟨rc,rf⟩:=n.box n0 oq;go_wp2_with fail;exact Fs (v:=V 4 0 0 s 0) (by simp[results,Tryz.results38,go_sem,rc]) rfl (M0 j (BE _ _) p om n L oo<|by simp[EO,z k,z d])
 .go_wp2_with fail
  refine(vB b (Z+2) _ q om).mono ?_;rintro e w2 ⟨f,d2,rfl,hf,g,i,u⟩;rcases O g,r.trans u,O i with⟨d,l,a⟩;obtain⟨rc,rf⟩:=l.box n0 oq;go_wp2_with fail;exact Fs (v:=V 3 0 f ⟨#[]⟩ 0) (by simp[results,Tryz.results38,go_sem,rc]) rfl (M0 j (BE _ _) a om l oo hf<|by simp[EO,z k,z d,Bl])
 .go_wp2_with fail
  refine(AF b (Z+2) 2 _ q om om om).mono ?_;rintro e w2 ⟨X,d2,rfl,D,E,g,i,o⟩;rcases O g,r.trans o.gr,O i with⟨d,l,a⟩;obtain⟨rc,rf⟩:=l.box n0 oq;go_wp2_with fail;exact Fs (v:=V 1 X 0 ⟨#[]⟩ 0) (by simp[results,Tryz.results38,go_sem,rc]) rfl (M0 j (BE _ _) a om l oo oo<|by simp[EO,z k,z d])
 all_goals
  go_wp2_with fail
  refine(AF b (Z+2) 3 _ q om om om).mono ?_;rintro e w2 ⟨X,d2,rfl,D,E,g,i,o⟩;rcases O g,r.trans o.gr,O i with⟨d,t,a⟩
 .go_wp2_with fail
  refine(AF b (Z+4) 9 _ a om om om).mono ?_;rintro e w3 ⟨W,d3,rfl,M,P,A,B,C⟩;rcases O A,t.trans C.gr,O B with⟨Q,l,p⟩;obtain⟨rc,rf⟩:=l.box n0 oq;go_wp2_with fail;exact Fs (v:=V (5+X) 0 0 ⟨#[]⟩ W) (by simp[results,Tryz.results38,go_sem,rc]) rfl (M0 j (BE _ _) p om l oo oo<|by simp[EO,z k,z d,z Q])
 by_cases R:X=0
 .subst R;obtain⟨rc,rf⟩:=t.box n0 oq;go_wp2_with fail;exact Fs (v:=V 0 0 0 ⟨#[]⟩ 0) (by simp[results,Tryz.results38,go_sem,rc]) rfl (M0 j (BE _ _) a om t oo oo<|by simp[EO,z k,z d])
 have c0:(X==0)=false:=by simp[R]
 go_wp2_with fail
 refine(AF b (Z+4) 15 _ a om om om).mono ?_;rintro e w3 ⟨W,d3,rfl,M,P,A,B,C⟩;have l:=t.trans C.gr;obtain⟨rc,rf⟩:=l.box n0 oq;go_wp2_with fail;exact Fs (v:=V 8 W 0 ⟨#[]⟩ 0) (by simp[results,Tryz.results38,go_sem,rc]) rfl (M0 j (BE _ _) (z<|O B) om l oo oo<|by simp[EO,z k,z d,z (O A),R])
end
end Go.Proofs.YtkpfgniijbgkoaaGreatDoor
