import Derived.Shelf.Spec.TrailingZeros
import Derived.Shelf.Strconv.Itoa4
import Derived.Lib.AppendIntMem
import Derived.Deep.DeepHandedRow
import Derived.LaidSub
import Derived.Deep.Slices
import Derived.Deep.RegionHeld3
import Derived.Test.YtgmlkfgfjjggnaaGreatDoorChecked
import Derived.WalkSpells
import Derived.WalkLawsBesides
import Derived.ProofKit
import Derived.OpenShut
import Derived.ShutString
import Derived.Deep.DeepCutAuto
import Derived.Deep.OwnRows
import Derived.Deep.AppendLies
import Derived.Lib.ItoaLen
import Derived.RangeFuncNested
import Derived.RangeFuncBound
import Derived.Shelf.RegionOpen
import Derived.OwnWalkIn
import Derived.LoopNIn
import Derived.LoopIn
set_option linter.all false
set_option maxHeartbeats 40000000
set_option maxRecDepth 100000
namespace Go.Proofs.YtgmlkfgfjjggnaaGreatDoor
variable {p:Prop}{q B b o x u f l id n m i j k c lc ic xc base o' size S h R:Nat}{P:Program}{a0 a1 a2 a3 a4 a5 a6 a7 a8 a9 a10 a11:Value}{g H E:Nat->Nat}{Q:Exit->Act->World->Prop}{α:Type}{ops:Array Oper}{rest:List Oper}{Z O':Nat->Prop}{s:Bool}{t e:TypeId}{la ia xa:Option Addr}{xs:List Value}{L:Nat->List Value}{live last:Int}{K:Act->Prop}
theorem oa(h:p:=by omega):p:=h
theorem oc(h:p:=by decide):p:=h
theorem od(h:p:=by simp):p:=h
theorem oe(h:p:=by simp;omega):p:=h
theorem og(h:p:=by kernel_rfl):p:=h
theorem oh(h:p:=by go_num):p:=h
theorem oj{q:Prop}(a:q)(h:q->p:=by intro;omega):p:=h a
theorem ol{w w':World}{x:Option Value}(k:RowKit.Below B w w')(l:b<B)(h:w.cell? ⟨b,o,none⟩=x):w'.cell? ⟨b,o,none⟩=x:=(k.cell (p:=⟨b,o,none⟩) l).trans h
theorem om{w w':World}{x:Bool}(k:RowKit.Below B w w')(l:b<B)(h:w.frozen? ⟨b,o,none⟩=x):w'.frozen? ⟨b,o,none⟩=x:=(k.frozen (p:=⟨b,o,none⟩) l).trans h
theorem oo{u v w:World}(h:RowKit.Below u.heap.size u v)(k:RowKit.Below v.heap.size v w):RowKit.Below u.heap.size u w:=h.trans (k.mono h.size)
theorem oq{P:Nat->Value->Prop}(h:∀j u,[a0,a1,a2,a3,a4,a5,a6,a7,a8,a9,a10,a11][j]?=some u->P j u):P 0 a0/\P 1 a1/\P 2 a2/\P 3 a3/\P 4 a4/\P 5 a5/\P 6 a6/\P 7 a7/\P 8 a8/\P 9 a9/\P 10 a10/\P 11 a11:=⟨h 0 _ rfl,h 1 _ rfl,h 2 _ rfl,h 3 _ rfl,h 4 _ rfl,h 5 _ rfl,h 6 _ rfl,h 7 _ rfl,h 8 _ rfl,h 9 _ rfl,h 10 _ rfl,h 11 _ rfl⟩
theorem ot{P:Nat->Value->Prop}{a12 a13:Value}(h:∀j u,[a0,a1,a2,a3,a4,a5,a6,a7,a8,a9,a10,a11,a12,a13][j]?=some u->P j u):P 0 a0/\P 1 a1/\P 2 a2/\P 3 a3/\P 4 a4/\P 5 a5/\P 6 a6/\P 7 a7/\P 8 a8/\P 9 a9/\P 10 a10/\P 11 a11/\P 12 a12/\P 13 a13:=⟨h 0 _ rfl,h 1 _ rfl,h 2 _ rfl,h 3 _ rfl,h 4 _ rfl,h 5 _ rfl,h 6 _ rfl,h 7 _ rfl,h 8 _ rfl,h 9 _ rfl,h 10 _ rfl,h 11 _ rfl,h 12 _ rfl,h 13 _ rfl⟩
theorem ou{P:Nat->Value->Prop}(h:∀j u,[a0,a1,a2,a3,a4,a5,a6,a7][j]?=some u->P j u):P 0 a0/\P 1 a1/\P 2 a2/\P 3 a3/\P 4 a4/\P 5 a5/\P 6 a6/\P 7 a7:=⟨h 0 _ rfl,h 1 _ rfl,h 2 _ rfl,h 3 _ rfl,h 4 _ rfl,h 5 _ rfl,h 6 _ rfl,h 7 _ rfl⟩
theorem ov{P:Nat->Value->Prop}(h:∀j u,[a0,a1,a2,a3,a4][j]?=some u->P j u):P 0 a0/\P 1 a1/\P 2 a2/\P 3 a3/\P 4 a4:=⟨h 0 _ rfl,h 1 _ rfl,h 2 _ rfl,h 3 _ rfl,h 4 _ rfl⟩
theorem As:type_of%@World.cell?_of_block:=@World.cell?_of_block
theorem At:type_of%@Nat.lt_of_lt_of_le:=@Nat.lt_of_lt_of_le
theorem A0:type_of%@Deep.blk_setCell_other:=@Deep.blk_setCell_other
theorem Be:type_of%@Nat.le_refl:=@Nat.le_refl
theorem BE:type_of%@Deep.blk_alloc_new:=@Deep.blk_alloc_new
theorem Cs:type_of%@RowKit.Below.refl:=@RowKit.Below.refl
theorem C3:type_of%@if_neg:=@if_neg
theorem DD:type_of%@if_pos:=@if_pos
theorem DO:type_of%@Deep.blk_alloc_lt:=@Deep.blk_alloc_lt
theorem E1:type_of%@bodyPost_ret:=@bodyPost_ret
theorem GC:type_of%@Array.getElem?_eq_some_iff:=@Array.getElem?_eq_some_iff
theorem GO:type_of%@Nat.le_trans:=@Nat.le_trans
theorem GP:type_of%@World.cell?_alloc_lt:=@World.cell?_alloc_lt
theorem GS:type_of%@wpQuiet_step:=@wpQuiet_step
theorem GW:type_of%@World.frozen?_of_block:=@World.frozen?_of_block
theorem Hi:type_of%@IntKind.wrap_i64:=@IntKind.wrap_i64
theorem H7:type_of%@wpQuiet_nil:=@wpQuiet_nil
theorem H8:type_of%@World.news_of_block:=@World.news_of_block
theorem Is:type_of%@heap_setCell_same:=@heap_setCell_same
theorem It:type_of%@List.getElem?_eq_some_iff:=@List.getElem?_eq_some_iff
theorem ID:type_of%@World.block_lt_of_cell?:=@World.block_lt_of_cell?
theorem IF:type_of%@World.ownsRow_nil:=@World.ownsRow_nil
theorem IH:type_of%@World.ownsRow.cellAt:=@World.ownsRow.cellAt
theorem I9:type_of%@grownBy_putObj':=@grownBy_putObj'
theorem Lo:type_of%@cell_kept:=@cell_kept
theorem MM:type_of%@cell_of_row:=@cell_of_row
theorem NB:type_of%@List.getElem?_eq_none:=@List.getElem?_eq_none
theorem NO:type_of%@Int.toNat_natCast:=@Int.toNat_natCast
theorem NX:type_of%@World.cell?_setCell_same':=@World.cell?_setCell_same'
theorem Of:type_of%@Nat.two_pow_pos:=@Nat.two_pow_pos
theorem Ok:type_of%@World.rowIs.lt:=@World.rowIs.lt
theorem On:type_of%@World.ownsRow.alloc:=@World.ownsRow.alloc
theorem OK:type_of%@Nat.mul_assoc:=@Nat.mul_assoc
theorem ON:type_of%@List.length_append:=@List.length_append
theorem OR:type_of%@Nat.not_lt_zero:=@Nat.not_lt_zero
theorem PC:type_of%@RowKit.Below.setCell:=@RowKit.Below.setCell
theorem P9:type_of%@info_parts:=@info_parts
theorem Re:type_of%@Nat.zero_le:=@Nat.zero_le
theorem RC:type_of%@World.rowIs.of_block:=@World.rowIs.of_block
theorem So:type_of%@Nat.mod_eq_of_lt:=@Nat.mod_eq_of_lt
theorem SO:type_of%@AllReadyH.cons:=@AllReadyH.cons
theorem Tn:type_of%@if_false:=@if_false
theorem To:type_of%@Bool.and_eq_true:=@Bool.and_eq_true
theorem TC:type_of%@World.frozen?_setCell:=@World.frozen?_setCell
theorem TO:type_of%@Nat.mod_lt:=@Nat.mod_lt
theorem UP:type_of%@KeepsOthers.setCell:=@KeepsOthers.setCell
theorem VC:type_of%@Nat.mul_le_mul_right:=@Nat.mul_le_mul_right
theorem We:type_of%@Nat.eq_of_mul_eq_mul_right:=@Nat.eq_of_mul_eq_mul_right
theorem Wx:type_of%@Nat.zero_add:=@Nat.zero_add
theorem W0:type_of%@Nat.eq_zero_or_pos:=@Nat.eq_zero_or_pos
theorem W4:type_of%@Nat.add_zero:=@Nat.add_zero
theorem W9:type_of%@List.nil_append:=@List.nil_append
theorem XN:type_of%@List.length_nil:=@List.length_nil
theorem X9:type_of%@World.ownsRow.stored:=@World.ownsRow.stored
theorem Aaa:type_of%@step_append_lies:=@step_append_lies
theorem Aab:type_of%@wpList_append_lies:=@wpList_append_lies
theorem Aac:type_of%@callsIn_wide:=@callsIn_wide
theorem Aad:type_of%@List.setIfInBounds_toArray:=@List.setIfInBounds_toArray
theorem Aae:type_of%@List.length_cons:=@List.length_cons
theorem Aaf:type_of%@List.getElem?_append_left:=@List.getElem?_append_left
theorem Aag:type_of%@Array.getElem?_eq_getElem:=@Array.getElem?_eq_getElem
theorem Aah:type_of%@Bool.false_eq_true:=@Bool.false_eq_true
theorem Aai:type_of%@List.length_singleton:=@List.length_singleton
theorem Aaj:type_of%@List.getElem?_append_right:=@List.getElem?_append_right
theorem Aak:type_of%@Nat.pow_add:=@Nat.pow_add
theorem Aal:type_of%@Array.replicate_zero:=@Array.replicate_zero
theorem Aam:type_of%@Array.replicate_succ:=@Array.replicate_succ
theorem Aan:type_of%@Nat.mul_comm:=@Nat.mul_comm
theorem Aao:type_of%@Nat.lt_of_le_of_lt:=@Nat.lt_of_le_of_lt
theorem Aap:type_of%@Option.some.inj:=@Option.some.inj
theorem Aaq:type_of%@List.map_append:=@List.map_append
theorem Aar:type_of%@List.cons_append:=@List.cons_append
theorem Aas:type_of%@List.append_toArray:=@List.append_toArray
theorem Aat:type_of%@wpList_load_row:=@wpList_load_row
theorem Aau:type_of%@List.size_toArray:=@List.size_toArray
theorem Aav:type_of%@List.push_toArray:=@List.push_toArray
theorem Aaw:type_of%@if_true:=@if_true
theorem Aax:type_of%@Nat.le_of_lt:=@Nat.le_of_lt
theorem Aay:type_of%@results_none:=@results_none
theorem Aaz:type_of%@World.rowIs_alloc:=@World.rowIs_alloc
theorem AaA:type_of%@Bool.eq_iff_iff:=@Bool.eq_iff_iff
theorem AaB:type_of%@List.getElem_cons_zero:=@List.getElem_cons_zero
theorem AaC:type_of%@List.getElem_cons_succ:=@List.getElem_cons_succ
theorem AaD:type_of%@List.not_mem_nil:=@List.not_mem_nil
theorem AaE:type_of%@wpAnyH_ready:=@wpAnyH_ready
theorem AaF:type_of%@Nat.pow_succ:=@Nat.pow_succ
theorem AaG:type_of%@List.getElem?_take:=@List.getElem?_take
theorem AaH:type_of%@AllReadyH.nil:=@AllReadyH.nil
theorem AaI:type_of%@Int.le_refl:=@Int.le_refl
theorem AaJ:type_of%@Classical.byContradiction:=@Classical.byContradiction
theorem AaK:type_of%@RowKit.Below.trans:=@RowKit.Below.trans
theorem AaL:type_of%@Nat.pow_le_pow_right:=@Nat.pow_le_pow_right
theorem AaM:type_of%@List.getElem_toArray:=@List.getElem_toArray
theorem AaN:type_of%@run_float_arith:=@run_float_arith
theorem AaO:type_of%@decide_eq_true_eq:=@decide_eq_true_eq
theorem AaP:type_of%@List.length_map:=@List.length_map
theorem AaQ:type_of%@List.ext_getElem?:=@List.ext_getElem?
theorem AaR:type_of%@Sem.run_bind:=@Sem.run_bind
theorem AaS:type_of%@World.grownBy_alloc:=@World.grownBy_alloc
theorem AaT:type_of%@ByteArray.toList_eq:=@ByteArray.toList_eq
theorem AaU:type_of%@run_takeDeferred:=@run_takeDeferred
theorem AaV:type_of%@Nat.shiftLeft_eq:=@Nat.shiftLeft_eq
theorem AaW:type_of%@List.set_cons_zero:=@List.set_cons_zero
theorem AaX:type_of%@List.set_cons_succ:=@List.set_cons_succ
theorem AaY:type_of%@Lib.itoa_length_le:=@Lib.itoa_length_le
open Go.Proofs.Tryz
section
open Go.RowKit
abbrev G(b o:Nat):Addr:=⟨b,o,none⟩
abbrev J(x:Int):Value:=.int .i64 x
abbrev Q9(b:Nat):Value:=.pointer (some ⟨b,0,none⟩)
abbrev S9(b n c:Nat):Value:=.slice (some ⟨b,0,none⟩) n c
abbrev B9(w w':World):Prop:=Below w.heap.size w w'
abbrev R9(v:Value)(w:World)(e:Ending)(w':World):Prop:=e=.returned v/\Below w.heap.size w w'
abbrev F9(x:Nat):Value:=.float .f64 x
abbrev E9:Value:=.string ⟨#[]⟩
abbrev O9(a b:Nat):Option Ordering:=FloatKind.f64.format.order a b
abbrev T9:Type:=Option Addr
abbrev N9:Value:=.slice none 0 0
abbrev y(w:World)(o:Nat):Addr:=⟨w.heap.size,o,none⟩
abbrev Y9(w:World)(o:Nat):Addr:=⟨w.heap.size+1,o,none⟩
abbrev Z9(w:World)(o:Nat):Addr:=⟨w.heap.size+1+1,o,none⟩
theorem n9{w:World}{o:Obj}:Below w.heap.size w (w.alloc o):=(Cs _ _).alloc (Be _) _
abbrev Y:Type:=World
abbrev V9:Type:=Value
abbrev C9(f:FuncId)(a:Array Value)(w:World)(Q:Ending->World->Prop):Prop:=Calls prog f a w Q
theorem m9{f:FuncId}{g:Array Value}{w:World}{v:Value}{Q:Ending->World->Prop}(h:Calls P f g w (R9 v w))(k:∀w',Below w.heap.size w w'->Q (.returned v) w'):Calls P f g w Q:=h.mono fun e w' ⟨a,b⟩=>a▸k w' b
end
open Go.RowKit
theorem hide(h:p):Hid p:=h
theorem iN(h:Hid p):p:=h
theorem Bo{W w1:Y}(hb:B9 W w1):(∀b o,b<W.heap.size->w1.cell? (G b o)=W.cell? (G b o))/\(∀b o,b<W.heap.size->w1.frozen? (G b o)=W.frozen? (G b o)):=
 ⟨fun b o h=>hb.cell (p:=(G b o)) h,fun b o h=>hb.frozen (p:=(G b o)) h⟩
theorem O(h:p):Hid p:=hide h
theorem z(h:Hid p):p:=iN h
theorem sA{α:Type _}(l:List α)(i:Nat)(a:α):l.toArray.setIfInBounds i a=(l.set i a).toArray:=Aad ..
theorem sB{α:Type _}(x:α)(l:List α)(n:Nat)(v:α):(x::l).set (n+1) v=x::l.set n v:=rfl
theorem sC{α:Type _}(x:α)(l:List α)(v:α):(x::l).set 0 v=v::l:=rfl
theorem pS:(∀(a:Act) (d:Tmp) (v:V9),Act.put a (some d) v=⟨a.tmps.setIfInBounds d v,a.defers⟩)/\(∀(a:Act) (v:V9),Act.put a none v=a)/\(∀(l:List Value) (i:Nat) (a:V9),l.toArray.setIfInBounds i a=(l.set i a).toArray)/\(∀(x:V9) (l:List Value) (n:Nat) (v:V9),(x::l).set (n+1) v=x::l.set n v)/\∀(x:V9) (l:List Value) (v:V9),(x::l).set 0 v=v::l:=⟨fun _ _ _=>rfl,fun _ _=>rfl,fun _ _ _=>Aad ..,fun _ _ _ _=>rfl,fun _ _ _=>rfl⟩
theorem N{C:World->Prop}{Q:Act->Prop}{a b:Act}{o:Oper}{v:V9}(f:Region.wanted o (yielded ops a.tmps)=true:=by rfl)(hy:∀w,C w->(execOp a.eval o).run P w=.ok (.value v) w:=by(intro w' c;first|(go_simp;done)|(go_simp;with_reducible rfl)|(obtain⟨d,e⟩:=Bo c;go_simp;with_reducible rfl)|(obtain⟨d,e⟩:=Bo c;go_simp;done)))(hb:a.put o.dst v=b:=by(simp only[pS];rfl))(h:wpQuiet P ops C Q rest b):wpQuiet P ops C Q (o::rest) a:=by
  show ite _ _ _;rw[DD f];exact⟨v,fun w g=>by unfold Oper.quietAt;rw[hy w g];exact⟨rfl,rfl⟩,hb▸h⟩
theorem qr{l:List Oper}{a:Act}{w:Y}(W:Y)(h:wpQuiet P l.toArray (fun w'=>B9 W w') (fun a'=>∀w',B9 W w'->Q .normal a' w') l a)(b:P.follows .mixedOrders=true:=by kernel_rfl)(c:Region.lexB .any l.toArray=true:=by kernel_rfl)(d:B9 W {w with drawn:=w.drawn+1}:=by exact(Cs _ _).drew):(Code.region id l.toArray true).wp P Q a w:=wp_region_quiet (C:=fun w'=>B9 W w') b c d h
theorem qk{g:Array Value}{W w':Y}{v:V9}(d:B9 W w')(h:Calls P f g w' fun e c=>e=.returned v/\B9 w' c):Calls P f g w' fun e c=>e=.returned v/\B9 W c:=h.mono fun _ _ ⟨a,b⟩=>⟨a,oo d b⟩
namespace Fl
open Ieee
def sc(s:Bool)(m:Nat)(i:Int):Int:=signed s m (i+1074).toNat
theorem CX(s:Bool)(m k:Nat):signed s m k=(if s then -1 else 1)*((m:Int)*(2:Int)^k):=by
 unfold signed;rw[AaV];cases s<;>simp<;>norm_cast
theorem EX(k:Nat):(0:Int)<(2:Int)^k:=Int.pow_pos oa
theorem Fi(s:Bool)(m k c:Nat):signed s m (k+c)=signed s m k*(2:Int)^c:=by
 rw[CX,CX,Int.pow_add];simp only[Int.mul_assoc]
theorem Oy(a b:Int)(c:Nat):compare (a*(2:Int)^c) (b*(2:Int)^c)=compare a b:=by
 have h:=EX c;simp only[compare,compareOfLessAndEq];have h1:a*(2:Int)^c<b*(2:Int)^c↔a<b:=Int.mul_lt_mul_right h;have h2:a*(2:Int)^c=b*(2:Int)^c↔a=b:=Int.mul_eq_mul_right_iff oa;simp only[h1,h2]
theorem QX(s t:Bool)(m n:Nat)(i j:Int)(hi:-1074<=i)(hj:-1074<=j):
  Datum.order (.number s m i) (.number t n j)=some (compare (sc s m i) (sc t n j)):=by
 show some (compare (signed s m (i-min i j).toNat) (signed t n (j-min i j).toNat))=_;unfold sc;obtain⟨c,hc⟩:∃c:Nat,c=(min i j+1074).toNat:=⟨_,rfl⟩;have e1:(i+1074).toNat=(i-min i j).toNat+c:=oa;have e2:(j+1074).toNat=(j-min i j).toNat+c:=oa;rw[e1,e2,Fi,Fi,Oy]
theorem B3(a b:Int):(some (compare a b)==some Ordering.eq)=decide (a=b):=by
 simp only[compare,compareOfLessAndEq];by_cases h:a<b
 ·have:¬a=b:=oa;simp[h,this]
 ·by_cases h2:a=b<;>simp[h,h2]
theorem GF(a b:Int):(some (compare a b)==some Ordering.lt)=decide (a<b):=by
 simp only[compare,compareOfLessAndEq];by_cases h:a<b
 ·simp[h]
 ·by_cases h2:a=b<;>simp[h,h2]
theorem Hr(a b:Int):(some (compare a b)==some Ordering.gt)=decide (b<a):=by
 simp only[compare,compareOfLessAndEq];by_cases h:a<b
 ·have:¬b<a:=oa;simp[h,this]
 ·by_cases h2:a=b
  ·simp[h2]
  ·have:b<a:=oa;simp[h,h2,this]
theorem Cg(x:Nat):(∃s m i,double.read x=.number s m i/\-1074<=i/\i<=971/\m<2^53/\(i=-1074\/2^52<=m))\/(∃s,double.read x=.infinity s)\/(∃s t,double.read x=.nan s t):=by
 unfold Format.read;have hb:double.binade=4503599627370496:=oc;have a:double.infRung=9218868437227405312:=oc;have hl:double.leastPlace=-1074:=oc;dsimp only;rw[hb,a,hl];generalize x%double.signWeight=r;generalize (x/double.signWeight%2==1)=s;by_cases h1:r<4503599627370496
 ·left;exact⟨s,r,-1074,by rw[DD h1],oa,oa,oa,.inl rfl⟩
 ·by_cases h2:r<9218868437227405312
  ·left;refine⟨s,_,_,by rw[C3 h1,DD h2],oa,oa,oa,.inr oa⟩
  ·by_cases h3:r=9218868437227405312
   ·right;left;exact⟨s,by rw[C3 h1,C3 h2,DD h3]⟩
   ·right;right;exact⟨s,_,by rw[C3 h1,C3 h2,C3 h3]⟩
theorem C8(m k:Nat)(h:m≠0):(m*2^k).log2=m.log2+k:=by
 induction k with
 |zero=>simp
 |succ k ih=>
  rw[AaF,<-OK,Aan _ 2,Nat.log2_two_mul (Nat.mul_ne_zero h (oj (Of k))),ih];omega
theorem F6(way:Toward)(neg:Bool)(n:Nat):way.cut neg n 0=n:=by
 unfold Toward.cut;cases way<;>simp[Nat.mod_one]
theorem Lb(neg:Bool)(kept:Nat)(last:Int)(h1:-1074<=last)(h2:last<=971)(h3:kept<2^53)(h4:last=-1074\/2^52<=kept):
  double.read (double.word neg (min ((last-double.leastPlace).toNat*double.binade+kept) double.infRung))=.number neg kept last:=by
 have hb:double.binade=4503599627370496:=oc;have c:double.infRung=9218868437227405312:=oc;have hl:double.leastPlace=-1074:=oc;have hs:double.signWeight=9223372036854775808:=oc;rw[hl,hb,c];obtain⟨p,d⟩:∃p:Nat,p=(last- -1074).toNat:=⟨_,rfl⟩;rw[<-d];have a:last=(p:Int)-1074:=oa;have b:min (p*4503599627370496+kept) 9218868437227405312=p*4503599627370496+kept:=by
  apply Nat.min_eq_left;omega
 rw[b];unfold Format.read Format.word;dsimp only;rw[hb,c,hl,hs];have e:∀r:Nat,r<9223372036854775808->(if neg=true then 9223372036854775808+r else r)%9223372036854775808=r:=by
  intro r h;cases neg<;>simp<;>omega
 have hn:∀r:Nat,r<9223372036854775808->((if neg=true then 9223372036854775808+r else r)/9223372036854775808%2==1)=neg:=by
  intro r h;cases neg
  ·have:r/9223372036854775808%2=0:=oa;simp[this]
  ·have:(9223372036854775808+r)/9223372036854775808%2=1:=oa;rw[DD rfl,this];rfl
 rw[e _ oa,hn _ oa];by_cases hz:p*4503599627370496+kept<4503599627370496
 ·rw[DD hz];have:p=0:=oa;subst this;simp[a]
 ·rw[C3 hz,DD oa]
  congr 1
  ·omega
  ·omega
theorem Gb(neg:Bool)(a:Nat)(place:Int)(m:Nat)(p:Int)(n:a≠0)(v:-1074<=place)(w:m<2^53)(x:-1074<=p)(A:p<=971)
  (g:a*2^(place+1074).toNat=m*2^(p+1074).toNat):
  ∃q l,double.read (double.nearest neg a place)=.number neg q l/\-1074<=l/\l<=971/\q*2^(l+1074).toNat=a*2^(place+1074).toNat:=by
 have hl:double.leastPlace=-1074:=oc;have hf:double.fractionBits=52:=rfl;have i:m≠0:=by
  intro e;subst e;have:=Of (place+1074).toNat;rw[Nat.zero_mul]at g;rcases Nat.mul_eq_zero.1 g with h|h<;>omega
 have t:a.log2+(place+1074).toNat=m.log2+(p+1074).toNat:=by
  rw[<-C8 a _ n,<-C8 m _ i,g]
 have u:m.log2<=52:=by
  have:=(Nat.log2_lt i).2 w;omega
 unfold Format.nearest;rw[C3 n];dsimp only;rw[hf];obtain⟨last,b⟩:∃last:Int,last=max (place+↑a.log2-((52:Nat):Int)) double.leastPlace:=⟨_,rfl⟩;rw[<-b];rw[hl]at b;have l1:-1074<=last:=oa;have l2:last<=971:=oa;obtain⟨kept,hk,k⟩:∃kept,Toward.even.cut neg (a <<< (place-last).toNat) (last-place).toNat=kept/\kept*2^(last+1074).toNat=a*2^(place+1074).toNat:=by
  by_cases hc:last<=place
  ·refine⟨_,rfl,?_⟩;have e0:(last-place).toNat=0:=oa;rw[e0,F6,AaV,OK,<-Aak]
   congr 2;omega
  ·have e0:(place-last).toNat=0:=oa;rw[e0,Nat.shiftLeft_zero];obtain⟨d,B⟩:∃d,d=(last-place).toNat:=⟨_,rfl⟩;rw[<-B];have o:d<=a.log2+2:=oa;have j:∃q,a=q*2^d:=by
    obtain⟨c,C⟩:∃c,c=(p-place).toNat:=⟨_,rfl⟩;have e1:(p+1074).toNat=c+(place+1074).toNat:=oa;rw[e1,Aak,<-OK]at g;have e2:=We (Of _) g;refine⟨m*2^(c-d),?_⟩;rw[e2,OK,<-Aak]
    congr 2;omega
   obtain⟨q,hq⟩:=j;refine⟨q,?_,?_⟩
   ·unfold Toward.cut;dsimp only;rw[Nat.min_eq_left o,Nat.one_shiftLeft];have r:=Of d;have m1:a/2^d=q:=by rw[hq];exact Nat.mul_div_cancel _ r
    have m2:a%2^d=0:=by rw[hq];exact Nat.mul_mod_left _ _
    have m3:(2^d==0)=false:=od;rw[m1,m2];simp
   ·rw[hq,OK,<-Aak]
    congr 2;omega
 rw[hk];have f:kept≠0:=by
  intro e;subst e;have:=Of (place+1074).toNat;rw[Nat.zero_mul]at k;rcases Nat.mul_eq_zero.1 k.symm with h|h<;>omega
 have s:kept.log2+(last+1074).toNat=a.log2+(place+1074).toNat:=by
  rw[<-C8 a _ n,<-C8 kept _ f,k]
 have k1:kept<2^53:=by
  apply(Nat.log2_lt f).1;omega
 have k2:last=-1074\/2^52<=kept:=by
  by_cases h:last=-1074
  ·exact .inl h
  ·right;exact(Nat.le_log2 f).1 oa
 exact⟨kept,last,Lb neg kept last l1 l2 k1 k2,l1,l2,k⟩
theorem J9(neg:Bool)(place:Int):double.read (double.nearest neg 0 place)=.number neg 0 (-1074):=by
 cases neg<;>(unfold Format.nearest;rw[DD rfl];decide)
theorem PQ(s:Bool)(q:Nat)(l:Int)(a:Nat)(place:Int)(h:q*2^(l+1074).toNat=a*2^(place+1074).toNat):sc s q l=sc s a place:=by
 unfold sc signed;rw[AaV,AaV,h]
theorem DT(s:Bool)(i:Int):sc s 0 i=0:=by
 unfold sc signed;rw[AaV,Nat.zero_mul];cases s<;>rfl
def U:Int:=(2:Int)^1074
theorem JN:0<U:=EX _
def sg(s:Bool)(n:Nat):Int:=if s then -(n:Int)else n
theorem Gv(s:Bool)(n:Nat):sc s n 0=sg s n*U:=by
 unfold sc sg U;rw[CX];have:((0:Int)+1074).toNat=1074:=oc;rw[this];generalize (2:Int)^1074=u;cases s
 ·simp
 ·simp[Int.neg_mul]
def Fits(n:Nat):Prop:=∃q c:Nat,n=q*2^c/\q<2^53/\c<=971
theorem GH(h:n<2^53):Fits n:=⟨n,0,od,h,oa⟩
theorem DP(neg:Bool)(n:Nat)(h:Fits n):∃q l,double.read (double.nearest neg n 0)=.number neg q l/\-1074<=l/\sc neg q l=sg neg n*U:=by
 by_cases a:n=0
 ·subst a;exact⟨0,-1074,J9 _ _,oa,by rw[DT];cases neg<;>simp[sg]⟩
 ·obtain⟨q,c,rfl,hq,hc⟩:=h;obtain⟨b,l,d,h1,_,e⟩:=Gb neg (q*2^c) 0 q c a oa hq oa oa (by
   rw[OK,<-Aak];congr 2)
  exact⟨b,l,d,h1,by rw[PQ neg b l _ 0 e,Gv]⟩
def whole(m:Nat)(i:Int):Nat:=if 0<=i then m*2^i.toNat else m/2^(-i).toNat
theorem Pg(s:Bool)(m:Nat)(i:Int):Toward.zero.cut s (m <<< i.toNat) (-i).toNat=whole m i:=by
 unfold whole;by_cases h:0<=i
 ·have e:(-i).toNat=0:=oa;rw[DD h,e,F6,AaV]
 ·have e:i.toNat=0:=oa;rw[C3 h,e,Nat.shiftLeft_zero];unfold Toward.cut;dsimp only;generalize (-i).toNat=d;rw[Nat.one_shiftLeft];by_cases b:d<=m.log2+2
  ·rw[Nat.min_eq_left b];simp
  ·rw[Nat.min_eq_right oa];have h1:m<2^(m.log2+2):=by
    by_cases a:m=0
    ·subst a;simp
    ·exact(Nat.log2_lt a).1 oa
   have h2:m<2^d:=At h1 (AaL oa oa);rw[Nat.div_eq_of_lt h1,Nat.div_eq_of_lt h2];simp
theorem Rb(s:Bool)(m:Nat)(i:Int):(Datum.number s m i).toInt .zero=some (sg s (whole m i)):=by
 show some (signed s (Toward.zero.cut s (m <<< i.toNat) (-i).toNat) 0)=_;rw[Pg];unfold signed sg;cases s<;>simp
theorem LY(s:Bool)(m:Nat)(i:Int):(Datum.number s m i).integral .zero=.number s (whole m i) 0:=by
 show Datum.number s (Toward.zero.cut s (m <<< i.toNat) (-i).toNat) 0=_;rw[Pg]
theorem M5(m:Nat)(i:Int)(a:m<2^53)(hi:i<=971):Fits (whole m i):=by
 unfold whole;by_cases h:0<=i
 ·rw[DD h];exact⟨m,i.toNat,rfl,a,oa⟩
 ·rw[C3 h];exact GH (Aao (Nat.div_le_self _ _) a)
theorem Er(m:Nat)(i:Int)(hi:-1074<=i):(whole m i:Int)*U<=sc false m i/\sc false m i<((whole m i:Int)+1)*U:=by
 unfold sc U whole;rw[CX];by_cases h:0<=i
 ·rw[DD h];have e:(i+1074).toNat=i.toNat+1074:=oa;rw[e,Int.pow_add];have c:=EX 1074;generalize (2:Int)^1074=u at c;have e2:((m*2^i.toNat:Nat):Int)=(m:Int)*2^i.toNat:=by norm_cast
  rw[e2];simp only[Aah,Tn,Int.one_mul,<-Int.mul_assoc,Int.add_mul];generalize (m:Int)*2^i.toNat*u=Z;omega
 ·rw[C3 h];obtain⟨d,f⟩:∃d,d=(-i).toNat:=⟨_,rfl⟩;rw[<-f];obtain⟨a,b⟩:∃a:Nat,a=1074:=⟨_,rfl⟩;rw[<-b];have e:a=(i+(a:Int)).toNat+d:=oa;have e':((1074:Int))=(a:Int):=oa;rw[e'];generalize (i+(a:Int)).toNat=k at e;rw[e,Int.pow_add];have h1:=Nat.div_add_mod m (2^d);have h2:=TO m (Of d);generalize m/2^d=q at h1;have hk:=EX k;simp only[Aah,Tn,Int.one_mul];have e1:(q:Int)*((2:Int)^k*2^d)=((2^d*q:Nat):Int)*2^k:=by
   push_cast;rw[Int.mul_comm ((2:Int)^k),<-Int.mul_assoc,Int.mul_comm (q:Int)]
  have e2:((q:Int)+1)*((2:Int)^k*2^d)=((2^d*q+2^d:Nat):Int)*2^k:=by
   rw[Int.add_mul,e1];push_cast;rw[Int.add_mul,Int.one_mul,Int.mul_comm ((2:Int)^k)]
  rw[e1,e2];exact⟨Int.mul_le_mul_of_nonneg_right oa oa,Int.mul_lt_mul_of_pos_right oa hk⟩
theorem D6(m:Nat)(i:Int):sc true m i=-sc false m i:=by
 unfold sc signed;simp
theorem LQ(m:Nat)(i:Int)(c:m<2^53)(a:(whole m i:Int)*U≠sc false m i):whole m i<2^52:=by
 by_cases h:0<=i
 ·exfalso;apply a;unfold sc U whole;rw[CX,DD h];have e:(i+1074).toNat=i.toNat+1074:=oa;rw[e,Int.pow_add];generalize (2:Int)^1074=u
  push_cast
  simp[Int.mul_assoc]
 ·unfold whole;rw[C3 h];obtain⟨d,b⟩:∃d,(-i).toNat=d+1:=⟨(-i).toNat-1,oa⟩;rw[b,AaF,Aan,<-Nat.div_div_eq_div_mul];refine Aao (Nat.div_le_self _ _) oa
theorem Xh(s:Bool)(k:Nat):(sg s k).natAbs=k:=by cases s<;>simp[sg]
theorem SY(n:Int):sg (decide (n<0)) n.natAbs=n:=by
 by_cases h:n<0<;>simp[sg,h]<;>omega
theorem Bi{Z:Nat}{t:Bool}{i j:Int}(hx:double.read x=.number s m i)(hy:double.read Z=.number t n j)(hi:-1074<=i)(hj:-1074<=j):
  double.order x Z=some (compare (sc s m i) (sc t n j)):=by
 unfold Format.order;rw[hx,hy,QX s t m n i j hi hj]
theorem FJ:double.read 4890909195324358656=.number false 4503599627370496 11:=oc
theorem FK:double.read 14114281232179134464=.number true 4503599627370496 11:=oc
theorem SP:double.read 4607182418800017408=.number false 4503599627370496 (-52):=oc
theorem BT:double.read 0=.number false 0 (-1074):=oc
theorem Ld:sc false 4503599627370496 11=9223372036854775808*U:=by
 unfold sc U;rw[CX];have:((11:Int)+1074).toNat=11+1074:=oc;rw[this,Int.pow_add];generalize (2:Int)^1074=u;simp;omega
theorem NU:sc true 4503599627370496 11=-(9223372036854775808*U):=by rw[D6,Ld]
theorem gY:sc false 4503599627370496 (-52)=U:=by
 unfold sc U;rw[CX];have h:((-52:Int)+1074).toNat=1022:=oc;have h2:(1074:Nat)=52+1022:=oc;rw[h,h2,Int.pow_add];generalize (2:Int)^1022=u;simp
theorem Kt{i:Int}(hx:double.read x=.number s m i)(hi:-1074<=i)(h1:-(9223372036854775808*U)<=sc s m i)(h2:sc s m i<9223372036854775808*U):
  floatToIntVal .f64 x .i64=some (sg s (whole m i)):=by
 have b:(FloatKind.f64.decode x).toInt .zero=some (sg s (whole m i)):=by
  show(double.read x).toInt .zero=_;rw[hx,Rb]
 have hb:=Er m i hi;have hu:=JN;have key:IntKind.i64.min<=sg s (whole m i)/\sg s (whole m i)<=IntKind.i64.max:=by
  have e1:IntKind.i64.min=-9223372036854775808:=oc;have e2:IntKind.i64.max=9223372036854775807:=oc;rw[e1,e2];generalize whole m i=k at*;cases s
  ·have a:(k:Int)*U<9223372036854775808*U:=oa;have:=Int.lt_of_mul_lt_mul_right a oa;simp only[sg,Aah,Tn];omega
  ·rw[D6]at h1;have a:(k:Int)*U<=9223372036854775808*U:=oa;have:=Int.le_of_mul_le_mul_right a hu;simp only[sg,Aaw];omega
 unfold floatToIntVal;rw[b];simp only;rw[DD key]
theorem WV{i:Int}(hx:double.read x=.number s m i)(hi:-1074<=i)(a:i<=971)(b:m<2^53):
  (double.order x (double.nearest s (whole m i) 0)==some .eq)=decide (sc s m i=sg s (whole m i)*U):=by
 obtain⟨q,l,c,hl,d⟩:=DP s (whole m i) (M5 m i b a);rw[Bi hx c hi hl,B3,d]
theorem WU{i:Int}(hx:double.read x=.number s m i)(hi:-1074<=i)(a:i<=971)(d:m<2^53):
  double.order x (double.nearest (decide (sg s (whole m i)<0)) (sg s (whole m i)).natAbs 0)=some (compare (sc s m i) (sg s (whole m i)*U))/\
  double.order (double.nearest (decide (sg s (whole m i)<0)) (sg s (whole m i)).natAbs 0) x=some (compare (sg s (whole m i)*U) (sc s m i)):=by
 obtain⟨q,l,c,hl,b⟩:=DP (decide (sg s (whole m i)<0)) (sg s (whole m i)).natAbs (by rw[Xh];exact M5 m i d a);rw[SY]at b;exact⟨by rw[Bi hx c hi hl,b],by rw[Bi c hx hl hi,b]⟩
theorem sub_one(n:Int)(h:-(2^52)<n)(h2:n<2^52):∃r q l b,double.sub (double.nearest (decide (n<0)) n.natAbs 0) 4607182418800017408=some r/\double.read r=.number b q l/\-1074<=l/\sc b q l=(n-1)*U:=by
 obtain⟨q,l,p,hl,j⟩:=DP (decide (n<0)) n.natAbs (GH oa);rw[SY]at j;unfold Format.sub;rw[p,SP];simp only[Datum.opposite,Datum.sum,Option.map_some];obtain⟨base,d⟩:∃base:Int,base=min l (-52):=⟨_,rfl⟩;rw[<-d];obtain⟨a,c⟩:∃a:Int,a=signed (decide (n<0)) q (l-base).toNat+signed (!false) 4503599627370496 (-52-base).toNat:=⟨_,rfl⟩;rw[<-c];have hs:a*(2:Int)^(base+1074).toNat=(n-1)*U:=by
  have e1:signed (decide (n<0)) q (l-base).toNat*(2:Int)^(base+1074).toNat=sc (decide (n<0)) q l:=by
   unfold sc;rw[<-Fi];congr 1;omega
  have e2:signed (!false) 4503599627370496 (-52-base).toNat*(2:Int)^(base+1074).toNat=-U:=by
   rw[<-gY,<-D6];unfold sc;rw[<-Fi];congr 1;omega
  rw[c,Int.add_mul,e1,e2,j,Int.sub_mul];omega
 by_cases k:a=0
 ·rw[k,Int.zero_mul]at hs;refine⟨_,0,-1074,(if a=0 then decide (n<0)&&!false else decide (a<0)),rfl,?_,oa,?_⟩
  ·show double.read (double.nearest _ a.natAbs base)=_;rw[show a.natAbs=0 from by omega];exact J9 _ _
  ·rw[DT,hs]
 ·have s:n-1≠0:=by
   intro e;rw[e,Int.zero_mul]at hs;have:=EX (base+1074).toNat;rcases Int.mul_eq_zero.1 hs with h|h<;>omega
  have RY:a.natAbs*2^(base+1074).toNat=(n-1).natAbs*2^((0:Int)+1074).toNat:=by
   have e:(a*(2:Int)^(base+1074).toNat).natAbs=((n-1)*U).natAbs:=by rw[hs]
   rw[Int.natAbs_mul,Int.natAbs_mul]at e;have e0:((0:Int)+1074).toNat=1074:=oc;rw[e0];unfold U at e;have e3:(2:Int).natAbs=2:=rfl;rw[Int.natAbs_pow,Int.natAbs_pow,e3]at e;exact e
  obtain⟨m,o,g,i,_,hv'⟩:=Gb (decide (a<0)) a.natAbs base (n-1).natAbs 0 oa oa oa oa oa RY;refine⟨_,m,o,decide (a<0),rfl,?_,i,?_⟩
  ·show double.read (double.nearest (if a=0 then decide (n<0)&&!false else decide (a<0)) a.natAbs base)=_;rw[C3 k];exact g
  ·rw[PQ _ m o _ base hv'];unfold sc;rw[<-hs];rw[CX];rw[<-Int.mul_assoc]
   congr 1
   by_cases f:a<0<;>simp[f]<;>omega
theorem Yn{i:Int}(hx:double.read x=.number s m i)(hi:-1074<=i)(c:m<2^53)
  (a:sc s m i<sg s (whole m i)*U):
  ∃r,floatBits .sub .f64 (double.nearest (decide (sg s (whole m i)<0)) (sg s (whole m i)).natAbs 0) 4607182418800017408=some r/\(double.order x r==some .eq)=false:=by
 have hb:=Er m i hi;have hu:=JN;have hs:s=true:=by
  cases s
  ·exfalso;simp only[sg,Aah,Tn]at a;omega
  ·rfl
 subst hs;have d:=LQ m i c (by
  intro e;rw[D6]at a;simp only[sg,Aaw]at a;rw[Int.neg_mul]at a;omega)
 obtain⟨r,q,l,b,h1,h2,h3,h4⟩:=sub_one (sg true (whole m i)) (by simp only[sg,Aaw];omega) (by simp only[sg,Aaw];omega);refine⟨r,h1,?_⟩;rw[Bi hx h2 hi h3,B3,h4,D6];simp only[sg,Aaw];have e:(-(whole m i:Int)-1)*U=-(((whole m i:Int)+1)*U):=by rw[<-Int.neg_mul];congr 1;omega
 rw[e];simp;omega
end Fl
theorem Am{w:Y}{a:Addr}{m:Mode}(k:FloatKind)(n:Nat):(store a (.float k n) m).run P w=stored P w a (.float k n) m:=run_store P w a _ m rfl
theorem Aj{w:Y}(d:Nat)(t:TypeId)(k k':FloatKind)(a b:Nat)(h:P.underlying t=some (.float k')):(Op.equalIn (d+1) t (.float k a) (.float k b)).run P w=.ok (k.format.order a b==some .eq) w:=by
 simp[Op.equalIn,run_underlying h,Op.floatEq]
attribute [local go_sem] Am Aj
abbrev V(kind num:Int)(Ag:Nat)(s:ByteArray)(ref:Int):Value:=.agg #[J kind,J num,F9 Ag,.string s,J ref]
abbrev KV(code kind num:Int)(Ag:Nat)(s:ByteArray)(ref:Int):Value:=.agg #[J code,J kind,J num,F9 Ag,.string s,J ref]
def fz(f:Nat):Bool:=O9 f 0==some .eq
def DW(f:Nat):Bool:=O9 f f !=some .eq
def Bh(kind num:Int)(Ag:Nat)(s:ByteArray)(ref:Int):Bool:=
 if kind=0 then num==0&&fz Ag&&s.toList.isEmpty&&ref==0
 else if kind=1 then(fz Ag&&s.toList.isEmpty&&ref==0)&&(num==0||num==1)
 else if kind=2 then(fz Ag&&s.toList.isEmpty&&ref==0)
 else if kind=3 then(num==0&&s.toList.isEmpty&&ref==0)
 else if kind=4 then(num==0&&fz Ag&&ref==0)&&decide ((s.size:Int)<=4000)
 else if kind=5 then(num==0&&fz Ag&&s.toList.isEmpty)&&decide (0<=ref)
 else if kind=6 then(num==0&&fz Ag&&s.toList.isEmpty)&&decide (0<=ref)
 else if kind=7 then(num==0&&fz Ag&&s.toList.isEmpty)&&decide (0<=ref)
 else if kind=8 then(fz Ag&&s.toList.isEmpty&&ref==0)&&decide (0<=num)&&decide (num<15)
 else false
structure Vl where
 kind:Int
 num:Int
 Ag:Nat
 str:ByteArray
 ref:Int
abbrev ow(v:Vl):Array Value:=#[J v.kind,J v.num,F9 v.Ag,.string v.str,J v.ref]
instance:Inhabited Vl:=⟨⟨0,0,0,⟨#[]⟩,0⟩⟩
def Vl.ok(x:Vl):Bool:=Bh x.kind x.num x.Ag x.str x.ref
theorem CK(kind num:Int)(Ag:Nat)(s:ByteArray)(ref:Int)(w:Y):
  C9 85 #[V kind num Ag s ref] w (R9 (.bool (Bh kind num Ag s ref)) w):=by
 go_enter func85,ntmps85
 go_wp2;all_goals
  go_ret;refine⟨by simp_all [Bh,fz]<;>intros<;>omega,?_⟩;repeat refine Below.alloc ?_ od _
  exact Cs _ _
theorem C2(kind num:Int)(Ag:Nat)(s:ByteArray)(ref:Int)(w:Y):
  C9 150 #[V kind num Ag s ref] w (R9 (.bool (Bh kind num Ag s ref)) w):=by
 go_enter func150,ntmps150
 go_wp2;all_goals
  go_ret;refine⟨by simp_all [Bh,fz]<;>intros<;>omega,?_⟩;repeat refine Below.alloc ?_ od _
  exact Cs _ _
section
attribute [local go_sem] Am Aj
theorem aQ(x:Nat)(s:Bool)(m:Nat)(i:Int)(h1:FloatKind.f64.decode x=.number s m i):
  Extern.MathFloor.toIntegral "math.archTrunc" .zero #[F9 x]=pure (F9 (FloatKind.f64.encode ((Ieee.Datum.number s m i).integral .zero))):=by
 show Extern.MathFloor.toIntegral.match_1 (fun _=>Sem Value) (FloatKind.f64.decode x) (fun s t=>_) (fun d=>_)=_;rw[h1]
theorem X3(x:Nat)(w:Y)(s:Bool)(m:Nat)(i:Int)(hx:Ieee.double.read x=.number s m i):
  (callFunc 281 #[F9 x]).run prog w=.ok (.value (F9 (Ieee.double.nearest s (Fl.whole m i) 0))) w:=by
 rw[run_callFunc_extern (e:=Extern.MathFloor.toIntegral "math.archTrunc" .zero) func281 og og og og];rw[aQ x s m i hx,Fl.LY];rfl
theorem Xw(x:Nat)(w:Y)(s:Bool)(m:Nat)(i:Int)(hx:Ieee.double.read x=.number s m i):
  C9 264 #[F9 x] w fun e w'=>e=.returned (F9 (Ieee.double.nearest s (Fl.whole m i) 0))/\w'=w:=by
 have a:=fun w=>X3 x w s m i hx;clear hx
 go_enter func264,ntmps264
 go_wp2;go_ret;exact⟨rfl,rfl⟩
theorem TQ(h1:(Ieee.double.order x 14114281232179134464==some .gt||Ieee.double.order x 14114281232179134464==some .eq)=true)(h2:(Ieee.double.order x 4890909195324358656==some .lt)=true):
  ∃s m i,Ieee.double.read x=.number s m i/\-1074<=i/\i<=971/\m<2^53/\-(9223372036854775808*Fl.U)<=Fl.sc s m i/\Fl.sc s m i<9223372036854775808*Fl.U:=by
 rcases Fl.Cg x with⟨s,m,i,a,hi,b,c,_⟩|⟨s,a⟩|⟨s,t,a⟩
 ·refine⟨s,m,i,a,hi,b,c,?_,?_⟩
  ·rw[Fl.Bi a Fl.FK hi oa,Fl.NU,Fl.Hr,Fl.B3]at h1;simp at h1;omega
  ·rw[Fl.Bi a Fl.FJ hi oa,Fl.Ld,Fl.GF]at h2;simpa using h2
 ·exfalso;unfold Ieee.Format.order at h1 h2;rw[a,Fl.FK]at h1;rw[a,Fl.FJ]at h2;cases s<;>simp[Ieee.Datum.order]at h1 h2
 ·exfalso;unfold Ieee.Format.order at h1 h2;rw[a]at h1;simp[Ieee.Datum.order]at h1
def TU(x:Nat):Bool:=O9 x 14114281232179134464==some .gt||O9 x 14114281232179134464==some .eq
def Uj(x:Nat):Bool:=O9 x 4890909195324358656==some .lt
def QJ(x:Nat):Bool:=match Ieee.double.read x with
 |.number s m i=>decide (Fl.sc s m i=Fl.sg s (Fl.whole m i)*Fl.U)
 |_=>false
def LU(x:Nat):Int:=match Ieee.double.read x with
 |.number s m i=>Fl.sg s (Fl.whole m i)
 |_=>0
def Ci(x:Nat):Bool:=TU x&&Uj x&&QJ x
theorem LD(x:Nat)(w:Y):
  C9 237 #[F9 x] w fun e w'=>e=.returned (.bool (Ci x))/\w'=w:=by
 by_cases h1:TU x=true
 ·by_cases h2:Uj x=true
  ·obtain⟨s,m,i,d,hi,b,g,_,_⟩:=TQ h1 h2;have a:Ci x=decide (Fl.sc s m i=Fl.sg s (Fl.whole m i)*Fl.U):=by
    unfold Ci QJ;rw[h1,h2,d];simp
   have f:=Fl.WV d hi b g;rw[<-a]at f;have c:(O9 x (Ieee.double.nearest s (Fl.whole m i) 0)==some .eq)=Ci x:=f;have H:Hid ((O9 x (Ieee.double.nearest s (Fl.whole m i) 0)==some .eq)=Ci x):=c;have h:Hid (Ieee.double.read x=.number s m i):=d;have g1:(O9 x 14114281232179134464==some .gt||O9 x 14114281232179134464==some .eq)=true:=h1;have g2:(O9 x 4890909195324358656==some .lt)=true:=h2;clear a f c d h1 h2 hi b g
   go_enter func237,ntmps237
   go_wp2_with (go_at_call 264;refine(Xw x _ s m i h.out).mono ?_;rintro e w' ⟨rfl,rfl⟩)
   all_goals
    go_ret;exact⟨by rw[<-H.out];simp,rfl⟩
  ·have g1:(O9 x 14114281232179134464==some .gt||O9 x 14114281232179134464==some .eq)=true:=h1;have g2:(O9 x 4890909195324358656==some .lt)=false:=(by simpa using h2:Uj x=false);have a:Ci x=false:=by unfold Ci;simp at h2;rw[h1,h2];simp
   rw[a];clear h1 h2 a
   go_enter func237,ntmps237
   go_wp2;all_goals
    go_ret;exact⟨rfl,rfl⟩
 ·have g1:(O9 x 14114281232179134464==some .gt||O9 x 14114281232179134464==some .eq)=false:=(by simpa using h1:TU x=false);have a:Ci x=false:=by unfold Ci;simp at h1;rw[h1];simp
  rw[a];clear h1 a
  go_enter func237,ntmps237
  go_wp2;all_goals
   go_ret;exact⟨rfl,rfl⟩
def JS(x:Nat):Bool:=DW x||fz x||(O9 x 4890909195324358656==some .gt||O9 x 4890909195324358656==some .eq)||(O9 x 14114281232179134464==some .lt||O9 x 14114281232179134464==some .eq)
theorem M7(x:Nat)(w:Y)(h:JS x=true):
  C9 163 #[F9 x] w fun e w'=>e=.returned (F9 x)/\w'=w:=by
 by_cases h1:DW x=true
 ·have g1:(O9 x x !=some .eq)=true:=h1;clear h h1
  go_enter func163,ntmps163
  go_wp2;go_ret;exact⟨rfl,rfl⟩
 have g1:(O9 x x !=some .eq)=false:=(by simpa using h1:DW x=false);by_cases h2:fz x=true
 ·have g2:(O9 x 0==some .eq)=true:=h2;clear h h1 h2
  go_enter func163,ntmps163
  go_wp2;go_ret;exact⟨rfl,rfl⟩
 have g2:(O9 x 0==some .eq)=false:=(by simpa using h2:fz x=false);by_cases h3:(O9 x 4890909195324358656==some .gt||O9 x 4890909195324358656==some .eq)=true
 ·clear h h1 h2
  go_enter func163,ntmps163
  go_wp2;go_ret;exact⟨rfl,rfl⟩
 have g3:(O9 x 4890909195324358656==some .gt||O9 x 4890909195324358656==some .eq)=false:=Bool.eq_false_iff.2 h3;have g4:(O9 x 14114281232179134464==some .lt||O9 x 14114281232179134464==some .eq)=true:=by
  unfold JS at h;rw[g3]at h;have a1:DW x=false:=Bool.eq_false_iff.2 h1;have a2:fz x=false:=Bool.eq_false_iff.2 h2;rw[a1,a2]at h;simpa using h
 clear h h1 h2 h3
 go_enter func163,ntmps163
 go_wp2;go_ret;exact⟨rfl,rfl⟩
theorem SD(h:JS x=false):DW x=false/\fz x=false/\(O9 x 4890909195324358656==some .gt||O9 x 4890909195324358656==some .eq)=false/\(O9 x 14114281232179134464==some .lt||O9 x 14114281232179134464==some .eq)=false:=by
 unfold JS at h;simp only[Bool.or_eq_false_iff]at h;exact⟨h.1.1.1,h.1.1.2,by simp[h.1.2],by simp[h.2]⟩
theorem gM(h:JS x=false):∃s m i,Ieee.double.read x=.number s m i/\-1074<=i/\i<=971/\m<2^53/\-(9223372036854775808*Fl.U)<=Fl.sc s m i/\Fl.sc s m i<9223372036854775808*Fl.U:=by
 obtain⟨h1,h2,h3,h4⟩:=SD h;have d:(Ieee.double.order x x !=some .eq)=false:=h1;have a:(Ieee.double.order x 4890909195324358656==some .gt||Ieee.double.order x 4890909195324358656==some .eq)=false:=h3;have b:(Ieee.double.order x 14114281232179134464==some .lt||Ieee.double.order x 14114281232179134464==some .eq)=false:=h4;rcases Fl.Cg x with⟨s,m,i,c,hi,e,f,_⟩|⟨s,c⟩|⟨s,t,c⟩
 ·refine⟨s,m,i,c,hi,e,f,?_,?_⟩
  ·rw[Fl.Bi c Fl.FK hi oa,Fl.NU,Fl.GF,Fl.B3]at b;simp at b;omega
  ·rw[Fl.Bi c Fl.FJ hi oa,Fl.Ld,Fl.Hr,Fl.B3]at a;simp at a;omega
 ·exfalso;unfold Ieee.Format.order at a b;rw[c,Fl.FJ]at a;rw[c,Fl.FK]at b;cases s<;>simp[Ieee.Datum.order]at a b
 ·exfalso;unfold Ieee.Format.order at d;rw[c]at d;simp[Ieee.Datum.order]at d
theorem M6(x:Nat)(h:JS x=false):
  ∃r,(O9 x r==some .eq)=QJ x/\∀w:World,C9 163 #[F9 x] w fun e w'=>e=.returned (F9 r)/\w'=w:=by
 obtain⟨s,m,i,g,hi,c,k,d,f⟩:=gM h;obtain⟨h1,h2,h3,h4⟩:=SD h;have g1:(O9 x x !=some .eq)=false:=h1;have g2:(O9 x 0==some .eq)=false:=h2;have l:QJ x=decide (Fl.sc s m i=Fl.sg s (Fl.whole m i)*Fl.U):=by unfold QJ;rw[g]
 have hint:=Fl.Kt g hi d f;obtain⟨o1,o2⟩:=Fl.WU g hi c k;have o:∀w:World,(convert 29 2 (F9 x)).run prog w=.ok (J (Fl.sg s (Fl.whole m i))) w:=fun w=>run_convert_float_int w 29 2 .f64 .i64 x _ og underlying2 hint;by_cases a:Fl.sc s m i<Fl.sg s (Fl.whole m i)*Fl.U
 focus
  obtain⟨r,b,j⟩:=Fl.Yn g hi k a;have p:∀w:World,(binOp .sub 29 (F9 (floatOfInt .f64 (Fl.sg s (Fl.whole m i)))) (F9 4607182418800017408)).run prog w=.ok (F9 r) w:=fun w=>AaN w .sub 29 .f64 _ _ r b;have t:QJ x=false:=by rw[l];simp;omega
  have g5:(O9 (floatOfInt .f64 (Fl.sg s (Fl.whole m i))) x==some .gt)=true:=by
   show(Ieee.double.order (Ieee.double.nearest (decide (Fl.sg s (Fl.whole m i)<0)) (Fl.sg s (Fl.whole m i)).natAbs 0) x==some .gt)=true;rw[o2,Fl.Hr];simpa using a
  have q:Hid ((O9 x r==some .eq)=QJ x):=by rw[t];exact j
  refine⟨r,q.out,fun w=>?_⟩;clear g h1 h2 l hint o1 o2 a b j t h d f hi c k
 rotate_left
 focus
  have g5:(O9 (floatOfInt .f64 (Fl.sg s (Fl.whole m i))) x==some .gt)=false:=by
   show(Ieee.double.order (Ieee.double.nearest (decide (Fl.sg s (Fl.whole m i)<0)) (Fl.sg s (Fl.whole m i)).natAbs 0) x==some .gt)=false;rw[o2,Fl.Hr];simpa using a
  have q:Hid ((O9 x (floatOfInt .f64 (Fl.sg s (Fl.whole m i)))==some .eq)=QJ x):=by
   show(Ieee.double.order x (Ieee.double.nearest (decide (Fl.sg s (Fl.whole m i)<0)) (Fl.sg s (Fl.whole m i)).natAbs 0)==some .eq)=QJ x;rw[o1,Fl.B3,l]
  refine⟨_,q.out,fun w=>?_⟩;clear g h1 h2 l hint o1 o2 a h d f hi c k
 rotate_left;all_goals
  generalize Fl.sg s (Fl.whole m i)=n at*
  go_enter func163,ntmps163
  go_wp2;go_ret;exact⟨rfl,rfl⟩
theorem Jn(h:JS x=true)(hn:DW x=false)(h1:TU x=true)(h2:Uj x=true):QJ x=true:=by
 obtain⟨s,m,i,a,hi,c,g,d,e⟩:=TQ h1 h2;have f:QJ x=decide (Fl.sc s m i=Fl.sg s (Fl.whole m i)*Fl.U):=by unfold QJ;rw[a]
 rw[f];have hb:=Fl.Er m i hi;have hu:=Fl.JN;unfold JS at h;rw[hn]at h;have e1:fz x=decide (Fl.sc s m i=0):=by
  show(Ieee.double.order x 0==some .eq)=_;rw[Fl.Bi a Fl.BT hi oa,Fl.B3,Fl.DT]
 have e2:(O9 x 4890909195324358656==some .gt||O9 x 4890909195324358656==some .eq)=false:=by
  show(Ieee.double.order x 4890909195324358656==some .gt||Ieee.double.order x 4890909195324358656==some .eq)=false;rw[Fl.Bi a Fl.FJ hi oa,Fl.Ld,Fl.Hr,Fl.B3];simp;omega
 have e3:(O9 x 14114281232179134464==some .lt||O9 x 14114281232179134464==some .eq)=decide (Fl.sc s m i=-(9223372036854775808*Fl.U)):=by
  show(Ieee.double.order x 14114281232179134464==some .lt||Ieee.double.order x 14114281232179134464==some .eq)=_;rw[Fl.Bi a Fl.FK hi oa,Fl.NU,Fl.GF,Fl.B3];have:¬Fl.sc s m i< -(9223372036854775808*Fl.U):=oa;simp[this]
 rw[e1,e2,e3]at h;simp at h;have hk:(Fl.whole m i:Int)=0\/(s=true/\(Fl.whole m i:Int)=9223372036854775808):=by
  rcases h with h|h
  ·left;have b:Fl.sc false m i=0:=by
    cases s
    ·exact h
    ·rw[Fl.D6]at h;omega
   rw[b]at hb;have:=Int.le_of_mul_le_mul_right (show(Fl.whole m i:Int)*Fl.U<=0*Fl.U from by omega) hu;omega
  ·right;have hs:s=true:=by
    cases s
    ·exfalso;have b:0<=(Fl.whole m i:Int)*Fl.U:=Int.mul_nonneg oa oa;omega
    ·rfl
   subst hs;rw[Fl.D6]at h;have b:Fl.sc false m i=9223372036854775808*Fl.U:=oa;rw[b]at hb;have h3:=Int.lt_of_mul_lt_mul_right hb.2 oa;have h4:=Int.le_of_mul_le_mul_right hb.1 hu;exact⟨rfl,oa⟩
 rcases h with h|h
 ·have:(Fl.whole m i:Int)=0:=by
   rcases hk with k|⟨k1,k2⟩
   ·exact k
   ·exfalso;subst k1;rw[Fl.D6]at h;rw[k2]at hb;omega
  have e0:Fl.whole m i=0:=oa;rw[h,e0];cases s<;>simp[Fl.sg]
 ·rcases hk with k|⟨k1,k2⟩
  ·exfalso;rw[k]at hb;have:Fl.sc false m i<Fl.U:=by simpa using hb.2
   cases s
   ·omega
   ·rw[Fl.D6]at h;omega
  ·subst k1;have e0:Fl.whole m i=9223372036854775808:=oa;rw[h,e0];simp[Fl.sg,Int.neg_mul]
theorem B2{a w:Y}(h:Below B a w)(b:Nat)(hb:B<=b)(v0 v1 v2 v3 v4 v5:V9):
  Below B a ((((((w.setCell (G b 0) v0).setCell (G b 1) v1).setCell (G b 2) v2).setCell (G b 3) v3).setCell (G b 4) v4).setCell (G b 5) v5):=
 (((((h.setCell (p:=(G b 0)) hb v0).setCell (p:=(G b 1)) hb v1).setCell (p:=(G b 2)) hb v2).setCell (p:=(G b 3)) hb v3).setCell (p:=(G b 4)) hb v4).setCell (p:=(G b 5)) hb v5
theorem AW{a w:Y}(h:Below B a w)(n:Nat):Below B a (w.drewN n):=⟨h.os,h.tape,h.output,h.size,h.block⟩
theorem CZ{w w1:Y}{o1 o2:Obj}(a:B<=w.heap.size)(hb:Below ((w.alloc o1).alloc o2).heap.size ((w.alloc o1).alloc o2) w1):Below B w w1:=
 (((Cs B w).alloc a o1).alloc oe o2).trans (hb.mono oe)
def J3(kind num:Int)(Ag:Nat)(s:ByteArray)(ref:Int):Value:=
 if Bh kind num Ag s ref=true then
  if kind=0 then KV 1 0 0 0 ⟨#[]⟩ 0
  else if kind=3 then
   if DW Ag=true then KV 1 0 0 0 ⟨#[]⟩ 0
   else if Ci Ag=true then KV 0 2 (LU Ag) 0 ⟨#[]⟩ 0
   else KV 0 kind num Ag s ref
  else KV 0 kind num Ag s ref
 else KV 2 0 0 0 ⟨#[]⟩ 0
theorem kP(kind num:Int)(Ag:Nat)(s:ByteArray)(ref:Int)(w:Y)(a:Bh kind num Ag s ref=false):
  C9 101 #[V kind num Ag s ref] w (R9 (KV 2 0 0 0 ⟨#[]⟩ 0) w):=by
 go_enter func101,ntmps101
 go_wp2_with (go_at_call 85;refine m9 (CK kind num Ag s ref _) fun w1 hb=>?_;rw[a];obtain⟨hc,hf⟩:=Bo hb;have hz:=hb.size;simp at hz)
 exact E1 (v:=KV 2 0 0 0 ⟨#[]⟩ 0) (by simp[results,results101,go_sem,hc]) rfl ⟨rfl,B2 (CZ (Be _) hb) _ oa _ _ _ _ _ _⟩
theorem kQ(num:Int)(Ag:Nat)(s:ByteArray)(ref:Int)(w:Y)(a:Bh 0 num Ag s ref=true):
  C9 101 #[V 0 num Ag s ref] w (R9 (KV 1 0 0 0 ⟨#[]⟩ 0) w):=by
 go_enter func101,ntmps101
 go_wp2_with (go_at_call 85;refine m9 (CK 0 num Ag s ref _) fun w1 hb=>?_;rw[a];obtain⟨hc,hf⟩:=Bo hb;have hz:=hb.size;simp at hz)
 exact E1 (v:=KV 1 0 0 0 ⟨#[]⟩ 0) (by simp[results,results101,go_sem,hc]) rfl ⟨rfl,B2 (CZ (Be _) hb) _ oa _ _ _ _ _ _⟩
theorem kR(num:Int)(Ag:Nat)(s:ByteArray)(ref:Int)(w:Y)(a:Bh 3 num Ag s ref=true)(hn:DW Ag=true):
  C9 101 #[V 3 num Ag s ref] w (R9 (KV 1 0 0 0 ⟨#[]⟩ 0) w):=by
 have g1:(O9 Ag Ag !=some .eq)=true:=hn;clear hn
 go_enter func101,ntmps101
 go_wp2_with (first|(go_at_call 85;refine m9 (CK 3 num Ag s ref _) fun w1 hb=>?_;rw[a];obtain⟨hc,hf⟩:=Bo hb;have hz:=hb.size;simp at hz)|(go_at_call 162;go_in))
 exact E1 (v:=KV 1 0 0 0 ⟨#[]⟩ 0) (by simp[results,results101,go_sem,hc]) rfl ⟨rfl,B2 (CZ (Be _) hb) _ oa _ _ _ _ _ _⟩
theorem kU(kind num:Int)(Ag:Nat)(s:ByteArray)(ref:Int)(w:Y)(a:Bh kind num Ag s ref=true)(b:(kind==0)=false)(h3:(kind==3)=false):
  C9 101 #[V kind num Ag s ref] w (R9 (KV 0 kind num Ag s ref) w):=by
 go_enter func101,ntmps101
 go_wp2_with (go_at_call 85;refine m9 (CK kind num Ag s ref _) fun w1 hb=>?_;rw[a];obtain⟨hc,hf⟩:=Bo hb;have hz:=hb.size;simp at hz)
 go_quiet (fail)
 go_wp2;exact E1 (v:=KV 0 kind num Ag s ref) (by simp[results,results101,go_sem,hc]) rfl ⟨rfl,B2 (AW (CZ (Be _) hb) _) _ oa _ _ _ _ _ _⟩
theorem kT(num:Int)(Ag:Nat)(s:ByteArray)(ref:Int)(w:Y)(c:Bh 3 num Ag s ref=true)(hn:DW Ag=false)(r:Nat)
  (a:∀w:World,C9 163 #[F9 Ag] w fun e w'=>e=.returned (F9 r)/\w'=w)
  (b:((O9 Ag r==some .eq)&&TU Ag&&Uj Ag)=false):
  C9 101 #[V 3 num Ag s ref] w (R9 (KV 0 3 num Ag s ref) w):=by
 have g1:(O9 Ag Ag !=some .eq)=false:=hn;have f:=O b;have d:=O a;clear hn b a;by_cases t1:(O9 Ag r==some .eq)=true
 ·by_cases t2:TU Ag=true
  focus
   have t3:Uj Ag=false:=by have:=z f;rw[t1,t2]at this;simpa using this
   have g2:(O9 Ag 14114281232179134464==some .gt||O9 Ag 14114281232179134464==some .eq)=true:=t2;have g3:(O9 Ag 4890909195324358656==some .lt)=false:=t3;clear t2 t3
  rotate_left
  focus
   have g2:(O9 Ag 14114281232179134464==some .gt||O9 Ag 14114281232179134464==some .eq)=false:=(by simpa using t2:TU Ag=false);clear t2
  rotate_left;all_goals
   go_enter func101,ntmps101
   go_wp2_with (first|(go_at_call 85;refine m9 (CK 3 num Ag s ref _) fun w1 hb=>?_;rw[c];obtain⟨hc,hf⟩:=Bo hb;have hz:=hb.size;simp at hz)|(go_at_call 162;go_in))
   go_quiet ((go_at_call 163;exact Calls.quiet_of_same (d _)))
   go_wp2;exact E1 (v:=KV 0 3 num Ag s ref) (by simp[results,results101,go_sem,hc]) rfl ⟨rfl,B2 (AW (CZ (Be _) hb) _) _ oa _ _ _ _ _ _⟩
 ·have g:(O9 Ag r==some .eq)=false:=by simpa using t1
  clear t1
  go_enter func101,ntmps101
  go_wp2_with (first|(go_at_call 85;refine m9 (CK 3 num Ag s ref _) fun w1 hb=>?_;rw[c];obtain⟨hc,hf⟩:=Bo hb;have hz:=hb.size;simp at hz)|(go_at_call 162;go_in))
  go_quiet ((go_at_call 163;exact Calls.quiet_of_same (d _)))
  go_wp2;exact E1 (v:=KV 0 3 num Ag s ref) (by simp[results,results101,go_sem,hc]) rfl ⟨rfl,B2 (AW (CZ (Be _) hb) _) _ oa _ _ _ _ _ _⟩
theorem Pw(n:Int)(w:Y):
  C9 133 #[J n] w (R9 (V 2 n 0 ⟨#[]⟩ 0) w):=by
 go_enter func133,ntmps133
 go_wp2;exact E1 (v:=V 2 n 0 ⟨#[]⟩ 0) (by simp[results,go_sem]) rfl ⟨rfl,n9⟩
theorem Po(h1:TU x=true)(h2:Uj x=true)(w:Y):
  (convert 29 2 (F9 x)).run prog w=.ok (J (LU x)) w:=by
 obtain⟨s,m,i,c,hi,d,f,a,b⟩:=TQ h1 h2;have e:LU x=Fl.sg s (Fl.whole m i):=by unfold LU;rw[c]
 rw[e];exact run_convert_float_int w 29 2 .f64 .i64 x _ og underlying2 (Fl.Kt c hi a b)
theorem kS(num:Int)(Ag:Nat)(s:ByteArray)(ref:Int)(w:Y)(h:Bh 3 num Ag s ref=true)(hn:DW Ag=false)(r:Nat)
  (c:∀w:World,C9 163 #[F9 Ag] w fun e w'=>e=.returned (F9 r)/\w'=w)
  (t1:(O9 Ag r==some .eq)=true) (t2:TU Ag=true) (t3:Uj Ag=true):
  C9 101 #[V 3 num Ag s ref] w (R9 (KV 0 2 (LU Ag) 0 ⟨#[]⟩ 0) w):=by
 have g1:(O9 Ag Ag !=some .eq)=false:=hn;have i:=O c;have g2:(O9 Ag 14114281232179134464==some .gt||O9 Ag 14114281232179134464==some .eq)=true:=t2;have g3:(O9 Ag 4890909195324358656==some .lt)=true:=t3;have j:=Po t2 t3;clear t2 t3 hn c;generalize LU Ag=n at*
 go_enter func101,ntmps101
 go_wp2_with (first|(go_at_call 85;refine m9 (CK 3 num Ag s ref _) fun w1 hb=>?_;rw[h];obtain⟨hc,hf⟩:=Bo hb;have hz:=hb.size;simp at hz)|(go_at_call 162;go_in))
 go_quiet ((go_at_call 163;exact Calls.quiet_of_same (i _)))
 obtain⟨w2,a,d⟩:∃w2,Below _ _ w2/\w1.drewN nq=w2:=⟨_,AW hb nq,rfl⟩;rw[d];clear d hb hc hf hz;obtain⟨hc,hf⟩:=Bo a;have hz:=a.size;simp at hz;have f:w.heap.size+1<w2.heap.size:=oa;have k:w.heap.size<w2.heap.size:=oa;go_wp2_with (go_at_call 133;refine m9 (Pw n _) fun w3 b=>?_;obtain⟨g,l⟩:=Bo b;have m:=b.size)
 exact E1 (v:=KV 0 2 n 0 ⟨#[]⟩ 0) (by simp[results,results101,go_sem,hc,g,f]) rfl ⟨rfl,B2 ((CZ (Be _) a).trans (b.mono oa)) _ oa _ _ _ _ _ _⟩
theorem N2(kind num:Int)(Ag:Nat)(s:ByteArray)(ref:Int)(w:Y):
  C9 101 #[V kind num Ag s ref] w (R9 (J3 kind num Ag s ref) w):=by
 unfold J3;by_cases b:Bh kind num Ag s ref=true
 ·rw[DD b];by_cases h:kind=0
  ·subst h;rw[DD rfl];exact kQ num Ag s ref w b
  ·rw[C3 h];by_cases h3:kind=3
   ·subst h3;rw[DD rfl];by_cases hn:DW Ag=true
    ·rw[DD hn];exact kR num Ag s ref w b hn
    ·rw[C3 hn];have a:DW Ag=false:=by simpa using hn
     obtain⟨r,c,d⟩:∃r,((O9 Ag r==some .eq)&&TU Ag&&Uj Ag)=Ci Ag/\∀w:World,C9 163 #[F9 Ag] w fun e w'=>e=.returned (F9 r)/\w'=w:=by
      by_cases i:JS Ag=true
      ·refine⟨Ag,?_,fun w=>M7 Ag w i⟩;have e:(O9 Ag Ag==some .eq)=true:=by
        have:(O9 Ag Ag !=some .eq)=false:=a;simpa using this
       rw[e];unfold Ci;by_cases g:TU Ag=true
       ·by_cases l:Uj Ag=true
        ·rw[Jn i a g l];simp
        ·have:Uj Ag=false:=by simpa using l
         rw[this];simp
       ·have:TU Ag=false:=by simpa using g
        rw[this];simp
      ·have j:JS Ag=false:=by simpa using i
       obtain⟨r,h1,h2⟩:=M6 Ag j;refine⟨r,?_,h2⟩;rw[h1];unfold Ci;cases QJ Ag<;>cases TU Ag<;>cases Uj Ag<;>rfl
     by_cases f:Ci Ag=true
     ·rw[DD f];rw[f]at c;simp only[To]at c;exact kS num Ag s ref w b a r d c.1.1 c.1.2 c.2
     ·rw[C3 f];have k:Ci Ag=false:=by simpa using f
      rw[k]at c;exact kT num Ag s ref w b a r d c
   ·rw[C3 h3];exact kU kind num Ag s ref w b (by simp[h]) (by simp[h3])
 ·rw[C3 b];exact kP kind num Ag s ref w (by simpa using b)
theorem GJ(n:Int)(w:Y):
  C9 238 #[J n] w (R9 (V 2 n 0 ⟨#[]⟩ 0) w):=by
 go_enter func238,ntmps238
 go_wp2;exact E1 (v:=V 2 n 0 ⟨#[]⟩ 0) (by simp[results,go_sem]) rfl ⟨rfl,n9⟩
theorem jL(kind num:Int)(Ag:Nat)(s:ByteArray)(ref:Int)(w:Y)(a:Bh kind num Ag s ref=false):
  C9 204 #[V kind num Ag s ref] w (R9 (KV 2 0 0 0 ⟨#[]⟩ 0) w):=by
 go_enter func204,ntmps204
 go_wp2_with (go_at_call 150;refine m9 (C2 kind num Ag s ref _) fun w1 hb=>?_;rw[a];obtain⟨hc,hf⟩:=Bo hb;have hz:=hb.size;simp at hz)
 exact E1 (v:=KV 2 0 0 0 ⟨#[]⟩ 0) (by simp[results,results204,go_sem,hc]) rfl ⟨rfl,B2 (CZ (Be _) hb) _ oa _ _ _ _ _ _⟩
theorem jM(num:Int)(Ag:Nat)(s:ByteArray)(ref:Int)(w:Y)(a:Bh 0 num Ag s ref=true):
  C9 204 #[V 0 num Ag s ref] w (R9 (KV 1 0 0 0 ⟨#[]⟩ 0) w):=by
 go_enter func204,ntmps204
 go_wp2_with (go_at_call 150;refine m9 (C2 0 num Ag s ref _) fun w1 hb=>?_;rw[a];obtain⟨hc,hf⟩:=Bo hb;have hz:=hb.size;simp at hz)
 exact E1 (v:=KV 1 0 0 0 ⟨#[]⟩ 0) (by simp[results,results204,go_sem,hc]) rfl ⟨rfl,B2 (CZ (Be _) hb) _ oa _ _ _ _ _ _⟩
theorem jN(num:Int)(Ag:Nat)(s:ByteArray)(ref:Int)(w:Y)(a:Bh 3 num Ag s ref=true)(hn:DW Ag=true):
  C9 204 #[V 3 num Ag s ref] w (R9 (KV 1 0 0 0 ⟨#[]⟩ 0) w):=by
 have g1:(O9 Ag Ag !=some .eq)=true:=hn;clear hn
 go_enter func204,ntmps204
 go_wp2_with (first|(go_at_call 150;refine m9 (C2 3 num Ag s ref _) fun w1 hb=>?_;rw[a];obtain⟨hc,hf⟩:=Bo hb;have hz:=hb.size;simp at hz)|(go_at_call 236;go_in))
 exact E1 (v:=KV 1 0 0 0 ⟨#[]⟩ 0) (by simp[results,results204,go_sem,hc]) rfl ⟨rfl,B2 (CZ (Be _) hb) _ oa _ _ _ _ _ _⟩
theorem jQ(kind num:Int)(Ag:Nat)(s:ByteArray)(ref:Int)(w:Y)(a:Bh kind num Ag s ref=true)(b:(kind==0)=false)(h3:(kind==3)=false):
  C9 204 #[V kind num Ag s ref] w (R9 (KV 0 kind num Ag s ref) w):=by
 go_enter func204,ntmps204
 go_wp2_with (go_at_call 150;refine m9 (C2 kind num Ag s ref _) fun w1 hb=>?_;rw[a];obtain⟨hc,hf⟩:=Bo hb;have hz:=hb.size;simp at hz)
 exact E1 (v:=KV 0 kind num Ag s ref) (by simp[results,results204,go_sem,hc]) rfl ⟨rfl,B2 (CZ (Be _) hb) _ oa _ _ _ _ _ _⟩
theorem jP(num:Int)(Ag:Nat)(s:ByteArray)(ref:Int)(w:Y)(b:Bh 3 num Ag s ref=true)(hn:DW Ag=false)(a:Ci Ag=false):
  C9 204 #[V 3 num Ag s ref] w (R9 (KV 0 3 num Ag s ref) w):=by
 have g1:(O9 Ag Ag !=some .eq)=false:=hn;clear hn
 go_enter func204,ntmps204
 go_wp2_with (first|(go_at_call 150;refine m9 (C2 3 num Ag s ref _) fun w1 hb=>?_;rw[b];obtain⟨hc,hf⟩:=Bo hb;have hz:=hb.size;simp at hz)|(go_at_call 236;go_in)|(go_at_call 237;refine(LD Ag _).mono ?_;rintro e w2 ⟨rfl,rfl⟩;rw[a]))
 exact E1 (v:=KV 0 3 num Ag s ref) (by simp[results,results204,go_sem,hc]) rfl ⟨rfl,B2 (CZ (Be _) hb) _ oa _ _ _ _ _ _⟩
theorem jO(num:Int)(Ag:Nat)(s:ByteArray)(ref:Int)(w:Y)(f:Bh 3 num Ag s ref=true)(hn:DW Ag=false)(b:Ci Ag=true):
  C9 204 #[V 3 num Ag s ref] w (R9 (KV 0 2 (LU Ag) 0 ⟨#[]⟩ 0) w):=by
 have g1:(O9 Ag Ag !=some .eq)=false:=hn;have g:∀w:World,(convert 29 2 (F9 Ag)).run prog w=.ok (J (LU Ag)) w:=by
  unfold Ci at b;simp only[To]at b;exact Po b.1.1 b.1.2
 clear hn;generalize LU Ag=n at*
 go_enter func204,ntmps204
 go_wp2_with (first|(go_at_call 150;refine m9 (C2 3 num Ag s ref _) fun w1 hb=>?_;rw[f];obtain⟨hc,hf⟩:=Bo hb;have hz:=hb.size;simp at hz;have c:w.heap.size+1<w1.heap.size:=oa;have h:w.heap.size<w1.heap.size:=oa)|(go_at_call 236;go_in)|(go_at_call 237;refine(LD Ag _).mono ?_;rintro e w2 ⟨rfl,rfl⟩;rw[b])|(go_at_call 238;refine m9 (GJ n _) fun w3 a=>?_;obtain⟨d,i⟩:=Bo a;have j:=a.size))
 exact E1 (v:=KV 0 2 n 0 ⟨#[]⟩ 0) (by simp[results,results204,go_sem,hc,d,c]) rfl ⟨rfl,B2 ((CZ (Be _) hb).trans (a.mono oa)) _ oa _ _ _ _ _ _⟩
theorem Hx(kind num:Int)(Ag:Nat)(s:ByteArray)(ref:Int)(w:Y):
  C9 204 #[V kind num Ag s ref] w (R9 (J3 kind num Ag s ref) w):=by
 unfold J3;by_cases a:Bh kind num Ag s ref=true
 ·rw[DD a];by_cases d:kind=0
  ·subst d;rw[DD rfl];exact jM num Ag s ref w a
  ·rw[C3 d];by_cases h3:kind=3
   ·subst h3;rw[DD rfl];by_cases hn:DW Ag=true
    ·rw[DD hn];exact jN num Ag s ref w a hn
    ·rw[C3 hn];have b:DW Ag=false:=by simpa using hn
     by_cases c:Ci Ag=true
     ·rw[DD c];exact jO num Ag s ref w a b c
     ·rw[C3 c];exact jP num Ag s ref w a b (by simpa using c)
   ·rw[C3 h3];exact jQ kind num Ag s ref w a (by simp[d]) (by simp[h3])
 ·rw[C3 a];exact jL kind num Ag s ref w (by simpa using a)
end
section
open Go.ChangeShapes Go.WideShapes Go.ChangeAt Go.RowKit
section
variable {H:Type} {enc:TypeId×Value->H} {P:Program} {w:Y} {base:Nat} {spare:Nat->Bool} {held:Bool}
theorem UM{fuel:Nat}{cs:List Value}{x:DataW H×List MemPlace}{k:FloatKind}(a:P.underlying t=some (.float k))(h:DataW.trod enc P w base spare held fuel t cs=some x):
  ∃b,cs=[.float k b]/\x=(.lit (.float k b),[])/\(Lit.float k b).wf=true:=by
 cases fuel with
 |zero=>simp[DataW.trod]at h
 |succ n=>
  unfold DataW.trod at h;rw[a]at h
  split at h<;>simp_all
structure Fs (P:Program) (t ti tn a ts:TypeId):Prop where
 st:∃f0 f1 f2 f3 f4:Field,P.underlying t=some (.struct #[f0,f1,f2,f3,f4])/\f0.type=ti/\f1.type=tn/\f2.type=a/\f3.type=ts/\f4.type=ti/\f0.offset=0/\f1.offset=1/\f2.offset=2/\f3.offset=3/\f4.offset=4
 ci:P.cellsOf ti=1
 cn:P.cellsOf tn=1
 cf:P.cellsOf a=1
 cs:P.cellsOf ts=1
 ct:P.cellsOf t=5
 ui:P.underlying ti=some (.int .i64)
 un:P.underlying tn=some (.int .i64)
 uf:P.underlying a=some (.float .f64)
 us:P.underlying ts=some .string
theorem NP{ti tn d ts:TypeId}(F:Fs P t ti tn d ts){fuel:Nat}{cs:List Value}{x:DataW H×List MemPlace}(h:DataW.trod enc P w base spare held fuel t cs=some x):
  ∃kind num Ag s ref,cs=[.int .i64 kind,.int .i64 num,.float .f64 Ag,.string s,.int .i64 ref]/\(Lit.int .i64 kind).wf=true/\(Lit.int .i64 num).wf=true/\(Lit.float .f64 Ag).wf=true/\s.size<=maxLen/\(Lit.int .i64 ref).wf=true/\x.2=[]:=by
 obtain⟨f0,f1,f2,f3,f4,hu,t0,t1,t2,t3,t4,o0,o1,o2,e,f⟩:=F.st;obtain⟨xs,n,_,rfl,hl,a,hf⟩:=DataW.trod_struct hu h;rw[F.ct]at hl
 match cs,hl with
 |[c0,c1,c2,c3,c4],_=>
  match xs,a with
  |[j,k,l,m,o],_=>
   have b:=hf 0 f0 rfl;have h1:=hf 1 f1 rfl;have h2:=hf 2 f2 rfl;have h3:=hf 3 f3 rfl;have h4:=hf 4 f4 rfl;simp only[t0,t1,t2,t3,t4,o0,o1,o2,e,f,F.ci,F.cn,F.cf,F.cs,List.drop_zero,List.drop_succ_cons,List.take_succ_cons,List.take_zero,List.getElem?_cons_zero,List.getElem?_cons_succ]at b h1 h2 h3 h4;obtain⟨a0,e0,r0,w0⟩:=DataW.trod_int F.ui b;obtain⟨a1,e1,r1,w1⟩:=DataW.trod_int F.un h1;obtain⟨a2,e2,r2,w2⟩:=UM F.uf h2;obtain⟨a3,e3,g,w3⟩:=DataW.trod_string F.us h3;obtain⟨a4,c,i,w4⟩:=DataW.trod_int F.ui h4;simp only[List.cons.injEq,and_true]at e0 e1 e2 e3 c;subst e0 e1 e2 e3 c;exact⟨a0,a1,a2,a3,a4,rfl,w0,w1,w2,w3,w4,by simp[r0,r1,r2,g,i]⟩
end
end
section
open Go.ChangeShapes Go.WideShapes Go.ChangeAt Go.RowKit
attribute [local go_sem] Am Aj
theorem UI(kind num:Int)(Ag:Nat)(s:ByteArray)(ref:Int)(left:Int)(w:Y)(hs:s.size<=maxLen)(a:0<=left)(h1:left<=1048576):
  C9 48 #[V kind num Ag s ref,J left] w (R9 (J (if left<s.size then -1 else left-s.size)) w):=by
 unfold maxLen at hs;by_cases h:left<s.size
 focus
  rw[DD h]
 rotate_left
 focus
  rw[C3 h]
 rotate_left;all_goals
  go_enter func48,ntmps48
  go_wp2;go_ret;exact⟨od,n9⟩
theorem LP(kind num:Int)(Ag:Nat)(s:ByteArray)(ref:Int)(w:Y):
  C9 54 #[V kind num Ag s ref] w (R9 (V kind num Ag s ref) w):=by
 go_enter func54,ntmps54
 go_wp2;exact E1 (v:=V kind num Ag s ref) (by simp[results,results54,go_sem]) rfl ⟨rfl,((n9).alloc od _).alloc oe _⟩
end
section
attribute [local go_sem] Am Aj
structure Ac where
 op:Int
 t:Int
 site:Int
 n:Int
 k:Vl
 v:Vl
abbrev ox(a:Ac):Array Value:=#[J a.op,J a.t,J a.site,J a.n,J a.k.kind,J a.k.num,F9 a.k.Ag,.string a.k.str,J a.k.ref,J a.v.kind,J a.v.num,F9 a.v.Ag,.string a.v.str,J a.v.ref]
abbrev Lm(a:Ac):Value:=.agg (ox a)
def I5(v:Vl):Bool:=(v.kind==0)&&v.ok
def DK(a:Ac)(t s n k v:Bool):Bool:=(t||a.t==0)&&(s||a.site==0)&&(n||a.n==0)&&(k||I5 a.k)&&(v||I5 a.v)
def I6(a:Ac):Bool:=!decide (a.t<0)&&!decide (100<=a.t)&&!decide (a.site<0)&&!decide (50<=a.site)&&!decide (a.n<0)&&!decide (1000000000000<a.n)&&a.k.ok&&a.v.ok
def CB(a:Ac):Bool:=
 I6 a&&(if a.op=1 then DK a false false false false false
  else if a.op=2 then DK a true false false true true
  else if a.op=3 then DK a true false false true false
  else if a.op=4 then DK a true false true false false
  else if a.op=5 then DK a true false false false false
  else if a.op=6 then DK a true false false false false
  else if a.op=7 then DK a false false false true false&&a.k.kind==4
  else if a.op=8 then DK a true true false false false
  else if a.op=9 then DK a true true false false true
  else false)
theorem Y2(v:Vl)(w:Y):
  C9 152 #[V v.kind v.num v.Ag v.str v.ref] w (R9 (.bool (I5 v)) w):=by
 by_cases h:v.kind=0
 ·have hk:(v.kind==0)=true:=by simp[h]
  have a:Hid (I5 v=v.ok):=O (by unfold I5;rw[hk];rfl);clear h
  go_enter func152,ntmps152
  go_wp2_with (go_at_call 85;refine m9 (CK v.kind v.num v.Ag v.str v.ref _) fun w1 hb=>?_)
  go_ret;exact⟨by rw[z a];rfl,(n9).trans (hb.mono od)⟩
 ·have hk:(v.kind==0)=false:=by simp[h]
  have a:Hid (I5 v=false):=O (by unfold I5;rw[hk];rfl);clear h
  go_enter func152,ntmps152
  go_wp2;go_ret;exact⟨by rw[z a];rfl,n9⟩
theorem TE(a:Ac)(w:Y):∃W,W=w.alloc (.cells (ox a) 51)/\B9 w W/\∀w',B9 W w'->w.heap.size<w'.heap.size/\w'.cell? (y w 0)=some (J a.op)/\w'.cell? (y w 1)=some (J a.t)/\w'.cell? (y w 2)=some (J a.site)/\w'.cell? (y w 3)=some (J a.n)/\w'.cell? (y w 4)=some (J a.k.kind)/\w'.cell? (y w 5)=some (J a.k.num)/\w'.cell? (y w 6)=some (F9 a.k.Ag)/\w'.cell? (y w 7)=some (.string a.k.str)/\w'.cell? (y w 8)=some (J a.k.ref)/\w'.cell? (y w 9)=some (J a.v.kind)/\w'.cell? (y w 10)=some (J a.v.num)/\w'.cell? (y w 11)=some (F9 a.v.Ag)/\w'.cell? (y w 12)=some (.string a.v.str)/\w'.cell? (y w 13)=some (J a.v.ref):=by
 refine⟨_,rfl,n9,fun w' hb=>?_⟩;have hl:w.heap.size<(w.alloc (.cells (ox a) 51)).heap.size:=od;have b:∀j u,(w.alloc (.cells (ox a) 51)).cell? (y w j)=some u->w'.cell? (y w j)=some u:=fun j u h=>ol hb hl h;refine⟨At hl hb.size,?_,?_,?_,?_,?_,?_,?_,?_,?_,?_,?_,?_,?_,?_⟩<;>(refine b _ _ ?_;simp[go_sem])
theorem X4(a:Ac)(t s n k v:Bool)(w:Y):
  C9 86 #[Lm a,.bool t,.bool s,.bool n,.bool k,.bool v] w (R9 (.bool (DK a t s n k v)) w):=by
 obtain⟨W,d,b,hk⟩:=TE a w;have e:=O b;have HK:=O hk;have c:Hid (B9 W W):=O (Cs _ _);obtain⟨l0,k0,k1,k2,k3,k4,f,g,h,i,v4,v5,j,l,m⟩:=hk W (Cs _ _);clear hk b
 go_enter func86,ntmps86
 go_upto_region 1 with fail
 rw[<-d];clear d;go_wp2_with (go_at_call 152;refine m9 (Y2 _ _) fun w3 hb=>?_;have c:=O (show B9 W w3 from oo c hb);obtain⟨l0,k0,k1,k2,k3,k4,f,g,h,i,v4,v5,j,l,m⟩:=z HK w3 c;clear hb);all_goals
  go_ret;exact⟨by simp_all [DK],oo e (z (by assumption:Hid (B9 W _)))⟩
theorem Ft(a:Ac)(w:Y):
  C9 33 #[Lm a] w (R9 (.bool (CB a)) w):=by
 obtain⟨W,d,c,hk⟩:=TE a w;have e:=O c;have HK:=O hk;have b:Hid (B9 W W):=O (Cs _ _);obtain⟨l0,k0,k1,k2,k3,k4,f,g,i,j,v4,v5,k,l,m⟩:=hk W (Cs _ _);clear hk c
 go_enter func33,ntmps33
 go_upto_region 1 with fail
 rw[<-d];clear d;go_wp2_with (first|(go_at_call 85;refine m9 (CK _ _ _ _ _ _) fun w3 hb=>?_;have b:=O (show B9 W w3 from oo b hb);obtain⟨l0,k0,k1,k2,k3,k4,f,g,i,j,v4,v5,k,l,m⟩:=z HK w3 b;clear hb)|(go_at_call 86;refine m9 (X4 a _ _ _ _ _ _) fun w3 hb=>?_;have b:=O (show B9 W w3 from oo b hb);obtain⟨l0,k0,k1,k2,k3,k4,f,g,i,j,v4,v5,k,l,m⟩:=z HK w3 b;clear hb));all_goals
  go_ret;refine⟨?_,oo e (z (by assumption:Hid (B9 W _)))⟩;clear HK;unfold CB I6 Vl.ok;first
   |(simp_all;done)
   |(rename_i h;rcases h with(((((h|h)|h)|h)|h)|h)|h<;>simp_all<;>omega)
end
theorem Xo(w:Y)(cs:List Value)(t:TypeId)(i:Nat)(v u:V9)(a:v.oneCell'=true)(hi:cs[i]?=some u):(store (y w i) v).run P (w.alloc (.cells cs.toArray t))=.ok () (w.alloc (.cells (cs.set i v).toArray t)):=by
 have h:=run_store P (w.alloc (.cells cs.toArray t)) (y w i) v .plain a;rw[h];have h1:(w.alloc (.cells cs.toArray t)).cell? (y w i)=some u:=by simp[go_sem,hi]
 have h2:(w.alloc (.cells cs.toArray t)).frozen? (y w i)=false:=by simp[go_sem]
 have h3:(w.alloc (.cells cs.toArray t)).setCell (y w i) v=w.alloc (.cells (cs.set i v).toArray t):=by simp[go_sem]
 rw[h1,h2,h3];rfl
theorem Eo{P:Program}(w:Y)(t:TypeId):∀(vs pre old:List Value),vs.length=old.length->(∀v∈vs,v.oneCell'=true)->
  (storeCells (y w 0) vs pre.length).run P (w.alloc (.cells (pre++old).toArray t))=.ok () (w.alloc (.cells (pre++vs).toArray t))
 |[],pre,[],_,_=>by simp[storeCells]
 |v::vs,pre,o::old,hl,a=>by
  have h:=Xo (P:=P) w (pre++o::old) t pre.length v o (a v od) od;have h2:=Eo w t vs (pre++[v]) old (by simpa using hl) (fun x hx=>a x (by simp[hx])) (P:=P);have e1:(pre++o::old).set pre.length v=(pre++[v])++old:=od;rw[e1]at h;have e2:((y w 0):Addr).add pre.length=(y w pre.length):=by
   cases pre<;>simp[Addr.add]
  unfold storeCells;rw[e2];simp only[ON,Aae,XN,Wx,List.append_assoc,Aar,W9]at h h2 ⊢;simp[go_sem,h,h2]
def DU:Value:=.agg #[J 0,.nilFunc,J 0,.func (.func 141) #[] #[],J 25,.func (.func 142) #[] #[],J 9,.func (.func 143) #[] #[],J 5,.func (.func 144) #[] #[],J 1,.func (.func 145) #[] #[],J 1,.func (.func 146) #[] #[],J 8,.func (.func 147) #[] #[],J 3,.func (.func 148) #[] #[],J 19,.func (.func 149) #[] #[]]
theorem Tc(w:Y):(sizeOf 149).run prog w=.ok 20 w:=og
theorem ZG(w:Y):(Instr.storeAt 149 (Q9 w.heap.size) DU).run prog (w.alloc (.cells #[J 0,.nilFunc,J 0,.nilFunc,J 0,.nilFunc,J 0,.nilFunc,J 0,.nilFunc,J 0,.nilFunc,J 0,.nilFunc,J 0,.nilFunc,J 0,.nilFunc,J 0,.nilFunc] 149))=.ok () (w.alloc (.cells DU.cells 149)):=by
 have h:=Eo (P:=prog) w 149 DU.cells.toList [] [J 0,.nilFunc,J 0,.nilFunc,J 0,.nilFunc,J 0,.nilFunc,J 0,.nilFunc,J 0,.nilFunc,J 0,.nilFunc,J 0,.nilFunc,J 0,.nilFunc,J 0,.nilFunc] rfl (by unfold DU;intro v b;simp[Value.cells]at b;rcases b with rfl|rfl|rfl|rfl|rfl|rfl|rfl|rfl|rfl|rfl|rfl|rfl|rfl|rfl|rfl|rfl|rfl|rfl|rfl|rfl<;>rfl);have hs:=Tc (w.alloc (.cells #[J 0,.nilFunc,J 0,.nilFunc,J 0,.nilFunc,J 0,.nilFunc,J 0,.nilFunc,J 0,.nilFunc,J 0,.nilFunc,J 0,.nilFunc,J 0,.nilFunc,J 0,.nilFunc] 149));unfold Instr.storeAt storeVar;simp only[W9,XN]at h;have hn:¬(DU.cells.size≠20):=oc;simp only[AaR];have a:∀w',(Instr.sureAddr (Q9 w.heap.size)).run prog w'=.ok (y w 0) w':=fun w'=>by simp[go_sem]
 simp[a,hn,h]
theorem YW(w:Y)(cs:List Value)(t:TypeId)(i:Nat)(u:V9)(hi:cs[i]?=some u):(load (y w i)).run P (w.alloc (.cells cs.toArray t))=.ok u (w.alloc (.cells cs.toArray t)):=by
 simp[go_sem,hi]
theorem Je{P:Program}(w:Y)(cs:List Value)(t:TypeId):∀(n i:Nat) (acc:Array Value),i+n=cs.length->
  (loadCellsFrom (y w 0) i n acc).run P (w.alloc (.cells cs.toArray t))=.ok (acc++(cs.drop i).toArray) (w.alloc (.cells cs.toArray t))
 |0,i,acc,h=>by
  have:cs.drop i=[]:=oe;simp[loadCellsFrom,this]
 |n+1,i,acc,h=>by
  have hi:i<cs.length:=oa;have hl:=YW (P:=P) w cs t i cs[i] (by simp[hi]);have h2:=Je w cs t n (i+1) (acc.push cs[i]) oa (P:=P);have e2:((y w 0):Addr).add i=(y w i):=by
   cases i<;>simp[Addr.add]
  have e3:acc++(cs.drop i).toArray=acc.push cs[i]++(cs.drop (i+1)).toArray:=by
   rw[List.drop_eq_getElem_cons hi];simp
  unfold loadCellsFrom;rw[e2,e3];simp only[AaR];rw[hl];simp[h2]
theorem Ai{o:Oper}{a:Act}{w:Y}{x Z:Operand}(b:o.guard=none)(c:o.op=.store t x Z)(w':Y)(d:(Instr.storeAt t (a.eval x) (a.eval Z)).run P w=.ok () w')(h:wpList P ops Q rest (a.put o.dst undef) w'):wpList P ops Q (o::rest) a w:=
 wpList_plain b fun K hK=>by
  have e:(execOp a.eval o).run P w=.ok .skip w':=by
   unfold execOp;rw[c];simp only[AaR];rw[d];rfl
  unfold Oper.wp;rw[e];exact hK _ _ h
theorem KQ(w:Y):
  C9 82 #[] w (R9 DU w):=by
 go_enter func82,ntmps82
 go_wp2_with (first|(refine Ai rfl rfl _ (ZG w) ?_)|go_in)
 have a:∀w',(isAgg 149).run prog w'=.ok true w':=fun w'=>og;have hs:=Tc;have b:(loadCells (y w 0) 20).run prog (w.alloc (.cells DU.cells 149))=.ok DU.cells (w.alloc (.cells DU.cells 149)):=by
  have h:=Je (P:=prog) w DU.cells.toList 149 20 0 #[] oc;simpa[loadCells]using h
 refine E1 (v:=DU) ?_ rfl ⟨rfl,n9⟩;have c:Value.agg DU.cells=DU:=rfl;simp[results,results82,Act.put,loadVar,a,hs,b,asAddr,c]
def mN(op:Int):Int:=if op=2 then 25 else if op=3 then 9 else if op=4 then 5 else if op=5 then 1 else if op=6 then 1 else if op=7 then 8 else if op=8 then 3 else if op=9 then 19 else 0
def Ei(n a nm:Int):Bool:=decide (0<=n)&&decide (n<if nm=0 then 1 else a)
def Gs(v:Vl)(nm:Int):Bool:=v.ok&&(nm !=0||v.kind==0)
abbrev bt(op m:Int):Int:=bits .and .i64 (mN op) m
def D9(a:Ac):Bool:=Ei a.t 100 (bt a.op 1)&&Ei a.site 50 (bt a.op 2)&&Ei a.n 1000000000001 (bt a.op 4)&&Gs a.k (bt a.op 8)&&Gs a.v (bt a.op 16)&&(a.op !=7||a.k.kind==4)
theorem lD:bt 1 1=0/\bt 1 2=0/\bt 1 4=0/\bt 1 8=0/\bt 1 16=0:=oc
theorem lE:bt 2 1=1/\bt 2 2=0/\bt 2 4=0/\bt 2 8=8/\bt 2 16=16:=oc
theorem lF:bt 3 1=1/\bt 3 2=0/\bt 3 4=0/\bt 3 8=8/\bt 3 16=0:=oc
theorem lG:bt 4 1=1/\bt 4 2=0/\bt 4 4=4/\bt 4 8=0/\bt 4 16=0:=oc
theorem lH:bt 5 1=1/\bt 5 2=0/\bt 5 4=0/\bt 5 8=0/\bt 5 16=0:=oc
theorem lI:bt 6 1=1/\bt 6 2=0/\bt 6 4=0/\bt 6 8=0/\bt 6 16=0:=oc
theorem lJ:bt 7 1=0/\bt 7 2=0/\bt 7 4=0/\bt 7 8=8/\bt 7 16=0:=oc
theorem lK:bt 8 1=1/\bt 8 2=2/\bt 8 4=0/\bt 8 8=0/\bt 8 16=0:=oc
theorem lL:bt 9 1=1/\bt 9 2=2/\bt 9 4=0/\bt 9 8=0/\bt 9 16=16:=oc
theorem fP(t s n:Int)(k v:Vl):D9 ⟨1,t,s,n,k,v⟩=CB ⟨1,t,s,n,k,v⟩:=by
 obtain⟨e1,e2,e3,a,b⟩:=lD;unfold D9 CB I6 DK Ei Gs I5;simp only[e1,e2,e3,a,b];cases hk:k.ok<;>cases c:v.ok<;>simp
 rw[AaA];simp;omega
theorem fQ(t s n:Int)(k v:Vl):D9 ⟨2,t,s,n,k,v⟩=CB ⟨2,t,s,n,k,v⟩:=by
 obtain⟨e1,e2,e3,a,b⟩:=lE;unfold D9 CB I6 DK Ei Gs I5;simp only[e1,e2,e3,a,b];cases hk:k.ok<;>cases c:v.ok<;>simp
 rw[AaA];simp;omega
theorem fR(t s n:Int)(k v:Vl):D9 ⟨3,t,s,n,k,v⟩=CB ⟨3,t,s,n,k,v⟩:=by
 obtain⟨e1,e2,e3,a,b⟩:=lF;unfold D9 CB I6 DK Ei Gs I5;simp only[e1,e2,e3,a,b];cases hk:k.ok<;>cases c:v.ok<;>simp
 rw[AaA];simp;omega
theorem fS(t s n:Int)(k v:Vl):D9 ⟨4,t,s,n,k,v⟩=CB ⟨4,t,s,n,k,v⟩:=by
 obtain⟨e1,e2,e3,a,b⟩:=lG;unfold D9 CB I6 DK Ei Gs I5;simp only[e1,e2,e3,a,b];cases hk:k.ok<;>cases c:v.ok<;>simp
 rw[AaA];simp;omega
theorem fT(t s n:Int)(k v:Vl):D9 ⟨5,t,s,n,k,v⟩=CB ⟨5,t,s,n,k,v⟩:=by
 obtain⟨e1,e2,e3,a,b⟩:=lH;unfold D9 CB I6 DK Ei Gs I5;simp only[e1,e2,e3,a,b];cases hk:k.ok<;>cases c:v.ok<;>simp
 rw[AaA];simp;omega
theorem fU(t s n:Int)(k v:Vl):D9 ⟨6,t,s,n,k,v⟩=CB ⟨6,t,s,n,k,v⟩:=by
 obtain⟨e1,e2,e3,a,b⟩:=lI;unfold D9 CB I6 DK Ei Gs I5;simp only[e1,e2,e3,a,b];cases hk:k.ok<;>cases c:v.ok<;>simp
 rw[AaA];simp;omega
theorem fV(t s n:Int)(k v:Vl):D9 ⟨7,t,s,n,k,v⟩=CB ⟨7,t,s,n,k,v⟩:=by
 obtain⟨e1,e2,e3,a,b⟩:=lJ;unfold D9 CB I6 DK Ei Gs I5;simp only[e1,e2,e3,a,b];cases hk:k.ok<;>cases c:v.ok<;>simp
 rw[AaA];simp;omega
theorem fX(t s n:Int)(k v:Vl):D9 ⟨8,t,s,n,k,v⟩=CB ⟨8,t,s,n,k,v⟩:=by
 obtain⟨e1,e2,e3,a,b⟩:=lK;unfold D9 CB I6 DK Ei Gs I5;simp only[e1,e2,e3,a,b];cases hk:k.ok<;>cases c:v.ok<;>simp
 rw[AaA];simp;omega
theorem fY(t s n:Int)(k v:Vl):D9 ⟨9,t,s,n,k,v⟩=CB ⟨9,t,s,n,k,v⟩:=by
 obtain⟨e1,e2,e3,a,b⟩:=lL;unfold D9 CB I6 DK Ei Gs I5;simp only[e1,e2,e3,a,b];cases hk:k.ok<;>cases c:v.ok<;>simp
 rw[AaA];simp;omega
theorem YD(a:Ac)(h1:1<=a.op)(b:a.op<=9):D9 a=CB a:=by
 obtain⟨op,t,s,n,k,v⟩:=a;have h1:1<=op:=h1;have b:op<=9:=b;rcases(by omega:op=1\/op=2\/op=3\/op=4\/op=5\/op=6\/op=7\/op=8\/op=9)with rfl|rfl|rfl|rfl|rfl|rfl|rfl|rfl|rfl
 ·exact fP t s n k v
 ·exact fQ t s n k v
 ·exact fR t s n k v
 ·exact fS t s n k v
 ·exact fT t s n k v
 ·exact fU t s n k v
 ·exact fV t s n k v
 ·exact fX t s n k v
 ·exact fY t s n k v
section
attribute [local go_sem] Am Aj
theorem Se(n a nm:Int)(w:Y):
  C9 83 #[J n,J a,J nm] w fun e w'=>e=.returned (.bool (Ei n a nm))/\w'=w:=by
 go_enter func83,ntmps83
 go_wp2;all_goals
  go_ret;exact⟨by simp_all [Ei]<;>omega,rfl⟩
theorem OJ(v:Vl)(nm:Int)(w:Y):
  C9 84 #[V v.kind v.num v.Ag v.str v.ref,J nm] w (R9 (.bool (Gs v nm)) w):=by
 have a:B9 w (w.alloc (.cells (ow v) 43)):=n9;have b:=O a;clear a
 go_enter func84,ntmps84
 go_wp2_with fail
 refine m9 (C2 v.kind v.num v.Ag v.str v.ref _) fun w1 hb=>?_;obtain⟨hc,hf⟩:=Bo hb;have b:=O (oo b hb);clear hb;go_wp2;all_goals
  go_ret;exact⟨by clear hc hf;simp_all [Gs,Vl.ok],b⟩
theorem Sf(op:Int)(h1:1<=op)(a:op<=9):∃fn,∀w,(Instr.index 149 DU (J op)).run prog w=.ok (.agg #[J (mN op),fn]) w:=by
 rcases(by omega:op=1\/op=2\/op=3\/op=4\/op=5\/op=6\/op=7\/op=8\/op=9)with rfl|rfl|rfl|rfl|rfl|rfl|rfl|rfl|rfl
 ·exact⟨.func (.func 141) #[] #[],fun w=>og⟩
 ·exact⟨.func (.func 142) #[] #[],fun w=>og⟩
 ·exact⟨.func (.func 143) #[] #[],fun w=>og⟩
 ·exact⟨.func (.func 144) #[] #[],fun w=>og⟩
 ·exact⟨.func (.func 145) #[] #[],fun w=>og⟩
 ·exact⟨.func (.func 146) #[] #[],fun w=>og⟩
 ·exact⟨.func (.func 147) #[] #[],fun w=>og⟩
 ·exact⟨.func (.func 148) #[] #[],fun w=>og⟩
 ·exact⟨.func (.func 149) #[] #[],fun w=>og⟩
theorem U7(x:Int)(fn:V9)(w:Y):(Instr.field 148 (.agg #[J x,fn]) 0).run prog w=.ok (J x) w:=og
theorem Ws(a:Ac)(w:Y):
  C9 32 #[Lm a] w (R9 (.bool (CB a)) w):=by
 obtain⟨W,i,d,hk⟩:=TE a w;have j:=O d;have HK:=O hk;have c:Hid (B9 W W):=O (Cs _ _);obtain⟨l0,k0,k1,k2,k3,k4,l,m,n,o,v4,v5,p,q,r⟩:=hk W (Cs _ _);clear hk d;by_cases h1:a.op<1
 ·have v:decide (a.op<1)=true:=by simp[h1]
  have s:Hid (CB a=false):=O (by unfold CB;(iterate 9 rw[C3 oa]);exact Bool.and_false _);clear h1
  go_enter func32,ntmps32
  go_wp2_with fail
  go_ret;exact⟨by rw[z s];rfl,by rw[<-i];exact j⟩
 have v:decide (a.op<1)=false:=by simp[h1]
 by_cases k:9<a.op
 ·have f:decide (9<a.op)=true:=by simp[k]
  have s:Hid (CB a=false):=O (by unfold CB;(iterate 9 rw[C3 oa]);exact Bool.and_false _);clear h1 k
  go_enter func32,ntmps32
  go_wp2_with fail
  go_ret;exact⟨by rw[z s];rfl,by rw[<-i];exact j⟩
 have f:decide (9<a.op)=false:=by simp[k]
 obtain⟨fn,t⟩:=Sf a.op oa oa;have u:=U7;have x:Hid (1<=a.op/\a.op<=9):=O ⟨oa,oa⟩;clear h1 k
 go_enter func32,ntmps32
 go_wp2_with fail
 rw[<-i];clear i;refine qr W ?_;refine GS (fun K hK=>?_);go_simp;refine⟨_,fun w' b=>qk b (KQ _),hK _ ?_⟩;clear hK K;refine N (h:=N (h:=?_));refine GS (fun K hK=>?_);go_simp;apply Exists.intro;refine And.intro (fun w' b=>?_) (hK _ ?_)
 ·rfl
 clear hK K;refine GS (fun K hK=>?_);go_simp;apply Exists.intro;refine And.intro (fun w' b=>?_) (hK _ ?_)
 ·rfl
 clear hK K;refine N (h:=?_);refine H7 ?_;intro w1 g;have c:=O g;have A:=O (YD a x.1 x.2);clear g l0 k0 k1 k2 k3 k4 l m n o v4 v5 p q r v f t u;obtain⟨l0,k0,k1,k2,k3,k4,l,m,n,o,v4,v5,p,q,r⟩:=z HK w1 c;go_wp2_with (first|(go_at_call 83;refine(Se _ _ _ _).mono ?_;rintro e w2 ⟨rfl,B⟩;rw[B];clear B)|(go_at_call 84;refine m9 (OJ _ _ _) fun w3 hb=>?_;have c:=O (show B9 W w3 from oo c hb);obtain⟨l0,k0,k1,k2,k3,k4,l,m,n,o,v4,v5,p,q,r⟩:=z HK w3 c;clear hb));all_goals
  go_ret;refine⟨?_,oo j (z (by assumption:Hid (B9 W _)))⟩;rw[<-z A];clear HK A;unfold D9
  simp_all
end
section
open Go.ChangeShapes Go.WideShapes Go.ChangeAt Go.RowKit
attribute [local go_sem] Am Aj
theorem Xv(a:Ac)(w:Y):
  C9 13 #[Lm a] w (R9 (Lm a) w):=by
 go_enter func13,ntmps13
 go_wp2_with fail
 refine m9 (LP a.k.kind a.k.num a.k.Ag a.k.str a.k.ref _) fun w1 b=>?_;obtain⟨d,l⟩:=Bo b;have e:=b.size;simp at e;have o:w.heap.size<w1.heap.size:=oa;have m:w.heap.size+1<w1.heap.size:=oa;have p:w.heap.size+1+1<w1.heap.size:=oa;have f:Hid (B9 w w1):=O (by
  refine AaK ?_ (b.mono oe);repeat(refine PC ?_ (by show w.heap.size<=w.heap.size+1+1;omega) _)
  exact((n9).alloc od _).alloc oe _)
 clear b;go_wp2_with fail;refine m9 (LP a.v.kind a.v.num a.v.Ag a.v.str a.v.ref _) fun w2 c=>?_;obtain⟨g,n⟩:=Bo c;have h:=c.size;simp at h;have z0:w.heap.size<w2.heap.size:=oa;have q:w.heap.size+1<w2.heap.size:=oa;have z2:w.heap.size+1+1<w2.heap.size:=oa;have i:=O c;clear c;go_wp2;refine E1 (v:=Lm a) (by simp[results,results13,go_sem,d,g,m]) rfl ⟨rfl,?_⟩;have j:B9 w w2:=by
  refine AaK ?_ (i.mono oe);repeat(refine PC ?_ (by show w.heap.size<=w.heap.size+1+1;omega) _)
  exact f
 repeat(refine PC ?_ (by first|(show w.heap.size<=w.heap.size+1;omega)|(show w.heap.size<=w.heap.size+1+1;omega)) _)
 exact j
def aC(a:Ac)(left:Int):Int:=if left<a.k.str.size then -1 else if left-a.k.str.size<a.v.str.size then -1 else left-a.k.str.size-a.v.str.size
theorem Xp(a:Ac)(left:Int)(w:Y)(hk:a.k.str.size<=maxLen)(g:a.v.str.size<=maxLen)(e:0<=left)(h1:left<=1048576):
  C9 10 #[Lm a,J left] w (R9 (J (aC a left)) w):=by
 have d:B9 w (w.alloc (.cells (ox a) 33)):=n9;have b:=O d;clear d;by_cases t0:left<a.k.str.size
 ·have c:Hid (aC a left=-1):=O (by unfold aC;rw[DD t0])
  go_enter func10,ntmps10
  go_wp2_with fail
  refine m9 (UI a.k.kind a.k.num a.k.Ag a.k.str a.k.ref left _ hk e h1) fun w1 hb=>?_;rw[DD t0];have b:=O (oo b hb);clear hb;go_wp2_with fail;go_ret;exact⟨by rw[z c];rfl,b⟩
 ·have h:¬(left-a.k.str.size<0):=oa;have c:Hid (aC a left=if left-a.k.str.size<a.v.str.size then -1 else left-a.k.str.size-a.v.str.size):=O (by unfold aC;rw[C3 t0])
  go_enter func10,ntmps10
  go_wp2_with fail
  refine m9 (UI a.k.kind a.k.num a.k.Ag a.k.str a.k.ref left _ hk e h1) fun w1 hb=>?_;rw[C3 (show¬left<(a.k.str.size:Int) by omega)];obtain⟨hc,hf⟩:=Bo hb;have b:=O (oo b hb);clear hb;go_wp2_with fail;refine m9 (UI a.v.kind a.v.num a.v.Ag a.v.str a.v.ref (left-a.k.str.size) _ g oa oa) fun w2 hb=>?_;have b:=O (oo b hb);clear hb hc hf;by_cases t1:left-a.k.str.size<a.v.str.size
  ·rw[DD t1]at c;rw[DD t1];go_wp2_with fail;go_ret;exact⟨by rw[z c];rfl,b⟩
  ·rw[C3 t1]at c;rw[C3 t1];have f:¬(left-a.k.str.size-a.v.str.size<0):=oa;go_wp2_with fail
   go_ret;exact⟨by rw[z c];rfl,b⟩
end
section
attribute [local go_sem] Am Aj
theorem zero_num(h:fz x=true):∃s i,Ieee.double.read x=.number s 0 i:=by
 have h':(Ieee.double.order x 0==some .eq)=true:=h;rcases Fl.Cg x with⟨s,m,i,a,hi,c,e,_⟩|⟨s,a⟩|⟨s,t,a⟩
 ·rw[Fl.Bi a Fl.BT hi oa,Fl.B3,Fl.DT]at h';have b:Fl.sc s m i=0:=by simpa using h'
  unfold Fl.sc at b;rw[Fl.CX]at b;have d:=Fl.EX (i+1074).toNat;have:m=0:=by
   generalize (2:Int)^(i+1074).toNat=u at b d;have h1:(m:Int)*u=0:=by
    cases s
    ·simpa using b
    ·simpa using b
   rcases Int.mul_eq_zero.1 h1 with h|h<;>omega
  subst this;exact⟨s,i,a⟩
 ·exfalso;unfold Ieee.Format.order at h';rw[a,Fl.BT]at h';cases s<;>simp[Ieee.Datum.order]at h'
 ·exfalso;unfold Ieee.Format.order at h';rw[a]at h';simp[Ieee.Datum.order]at h'
theorem Zj(h:fz x=true):∃r,floatBits .quo .f64 4607182418800017408 x=some r:=by
 obtain⟨s,i,a⟩:=zero_num h;refine⟨Ieee.double.write (.infinity (false^^s)),?_⟩;show((Ieee.double.read 4607182418800017408).quotient _ (Ieee.double.read x)).map Ieee.double.write=_;rw[a,Fl.SP];simp[Ieee.Datum.quotient]
theorem NT(x:Nat)(w:Y):
  C9 184 #[F9 x,F9 x] w fun e w'=>e=.returned (.bool true)/\w'=w:=by
 by_cases h1:DW x=true
 ·have g1:(O9 x x !=some .eq)=true:=h1;clear h1
  go_enter func184,ntmps184
  go_wp2;go_ret;exact⟨rfl,rfl⟩
 have g1:(O9 x x !=some .eq)=false:=(by simpa using h1:DW x=false);have g2:(O9 x x==some .eq)=true:=by simpa using g1
 by_cases h2:fz x=true
 ·have g3:(O9 x 0==some .eq)=true:=h2;obtain⟨r,a⟩:=Zj h2;have hq:∀w:World,(binOp .quo 29 (F9 4607182418800017408) (F9 x)).run prog w=.ok (F9 r) w:=fun w=>AaN w .quo 29 .f64 _ _ r a;clear h1 h2 a
  go_enter func184,ntmps184
  go_wp2;go_ret;exact⟨od,rfl⟩
 ·have g3:(O9 x 0==some .eq)=false:=(by simpa using h2:fz x=false);clear h1 h2
  go_enter func184,ntmps184
  go_wp2;go_ret;exact⟨rfl,rfl⟩
theorem C7(kind num:Int)(Ag:Nat)(s:ByteArray)(ref:Int)(w:Y):
  C9 116 #[V kind num Ag s ref,V kind num Ag s ref] w (R9 (.bool true) w):=by
 go_enter func116,ntmps116
 go_wp2_with (go_at_call 184;refine(NT Ag _).mono ?_;rintro e w1 ⟨rfl,rfl⟩)
 go_ret;exact⟨rfl,(n9).alloc od _⟩
end
structure Pr where
 key:Vl
 val:Vl
 turn:Int
instance:Inhabited Pr:=⟨⟨default,default,0⟩⟩
def Db(p:Pr):List Value:=[J p.key.kind,J p.key.num,F9 p.key.Ag,.string p.key.str,J p.key.ref,J p.val.kind,J p.val.num,F9 p.val.Ag,.string p.val.str,J p.val.ref,J p.turn]
abbrev PV(p:Pr):Value:=.agg #[J p.key.kind,J p.key.num,F9 p.key.Ag,.string p.key.str,J p.key.ref,J p.val.kind,J p.val.num,F9 p.val.Ag,.string p.val.str,J p.val.ref,J p.turn]
structure Hc (w:Y) (b o:Nat) (p:Pr):Prop where
 k0:w.cell? (G b o)=some (J p.key.kind)
 k1:w.cell? (G b (o+1))=some (J p.key.num)
 k2:w.cell? (G b (o+2))=some (F9 p.key.Ag)
 k3:w.cell? (G b (o+3))=some (.string p.key.str)
 k4:w.cell? (G b (o+4))=some (J p.key.ref)
 v0:w.cell? (G b (o+5))=some (J p.val.kind)
 v1:w.cell? (G b (o+6))=some (J p.val.num)
 v2:w.cell? (G b (o+7))=some (F9 p.val.Ag)
 v3:w.cell? (G b (o+8))=some (.string p.val.str)
 v4:w.cell? (G b (o+9))=some (J p.val.ref)
 tn:w.cell? (G b (o+10))=some (J p.turn)
theorem Hc.of{w:Y}{p:Pr}(h:∀j u,(Db p)[j]?=some u->w.cell? (G b (o+j))=some u):Hc w b o p:=
 ⟨h 0 _ rfl,h 1 _ rfl,h 2 _ rfl,h 3 _ rfl,h 4 _ rfl,h 5 _ rfl,h 6 _ rfl,h 7 _ rfl,h 8 _ rfl,h 9 _ rfl,h 10 _ rfl⟩
theorem Hc.keep{w w':Y}{p:Pr}(h:Hc w b o p)(e:∀q,w'.cell? (G b q)=w.cell? (G b q)):Hc w' b o p:=
 ⟨(e _).trans h.k0,(e _).trans h.k1,(e _).trans h.k2,(e _).trans h.k3,(e _).trans h.k4,(e _).trans h.v0,(e _).trans h.v1,(e _).trans h.v2,(e _).trans h.v3,(e _).trans h.v4,(e _).trans h.tn⟩
def UW(w:Y)(a:T9)(n:Nat)(f:Nat->Pr):Prop:=
 n=0\/∃b off,a=some (G b off)/\b<w.heap.size/\∀i,i<n->Hc w b (off+i*11) (f i)
def UU(w:Y)(a:T9)(n:Nat)(f:Nat->Int):Prop:=
 n=0\/∃b off,a=some (G b off)/\b<w.heap.size/\∀i,i<n->w.cell? (G b (off+i))=some (J (f i))
theorem UW.below{w w':Y}{a:Option Addr}{f:Nat->Pr}(h:UW w a n f)(hb:Below B w w')(d:B=w.heap.size):UW w' a n f:=by
 subst d;rcases h with h|⟨b,off,e,c,hc⟩
 ·exact .inl h
 ·exact .inr ⟨b,off,e,At c hb.size,fun i hi=>(hc i hi).keep (fun q=>hb.cell (p:=(G b q)) c)⟩
theorem UU.below{w w':Y}{a:Option Addr}{f:Nat->Int}(h:UU w a n f)(hb:Below B w w')(d:B=w.heap.size):UU w' a n f:=by
 subst d;rcases h with h|⟨b,off,e,c,hc⟩
 ·exact .inl h
 ·exact .inr ⟨b,off,e,At c hb.size,fun i hi=>ol hb c (hc i hi)⟩
structure Dc where
 n:Nat
 L:Nat->Pr
 m:Nat
 I:Nat->Int
 x:Nat
 X:Nat->Int
 used:Int
 live:Int
 turns:Int
abbrev Dv(la:T9)(lc:Nat)(ia:T9)(ic:Nat)(xa:T9)(xc:Nat)(d:Dc):Value:=.agg #[.slice la d.n lc,.slice ia d.m ic,.slice xa d.x xc,J d.used,J d.live,J d.turns]
structure G8 (w:Y) (la ia xa:T9) (d:Dc):Prop where
 log:UW w la d.n d.L
 ints:UU w ia d.m d.I
 index:UU w xa d.x d.X
theorem G8.below{w w':Y}{d:Dc}(h:G8 w la ia xa d)(hb:B9 w w'):G8 w' la ia xa d:=⟨h.log.below hb rfl,h.ints.below hb rfl,h.index.below hb rfl⟩
structure Small (d:Dc):Prop where
 n:d.n<=4194304
 m:d.m<=4194304
 x:d.x<=4194304
structure KC (w:Y) (c o:Nat) (la:T9) (lc:Nat) (ia:T9) (ic:Nat) (xa:T9) (xc:Nat) (d:Dc):Prop where
 lt:c<w.heap.size
 c0:w.cell? (G c o)=some (.slice la d.n lc)
 c1:w.cell? (G c (o+1))=some (.slice ia d.m ic)
 c2:w.cell? (G c (o+2))=some (.slice xa d.x xc)
 c3:w.cell? (G c (o+3))=some (J d.used)
 c4:w.cell? (G c (o+4))=some (J d.live)
 c5:w.cell? (G c (o+5))=some (J d.turns)
 rows:G8 w la ia xa d
theorem KC.below{w w':Y}{d:Dc}(h:KC w c o la lc ia ic xa xc d)(hb:B9 w w'):KC w' c o la lc ia ic xa xc d:=
 ⟨At h.lt hb.size,ol hb h.lt h.c0,ol hb h.lt h.c1,ol hb h.lt h.c2,ol hb h.lt h.c3,ol hb h.lt h.c4,ol hb h.lt h.c5,h.rows.below hb⟩
open Classical in
noncomputable def tells(p:Prop):Bool:=if p then true else false
theorem Bw(h:p):tells p=true:=DD h
theorem Bq(h:¬p):tells p=false:=C3 h
def Gr(v:Vl):Bool:=v.kind==0&&v.ok
def Df(v:Vl):Bool:=v.ok&&v.kind !=0&&!(v.kind==3&&(DW v.Ag||Ci v.Ag))
def PJ(turns last:Int)(p:Pr):Bool:=decide (last<p.turn)&&decide (p.turn<=turns)&&Df p.key&&p.val.ok&&p.val.kind !=0
def DF(d:Dc):Nat->Option (Int×Int)
 |0=>some (0,0)
 |k+1=>match DF d k with
  |none=>none
  |some (live,last)=>if(d.L k).turn=0 then(if Gr (d.L k).key&&Gr (d.L k).val then some (live,last)else none)else if PJ d.turns last (d.L k)then some (live+1,(d.L k).turn)else none
theorem Ui{d:Dc}(h:DF d k=none):∀j,DF d (k+j)=none:=by
 intro j
 induction j with
 |zero=>exact h
 |succ j ih=>show(match DF d (k+j)with|none=>none|some (live,last)=>_)=none;rw[ih]
theorem LI{d:Dc}(h:DF d k=none)(hk:k<=n):DF d n=none:=by
 have:=Ui h (n-k)
 rwa [show k+(n-k)=n by omega]at this
def D1(d:Dc):Prop:=0<=d.live/\d.live<=500/\0<=d.turns/\d.turns<=1000000000000/\((d.n:Int)<=8\/(d.n:Int)<=2*d.live)
def D2(d:Dc):Prop:=∃last,DF d d.n=some (d.live,last)
abbrev Dc.at(d:Dc)(p:Int):Pr:=d.L (p-1).toNat
def Ic(d:Dc)(i:Nat):Prop:=d.I i=0\/(0<d.I i/\d.I i<=d.n/\(d.at (d.I i)).turn≠0/\(d.at (d.I i)).key.kind=2/\(d.at (d.I i)).key.num=i+1)
def D3(d:Dc):Prop:=(∀i,i<d.m->Ic d i)/\(d.m=0\/0<d.I (d.m-1))
def AA(m:Nat)(k:Vl):Prop:=k.kind=2/\1<=k.num/\k.num<=m
def Uo(d:Dc)(j:Nat):Prop:=d.X j=0\/d.X j=-1\/(0<d.X j/\d.X j<=d.n/\(d.at (d.X j)).turn≠0/\¬AA d.m (d.at (d.X j)).key)
def Ep(d:Dc):Nat->Nat
 |0=>0
 |k+1=>if d.X k=0 then Ep d k else Ep d k+1
def LR(x:Nat):Prop:=∃k,x=2^k
def D4(d:Dc):Prop:=(d.x=0\/(8<=d.x/\d.x<=4000/\LR d.x))/\(∀j,j<d.x->Uo d j)/\(Ep d d.x:Int)=d.used/\2*Ep d d.x<=d.x
def EH(f:Nat->Int)(i:Nat):Nat->Nat
 |0=>0
 |k+1=>if f k=(i:Int)+1 then EH f i k+1 else EH f i k
def AY{α:Type}(f:Nat->α)(i:Nat)(a:α):Nat->α:=fun j=>if j=i then a else f j
theorem Ak{α:Type}(f:Nat->α)(i:Nat)(a:α):AY f i a i=a:=by simp[AY]
theorem Al{α:Type}(f:Nat->α){i j:Nat}(a:α)(h:j≠i):AY f i a j=f j:=by simp[AY,h]
def TH(p:Nat->Bool):Nat->Nat->Int
 |0,_=>-1
 |k+1,i=>if p i then(i:Int)else TH p k (i+1)
abbrev VT(p:Nat->Bool)(n:Nat):Int:=TH p n 0
theorem aS{p:Nat->Bool}(h:i<n)(a:p i=true):TH p (n-i) i=i:=by
 obtain⟨k,hk⟩:∃k,n-i=k+1:=⟨n-i-1,oa⟩;rw[hk,TH,DD a]
theorem Rt{p:Nat->Bool}(h:i<n)(a:p i=false):TH p (n-i) i=TH p (n-(i+1)) (i+1):=by
 obtain⟨k,hk⟩:∃k,n-i=k+1:=⟨n-i-1,oa⟩;rw[hk,TH,C3 (by rw[a];simp),show n-(i+1)=k by omega]
theorem aR{p:Nat->Bool}(h:¬i<n):TH p (n-i) i=-1:=by
 rw[show n-i=0 by omega,TH]
theorem atF_rng(p:Nat->Bool):∀k i,TH p k i=-1\/∃j:Nat,TH p k i=(j:Int)/\i<=j/\j<i+k/\p j=true/\∀q,i<=q->q<j->p q=false
 |0,i=>.inl rfl
 |k+1,i=>by
  rw[TH];cases a:p i
  ·rw[C3 od];rcases atF_rng p k (i+1)with h|⟨j,h1,h2,h3,h4,h5⟩
   ·exact .inl h
   ·refine .inr ⟨j,h1,oa,oa,h4,fun q c b=>?_⟩;rcases(by omega:q=i\/i+1<=q)with rfl|h
    ·exact a
    ·exact h5 q h b
  ·rw[DD rfl];exact .inr ⟨i,rfl,Be _,oa,a,fun q h1 h2=>oa⟩
theorem Iz(p:Nat->Bool)(n:Nat):VT p n=-1\/∃j:Nat,VT p n=(j:Int)/\j<n/\p j=true:=by
 rcases atF_rng p n 0 with h|⟨j,h1,h2,h3,h4,h5⟩
 ·exact .inl h
 ·exact .inr ⟨j,h1,oa,h4⟩
theorem Gl{p:Nat->Bool}:∀{k i},TH p k i=-1->∀j,i<=j->j<i+k->p j=false
 |0,i,h,j,h1,h2=>oa
 |k+1,i,h,j,h1,h2=>by
  rw[TH]at h;cases a:p i
  ·rw[C3 (by rw[a];simp)]at h;rcases(by omega:j=i\/i+1<=j)with rfl|h3
   ·exact a
   ·exact Gl h j h3 oa
  ·rw[DD a]at h;omega
structure Pl where
 n:Nat
 P:Nat->Pr
 turns:Int
instance:Inhabited Pl:=⟨⟨0,fun _=>default,0⟩⟩
structure Ds where
 nt:Nat
 T:Nat->Pl
 ns:Nat
 S:Nat->ByteArray
structure An where
 code:Int
 num:Int
 key:Vl
 val:Vl
instance:Inhabited An:=⟨⟨0,0,default,default⟩⟩
abbrev KA:Vl:=⟨0,0,0,⟨#[]⟩,0⟩
abbrev Dw(a:An):Value:=.agg #[J a.code,J a.num,J a.key.kind,J a.key.num,F9 a.key.Ag,.string a.key.str,J a.key.ref,J a.val.kind,J a.val.num,F9 a.val.Ag,.string a.val.str,J a.val.ref]
def Ey(a:An):List Value:=[J a.code,J a.num,J a.key.kind,J a.key.num,F9 a.key.Ag,.string a.key.str,J a.key.ref,J a.val.kind,J a.val.num,F9 a.val.Ag,.string a.val.str,J a.val.ref]
def Bc(c:Int):An:=⟨c,0,KA,KA⟩
def DJ(n:Int):An:=⟨0,n,KA,KA⟩
def E4(v:Vl):An:=⟨0,0,KA,v⟩
def De(v:Vl):Int:=if v.ok=true then(if v.kind=0 then 1 else if v.kind=3 then(if DW v.Ag=true then 1 else 0)else 0)else 2
def DY(v:Vl):Vl:=if v.ok=true then(if v.kind=0 then KA else if v.kind=3 then(if DW v.Ag=true then KA else if Ci v.Ag=true then⟨2,LU v.Ag,0,⟨#[]⟩,0⟩else v)else v)else KA
theorem DX(v:Vl):J3 v.kind v.num v.Ag v.str v.ref=KV (De v) (DY v).kind (DY v).num (DY v).Ag (DY v).str (DY v).ref:=by
 unfold J3 De DY;show(if v.ok=true then _ else _)=_
 split
 ·split
  ·rfl
  ·split
   ·split
    ·rfl
    ·split<;>rfl
   ·rfl
 ·rfl
def BA(s:ByteArray):Vl:=⟨4,0,0,s,0⟩
def Pl.nextI(t:Pl)(n:Int):Int:=VT (fun j=>decide (n<(t.P j).turn)) t.n
def Pl.next(t:Pl)(n:Int):Pr:=if t.nextI n<0 then⟨KA,KA,0⟩else t.P (t.nextI n).toNat
def Pl.has(t:Pl)(m:Int):Bool:=decide (0<=VT (fun j=>(t.P j).key.kind==2&&(t.P j).key.num==m) t.n)
def bV(t:Pl):Nat->Nat->Nat
 |0,m=>m
 |k+1,m=>if t.has ((m:Int)+1)then bV t k (m+1)else m
def Pl.len(t:Pl):Nat:=bV t (t.n+1) 0
def Eu(op:Int):Bool:=op !=1&&op !=7
def EG(op:Int):Bool:=op==8||op==9
def GD(a:Ac)(nt ns:Nat):Int:=
 if CB a=false then 1 else if Eu a.op=true/\(nt:Int)<=a.t then 2 else if EG a.op=true/\(ns:Int)<=a.site then 3
 else if(a.op=2\/a.op=3)/\De a.k≠0 then 4 else 0
theorem Hp{a:Ac}(h:CB a=true):0<=a.t/\0<=a.site/\a.k.ok=true/\a.v.ok=true/\0<=a.n/\1<=a.op/\a.op<=9:=by
 have h1:I6 a=true/\1<=a.op/\a.op<=9:=by
  unfold CB at h;cases c:I6 a
  ·simp[c]at h
  ·refine⟨rfl,?_⟩;simp only[c]at h;by_cases e1:a.op=1;· omega
   by_cases e2:a.op=2;· omega
   by_cases e3:a.op=3;· omega
   by_cases d:a.op=4;· omega
   by_cases e:a.op=5;· omega
   by_cases f:a.op=6;· omega
   by_cases g:a.op=7;· omega
   by_cases i:a.op=8;· omega
   by_cases j:a.op=9;· omega
   simp[e1,e2,e3,d,e,f,g,i,j]at h
 obtain⟨b,h1,h2⟩:=h1;unfold I6 at b;simp only[To,Bool.not_eq_true',decide_eq_false_iff_not]at b;obtain⟨⟨⟨⟨⟨⟨⟨g1,g2⟩,g3⟩,g4⟩,g5⟩,g6⟩,g7⟩,g8⟩:=b;exact⟨oa,oa,g7,g8,oa,h1,h2⟩
theorem cZ{s:ByteArray}(h:s.size<=4000):(BA s).ok=true:=by
 have a:fz 0=true:=oc;unfold Vl.ok BA Bh;simp[a];omega
theorem iG{v:Vl}(h:v.ok=true)(hk:v.kind=4):v.str.size<=4000:=by
 unfold Vl.ok Bh at h;simp[hk]at h;omega
theorem Pe{a:Ac}(h:CB a=true)(b:a.op=7):a.k.kind=4:=by
 unfold CB at h;simp[b]at h;exact h.2.2
theorem X7{a:Ac}{nt ns:Nat}(h:GD a nt ns=0):CB a=true/\(Eu a.op=true->a.t<nt)/\(EG a.op=true->a.site<ns)/\((a.op=2\/a.op=3)->De a.k=0):=by
 unfold GD at h
 split at h
 ·cases h
 ·rename_i h1
  split at h
  ·cases h
  ·rename_i h2
   split at h
   ·cases h
   ·rename_i h3
    split at h
    ·cases h
    ·rename_i h4
     refine⟨by simpa using h1,fun e=>?_,fun e=>?_,fun e=>?_⟩
     ·rcases Int.lt_or_le a.t nt with h|h
      ·exact h
      ·exact absurd ⟨e,h⟩ h2
     ·rcases Int.lt_or_le a.site ns with h|h
      ·exact h
      ·exact absurd ⟨e,h⟩ h3
     ·rcases Decidable.em (De a.k=0)with h|h
      ·exact h
      ·exact absurd ⟨e,h⟩ h4
theorem nQ:∀(n m:Nat) (g:Nat->Nat),(∀j,j<m->g j<n)->(∀i j,i<m->j<m->g i=g j->i=j)->m<=n
 |0,m,g,h1,h2=>by
  rcases W0 m with h|h
  ·omega
  ·have:=h1 0 h;omega
 |n+1,0,g,h1,h2=>oa
 |n+1,m+1,g,h1,h2=>by
  have hx:=h1 m oa;have:=nQ n m (fun j=>if g j=n then g m else g j) (fun j hj=>by
   show(if g j=n then g m else g j)<n;have a:=h1 j oa
   split
   ·rename_i e
    have:g m≠n:=fun e2=>oj (h2 j m oa oa oa);omega
   ·omega) (fun i j hi hj e=>by
   have e:(if g i=n then g m else g i)=(if g j=n then g m else g j):=e
   split at e<;>split at e
   ·exact h2 i j oa oa oa
   ·have:=h2 m j oa oa oa;omega
   ·have:=h2 i m oa oa oa;omega
   ·exact h2 i j oa oa oa)
  omega
theorem Pl.T0{t:Pl}(h:∀j,j<m->t.has ((j:Int)+1)=true):m<=t.n:=by
 have h':∀j,∃i,j<m->i<t.n/\(t.P i).key.num=(j:Int)+1:=fun j=>by
  rcases Nat.lt_or_ge j m with hj|hj
  ·have a:=h j hj;unfold Pl.has at a;have a:=of_decide_eq_true a;rcases Iz (fun q=>(t.P q).key.kind==2&&(t.P q).key.num==(j:Int)+1) t.n with e|⟨i,e,h1,h2⟩
   ·omega
   ·have h2:(t.P i).key.kind=2/\(t.P i).key.num=(j:Int)+1:=by simpa using h2
    exact⟨i,fun _=>⟨h1,h2.2⟩⟩
  ·exact⟨0,fun h=>oa⟩
 refine nQ t.n m (fun j=>Classical.choose (h' j)) (fun j hj=>(Classical.choose_spec (h' j) hj).1) (fun i j hi hj e=>?_);have e1:=(Classical.choose_spec (h' i) hi).2;have e2:=(Classical.choose_spec (h' j) hj).2;have e:Classical.choose (h' i)=Classical.choose (h' j):=e;rw[e]at e1;omega
theorem Vq{t:Pl}:∀k m:Nat,(∃q:Nat,m<=q/\q<m+k/\t.has ((q:Int)+1)=false)->∃q:Nat,bV t k m=q/\m<=q/\t.has ((q:Int)+1)=false/\∀j:Nat,m<=j->j<q->t.has ((j:Int)+1)=true
 |0,m,⟨q,h1,h2,_⟩=>oa
 |k+1,m,⟨q,h1,h2,h3⟩=>by
  rw[bV];cases a:t.has ((m:Int)+1)
  ·rw[C3 od];exact⟨m,rfl,Be _,a,fun j h1 h2=>oa⟩
  ·rw[DD rfl];have:q≠m:=fun e=>by rw[e,a]at h3;cases h3
   obtain⟨r,g1,g2,g3,g4⟩:=Vq (t:=t) k (m+1) ⟨q,oa,oa,h3⟩;refine⟨r,g1,oa,g3,fun j h5 b=>?_⟩;rcases(by omega:j=m\/m+1<=j)with rfl|h
   ·exact a
   ·exact g4 j h b
theorem Pl.gD(t:Pl):t.has ((t.len:Int)+1)=false/\∀j,j<t.len->t.has ((j:Int)+1)=true:=by
 have hex:∃q:Nat,0<=q/\q<0+(t.n+1)/\t.has ((q:Int)+1)=false:=by
  rcases Classical.em (∃q:Nat,q<t.n+1/\t.has ((q:Int)+1)=false)with⟨q,h1,h2⟩|h
  ·exact⟨q,oa,oa,h2⟩
  ·have:=Pl.T0 (t:=t) (m:=t.n+1) fun j hj=>by
    cases e:t.has ((j:Int)+1)
    ·exact absurd ⟨j,hj,e⟩ h
    ·rfl
   omega
 obtain⟨q,h1,h2,h3,h4⟩:=Vq (t:=t) (t.n+1) 0 hex;have:t.len=q:=h1;rw[this];exact⟨h3,fun j hj=>h4 j oa hj⟩
theorem Pl.Ug{t:Pl}(h1:∀j,j<m->t.has ((j:Int)+1)=true)(h2:t.has ((m:Int)+1)=false):t.len=m:=by
 obtain⟨g1,g2⟩:=t.gD;rcases Nat.lt_trichotomy t.len m with h|h|h
 ·rw[h1 _ h]at g1;cases g1
 ·exact h
 ·rw[g2 _ h]at h2;cases h2
section
attribute [local go_sem] Am Aj
abbrev eN(b:Bool)(p:Pr):Value:=.agg #[.bool b,J p.key.kind,J p.key.num,F9 p.key.Ag,.string p.key.str,J p.key.ref,J p.val.kind,J p.val.num,F9 p.val.Ag,.string p.val.str,J p.val.ref,J p.turn]
theorem WE(a:T9)(R:Nat)(t:Pl)(m:Int)(w:Y)(E:UW w a t.n t.P)(hn:t.n<=500)(V:0<=m):
  C9 169 #[.slice a t.n R,J m] w (R9 (eN (decide (0<=t.nextI m)) (t.next m)) w):=by
 have S:=O E;clear E
 go_enter func169,ntmps169
 go_wp2;go_loopw [9] (fun i wr=>∃k:Nat,k<=t.n/\i=J k/\t.nextI m=TH (fun j=>decide (m<(t.P j).turn)) (t.n-k) k/\w.heap.size<wr.heap.size/\(∀o,o<12->wr.cell? (y w o)=(w.alloc (.cells #[.bool false,J 0,J 0,F9 0,E9,J 0,J 0,J 0,F9 0,E9,J 0,J 0] 254)).cell? (y w o))/\(∀o,wr.frozen? (y w o)=false)/\B9 w wr) (fun i _=>t.n-(intOf i).toNat)
 case atStart=>exact⟨0,oa,rfl,rfl,od,fun o _=>rfl,fun o=>by simp[go_sem],n9⟩
 case round=>
  obtain⟨k,hk,rfl,g,hz,c,l,hb⟩:=hrel;have e:=O g;have r:=O c;have r0:=(c 0 oa).trans (by simp[go_sem]:_=some (.bool false));have r1:=(c 1 oa).trans (by simp[go_sem]:_=some (J 0));have r2:=(c 2 oa).trans (by simp[go_sem]:_=some (J 0));have F:=(c 3 oa).trans (by simp[go_sem]:_=some (F9 0));have H:=(c 4 oa).trans (by simp[go_sem]:_=some (E9));have I:=(c 5 oa).trans (by simp[go_sem]:_=some (J 0));have K:=(c 6 oa).trans (by simp[go_sem]:_=some (J 0));have L:=(c 7 oa).trans (by simp[go_sem]:_=some (J 0));have M:=(c 8 oa).trans (by simp[go_sem]:_=some (F9 0));have Q:=(c 9 oa).trans (by simp[go_sem]:_=some (E9));have s:=(c 10 oa).trans (by simp[go_sem]:_=some (J 0));have u:=(c 11 oa).trans (by simp[go_sem]:_=some (J 0));clear g c;by_cases d:k<t.n
  ·obtain⟨b,off,rfl,x,hcs⟩:=S.resolve_left oa;obtain⟨e0,e1,e2,e3,W,X,Z,e7,e8,e9,T⟩:=(hcs k d).keep (fun q=>hb.cell (p:=(G b q)) x);have f:=O hb;clear hcs hb;by_cases hp:0<(t.P k).turn
   ·by_cases U:m<(t.P k).turn
    ·have A:Hid (eN (decide (0<=t.nextI m)) (t.next m)=eN true (t.P k)):=O (by
      have h:t.nextI m=k:=e.trans (aS d (by simp[U]));unfold Pl.next;rw[h,C3 oa];simp)
     go_wp2;refine E1 (v:=eN true (t.P k)) (by simp[results,results169,go_sem,hz,r0,r1,r2,F,H,I,K,L,M,Q,s,u]) rfl ⟨by rw[z A],?_⟩;refine Below.alloc ?_ (by have:=f.size;simpa using this) _;iterate 12 (refine PC ?_ (by exact Be _) _)
     exact f
    ·have B:=O (e.trans (Rt d oe));go_wp2;go_roundw
     case rel=>exact⟨k+1,oa,oh,B,oe,fun o C=>(GP _ _ _ (by exact hz)).trans (r o C),fun o=>om ((Cs wr.heap.size wr).alloc (Be _) _) hz (l o),f.alloc f.size _⟩
     case measure=>simp[intOf];omega
   ·have B:=O (e.trans (Rt d oe));go_wp2;go_roundw
    case rel=>exact⟨k+1,oa,oh,B,oe,fun o C=>(GP _ _ _ (by exact hz)).trans (r o C),fun o=>om ((Cs wr.heap.size wr).alloc (Be _) _) hz (l o),f.alloc f.size _⟩
    case measure=>simp[intOf];omega
  ·have A:Hid (eN (decide (0<=t.nextI m)) (t.next m)=eN false ⟨KA,KA,0⟩):=O (by
    have h:t.nextI m=-1:=e.trans (aR d);unfold Pl.next;rw[h,DD oa];simp)
   have D:k=t.n:=oa;subst D;have f:=O hb;clear hb d;go_wp2;refine E1 (v:=eN false ⟨KA,KA,0⟩) (by simp[results,results169,go_sem,r0,r1,r2,F,H,I,K,L,M,Q,s,u]) rfl ⟨by rw[z A],?_⟩;iterate 12 (refine PC ?_ (by exact Be _) _)
   exact f
theorem Pl.bE(t:Pl)(m:Int):t.has m=true↔∃j,j<t.n/\((t.P j).key.kind=2/\(t.P j).key.num=m):=by
 unfold Pl.has;constructor
 ·intro h;have h:=of_decide_eq_true h;rcases Iz (fun j=>(t.P j).key.kind==2&&(t.P j).key.num==m) t.n with e|⟨j,e,h1,h2⟩
  ·omega
  ·exact⟨j,h1,by simpa using h2⟩
 ·rintro⟨j,h1,h2,h3⟩;apply decide_eq_true;rcases Iz (fun j=>(t.P j).key.kind==2&&(t.P j).key.num==m) t.n with e|⟨i,e,_,_⟩
  ·have:=Gl e j (Re _) oa;simp[h2,h3]at this
  ·omega
abbrev Dn(a:Ac):Array Value:=(ox a)
abbrev Om:Array Value:=#[J 0,J 0,J 0,J 0,F9 0,E9,J 0,J 0,J 0,F9 0,E9,J 0]
def Pl.ask(t:Pl)(a:Ac):An:=
 if a.op=4 then⟨0,(t.next a.n).turn,(t.next a.n).key,(t.next a.n).val⟩
 else if a.op=6 then DJ t.n else DJ t.len
theorem Lt{a w:Y}(h:Below B a w)(b:Nat)(hb:B<=b)(v0 v1 v2 v3 v4 v5 e f g v9 c d:V9):
  Below B a ((((((((((((w.setCell (G b 0) v0).setCell (G b 1) v1).setCell (G b 2) v2).setCell (G b 3) v3).setCell (G b 4) v4).setCell (G b 5) v5).setCell (G b 6) e).setCell (G b 7) f).setCell (G b 8) g).setCell (G b 9) v9).setCell (G b 10) c).setCell (G b 11) d):=by
 iterate 12 (refine PC ?_ (by exact hb) _)
 exact h
theorem WJ(la:T9)(cp:Nat)(t:Pl)(a:Ac)(w:Y)(hP:UW w la t.n t.P)(hn:t.n<=500)(hm:0<=a.n):
  C9 105 #[.slice la t.n cp,Lm a] w (R9 (Dw (t.ask a)) w):=by
 obtain⟨W,f⟩:∃W,W=(w.alloc (.cells (Dn a) 51)).alloc (.cells Om 45):=⟨_,rfl⟩;have r:B9 w W:=by rw[f];exact(n9).alloc od _
 have hz:w.heap.size+1<W.heap.size:=by rw[f];simp
 obtain⟨c0,c3⟩:W.cell? (y w 0)=some (J a.op)/\W.cell? (y w 3)=some (J a.n):=by rw[f];simp[go_sem]
 have hA:∀j u,Om.toList[j]?=some u->W.cell? (Y9 w j)=some u:=fun j u h=>by
  rw[f,World.cell?_alloc_at _ _ _ _ od];simpa using h
 have hF:∀q,W.frozen? (Y9 w q)=false:=fun q=>by rw[f];simp[go_sem]
 have HP:=O (hP.below r rfl);have g:=O r;have HA:=O hA;have HF:=O hF;have AN:∀{w':Y},B9 W w'->(∀j u,Om.toList[j]?=some u->w'.cell? (Y9 w j)=some u)/\(∀q,w'.frozen? (Y9 w q)=false):=fun{w'} hb=>⟨fun j u h=>ol hb hz (HA j u h),fun q=>om hb hz (HF q)⟩;have H:Hid (∀w':World,B9 W w'->(∀j u,Om.toList[j]?=some u->w'.cell? (Y9 w j)=some u)/\(∀q,w'.frozen? (Y9 w q)=false)):=O (fun w'=>AN);clear hP r hA hF AN;by_cases h4:a.op=4
 ·have I:Hid (t.ask a=⟨0,(t.next a.n).turn,(t.next a.n).key,(t.next a.n).val⟩):=O (by unfold Pl.ask;rw[DD h4]);have d4:(a.op==4)=true:=by simp[h4]
  clear h4
  go_enter func105,ntmps105
  go_wp2_with fail
  rw[<-f];clear f;go_wp2_with fail;refine m9 (WE la cp t a.n _ HP hn hm) fun w1 k=>?_;generalize t.next a.n=x at*;obtain⟨g1,g2⟩:=z H _ k;obtain⟨r0,r1,r2,S,T,U,V,X,Z,r9,s,A⟩:=oq g1;have K:w.heap.size+1<w1.heap.size:=At hz k.size;have L:=O (oo g k);have G2:=g2;clear k g1 c0 c3;go_wp2_with fail;refine E1 (v:=Dw ⟨0,x.turn,x.key,x.val⟩) (by simp[results,results105,go_sem,K,r0,r1,r2,S,T,U,V,X,Z,r9,s,A]) rfl ⟨by rw[z I],?_⟩;refine Below.alloc ?_ (by have:=L.size;simpa using this) _;exact Lt L _ oa _ _ _ _ _ _ _ _ _ _ _ _
 by_cases E:a.op=6
 ·have I:Hid (t.ask a=DJ t.n):=O (by unfold Pl.ask;rw[C3 h4,DD E]);have d4:(a.op==4)=false:=by simp[h4]
  have d6:(a.op==6)=true:=by simp[E]
  clear h4 E
  go_enter func105,ntmps105
  go_wp2_with fail
  refine E1 (v:=Dw (DJ t.n)) (by simp[results,results105,go_sem,DJ]) rfl ⟨by rw[z I],?_⟩;exact(n9).alloc od _
 have I:Hid (t.ask a=DJ t.len):=O (by unfold Pl.ask;rw[C3 h4,C3 E]);have d4:(a.op==4)=false:=by simp[h4]
 have d6:(a.op==6)=false:=by simp[E]
 clear h4 E
 go_enter func105,ntmps105
 go_wp2_with fail
 rw[<-f];clear f;go_wp2_with fail;clear c0 c3;go_loopw [6] (fun i wr=>∃m:Nat,(∀j,j<m->t.has ((j:Int)+1)=true)/\i=J m/\B9 W wr) (fun i _=>501-(intOf i).toNat)
 case atStart=>exact⟨0,fun j hj=>absurd hj (OR _),rfl,Cs _ _⟩
 case round=>
  obtain⟨m,B,rfl,hb⟩:=hrel;have ag:=Pl.T0 B;have ah:=hb.size;have HB:=O hb;have HM:=O B;clear hb B;go_wp2_with fail;go_loopw [7,35] (fun b i wq=>∃(C:Bool) (q:Nat),q<=t.n/\b=.bool C/\i=J q/\(C=true↔∃j,j<q/\((t.P j).key.kind=2/\(t.P j).key.num=(m:Int)+1))/\B9 W wq) (fun _ i _=>t.n-(intOf i).toNat)
  case atStart=>exact⟨false,0,Re _,rfl,rfl,⟨fun h=>by(cases h),fun⟨j,h,_⟩=>absurd h (OR _)⟩,HB⟩
  case round=>
   obtain⟨C,q,hq,rfl,rfl,l,d⟩:=hrel;have c:=d.size;have e:=O d;have ad:=O l;by_cases M:q<t.n
   ·obtain⟨b,off,rfl,ae,hcs⟩:=HP.resolve_left oa;obtain⟨e0,e1,e2,e3,e4,e5,e6,e7,e8,e9,ai⟩:=(hcs q M).keep (fun j=>d.cell (p:=(G b j)) ae);clear hcs d l;have HS:∀x:Bool,(x=true↔C=true\/((t.P q).key.kind=2/\(t.P q).key.num=(m:Int)+1))->(x=true↔∃j,j<q+1/\((t.P j).key.kind=2/\(t.P j).key.num=(m:Int)+1)):=fun x hx=>hx.trans ((or_congr ad Iff.rfl).trans ⟨fun h=>h.elim (fun⟨j,h1,h2⟩=>⟨j,oa,h2⟩) (fun h=>⟨q,oa,h⟩),fun⟨j,h1,h2⟩=>by
     rcases(by omega:j<q\/j=q)with h|rfl
     ·exact .inl ⟨j,h,h2⟩
     ·exact .inr h2⟩)
    have o:=O HS;clear HS;cases C
    ·by_cases hk:(t.P q).key.kind=2
     ·by_cases F:(t.P q).key.num=(m:Int)+1
      ·have D:=O (o true (by simp[hk,F]));have d1:((t.P q).key.kind==2)=true:=by simp[hk]
       have d2:((t.P q).key.num==(m:Int)+1)=true:=by simp[F]
       clear hk F;go_wp2_with fail;go_roundw
       case rel=>exact⟨true,q+1,oa,rfl,oh,D,e.alloc c _⟩
       case measure=>simp[intOf];omega
      ·have D:=O (o false (by simp[hk,F]));have d1:((t.P q).key.kind==2)=true:=by simp[hk]
       have d2:((t.P q).key.num==(m:Int)+1)=false:=by simp[F]
       clear hk F;go_wp2_with fail;go_roundw
       case rel=>exact⟨false,q+1,oa,rfl,oh,D,e.alloc c _⟩
       case measure=>simp[intOf];omega
     ·have D:=O (o false (by simp[hk]));have d1:((t.P q).key.kind==2)=false:=by simp[hk]
      clear hk;go_wp2_with fail;go_roundw
      case rel=>exact⟨false,q+1,oa,rfl,oh,D,e.alloc c _⟩
      case measure=>simp[intOf];omega
    ·have D:=O (o true od);go_wp2_with fail;go_roundw
     case rel=>exact⟨true,q+1,oa,rfl,oh,D,e.alloc c _⟩
     case measure=>simp[intOf];omega
   ·have af:q=t.n:=oa;subst af;have R:C=t.has ((m:Int)+1):=by
     rw[AaA,l,Pl.bE]
    clear l M;obtain⟨g1,g2⟩:=z H _ d;obtain⟨r0,r1,r2,S,T,U,V,X,Z,r9,s,A⟩:=oq g1;have K:w.heap.size+1<wr.heap.size:=At hz c;clear g1 d;cases C
    ·have HL:=O (Pl.Ug HM R.symm);clear R;go_wp2_with fail;refine E1 (v:=Dw (DJ m)) (by simp[results,results105,go_sem,r0,r1,r2,S,T,U,V,X,Z,r9,s,A,DJ]) rfl ⟨by rw[z I,z HL],?_⟩;exact Lt (oo g e) _ oa _ _ _ _ _ _ _ _ _ _ _ _
    ·have Q:Hid (∀j,j<m+1->t.has ((j:Int)+1)=true):=O (fun j hj=>by
      rcases(by omega:j<m\/j=m)with h|rfl
      ·exact HM j h
      ·exact R.symm)
     have aj:=Pl.T0 Q;clear R;go_wp2_with fail;go_roundw
     case rel=>exact⟨m+1,Q,oh,e⟩
     case measure=>simp[intOf];omega
def pL(f:Nat->Pr):Nat->List Value
 |0=>[]
 |k+1=>pL f k++Db (f k)
theorem CU(f:Nat->Pr)(n:Nat):(pL f n).length=n*11:=by
 induction n with
 |zero=>rfl
 |succ n ih=>simp[pL,ih,Db];omega
theorem Ig{f:Nat->Pr}(hi:i<n)(hj:j<11):(pL f n)[i*11+j]?=(Db (f i))[j]?:=by
 induction n with
 |zero=>omega
 |succ n ih=>
  show(pL f n++Db (f n))[i*11+j]?=_;by_cases h:i<n
  ·rw[Aaf (by rw[CU];omega),ih h]
  ·have:i=n:=oa;subst this;rw[Aaj (by rw[CU];omega),CU,show i*11+j-i*11=j by omega]
def iL(f:Nat->Int):Nat->List Value
 |0=>[]
 |k+1=>iL f k++[J (f k)]
theorem BL(f:Nat->Int)(n:Nat):(iL f n).length=n:=by
 induction n with
 |zero=>rfl
 |succ n ih=>simp[iL,ih]
theorem F7{f:Nat->Int}(hi:i<n):(iL f n)[i]?=some (J (f i)):=by
 induction n with
 |zero=>omega
 |succ n ih=>
  show(iL f n++[J (f n)])[i]?=_;by_cases h:i<n
  ·rw[Aaf (by rw[BL];omega),ih h]
  ·have:i=n:=oa;subst this;rw[Aaj (by rw[BL];omega),BL];simp
abbrev Ck(w:Y)(base:Nat)(v:V9)(n:Nat)(f:Nat->Pr):Prop:=w.ownsRow base 96 11 v n (pL f n)
abbrev BG(w:Y)(base:Nat)(v:V9)(n:Nat)(f:Nat->Int):Prop:=w.ownsRow base 3 1 v n (iL f n)
theorem Ck.at{w:Y}{v:V9}{f:Nat->Pr}(h:Ck w base v n f):∃a d,v=.slice a n d/\UW w a n f:=by
 have h':=h;obtain⟨hl,⟨b,e⟩|⟨g,cap,cur,b,hb,c,h1,h2,h3,h4⟩⟩:=h'
 ·subst b e;exact⟨none,0,rfl,.inl rfl⟩
 ·subst b;refine⟨_,_,rfl,.inr ⟨g,0,rfl,(h.lt g rfl).2,fun i hi=>Hc.of fun j u hu=>?_⟩⟩;have hj:j<11:=by
   have:=(It.1 hu).1;simpa[Db]using this
  rw[Wx,IH h _ oa,Ig hi hj,hu]
theorem BG.at{w:Y}{v:V9}{f:Nat->Int}(h:BG w base v n f):∃a d,v=.slice a n d/\UU w a n f:=by
 have h':=h;obtain⟨hl,⟨b,e⟩|⟨g,cap,cur,b,hb,c,h1,h2,h3,h4⟩⟩:=h'
 ·subst b e;exact⟨none,0,rfl,.inl rfl⟩
 ·subst b;refine⟨_,_,rfl,.inr ⟨g,0,rfl,(h.lt g rfl).2,fun i hi=>?_⟩⟩;rw[Wx,IH h _ oa,F7 hi]
abbrev PZ:Value:=.agg #[J 0,J 0,F9 0,E9,J 0,J 0,J 0,F9 0,E9,J 0,J 0]
theorem FB:(prog.info? 96).map (fun i=>(i.zero,i.size,i.bytes))=some (some PZ,11,104):=og
theorem QG:(prog.info? 3).map (fun i=>(i.zero,i.size,i.bytes))=some (some (J 0),1,8):=og
theorem Fh(p:Pr):∀u∈Db p,u.oneCell'=true:=by
 intro u hu;simp only[Db,List.mem_cons,AaD,or_false]at hu;rcases hu with rfl|rfl|rfl|rfl|rfl|rfl|rfl|rfl|rfl|rfl|rfl<;>rfl
theorem Aa{w:Y}{v:V9}(h:o≠o'):(w.setCell (G b o) v).cell? (G b o')=w.cell? (G b o'):=by
 apply World.cell?_setCell_other;intro e;cases e;exact h rfl
theorem Aq{w:Y}{b':Nat}{v:V9}(h:b≠b'):(w.setCell (G b o) v).cell? (G b' o')=w.cell? (G b' o'):=by
 apply World.cell?_setCell_other;intro e;cases e;exact h rfl
theorem DN(w:Y)(a:Addr)(v:V9):w.grownBy (w.setCell a v) (some a.block):=⟨rfl,rfl,rfl,od,fun k _ b=>A0 _ _ _ _ (fun e=>b (by rw[e]))⟩
theorem FT{w w':Y}{v:V9}(a:w.grownBy w' v.ownBlock)(b:∀q,v.ownBlock=some q->B<=q)(c:B<=w.heap.size):Below B w w':=
 ⟨a.os,a.tape,a.output,a.size,fun k hk=>a.block k oa (fun e=>oj (b k e.symm))⟩
theorem EW{w:Y}{a e:Nat}{v:V9}(h:w.ownsRow base e size v n xs)(hb:a<=base):w.ownsRow a e size v n xs:=by
 obtain⟨hl,h|⟨g,cap,cur,h1,h2,h3⟩⟩:=h
 ·exact⟨hl,.inl h⟩
 ·exact⟨hl,.inr ⟨g,cap,cur,h1,GO hb h2,h3⟩⟩
theorem Ed{w w':Y}{e:Nat}{v:V9}(h:w.ownsRow base e size v n xs)(hs:w.heap.size<=w'.heap.size)(hq:∀q,base<=q->q<w.heap.size->w'.heap[q]?=w.heap[q]?):w'.ownsRow base e size v n xs:=by
 obtain⟨hl,h|⟨g,cap,cur,h1,h2,h3,h4⟩⟩:=h
 ·exact⟨hl,.inl h⟩
 ·exact⟨hl,.inr ⟨g,cap,cur,h1,h2,(hq g h2 (GC.1 h3).1).trans h3,h4⟩⟩
end
theorem Ae{w w':Y}{v:V9}(h:w.ownsRow B e size v n xs)(hk:∀g,v.ownBlock=some g->w'.heap[g]?=w.heap[g]?):w'.ownsRow B e size v n xs:=by
 refine⟨h.1,?_⟩;rcases h.2 with hn|⟨g,cap,cur,a,hb,b,rest⟩
 ·exact .inl hn
 ·exact .inr ⟨g,cap,cur,a,hb,(hk g (by rw[a];rfl)).trans b,rest⟩
structure Br (O:Nat->Prop) (w:Y) (O':Nat->Prop) (w':Y):Prop where
 os:w'.os=w.os
 tape:w'.tape=w.tape
 output:w'.output=w.output
 size:w.heap.size<=w'.heap.size
 block:∀k,k<w.heap.size->¬O k->w'.heap[k]?=w.heap[k]?
 own:∀k,O' k->O k\/w.heap.size<=k
theorem Br.refl(Z:Nat->Prop)(w:Y):Br Z w Z w:=⟨rfl,rfl,rfl,Be _,fun _ _ _=>rfl,fun _ h=>.inl h⟩
theorem Br.trans{a:Nat->Prop}{w w' b:Y}(h:Br Z w O' w')(g:Br O' w' a b):Br Z w a b:=
 ⟨g.os.trans h.os,g.tape.trans h.tape,g.output.trans h.output,GO h.size g.size,
  fun k hk hn=>(g.block k (At hk h.size) (fun e=>by
   rcases h.own k e with e|e
   ·exact hn e
   ·omega)).trans (h.block k hk hn),
  fun k e=>by
   rcases g.own k e with e|e
   ·exact h.own k e
   ·exact .inr (GO h.size e)⟩
theorem Br.below{w w' a:Y}(h:Br Z w O' w')(hb:B9 w' a):Br Z w O' a:=
 h.trans ⟨hb.os,hb.tape,hb.output,hb.size,fun k hk _=>hb.block k hk,fun _ h=>.inl h⟩
theorem Br.Ar{w w':Y}(hb:B9 w w'):Br Z w Z w':=(Br.refl Z w).below hb
theorem F2{α:Type}(f:Nat->α)(i:Nat)(a b:α):AY (AY f i a) i b=AY f i b:=by
 funext j
 by_cases e:j=i
 ·subst e;rw[Ak,Ak]
 ·rw[Al _ _ e,Al _ _ e,Al _ _ e]
theorem Lj{α:Type}(f:Nat->α)(i:Nat):AY f i (f i)=f:=by
 funext j
 by_cases e:j=i
 ·subst e;rw[Ak]
 ·rw[Al _ _ e]
abbrev FL(w:Y)(g o:Nat)(v:Vl):World:=((((w.setCell (G g o) (J v.kind)).setCell (G g (o+1)) (J v.num)).setCell (G g (o+2)) (F9 v.Ag)).setCell (G g (o+3)) (.string v.str)).setCell (G g (o+4)) (J v.ref)
theorem DR(w:Y)(g o:Nat)(v:Vl){k:Nat}(hk:k≠g):(FL w g o v).heap[k]?=w.heap[k]?:=by
 unfold FL;iterate 5 rw[A0 _ _ _ _ (by exact hk)]
theorem cW(w:Y)(g o:Nat)(v:Vl):(FL w g o v).os=w.os/\(FL w g o v).tape=w.tape/\(FL w g o v).output=w.output/\(FL w g o v).heap.size=w.heap.size:=by
 have hb:Below 0 w (FL w g o v):=by
  unfold FL;iterate 5 (refine PC ?_ (Re _) _)
  exact Cs _ _
 exact⟨hb.os,hb.tape,hb.output,by simp[FL]⟩
theorem Le(w:Y)(a:Addr)(v:V9):(w.setCell a v).os=w.os/\(w.setCell a v).tape=w.tape/\(w.setCell a v).output=w.output/\(w.setCell a v).heap.size=w.heap.size:=by
 have hb:Below 0 w (w.setCell a v):=(Cs _ _).setCell (Re _) _;exact⟨hb.os,hb.tape,hb.output,od⟩
theorem WY{w:Y}{B':Nat}{v:V9}(h:w.ownsRow B e size v n xs)(hb:B'<=B):w.ownsRow B' e size v n xs:=by
 refine⟨h.1,?_⟩;rcases h.2 with hn|⟨g,cap,cur,b,a,rest⟩
 ·exact .inl hn
 ·exact .inr ⟨g,cap,cur,b,GO hb a,rest⟩
theorem QA{w w':Y}{row:Option Nat}(h:w.grownBy w' row)(a:∀q,row=some q->B<=q)(b:B<=w.heap.size):Below B w w':=
 ⟨h.os,h.tape,h.output,h.size,fun k hk=>h.block k oa (fun e=>oj (a k e.symm))⟩
theorem SC(wr:Y)(o1:Obj)(cs:List Value)(t:TypeId):∀j u,cs[j]?=some u->((wr.alloc o1).alloc (.cells cs.toArray t)).cell? (((Y9 wr 0):Addr).add j)=some u:=by
 have hb:=BE (wr.alloc o1) (.cells cs.toArray t);have hz:(wr.alloc o1).heap.size=wr.heap.size+1:=od;rw[hz]at hb;exact H8 hb
def Og(w:Y)(b:Nat)(a:Ac):Prop:=w.heap[b]?=some (.cells (Dn a) 51 (0,0))
def Ge(w:Y)(b:Nat):Prop:=w.heap[b]?=some (.cells Om 45 (0,0))
theorem Ah{w:Y}{o:Obj}(h:w.heap[b]?=some o):b<w.heap.size:=by
 rcases Nat.lt_or_ge b w.heap.size with h1|h1
 ·exact h1
 ·rw[Array.getElem?_eq_none h1]at h;cases h
theorem Og.lt{w:Y}{a:Ac}(h:Og w b a):b<w.heap.size:=Ah h
theorem Ge.lt{w:Y}(h:Ge w b):b<w.heap.size:=Ah h
theorem Og.below{w w':Y}{a:Ac}(h:Og w b a)(hb:Below B w w')(c:b<B):Og w' b a:=(hb.block b c).trans h
theorem Ge.below{w w':Y}(h:Ge w b)(hb:Below B w w')(a:b<B):Ge w' b:=(hb.block b a).trans h
theorem Og.all{w:Y}{a:Ac}(h:Og w b a):w.cell? (G b 0)=some (J a.op)/\w.cell? (G b 1)=some (J a.t)/\w.cell? (G b 2)=some (J a.site)/\w.cell? (G b 3)=some (J a.n)/\w.cell? (G b 4)=some (J a.k.kind)/\w.cell? (G b 5)=some (J a.k.num)/\w.cell? (G b 6)=some (F9 a.k.Ag)/\w.cell? (G b 7)=some (.string a.k.str)/\w.cell? (G b 8)=some (J a.k.ref)/\w.cell? (G b 9)=some (J a.v.kind)/\w.cell? (G b 10)=some (J a.v.num)/\w.cell? (G b 11)=some (F9 a.v.Ag)/\w.cell? (G b 12)=some (.string a.v.str)/\w.cell? (G b 13)=some (J a.v.ref):=by
 unfold Og at h;refine⟨?_,?_,?_,?_,?_,?_,?_,?_,?_,?_,?_,?_,?_,?_⟩;all_goals(rw[MM w b _ _ _ _ h];rfl)
theorem boxes(w:Y)(a:Ac):∃W,W=(w.alloc (.cells (Dn a) 51)).alloc (.cells Om 45)/\B9 w W/\Og W w.heap.size a/\Ge W (w.heap.size+1)/\w.heap.size+1<W.heap.size:=by
 refine⟨_,rfl,(n9).alloc od _,?_,?_,od⟩
 ·refine((Cs (w.alloc (.cells (Dn a) 51)).heap.size _).alloc (Be _) _).block _ od |>.trans (BE w _)
 ·have h:=BE (w.alloc (.cells (Dn a) 51)) (.cells Om 45);rw[show(w.alloc (.cells (Dn a) 51)).heap.size=w.heap.size+1 by simp]at h;exact h
theorem Ay{w:Y}{v:V9}(h:w.ownsRow B e size v n xs):∃a b,v=.slice a n b:=by
 rcases h.2 with hn|⟨g,cap,cur,c,hb,d,rest⟩
 ·obtain⟨h1,h2⟩:=hn;subst h1 h2;exact⟨_,_,rfl⟩
 ·exact⟨_,_,c⟩
theorem JT{w:Y}{cs:Array Value}{ty:TypeId}(h:w.heap[c]?=some (.cells cs ty (0,0)))(u:V9):(w.setCell (G c j) u).heap[c]?=some (.cells (cs.setIfInBounds j u) ty (0,0)):=by
 simp[World.setCell,Array.getElem?_modify,h]
theorem Vj:(prog.info? 45).map (fun i=>(i.zero,i.size,i.bytes))=some (some (.agg Om),12,112):=og
section
attribute [local go_sem] Am Aj
def nY:Ds:=⟨0,fun _=>default,0,fun _=>⟨#[]⟩⟩
def Qj(g:Nat->An):Nat->List Value
 |0=>[]
 |k+1=>Qj g k++Ey (g k)
theorem Jm(g:Nat->An)(n:Nat):(Qj g n).length=n*12:=by
 induction n with
 |zero=>rfl
 |succ n ih=>simp[Qj,ih,Ey];omega
theorem aO{g:Nat->An}(hi:i<n)(hj:j<12):(Qj g n)[i*12+j]?=(Ey (g i))[j]?:=by
 induction n with
 |zero=>omega
 |succ n ih=>
  show(Qj g n++Ey (g n))[i*12+j]?=_;by_cases h:i<n
  ·rw[Aaf (by rw[Jm];omega),ih h]
  ·have:i=n:=oa;subst this;rw[Aaj (by rw[Jm];omega),Jm,show i*12+j-i*12=j by omega]
def Tu(w:Y)(v:V9)(n:Nat)(f:Nat->Ac):Prop:=
 ∃b a,v=S9 b n a/\b<w.heap.size/\∀i,i<n->∀j u,(Dn (f i)).toList[j]?=some u->w.cell? (G b (i*14+j))=some u
abbrev Mv(w:Y)(B:Nat)(v:V9)(n:Nat)(g:Nat->An):Prop:=w.ownsRow B 45 12 v n (Qj g n)
def jE(x:An):Value:=Dw x
theorem iH(w:Y):(sizeOf 45).run prog w=.ok 12 w:=og
theorem Qi(x:An):∀u∈Ey x,u.oneCell'=true:=by
 intro u h;simp only[Ey,List.mem_cons,AaD,or_false]at h;rcases h with rfl|rfl|rfl|rfl|rfl|rfl|rfl|rfl|rfl|rfl|rfl|rfl<;>rfl
theorem ZF(w:Y)(x:An):(Instr.storeAt 45 (Q9 w.heap.size) (jE x)).run prog (w.alloc (.cells Om 45))=.ok () (w.alloc (.cells (Ey x).toArray 45)):=by
 have h:=Eo (P:=prog) w 45 (Ey x) [] Om.toList rfl (Qi x);have hs:=iH;unfold Instr.storeAt storeVar;simp only[W9,XN]at h;have hc:(jE x).cells.toList=Ey x:=rfl;have hn:(jE x).cells.size=12:=rfl;simp only[AaR];have a:∀w',(Instr.sureAddr (Q9 w.heap.size)).run prog w'=.ok (y w 0) w':=fun w'=>by simp[go_sem]
 simp[a,hs,hc,hn];exact h
theorem VS{w:Y}{x:An}(h:w.heap[b]?=some (.cells (Ey x).toArray 45 (0,0))):∀j u,(Ey x)[j]?=some u->w.cell? (G b j)=some u:=fun j u hu=>by
 rw[MM w b j _ _ _ h];simpa using hu
def Oq(S:Nat)(w:Y)(a:T9)(n:Nat)(L:Nat->List Value):Prop:=
 n=0\/∃b,a=some (G b 0)/\b<w.heap.size/\∀i,i<n->∀j u,(L i)[j]?=some u->w.cell? (G b (i*S+j))=some u
theorem Oq.keep{w w':Y}{a:Option Addr}(h:Oq S w a n L)(hs:w.heap.size<=w'.heap.size)(hk:∀b,a=some (G b 0)->w'.heap[b]?=w.heap[b]?):Oq S w' a n L:=by
 rcases h with h|⟨b,e,hl,hc⟩
 ·exact .inl h
 ·exact .inr ⟨b,e,At hl hs,fun i hi j u hu=>(As (a:=(G b (i*S+j))) (hk b e)).trans (hc i hi j u hu)⟩
theorem Oq.below{w w':Y}{a:Option Addr}(h:Oq S w a n L)(hb:B9 w w'):Oq S w' a n L:=by
 rcases h with h|⟨b,e,hl,hc⟩
 ·exact .inl h
 ·exact Oq.keep (.inr ⟨b,e,hl,hc⟩) hb.size (fun b' e'=>by rw[e]at e';cases e';exact hb.block b hl)
theorem Mv.rat{w:Y}{a:Option Addr}{g:Nat->An}(h:Mv w B (.slice a n c) n g):Oq 12 w a n (fun i=>Ey (g i)):=by
 rcases W0 n with h0|h0
 ·exact .inl h0
 ·obtain⟨b,d,e,hb,hl⟩:=h.form h0;cases e;refine .inr ⟨b,rfl,hl,fun i hi j u hu=>?_⟩;have hj:j<12:=by
   have:=(It.1 hu).1;exact this
  rw[IH h (i*12+j) oa,aO hi hj,hu]
theorem RD(p:An)(w:Y):
  C9 59 #[Dw p,Dw p] w (R9 (.bool true) w):=by
 go_enter func59,ntmps59
 go_wp2_with fail
 refine m9 (C7 p.key.kind p.key.num p.key.Ag p.key.str p.key.ref _) fun w1 a=>?_;obtain⟨f,g⟩:=Bo a;have d:=a.size;simp at d;have j:w.heap.size<w1.heap.size:=oa;have k:w.heap.size+1<w1.heap.size:=oa;have c:Hid (B9 w w1):=O (((n9).alloc od _).trans (a.mono oe));clear a;go_wp2_with fail;refine m9 (C7 p.val.kind p.val.num p.val.Ag p.val.str p.val.ref _) fun w2 b=>?_;obtain⟨h,i⟩:=Bo b;have e:=O (oo c b);clear b;go_wp2;go_ret;exact⟨rfl,e⟩
theorem Qt(a a':T9)(n cap m:Nat)(f:Nat->An)(w:Y)(hA:Oq 12 w a n (fun i=>Ey (f i)))(A:Oq 12 w a' n (fun i=>Ey (f i)))(hn:n<=4194304):
  C9 70 #[.slice a n cap,.slice a' n m] w (R9 (.bool true) w):=by
 have B:=O hA;have C:=O A;clear hA A
 go_enter func70,ntmps70
 go_wp2;go_loopw [5] (fun i wr=>∃(k:Nat),k<=n/\i=J k/\B9 w wr) (fun i _=>n-(intOf i).toNat)
 case atStart=>exact⟨0,oa,rfl,Cs _ _⟩
 case round=>
  obtain⟨k,hk,rfl,hb⟩:=hrel;by_cases o:k<n
  ·obtain⟨b,rfl,q,hcs⟩:=B.resolve_left oa;obtain⟨b',rfl,e,g⟩:=C.resolve_left oa;have c:∀j u,(Ey (f k))[j]?=some u->wr.cell? (G b (k*12+j))=some u:=fun j u hu=>ol hb q (hcs k o j u hu);have d:∀j u,(Ey (f k))[j]?=some u->wr.cell? (G b' (k*12+j))=some u:=fun j u hu=>ol hb e (g k o j u hu);obtain⟨e0,e1,e2,e3,D,E,F,H,I,L,t,v⟩:=oq c;rw[W4]at e0;obtain⟨d0,d1,d2,d3,d4,d5,d6,d7,d8,d9,d10,d11⟩:=oq d;rw[W4]at d0;have hx:b<wr.heap.size:=At q hb.size;have M:b'<wr.heap.size:=At e hb.size;have r:=O hb;clear hb hcs g c d;go_wp2_with fail;refine qr wr ?_;refine N (h:=N (h:=N (h:=N (h:=N (h:=N (h:=N (h:=N (h:=?_))))))));refine GS (fun K hK=>?_);go_simp;refine⟨_,fun w' x=>qk x (RD (f k) _),hK _ ?_⟩;clear hK K;refine N (h:=?_);refine H7 ?_;intro w2 s;have l:=O (oo r s);clear s e0 d0 e1 d1 e2 d2 e3 d3 D d4 E d5 F d6 H d7 I d8 L d9 t d10 v d11;go_wp2;go_roundw
   case rel=>exact⟨k+1,oa,oh,l⟩
   case measure=>simp[intOf];omega
  ·have:k=n:=oa;subst this;have l:=O hb;clear hb;go_wp2;go_ret;exact⟨rfl,l⟩
def U0(a:Ac):List Value:=(Dn a).toList
theorem RB(p:Ac)(w:Y):
  C9 71 #[Lm p,Lm p] w (R9 (.bool true) w):=by
 go_enter func71,ntmps71
 go_wp2_with fail
 refine m9 (C7 p.k.kind p.k.num p.k.Ag p.k.str p.k.ref _) fun w1 a=>?_;obtain⟨f,g⟩:=Bo a;have d:=a.size;simp at d;have j:w.heap.size<w1.heap.size:=oa;have l:w.heap.size+1<w1.heap.size:=oa;have c:Hid (B9 w w1):=O (((n9).alloc od _).trans (a.mono oe));clear a;go_wp2_with fail;refine m9 (C7 p.v.kind p.v.num p.v.Ag p.v.str p.v.ref _) fun w2 b=>?_;obtain⟨h,i⟩:=Bo b;have e:=O (oo c b);clear b;go_wp2;go_ret;exact⟨rfl,e⟩
theorem Qs(a a':T9)(n cap m:Nat)(f:Nat->Ac)(w:Y)(hA:Oq 14 w a n (fun i=>U0 (f i)))(C:Oq 14 w a' n (fun i=>U0 (f i)))(hn:n<=4194304):
  C9 25 #[.slice a n cap,.slice a' n m] w (R9 (.bool true) w):=by
 have D:=O hA;have E:=O C;clear hA C
 go_enter func25,ntmps25
 go_wp2;go_loopw [5] (fun i wr=>∃(k:Nat),k<=n/\i=J k/\B9 w wr) (fun i _=>n-(intOf i).toNat)
 case atStart=>exact⟨0,oa,rfl,Cs _ _⟩
 case round=>
  obtain⟨k,hk,rfl,hb⟩:=hrel;by_cases o:k<n
  ·obtain⟨b,rfl,q,hcs⟩:=D.resolve_left oa;obtain⟨b',rfl,e,g⟩:=E.resolve_left oa;have c:∀j u,(U0 (f k))[j]?=some u->wr.cell? (G b (k*14+j))=some u:=fun j u hu=>ol hb q (hcs k o j u hu);have d:∀j u,(U0 (f k))[j]?=some u->wr.cell? (G b' (k*14+j))=some u:=fun j u hu=>ol hb e (g k o j u hu);obtain⟨e0,e1,e2,e3,F,H,I,L,M,P,t,v,x,A⟩:=ot c;rw[W4]at e0;obtain⟨d0,d1,d2,d3,d4,d5,d6,d7,d8,d9,d10,d11,d12,d13⟩:=ot d;rw[W4]at d0;have hx:b<wr.heap.size:=At q hb.size;have Q:b'<wr.heap.size:=At e hb.size;have r:=O hb;clear hb hcs g c d;go_wp2_with fail;refine qr wr ?_;refine N (h:=N (h:=N (h:=N (h:=N (h:=N (h:=N (h:=N (h:=?_))))))));refine GS (fun K hK=>?_);go_simp;refine⟨_,fun w' B=>qk B (RB (f k) _),hK _ ?_⟩;clear hK K;refine N (h:=?_);refine H7 ?_;intro w2 s;have l:=O (oo r s);clear s e0 d0 e1 d1 e2 d2 e3 d3 F d4 H d5 I d6 L d7 M d8 P d9 t d10 v d11 x d12 A d13;go_wp2;go_roundw
   case rel=>exact⟨k+1,oa,oh,l⟩
   case measure=>simp[intOf];omega
  ·have:k=n:=oa;subst this;have l:=O hb;clear hb;go_wp2;go_ret;exact⟨rfl,l⟩
def eQ(w:Y)(a:T9)(n:Nat)(f:Nat->Ac):Prop:=
 n=0\/∃b off,a=some (G b off)/\b<w.heap.size/\∀i,i<n->∀j u,(U0 (f i))[j]?=some u->w.cell? (G b (off+i*14+j))=some u
theorem eQ.below{w w':Y}{a:Option Addr}{f:Nat->Ac}(h:eQ w a n f)(hb:B9 w w'):eQ w' a n f:=by
 rcases h with h|⟨b,off,e,hl,hc⟩
 ·exact .inl h
 ·exact .inr ⟨b,off,e,At hl hb.size,fun i hi j u hu=>ol hb hl (hc i hi j u hu)⟩
abbrev iX:Value:=.agg #[J 0,J 0,J 0,J 0,J 0,J 0,F9 0,E9,J 0,J 0,J 0,F9 0,E9,J 0]
theorem bQ:(prog.info? 51).map (fun i=>(i.zero,i.size,i.bytes))=some (some iX,14,128):=og
theorem WQ(n:Nat)(hn:n<=1048576)(w:Y):
  (Instr.makeSlice 64 (J (n:Int)) (J (n:Int))).run prog w=.ok (S9 w.heap.size n n) (w.alloc (.cells (madeCells iX.cells (n*14)) 51)):=by
 obtain⟨i,hi,hz,hs,hb⟩:=P9 bQ;have:=run_make (P:=prog) w 64 51 i _ underlying64 hi hz .i64 .i64 n n oa (AaI _) (by rw[hb];omega) oa;simp only[NO,hs]at this;exact this
theorem WO(w:Y)(m:Nat):∃g,(w.alloc (.cells (madeCells iX.cells m) 51)).rowIs w.heap.size 51 m g:=by
 have h:=Aaz w (madeCells iX.cells m) 51 (fun i=>((madeCells iX.cells m)[i]?).getD undef) (fun i hi=>by rw[Aag hi];rfl);rw[size_madeCells]at h;exact⟨_,h⟩
def jD(f:Nat->Ac)(j:Nat):Value:=((U0 (f (j/14)))[j%14]?).getD undef
theorem X0(f:Nat->Ac)(k i:Nat)(hi:i<14):jD f (k*14+i)=((U0 (f k))[i]?).getD undef:=by
 unfold jD;rw[show(k*14+i)/14=k by omega,show(k*14+i)%14=i by omega]
theorem G5(a:T9)(n cap:Nat)(f:Nat->Ac)(w:Y)(hA:eQ w a n f)(hn:n<=1048576):
  C9 22 #[.slice a n cap] w fun e w'=>(e=.returned (S9 w.heap.size n n)/\∃g,w'.rowIs w.heap.size 51 (n*14) g/\∀j,j<n*14->g j=jD f j)/\B9 w w':=by
 have A:=WQ n hn;have L:=O (WO w (n*14));have M:=O hA;clear hA
 go_enter func22,ntmps22
 go_wp2;clear A;go_loopw [4] (fun i wr=>∃(k:Nat) (g:Nat->Value),k<=n/\i=J k/\B9 w wr/\wr.rowIs w.heap.size 51 (n*14) g/\∀j,j<k*14->g j=jD f j) (fun i _=>n-(intOf i).toNat)
 case atStart=>
  obtain⟨g,P⟩:=z L;exact⟨0,g,oa,rfl,n9,P,fun j hj=>oa⟩
 case round=>
  clear L;obtain⟨k,g,hk,rfl,hb,h,m⟩:=hrel;by_cases B:k<n
  ·obtain⟨b,off,rfl,r,hcs⟩:=M.resolve_left oa;have l:∀j u,(U0 (f k))[j]?=some u->wr.cell? (G b (off+k*14+j))=some u:=fun j u hu=>ol hb r (hcs k B j u hu);obtain⟨e0,e1,e2,e3,Q,R,S,T,U,V,C,D,E,F⟩:=ot l;rw[W4]at e0;have hx:b<wr.heap.size:=At r hb.size;have H:=Ok h;have x:=O hb;have W:=O h;have o:=O m;clear hcs hb h m l;go_wp2_with fail;refine m9 (Xv (f k) _) fun w1 q=>?_;have c:=RC W (q.block _ H);have X:=c.lt;have d0:=c.cell (i:=k*14) oa;have f0:=c.frozen (k*14);have d1:=c.cell (i:=k*14+1) oa;have f1:=c.frozen (k*14+1);have d2:=c.cell (i:=k*14+2) oa;have f2:=c.frozen (k*14+2);have d3:=c.cell (i:=k*14+3) oa;have f3:=c.frozen (k*14+3);have d4:=c.cell (i:=k*14+4) oa;have f4:=c.frozen (k*14+4);have d5:=c.cell (i:=k*14+5) oa;have f5:=c.frozen (k*14+5);have d6:=c.cell (i:=k*14+6) oa;have f6:=c.frozen (k*14+6);have d7:=c.cell (i:=k*14+7) oa;have f7:=c.frozen (k*14+7);have d8:=c.cell (i:=k*14+8) oa;have f8:=c.frozen (k*14+8);have d9:=c.cell (i:=k*14+9) oa;have f9:=c.frozen (k*14+9);have d10:=c.cell (i:=k*14+10) oa;have f10:=c.frozen (k*14+10);have d11:=c.cell (i:=k*14+11) oa;have f11:=c.frozen (k*14+11);have d12:=c.cell (i:=k*14+12) oa;have f12:=c.frozen (k*14+12);have d13:=c.cell (i:=k*14+13) oa;have f13:=c.frozen (k*14+13);have Z:=O (((((((((((((((c.set (k*14) (J (f k).op)).set (k*14+1) (J (f k).t)).set (k*14+2) (J (f k).site)).set (k*14+3) (J (f k).n)).set (k*14+4) (J (f k).k.kind)).set (k*14+5) (J (f k).k.num)).set (k*14+6) (F9 (f k).k.Ag)).set (k*14+7) (.string (f k).k.str)).set (k*14+8) (J (f k).k.ref)).set (k*14+9) (J (f k).v.kind)).set (k*14+10) (J (f k).v.num)).set (k*14+11) (F9 (f k).v.Ag)).set (k*14+12) (.string (f k).v.str)).set (k*14+13) (J (f k).v.ref)));have I:=O (oo x q);clear q c e0 e1 e2 e3 Q R S T U V C D E F;go_wp2_with fail;go_roundw
   case rel=>
    refine⟨k+1,_,oa,oh,?_,Z,fun j hj=>?_⟩
    ·repeat(refine PC ?_ (by exact Be _) _)
     exact I
    ·by_cases K:j<k*14
     ·have d:∀i,i<14->j≠k*14+i:=fun i _=>oa;simp only[show j≠k*14 by omega,d 1 oa,d 2 oa,d 3 oa,d 4 oa,d 5 oa,d 6 oa,d 7 oa,d 8 oa,d 9 oa,d 10 oa,d 11 oa,d 12 oa,d 13 oa,Tn];exact o j K
     ·obtain⟨i,hi,rfl⟩:∃i,i<14/\j=k*14+i:=⟨j-k*14,oa,oa⟩;rw[X0 _ k i hi];rcases(by omega:i=0\/i=1\/i=2\/i=3\/i=4\/i=5\/i=6\/i=7\/i=8\/i=9\/i=10\/i=11\/i=12\/i=13)with rfl|rfl|rfl|rfl|rfl|rfl|rfl|rfl|rfl|rfl|rfl|rfl|rfl|rfl<;>simp[U0]
   case measure=>simp[intOf];omega
  ·have s:k=n:=oa;subst s;have o:=O (And.intro h m);have x:=O hb;clear m hb h;go_wp2_with fail;go_ret;exact⟨⟨rfl,g,o⟩,x⟩
theorem dA(a:Ac)(left:Int)(h:0<=left):aC a left=-1\/(0<=aC a left/\aC a left<=left):=by
 unfold aC
 split
 ·exact .inl rfl
 ·split
  ·exact .inl rfl
  ·right;omega
theorem UH(a:T9)(n cap:Nat)(f:Nat->Ac)(w:Y)(hA:eQ w a n f)(H:n<=maxLen)(hk:∀i,i<n->(f i).k.str.size<=maxLen/\(f i).v.str.size<=maxLen):
  C9 20 #[.slice a n cap,J 1048576] w fun e w'=>(∃r:Int,e=.returned (J r)/\(r=-1\/(0<=r/\n<=1048576)))/\B9 w w':=by
 have I:n<=9223372036854775807:=by simpa[maxLen]using H
 have K:=O hA;have HK:=O hk;have x:IntKind.i64.wrap (1048576-(n:Int))=1048576-(n:Int):=by rw[Hi];omega
 clear hA hk H;by_cases hb:1048576<n
 ·have d0:decide (1048576-(n:Int)<0)=true:=oe;have d1:decide ((1048576:Int)<(n:Int))=true:=oe;clear hb
  go_enter func20,ntmps20
  go_wp2;go_ret;exact⟨⟨-1,rfl,.inl rfl⟩,Cs _ _⟩
 ·have hn:n<=1048576:=oa;have d0:decide (1048576-(n:Int)<0)=false:=oe;have d1:decide ((1048576:Int)<(n:Int))=false:=oe;clear hb
  go_enter func20,ntmps20
  go_wp2;clear x;go_loopw [1,5] (fun q i wr=>∃(k:Nat) (X:Int),k<=n/\i=J k/\q=J X/\0<=X/\X<=1048576/\B9 w wr) (fun _ i _=>n-(intOf i).toNat)
  case atStart=>exact⟨0,_,oa,rfl,rfl,oa,oa,Cs _ _⟩
  case round=>
   obtain⟨k,X,hk,rfl,rfl,d,A,hb⟩:=hrel;by_cases g:k<n
   ·obtain⟨b,off,rfl,l,hcs⟩:=K.resolve_left oa;have c:∀j u,(U0 (f k))[j]?=some u->wr.cell? (G b (off+k*14+j))=some u:=fun j u hu=>ol hb l (hcs k g j u hu);obtain⟨e0,e1,e2,e3,L,M,P,Q,R,S,B,C,D,E⟩:=ot c;rw[W4]at e0;have hx:b<wr.heap.size:=At l hb.size;have t:=O hb;clear hcs hb c;have F:=O (Xp (f k) X wr (HK k g).1 (HK k g).2 d A);go_wp2_with fail;refine F.mono ?_;rintro e w1 ⟨rfl,m⟩;have o:=O (oo t m);clear m e0 e1 e2 e3 L M P Q R S B C D E;rcases dA (f k) X d with h|⟨h1,h2⟩
    ·rw[h];clear h;go_wp2;go_ret;exact⟨⟨-1,rfl,.inl rfl⟩,o⟩
    ·generalize aC (f k) X=Z at*;have T:decide (Z<0)=false:=oe;go_wp2;go_roundw
     case rel=>exact⟨k+1,Z,oa,oh,rfl,h1,oa,o⟩
     case measure=>simp[intOf];omega
   ·have s:k=n:=oa;subst s;have t:=O hb;clear hb;go_wp2;go_ret;exact⟨⟨X,rfl,.inr ⟨d,hn⟩⟩,t⟩
end
theorem Cd(a b:List UInt8):(⟨a.toArray⟩++⟨b.toArray⟩:ByteArray)=⟨(a++b).toArray⟩:=by
 apply ByteArray.ext;simp
theorem F0{a b:ByteArray}(h:a=b):Ending.returned (.string a)=.returned (.string b):=by rw[h]
theorem GG(h:u<10):Lib.decDigits u=[UInt8.ofNat (48+u)]:=by rw[Lib.decDigits,dif_pos h]
theorem MY(h:¬u<10):Lib.decDigits u=Lib.decDigits (u/10)++[UInt8.ofNat (48+u%10)]:=by rw[Lib.decDigits,dif_neg h]
theorem Jq(u:Nat)(h:u<9223372036854775808):(Lib.decDigits u).length<=21:=by
 have:=AaY (u:Int) oa oa;rw[Lib.itoa,C3 oa]at this;simpa using this
def aA(u:Nat):UInt8:=UInt8.ofNat (48+u%10)
theorem MV(u:Nat)(wr:Y):(convert 71 9 (S9 wr.heap.size 1 1)).run prog (wr.alloc (.cells #[.int .u8 (48+(u:Int)%10)] 5))=.ok (.string ⟨[aA u].toArray⟩) (wr.alloc (.cells #[.int .u8 (48+(u:Int)%10)] 5)):=
 run_convert_bytes_back (P:=prog) (wr.alloc (.cells #[.int .u8 (48+(u:Int)%10)] 5)) 71 9 5 (y wr 0) 1 [aA u] underlying71 underlying5 underlying9 (by
  intro j hj;have:j=0:=by simpa using hj
  subst this;have e:(aA u).toNat=48+u%10:=by
   unfold aA;rw[UInt8.toNat_ofNat'];omega
  simp[Addr.add,go_sem,e])
def mark(k:Nat):ByteArray:=⟨(109::Lib.decDigits k).toArray⟩
def Ry(u:Nat):List UInt8:=if u=0 then[]else Lib.decDigits u
theorem VZ(h:0<u):Ry u=Ry (u/10)++[aA u]:=by
 unfold Ry;rw[C3 oa];by_cases a:u<10
 ·rw[GG a,DD oa];unfold aA;rw[So a];rfl
 ·rw[MY a,C3 oa];rfl
theorem A6(k:Nat)(hk:k<9007199254740992)(w:Y):
  C9 72 #[J (k:Int)] w (R9 (.string (mark k)) w):=by
 by_cases d:k=0
 ·subst d
  go_enter func72,ntmps72
  go_wp2;go_ret;exact⟨F0 (by unfold mark;rw[GG oa];rfl),Cs _ _⟩
 have hl:=Jq k oa;have f:Hid (Lib.decDigits k=Ry k):=O (by unfold Ry;rw[C3 d]);have g:0<k:=oa
 go_enter func72,ntmps72
 go_wp2;go_loopw [0,3] (fun a o wr=>∃(u:Nat) (l:List UInt8),u<=k/\a=J (u:Int)/\o=.string ⟨l.toArray⟩/\Lib.decDigits k=Ry u++l/\B9 w wr) (fun a _ _=>(intOf a).toNat)
 case atStart=>exact⟨k,[],Be _,rfl,rfl,by rw[z f];simp,Cs _ _⟩
 case round=>
  obtain⟨u,l,hu,rfl,rfl,c,hb⟩:=hrel;have e:Hid (Lib.decDigits k=Ry u++l):=c;have h:l.length<=21:=by have:=congrArg List.length c;rw[ON]at this;omega
  clear c;have i:=MV u wr;go_wp2
  ·have b:0<u:=by assumption
   go_roundw
   case rel=>
    refine⟨u/10,aA u::l,oa,oh,?_,?_,hb.alloc hb.size _⟩
    ·rw[Cd];rfl
    ·rw[e.out,VZ b,List.append_assoc];rfl
   case measure=>simp[intOf];omega
  ·have b:u=0:=oa;subst b;go_ret;refine⟨F0 ?_,hb⟩;unfold mark;rw[e.out];apply ByteArray.ext;simp[Ry]
structure Bu (b:Nat) (w w':Y):Prop where
 os:w'.os=w.os
 tape:w'.tape=w.tape
 output:w'.output=w.output
 size:w.heap.size<=w'.heap.size
 block:∀k,k<w.heap.size->k≠b->w'.heap[k]?=w.heap[k]?
theorem Bu.refl(b:Nat)(w:Y):Bu b w w:=⟨rfl,rfl,rfl,Be _,fun _ _ _=>rfl⟩
theorem Bu.trans{u v w:Y}(h:Bu b u v)(k:Bu b v w):Bu b u w:=
 ⟨k.os.trans h.os,k.tape.trans h.tape,k.output.trans h.output,GO h.size k.size,fun i hi hn=>(k.block i (At hi h.size) hn).trans (h.block i hi hn)⟩
theorem Bu.of{w w':Y}(h:B9 w w'):Bu b w w':=⟨h.os,h.tape,h.output,h.size,fun k hk _=>h.block k hk⟩
theorem Bu.set(b o:Nat)(w:Y)(v:V9):Bu b w (w.setCell (G b o) v):=⟨rfl,rfl,rfl,by simp[World.setCell],fun k _ hn=>A0 _ _ _ _ (by exact hn)⟩
theorem Bu.below{w w':Y}(h:Bu b w w')(hb:B<=b)(a:B<=w.heap.size):Below B w w':=⟨h.os,h.tape,h.output,h.size,fun k hk=>h.block k oa oa⟩
theorem Ys(k:Int)(b:0<=k)(hk:k<9007199254740992):(O9 (floatOfInt .f64 k) (floatOfInt .f64 k)!=some .eq)=false:=by
 obtain⟨q,l,a,hl,c⟩:=Fl.DP (decide (k<0)) k.natAbs (Fl.GH oa);have hx:Ieee.double.read (floatOfInt .f64 k)=.number (decide (k<0)) q l:=a;show(!(Ieee.double.order _ _==some .eq))=false;rw[Fl.Bi hx hx hl hl,Fl.B3];simp
section
attribute [local go_sem] Am Aj
theorem YX(b n cap Z s:Nat)(g:Nat->Value)(w:Y)(hA:w.rowIs b 51 Z g)(hN:n*14<=Z)(hn:n<=4194304)(hs:s<=100000000000000):
  C9 26 #[S9 b n cap,J (s:Int)] w fun e w'=>e=.returned (J ((s:Int)+14*(n:Int)))/\Bu b w w':=by
 have L:=O hA;clear hA
 go_enter func26,ntmps26
 go_wp2;go_loopw [1,5] (fun q i wr=>∃(k:Nat) (g:Nat->Value),k<=n/\i=J (k:Int)/\q=J ((s:Int)+14*(k:Int))/\Bu b w wr/\wr.rowIs b 51 Z g) (fun _ i _=>n-(intOf i).toNat)
 case atStart=>exact⟨0,g,oa,rfl,od,Bu.refl _ _,L⟩
 case round=>
  obtain⟨k,g,hk,rfl,rfl,hb,c⟩:=hrel;by_cases M:k<n
  ·have u:=c.lt;have l:∀w:World,_:=fun w=>A6 (s+14*k+7) oa w;rw[show((s+14*k+7:Nat):Int)=(s:Int)+14*(k:Int)+1+1+1+1+1+1+1 by omega]at l;have P:=O l;have f:∀w:World,_:=fun w=>A6 (s+14*k+12) oa w;rw[show((s+14*k+12:Nat):Int)=(s:Int)+14*(k:Int)+1+1+1+1+1+1+1+1+1+1+1+1 by omega]at f;have v:=O f;have x:=O hb;have A:=O c;clear hb l f;have d0:=c.cell (i:=k*14) oa;have e0:=c.frozen (k*14);have d1:=c.cell (i:=k*14+1) oa;have e1:=c.frozen (k*14+1);have d2:=c.cell (i:=k*14+2) oa;have e2:=c.frozen (k*14+2);have d3:=c.cell (i:=k*14+3) oa;have e3:=c.frozen (k*14+3);have d4:=c.cell (i:=k*14+4) oa;have Q:=c.frozen (k*14+4);have d5:=c.cell (i:=k*14+5) oa;have R:=c.frozen (k*14+5);have d6:=c.cell (i:=k*14+6) oa;have S:=c.frozen (k*14+6);have d7:=c.cell (i:=k*14+7) oa;have B:=c.frozen (k*14+7);have d8:=c.cell (i:=k*14+8) oa;have C:=c.frozen (k*14+8);have d9:=c.cell (i:=k*14+9) oa;have D:=c.frozen (k*14+9);have d10:=c.cell (i:=k*14+10) oa;have m:=c.frozen (k*14+10);have d11:=c.cell (i:=k*14+11) oa;have o:=c.frozen (k*14+11);have d12:=c.cell (i:=k*14+12) oa;have h:=c.frozen (k*14+12);have d13:=c.cell (i:=k*14+13) oa;have j:=c.frozen (k*14+13);clear c;go_wp2_with fail;refine(P _).mono ?_;rintro e w1 ⟨rfl,p⟩;have a:=(((((((A.set (k*14) (J ((s:Int)+14*(k:Int)))).set (k*14+1) (J ((s:Int)+14*(k:Int)+1))).set (k*14+2) (J ((s:Int)+14*(k:Int)+1+1))).set (k*14+3) (J ((s:Int)+14*(k:Int)+1+1+1))).set (k*14+4) (J ((s:Int)+14*(k:Int)+1+1+1+1))).set (k*14+5) (J ((s:Int)+14*(k:Int)+1+1+1+1+1))).set (k*14+6) (F9 (floatOfInt .f64 ((s:Int)+14*(k:Int)+1+1+1+1+1+1)))).of_block (p.block b (by simpa using u));have E:=a.lt;have F:=O ((((((((x.trans (Bu.set b (k*14) _ (J ((s:Int)+14*(k:Int))))).trans (Bu.set b (k*14+1) _ (J ((s:Int)+14*(k:Int)+1)))).trans (Bu.set b (k*14+2) _ (J ((s:Int)+14*(k:Int)+1+1)))).trans (Bu.set b (k*14+3) _ (J ((s:Int)+14*(k:Int)+1+1+1)))).trans (Bu.set b (k*14+4) _ (J ((s:Int)+14*(k:Int)+1+1+1+1)))).trans (Bu.set b (k*14+5) _ (J ((s:Int)+14*(k:Int)+1+1+1+1+1)))).trans (Bu.set b (k*14+6) _ (F9 (floatOfInt .f64 ((s:Int)+14*(k:Int)+1+1+1+1+1+1))))).trans (Bu.of p));have H:=O a;clear p d0 e0 d1 e1 d2 e2 d3 e3 d4 Q d5 R d6 S d7 B d8 C d9 D d10 m d11 o d12 h d13 j;have d7:=a.cell (i:=k*14+7) oa;have B:=a.frozen (k*14+7);have d8:=a.cell (i:=k*14+8) oa;have C:=a.frozen (k*14+8);have d9:=a.cell (i:=k*14+9) oa;have D:=a.frozen (k*14+9);have d10:=a.cell (i:=k*14+10) oa;have m:=a.frozen (k*14+10);have d11:=a.cell (i:=k*14+11) oa;have o:=a.frozen (k*14+11);have d12:=a.cell (i:=k*14+12) oa;have h:=a.frozen (k*14+12);have d13:=a.cell (i:=k*14+13) oa;have j:=a.frozen (k*14+13);clear a;go_wp2_with fail;refine(v _).mono ?_;rintro e w2 ⟨rfl,r⟩;have d:=(((((H.set (k*14+7) (.string (mark (s+14*k+7)))).set (k*14+8) (J ((s:Int)+14*(k:Int)+1+1+1+1+1+1+1+1))).set (k*14+9) (J ((s:Int)+14*(k:Int)+1+1+1+1+1+1+1+1+1))).set (k*14+10) (J ((s:Int)+14*(k:Int)+1+1+1+1+1+1+1+1+1+1))).set (k*14+11) (F9 (floatOfInt .f64 ((s:Int)+14*(k:Int)+1+1+1+1+1+1+1+1+1+1+1)))).of_block (r.block b (by simpa using E));have T:=d.lt;have I:=O ((((((F.trans (Bu.set b (k*14+7) _ (.string (mark (s+14*k+7))))).trans (Bu.set b (k*14+8) _ (J ((s:Int)+14*(k:Int)+1+1+1+1+1+1+1+1)))).trans (Bu.set b (k*14+9) _ (J ((s:Int)+14*(k:Int)+1+1+1+1+1+1+1+1+1)))).trans (Bu.set b (k*14+10) _ (J ((s:Int)+14*(k:Int)+1+1+1+1+1+1+1+1+1+1)))).trans (Bu.set b (k*14+11) _ (F9 (floatOfInt .f64 ((s:Int)+14*(k:Int)+1+1+1+1+1+1+1+1+1+1+1))))).trans (Bu.of r));have K:=O d;clear r d7 B d8 C d9 D d10 m d11 o d12 h d13 j;have d12:=d.cell (i:=k*14+12) oa;have h:=d.frozen (k*14+12);have d13:=d.cell (i:=k*14+13) oa;have j:=d.frozen (k*14+13);clear d;go_wp2;go_roundw
   case rel=>
    exact⟨k+1,_,oa,oh,oh,((I.trans (Bu.set b (k*14+12) _ (.string (mark (s+14*k+12))))).trans (Bu.set b (k*14+13) _ (J ((s:Int)+14*(k:Int)+1+1+1+1+1+1+1+1+1+1+1+1+1)))),((K.set (k*14+12) (.string (mark (s+14*k+12)))).set (k*14+13) (J ((s:Int)+14*(k:Int)+1+1+1+1+1+1+1+1+1+1+1+1+1)))⟩
   case measure=>simp[intOf];omega
  ·have t:k=n:=oa;subst t;have U:=O hb;clear hb c;go_wp2;go_ret;exact⟨rfl,U⟩
abbrev Pc(c o:Nat):Value:=.pointer (some (G c o))
theorem T8(v:Vl):(Df v=true/\J3 v.kind v.num v.Ag v.str v.ref=KV 0 v.kind v.num v.Ag v.str v.ref)\/(Df v=false/\∃c k n f t r,J3 v.kind v.num v.Ag v.str v.ref=KV c k n f t r/\(c≠0\/(v.kind=3/\k=2))):=by
 unfold J3 Df Vl.ok;by_cases a:Bh v.kind v.num v.Ag v.str v.ref=true
 ·rw[DD a,a];by_cases b:v.kind=0
  ·rw[DD b];right;exact⟨by simp[b],1,0,0,0,⟨#[]⟩,0,rfl,.inl oc⟩
  ·rw[C3 b];by_cases h3:v.kind=3
   ·rw[DD h3];by_cases hn:DW v.Ag=true
    ·rw[DD hn];right;exact⟨by simp[h3,hn],1,0,0,0,⟨#[]⟩,0,rfl,.inl oc⟩
    ·rw[C3 hn];by_cases d:Ci v.Ag=true
     ·rw[DD d];right;exact⟨by simp[h3,d],0,2,LU v.Ag,0,⟨#[]⟩,0,rfl,.inr ⟨h3,rfl⟩⟩
     ·rw[C3 d];left;exact⟨by simp[h3,hn,d],rfl⟩
   ·rw[C3 h3];left;exact⟨by simp[b,h3],rfl⟩
 ·rw[C3 a];right;have:Bh v.kind v.num v.Ag v.str v.ref=false:=by simpa using a
  exact⟨by rw[this];rfl,2,0,0,0,⟨#[]⟩,0,rfl,.inl oc⟩
theorem Jz{d:Dc}(h:DF d k=some (live,last))(a:(d.L k).turn=0):DF d (k+1)=if Gr (d.L k).key&&Gr (d.L k).val then some (live,last)else none:=by
 show(match DF d k with|none=>none|some (live,last)=>_)=_;rw[h];simp only[a,Aaw]
theorem JA{d:Dc}(h:DF d k=some (live,last))(a:(d.L k).turn≠0):DF d (k+1)=if PJ d.turns last (d.L k)then some (live+1,(d.L k).turn)else none:=by
 show(match DF d k with|none=>none|some (live,last)=>_)=_;rw[h];simp only[a,Tn]
theorem gL{d:Dc}(hk:k<d.n)(h:DF d (k+1)=none):tells (D2 d)=false:=Bq (fun⟨l,e⟩=>by rw[LI h oa]at e;cases e)
theorem FX(c o:Nat)(la:T9)(lc:Nat)(ia:T9)(ic:Nat)(xa:T9)(xc:Nat)(d:Dc)(v:Vl)(w:Y)(hD:KC w c o la lc ia ic xa xc d)(g:Small d):
  C9 219 #[Pc c o,V v.kind v.num v.Ag v.str v.ref] w (R9 (.bool (tells (AA d.m v))) w):=by
 have j:=g.m;have c1:=hD.c1;have i:=hD.lt;clear hD g;by_cases h1:v.kind=2
 case neg=>
  have a:=O (Bq (p:=AA d.m v) (fun h=>h1 h.1));have b:(v.kind==2)=false:=by simp[h1]
  clear h1
  go_enter func219,ntmps219
  go_wp2
  go_quiet (fail)
  go_wp2;go_ret;exact⟨by rw[z a];rfl,AW (n9) _⟩
 have b:(v.kind==2)=true:=by simp[h1]
 by_cases h2:1<=v.num
 case neg=>
  have a:=O (Bq (p:=AA d.m v) (fun h=>h2 h.2.1));have e:decide (1<=v.num)=false:=by simp[h2]
  clear h1 h2
  go_enter func219,ntmps219
  go_wp2
  go_quiet (fail)
  go_wp2;go_ret;exact⟨by rw[z a];rfl,AW (n9) _⟩
 have e:decide (1<=v.num)=true:=by simp[h2]
 by_cases h3:v.num<=(d.m:Int)
 focus
  have a:=O (Bw (p:=AA d.m v) ⟨h1,h2,h3⟩);have f:decide (v.num<=(d.m:Int))=true:=by simp[h3]
 rotate_left
 focus
  have a:=O (Bq (p:=AA d.m v) (fun h=>h3 h.2.2));have f:decide (v.num<=(d.m:Int))=false:=by simp[h3]
 rotate_left;all_goals
  clear h1 h2 h3
  go_enter func219,ntmps219
  go_wp2
  go_quiet (fail)
  go_wp2;go_ret;exact⟨by rw[z a];rfl,AW (n9) _⟩
def Entry(d:Dc)(i:Nat):Prop:=((d.L i).turn=0/\Gr (d.L i).key=true/\Gr (d.L i).val=true)\/(0<(d.L i).turn/\(d.L i).turn<=d.turns/\Df (d.L i).key=true/\(d.L i).val.ok=true/\(d.L i).val.kind≠0)
theorem OO{d:Dc}:∀(k:Nat) {live last:Int},DF d k=some (live,last)->0<=last/\∀i,i<k->Entry d i:=by
 intro k
 induction k with
 |zero=>intro live last h;simp[DF]at h;exact⟨oa,fun i hi=>oa⟩
 |succ k ih=>
  intro live last h;cases hk:DF d k with
  |none=>rw[LI hk oa]at h;cases h
  |some x=>
   obtain⟨l0,t0⟩:=x;obtain⟨b,i2⟩:=ih hk;by_cases a:(d.L k).turn=0
   ·rw[Jz hk a]at h
    split at h
    ·next hn=>
     simp only[Option.some.injEq,Prod.mk.injEq]at h;refine⟨oa,fun i hi=>?_⟩;by_cases e:i=k
     ·subst e;left;simpa[a]using hn
     ·exact i2 i oa
    ·cases h
   ·rw[JA hk a]at h
    split at h
    ·next hn=>
     simp only[Option.some.injEq,Prod.mk.injEq]at h;unfold PJ at hn;simp at hn;refine⟨oa,fun i hi=>?_⟩;by_cases e:i=k
     ·subst e;right;exact⟨oa,hn.1.1.1.2,hn.1.1.2,hn.1.2,hn.2⟩
     ·exact i2 i oa
    ·cases h
theorem D2.entry{d:Dc}(h:D2 d){i:Nat}(hi:i<d.n):Entry d i:=by
 obtain⟨l,e⟩:=h;exact(OO d.n e).2 i hi
theorem D2.pos{d:Dc}(h:D2 d){i:Nat}(hi:i<d.n)(a:(d.L i).turn≠0):0<(d.L i).turn/\Df (d.L i).key=true:=by
 rcases h.entry hi with h|h
 ·exact absurd h.1 a
 ·exact⟨h.1,h.2.2.1⟩
def AO(d:Dc)(i:Nat):Prop:=0<(d.L i).turn/\¬AA d.m (d.L i).key
theorem Jc(c o:Nat)(la:T9)(lc:Nat)(ia:T9)(ic:Nat)(xa:T9)(xc:Nat)(d:Dc)(q:Nat)(w:Y)(hD:KC w c o la lc ia ic xa xc d)(e:Small d)(hq:q<d.n):
  C9 232 #[Pc c o,J (q:Int)] w (R9 (.bool (tells (AO d q))) w):=by
 have hn:=e.n;have c0:=hD.c0;have g:=hD.lt;obtain⟨b,off,rfl,i,a⟩:=hD.rows.log.resolve_left oa;obtain⟨e0,e1,e2,e3,u,v,x,A,B,C,j⟩:=a q hq;have k:=O hD;have l:=O e;clear hD e a;by_cases h1:0<(d.L q).turn
 case neg=>
  have r:=O (Bq (p:=AO d q) (fun h=>h1 h.1));have f:decide (0<(d.L q).turn)=false:=oe;clear h1
  go_enter func232,ntmps232
  go_wp2;go_ret;exact⟨by rw[z r];rfl,n9⟩
 have f:decide (0<(d.L q).turn)=true:=by simp[h1]
 have s:Hid (tells (AO d q)=!tells (AA d.m (d.L q).key)):=O (by
  by_cases hs:AA d.m (d.L q).key
  ·rw[Bw hs,Bq (fun h=>h.2 hs)];rfl
  ·rw[Bq hs,Bw ⟨h1,hs⟩];rfl)
 clear h1
 go_enter func232,ntmps232
 go_wp2_with fail
 refine m9 (FX c o (some (G b off)) lc ia ic xa xc d (d.L q).key _ (k.below (n9)) l) fun w1 hb=>?_;have t:=O hb;clear hb;go_wp2;go_ret;exact⟨by rw[z s];simp,(n9).trans (t.mono od)⟩
theorem XB(d:Dc)(k:Nat):Ep d k<=k:=by
 induction k with
 |zero=>exact Be _
 |succ k ih=>unfold Ep;split<;>omega
def Lr(x:Nat):Prop:=x=0\/(8<=x/\x<=4000/\LR x)
def Pk(a b:Nat):Bool:=O9 a b==some .eq
def AE(a b:Vl):Bool:=a.kind==b.kind&&(a.num==b.num&&(Pk a.Ag b.Ag&&(a.str.toList==b.str.toList&&a.ref==b.ref)))
def probe(d:Dc)(v:Vl):Nat->Nat->Option Nat
 |_,0=>none
 |at0,f+1=>if d.X at0=0 then none else if 0<d.X at0/\AE (d.at (d.X at0)).key v=true then some at0 else probe d v ((at0+1)%d.x) f
def AQ(d:Dc)(v:Vl)(h:Nat):Option Nat:=if d.x=0 then none else probe d v (h%d.x) d.x
def Fb:Option Nat->Int
 |none=>-1
 |some s=>s
def ZC(d:Dc):Option Nat->Int
 |none=>-1
 |some s=>d.X s-1
open Classical in
noncomputable def Aw(d:Dc)(v:Vl)(h:Nat):Int:=if AA d.m v then d.I (v.num-1).toNat-1 else ZC d (AQ d v h)
theorem GX{d:Dc}{v:Vl}{a:Nat}(h:d.X a=0):probe d v a (f+1)=none:=DD h
theorem IX{d:Dc}{v:Vl}{a:Nat}(h:0<d.X a)(hl:AE (d.at (d.X a)).key v=true):probe d v a (f+1)=some a:=by
 show(if _ then _ else _)=_;rw[C3 oa,DD ⟨h,hl⟩]
theorem ED{d:Dc}{v:Vl}{a:Nat}(h:d.X a≠0)(hl:¬(0<d.X a/\AE (d.at (d.X a)).key v=true)):probe d v a (f+1)=probe d v ((a+1)%d.x) f:=by
 show(if _ then _ else _)=_;rw[C3 h,C3 hl]
theorem Zh{d:Dc}{v:Vl}(hx:0<d.x):∀(f a s:Nat),a<d.x->probe d v a f=some s->s<d.x/\0<d.X s:=by
 intro f
 induction f with
 |zero=>intro a s _ h;cases h
 |succ f ih=>
  intro a s c h;by_cases b:d.X a=0
  ·rw[GX b]at h;cases h
  ·by_cases hl:0<d.X a/\AE (d.at (d.X a)).key v=true
   ·rw[IX hl.1 hl.2]at h;cases h;exact⟨c,hl.1⟩
   ·rw[ED b hl]at h;exact ih _ _ (TO _ hx) h
theorem Lg{d:Dc}{v:Vl}{s:Nat}(e:AQ d v h=some s):s<d.x/\0<d.X s:=by
 unfold AQ at e
 split at e
 ·cases e
 ·exact Zh oa _ _ _ (TO _ oa) e
structure XT (v:Vl) (h:Nat):Prop where
 lt:h<18446744073709551616
 call:∀w:World,C9 253 #[V v.kind v.num v.Ag v.str v.ref] w (R9 (.int .u64 (h:Int)) w)
theorem Nl(a b:Vl)(w:Y):
  C9 241 #[V a.kind a.num a.Ag a.str a.ref,V b.kind b.num b.Ag b.str b.ref] w (R9 (.bool (AE a b)) w):=by
 go_enter func241,ntmps241
 go_wp2;all_goals(go_ret;refine⟨by simp_all [AE,Pk],(n9).alloc od _⟩)
theorem Rs(a:LR x)(hx:x<=4000)(b:h<18446744073709551616):bits BinOp.and IntKind.u64 (h:Int) ((x:Int)-1)=((h%x:Nat):Int):=by
 obtain⟨k,rfl⟩:=a;have h1:0<2^k:=Of k;have e:(((2^k:Nat):Int)-1)=((2^k-1:Nat):Int):=oa;rw[e,bits_and_u64_nat _ _ b oa,Nat.and_two_pow_sub_one_eq_mod]
theorem Jv(c o:Nat)(la:T9)(lc:Nat)(ia:T9)(ic:Nat)(xa:T9)(xc:Nat)(d:Dc)(v:Vl)(h:Nat)(w:Y)(hD:KC w c o la lc ia ic xa xc d)(Z:Small d)(h4:D4 d)(hh:XT v h):
  C9 220 #[Pc c o,V v.kind v.num v.Ag v.str v.ref] w (R9 (J (Fb (AQ d v h))) w):=by
 have hn:=Z.n;have hx:=Z.x;have c2:=hD.c2;have ah:=hD.lt;have HD:=O hD;have HH:=O hh;have H4:=O h4;clear hD Z hh h4;by_cases m:d.x=0
 ·have H:Hid (AQ d v h=none):=O (DD m);have D:((d.x:Int)==0)=true:=by simp[m]
  clear m
  go_enter func220,ntmps220
  go_wp2;go_ret;exact⟨by rw[z H];rfl,n9⟩
 have s:8<=d.x/\d.x<=4000/\LR d.x:=H4.1.resolve_left m;have hand:=Rs (h:=h) s.2.2 s.2.1 HH.lt;have R:h%d.x<d.x:=TO _ oa;have H:Hid (AQ d v h=probe d v (h%d.x) d.x):=O (C3 m);have D:((d.x:Int)==0)=false:=oe;have ai:=s.1;have aj:=s.2.1;obtain⟨a0,S⟩:∃a0,a0=h%d.x:=⟨_,rfl⟩;rw[<-S]at hand R H;have ak:=O s;clear m s S
 go_enter func220,ntmps220
 go_wp2_with fail
 refine(HH.call _).mono ?_;rintro e w1 ⟨rfl,E⟩;obtain⟨t,ad⟩:=Bo E;have q0:w1.cell? (y w 0)=some (J v.kind):=by rw[t _ _ od];simp[go_sem]
 have q1:w1.cell? (y w 1)=some (J v.num):=by rw[t _ _ od];simp[go_sem]
 have q2:w1.cell? (y w 2)=some (F9 v.Ag):=by rw[t _ _ od];simp[go_sem]
 have q3:w1.cell? (y w 3)=some (.string v.str):=by rw[t _ _ od];simp[go_sem]
 have q4:w1.cell? (y w 4)=some (J v.ref):=by rw[t _ _ od];simp[go_sem]
 have u:w.heap.size<w1.heap.size:=by have:=E.size;simp at this;omega
 have g:=O (((Cs w.heap.size w).alloc (Be _) _).trans (E.mono od));clear E t ad c2;go_wp2_with fail;go_loopw [6,7] (fun p i wr=>∃(a j:Nat),p=J a/\i=J j/\a<d.x/\j<=d.x/\probe d v a0 d.x=probe d v a (d.x-j)/\B9 w1 wr) (fun _ i _=>d.x-(intOf i).toNat)
 case atStart=>exact⟨a0,0,od,rfl,R,oa,rfl,Cs _ _⟩
 case round=>
  obtain⟨a,j,rfl,rfl,ha,hj,T,hb⟩:=hrel;have hD:=HD.below (oo g hb);have c0:=hD.c0;have c2:=hD.c2;have ao:=hD.lt;have A:=O (H.trans T);clear hD T hand;by_cases aq:j<d.x
  case neg=>
   have B:Hid (AQ d v h=none):=O (A.trans (by rw[show d.x-j=0 by omega];rfl));have C:=O hb;clear hb;go_wp2;go_ret;exact⟨by rw[z B];rfl,oo g C⟩
  obtain⟨f,hf⟩:∃f,d.x-j=f+1:=⟨d.x-j-1,oa⟩;obtain⟨b,off,rfl,I,hcs⟩:=HD.rows.index.resolve_left oa;have e0:=ol hb (At I g.size) (ol g I (hcs a ha));have p0:=ol hb u q0;have p1:=ol hb u q1;have p2:=ol hb u q2;have p3:=ol hb u q3;have p4:=ol hb u q4;have ar:w.heap.size<wr.heap.size:=At u hb.size;have au:b<wr.heap.size:=At (At I g.size) hb.size;have C:=O hb;rw[hf]at A;have W:=O hf;clear hcs hb hf;by_cases m:d.X a=0
  ·have B:Hid (AQ d v h=none):=O (A.trans (GX m));rw[m]at e0;clear m;go_wp2;go_ret;exact⟨by rw[z B];rfl,oo g C⟩
  have D:(d.X a==0)=false:=by simp[m]
  rcases H4.2.1 a ha with hs|hs|hs
  ·exact absurd hs m
  ·have B:Hid (AQ d v h=probe d v ((a+1)%d.x) f):=O (A.trans (ED m (fun h=>oa)));rw[hs]at e0;clear m D hs p0 p1 p2 p3 p4;go_wp2_with fail;refine qr wr ?_;refine N (h:=N (h:=N (h:=?_)));iterate 11 (go_big_quiet_step (fail))
   refine N (h:=?_);refine H7 ?_;intro w2 k;have r:=O (oo C k);clear k e0 c0 c2;by_cases M:a+1=d.x
   ·have l:((a:Int)+1==d.x)=true:=oe;have P:Hid ((a+1)%d.x=0):=O (by rw[M];exact Nat.mod_self _);clear M;go_wp2;go_roundw
    case rel=>exact⟨0,j+1,rfl,oh,oa,oa,by rw[<-z H,z B,z P,show d.x-(j+1)=f by have:=z W;omega],r⟩
    case measure=>simp[intOf];omega
   ·have l:((a:Int)+1==d.x)=false:=oe;have P:Hid ((a+1)%d.x=a+1):=O (So oa);have k:a+1<d.x:=oa;clear M;go_wp2;go_roundw
    case rel=>exact⟨a+1,j+1,oh,oh,oa,oa,by rw[<-z H,z B,z P,show d.x-(j+1)=f by have:=z W;omega],r⟩
    case measure=>simp[intOf];omega
  obtain⟨q,hq⟩:∃q:Nat,d.X a=(q:Int)+1:=⟨(d.X a-1).toNat,oa⟩;have ae:q<d.n:=oa;obtain⟨lb,lo,rfl,Q,U⟩:=HD.rows.log.resolve_left oa;obtain⟨e1,e2,e3,e4,e5,_,_,_,_,_,_⟩:=(U q ae).keep (fun q=>ol C (At Q g.size) (g.cell (p:=(G lb q)) Q));have av:lb<wr.heap.size:=At (At Q g.size) C.size;have HA:Hid (d.at (d.X a)=d.L q):=O (by unfold Dc.at;rw[hq];congr 1;omega);rw[hq]at e0 D;have ag:decide ((0:Int)<(q:Int)+1)=true:=decide_eq_true oa;have aw:IntKind.i64.wrap (q:Int)=q:=by rw[Hi];omega
  have HQ:=O hq;have H0:=O m;clear U hs hq m;cases F:AE (d.L q).key v
  ·have B:Hid (AQ d v h=probe d v ((a+1)%d.x) f):=O (A.trans (ED H0 (fun h=>by rw[z HA,F]at h;exact absurd h.2 oc)));go_wp2_with fail;refine qr wr ?_;refine N (h:=N (h:=N (h:=N (h:=N (h:=N (h:=N (h:=N (h:=N (h:=N (h:=N (h:=N (h:=?_))))))))))));refine N (h:=?_);refine GS (fun K hK=>?_);go_simp;apply Exists.intro;refine And.intro (fun w' l=>?_) (hK _ ?_)
   ·refine((F▸Nl (d.L q).key v _)).mono ?_;rintro e af ⟨rfl,hb⟩;exact⟨rfl,oo l hb⟩
   clear hK K;refine N (h:=?_);refine H7 ?_;intro w2 k;have r:=O (oo C k);clear k e0 c0 c2;by_cases M:a+1=d.x
   ·have l:((a:Int)+1==d.x)=true:=oe;have P:Hid ((a+1)%d.x=0):=O (by rw[M];exact Nat.mod_self _);clear M;go_wp2;go_roundw
    case rel=>exact⟨0,j+1,rfl,oh,oa,oa,by rw[<-z H,z B,z P,show d.x-(j+1)=f by have:=z W;omega],r⟩
    case measure=>simp[intOf];omega
   ·have l:((a:Int)+1==d.x)=false:=oe;have P:Hid ((a+1)%d.x=a+1):=O (So oa);have k:a+1<d.x:=oa;clear M;go_wp2;go_roundw
    case rel=>exact⟨a+1,j+1,oh,oh,oa,oa,by rw[<-z H,z B,z P,show d.x-(j+1)=f by have:=z W;omega],r⟩
    case measure=>simp[intOf];omega
  ·have B:Hid (AQ d v h=some a):=O (A.trans (IX (by rw[z HQ];omega) (by rw[z HA];exact F)));go_wp2_with fail;refine qr wr ?_;refine N (h:=N (h:=N (h:=N (h:=N (h:=N (h:=N (h:=N (h:=N (h:=N (h:=N (h:=N (h:=?_))))))))))));refine N (h:=?_);refine GS (fun K hK=>?_);go_simp;apply Exists.intro;refine And.intro (fun w' l=>?_) (hK _ ?_)
   ·refine((F▸Nl (d.L q).key v _)).mono ?_;rintro e af ⟨rfl,hb⟩;exact⟨rfl,oo l hb⟩
   clear hK K;refine N (h:=?_);refine H7 ?_;intro w2 k;have r:=O (oo C k);clear k e0 c0 c2;go_wp2;go_ret;exact⟨by rw[z B];rfl,oo g r⟩
end
section
attribute [local go_sem] Am Aj
theorem LG(c o:Nat)(la:T9)(lc:Nat)(ia:T9)(ic:Nat)(xa:T9)(xc:Nat)(d:Dc)(v:Vl)(h:Nat)(w:Y)(hD:KC w c o la lc ia ic xa xc d)(K:Small d)(h3:D3 d)(h4:D4 d)(hh:XT v h):
  C9 167 #[Pc c o,V v.kind v.num v.Ag v.str v.ref] w (R9 (J (Aw d v h)) w):=by
 have k:=O hD;have t:=O K;have M:=O h3;have L:=O h4;have P:=O hh;have u:B9 w (w.alloc (.cells (ow v) 43)):=n9;have l:=O u;clear hD K h3 h4 hh u
 go_enter func167,ntmps167
 go_wp2_with fail
 refine m9 (FX c o la lc ia ic xa xc d v _ (k.below l) t) fun w1 f=>?_;obtain⟨e,E⟩:=Bo f;have q0:w1.cell? (y w 0)=some (J v.kind):=by rw[e _ _ od];simp[go_sem]
 have Q:w1.cell? (y w 1)=some (J v.num):=by rw[e _ _ od];simp[go_sem]
 have q2:w1.cell? (y w 2)=some (F9 v.Ag):=by rw[e _ _ od];simp[go_sem]
 have q3:w1.cell? (y w 3)=some (.string v.str):=by rw[e _ _ od];simp[go_sem]
 have q4:w1.cell? (y w 4)=some (J v.ref):=by rw[e _ _ od];simp[go_sem]
 have R:w.heap.size<w1.heap.size:=by have:=f.size;simp at this;omega
 have a:=O (oo l f);clear f e E;by_cases hs:AA d.m v
 ·rw[Bw hs];obtain⟨k1,k2,k3⟩:=hs;obtain⟨q,hq⟩:∃q:Nat,v.num=(q:Int)+1:=⟨(v.num-1).toNat,oa⟩;have A:q<d.m:=oa;have D:Hid (Aw d v h=d.I q-1):=O (by unfold Aw;rw[DD ⟨k1,k2,k3⟩,hq];congr 2;omega);obtain⟨b,off,rfl,g,hcs⟩:=k.rows.ints.resolve_left oa;have e0:=ol a g (hcs q A);have c1:=(k.below a).c1;have hm:=t.m;have hn:=t.n;have S:0<=d.I q/\d.I q<=d.n:=by
   rcases M.1 q A with hh|hh
   ·omega
   ·exact⟨oa,hh.2.1⟩
  have F:IntKind.i64.wrap (d.I q-1)=d.I q-1:=by rw[Hi];omega
  have T:IntKind.i64.wrap (q:Int)=q:=by rw[Hi];omega
  have U:b<w1.heap.size:=At g a.size;have W:c<w1.heap.size:=At k.lt a.size;rw[hq]at Q;have HQ:=O hq;clear hcs k1 k2 k3 hq S;go_wp2_with fail
  go_quiet (fail)
  go_wp2;go_ret;exact⟨by rw[z D];simp,AW a _⟩
 ·rw[Bq hs];have D:Hid (Aw d v h=ZC d (AQ d v h)):=O (by unfold Aw;rw[C3 hs]);have Z:=O hs;clear hs;go_wp2_with fail;refine m9 (Jv c o la lc ia ic xa xc d v h _ (k.below a) t L P) fun w2 B=>?_;have i:=O (oo a B);clear B;cases j:AQ d v h with
  |none=>
   have r:Hid (Aw d v h=-1):=O (D.trans (by rw[j];rfl));simp only[Fb];go_wp2;go_ret;exact⟨by rw[z r];rfl,i⟩
  |some s=>
   have r:Hid (Aw d v h=d.X s-1):=O (D.trans (by rw[j];rfl));obtain⟨C,H⟩:=Lg j;simp only[Fb];obtain⟨b,off,rfl,g,hcs⟩:=k.rows.index.resolve_left oa;have e0:=ol i g (hcs s C);have c2:=(k.below i).c2;have hx:=t.x;have hn:=t.n;have hX:d.X s<=d.n:=by
    rcases L.2.1 s C with hh|hh|hh<;>omega
   have F:IntKind.i64.wrap (d.X s-1)=d.X s-1:=by rw[Hi];omega
   clear hcs j H hX;go_wp2;go_ret;exact⟨by rw[z r];simp,i⟩
def D5(d:Dc)(H:Nat->Nat):Prop:=∀i,i<d.n->(d.L i).turn≠0->EH d.I i d.m+EH d.X i d.x=1/\Aw d (d.L i).key (H i)=i/\¬((d.L i).key.kind=2/\(d.L i).key.num=(d.m:Int)+1)
theorem PD(n:Nat)(hn:n<=4194304)(w:Y):
  (Instr.makeSlice 90 (J (n:Int)) (J (n:Int))).run prog w=.ok (S9 w.heap.size n n) (w.alloc (.cells (madeCells (Value.int .i64 0).cells n) 3)):=by
 obtain⟨i,hi,hz,hs,hb⟩:=P9 QG;have:=run_make (P:=prog) w 90 3 i _ underlying90 hi hz .i64 .i64 n n oa (AaI _) (by rw[hb];omega) oa;simp only[NO,hs,Nat.mul_one]at this;exact this
theorem Nu(w:Y)(n:Nat):(w.alloc (.cells (madeCells (Value.int .i64 0).cells n) 3)).rowIs w.heap.size 3 n (fun _=>J 0):=by
 have h:=Aaz w (madeCells (Value.int .i64 0).cells n) 3 (fun _=>J 0) (fun i hi=>by
  rw[size_madeCells]at hi;unfold madeCells;simp[Value.cells,hi,Nat.mod_one])
 rw[size_madeCells]at h;exact h
theorem TJ(f:Nat->Int)(i k:Nat):EH f i k<=k:=by
 induction k with
 |zero=>exact Be _
 |succ k ih=>unfold EH;split<;>omega
def B1(w:Y)(b n:Nat)(g:Nat->Nat):Prop:=∃h,w.rowIs b 3 n h/\∀j,j<n->h j=J (g j)
theorem B1.cell{w:Y}(h:B1 w b n g){j:Nat}(hj:j<n):w.cell? (G b j)=some (J (g j)):=by
 obtain⟨d,a,c⟩:=h;rw[a.cell hj,c j hj]
theorem B1.frozen{w:Y}(h:B1 w b n g)(j:Nat):w.frozen? (G b j)=false:=by
 obtain⟨c,a,d⟩:=h;exact a.frozen j
theorem B1.lt{w:Y}(h:B1 w b n g):b<w.heap.size:=by
 obtain⟨c,a,d⟩:=h;exact a.lt
theorem B1.below{w w':Y}(h:B1 w b n g)(hb:B9 w w'):B1 w' b n g:=by
 obtain⟨c,a,d⟩:=h;exact⟨c,a.of_block (hb.block b a.lt),d⟩
theorem B1.bump{w:Y}(h:B1 w b n g):B1 (w.setCell (G b q) (J ((g q:Int)+1))) b n (fun j=>if j=q then g q+1 else g j):=by
 obtain⟨d,a,c⟩:=h;refine⟨_,a.set q _,fun j hj=>?_⟩;by_cases e:j=q
 ·subst e;simp
 ·simp only[e,Tn];exact c j hj
theorem B1.congr{w:Y}{g':Nat->Nat}(h:B1 w b n g)(e:∀j,j<n->g' j=g j):B1 w b n g':=by
 obtain⟨a,c,d⟩:=h;exact⟨a,c,fun j hj=>by rw[e j hj];exact d j hj⟩
end
section
attribute [local go_sem] Am Aj
open Classical in
noncomputable def C6(d:Dc)(H:Nat->Nat):Int:=
 if D1 d then if D2 d then if D3 d then if D4 d then if D5 d H then 0 else 5 else 4 else 3 else 2 else 1
theorem aU{d:Dc}(h1:D1 d)(h2:D2 d)(h3:D3 d)(h4:D4 d)(h:D5 d H):C6 d H=0:=by unfold C6;rw[DD h1,DD h2,DD h3,DD h4,DD h]
structure Sound (d:Dc) (H:Nat->Nat):Prop where
 d1:D1 d
 d2:D2 d
 d3:D3 d
 d4:D4 d
 d5:D5 d H
theorem Kp{d:Dc}(h:C6 d H=0):Sound d H:=by
 unfold C6 at h
 split at h
 ·next h1=>
  split at h
  ·next h2=>
   split at h
   ·next h3=>
    split at h
    ·next h4=>
     split at h
     ·next h5=>exact⟨h1,h2,h3,h4,h5⟩
     ·cases h
    ·cases h
   ·cases h
  ·cases h
 ·cases h
theorem Sound.zero{d:Dc}(h:Sound d H):C6 d H=0:=aU h.d1 h.d2 h.d3 h.d4 h.d5
end
section
attribute [local go_sem] Am Aj
theorem Cx{w:Y}{a:Addr}{m:Mode}(f:Fn)(x Z:Array Value):(store a (.func f x Z) m).run P w=stored P w a (.func f x Z) m:=run_store P w a _ m rfl
attribute [local go_sem] Cx
structure GA (R:Nat) (u w:Y):Prop where
 os:w.os=u.os
 tape:w.tape=u.tape
 output:w.output=u.output
 size:u.heap.size<=w.heap.size
 block:∀q,q<u.heap.size->q≠R->w.heap[q]?=u.heap[q]?
theorem GA.refl(R:Nat)(u:Y):GA R u u:=⟨rfl,rfl,rfl,Be _,fun _ _ _=>rfl⟩
theorem GA.trans{a b c:Y}(h:GA R a b)(h':GA R b c):GA R a c:=⟨h'.os.trans h.os,h'.tape.trans h.tape,h'.output.trans h.output,GO h.size h'.size,fun q hq d=>(h'.block q (At hq h.size) d).trans (h.block q hq d)⟩
theorem GA.alloc{a b:Y}(h:GA R a b)(o:Obj):GA R a (b.alloc o):=⟨h.os,h.tape,h.output,by simp;have:=h.size;omega,fun q hq c=>(DO _ _ _ (At hq h.size)).trans (h.block q hq c)⟩
theorem GA.setCell{a b:Y}(h:GA R a b)(o:Nat)(v:V9):GA R a (b.setCell (G R o) v):=⟨h.os,h.tape,h.output,by simpa using h.size,fun q hq c=>(A0 _ _ _ _ (by exact c)).trans (h.block q hq c)⟩
theorem GA.drew{a b:Y}(h:GA R a b):GA R a b.drew:=⟨h.os,h.tape,h.output,h.size,h.block⟩
theorem GA.cell{a b:Y}(h:GA R a b){q o:Nat}(hq:q<a.heap.size)(c:q≠R):b.cell? (G q o)=a.cell? (G q o):=As (h.block q hq c)
theorem GA.frozen{a b:Y}(h:GA R a b){q o:Nat}(hq:q<a.heap.size)(c:q≠R):b.frozen? (G q o)=a.frozen? (G q o):=GW (h.block q hq c)
theorem GA.below{a b:Y}(h:GA R a b)(c:B<=a.heap.size)(d:B<=R):Below B a b:=⟨h.os,h.tape,h.output,h.size,fun k hk=>h.block k oa oa⟩
abbrev Fx(p:Pr)(i:Nat):Array Value:=#[J p.key.kind,J p.key.num,F9 p.key.Ag,.string p.key.str,J p.key.ref,J p.val.kind,J p.val.num,F9 p.val.Ag,.string p.val.str,J p.val.ref,J p.turn,J (i:Int)]
abbrev UD(v:Vl)(e:Nat):Array Value:=#[J v.kind,J v.num,F9 v.Ag,.string v.str,J v.ref,Q9 e,.bool false]
abbrev RU:Array Value:=#[J 0,J 0,F9 0,E9,J 0,.pointer none,.bool true]
structure Bl (w:Y) (b:Nat) (p:Pr) (i:Nat):Prop where
 lt:b<w.heap.size
 k0:w.cell? (G b 0)=some (J p.key.kind)
 k1:w.cell? (G b 1)=some (J p.key.num)
 k2:w.cell? (G b 2)=some (F9 p.key.Ag)
 k3:w.cell? (G b 3)=some (.string p.key.str)
 k4:w.cell? (G b 4)=some (J p.key.ref)
 v0:w.cell? (G b 5)=some (J p.val.kind)
 v1:w.cell? (G b 6)=some (J p.val.num)
 v2:w.cell? (G b 7)=some (F9 p.val.Ag)
 v3:w.cell? (G b 8)=some (.string p.val.str)
 v4:w.cell? (G b 9)=some (J p.val.ref)
 tn:w.cell? (G b 10)=some (J p.turn)
 pl:w.cell? (G b 11)=some (J (i:Int))
 ob:w.heap[b]?=some (.cells (Fx p i) 294 (0,0))
theorem Bl.keep{w w':Y}{p:Pr}(h:Bl w b p i)(hs:w.heap.size<=w'.heap.size)(e:w'.heap[b]?=w.heap[b]?):Bl w' b p i:=by
 have e':∀o,w'.cell? (G b o)=w.cell? (G b o):=fun o=>As e;exact⟨At h.lt hs,(e' _).trans h.k0,(e' _).trans h.k1,(e' _).trans h.k2,(e' _).trans h.k3,(e' _).trans h.k4,(e' _).trans h.v0,(e' _).trans h.v1,(e' _).trans h.v2,(e' _).trans h.v3,(e' _).trans h.v4,(e' _).trans h.tn,(e' _).trans h.pl,e.trans h.ob⟩
theorem Bl.drew{w:Y}{p:Pr}(h:Bl w b p i):Bl w.drew b p i:=h.keep (Be _) rfl
structure Gj (w:Y) (b:Nat) (v:Vl) (e:Nat):Prop where
 lt:b<w.heap.size
 k0:w.cell? (G b 0)=some (J v.kind)
 k1:w.cell? (G b 1)=some (J v.num)
 k2:w.cell? (G b 2)=some (F9 v.Ag)
 k3:w.cell? (G b 3)=some (.string v.str)
 k4:w.cell? (G b 4)=some (J v.ref)
 pt:w.cell? (G b 5)=some (Q9 e)
 gn:w.cell? (G b 6)=some (.bool false)
 ob:w.heap[b]?=some (.cells (UD v e) 333 (0,0))
theorem Gj.keep{w w':Y}{v:Vl}(h:Gj w b v i)(hs:w.heap.size<=w'.heap.size)(e:w'.heap[b]?=w.heap[b]?):Gj w' b v i:=by
 have e':∀o,w'.cell? (G b o)=w.cell? (G b o):=fun o=>As e;exact⟨At h.lt hs,(e' _).trans h.k0,(e' _).trans h.k1,(e' _).trans h.k2,(e' _).trans h.k3,(e' _).trans h.k4,(e' _).trans h.pt,(e' _).trans h.gn,e.trans h.ob⟩
def B8(E:Nat->Nat)(p:Int):Option Addr:=if 0<p then some (G (E (p-1).toNat) 0)else none
def Dj(S:Nat->Nat)(j:Nat)(p:Int):Option Addr:=if p=0 then none else some (G (S j) 0)
structure O5 (w:Y) (b:Nat):Prop where
 lt:b<w.heap.size
 gn:w.cell? (G b 6)=some (.bool true)
 ob:w.heap[b]?=some (.cells RU 333 (0,0))
theorem O5.keep{w w':Y}(h:O5 w b)(hs:w.heap.size<=w'.heap.size)(e:w'.heap[b]?=w.heap[b]?):O5 w' b:=
 ⟨At h.lt hs,(As (a:=(G b 6)) e).trans h.gn,e.trans h.ob⟩
def Dp(w:Y)(E S:Nat->Nat)(d:Dc)(j:Nat):Prop:=
 (0<d.X j->Gj w (S j) (d.at (d.X j)).key (E (d.X j-1).toNat))/\(d.X j<0->O5 w (S j))
abbrev LA:Value:=.func (.func 247) #[] #[]
structure Jk (w:Y) (bk b c R2:Nat) (E S:Nat->Nat) (d:Dc):Prop where
 lt:bk<w.heap.size
 c0:∃a k,w.cell? (G bk 0)=some (.slice a d.n k)/\(0<d.n->a=some (G b 0))
 c1:∃k,w.cell? (G bk 1)=some (S9 c d.m k)
 c2:w.cell? (G bk 2)=some LA
 c3:w.cell? (G bk 3)=some (S9 R2 d.x d.x)
 c4:w.cell? (G bk 4)=some (J d.used)
 c5:w.cell? (G bk 5)=some (J d.live)
 c6:w.cell? (G bk 6)=some (J d.turns)
 r0:∀i,i<d.n->w.cell? (G b i)=some (Q9 (E i))
 Cr:∀i,i<d.n->Bl w (E i) (d.L i) i
 inj:∀i j,i<d.n->j<d.n->E i=E j->i=j
 r1:∀i,i<d.m->w.cell? (G c i)=some (.pointer (B8 E (d.I i)))
 r2:∀j,j<d.x->w.cell? (G R2 j)=some (.pointer (Dj S j (d.X j)))
 sl:∀j,j<d.x->Dp w E S d j
 l0:b<w.heap.size
 l1:c<w.heap.size
 l2:R2<w.heap.size
theorem Jk.below{w w':Y}{bk R2:Nat}{S:Nat->Nat}{d:Dc}(h:Jk w bk c f R2 E S d)(hb:B9 w w'):Jk w' bk c f R2 E S d:=by
 have e:∀q o,q<w.heap.size->w'.cell? (G q o)=w.cell? (G q o):=fun q o hq=>hb.cell (p:=(G q o)) hq;refine⟨At h.lt hb.size,by obtain⟨a,k,h1,h2⟩:=h.c0;exact⟨a,k,(e _ _ h.lt).trans h1,h2⟩,by obtain⟨k,h1⟩:=h.c1;exact⟨k,(e _ _ h.lt).trans h1⟩,(e _ _ h.lt).trans h.c2,(e _ _ h.lt).trans h.c3,(e _ _ h.lt).trans h.c4,(e _ _ h.lt).trans h.c5,(e _ _ h.lt).trans h.c6,fun i hi=>(e _ _ h.l0).trans (h.r0 i hi),fun i hi=>(h.Cr i hi).keep hb.size (hb.block _ (h.Cr i hi).lt),h.inj,fun i hi=>(e _ _ h.l1).trans (h.r1 i hi),fun i hi=>(e _ _ h.l2).trans (h.r2 i hi),fun j hj=>⟨fun b=>((h.sl j hj).1 b).keep hb.size (hb.block _ ((h.sl j hj).1 b).lt),fun b=>((h.sl j hj).2 b).keep hb.size (hb.block _ ((h.sl j hj).2 b).lt)⟩,At h.l0 hb.size,At h.l1 hb.size,At h.l2 hb.size⟩
theorem IJ:(prog.info? 292).map (fun i=>(i.zero,i.size,i.bytes))=some (some (.pointer none),1,8):=og
theorem Sa:(prog.info? 331).map (fun i=>(i.zero,i.size,i.bytes))=some (some (.pointer none),1,8):=og
theorem IQ{b a:TypeId}(hu:prog.underlying b=some (.slice a))(hi:(prog.info? a).map (fun i=>(i.zero,i.size,i.bytes))=some (some (.pointer none),1,8))(n:Nat)(hn:n<=4194304)(w:Y):
  (Instr.makeSlice b (J (n:Int)) (J (n:Int))).run prog w=.ok (S9 w.heap.size n n) (w.alloc (.cells (madeCells (Value.pointer none).cells n) a)):=by
 obtain⟨i,hi,hz,hs,hb⟩:=P9 hi;have:=run_make (P:=prog) w b a i _ hu hi hz .i64 .i64 n n oa (AaI _) (by rw[hb];omega) oa;simp only[NO,hs,Nat.mul_one]at this;exact this
theorem PB(w:Y)(n:Nat)(a:TypeId):(w.alloc (.cells (madeCells (Value.pointer none).cells n) a)).rowIs w.heap.size a n (fun _=>.pointer none):=by
 have h:=Aaz w (madeCells (Value.pointer none).cells n) a (fun _=>.pointer none) (fun i hi=>by
  rw[size_madeCells]at hi;unfold madeCells;simp[Value.cells,hi,Nat.mod_one])
 rw[size_madeCells]at h;exact h
def CL(w:Y)(R n:Nat)(a:TypeId)(f:Nat->Option Addr):Prop:=∃g,w.rowIs R a n g/\∀i,i<n->g i=.pointer (f i)
theorem CL.cell{w:Y}{a:TypeId}{f:Nat->Option Addr}(h:CL w R n a f){i:Nat}(hi:i<n):w.cell? (G R i)=some (.pointer (f i)):=by
 obtain⟨g,b,c⟩:=h;rw[b.cell hi,c i hi]
theorem CL.frozen{w:Y}{a:TypeId}{f:Nat->Option Addr}(h:CL w R n a f)(i:Nat):w.frozen? (G R i)=false:=by
 obtain⟨g,b,c⟩:=h;exact b.frozen i
theorem CL.keep{w w':Y}{a:TypeId}{f:Nat->Option Addr}(h:CL w R n a f)(e:w'.heap[R]?=w.heap[R]?):CL w' R n a f:=by
 obtain⟨g,b,c⟩:=h;exact⟨g,b.of_block e,c⟩
theorem CL.set{w:Y}{a:TypeId}{f:Nat->Option Addr}(h:CL w R n a f)(p:T9):CL (w.setCell (G R q) (.pointer p)) R n a (fun i=>if i=q then p else f i):=by
 obtain⟨g,b,c⟩:=h;refine⟨_,b.set q _,fun i hi=>?_⟩;by_cases e:i=q
 ·subst e;simp
 ·simp only[e,Tn];exact c i hi
theorem CL.congr{w:Y}{a:TypeId}{f f':Nat->Option Addr}(h:CL w R n a f)(e:∀i,i<n->f' i=f i):CL w R n a f':=by
 obtain⟨g,b,c⟩:=h;exact⟨g,b,fun i hi=>by rw[e i hi];exact c i hi⟩
theorem V2(w:Y)(p:Pr)(k:Nat):Bl (w.alloc (.cells (Fx p k) 294)) w.heap.size p k:=
 ⟨od,by simp[go_sem],by simp[go_sem],by simp[go_sem],by simp[go_sem],by simp[go_sem],by simp[go_sem],by simp[go_sem],by simp[go_sem],by simp[go_sem],by simp[go_sem],by simp[go_sem],by simp[go_sem],BE _ _⟩
structure Bk (w v:Y) (xa:T9) (xc:Nat) (d:Dc) (E:Nat->Nat) (s1 s2 a b:V9):Prop where
 below:B9 w v
 sz:w.heap.size+3<=v.heap.size
 a2:v.cell? (y w 2)=some (.slice xa d.x xc)
 a3:v.cell? (y w 3)=some (J d.used)
 b0:v.cell? (Y9 w 0)=some (S9 (w.heap.size+1+1) d.n d.n)
 b1:v.cell? (Y9 w 1)=some s1
 b2:v.cell? (Y9 w 2)=some s2
 b3:v.cell? (Y9 w 3)=some a
 b4:v.cell? (Y9 w 4)=some b
 b5:v.cell? (Y9 w 5)=some (J d.live)
 b6:v.cell? (Y9 w 6)=some (J d.turns)
 fz:∀o,v.frozen? (Y9 w o)=false
 ptr:CL v (w.heap.size+1+1) d.n 292 (fun i=>some (G (E i) 0))
 Cr:∀i,i<d.n->Bl v (E i) (d.L i) i/\w.heap.size+3<=E i
theorem Bk.mI{w v v':Y}{d:Dc}{s1 s2 b c:V9}(h:Bk w v xa xc d E s1 s2 b c)(a:GA R v v')(f:w.heap.size+3<=R)(e:∀i,i<d.n->E i≠R):Bk w v' xa xc d E s1 s2 b c:=by
 have hz:=h.sz;have e0:∀o,v'.cell? (y w o)=v.cell? (y w o):=fun o=>a.cell oa oa;have e1:∀o,v'.cell? (Y9 w o)=v.cell? (Y9 w o):=fun o=>a.cell oa oa;exact⟨h.below.trans (a.below oa oa),GO h.sz a.size,(e0 _).trans h.a2,(e0 _).trans h.a3,(e1 _).trans h.b0,(e1 _).trans h.b1,(e1 _).trans h.b2,(e1 _).trans h.b3,(e1 _).trans h.b4,(e1 _).trans h.b5,(e1 _).trans h.b6,fun o=>(a.frozen oa oa).trans (h.fz o),h.ptr.keep (a.block _ oa oa),fun i hi=>⟨(h.Cr i hi).1.keep a.size (a.block _ (h.Cr i hi).1.lt (e i hi)),(h.Cr i hi).2⟩⟩
theorem Bk.alloc{w v:Y}{d:Dc}{s1 s2 a b:V9}(h:Bk w v xa xc d E s1 s2 a b)(o:Obj):Bk w (v.alloc o) xa xc d E s1 s2 a b:=
 h.mI (R:=v.heap.size) ((GA.refl _ _).alloc o) h.sz (fun i hi=>Nat.ne_of_lt (h.Cr i hi).1.lt)
theorem Bk.QV{w v:Y}{d:Dc}{u s1 s2 f g a b c e:V9}(h:Bk w v xa xc d E s1 s2 f g)
  (g0:o≠0) (g5:o≠5) (g6:o≠6)
  (g1:(v.setCell (Y9 w o) u).cell? (Y9 w 1)=some a) (g2:(v.setCell (Y9 w o) u).cell? (Y9 w 2)=some b) (g3:(v.setCell (Y9 w o) u).cell? (Y9 w 3)=some c) (g4:(v.setCell (Y9 w o) u).cell? (Y9 w 4)=some e):Bk w (v.setCell (Y9 w o) u) xa xc d E a b c e:=by
 have hz:=h.sz;refine⟨h.below.setCell (by show _<=w.heap.size+1;omega) _,by simpa using h.sz,(Aq oa).trans h.a2,(Aq oa).trans h.a3,(Aa g0).trans h.b0,g1,g2,g3,g4,(Aa g5).trans h.b5,(Aa g6).trans h.b6,fun q=>by rw[TC];exact h.fz q,h.ptr.keep (A0 _ _ _ _ (by show w.heap.size+1+1≠w.heap.size+1;omega)),fun i hi=>⟨(h.Cr i hi).1.keep od (A0 _ _ _ _ (by show E i≠w.heap.size+1;have:=(h.Cr i hi).2;omega)),(h.Cr i hi).2⟩⟩
theorem Bk.iD{w v:Y}{d:Dc}{s1 s2 a b:V9}(h:Bk w v xa xc d E s1 s2 a b)(u:V9):Bk w (v.setCell (Y9 w 1) u) xa xc d E u s2 a b:=
 h.QV oc oc oc (NX _ _ _ (by rw[h.b1];rfl)) ((Aa oc).trans h.b2) ((Aa oc).trans h.b3) ((Aa oc).trans h.b4)
theorem Bk.iE{w v:Y}{d:Dc}{s1 s2 a b:V9}(h:Bk w v xa xc d E s1 s2 a b)(u:V9):Bk w (v.setCell (Y9 w 2) u) xa xc d E s1 u a b:=
 h.QV oc oc oc ((Aa oc).trans h.b1) (NX _ _ _ (by rw[h.b2];rfl)) ((Aa oc).trans h.b3) ((Aa oc).trans h.b4)
theorem Bk.kM{w v:Y}{d:Dc}{s1 s2 b a:V9}(h:Bk w v xa xc d E s1 s2 b a)(u:V9):Bk w (v.setCell (Y9 w 3) u) xa xc d E s1 s2 u a:=
 h.QV oc oc oc ((Aa oc).trans h.b1) ((Aa oc).trans h.b2) (NX _ _ _ (by rw[h.b3];rfl)) ((Aa oc).trans h.b4)
theorem Bk.nD{w v:Y}{d:Dc}{s1 s2 a b:V9}(h:Bk w v xa xc d E s1 s2 a b)(u:V9):Bk w (v.setCell (Y9 w 4) u) xa xc d E s1 s2 a u:=
 h.QV oc oc oc ((Aa oc).trans h.b1) ((Aa oc).trans h.b2) ((Aa oc).trans h.b3) (NX _ _ _ (by rw[h.b4];rfl))
theorem CL.fresh(w:Y)(n:Nat)(a:TypeId):CL (w.alloc (.cells (madeCells #[.pointer none] n) a)) w.heap.size n a (fun _=>none):=by
 have:=PB w n a;exact⟨_,by simpa[Value.cells]using this,fun i hi=>rfl⟩
theorem ZD(w:Y)(v:Vl)(e:Nat):Gj (w.alloc (.cells (UD v e) 333)) w.heap.size v e:=
 ⟨od,by simp[go_sem],by simp[go_sem],by simp[go_sem],by simp[go_sem],by simp[go_sem],by simp[go_sem],by simp[go_sem],BE _ _⟩
structure TB (w:Y) (B bk a b R2:Nat) (E S:Nat->Nat) (d:Dc):Prop where
 e0:w.cell? (G bk 0)=some (S9 a d.n d.n)
 e1:w.cell? (G bk 1)=some (S9 b d.m d.m)
 fz:∀o,w.frozen? (G bk o)=false
 o0:CL w a d.n 292 (fun i=>some (G (E i) 0))
 o1:CL w b d.m 292 (fun i=>B8 E (d.I i))
 o2:CL w R2 d.x 331 (fun j=>Dj S j (d.X j))
 oM:a≠b
 gb:B<=bk
 g0:bk<a
 g1:bk<b
 g2:bk<R2
 gE:∀i,i<d.n->bk<E i
 gS:∀j,j<d.x->d.X j≠0->R2<S j
theorem GR(la:T9)(lc:Nat)(ia:T9)(ic:Nat)(xa:T9)(xc:Nat)(d:Dc)(w:Y)(hD:G8 w la ia xa d)(hS:Small d)(h3:D3 d)(h4:D4 d):
  C9 213 #[Dv la lc ia ic xa xc d] w fun e w'=>(∃bk R0 s R2 E S,e=.returned (Q9 bk)/\Jk w' bk R0 s R2 E S d/\TB w' w.heap.size bk R0 s R2 E S d)/\B9 w w':=by
 have hn:=hS.n;have hm:=hS.m;have hx:=hS.x;have HD:=O hD;have H3:=O h3;have H4:=O h4;clear hD hS h3 h4;have bz:=IQ underlying324 IJ d.n hn
 go_enter func213,ntmps213
 go_wp2_with fail
 obtain⟨u1,g⟩:∃u1,u1=(((w.alloc (.cells #[.slice la d.n lc,.slice ia d.m ic,.slice xa d.x xc,J d.used,J d.live,J d.turns] 92)).alloc (.cells #[S9 (w.heap.size+1+1) d.n d.n,N9,.nilFunc,N9,J 0,J d.live,J d.turns] 330)).alloc (.cells (madeCells #[.pointer none] d.n) 292)):=⟨_,rfl⟩;rw[<-g];have b7:u1.heap.size=w.heap.size+3:=by rw[g];simp
 have V:Hid (B9 w u1):=O (by rw[g];exact((n9).alloc od _).alloc oe _);have bg:Hid (CL u1 (w.heap.size+1+1) d.n 292 (fun _=>none)):=O (by
  rw[g];have:=PB ((w.alloc (.cells #[.slice la d.n lc,.slice ia d.m ic,.slice xa d.x xc,J d.used,J d.live,J d.turns] 92)).alloc (.cells #[S9 (w.heap.size+1+1) d.n d.n,N9,.nilFunc,N9,J 0,J d.live,J d.turns] 330)) d.n 292;exact⟨_,by simpa[Value.cells]using this,fun i hi=>rfl⟩)
 obtain⟨a1,a2,a3,b0,b1,b2,b3,b4,b5,b6⟩:u1.cell? (y w 1)=some (.slice ia d.m ic)/\u1.cell? (y w 2)=some (.slice xa d.x xc)/\u1.cell? (y w 3)=some (J d.used)/\u1.cell? (Y9 w 0)=some (S9 (w.heap.size+1+1) d.n d.n)/\u1.cell? (Y9 w 1)=some (N9)/\u1.cell? (Y9 w 2)=some .nilFunc/\u1.cell? (Y9 w 3)=some (N9)/\u1.cell? (Y9 w 4)=some (J 0)/\u1.cell? (Y9 w 5)=some (J d.live)/\u1.cell? (Y9 w 6)=some (J d.turns):=by rw[g];simp[go_sem]
 have f1:∀o,u1.frozen? (Y9 w o)=false:=by intro o;rw[g];simp[go_sem]
 clear g bz;go_loopw [26] (fun i wr=>∃(k:Nat) (E:Nat->Nat),k<=d.n/\i=J k/\GA (w.heap.size+1+1) u1 wr/\CL wr (w.heap.size+1+1) d.n 292 (fun i=>if i<k then some (G (E i) 0)else none)/\(∀i,i<k->Bl wr (E i) (d.L i) i/\w.heap.size+3<=E i)/\∀i j,i<k->j<k->E i=E j->i=j) (fun i _=>d.n-(intOf i).toNat)
 case atStart=>exact⟨0,fun _=>0,oa,rfl,GA.refl _ _,bg.congr (fun i hi=>C3 oa),fun i hi=>oa,fun i j hi=>oa⟩
 case round=>
  clear bg;obtain⟨k,E,hk,rfl,a,r,hE,F⟩:=hrel;by_cases l:k<d.n
  ·obtain⟨b,off,rfl,Z,hcs⟩:=HD.log.resolve_left oa;have ao:B9 w wr:=V.trans (a.below oa oa);obtain⟨e0,e1,e2,e3,e4,e5,e6,e7,e8,e9,b8⟩:=(hcs k l).keep (fun q=>ao.cell (p:=(G b q)) Z);have cr:=a.size;have HF:=O a;have HP:=O r;have HE:=O hE;have HI:=O F;have ct:=O ao;have r0:=r.cell l;have r1:=r.frozen k;have U:=(a.cell (o:=0) (q:=w.heap.size+1) oa oa).trans b0;clear hcs a r hE F ao;go_wp2_with fail;obtain⟨W,C⟩:∃W,W=wr.alloc (.cells #[J (d.L k).key.kind,J (d.L k).key.num,F9 (d.L k).key.Ag,.string (d.L k).key.str,J (d.L k).key.ref,J (d.L k).val.kind,J (d.L k).val.num,F9 (d.L k).val.Ag,.string (d.L k).val.str,J (d.L k).val.ref,J (d.L k).turn] 96):=⟨_,rfl⟩;rw[<-C];have y0:W.cell? (y wr 0)=some (J (d.L k).key.kind):=by rw[C];simp[go_sem]
   obtain⟨y1,y2,y3,y4,y5,y6,y7,y8,y9,cu⟩:W.cell? (y wr 1)=some (J (d.L k).key.num)/\W.cell? (y wr 2)=some (F9 (d.L k).key.Ag)/\W.cell? (y wr 3)=some (.string (d.L k).key.str)/\W.cell? (y wr 4)=some (J (d.L k).key.ref)/\W.cell? (y wr 5)=some (J (d.L k).val.kind)/\W.cell? (y wr 6)=some (J (d.L k).val.num)/\W.cell? (y wr 7)=some (F9 (d.L k).val.Ag)/\W.cell? (y wr 8)=some (.string (d.L k).val.str)/\W.cell? (y wr 9)=some (J (d.L k).val.ref)/\W.cell? (y wr 10)=some (J (d.L k).turn):=by rw[C];simp[go_sem]
   have aq:W.heap.size=wr.heap.size+1:=by rw[C];simp
   have ar:GA (w.heap.size+1+1) wr W:=by rw[C];exact(GA.refl _ _).alloc _
   have q0:=(ar.cell (o:=0) (q:=w.heap.size+1) oa oa).trans U;have H:W.heap[w.heap.size+1+1]?=wr.heap[w.heap.size+1+1]?:=by rw[C];exact DO _ _ _ oa
   have au:=O (HP.keep H);have s0:=(au.cell l);have s1:=(au.frozen k);have b9:=O ar;have ca:=O aq;have bh:w.heap.size+1<W.heap.size:=oa;have cb:w.heap.size+1+1<W.heap.size:=oa;have cv:wr.heap.size<W.heap.size:=oa;clear C ar aq H e0 e1 e2 e3 e4 e5 e6 e7 e8 e9 b8 r0 r1 U;obtain⟨t,f⟩:∃t,t=((W.setCell (Z9 w k) (Q9 W.heap.size)).alloc (.cells #[J (d.L k).key.kind,J (d.L k).key.num,F9 (d.L k).key.Ag,.string (d.L k).key.str,J (d.L k).key.ref,J (d.L k).val.kind,J (d.L k).val.num,F9 (d.L k).val.Ag,.string (d.L k).val.str,J (d.L k).val.ref,J (d.L k).turn,J (k:Int)] 294)).drew:=⟨_,rfl⟩;have c:GA (w.heap.size+1+1) wr t:=by rw[f];exact((b9.setCell _ _).alloc _).drew
   have bj:CL t (w.heap.size+1+1) d.n 292 (fun i=>if i<k+1 then some (G ((fun i=>if i=k then W.heap.size else E i) i) 0)else none):=by
    refine((au.set (q:=k) (some (G W.heap.size 0))).keep (w':=t) ?_).congr (fun i hi=>?_)
    ·rw[f];exact DO _ _ _ (by simpa using cb)
    ·by_cases e:i=k
     ·subst e;simp
     ·simp only[e,Tn];by_cases e2:i<k
      ·rw[DD oa,DD e2]
      ·rw[C3 oa,C3 e2]
   have bm:∀i,i<k+1->Bl t ((fun i=>if i=k then W.heap.size else E i) i) (d.L i) i/\w.heap.size+3<=(fun i=>if i=k then W.heap.size else E i) i:=by
    intro i hi;by_cases e:i=k
    ·subst e;simp only[Aaw];refine⟨?_,oa⟩;have:=V2 (W.setCell (Z9 w i) (Q9 W.heap.size)) (d.L i) i;rw[f];refine Bl.drew ?_;simpa using this
    ·simp only[e,Tn];obtain⟨h1,h2⟩:=z HE i oa;exact⟨h1.keep c.size (c.block _ h1.lt oa),h2⟩
   have bn:∀i j,i<k+1->j<k+1->(fun i=>if i=k then W.heap.size else E i) i=(fun i=>if i=k then W.heap.size else E i) j->i=j:=by
    intro i j hi hj he;have aq:=z ca;by_cases e:i=k
    ·by_cases e2:j=k
     ·omega
     ·simp only[e,e2,Aaw,Tn]at he;have:=(HE j oa).1.lt;omega
    ·by_cases e2:j=k
     ·simp only[e,e2,Aaw,Tn]at he;have:=(HE i oa).1.lt;omega
     ·simp only[e,e2,Tn]at he;exact HI i j oa oa he
   have A:=O (⟨HF.trans c,bj,bm,bn⟩:GA (w.heap.size+1+1) u1 t/\_/\_/\_);clear c bj bm bn
   go_region
   rw[<-f];clear f;go_wp2;go_roundw
   case rel=>exact⟨k+1,_,oa,oh,A.1,A.2.1,A.2.2.1,A.2.2.2⟩
   case measure=>simp[intOf];omega
  have B:k=d.n:=oa;subst B;have D:CL wr (w.heap.size+1+1) d.n 292 (fun i=>some (G (E i) 0)):=r.congr (fun i hi=>(DD hi).symm);have bh:=a.size;have av:Hid (B9 w wr):=O (V.trans (a.below oa oa));have bp:=(a.cell (o:=1) (q:=w.heap.size) oa oa).trans a1;have K:=(a.cell (o:=2) (q:=w.heap.size) oa oa).trans a2;have M:=(a.cell (o:=3) (q:=w.heap.size) oa oa).trans a3;have aw:=(a.cell (o:=0) (q:=w.heap.size+1) oa oa).trans b0;have ax:=(a.cell (o:=1) (q:=w.heap.size+1) oa oa).trans b1;have P:=(a.cell (o:=2) (q:=w.heap.size+1) oa oa).trans b2;have Q:=(a.cell (o:=3) (q:=w.heap.size+1) oa oa).trans b3;have R:=(a.cell (o:=4) (q:=w.heap.size+1) oa oa).trans b4;have ay:=(a.cell (o:=5) (q:=w.heap.size+1) oa oa).trans b5;have az:=(a.cell (o:=6) (q:=w.heap.size+1) oa oa).trans b6;have cf:∀o,wr.frozen? (Y9 w o)=false:=fun o=>(a.frozen (o:=o) (q:=w.heap.size+1) oa oa).trans (f1 o);have ah:w.heap.size+3<=wr.heap.size:=oa;obtain⟨v1,bq⟩:∃v,v=wr:=⟨_,rfl⟩;rw[<-bq]at av bp K M aw ax P Q R ay az cf ah D hE ⊢;have HI:=O F;have cc:=IQ underlying324 IJ d.m hm;have aM:w.heap.size<v1.heap.size:=oa;have a6:w.heap.size+1<v1.heap.size:=oa;have cd:w.heap.size+1≠v1.heap.size:=oa;have a7:Hid (Bk w v1 xa xc d E (N9) .nilFunc (N9) (J 0)):=O ⟨av,ah,K,M,aw,ax,P,Q,R,ay,az,cf,D,hE⟩;clear bq r D hE F a bh hk l a1 a2 a3 b0 b1 b2 b3 b4 b5 b6 f1 V b7 av;go_wp2_with fail;clear cc;obtain⟨u2,ad⟩:∃u2,u2=((v1.setCell (Y9 w 1) (S9 v1.heap.size d.m d.m)).alloc (.cells (madeCells #[.pointer none] d.m) 292)):=⟨_,rfl⟩;rw[<-ad];have HK:Hid (Bk w u2 xa xc d E (S9 v1.heap.size d.m d.m) .nilFunc (N9) (J 0)):=O (by rw[ad];exact(a7.iD _).alloc _);have HQ:Hid (CL u2 v1.heap.size d.m 292 (fun _=>none)):=O (by rw[ad];have:=CL.fresh (v1.setCell (Y9 w 1) (S9 v1.heap.size d.m d.m)) d.m 292;simpa using this);have br:∀i,i<d.n->E i<v1.heap.size:=fun i hi=>(a7.Cr i hi).1.lt;have a8:=O br;obtain⟨s,bb⟩:∃s,s=v1.heap.size:=⟨_,rfl⟩;have cw:u2.heap.size=s+1:=by rw[ad,bb];simp
  rw[<-bb]at HK HQ a8 ah ⊢;clear ad br a7 cf bp K M aw ax P Q R ay az aM a6 cd bb;go_loopw [52] (fun i wr=>∃k:Nat,k<=d.m/\i=J k/\GA s u2 wr/\CL wr s d.m 292 (fun i=>if i<k then B8 E (d.I i)else none)) (fun i _=>d.m-(intOf i).toNat)
  case atStart=>exact⟨0,oa,rfl,GA.refl _ _,HQ.congr (fun i hi=>C3 oa)⟩
  case round=>
   clear HQ;obtain⟨k,hk,rfl,a,r⟩:=hrel;have hK:Bk w wr xa xc d E (S9 s d.m d.m) .nilFunc (N9) (J 0):=HK.mI a ah (fun i hi=>Nat.ne_of_lt (a8 i hi));by_cases l:k<d.m
   ·obtain⟨b,off,rfl,Z,hcs⟩:=HD.ints.resolve_left oa;have e0:=ol hK.below Z (hcs k l);have HF:=O a;have HP:=O r;have ai:=a.size;rcases H3.1 k l with hz|hz
    ·have A:Hid (CL wr s d.m 292 (fun i=>if i<k+1 then B8 E (d.I i)else none)):=O (r.congr (fun i hi=>by
      by_cases e:i=k
      ·subst e;simp[B8,hz]
      ·by_cases e2:i<k
       ·rw[DD oa,DD e2]
       ·rw[C3 oa,C3 e2]))
     rw[hz]at e0;clear hcs a r hK hz;go_wp2;go_roundw
     case rel=>exact⟨k+1,oa,oh,HF,A⟩
     case measure=>simp[intOf];omega
    ·obtain⟨q,hq⟩:∃q:Nat,d.I k=(q:Int)+1:=⟨(d.I k-1).toNat,oa⟩;have aj:q<d.n:=oa;have c0:=hK.b0;have c1:=hK.b1;have U:=hK.ptr.cell aj;have r0:=r.cell l;have r1:=r.frozen k;have bt:B8 E (d.I k)=some (G (E q) 0):=by unfold B8;rw[DD oa,hq];congr 3;omega
     have A:Hid (CL (wr.setCell (G s k) (Q9 (E q))).drew s d.m 292 (fun i=>if i<k+1 then B8 E (d.I i)else none)):=O ((r.set (q:=k) (some (G (E q) 0))).congr (fun i hi=>by
      by_cases e:i=k
      ·subst e;simp[bt]
      ·simp only[e,Tn];by_cases e2:i<k
       ·rw[DD oa,DD e2]
       ·rw[C3 oa,C3 e2]))
     have cg:IntKind.i64.wrap (q:Int)=q:=by rw[Hi];omega
     have ch:w.heap.size+1<wr.heap.size:=oa;have cj:w.heap.size+1+1<wr.heap.size:=oa;have DI:s<wr.heap.size:=oa;rw[hq]at e0;clear hcs a r hK hz hq bt;go_wp2_with fail
     go_region
     go_wp2;go_roundw
     case rel=>exact⟨k+1,oa,oh,(HF.setCell _ _).drew,A⟩
     case measure=>simp[intOf];omega
   have B:k=d.m:=oa;subst B;have HQ:Hid (CL wr s d.m 292 (fun i=>B8 E (d.I i))):=O (r.congr (fun i hi=>(DD hi).symm));have ai:=a.size;have K:=hK.a2;have M:=hK.a3;have P:=hK.b2;have Q:=hK.b3;have R:=hK.b4;have cf:=hK.fz;have ak:=O hK;obtain⟨v2,bu⟩:∃v,v=wr:=⟨_,rfl⟩;rw[<-bu]at HQ K M P Q R cf ak ai ⊢;have ck:=IQ underlying326 Sa d.x hx;have aM:w.heap.size<v2.heap.size:=oa;have a6:w.heap.size+1<v2.heap.size:=oa;have bw:s<v2.heap.size:=oa;clear r a hK hk l bu HK;go_wp2_with fail;clear ck;obtain⟨u3,T⟩:∃u3,u3=(((((v2.setCell (Y9 w 2) LA).setCell (Y9 w 3) (N9)).setCell (Y9 w 4) (J d.used)).setCell (Y9 w 3) (S9 v2.heap.size d.x d.x)).alloc (.cells (madeCells #[.pointer none] d.x) 331)):=⟨_,rfl⟩;rw[<-T];have HK:Hid (Bk w u3 xa xc d E (S9 s d.m d.m) LA (S9 v2.heap.size d.x d.x) (J d.used)):=O (by rw[T];exact((((ak.iE _).kM _).nD _).kM _).alloc _);have bc:Hid (CL u3 v2.heap.size d.x 331 (fun _=>none)):=O (by rw[T];have:=CL.fresh ((((v2.setCell (Y9 w 2) LA).setCell (Y9 w 3) (N9)).setCell (Y9 w 4) (J d.used)).setCell (Y9 w 3) (S9 v2.heap.size d.x d.x)) d.x 331;simpa using this);have cl:Hid (CL u3 s d.m 292 (fun i=>B8 E (d.I i))):=O (HQ.keep (by
    rw[T];refine(DO _ _ _ (by simpa using bw)).trans ?_;exact(A0 _ _ _ _ (by show s≠w.heap.size+1;omega)).trans ((A0 _ _ _ _ (by show s≠w.heap.size+1;omega)).trans ((A0 _ _ _ _ (by show s≠w.heap.size+1;omega)).trans (A0 _ _ _ _ (by show s≠w.heap.size+1;omega))))))
   have af:Hid (∀i,i<d.n->E i<v2.heap.size):=O (fun i hi=>(ak.Cr i hi).1.lt);obtain⟨R2,bd⟩:∃R2,R2=v2.heap.size:=⟨_,rfl⟩;have cq:u3.heap.size=R2+1:=by rw[T,bd];simp
   rw[<-bd]at HK bc af bw ai ⊢;clear T ak HQ a8 cf K M P Q R aM a6 bd;have bf:s≠R2:=oa;have cm:w.heap.size+3<=R2:=oa;go_loopw [91] (fun i wr=>∃(k:Nat) (S:Nat->Nat),k<=d.x/\i=J k/\GA R2 u3 wr/\CL wr R2 d.x 331 (fun j=>if j<k then Dj S j (d.X j)else none)/\∀j,j<k->Dp wr E S d j/\(d.X j≠0->R2<S j)) (fun i _=>d.x-(intOf i).toNat)
   case atStart=>exact⟨0,fun _=>0,oa,rfl,GA.refl _ _,bc.congr (fun i hi=>C3 oa),fun j hj=>oa⟩
   case round=>
    clear bc;obtain⟨k,S,hk,rfl,a,r,u⟩:=hrel;have hK:Bk w wr xa xc d E (S9 s d.m d.m) LA (S9 R2 d.x d.x) (J d.used):=HK.mI a cm (fun i hi=>Nat.ne_of_lt (af i hi));have ai:=a.size;by_cases l:k<d.x
    ·obtain⟨b,off,rfl,Z,hcs⟩:=HD.index.resolve_left oa;have e0:=ol hK.below Z (hcs k l);have HF:=O a;have HP:=O r;have cx:=O u;have ch:w.heap.size+1<wr.heap.size:=oa;have cj:w.heap.size+1+1<wr.heap.size:=oa;have DI:R2<wr.heap.size:=oa;have c0:=hK.b0;have c3:=hK.b3;have r0:=r.cell l;have r1:=r.frozen k;by_cases U:d.X k=0
     ·have A:Hid (CL wr R2 d.x 331 (fun j=>if j<k+1 then Dj S j (d.X j)else none)):=O (r.congr (fun j hj=>by
       by_cases e:j=k
       ·subst e;simp[Dj,U]
       ·by_cases e2:j<k
        ·rw[DD oa,DD e2]
        ·rw[C3 oa,C3 e2]))
      have cn:Hid (∀j,j<k+1->Dp wr E S d j/\(d.X j≠0->R2<S j)):=O (fun j hj=>by
       by_cases e:j=k
       ·subst e;exact⟨⟨fun h=>oa,fun h=>oa⟩,fun h=>absurd U h⟩
       ·exact u j oa)
      rw[U]at e0;clear hcs a r hK u U;go_wp2;go_roundw
      case rel=>exact⟨k+1,S,oa,oh,HF,A,cn⟩
      case measure=>simp[intOf];omega
     have ae:∀(W':Y) (sb:Nat),W'.heap[R2]?=(wr.setCell (G R2 k) (Q9 sb)).heap[R2]?->CL W' R2 d.x 331 (fun j=>if j<k+1 then Dj (fun i=>if i=k then sb else S i) j (d.X j)else none):=by
      intro W' sb H;refine((r.set (q:=k) (some (G sb 0))).keep H).congr (fun j hj=>?_);by_cases e:j=k
      ·subst e;simp[Dj,U]
      ·simp only[e,Tn,Dj];by_cases e2:j<k
       ·rw[DD oa,DD e2]
       ·rw[C3 oa,C3 e2]
     have cy:=O ae;rcases H4.2.1 k l with hs|hs|hs
     ·exact absurd hs U
     ·obtain⟨t,f⟩:∃t,t=(wr.setCell (G R2 k) (Q9 wr.heap.size)).alloc (.cells #[J 0,J 0,F9 0,E9,J 0,.pointer none,.bool true] 333):=⟨_,rfl⟩;have c:GA R2 wr t:=by rw[f];exact((GA.refl _ _).setCell _ _).alloc _
      have A:Hid (GA R2 u3 t/\CL t R2 d.x 331 (fun j=>if j<k+1 then Dj (fun i=>if i=k then wr.heap.size else S i) j (d.X j)else none)/\∀j,j<k+1->Dp t E (fun i=>if i=k then wr.heap.size else S i) d j/\(d.X j≠0->R2<(fun i=>if i=k then wr.heap.size else S i) j)):=O ⟨a.trans c,ae t _ (by rw[f];exact DO _ _ _ (by simpa using DI)),fun j hj=>by
       by_cases e:j=k
       ·subst e;simp only[Aaw];refine⟨⟨fun h=>oa,fun _=>?_⟩,fun _=>DI⟩;simp only[Aaw];rw[f];exact⟨od,by simp[go_sem],by have hg:=BE (wr.setCell (G R2 j) (Q9 wr.heap.size)) (.cells RU 333);simpa using hg⟩
       ·obtain⟨⟨h1,h2⟩,h3⟩:=u j oa;refine⟨⟨fun h=>?_,fun h=>?_⟩,fun h=>?_⟩
        ·simp only[e,Tn];have:=h3 oa;exact(h1 h).keep c.size (c.block _ (h1 h).lt oa)
        ·simp only[e,Tn];have:=h3 oa;exact(h2 h).keep c.size (c.block _ (h2 h).lt oa)
        ·simp only[e,Tn];exact h3 h⟩
      rw[hs]at e0;clear hcs a r hK u U hs ae c;go_wp2_with fail;rw[<-f];clear f;go_roundw
      case rel=>exact⟨k+1,_,oa,oh,A.1,A.2.1,A.2.2⟩
      case measure=>simp[intOf];omega
     ·obtain⟨q,hq⟩:∃q:Nat,d.X k=(q:Int)+1:=⟨(d.X k-1).toNat,oa⟩;have aj:q<d.n:=oa;have p1:=hK.ptr.cell aj;obtain⟨cz,g0,g1,g2,g3,g4,_,_,_,_,_,_,_⟩:=(hK.Cr q aj).1;have bx:(d.X k-1).toNat=q:=oa;obtain⟨t,f⟩:∃t,t=((wr.setCell (G R2 k) (Q9 wr.heap.size)).alloc (.cells #[J (d.L q).key.kind,J (d.L q).key.num,F9 (d.L q).key.Ag,.string (d.L q).key.str,J (d.L q).key.ref,Q9 (E q),.bool false] 333)).drew:=⟨_,rfl⟩;have c:GA R2 wr t:=by rw[f];exact(((GA.refl _ _).setCell _ _).alloc _).drew
      have A:Hid (GA R2 u3 t/\CL t R2 d.x 331 (fun j=>if j<k+1 then Dj (fun i=>if i=k then wr.heap.size else S i) j (d.X j)else none)/\∀j,j<k+1->Dp t E (fun i=>if i=k then wr.heap.size else S i) d j/\(d.X j≠0->R2<(fun i=>if i=k then wr.heap.size else S i) j)):=O ⟨a.trans c,ae t _ (by rw[f];exact DO _ _ _ (by simpa using DI)),fun j hj=>by
       by_cases e:j=k
       ·subst e;refine⟨⟨fun _=>?_,fun h=>oa⟩,fun _=>by simpa using DI⟩;simp only[Aaw];rw[f];have hn:=ZD (wr.setCell (G R2 j) (Q9 wr.heap.size)) (d.L q).key (E q);have cp:Gj ((wr.setCell (G R2 j) (Q9 wr.heap.size)).alloc (.cells #[J (d.L q).key.kind,J (d.L q).key.num,F9 (d.L q).key.Ag,.string (d.L q).key.str,J (d.L q).key.ref,Q9 (E q),.bool false] 333)) wr.heap.size (d.L q).key (E q):=by simpa using hn
        show Gj _ _ (d.L (d.X j-1).toNat).key (E (d.X j-1).toNat);rw[bx];exact cp.keep (Be _) rfl
       ·obtain⟨⟨h1,h2⟩,h3⟩:=u j oa;refine⟨⟨fun h=>?_,fun h=>?_⟩,fun h=>?_⟩
        ·simp only[e,Tn];have:=h3 oa;exact(h1 h).keep c.size (c.block _ (h1 h).lt oa)
        ·simp only[e,Tn];have:=h3 oa;exact(h2 h).keep c.size (c.block _ (h2 h).lt oa)
        ·simp only[e,Tn];exact h3 h⟩
      have cg:IntKind.i64.wrap (q:Int)=q:=by rw[Hi];omega
      rw[hq]at e0;clear hcs a r hK u U hs ae c hq bx;go_wp2_with fail
      go_region
      rw[<-f];clear f;go_wp2;go_roundw
      case rel=>exact⟨k+1,_,oa,oh,A.1,A.2.1,A.2.2⟩
      case measure=>simp[intOf];omega
    have B:k=d.x:=oa;subst B;have D:CL wr R2 d.x 331 (fun j=>Dj S j (d.X j)):=r.congr (fun i hi=>(DD hi).symm);have hQ:CL wr s d.m 292 (fun i=>B8 E (d.I i)):=cl.keep (a.block _ oa bf);have ag:Hid ((Jk wr (w.heap.size+1) (w.heap.size+1+1) s R2 E S d/\TB wr w.heap.size (w.heap.size+1) (w.heap.size+1+1) s R2 E S d)/\B9 w wr):=O ⟨⟨⟨oa,⟨_,_,hK.b0,fun _=>rfl⟩,⟨_,hK.b1⟩,hK.b2,hK.b3,hK.b4,hK.b5,hK.b6,fun i hi=>hK.ptr.cell hi,fun i hi=>(hK.Cr i hi).1,HI,fun i hi=>hQ.cell hi,fun i hi=>D.cell hi,fun j hj=>(u j hj).1,oa,oa,oa⟩,⟨hK.b0,hK.b1,hK.fz,hK.ptr,hQ,D,oa,oa,oa,oa,oa,fun i hi=>oj (hK.Cr i hi).2,fun j hj h0=>(u j hj).2 h0⟩⟩,hK.below⟩;clear r D a hK u hk l hQ;go_wp2;go_ret;exact⟨⟨_,_,_,_,_,_,rfl,ag.1⟩,ag.2⟩
theorem GQ(la:T9)(lc:Nat)(ia:T9)(ic:Nat)(xa:T9)(xc:Nat)(d:Dc)(w:Y)(hD:G8 w la ia xa d)(c:Small d)(h3:D3 d)(h4:D4 d):
  C9 213 #[Dv la lc ia ic xa xc d] w fun e w'=>(∃bk a b R2 E S,e=.returned (Q9 bk)/\Jk w' bk a b R2 E S d)/\B9 w w':=
 (GR la lc ia ic xa xc d w hD c h3 h4).mono fun e w' h=>by
  obtain⟨⟨bk,a,b,R2,E,S,h1,h2,_⟩,h3⟩:=h;exact⟨⟨bk,a,b,R2,E,S,h1,h2⟩,h3⟩
end
section
attribute [local go_sem] Am Aj
theorem RG(p:Pr)(w:Y):
  C9 258 #[PV p,PV p] w (R9 (.bool true) w):=by
 go_enter func258,ntmps258
 go_wp2_with fail
 refine m9 (C7 p.key.kind p.key.num p.key.Ag p.key.str p.key.ref _) fun w1 a=>?_;obtain⟨f,g⟩:=Bo a;have d:=a.size;simp at d;have j:w.heap.size<w1.heap.size:=oa;have k:w.heap.size+1<w1.heap.size:=oa;have c:Hid (B9 w w1):=O (((n9).alloc od _).trans (a.mono oe));clear a;go_wp2_with fail;refine m9 (C7 p.val.kind p.val.num p.val.Ag p.val.str p.val.ref _) fun w2 b=>?_;obtain⟨h,i⟩:=Bo b;have e:=O (oo c b);clear b;go_wp2;go_ret;exact⟨rfl,e⟩
theorem Qu(a a':T9)(n cap g:Nat)(f:Nat->Pr)(w:Y)(hA:UW w a n f)(t:UW w a' n f)(hn:n<=4194304):
  C9 228 #[.slice a n cap,.slice a' n g] w (R9 (.bool true) w):=by
 have v:=O hA;have x:=O t;clear hA t
 go_enter func228,ntmps228
 go_wp2;go_loopw [5] (fun i wr=>∃(k:Nat),k<=n/\i=J k/\B9 w wr) (fun i _=>n-(intOf i).toNat)
 case atStart=>exact⟨0,oa,rfl,Cs _ _⟩
 case round=>
  obtain⟨k,hk,rfl,hb⟩:=hrel;by_cases j:k<n
  ·obtain⟨b,off,rfl,l,hcs⟩:=v.resolve_left oa;obtain⟨b',u,rfl,c,d⟩:=x.resolve_left oa;obtain⟨e0,e1,e2,e3,A,B,C,D,E,F,r⟩:=(hcs k j).keep (fun q=>hb.cell (p:=(G b q)) l);obtain⟨d0,d1,d2,d3,d4,d5,d6,d7,d8,d9,d10⟩:=(d k j).keep (fun q=>hb.cell (p:=(G b' q)) c);have hx:b<wr.heap.size:=At l hb.size;have H:b'<wr.heap.size:=At c hb.size;have m:=O hb;clear hb hcs d;go_wp2_with fail;refine qr wr ?_;refine N (h:=N (h:=N (h:=N (h:=N (h:=N (h:=N (h:=N (h:=?_))))))));refine GS (fun K hK=>?_);go_simp;refine⟨_,fun w' s=>qk s (RG (f k) _),hK _ ?_⟩;clear hK K;refine N (h:=?_);refine H7 ?_;intro w2 o;have e:=O (oo m o);clear o e0 e1 e2 e3 A B C D E F r d0 d1 d2 d3 d4 d5 d6 d7 d8 d9 d10;go_wp2;go_roundw
   case rel=>exact⟨k+1,oa,oh,e⟩
   case measure=>simp[intOf];omega
  ·have:k=n:=oa;subst this;have e:=O hb;clear hb;go_wp2;go_ret;exact⟨rfl,e⟩
theorem Lx(a a':T9)(n cap e:Nat)(f:Nat->Int)(w:Y)(hA:UU w a n f)(o:UU w a' n f)(hn:n<=4194304):
  C9 229 #[.slice a n cap,.slice a' n e] w (R9 (.bool true) w):=by
 have q:=O hA;have r:=O o;clear hA o
 go_enter func229,ntmps229
 go_wp2;go_loopw [5] (fun i wr=>∃(k:Nat),k<=n/\i=J k/\B9 w wr) (fun i _=>n-(intOf i).toNat)
 case atStart=>exact⟨0,oa,rfl,Cs _ _⟩
 case round=>
  obtain⟨k,hk,rfl,hb⟩:=hrel;by_cases g:k<n
  ·obtain⟨b,off,rfl,h,hcs⟩:=q.resolve_left oa;obtain⟨b',j,rfl,c,d⟩:=r.resolve_left oa;have e0:=ol hb h (hcs k g);have d0:=ol hb c (d k g);have hx:b<wr.heap.size:=At h hb.size;have s:b'<wr.heap.size:=At c hb.size;have t:(f k !=f k)=false:=od;have l:=O hb;clear hb hcs d;go_wp2_with fail
   go_quiet (fail)
   go_wp2;go_roundw
   case rel=>exact⟨k+1,oa,oh,AW l _⟩
   case measure=>simp[intOf];omega
  ·have:k=n:=oa;subst this;have m:=O hb;clear hb;go_wp2;go_ret;exact⟨rfl,m⟩
theorem RE(la b ia c xa e:T9)(lc j ic k xc l:Nat)(d:Dc)(w:Y)(hA:G8 w la ia xa d)(v:G8 w b c e d)(A:Small d):
  C9 187 #[Dv la lc ia ic xa xc d,Dv b j c k e l d] w (R9 (.bool true) w):=by
 have q:=O hA;have r:=O v;have s:=O A;clear hA v A;have p:B9 w ((w.alloc (.cells #[.slice la d.n lc,.slice ia d.m ic,.slice xa d.x xc,J d.used,J d.live,J d.turns] 92)).alloc (.cells #[.slice b d.n j,.slice c d.m k,.slice e d.x l,J d.used,J d.live,J d.turns] 92)):=(n9).alloc od _;have f:=O p;clear p
 go_enter func187,ntmps187
 go_wp2_with fail
 refine m9 (Qu la b d.n lc j d.L _ (q.below f).log (r.below f).log s.n) fun w1 g=>?_;obtain⟨B,C⟩:=Bo g;have t:=g.size;simp at t;have D:w.heap.size<w1.heap.size:=oa;have E:w.heap.size+1<w1.heap.size:=oa;have h:=O (oo f g);clear g;go_wp2_with fail;refine m9 (Lx ia c d.m ic k d.I _ (q.below h).ints (r.below h).ints s.m) fun w2 a=>?_;obtain⟨F,H⟩:=Bo a;have z0:=At D a.size;have P:=At E a.size;have i:=O (oo h a);clear a;go_wp2_with fail;refine m9 (Lx xa e d.x xc l d.X _ (q.below i).index (r.below i).index s.x) fun w3 o=>?_;obtain⟨K,M⟩:=Bo o;have u:=O (oo i o);clear o;go_wp2;go_ret;exact⟨rfl,u⟩
end
structure A3 where
 parent:Int
 key:ByteArray
 count:Int
instance:Inhabited A3:=⟨⟨0,⟨#[]⟩,0⟩⟩
abbrev Sh(p:Int)(k:ByteArray)(c:Int):Value:=.agg #[J p,.string k,J c]
def Ot(w:Y)(a:T9)(n:Nat)(f:Nat->A3):Prop:=
 n=0\/∃b off,a=some (G b off)/\b<w.heap.size/\∀i,i<n->w.cell? (G b (off+i*3))=some (J (f i).parent)/\w.cell? (G b (off+i*3+1))=some (.string (f i).key)/\w.cell? (G b (off+i*3+2))=some (J (f i).count)
theorem Ot.below{w w':Y}{a:Option Addr}{f:Nat->A3}(h:Ot w a n f)(hb:Below B w w')(d:B=w.heap.size):Ot w' a n f:=by
 subst d;rcases h with h|⟨b,off,e,c,hc⟩
 ·exact .inl h
 ·refine .inr ⟨b,off,e,At c hb.size,fun i hi=>?_⟩;obtain⟨g,h1,h2⟩:=hc i hi;exact⟨(hb.cell (by exact c)).trans g,(hb.cell (by exact c)).trans h1,(hb.cell (by exact c)).trans h2⟩
theorem RI(p q:Int)(k l:ByteArray)(c d:Int)(w:Y):
  C9 185 #[Sh p k c,Sh q l d] w (R9 (.bool (p==q&&(k.toList==l.toList)&&c==d)) w):=by
 go_enter func185,ntmps185
 go_wp2;all_goals(go_ret;refine⟨by simp_all,(n9).alloc od _⟩)
def iY(n:Nat)(f:Nat->A3):Prop:=n<=1048576/\∀i,i<n->(f i).key.size<=1048576
def cellOf(f:Nat->A3)(j:Nat):Value:=
 if j%3=0 then J (f (j/3)).parent else if j%3=1 then .string (f (j/3)).key else J (f (j/3)).count
theorem Qn(f:Nat->A3)(i:Nat):cellOf f (i*3)=J (f i).parent:=by
 have h1:i*3%3=0:=oa;have h2:i*3/3=i:=oa;simp[cellOf]
theorem Qo(f:Nat->A3)(i:Nat):cellOf f (i*3+1)=.string (f i).key:=by
 have h1:(i*3+1)%3=1:=oa;have h2:(i*3+1)/3=i:=oa;simp[cellOf,h1,h2]
theorem Qp(f:Nat->A3)(i:Nat):cellOf f (i*3+2)=J (f i).count:=by
 have h1:(i*3+2)%3=2:=oa;have h2:(i*3+2)/3=i:=oa;simp[cellOf,h1,h2]
def Cl(w:Y)(b n:Nat)(f:Nat->A3):Prop:=∃(Z:Nat) (g:Nat->Value),n*3<=Z/\w.rowIs b 205 Z g/\∀j,j<n*3->g j=cellOf f j
theorem Cl.lt{w:Y}{f:Nat->A3}(h:Cl w b n f):b<w.heap.size:=by obtain⟨_,_,_,h,_⟩:=h;exact h.lt
theorem Cl.cells{w:Y}{f:Nat->A3}(h:Cl w b n f){i:Nat}(hi:i<n):
  w.cell? (G b (i*3))=some (J (f i).parent)/\w.cell? (G b (i*3+1))=some (.string (f i).key)/\w.cell? (G b (i*3+2))=some (J (f i).count):=by
 obtain⟨Z,g,hN,a,c⟩:=h;exact⟨by rw[a.cell oa,c _ oa,Qn],by rw[a.cell oa,c _ oa,Qo],by rw[a.cell oa,c _ oa,Qp]⟩
theorem Cl.of_block{w w':Y}{f:Nat->A3}(h:Cl w b n f)(e:w'.heap[b]?=w.heap[b]?):Cl w' b n f:=by
 obtain⟨Z,g,hN,a,c⟩:=h;exact⟨Z,g,hN,a.of_block e,c⟩
theorem Cl.below{w w':Y}{f:Nat->A3}(h:Cl w b n f)(hb:Below B w w')(a:b<B):Cl w' b n f:=h.of_block (hb.block b a)
theorem Cl.at{w:Y}{f:Nat->A3}(h:Cl w b n f):Ot w (some (G b 0)) n f:=
 .inr ⟨b,0,rfl,h.lt,fun i hi=>by simpa using h.cells hi⟩
theorem KT:(prog.info? 205).map (fun i=>(i.zero,i.size,i.bytes))=some (some (Sh 0 ⟨#[]⟩ 0),3,32):=og
section
attribute [local go_sem] Am Aj
structure Tb where
 shape:Int
 nv:Nat
 V:Nat->Vl
 d:Dc
structure Si where
 key:ByteArray
 shape:Int
 place:Int
 EB:Int
 AU:Int
structure AK where
 nf:Nat
 F:Nat->A3
 nt:Nat
 T:Nat->Tb
 ns:Nat
 S:Nat->Si
abbrev Gf(v:Vl):Value:=V v.kind v.num v.Ag v.str v.ref
abbrev SV(s:Si):Value:=.agg #[.string s.key,J s.shape,J s.place,J s.EB,J s.AU]
abbrev TV(va:T9)(vc:Nat)(la:T9)(lc:Nat)(ia:T9)(ic:Nat)(xa:T9)(xc:Nat)(t:Tb):Value:=.agg #[J t.shape,.slice va t.nv vc,.slice la t.d.n lc,.slice ia t.d.m ic,.slice xa t.d.x xc,J t.d.used,J t.d.live,J t.d.turns]
abbrev nH(a:T9)(b:Nat)(c:T9)(tc:Nat)(sa:T9)(sc:Nat)(s:AK):Value:=.agg #[.slice a s.nf b,.slice c s.nt tc,.slice sa s.ns sc]
structure I8 (w:Y) (b o:Nat) (p:Vl):Prop where
 c0:w.cell? (G b o)=some (J p.kind)
 c1:w.cell? (G b (o+1))=some (J p.num)
 c2:w.cell? (G b (o+2))=some (F9 p.Ag)
 c3:w.cell? (G b (o+3))=some (.string p.str)
 c4:w.cell? (G b (o+4))=some (J p.ref)
theorem I8.keep{w w':Y}{p:Vl}(h:I8 w b o p)(e:∀q,w'.cell? (G b q)=w.cell? (G b q)):I8 w' b o p:=
 ⟨(e _).trans h.c0,(e _).trans h.c1,(e _).trans h.c2,(e _).trans h.c3,(e _).trans h.c4⟩
def I4(w:Y)(a:T9)(n:Nat)(f:Nat->Vl):Prop:=
 n=0\/∃b off,a=some (G b off)/\b<w.heap.size/\∀i,i<n->I8 w b (off+i*5) (f i)
theorem I4.below{w w':Y}{a:Option Addr}{f:Nat->Vl}(h:I4 w a n f)(hb:Below B w w')(d:B=w.heap.size):I4 w' a n f:=by
 subst d;rcases h with h|⟨b,off,e,c,hc⟩
 ·exact .inl h
 ·exact .inr ⟨b,off,e,At c hb.size,fun i hi=>(hc i hi).keep (fun q=>hb.cell (p:=(G b q)) c)⟩
structure jB (w:Y) (b o:Nat) (p:Si):Prop where
 c0:w.cell? (G b o)=some (.string p.key)
 c1:w.cell? (G b (o+1))=some (J p.shape)
 c2:w.cell? (G b (o+2))=some (J p.place)
 c3:w.cell? (G b (o+3))=some (J p.EB)
 c4:w.cell? (G b (o+4))=some (J p.AU)
theorem jB.keep{w w':Y}{p:Si}(h:jB w b o p)(e:∀q,w'.cell? (G b q)=w.cell? (G b q)):jB w' b o p:=
 ⟨(e _).trans h.c0,(e _).trans h.c1,(e _).trans h.c2,(e _).trans h.c3,(e _).trans h.c4⟩
def LS(w:Y)(a:T9)(n:Nat)(f:Nat->Si):Prop:=
 n=0\/∃b off,a=some (G b off)/\b<w.heap.size/\∀i,i<n->jB w b (off+i*5) (f i)
theorem LS.below{w w':Y}{a:Option Addr}{f:Nat->Si}(h:LS w a n f)(hb:Below B w w')(d:B=w.heap.size):LS w' a n f:=by
 subst d;rcases h with h|⟨b,off,e,c,hc⟩
 ·exact .inl h
 ·exact .inr ⟨b,off,e,At c hb.size,fun i hi=>(hc i hi).keep (fun q=>hb.cell (p:=(G b q)) c)⟩
structure Pd (w:Y) (b o:Nat) (va:T9) (vc:Nat) (la:T9) (lc:Nat) (ia:T9) (ic:Nat) (xa:T9) (xc:Nat) (t:Tb):Prop where
 c0:w.cell? (G b o)=some (J t.shape)
 c1:w.cell? (G b (o+1))=some (.slice va t.nv vc)
 c2:w.cell? (G b (o+2))=some (.slice la t.d.n lc)
 c3:w.cell? (G b (o+3))=some (.slice ia t.d.m ic)
 c4:w.cell? (G b (o+4))=some (.slice xa t.d.x xc)
 c5:w.cell? (G b (o+5))=some (J t.d.used)
 c6:w.cell? (G b (o+6))=some (J t.d.live)
 c7:w.cell? (G b (o+7))=some (J t.d.turns)
theorem Pd.gB{w w':Y}{va:Option Addr}{vc:Nat}{t:Tb}(h:Pd w b o va vc la lc ia ic xa xc t)(e:∀j,j<8->w'.cell? (G b (o+j))=w.cell? (G b (o+j))):Pd w' b o va vc la lc ia ic xa xc t:=
 ⟨(e 0 oa).trans h.c0,(e 1 oa).trans h.c1,(e 2 oa).trans h.c2,(e 3 oa).trans h.c3,(e 4 oa).trans h.c4,(e 5 oa).trans h.c5,(e 6 oa).trans h.c6,(e 7 oa).trans h.c7⟩
def XY(w:Y)(b o:Nat)(t:Tb):Prop:=
 ∃va vc la lc ia ic xa xc,Pd w b o va vc la lc ia ic xa xc t/\I4 w va t.nv t.V/\G8 w la ia xa t.d
theorem XY.below{w w':Y}{t:Tb}(h:XY w b o t)(hb:B9 w w')(hl:b<w.heap.size):XY w' b o t:=by
 obtain⟨va,vc,la,lc,ia,ic,xa,xc,h1,h2,h3⟩:=h;exact⟨va,vc,la,lc,ia,ic,xa,xc,h1.gB (fun q _=>hb.cell (p:=(G b (o+q))) hl),h2.below hb rfl,h3.below hb⟩
def Z7(w:Y)(a:T9)(n:Nat)(f:Nat->Tb):Prop:=
 n=0\/∃b off,a=some (G b off)/\b<w.heap.size/\∀i,i<n->XY w b (off+i*8) (f i)
theorem Z7.below{w w':Y}{a:Option Addr}{f:Nat->Tb}(h:Z7 w a n f)(hb:Below B w w')(d:B=w.heap.size):Z7 w' a n f:=by
 subst d;rcases h with h|⟨b,off,e,c,hc⟩
 ·exact .inl h
 ·exact .inr ⟨b,off,e,At c hb.size,fun i hi=>(hc i hi).below hb c⟩
def dw(d:Dc):Nat:=d.n+d.m+d.x
def tw(t:Tb):Nat:=t.nv+dw t.d+1
def Iu(f:Nat->Tb):Nat->Nat
 |0=>0
 |k+1=>Iu f k+tw (f k)
theorem dF(f:Nat->Tb){k n:Nat}(h:k<=n):Iu f k<=Iu f n:=by
 induction n with
 |zero=>rw[show k=0 by omega];exact Be _
 |succ n ih=>
  by_cases e:k=n+1
  ·subst e;exact Be _
  ·have:=ih oa;show _<=Iu f n+tw (f n);omega
theorem VJ(f:Nat->Tb){k n:Nat}(h:k<n):Iu f k+tw (f k)<=Iu f n:=dF f (k:=k+1) h
theorem ZV(f:Nat->Tb)(n:Nat):n<=Iu f n:=by
 induction n with
 |zero=>exact Re _
 |succ n ih=>show n+1<=Iu f n+tw (f n);unfold tw;omega
structure TA (s:AK):Prop where
 f:iY s.nf s.F
 nt:s.nt<=1048576
 nv:∀{i:Nat},i<s.nt->(s.T i).nv<=1048576
 MX:∀{i:Nat},i<s.nt->Small (s.T i).d
 n:s.ns<=1048576
end
section
open Go.RowKit Go.Shelf
section
variable {P:Program} {ops:Array Oper} {C:World->Prop} {md:Region.Mode}
theorem wpIn_of_quiet{o:Oper}{a:Act}{d:Act->World->Prop}{j:Exit->Act->World->Prop}{w:Y}(k:∀c,o.op≠.defer c)(g:C w)(h:∀a w',C w'->K a->d a w')(i:o.quiet P a C K):o.wpIn (Fence.wide.inRound l) n P a w d j:=by
 obtain⟨v,h1,h2⟩:=i;have h3:=h1 w g;unfold Oper.quietAt at h3;refine⟨fun _ _=>trivial,?_⟩;show o.uponIn (Fence.wide.inRound l) n P a d j ((o.semAt (some l) a.eval).run P w);rw[Oper.semAt_some l _ _ k];generalize (execOp a.eval o).run P w=r at*;cases r with
 |ok x w'=>
  cases x<;>simp only[Oper.quietUpon]at h3<;>simp only[Oper.uponIn]
  case value u=>
   obtain⟨e1,e2⟩:=h3;rw[e1,e2];exact h _ _ g h2
  case skip=>
   obtain⟨e1,e2⟩:=h3;rw[e1,<-e2];exact h _ _ g h2
  case enter f args=>
   obtain⟨e1,hc⟩:=h3;rw[e1];refine⟨fun i=>(by cases i),CallsIn.inRound l (Aac.2 (hc.mono fun e m ⟨p,b⟩=>?_))⟩;subst p;exact h _ _ b h2
 |halt x w'=>simp only[Oper.quietUpon]at h3
def FY(ops:Array Oper):Bool:=ops.all fun o=>match o.op with|.defer _=>false|_=>true
theorem Ka(h:FY ops=true){i:Nat}{o:Oper}(a:ops[i]?=some o):∀c,o.op≠.defer c:=by
 intro c e;unfold FY at h;rw[Array.all_eq_true]at h;obtain⟨hi,b⟩:=GC.1 a;have:=h i hi;rw[b,e]at this;simp at this
theorem O4{a:Act}{f:Act->World->Prop}{g:Exit->Act->World->Prop}{w:Y}(j:FY ops=true)(d:C w)(h:∀a w',C w'->K a->f a w')(b:qOp P ops C i K a):wpOpIn (Fence.wide.inRound l) n P ops g i f a w:=by
 unfold qOp at b;unfold wpOpIn
 split
 ·rename_i c;simp only[c]at b;exact h _ _ d b
 ·rename_i o c
  simp only[c]at b
  split
  ·rename_i e;simp only[e,Aaw]at b;exact wpIn_of_quiet (Ka j c) d h b
  ·rename_i e;simp only[e]at b;exact⟨fun _ _=>trivial,h _ _ d b⟩
theorem wpAnyIn_of_quiet{Q:Act->Prop}{e:Exit->Act->World->Prop}(f:FY ops=true)(c:∀a w,C w->Q a->e .normal a w):∀(fuel:Nat) (listed:Array Bool) (a:Act) (w:Y),C w->
  wpAnyQ P md ops C Q fuel listed a->wpAnyIn (Fence.wide.inRound l) n P md ops e fuel listed a w
 |0,_,_,_,b,h=>⟨h.1,c _ _ b h.2⟩
 |fuel+1,_,_,_,b,h=>⟨fun g=>c _ _ b (h.1 g),fun i hi=>O4 f b (fun a' w' d=>wpAnyIn_of_quiet f c fuel _ a' w' d) (h.2 i hi)⟩
theorem wpIn_region_quiet{a:Act}{w:Y}(d:P.follows .mixedOrders=true)(b:Region.lexB .any ops=true)(e:FY ops=true)(f:C {w with drawn:=w.drawn+1})
  (h:wpQuiet P ops C (fun a'=>∀w',C w'->Q .normal a' w') ops.toList a):(Code.region id ops true).wpIn (Fence.wide.inRound l) n P Q a w:=by
 simp only[Region.lexB,To]at b;refine wpIn_region_any d (wpAnyIn_of_quiet e (Q:=fun a'=>∀w',C w'->Q .normal a' w') (fun _ w' c h=>h w' c) _ _ _ _ f ?_);have:=wpAnyQ_lex (C:=C) (md:=.any) b.1 ops.toList 0 (Array.replicate ops.size false) a od (by simpa using b.2) h;simpa using this
end
end
section
open Go.RowKit Go.Shelf
attribute [local go_sem] Am Aj Oper.semAt_some
structure O7 (T:World->Prop) (v:Vl) (h:Nat):Prop where
 lt:h<18446744073709551616
 call:∀w:World,T w->C9 247 #[V v.kind v.num v.Ag v.str v.ref] w (R9 (.int .u64 (h:Int)) w)
def EM(T:World->Prop):Prop:=∀w w',T w->B9 w w'->T w'
def Et(x a0 f:Nat):List Nat:=(List.range f).map (fun j=>(a0+j)%x)
theorem PT(x a0 f:Nat):Et x a0 (f+1)=Et x a0 f++[(a0+f)%x]:=by
 unfold Et;rw[List.range_succ];simp
theorem LM(x a0 f:Nat):(Et x a0 f).length=f:=by simp[Et]
theorem SU{a0 g:Nat}(h:f<=g):Et x a0 f<+:Et x a0 g:=by
 obtain⟨k,rfl⟩:∃k,g=f+k:=⟨g-f,oa⟩
 induction k with
 |zero=>exact List.prefix_refl _
 |succ k ih=>
  rw[show f+(k+1)=(f+k)+1 by omega,PT];exact(ih oa).trans (List.prefix_append _ _)
theorem RQ(p:T9)(v:Vl)(w:Y):
  C9 297 #[.pointer p,V v.kind v.num v.Ag v.str v.ref] w fun e w'=>e=.returned (.func (.func 308) #[] #[Q9 w.heap.size,Q9 (w.heap.size+1)])/\w'=(w.alloc (.cells #[.pointer p] 377)).alloc (.cells (ow v) 43):=by
 go_enter func297,ntmps297
 go_wp2;go_ret;exact⟨rfl,rfl⟩
theorem Hv{w w':Y}(h:B9 w w'):w.grownBy w' none:=⟨h.os,h.tape,h.output,h.size,fun k hk _=>h.block k hk⟩
def dX(d:Dc)(h:Nat)(xs:List {a:Nat//a<d.x}):Prop:=xs.map (·.1)=Et d.x (h%d.x) d.x
def XX(d:Dc)(h:Nat)(xs:List {a:Nat//a<d.x}):Prop:=xs.map (·.1)<+:Et d.x (h%d.x) d.x
def MK(d:Dc)(h j:Nat)(xs:List {a:Nat//a<d.x}):Prop:=xs.map (·.1)=Et d.x (h%d.x) j
theorem MK.len{d:Dc}{xs:List {a:Nat//a<d.x}}(e:MK d h j xs):xs.length=j:=by
 have:=congrArg List.length e
 rwa [AaP,LM]at this
theorem MK.snoc{d:Dc}{xs:List {a:Nat//a<d.x}}(e:MK d h j xs)(hx:(h%d.x+j)%d.x<d.x):MK d h (j+1) (xs++[⟨(h%d.x+j)%d.x,hx⟩]):=by
 unfold MK at*;rw[Aaq,e,PT];rfl
theorem MK.pre{d:Dc}{xs:List {a:Nat//a<d.x}}(e:MK d h j xs)(hj:j<=d.x):XX d h xs:=by
 unfold MK at e;unfold XX;rw[e];exact SU hj
theorem M9(n:Nat)(hn:1<=n)(T:World->Prop)(o:EM T)(bk R2 L c:Nat)(d:Dc)(v:Vl)(h n0:Nat)(X:O7 T v h)(w:Y)(hT:T w)(hx:d.x<=4194304)
  (m0:w.cell? (G L 0)=some (.pointer (some (G bk 2)))) (c2:w.cell? (G bk 2)=some LA) (c3:w.cell? (G bk 3)=some (S9 R2 d.x d.x))
  (k0:w.cell? (G c 0)=some (J v.kind)) (k1:w.cell? (G c 1)=some (J v.num)) (k2:w.cell? (G c 2)=some (F9 v.Ag)) (k3:w.cell? (G c 3)=some (.string v.str)) (k4:w.cell? (G c 4)=some (J v.ref)):
  SeqStopsK Fence.wide n prog 308 #[Q9 L,Q9 c] (fun a:{a:Nat//a<d.x}=>#[J (a.1:Int)]) (Below n0)
   (dX d h) (XX d h) d.x w:=fun l Z Jx W b hJ M hY h0=>by
 have lm:=ID _ _ m0;have lb:=ID _ _ c2;have s:=ID _ _ k0;have m0:=ol b lm m0;have c2:=ol b lb c2;have c3:=ol b lb c3;have k0:=ol b s k0;have k1:=ol b s k1;have k2:=ol b s k2;have k3:=ol b s k3;have k4:=ol b s k4;have ad:L<W.heap.size:=At lm b.size;have ae:bk<W.heap.size:=At lb b.size;have af:c<W.heap.size:=At s b.size;have HT:=O (o _ _ hT b);have P:=O o;have HH:=O X;have HJ:=O hJ;have HY:=O hY;have H0:=O h0;clear M hJ hY hT b o X h0;refine callsIn_of_wp func308 rfl trivial ?_ rfl;simp only[ntmps308,Aau,Aae,XN,Nat.reduceAdd,Nat.reduceSub,Aam,Aal,Aav,Aas,W9,Aar];by_cases k:d.x=0
 ·have t:((d.x:Int)==0)=true:=by simp[k]
  have Q:=O k;clear k
  gi_wp2
  refine E1 (Aay rfl _ _ _) rfl ?_;exact⟨⟨_,rfl⟩,.inl ⟨[],by unfold dX;rw[z Q];rfl,H0⟩⟩
 have t:((d.x:Int)==0)=false:=by simp[k]
 have u:0<d.x:=oa
 gi_wp2
 refine wpIn_wide.2 ?_;refine qr W ?_;refine N (h:=N (h:=N (h:=N (h:=N (h:=?_)))));refine GS (fun K hK=>?_);go_simp;refine⟨_,fun w' A=>qk A ((HH.call _ (P _ _ HT A))),hK _ ?_⟩;clear hK K;obtain⟨a0,m⟩:∃a0,a0=h%d.x:=⟨_,rfl⟩;have R:(h:Int).tmod (d.x:Int)=(a0:Int):=by rw[m,Int.tmod_eq_emod_of_nonneg oa];exact(Int.natCast_emod _ _).symm
 have ag:a0<d.x:=by rw[m];exact TO _ u
 have ah:=HH.lt;have B:=O m;clear m;refine N (h:=N (h:=N (h:=?_)));refine H7 ?_;intro w2 C;have D:=O (HJ [] W w2 none H0 (Hv C) (fun r e=>by cases e));clear C R m0 c2 c3 k0 k1 k2 k3 k4
 gi_wp2
 gi_loopw [24] (fun i wr=>∃(j:Nat) (pre:List {a:Nat//a<d.x}),j<=d.x/\i=.int .u64 (j:Int)/\MK d h j pre/\Z pre wr) (fun i _=>d.x-(intOf i).toNat)
 case atStart=>exact⟨0,[],oa,rfl,rfl,D⟩
 case round=>
  clear D;obtain⟨j,pre,hj,rfl,f,q⟩:=hrel;by_cases S:j<d.x
  ·obtain⟨a1,E⟩:∃a1,a1=(a0+j)%d.x:=⟨_,rfl⟩;have g:a1<d.x:=by rw[E];exact TO _ u
   have ai:((a0:Int)+(j:Int)).tmod (d.x:Int)=(a1:Int):=by rw[E,Int.tmod_eq_emod_of_nonneg oa,Int.natCast_emod,Int.natCast_add]
   obtain⟨fn,tmps,assign,body,hy,hR⟩:=z HY pre ⟨a1,g⟩ wr q (by rw[f.len];exact S);have F:Hid (MK d h (j+1) (pre++[⟨a1,g⟩])):=O (by
    have:=f.snoc (by rw[<-z B,<-E];exact g);simp only[<-z B,<-E]at this;exact this)
   have U:=O hR;clear hR f q E;dsimp only at hy
   gi_wp2
   refine U.mono ?_;rintro e W3 (⟨rfl,V,aj⟩|⟨rfl,H⟩)
   ·clear U hy
    gi_wp2
    go_roundw
    case rel=>exact⟨j+1,_,oa,oh,F,V⟩
    case measure=>simp[intOf];omega
   ·clear U hy
    gi_wp2
    refine E1 (Aay rfl _ _ _) rfl ?_;exact⟨⟨_,rfl⟩,.inr ⟨_,F.pre oa,H⟩⟩
  ·have I:j=d.x:=oa;subst I;have HS:=O f;clear f
   gi_wp2
   go_end0;exact⟨⟨_,rfl⟩,.inl ⟨pre,HS,q⟩⟩
end
end Go.Proofs.YtgmlkfgfjjggnaaGreatDoor
