import Derived.RangeFuncNested
import Derived.RangeFuncBound
import Derived.Shelf.RegionOpen
import Derived.OwnWalkIn
import Derived.LoopNIn
import Derived.LoopIn
import Derived.Shelf.Spec.TrailingZeros
import Derived.Shelf.Strconv.Itoa4
import Derived.Lib.AppendIntMem
import Derived.Lib.ItoaLen
import Derived.Deep.DeepHandedRow
import Derived.LaidSub
import Derived.Deep.Slices
import Derived.Deep.DeepCutAuto
import Derived.Deep.RegionHeld3
import Derived.Deep.AppendLies
import Derived.Deep.OwnRows
import Derived.Test.YtoobllcjfinmoaaGreatDoorChecked
import Derived.WalkSpells
import Derived.WalkLawsBesides
import Derived.ProofKit
import Derived.OpenShut
import Derived.ShutString
set_option linter.all false
set_option maxHeartbeats 40000000
set_option maxRecDepth 100000
namespace Go.Proofs.YtoobllcjfinmoaaGreatDoor
variable {p q:Prop}{n B b o x f a c m Af lc ic xc k o' e h:Nat}{α:Type _}{P:Program}{a5 a6 a7:Value}{g H:Nat->Nat}{Q:Exit->Act->World->Prop}{ops:Array Oper}{rest:List Oper}{ty t:TypeId}{s:ByteArray}{i num ref kind live last:Int}{la ia xa:Option Addr}{xs:List Value}
def od(h:p:=by unfold maxLen;omega):p:=h
def oe(h:p:=by simp[go_sem]):p:=h
def og(h:p:=by simp[Act.eval]):p:=h
def oh(h:p:=by simp[Value.oneCell']):p:=h
def oj(h:p:=by rw[IntKind.wrap_i64];omega):p:=h
def ol(h:p:=by assumption):p:=h
def om(h:p:=by omega):p:=h
def oo(h:p:=by decide):p:=h
def oq(h:p:=by simp):p:=h
def ot(h:p:=by simp;omega):p:=h
def ou(h:p:=by kernel_rfl):p:=h
def ov(h:p:=by go_num):p:=h
def ow(h:p:=by simp[intOf];omega):p:=h
def ox:n<=n+1:=Nat.le_succ n
def oy:n<=n+1+1:=Nat.le_add_right n 2
def oF(a:q)(h:q->p:=by intro h;simpa[Value.ownBlock]using h):p:=h a
def oS(a:q)(h:q->p:=by intro;omega):p:=h a
def oT{w w'}{x}(k:RowKit.Below B w w')(l:b<B)(h:w.cell? ⟨b,o,none⟩=x):w'.cell? ⟨b,o,none⟩=x:=(k.cell (p:=⟨b,o,none⟩) l).trans h
def o7{w w'}{x}(k:RowKit.Below B w w')(l:b<B)(h:w.frozen? ⟨b,o,none⟩=x):w'.frozen? ⟨b,o,none⟩=x:=(k.frozen (p:=⟨b,o,none⟩) l).trans h
def o8{u v w}(h:RowKit.Below u.heap.size u v)(k:RowKit.Below v.heap.size v w):RowKit.Below u.heap.size u w:=h.trans<|k.mono h.size
def o9{α:Type _}(a:α):∃x,x=a:=⟨_,rfl⟩
def qa{α:Type _}(a:α):∃x,a=x:=⟨_,rfl⟩
def qb{P:Nat->Value->Prop}{a0 a1 a2 a3 a4 a8 a9 a10 a11}(h:∀j u,[a0,a1,a2,a3,a4,a5,a6,a7,a8,a9,a10,a11][j]?=some u->P j u):P 0 a0/\P 1 a1/\P 2 a2/\P 3 a3/\P 4 a4/\P 5 a5/\P 6 a6/\P 7 a7/\P 8 a8/\P 9 a9/\P 10 a10/\P 11 a11:=⟨h 0 _ rfl,h 1 _ rfl,h 2 _ rfl,h 3 _ rfl,h 4 _ rfl,h 5 _ rfl,h 6 _ rfl,h 7 _ rfl,h 8 _ rfl,h 9 _ rfl,h 10 _ rfl,h 11 _ rfl⟩
def qd{P:Nat->Value->Prop}{a0 a1 a2 a3 a4}(h:∀j u,[a0,a1,a2,a3,a4,a5,a6,a7][j]?=some u->P j u):P 0 a0/\P 1 a1/\P 2 a2/\P 3 a3/\P 4 a4/\P 5 a5/\P 6 a6/\P 7 a7:=⟨h 0 _ rfl,h 1 _ rfl,h 2 _ rfl,h 3 _ rfl,h 4 _ rfl,h 5 _ rfl,h 6 _ rfl,h 7 _ rfl⟩
def As:type_of%@World.cell?_of_block:=@World.cell?_of_block
def At:type_of%@Deep.blk_setCell_other:=@Deep.blk_setCell_other
def A0:type_of%@Nat.lt_of_lt_of_le:=@Nat.lt_of_lt_of_le
def Be:type_of%@Nat.le_refl:=@Nat.le_refl
def BE:type_of%@RowKit.Below.refl:=@RowKit.Below.refl
def Cs:type_of%@if_neg:=@if_neg
def C3:type_of%@if_pos:=@if_pos
def DD:type_of%@Deep.blk_alloc_new:=@Deep.blk_alloc_new
def DO:type_of%@Deep.blk_alloc_lt:=@Deep.blk_alloc_lt
def E1:type_of%@Array.getElem?_eq_some_iff:=@Array.getElem?_eq_some_iff
def GC:type_of%@wpQuiet_step:=@wpQuiet_step
def GO:type_of%@bodyPost_ret:=@bodyPost_ret
def GP:type_of%@Nat.le_trans:=@Nat.le_trans
def GS:type_of%@wpQuiet_nil:=@wpQuiet_nil
def GW:type_of%@World.rowIs.of_block:=@World.rowIs.of_block
def Hi:type_of%@World.cell?_alloc_lt:=@World.cell?_alloc_lt
def H8:type_of%@World.rowIs.lt:=@World.rowIs.lt
def Is:type_of%@World.news_of_block:=@World.news_of_block
def It:type_of%@IntKind.wrap_i64:=@IntKind.wrap_i64
def ID:type_of%@World.frozen?_of_block:=@World.frozen?_of_block
def IF:type_of%@World.block_lt_of_cell?:=@World.block_lt_of_cell?
def IH:type_of%@AllReadyH.cons:=@AllReadyH.cons
def I9:type_of%@World.cell?_setCell_same':=@World.cell?_setCell_same'
def Lo:type_of%@heap_setCell_same:=@heap_setCell_same
def MM:type_of%@cell_of_row:=@cell_of_row
def NB:type_of%@World.ownsRow_nil:=@World.ownsRow_nil
def NO:type_of%@RowKit.Below.setCell:=@RowKit.Below.setCell
def NX:type_of%@grownBy_putObj':=@grownBy_putObj'
def Of:type_of%@cell_kept:=@cell_kept
def Ok:type_of%@World.ownsRow.cellAt:=@World.ownsRow.cellAt
def On:type_of%@Int.toNat_natCast:=@Int.toNat_natCast
def OK:type_of%@Nat.two_pow_pos:=@Nat.two_pow_pos
def ON:type_of%@info_parts:=@info_parts
def OR:type_of%@World.ownsRow.alloc:=@World.ownsRow.alloc
def PC:type_of%@World.frozen?_setCell:=@World.frozen?_setCell
def P9:type_of%@List.length_append:=@List.length_append
def Q2:type_of%@KeepsOthers.setCell:=@KeepsOthers.setCell
def Re:type_of%@Nat.mul_assoc:=@Nat.mul_assoc
def RC:type_of%@wpList_append_lies:=@wpList_append_lies
def So:type_of%@List.getElem?_eq_some_iff:=@List.getElem?_eq_some_iff
def SO:type_of%@AllReadyH.nil:=@AllReadyH.nil
def Tn:type_of%@Nat.not_lt_zero:=@Nat.not_lt_zero
def To:type_of%@step_append_lies:=@step_append_lies
def TC:type_of%@Nat.mod_eq_of_lt:=@Nat.mod_eq_of_lt
def TO:type_of%@wpAnyH_ready:=@wpAnyH_ready
def UP:type_of%@Array.getElem?_eq_getElem:=@Array.getElem?_eq_getElem
def VC:type_of%@Nat.mod_lt:=@Nat.mod_lt
def We:type_of%@Nat.zero_add:=@Nat.zero_add
def Wx:type_of%@DataW.trod_int:=@DataW.trod_int
def W9:type_of%@Nat.zero_le:=@Nat.zero_le
def XN:type_of%@if_false:=@if_false
def X0:type_of%@World.ownsRow.stored:=@World.ownsRow.stored
def X9:type_of%@List.length_nil:=@List.length_nil
def Aaa:type_of%@callsIn_wide:=@callsIn_wide
def Aab:type_of%@Nat.eq_of_mul_eq_mul_right:=@Nat.eq_of_mul_eq_mul_right
def Aac:type_of%@List.setIfInBounds_toArray:=@List.setIfInBounds_toArray
def Aad:type_of%@List.nil_append:=@List.nil_append
def Aae:type_of%@List.length_cons:=@List.length_cons
def Aaf:type_of%@Array.replicate_zero:=@Array.replicate_zero
def Aag:type_of%@Array.replicate_succ:=@Array.replicate_succ
def Aah:type_of%@Option.some.inj:=@Option.some.inj
def Aai:type_of%@List.append_toArray:=@List.append_toArray
def Aaj:type_of%@World.rowIs_alloc:=@World.rowIs_alloc
def Aak:type_of%@List.length_singleton:=@List.length_singleton
def Aal:type_of%@wpList_load_row:=@wpList_load_row
def Aam:type_of%@Nat.pow_add:=@Nat.pow_add
def Aan:type_of%@Nat.lt_of_le_of_lt:=@Nat.lt_of_le_of_lt
def Aao:type_of%@List.getElem?_cons_succ:=@List.getElem?_cons_succ
def Aap:type_of%@Nat.mul_le_mul_right:=@Nat.mul_le_mul_right
def Aaq:type_of%@List.cons_append:=@List.cons_append
def Aar:type_of%@List.size_toArray:=@List.size_toArray
def Aas:type_of%@List.push_toArray:=@List.push_toArray
def Aat:type_of%@List.getElem?_append_left:=@List.getElem?_append_left
def Aau:type_of%@Nat.add_zero:=@Nat.add_zero
def Aav:type_of%@Nat.eq_zero_or_pos:=@Nat.eq_zero_or_pos
def Aaw:type_of%@results_none:=@results_none
def Aax:type_of%@Nat.pow_succ:=@Nat.pow_succ
def Aay:type_of%@DataW.trod_struct:=@DataW.trod_struct
def Aaz:type_of%@List.take_succ_cons:=@List.take_succ_cons
def AaA:type_of%@List.map_append:=@List.map_append
def AaB:type_of%@List.drop_succ_cons:=@List.drop_succ_cons
def AaC:type_of%@Int.le_refl:=@Int.le_refl
def AaD:type_of%@RowKit.Below.trans:=@RowKit.Below.trans
def AaE:type_of%@List.getElem_cons_zero:=@List.getElem_cons_zero
def AaF:type_of%@List.getElem_cons_succ:=@List.getElem_cons_succ
def AaG:type_of%@List.getElem?_append_right:=@List.getElem?_append_right
def AaH:type_of%@run_takeDeferred:=@run_takeDeferred
def AaI:type_of%@List.not_mem_nil:=@List.not_mem_nil
def AaJ:type_of%@Bool.and_eq_true:=@Bool.and_eq_true
def AaK:type_of%@World.ownsRow.kept:=@World.ownsRow.kept
def AaL:type_of%@Nat.mul_comm:=@Nat.mul_comm
def AaM:type_of%@Nat.le_of_lt:=@Nat.le_of_lt
def AaN:type_of%@size_madeCells:=@size_madeCells
def AaO:type_of%@Classical.byContradiction:=@Classical.byContradiction
def AaP:type_of%@Nat.pow_le_pow_right:=@Nat.pow_le_pow_right
def AaQ:type_of%@List.getElem_toArray:=@List.getElem_toArray
def AaR:type_of%@run_float_arith:=@run_float_arith
def AaS:type_of%@List.ext_getElem?:=@List.ext_getElem?
def AaT:type_of%@List.cons.injEq:=@List.cons.injEq
def AaU:type_of%@Sem.run_bind:=@Sem.run_bind
def AaV:type_of%@World.grownBy_alloc:=@World.grownBy_alloc
def AaW:type_of%@ByteArray.toList_eq:=@ByteArray.toList_eq
def AaX:type_of%@List.set_cons_zero:=@List.set_cons_zero
def AaY:type_of%@List.set_cons_succ:=@List.set_cons_succ
def AaZ:type_of%@Lib.itoa_length_le:=@Lib.itoa_length_le
open Go.Proofs.Tryz
section
open Go.RowKit
abbrev G(b o:Nat):Addr:=⟨b,o,none⟩
abbrev J(x:Int):Value:=.int .i64 x
abbrev Q9(b:Nat):Value:=.pointer<|some ⟨b,0,none⟩
abbrev S9(b n c:Nat):Value:=.slice (some ⟨b,0,none⟩) n c
abbrev B9(w w':World):Prop:=Below w.heap.size w w'
abbrev R9(v:Value)(w:World)(e:Ending)(w':World):Prop:=e=.returned v/\Below w.heap.size w w'
abbrev F9(x:Nat):Value:=.float .f64 x
abbrev E9:Value:=.string ⟨#[]⟩
abbrev O9(a b:Nat):Option Ordering:=FloatKind.f64.format.order a b
abbrev T9:Type:=Option Addr
abbrev N9:Value:=.slice none 0 0
abbrev y(w:World)(o:Nat):Addr:=⟨w.heap.size,o,none⟩
abbrev Y9(w:World)(o:Nat):Addr:=⟨w.heap.size+1,o,none⟩
abbrev Z9(w:World)(o:Nat):Addr:=⟨w.heap.size+1+1,o,none⟩
def n9{w}{o}:Below w.heap.size w<|w.alloc o:=(BE _ _).alloc (Be _) _
abbrev Y:Type:=World
abbrev V9:Type:=Value
abbrev C9(f:FuncId)(a:Array Value)(w:World)(Q:Ending->World->Prop):Prop:=Calls prog f a w Q
def m9{f}{g}{w}{v}{Q}(h:Calls P f g w<|R9 v w)(k:∀w',Below w.heap.size w w'->Q (.returned v) w'):Calls P f g w Q:=h.mono λe w' ⟨a,b⟩=>a▸k w' b
end
open Go.RowKit
def Nb w t ty e i(b:P.underlying t=some (.slice e))(hi:P.info? e=some i)a c:
  (Builtin.append_ #[t,t] ty #[N9,.slice a 0 c]).run P w=.ok N9 w:=by
 cases a<;>simp[Builtin.append_,run_underlying b,sizeOf,typeInfo,hi,Builtin.lenOf,Builtin.firstCells,loadCells,loadCellsFrom]
def VL(w:Y):w.grownBy w none:=⟨rfl,rfl,rfl,Be _,λ_ _ _=>rfl⟩
def Na(w)(t ty)(base)(e)(i)(Z)(size bytes)(p:P.underlying t=some (.slice e))(hi:P.info? e=some i)(hz:i.zero=some Z)
  (b:i.size=size) (k:i.bytes=bytes) (l:Z.cells.size=size) (n:0<size)
  (o) (m c) news (hl:news.length=m*size) (d:m=0\/∃h,o=some h/\∀j u,news[j]?=some u->w.cell? (h.add j)=some u) (h1:∀u∈news,u.oneCell'=true)
  (s:m<=maxLen) (a:m*bytes<=140737488355328) (f:base<=w.heap.size) H (v:w.heap.size=H):
  ∃a' cap w',(Builtin.append_ #[t,t] ty #[N9,.slice o m c]).run P w=.ok (.slice a' m cap) w'/\
   w'.ownsRow base e size (.slice a' m cap) m news/\w.grownBy w' none/\(∀q,(Value.slice a' m cap).ownBlock=some q->q=H):=by
 rcases Aav m with h0|h0
 .subst h0;have hn:=List.eq_nil_of_length_eq_zero (by rw[hl];simp);subst hn;exact⟨none,0,w,Nb w t ty e i p hi o c,NB _ _ _ _,VL w,λq e=>by cases e⟩
 obtain⟨h,rfl,hn⟩:=d.resolve_left om;obtain⟨g,cap,w',r,h2,h3,h4,h5⟩:=run_append_lies w t ty base e i Z size bytes p hi hz b k l n N9 0 [] (NB _ _ _ _) h m c news hl hn h1 h0 om (by simpa using a) f H v;simp only[We]at r h2;exact⟨some<|G g 0,cap,w',r,h2,h3,λq e=>by cases e;exact h4.resolve_left<|by simp[Value.ownBlock]⟩
def Jn(w){o:Oper}{a}{K}{Q}(s x)(t)
  (A:o.op=.call {callee:=.builtin .append,args:=#[s,x],argTypes:=#[t,t]})
  (base) e i Z (size bytes) (B:P.underlying t=some (.slice e)) (hi:P.info? e=some i) (hz:i.zero=some Z)
  (d:i.size=size) (k:i.bytes=bytes) (l:Z.cells.size=size) (n:0<size) (hs:a.eval s=N9)
  (p) (m c) news (C:a.eval x=.slice p m c) (hl:news.length=m*size) (f:m=0\/∃v,p=some v/\∀j u,news[j]?=some u->w.cell? (v.add j)=some u) (h1:∀u∈news,u.oneCell'=true)
  (r:m<=maxLen) (b:m*bytes<=140737488355328) (g:base<=w.heap.size) H (D:w.heap.size=H)
  (h:∀a' cap w',w'.ownsRow base e size (.slice a' m cap) m news->w.grownBy w' none->(∀q,(Value.slice a' m cap).ownBlock=some q->q=H)->K (a.put o.dst<|.slice a' m cap) w'):o.wp P a w K Q:=by
 obtain⟨a',cap,w',E,h2,h3,h4⟩:=Na w t o.type base e i Z size bytes B hi hz d k l n p m c news hl f h1 r b g H D;simp only[Oper.wp,execOp,A,resolve,invoke,builtin,AaU,Sem.run_pure,Result.andThen_ok,List.map_toArray,List.map_cons,List.map_nil,hs,C,E];exact h a' cap w' h2 h3 h4
def CF{w:Y}{o}{a}(k:o.guard=none)(s x)(t)
  (B:o.op=.call {callee:=.builtin .append,args:=#[s,x],argTypes:=#[t,t]})
  (base) e i Z (size bytes) (C:P.underlying t=some (.slice e)) (hi:P.info? e=some i) (hz:i.zero=some Z)
  (d:i.size=size) (l:i.bytes=bytes) (n:Z.cells.size=size) (p:0<size) (hs:a.eval s=N9)
  (r) (m c) news (D:a.eval x=.slice r m c) (hl:news.length=m*size) (f:m=0\/∃A,r=some A/\∀j u,news[j]?=some u->w.cell? (A.add j)=some u) (h1:∀u∈news,u.oneCell'=true)
  (v:m<=maxLen) (b:m*bytes<=140737488355328) (g:base<=w.heap.size) H (E:w.heap.size=H)
  (h:∀a' cap w',w'.ownsRow base e size (.slice a' m cap) m news->w.grownBy w' none->(∀q,(Value.slice a' m cap).ownBlock=some q->q=H)->wpList P ops Q rest (a.put o.dst<|.slice a' m cap) w'):wpList P ops Q (o::rest) a w:=
 wpList_plain k λ_ hK=>Jn w s x t B base e i Z size bytes C hi hz d l n p hs r m c news D hl f h1 v b g H E λa' cap w' h2 h3 h4=>hK _ _<|h a' cap w' h2 h3 h4
def Hg(w){ops}{o}{a}{K}{Q}{E}(k:o.guard=none)(s x)(t)
  (B:o.op=.call {callee:=.builtin .append,args:=#[s,x],argTypes:=#[t,t]})
  (base) e i Z (size bytes) (C:P.underlying t=some (.slice e)) (hi:P.info? e=some i) (hz:i.zero=some Z)
  (d:i.size=size) (l:i.bytes=bytes) (n:Z.cells.size=size) (p:0<size) (hs:a.eval s=N9)
  (r) (m c) news (D:a.eval x=.slice r m c) (hl:news.length=m*size) (f:m=0\/∃A,r=some A/\∀j u,news[j]?=some u->w.cell? (A.add j)=some u) (h1:∀u∈news,u.oneCell'=true)
  (v:m<=maxLen) (b:m*bytes<=140737488355328) (g:base<=w.heap.size) H (F:w.heap.size=H)
  (h:∀a' cap w',w'.ownsRow base e size (.slice a' m cap) m news->w.grownBy w' none->(∀q,(Value.slice a' m cap).ownBlock=some q->q=H)->K (a.put o.dst<|.slice a' m cap) w'):
  if Region.wanted o (yielded ops a.tmps)=true then Oper.wp P o a w K Q else E:=by
 have I:Region.wanted o (yielded ops a.tmps)=true:=by simp[Region.wanted,k]
 rw[C3 I];exact Jn w s x t B base e i Z size bytes C hi hz d l n p hs r m c news D hl f h1 v b g H F h
def hide(h:p):Hid p:=h
def pY(h:Hid p):p:=h
def AM{W w1:Y}(hb:B9 W w1):(∀b o,b<W.heap.size->w1.cell? (G b o)=W.cell? (G b o))/\(∀b o,b<W.heap.size->w1.frozen? (G b o)=W.frozen? (G b o)):=
 ⟨λb o h=>hb.cell h,λb o h=>hb.frozen h⟩
def JQ w o:∃W,W=w.alloc o/\B9 w W/\W.heap.size=w.heap.size+1/\W.heap[w.heap.size]?=some o:=
 ⟨_,rfl,n9,oq,by show(w.heap.push o)[w.heap.size]?=some o;simp⟩
def S7 w o p:∃W,W=(w.alloc o).alloc p/\B9 w W/\W.heap.size=w.heap.size+1+1/\W.heap[w.heap.size]?=some o/\W.heap[w.heap.size+1]?=some p:=by
 obtain⟨V,c,hb,hz,b0⟩:=JQ w o;obtain⟨W,d,a,b,c0⟩:=JQ V p;rw[hz]at c0 b;exact⟨W,by rw[d,c],o8 hb a,b,(a.block _ om).trans b0,c0⟩
def gW w o p q:∃W,W=((w.alloc o).alloc p).alloc q/\B9 w W/\W.heap.size=w.heap.size+1+1+1/\W.heap[w.heap.size]?=some o/\W.heap[w.heap.size+1]?=some p/\W.heap[w.heap.size+1+1]?=some q:=by
 obtain⟨V,c,hb,hz,b0,b1⟩:=S7 w o p;obtain⟨W,d,a,b,c0⟩:=JQ V q;rw[hz]at c0 b;exact⟨W,by rw[d,c],o8 hb a,b,(a.block _ om).trans b0,(a.block _ om).trans b1,c0⟩
def sX w o p q r:∃W,W=(((w.alloc o).alloc p).alloc q).alloc r/\B9 w W/\W.heap.size=w.heap.size+1+1+1+1/\W.heap[w.heap.size]?=some o/\W.heap[w.heap.size+1]?=some p/\W.heap[w.heap.size+1+1]?=some q/\W.heap[w.heap.size+1+1+1]?=some r:=by
 obtain⟨V,c,hb,hz,b0,b1,b2⟩:=gW w o p q;obtain⟨W,d,a,b,c0⟩:=JQ V r;rw[hz]at c0 b;exact⟨W,by rw[d,c],o8 hb a,b,(a.block _ om).trans b0,(a.block _ om).trans b1,(a.block _ om).trans b2,c0⟩
def v3{w:Y}{a0 a1 a2:V9}{fr:Nat×Nat}(h:w.heap[b]?=some (.cells #[a0,a1,a2] ty fr)):w.cell? (G b 0)=some a0/\w.cell? (G b 1)=some a1/\w.cell? (G b 2)=some a2:=by
 refine⟨?_,?_,?_⟩<;>simp[World.cell?,h]
def v5{w:Y}{a0 a1 a2 a3 a4:V9}{fr}(h:w.heap[b]?=some (.cells #[a0,a1,a2,a3,a4] ty fr)):w.cell? (G b 0)=some a0/\w.cell? (G b 1)=some a1/\w.cell? (G b 2)=some a2/\w.cell? (G b 3)=some a3/\w.cell? (G b 4)=some a4:=by
 refine⟨?_,?_,?_,?_,?_⟩<;>simp[World.cell?,h]
def v6{w:Y}{a0 a1 a2 a3 a4 a5:V9}{fr}(h:w.heap[b]?=some (.cells #[a0,a1,a2,a3,a4,a5] ty fr)):w.cell? (G b 0)=some a0/\w.cell? (G b 1)=some a1/\w.cell? (G b 2)=some a2/\w.cell? (G b 3)=some a3/\w.cell? (G b 4)=some a4/\w.cell? (G b 5)=some a5:=by
 refine⟨?_,?_,?_,?_,?_,?_⟩<;>simp[World.cell?,h]
def v8{w:Y}{a0 a1 a2 a3 a4 a5 a c:V9}{fr}(h:w.heap[b]?=some (.cells #[a0,a1,a2,a3,a4,a5,a,c] ty fr)):w.cell? (G b 0)=some a0/\w.cell? (G b 1)=some a1/\w.cell? (G b 2)=some a2/\w.cell? (G b 3)=some a3/\w.cell? (G b 4)=some a4/\w.cell? (G b 5)=some a5/\w.cell? (G b 6)=some a/\w.cell? (G b 7)=some c:=by
 refine⟨?_,?_,?_,?_,?_,?_,?_,?_⟩<;>simp[World.cell?,h]
def O(h:p):Hid p:=hide h
def z(h:Hid p):p:=pY h
def qj(a:p)(b:q):p/\q:=⟨a,b⟩
def qg(a:Hid q)(h:Hid q->p:=by intro h;rw[z h];try rfl):p:=h a
def qh{α:Sort _}{a b:α}(e:a=b)(h:a=b->p:=by intro h;rw[h];try rfl):p:=h e
def sA{α}(l:List α)i a:l.toArray.setIfInBounds i a=(l.set i a).toArray:=Aac ..
def sB{α}x l n(v:α):(x::l).set (n+1) v=x::l.set n v:=rfl
def sC{α}x l(v:α):(x::l).set 0 v=v::l:=rfl
def pS:(∀(a) (d) (v:V9),Act.put a (some d) v=⟨a.tmps.setIfInBounds d v,a.defers⟩)/\(∀(a) (v:V9),Act.put a none v=a)/\(∀(l:List Value) (i) (a:V9),l.toArray.setIfInBounds i a=(l.set i a).toArray)/\(∀(x:V9) (l:List Value) (n) (v),(x::l).set (n+1) v=x::l.set n v)/\∀(x:V9) (l:List Value) (v),(x::l).set 0 v=v::l:=⟨λ_ _ _=>rfl,λ_ _=>rfl,λ_ _ _=>Aac ..,λ_ _ _ _=>rfl,λ_ _ _=>rfl⟩
def N{C:World->Prop}{Q:Act->Prop}{a b:Act}{o:Oper}{v:V9}(f:Region.wanted o (yielded ops a.tmps)=true:=by rfl)(hy:∀w,C w->(execOp a.eval o).run P w=.ok (.value v) w:=by(intro w' c;first|(go_simp;done)|(go_simp;with_reducible rfl)|(obtain⟨d,e⟩:=AM c;go_simp;with_reducible rfl)|(obtain⟨d,e⟩:=AM c;go_simp;done)))(hb:a.put o.dst v=b:=by(simp only[pS];rfl))(h:wpQuiet P ops C Q rest b):wpQuiet P ops C Q (o::rest) a:=by
  show ite _ _ _;rw[C3 f];exact⟨v,λw g=>by unfold Oper.quietAt;rw[hy w g];exact⟨rfl,rfl⟩,hb▸h⟩
def qr{l:List Oper}{id:Nat}{a:Act}{w:Y}(W:Y)(h:wpQuiet P l.toArray (λw'=>B9 W w') (λa'=>∀w',B9 W w'->Q .normal a' w') l a)(b:P.follows .mixedOrders=true:=by kernel_rfl)(c:Region.lexB .any l.toArray=true:=by kernel_rfl)(d:B9 W {w with drawn:=w.drawn+1}:=by exact(BE _ _).drew):(Code.region id l.toArray true).wp P Q a w:=wp_region_quiet (C:=λw'=>B9 W w') b c d h
def qk{g}{W w':Y}{v:V9}(d:B9 W w')(h:Calls P f g w' λe c=>e=.returned v/\B9 w' c):Calls P f g w' λe c=>e=.returned v/\B9 W c:=h.mono λ_ _ ⟨a,b⟩=>⟨a,o8 d b⟩
namespace Fl
open Ieee
def sc(s:Bool)(m:Nat)(i:Int):Int:=signed s m (i+1074).toNat
theorem Du s m k:signed s m k=(if s then -1 else 1)*((m:Int)*(2:Int)^k):=by
 rw[signed,Nat.shiftLeft_eq];grind
def Ge k:(0:Int)<(2:Int)^k:=Int.pow_pos om
def FL s m k c:signed s m (k+c)=signed s m k*(2:Int)^c:=by
 grind [Du]
def P1 a b c:compare (a*(2:Int)^c) (b*(2:Int)^c)=compare a b:=by
 have h:=Ge c;simp only[compare,compareOfLessAndEq];have h1:a*(2:Int)^c<b*(2:Int)^c↔a<b:=Int.mul_lt_mul_right h;have h2:a*(2:Int)^c=b*(2:Int)^c↔a=b:=Int.mul_eq_mul_right_iff om;simp only[h1,h2]
theorem Sy s t m n i j(hi:-1074<=i)(hj:-1074<=j):
  Datum.order (.number s m i) (.number t n j)=some (compare (sc s m i)<|sc t n j):=by
 show some (compare (signed s m (i-min i j).toNat)<|signed t n (j-min i j).toNat)=_;unfold sc;obtain⟨c,hc⟩:∃c:Nat,c=(min i j+1074).toNat:=⟨_,rfl⟩;have e1:(i+1074).toNat=(i-min i j).toNat+c:=om;have e2:(j+1074).toNat=(j-min i j).toNat+c:=om;rw[e1,e2,FL,FL,P1]
theorem Hw(a b:Int):(some (compare a b)==some Ordering.eq)=decide (a=b):=by
 grind
def IW(a b:Int):(some (compare a b)==some Ordering.lt)=decide (a<b):=by
 simp only[compare,compareOfLessAndEq];grind
def Kd(a b:Int):(some (compare a b)==some Ordering.gt)=decide (b<a):=by
 simp only[compare,compareOfLessAndEq];grind
def Cl x:(∃s m i,double.read x=.number s m i/\-1074<=i/\i<=971/\m<2^53/\(i=-1074\/2^52<=m))\/(∃s,double.read x=.infinity s)\/(∃s t,double.read x=.nan s t):=by
 unfold Format.read;have hb:double.binade=4503599627370496:=oo;have a:double.infRung=9218868437227405312:=oo;have hl:double.leastPlace=-1074:=oo;rw[hb,a,hl];generalize x%double.signWeight=r;generalize (x/double.signWeight%2==1)=s;by_cases h1:r<4503599627370496
 .left;exact⟨s,r,-1074,by rw[C3 h1],om,om,om,.inl rfl⟩
 by_cases h2:r<9218868437227405312
 .left;refine⟨s,_,_,by rw[Cs h1,C3 h2],om,om,om,.inr om⟩
 by_cases h3:r=9218868437227405312
 .right;left;exact⟨s,by rw[Cs h1,Cs h2,C3 h3]⟩
 right;right;exact⟨s,_,by rw[Cs h1,Cs h2,Cs h3]⟩
def Dl m k(h:m≠0):(m*2^k).log2=m.log2+k:=by
 induction k with
 |zero=>simp
 |succ k ih=>
  rw[Aax,<-Re,AaL _ 2,Nat.log2_two_mul (Nat.mul_ne_zero h (oS (OK k)))];omega
def GJ(way:Toward)neg n:way.cut neg n 0=n:=by
 unfold Toward.cut;cases way<;>simp[Nat.mod_one]
def L8 neg kept last(h1:-1074<=last)(h2:last<=971)(h3:kept<2^53)(h4:last=-1074\/2^52<=kept):
  double.read (double.word neg<|min ((last-double.leastPlace).toNat*double.binade+kept) double.infRung)=.number neg kept last:=by
 have hb:double.binade=4503599627370496:=oo;have c:double.infRung=9218868437227405312:=oo;have hl:double.leastPlace=-1074:=oo;have hs:double.signWeight=9223372036854775808:=oo;rw[hl,hb,c];obtain⟨p,hp⟩:∃p:Nat,p=(last- -1074).toNat:=⟨_,rfl⟩;rw[<-hp];have a:last=(p:Int)-1074:=om;have b:min (p*4503599627370496+kept) 9218868437227405312=p*4503599627370496+kept:=by apply Nat.min_eq_left;omega
 rw[b];unfold Format.read Format.word;rw[hb,hl,hs];have d:∀r:Nat,r<9223372036854775808->(if neg=true then 9223372036854775808+r else r)%9223372036854775808=r:=by grind
 have hn:∀r:Nat,r<9223372036854775808->((if neg=true then 9223372036854775808+r else r)/9223372036854775808%2==1)=neg:=by
  intro r h;cases neg
  .have:r/9223372036854775808%2=0:=om;simp[this]
  have:(9223372036854775808+r)/9223372036854775808%2=1:=om;rw[C3 rfl,this];rfl
 rw[d _ om,hn _ om];by_cases hz:p*4503599627370496+kept<4503599627370496
 .rw[C3 hz];have:p=0:=om;subst this;simp[a]
 rw[Cs hz,C3 om];congr 1
 .omega
 omega
def GL(neg)(a)(place)(m)(p)(n:a≠0)(v:-1074<=place)(w:m<2^53)(x:-1074<=p)(A:p<=971)
  (g:a*2^(place+1074).toNat=m*2^(p+1074).toNat):
  ∃q l,double.read (double.nearest neg a place)=.number neg q l/\-1074<=l/\l<=971/\q*2^(l+1074).toNat=a*2^(place+1074).toNat:=by
 have hl:double.leastPlace=-1074:=oo;have hf:double.fractionBits=52:=rfl;have i:m≠0:=by
  intro e;subst e;have:=OK (place+1074).toNat;rw[Nat.zero_mul]at g;rcases Nat.mul_eq_zero.1 g with h|h<;>omega
 have t:a.log2+(place+1074).toNat=m.log2+(p+1074).toNat:=by
  rw[<-Dl a _ n,<-Dl m _ i,g]
 have u:m.log2<=52:=by
  have:=(Nat.log2_lt i).2 w;omega
 rw[Format.nearest,Cs n];dsimp only;rw[hf];obtain⟨last,b⟩:∃last:Int,last=max (place+↑a.log2-((52:Nat):Int)) double.leastPlace:=⟨_,rfl⟩;rw[<-b];have l1:-1074<=last:=om;have l2:last<=971:=om;obtain⟨kept,hk,k⟩:∃kept,Toward.even.cut neg (a <<< (place-last).toNat) (last-place).toNat=kept/\kept*2^(last+1074).toNat=a*2^(place+1074).toNat:=by
  by_cases hc:last<=place
  .refine⟨_,rfl,?_⟩;have e0:(last-place).toNat=0:=om;rw[e0,GJ,Nat.shiftLeft_eq,Re,<-Aam];congr 2;omega
  .have e0:(place-last).toNat=0:=om;rw[e0,Nat.shiftLeft_zero];obtain⟨d,B⟩:=o9<|(last-place).toNat;rw[<-B];have o:d<=a.log2+2:=om;have j:∃q,a=q*2^d:=by
    obtain⟨c,C⟩:=o9<|(p-place).toNat;have e1:(p+1074).toNat=c+(place+1074).toNat:=om;rw[e1,Aam,<-Re]at g;have e2:=Aab (OK _) g;refine⟨m*2^(c-d),?_⟩;rw[e2,Re,<-Aam];congr 2;omega
   obtain⟨q,hq⟩:=j;refine⟨q,?_,?_⟩
   .unfold Toward.cut;dsimp only;rw[Nat.min_eq_left o,Nat.one_shiftLeft];have r:=OK d;have m1:a/2^d=q:=by rw[hq];exact Nat.mul_div_cancel _ r
    have m2:a%2^d=0:=by rw[hq];exact Nat.mul_mod_left _ _
    simp[m1,m2]
   rw[hq,Re,<-Aam];congr 2;omega
 rw[hk];have f:kept≠0:=by
  intro e;subst e;have:=OK (place+1074).toNat;rw[Nat.zero_mul]at k;rcases Nat.mul_eq_zero.1 k.symm with h|h<;>omega
 have s:kept.log2+(last+1074).toNat=a.log2+(place+1074).toNat:=by
  rw[<-Dl a _ n,<-Dl kept _ f,k]
 have k1:kept<2^53:=by
  apply(Nat.log2_lt f).1;omega
 have k2:last=-1074\/2^52<=kept:=by
  by_cases h:last=-1074
  .exact .inl h
  right;exact(Nat.le_log2 f).1 om
 exact⟨kept,last,L8 neg kept last l1 l2 k1 k2,l1,l2,k⟩
def KY neg place:double.read (double.nearest neg 0 place)=.number neg 0 (-1074):=by
 cases neg<;>(unfold Format.nearest;rw[C3 rfl];decide)
theorem Rh s q l a place(h:q*2^(l+1074).toNat=a*2^(place+1074).toNat):sc s q l=sc s a place:=by
 unfold sc signed;rw[Nat.shiftLeft_eq,Nat.shiftLeft_eq,h]
def Ef s i:sc s 0 i=0:=by
 unfold sc signed;omega
def U:Int:=(2:Int)^1074
def Mp:0<U:=Ge _
def sg(s:Bool)(n:Nat):Int:=if s then -(n:Int)else n
def Hc s n:sc s n 0=sg s n*U:=by
 grind [sc,sg,U,sc,sg,Du]
def Fits(n:Nat):Prop:=∃q c:Nat,n=q*2^c/\q<2^53/\c<=971
def Kj(h:n<2^53):Fits n:=⟨n,0,oq,h,om⟩
def Fc neg n(h:Fits n):∃q l,double.read (double.nearest neg n 0)=.number neg q l/\-1074<=l/\sc neg q l=sg neg n*U:=by
 by_cases a:n=0
 .subst a;exact⟨0,-1074,KY _ _,om,by rw[Ef];cases neg<;>simp[sg]⟩
 obtain⟨q,c,rfl,hq,hc⟩:=h;obtain⟨b,l,d,h1,_,e⟩:=GL neg (q*2^c) 0 q c a om hq om om (by
  rw[Re,<-Aam];congr 2)
 exact⟨b,l,d,h1,by rw[Rh neg b l _ 0 e,Hc]⟩
def whole(m:Nat)(i:Int):Nat:=if 0<=i then m*2^i.toNat else m/2^(-i).toNat
def QG s m i:Toward.zero.cut s (m <<< i.toNat) (-i).toNat=whole m i:=by
 rw[whole];by_cases h:0<=i
 .have e:(-i).toNat=0:=om;rw[C3 h,e,GJ,Nat.shiftLeft_eq]
 have e:i.toNat=0:=om;rw[Cs h,e,Nat.shiftLeft_zero];unfold Toward.cut;dsimp only;generalize (-i).toNat=d;rw[Nat.one_shiftLeft];by_cases b:d<=m.log2+2
 .rw[Nat.min_eq_left b];simp
 rw[Nat.min_eq_right om];have h1:m<2^(m.log2+2):=by
  by_cases a:m=0
  .subst a;simp
  exact(Nat.log2_lt a).1 om
 have h2:m<2^d:=A0 h1<|AaP om om;rw[Nat.div_eq_of_lt h1,Nat.div_eq_of_lt h2];simp
def SN s m i:(Datum.number s m i).toInt .zero=some (sg s<|whole m i):=by
 show some (signed s (Toward.zero.cut s (m <<< i.toNat) (-i).toNat) 0)=_;rw[QG];rw[signed,sg];cases s<;>simp
def MY s m i:(Datum.number s m i).integral .zero=.number s (whole m i) 0:=by
 show Datum.number s (Toward.zero.cut s (m <<< i.toNat) (-i).toNat) 0=_;rw[QG]
def Oe m i(a:m<2^53)(hi:i<=971):Fits<|whole m i:=by
 rw[whole];by_cases h:0<=i
 .rw[C3 h];exact⟨m,i.toNat,rfl,a,om⟩
 rw[Cs h];exact Kj<|Aan (Nat.div_le_self _ _) a
def EL m i(hi:-1074<=i):(whole m i)*U<=sc false m i/\sc false m i<((whole m i:Int)+1)*U:=by
 rw[sc,U,whole,Du];by_cases h:0<=i
 .have e:(i+1074).toNat=i.toNat+1074:=om;rw[e,Int.pow_add];grind [sc]
 rw[Cs h];obtain⟨d,c⟩:=o9<|(-i).toNat;rw[<-c];obtain⟨a,b⟩:∃a:Nat,a=1074:=⟨_,rfl⟩;rw[<-b];have e:a=(i+(a:Int)).toNat+d:=om;have e':(1074:Int)=(a:Int):=om;rw[e'];generalize (i+(a:Int)).toNat=k at e;rw[e,Int.pow_add];have h1:=Nat.div_add_mod m<|2^d;generalize m/2^d=q at h1;have hk:=Ge k;simp only[Bool.false_eq_true,XN,Int.one_mul];have e1:(q:Int)*((2:Int)^k*2^d)=((2^d*q:Nat):Int)*2^k:=by push_cast;rw[Int.mul_comm ((2:Int)^k),<-Int.mul_assoc,Int.mul_comm (q:Int)]
 have e2:((q:Int)+1)*((2:Int)^k*2^d)=((2^d*q+2^d:Nat):Int)*2^k:=by rw[Int.add_mul,e1];push_cast;rw[Int.add_mul,Int.one_mul,Int.mul_comm ((2:Int)^k)]
 rw[e1,e2];exact⟨Int.mul_le_mul_of_nonneg_right om om,Int.mul_lt_mul_of_pos_right om hk⟩
theorem Ej m i:sc true m i=-sc false m i:=by
 unfold sc signed;simp
def MP m i(c:m<2^53)(a:(whole m i)*U≠sc false m i):whole m i<2^52:=by
 by_cases h:0<=i
 .exfalso;apply a;rw[sc,U,whole,Du,C3 h];have e:(i+1074).toNat=i.toNat+1074:=om;grind [sc]
 rw[whole,Cs h];obtain⟨d,b⟩:∃d,(-i).toNat=d+1:=⟨(-i).toNat-1,om⟩;rw[b,Aax,AaL,<-Nat.div_div_eq_div_mul];refine Aan (Nat.div_le_self _ _) om
def ZF s k:(sg s k).natAbs=k:=by cases s<;>simp[sg]
def eZ n:sg (decide (n<0)) n.natAbs=n:=by
 by_cases h:n<0<;>simp[sg]<;>omega
theorem BG{Z}{s t}{j}(a:double.read x=.number s m i)(hy:double.read Z=.number t n j)(hi:-1074<=i)(hj:-1074<=j):
  double.order x Z=some (compare (sc s m i)<|sc t n j):=by
 grind [Format.order,sc,Sy]
def Ha:double.read 4890909195324358656=.number false 4503599627370496 11:=oo
def Gf:double.read 14114281232179134464=.number true 4503599627370496 11:=oo
def UA:double.read 4607182418800017408=.number false 4503599627370496 (-52):=oo
def Cq:double.read 0=.number false 0 (-1074):=oo
def Pq:sc false 4503599627370496 11=9223372036854775808*U:=by
 unfold sc U;grind [sc,Du]
def Ps:sc true 4503599627370496 11=-(9223372036854775808*U):=by rw[Ej,Pq]
def pA:sc false 4503599627370496 (-52)=U:=by
 unfold sc U;grind [sc,Du]
def Ll{s}(b:double.read x=.number s m i)(hi:-1074<=i)(h1:-(9223372036854775808*U)<=sc s m i)(h2:sc s m i<9223372036854775808*U):
  floatToIntVal .f64 x .i64=some (sg s<|whole m i):=by
 have c:(FloatKind.f64.decode x).toInt .zero=some (sg s<|whole m i):=by
  show(double.read x).toInt .zero=_;rw[b,SN]
 have hb:=EL m i hi;have hu:=Mp;have key:IntKind.i64.min<=sg s (whole m i)/\sg s (whole m i)<=IntKind.i64.max:=by
  have e1:IntKind.i64.min=-9223372036854775808:=oo;have e2:IntKind.i64.max=9223372036854775807:=oo;generalize whole m i=k at*;cases s
  .have a:(k:Int)*U<9223372036854775808*U:=om;have:=Int.lt_of_mul_lt_mul_right a om;grind [sg]
  rw[Ej]at h1;have a:(k:Int)*U<=9223372036854775808*U:=om;have:=Int.le_of_mul_le_mul_right a hu;simp only[sg,if_true];omega
 grind [floatToIntVal]
def Zl{s}(b:double.read x=.number s m i)(hi:-1074<=i)(a:i<=971)(c:m<2^53):
  (double.order x (double.nearest s (whole m i) 0)==some .eq)=decide (sc s m i=sg s (whole m i)*U):=by
 obtain⟨q,l,d,hl,e⟩:=Fc s (whole m i)<|Oe m i c a;rw[BG b d hi hl,Hw,e]
def Zk{s}(c:double.read x=.number s m i)(hi:-1074<=i)(a:i<=971)(b:m<2^53):
  double.order x (double.nearest (decide (sg s (whole m i)<0)) (sg s<|whole m i).natAbs 0)=some (compare (sc s m i)<|sg s (whole m i)*U)/\
  double.order (double.nearest (decide (sg s (whole m i)<0)) (sg s<|whole m i).natAbs 0) x=some (compare (sg s (whole m i)*U)<|sc s m i):=by
 obtain⟨q,l,d,hl,e⟩:=Fc (decide (sg s (whole m i)<0)) (sg s<|whole m i).natAbs (by rw[ZF];exact Oe m i b a);grind [sg,sc,BG]
set_option exponentiation.threshold 2000 in
def sub_one n(h:-(2^52)<n)(h2:n<2^52):∃r q l b,double.sub (double.nearest (decide (n<0)) n.natAbs 0) 4607182418800017408=some r/\double.read r=.number b q l/\-1074<=l/\sc b q l=(n-1)*U:=by
 obtain⟨q,l,m,hl,o⟩:=Fc (decide (n<0)) n.natAbs<|Kj om;rw[eZ]at o;rw[Format.sub,m,UA];simp only[Datum.opposite,Datum.sum];obtain⟨base,c⟩:∃base:Int,base=min l (-52):=⟨_,rfl⟩;rw[<-c];obtain⟨a,d⟩:∃a:Int,a=signed (decide (n<0)) q (l-base).toNat+signed (!false) 4503599627370496 (-52-base).toNat:=⟨_,rfl⟩;rw[<-d];have hs:a*(2:Int)^(base+1074).toNat=(n-1)*U:=by
  have e1:signed (decide (n<0)) q (l-base).toNat*(2:Int)^(base+1074).toNat=sc (decide (n<0)) q l:=by unfold sc;rw[<-FL];congr 1;omega
  have e2:signed (!false) 4503599627370496 (-52-base).toNat*(2:Int)^(base+1074).toNat=-U:=by rw[<-pA,<-Ej];unfold sc;rw[<-FL];congr 1;omega
  grind
 by_cases i:a=0
 .rw[i,Int.zero_mul]at hs;refine⟨_,0,-1074,if a=0 then decide (n<0)&&!false else decide (a<0),rfl,?_,om,?_⟩
  .rw[show a.natAbs=0 from by omega];exact KY _ _
  rw[Ef,hs]
 have p:n-1≠0:=by
  intro e;rw[e,Int.zero_mul]at hs;have:=Ge (base+1074).toNat;rcases Int.mul_eq_zero.1 hs with h|h<;>omega
 have TQ:a.natAbs*2^(base+1074).toNat=(n-1).natAbs*2^((0:Int)+1074).toNat:=by
  have e:(a*(2:Int)^(base+1074).toNat).natAbs=((n-1)*U).natAbs:=by rw[hs]
  rw[Int.natAbs_mul,Int.natAbs_mul]at e;have e0:((0:Int)+1074).toNat=1074:=oo;unfold U at e;have e3:(2:Int).natAbs=2:=rfl;exact e
 obtain⟨j,k,f,g,_,hv'⟩:=GL (decide (a<0)) a.natAbs base (n-1).natAbs 0 om om om om om TQ;refine⟨_,j,k,decide (a<0),rfl,?_,g,?_⟩
 .rw[Cs i];exact f
 grind [Rh _ j k _ base hv',sc,Du]
def bT{s}(c:double.read x=.number s m i)(hi:-1074<=i)(d:m<2^53)
  (a:sc s m i<sg s (whole m i)*U):
  ∃r,floatBits .sub .f64 (double.nearest (decide (sg s (whole m i)<0)) (sg s<|whole m i).natAbs 0) 4607182418800017408=some r/\(double.order x r==some .eq)=false:=by
 have hb:=EL m i hi;have hs:s=true:=by grind [sg]
 subst hs;have f:=MP m i d (by
  intro e;rw[Ej]at a;simp only[sg,if_true]at a;rw[Int.neg_mul]at a;omega)
 obtain⟨r,q,l,b,h1,h2,h3,h4⟩:=sub_one (sg true<|whole m i) (by simp only[sg];omega) (by simp only[sg];omega);refine⟨r,h1,?_⟩;simp only[BG c h2 hi h3,Hw,h4,Ej,sg,if_true];have e:(-(whole m i:Int)-1)*U=-(((whole m i:Int)+1)*U):=by rw[<-Int.neg_mul];congr 1;omega
 simp;omega
end Fl
theorem Ar{w:Y}{a}{m}k n:(store a (.float k n) m).run P w=stored P w a (.float k n) m:=run_store P w a _ m rfl
theorem Am{w:Y}d t k k' a b(h:P.underlying t=some (.float k')):(Op.equalIn (d+1) t (.float k a)<|.float k b).run P w=.ok (k.format.order a b==some .eq) w:=by
 simp[Op.equalIn,run_underlying h,Op.floatEq]
attribute [local go_sem] Ar Am
abbrev V(kind num:Int)(Af:Nat)(s:ByteArray)(ref:Int):Value:=.agg #[J kind,J num,F9 Af,.string s,J ref]
abbrev KV(code kind num:Int)(Af:Nat)(s:ByteArray)(ref:Int):Value:=.agg #[J code,J kind,J num,F9 Af,.string s,J ref]
def fz(f:Nat):Bool:=O9 f 0==some .eq
def DU(f:Nat):Bool:=O9 f f !=some .eq
def A8(kind num:Int)(Af:Nat)(s:ByteArray)(ref:Int):Bool:=
 if kind=0 then num==0&&fz Af&&s.toList.isEmpty&&ref==0
 else if kind=1 then(fz Af&&s.toList.isEmpty&&ref==0)&&(num==0||num==1)
 else if kind=2 then(fz Af&&s.toList.isEmpty&&ref==0)
 else if kind=3 then(num==0&&s.toList.isEmpty&&ref==0)
 else if kind=4 then(num==0&&fz Af&&ref==0)&&decide ((s.size:Int)<=4000)
 else if kind=5 then(num==0&&fz Af&&s.toList.isEmpty)&&decide (0<=ref)
 else if kind=6 then(num==0&&fz Af&&s.toList.isEmpty)&&decide (0<=ref)
 else if kind=7 then(num==0&&fz Af&&s.toList.isEmpty)&&decide (0<=ref)
 else if kind=8 then(fz Af&&s.toList.isEmpty&&ref==0)&&decide (0<=num)&&decide (num<15)
 else false
structure Vl where
 kind:Int
 num:Int
 Af:Nat
 str:ByteArray
 ref:Int
abbrev qe(v:Vl):Array Value:=#[J v.kind,J v.num,F9 v.Af,.string v.str,J v.ref]
instance:Inhabited Vl:=⟨⟨0,0,0,⟨#[]⟩,0⟩⟩
def Vl.ok(x:Vl):Bool:=A8 x.kind x.num x.Af x.str x.ref
def Bq kind num Af s ref w:
  C9 81 #[V kind num Af s ref] w (R9 (.bool<|A8 kind num Af s ref) w):=by
 go_enter func81,ntmps81;go_wp2;all_goals
  go_ret;refine⟨by simp_all [A8,fz]<;>intros<;>omega,?_⟩;repeat refine Below.alloc ?_ oq _
  exact BE _ _
def Cb kind num Af s ref w:
  C9 162 #[V kind num Af s ref] w (R9 (.bool<|A8 kind num Af s ref) w):=by
 go_enter func162,ntmps162;go_wp2;all_goals
  go_ret;refine⟨by simp_all [A8,fz]<;>intros<;>omega,?_⟩;repeat refine Below.alloc ?_ oq _
  exact BE _ _
section
attribute [local go_sem] Ar Am
def iI x s m i(h1:FloatKind.f64.decode x=.number s m i):
  Extern.MathFloor.toIntegral "math.archTrunc" .zero #[F9 x]=pure (F9 (FloatKind.f64.encode ((Ieee.Datum.number s m i).integral .zero))):=by
 show Extern.MathFloor.toIntegral.match_1 (λ_=>Sem Value) (FloatKind.f64.decode x) (λs t=>_) (λd=>_)=_;rw[h1]
def bB x w s m i(a:Ieee.double.read x=.number s m i):
  (callFunc 189 #[F9 x]).run prog w=.ok (.value<|F9<|Ieee.double.nearest s (Fl.whole m i) 0) w:=by
 rw[run_callFunc_extern (e:=Extern.MathFloor.toIntegral "math.archTrunc" .zero) func189 ou ou ou ou];rw[iI x s m i a,Fl.MY];rfl
def ZX x w s m i(a:Ieee.double.read x=.number s m i):
  C9 181 #[F9 x] w λe w'=>e=.returned (F9<|Ieee.double.nearest s (Fl.whole m i) 0)/\w'=w:=by
 have b:=λw=>bB x w s m i a;clear a;go_enter func181,ntmps181;go_wp2;go_ret;exact⟨rfl,rfl⟩
def VE(h1:(Ieee.double.order x 14114281232179134464==some .gt||Ieee.double.order x 14114281232179134464==some .eq)=true)(h2:(Ieee.double.order x 4890909195324358656==some .lt)=true):
  ∃s m i,Ieee.double.read x=.number s m i/\-1074<=i/\i<=971/\m<2^53/\-(9223372036854775808*Fl.U)<=Fl.sc s m i/\Fl.sc s m i<9223372036854775808*Fl.U:=by
 rcases Fl.Cl x with⟨s,m,i,a,hi,b,c,_⟩|⟨s,a⟩|⟨s,t,a⟩
 .refine⟨s,m,i,a,hi,b,c,?_,?_⟩
  .rw[Fl.BG a Fl.Gf hi om,Fl.Ps,Fl.Kd]at h1;simp at h1;omega
  rw[Fl.BG a Fl.Ha hi om,Fl.Pq,Fl.IW]at h2;simpa using h2
 .unfold Ieee.Format.order at h1 h2;rw[a,Fl.Gf]at h1;rw[a,Fl.Ha]at h2;cases s<;>simp[Ieee.Datum.order]at h1 h2
 unfold Ieee.Format.order at h1 h2;rw[a]at h1;simp[Ieee.Datum.order]at h1
def VI(x:Nat):Bool:=O9 x 14114281232179134464==some .gt||O9 x 14114281232179134464==some .eq
def Ui(x:Nat):Bool:=O9 x 4890909195324358656==some .lt
def R8(x:Nat):Bool:=match Ieee.double.read x with
 |.number s m i=>decide (Fl.sc s m i=Fl.sg s (Fl.whole m i)*Fl.U)
 |_=>false
def MU(x:Nat):Int:=match Ieee.double.read x with
 |.number s m i=>Fl.sg s<|Fl.whole m i
 |_=>0
def Cn(x:Nat):Bool:=VI x&&Ui x&&R8 x
def MC x w:
  C9 164 #[F9 x] w λe w'=>e=.returned (.bool<|Cn x)/\w'=w:=by
 by_cases h1:VI x=true
 focus
  by_cases h2:Ui x=true
  .obtain⟨s,m,i,d,hi,b,g,_,_⟩:=VE h1 h2;have a:Cn x=decide (Fl.sc s m i=Fl.sg s (Fl.whole m i)*Fl.U):=by
    unfold Cn R8;rw[h1,h2,d];simp
   have f:=Fl.Zl d hi b g;rw[<-a]at f;have c:(O9 x (Ieee.double.nearest s (Fl.whole m i) 0)==some .eq)=Cn x:=f;have H:Hid<|(O9 x (Ieee.double.nearest s (Fl.whole m i) 0)==some .eq)=Cn x:=c;have h:Hid<|Ieee.double.read x=.number s m i:=d;have g1:(O9 x 14114281232179134464==some .gt||O9 x 14114281232179134464==some .eq)=true:=h1;have g2:(O9 x 4890909195324358656==some .lt)=true:=h2;clear a f c d h1 h2 hi b g;go_enter func164,ntmps164;go_wp2_with (go_at_call 181;refine(ZX x _ s m i h.out).mono ?_;rintro e w' ⟨rfl,rfl⟩);all_goals
    go_ret;exact⟨by rw[<-H.out];simp,rfl⟩
  have g1:(O9 x 14114281232179134464==some .gt||O9 x 14114281232179134464==some .eq)=true:=h1;have g2:(O9 x 4890909195324358656==some .lt)=false:=(by simpa using h2:Ui x=false);have a:Cn x=false:=by unfold Cn;simp at h2;rw[h1,h2];simp
  rw[a];clear h1 h2 a
 rotate_left
 focus
  have g1:(O9 x 14114281232179134464==some .gt||O9 x 14114281232179134464==some .eq)=false:=(by simpa using h1:VI x=false);have a:Cn x=false:=by unfold Cn;simp at h1;rw[h1];simp
  rw[a];clear h1 a
 all_goals
  go_enter func164,ntmps164;go_wp2;all_goals
   go_ret;exact⟨rfl,rfl⟩
def LM(x:Nat):Bool:=DU x||fz x||(O9 x 4890909195324358656==some .gt||O9 x 4890909195324358656==some .eq)||(O9 x 14114281232179134464==some .lt||O9 x 14114281232179134464==some .eq)
def Oh w(h:LM x=true):
  C9 85 #[F9 x] w λe w'=>e=.returned (F9 x)/\w'=w:=by
 by_cases h1:DU x=true
 .have g1:(O9 x x !=some .eq)=true:=h1;clear h h1;go_enter func85,ntmps85;go_wp2;go_ret;exact⟨rfl,rfl⟩
 have g1:(O9 x x !=some .eq)=false:=(by simpa using h1:DU x=false);by_cases h2:fz x=true
 .have g2:(O9 x 0==some .eq)=true:=h2;clear h h1 h2;go_enter func85,ntmps85;go_wp2;go_ret;exact⟨rfl,rfl⟩
 have g2:(O9 x 0==some .eq)=false:=(by simpa using h2:fz x=false);by_cases h3:(O9 x 4890909195324358656==some .gt||O9 x 4890909195324358656==some .eq)=true
 .clear h h1 h2;go_enter func85,ntmps85;go_wp2;go_ret;exact⟨rfl,rfl⟩
 have g3:=Bool.eq_false_iff.2 h3;have g4:(O9 x 14114281232179134464==some .lt||O9 x 14114281232179134464==some .eq)=true:=by
  unfold LM at h;rw[g3]at h;have a1:=Bool.eq_false_iff.2 h1;have a2:=Bool.eq_false_iff.2 h2;rw[a1,a2]at h;simpa using h
 clear h h1 h2 h3;go_enter func85,ntmps85;go_wp2;go_ret;exact⟨rfl,rfl⟩
def Uo(h:LM x=false):DU x=false/\fz x=false/\(O9 x 4890909195324358656==some .gt||O9 x 4890909195324358656==some .eq)=false/\(O9 x 14114281232179134464==some .lt||O9 x 14114281232179134464==some .eq)=false:=by
 grind [LM,DU,fz]
def oU(h:LM x=false):∃s m i,Ieee.double.read x=.number s m i/\-1074<=i/\i<=971/\m<2^53/\-(9223372036854775808*Fl.U)<=Fl.sc s m i/\Fl.sc s m i<9223372036854775808*Fl.U:=by
 obtain⟨h1,h2,h3,h4⟩:=Uo h;have d:(Ieee.double.order x x !=some .eq)=false:=h1;have a:(Ieee.double.order x 4890909195324358656==some .gt||Ieee.double.order x 4890909195324358656==some .eq)=false:=h3;have b:(Ieee.double.order x 14114281232179134464==some .lt||Ieee.double.order x 14114281232179134464==some .eq)=false:=h4;rcases Fl.Cl x with⟨s,m,i,c,hi,e,f,_⟩|⟨s,c⟩|⟨s,t,c⟩
 .refine⟨s,m,i,c,hi,e,f,?_,?_⟩
  .rw[Fl.BG c Fl.Gf hi om,Fl.Ps,Fl.IW]at b;simp at b;omega
  rw[Fl.BG c Fl.Ha hi om,Fl.Pq,Fl.Kd]at a;simp at a;omega
 .unfold Ieee.Format.order at a b;rw[c,Fl.Ha]at a;rw[c,Fl.Gf]at b;cases s<;>simp[Ieee.Datum.order]at a b
 unfold Ieee.Format.order at d;rw[c]at d;simp[Ieee.Datum.order]at d
def Og(h:LM x=false):
  ∃r,(O9 x r==some .eq)=R8 x/\∀w,C9 85 #[F9 x] w λe w'=>e=.returned (F9 r)/\w'=w:=by
 obtain⟨s,m,i,c,hi,d,p,f,g⟩:=oU h;obtain⟨h1,h2,h3,h4⟩:=Uo h;have g1:(O9 x x !=some .eq)=false:=h1;have g2:(O9 x 0==some .eq)=false:=h2;have q:R8 x=decide (Fl.sc s m i=Fl.sg s (Fl.whole m i)*Fl.U):=by unfold R8;rw[c]
 obtain⟨o1,o2⟩:=Fl.Zk c hi d p;have j:∀w:World,(convert 29 2<|F9 x).run prog w=.ok (J<|Fl.sg s<|Fl.whole m i) w:=λw=>run_convert_float_int w 29 2 .f64 .i64 x _ ou underlying2<|Fl.Ll c hi f g;by_cases a:Fl.sc s m i<Fl.sg s (Fl.whole m i)*Fl.U
 focus
  obtain⟨r,b,k⟩:=Fl.bT c hi p a;have l:∀w:World,(binOp .sub 29 (F9<|floatOfInt .f64<|Fl.sg s<|Fl.whole m i)<|F9 4607182418800017408).run prog w=.ok (F9 r) w:=λw=>AaR w .sub 29 .f64 _ _ r b;have t:R8 x=false:=by rw[q];simp;omega
  have g5:(O9 (floatOfInt .f64<|Fl.sg s<|Fl.whole m i) x==some .gt)=true:=by
   show(Ieee.double.order (Ieee.double.nearest (decide (Fl.sg s (Fl.whole m i)<0)) (Fl.sg s<|Fl.whole m i).natAbs 0) x==some .gt)=true;rw[o2,Fl.Kd];simpa using a
  have o:Hid<|(O9 x r==some .eq)=R8 x:=by rw[t];exact k
  refine⟨r,o.out,λw=>?_⟩
 rotate_left
 focus
  have g5:(O9 (floatOfInt .f64<|Fl.sg s<|Fl.whole m i) x==some .gt)=false:=by
   show(Ieee.double.order (Ieee.double.nearest (decide (Fl.sg s (Fl.whole m i)<0)) (Fl.sg s<|Fl.whole m i).natAbs 0) x==some .gt)=false;rw[o2,Fl.Kd];simpa using a
  have o:Hid<|(O9 x (floatOfInt .f64<|Fl.sg s<|Fl.whole m i)==some .eq)=R8 x:=by
   show(Ieee.double.order x (Ieee.double.nearest (decide (Fl.sg s (Fl.whole m i)<0)) (Fl.sg s<|Fl.whole m i).natAbs 0)==some .eq)=R8 x;rw[o1,Fl.Hw,q]
  refine⟨_,o.out,λw=>?_⟩
 all_goals
  generalize Fl.sg s (Fl.whole m i)=n at*;go_enter func85,ntmps85;go_wp2;go_ret;exact⟨rfl,rfl⟩
theorem Kb(h:LM x=true)(hn:DU x=false)(h1:VI x=true)(h2:Ui x=true):R8 x=true:=by
 obtain⟨s,m,i,a,hi,c,g,d,e⟩:=VE h1 h2;have f:R8 x=decide (Fl.sc s m i=Fl.sg s (Fl.whole m i)*Fl.U):=by unfold R8;rw[a]
 rw[f];have hb:=Fl.EL m i hi;have hu:=Fl.Mp;unfold LM at h;rw[hn]at h;have e1:fz x=decide (Fl.sc s m i=0):=by
  show(Ieee.double.order x 0==some .eq)=_;rw[Fl.BG a Fl.Cq hi om,Fl.Hw,Fl.Ef]
 have e2:(O9 x 4890909195324358656==some .gt||O9 x 4890909195324358656==some .eq)=false:=by grind [DU,Ui]
 have e3:(O9 x 14114281232179134464==some .lt||O9 x 14114281232179134464==some .eq)=decide (Fl.sc s m i=-(9223372036854775808*Fl.U)):=by
  show(Ieee.double.order x 14114281232179134464==some .lt||Ieee.double.order x 14114281232179134464==some .eq)=_;rw[Fl.BG a Fl.Gf hi om,Fl.Ps,Fl.Hw];grind [DU,Ui]
 rw[e1,e2,e3]at h;simp at h;have hk:(Fl.whole m i:Int)=0\/(s=true/\(Fl.whole m i:Int)=9223372036854775808):=by
  rcases h with h|h
  .have b:Fl.sc false m i=0:=by
    cases s
    .exact h
    rw[Fl.Ej]at h;omega
   have:=Int.le_of_mul_le_mul_right (show(Fl.whole m i:Int)*Fl.U<=0*Fl.U from by omega) hu;omega
  right;have hs:s=true:=by
   cases s
   .have b:0<=(Fl.whole m i:Int)*Fl.U:=Int.mul_nonneg om om;omega
   rfl
  subst hs;rw[Fl.Ej]at h;have b:Fl.sc false m i=9223372036854775808*Fl.U:=om;rw[b]at hb;have h3:=Int.lt_of_mul_lt_mul_right hb.2 om;have h4:=Int.le_of_mul_le_mul_right hb.1 hu;exact⟨rfl,om⟩
 rcases h with h|h
 .have:(Fl.whole m i:Int)=0:=by
   rcases hk with k|⟨k1,k2⟩
   .exact k
   exfalso;subst k1;rw[Fl.Ej]at h;rw[k2]at hb;omega
  have e0:Fl.whole m i=0:=om;rw[h,e0];cases s<;>simp[Fl.sg]
 rcases hk with k|⟨k1,k2⟩
 .rw[k]at hb;cases s
  .omega
  rw[Fl.Ej]at h;omega
 subst k1;have e0:Fl.whole m i=9223372036854775808:=om;rw[h,e0];simp[Fl.sg,Int.neg_mul]
def B4{a w:Y}(h:Below B a w)b(hb:B<=b)v0 v1 v2 v3 v4 v5:
  Below B a ((((((w.setCell (G b 0) v0).setCell (G b 1) v1).setCell (G b 2) v2).setCell (G b 3) v3).setCell (G b 4) v4).setCell (G b 5) v5):=
 (((((h.setCell hb v0).setCell hb v1).setCell hb v2).setCell hb v3).setCell hb v4).setCell hb v5
def AH{a w:Y}(h:Below B a w)n:Below B a<|w.drewN n:=⟨h.os,h.tape,h.output,h.size,h.block⟩
def C8{w w1:Y}{o1 o2}(a:B<=w.heap.size)(hb:Below ((w.alloc o1).alloc o2).heap.size ((w.alloc o1).alloc o2) w1):Below B w w1:=
 (((BE B w).alloc a o1).alloc ot o2).trans (hb.mono ot)
def KQ(kind num:Int)(Af:Nat)(s:ByteArray)(ref:Int):Value:=
 if A8 kind num Af s ref=true then
  if kind=0 then KV 1 0 0 0 ⟨#[]⟩ 0
  else if kind=3 then
   if DU Af=true then KV 1 0 0 0 ⟨#[]⟩ 0
   else if Cn Af=true then KV 0 2 (MU Af) 0 ⟨#[]⟩ 0
   else KV 0 kind num Af s ref
  else KV 0 kind num Af s ref
 else KV 2 0 0 0 ⟨#[]⟩ 0
def rY kind num Af s ref w(a:A8 kind num Af s ref=false):
  C9 48 #[V kind num Af s ref] w (R9 (KV 2 0 0 0 ⟨#[]⟩ 0) w):=by
 go_enter func48,ntmps48;go_wp2_with (go_at_call 81;refine m9 (Bq kind num Af s ref _) λw1 hb=>?_;rw[a];obtain⟨hc,hf⟩:=AM hb;have hz:=hb.size;simp at hz);exact GO (v:=KV 2 0 0 0 ⟨#[]⟩ 0) (by simp[results,results48,go_sem,hc]) rfl ⟨rfl,B4 (C8 (Be _) hb) _ om _ _ _ _ _ _⟩
def rZ w(a:A8 0 num Af s ref=true):
  C9 48 #[V 0 num Af s ref] w (R9 (KV 1 0 0 0 ⟨#[]⟩ 0) w):=by
 go_enter func48,ntmps48;go_wp2_with (go_at_call 81;refine m9 (Bq 0 num Af s ref _) λw1 hb=>?_;rw[a];obtain⟨hc,hf⟩:=AM hb;have hz:=hb.size;simp at hz);exact GO (v:=KV 1 0 0 0 ⟨#[]⟩ 0) (by simp[results,results48,go_sem,hc]) rfl ⟨rfl,B4 (C8 (Be _) hb) _ om _ _ _ _ _ _⟩
def sD w(a:A8 3 num Af s ref=true)(hn:DU Af=true):
  C9 48 #[V 3 num Af s ref] w (R9 (KV 1 0 0 0 ⟨#[]⟩ 0) w):=by
 have g1:(O9 Af Af !=some .eq)=true:=hn;clear hn;go_enter func48,ntmps48;go_wp2_with (first|(go_at_call 81;refine m9 (Bq 3 num Af s ref _) λw1 hb=>?_;rw[a];obtain⟨hc,hf⟩:=AM hb;have hz:=hb.size;simp at hz)|(go_at_call 84;go_in));exact GO (v:=KV 1 0 0 0 ⟨#[]⟩ 0) (by simp[results,results48,go_sem,hc]) rfl ⟨rfl,B4 (C8 (Be _) hb) _ om _ _ _ _ _ _⟩
def sG w(a:A8 kind num Af s ref=true)(b:(kind==0)=false)(h3:(kind==3)=false):
  C9 48 #[V kind num Af s ref] w (R9 (KV 0 kind num Af s ref) w):=by
 go_enter func48,ntmps48;go_wp2_with (go_at_call 81;refine m9 (Bq kind num Af s ref _) λw1 hb=>?_;rw[a];obtain⟨hc,hf⟩:=AM hb;have hz:=hb.size;simp at hz);go_quiet (fail);go_wp2;exact GO (v:=KV 0 kind num Af s ref) (by simp[results,results48,go_sem,hc]) rfl ⟨rfl,B4 (AH (C8 (Be _) hb) _) _ om _ _ _ _ _ _⟩
def sF(w)(c:A8 3 num Af s ref=true)(hn:DU Af=false)(r)
  (a:∀w,C9 85 #[F9 Af] w λe w'=>e=.returned (F9 r)/\w'=w)
  (b:((O9 Af r==some .eq)&&VI Af&&Ui Af)=false):
  C9 48 #[V 3 num Af s ref] w (R9 (KV 0 3 num Af s ref) w):=by
 have g1:(O9 Af Af !=some .eq)=false:=hn;have d:=O a;by_cases t1:(O9 Af r==some .eq)=true
 .by_cases t2:VI Af=true
  focus
   have t3:Ui Af=false:=by have:=z<|O b;rw[t1,t2]at this;simpa using this
   have g2:(O9 Af 14114281232179134464==some .gt||O9 Af 14114281232179134464==some .eq)=true:=t2;have g3:(O9 Af 4890909195324358656==some .lt)=false:=t3
  rotate_left
  focus
   have g2:(O9 Af 14114281232179134464==some .gt||O9 Af 14114281232179134464==some .eq)=false:=(by simpa using t2:VI Af=false)
  all_goals
   go_enter func48,ntmps48;go_wp2_with (first|(go_at_call 81;refine m9 (Bq 3 num Af s ref _) λw1 hb=>?_;rw[c];obtain⟨hc,hf⟩:=AM hb;have hz:=hb.size;simp at hz)|(go_at_call 84;go_in));go_quiet ((go_at_call 85;exact Calls.quiet_of_same<|d _));go_wp2;exact GO (v:=KV 0 3 num Af s ref) (by simp[results,results48,go_sem,hc]) rfl ⟨rfl,B4 (AH (C8 (Be _) hb) _) _ om _ _ _ _ _ _⟩
 have f:(O9 Af r==some .eq)=false:=by simpa using t1
 go_enter func48,ntmps48;go_wp2_with (first|(go_at_call 81;refine m9 (Bq 3 num Af s ref _) λw1 hb=>?_;rw[c];obtain⟨hc,hf⟩:=AM hb;have hz:=hb.size;simp at hz)|(go_at_call 84;go_in));go_quiet ((go_at_call 85;exact Calls.quiet_of_same<|d _));go_wp2;exact GO (v:=KV 0 3 num Af s ref) (by simp[results,results48,go_sem,hc]) rfl ⟨rfl,B4 (AH (C8 (Be _) hb) _) _ om _ _ _ _ _ _⟩
def QX n w:
  C9 86 #[J n] w (R9 (V 2 n 0 ⟨#[]⟩ 0) w):=by
 go_enter func86,ntmps86;go_wp2;exact GO (v:=V 2 n 0 ⟨#[]⟩ 0) (by simp[results,go_sem]) rfl ⟨rfl,n9⟩
def QL(h1:VI x=true)(h2:Ui x=true)w:
  (convert 29 2<|F9 x).run prog w=.ok (J<|MU x) w:=by
 obtain⟨s,m,i,c,hi,d,f,a,b⟩:=VE h1 h2;have e:MU x=Fl.sg s (Fl.whole m i):=by unfold MU;rw[c]
 rw[e];exact run_convert_float_int w 29 2 .f64 .i64 x _ ou underlying2<|Fl.Ll c hi a b
def sE(w)(h:A8 3 num Af s ref=true)(hn:DU Af=false)(r)
  (c:∀w,C9 85 #[F9 Af] w λe w'=>e=.returned (F9 r)/\w'=w)
  (t1:(O9 Af r==some .eq)=true) (t2:VI Af=true) (t3:Ui Af=true):
  C9 48 #[V 3 num Af s ref] w (R9 (KV 0 2 (MU Af) 0 ⟨#[]⟩ 0) w):=by
 have g1:(O9 Af Af !=some .eq)=false:=hn;have i:=O c;have g2:(O9 Af 14114281232179134464==some .gt||O9 Af 14114281232179134464==some .eq)=true:=t2;have g3:(O9 Af 4890909195324358656==some .lt)=true:=t3;have j:=QL t2 t3;clear t2 t3 hn c;generalize MU Af=n at*;go_enter func48,ntmps48;go_wp2_with (first|(go_at_call 81;refine m9 (Bq 3 num Af s ref _) λw1 hb=>?_;rw[h];obtain⟨hc,hf⟩:=AM hb;have hz:=hb.size;simp at hz)|(go_at_call 84;go_in));go_quiet ((go_at_call 85;exact Calls.quiet_of_same<|i _));obtain⟨w2,a,d⟩:∃w2,Below _ _ w2/\w1.drewN nq=w2:=⟨_,AH hb nq,rfl⟩;rw[d];clear d hb hc hf hz;obtain⟨hc,hf⟩:=AM a;have hz:=a.size;simp at hz;have f:w.heap.size+1<w2.heap.size:=om;have k:w.heap.size<w2.heap.size:=om;go_wp2_with (go_at_call 86;refine m9 (QX n _) λw3 b=>?_;obtain⟨g,l⟩:=AM b;have m:=b.size)
 exact GO (v:=KV 0 2 n 0 ⟨#[]⟩ 0) (by simp[results,results48,go_sem,hc,g,f]) rfl ⟨rfl,B4 ((C8 (Be _) a).trans<|b.mono om) _ om _ _ _ _ _ _⟩
def Hf kind num Af s ref w:
  C9 48 #[V kind num Af s ref] w (R9 (KQ kind num Af s ref) w):=by
 unfold KQ;by_cases b:A8 kind num Af s ref=true
 .rw[C3 b];by_cases h:kind=0
  .subst h;rw[C3 rfl];exact rZ w b
  rw[Cs h];by_cases h3:kind=3
  .subst h3;rw[C3 rfl];by_cases hn:DU Af=true
   .rw[C3 hn];exact sD w b hn
   rw[Cs hn];have a:DU Af=false:=by simpa using hn
   obtain⟨r,c,d⟩:∃r,((O9 Af r==some .eq)&&VI Af&&Ui Af)=Cn Af/\∀w:World,C9 85 #[F9 Af] w λe w'=>e=.returned (F9 r)/\w'=w:=by
    by_cases i:LM Af=true
    .refine⟨Af,?_,λw=>Oh w i⟩;have e:(O9 Af Af==some .eq)=true:=by
      have:(O9 Af Af !=some .eq)=false:=a;simpa using this
     rw[e];unfold Cn;by_cases g:VI Af=true
     .by_cases l:Ui Af=true
      .rw[Kb i a g l];simp
      have:Ui Af=false:=by simpa using l
      rw[this];simp
     have:VI Af=false:=by simpa using g
     rw[this];simp
    have j:LM Af=false:=by simpa using i
    obtain⟨r,h1,h2⟩:=Og j;refine⟨r,?_,h2⟩;rw[h1];unfold Cn;cases R8 Af<;>cases VI Af<;>cases Ui Af<;>rfl
   by_cases f:Cn Af=true
   .rw[C3 f];rw[f]at c;simp only[AaJ]at c;exact sE w b a r d c.1.1 c.1.2 c.2
   rw[Cs f];have k:Cn Af=false:=by simpa using f
   rw[k]at c;exact sF w b a r d c
  rw[Cs h3];exact sG w b (by simp[h])<|by simp[h3]
 rw[Cs b];exact rY kind num Af s ref w<|by simpa using b
def FH n w:
  C9 165 #[J n] w (R9 (V 2 n 0 ⟨#[]⟩ 0) w):=by
 go_enter func165,ntmps165;go_wp2;exact GO (v:=V 2 n 0 ⟨#[]⟩ 0) (by simp[results,go_sem]) rfl ⟨rfl,n9⟩
def qW kind num Af s ref w(a:A8 kind num Af s ref=false):
  C9 135 #[V kind num Af s ref] w (R9 (KV 2 0 0 0 ⟨#[]⟩ 0) w):=by
 go_enter func135,ntmps135;go_wp2_with (go_at_call 162;refine m9 (Cb kind num Af s ref _) λw1 hb=>?_;rw[a];obtain⟨hc,hf⟩:=AM hb;have hz:=hb.size;simp at hz);exact GO (v:=KV 2 0 0 0 ⟨#[]⟩ 0) (by simp[results,results135,go_sem,hc]) rfl ⟨rfl,B4 (C8 (Be _) hb) _ om _ _ _ _ _ _⟩
def qX w(a:A8 0 num Af s ref=true):
  C9 135 #[V 0 num Af s ref] w (R9 (KV 1 0 0 0 ⟨#[]⟩ 0) w):=by
 go_enter func135,ntmps135;go_wp2_with (go_at_call 162;refine m9 (Cb 0 num Af s ref _) λw1 hb=>?_;rw[a];obtain⟨hc,hf⟩:=AM hb;have hz:=hb.size;simp at hz);exact GO (v:=KV 1 0 0 0 ⟨#[]⟩ 0) (by simp[results,results135,go_sem,hc]) rfl ⟨rfl,B4 (C8 (Be _) hb) _ om _ _ _ _ _ _⟩
def qY w(a:A8 3 num Af s ref=true)(hn:DU Af=true):
  C9 135 #[V 3 num Af s ref] w (R9 (KV 1 0 0 0 ⟨#[]⟩ 0) w):=by
 have g1:(O9 Af Af !=some .eq)=true:=hn;clear hn;go_enter func135,ntmps135;go_wp2_with (first|(go_at_call 162;refine m9 (Cb 3 num Af s ref _) λw1 hb=>?_;rw[a];obtain⟨hc,hf⟩:=AM hb;have hz:=hb.size;simp at hz)|(go_at_call 163;go_in));exact GO (v:=KV 1 0 0 0 ⟨#[]⟩ 0) (by simp[results,results135,go_sem,hc]) rfl ⟨rfl,B4 (C8 (Be _) hb) _ om _ _ _ _ _ _⟩
def rB w(a:A8 kind num Af s ref=true)(b:(kind==0)=false)(h3:(kind==3)=false):
  C9 135 #[V kind num Af s ref] w (R9 (KV 0 kind num Af s ref) w):=by
 go_enter func135,ntmps135;go_wp2_with (go_at_call 162;refine m9 (Cb kind num Af s ref _) λw1 hb=>?_;rw[a];obtain⟨hc,hf⟩:=AM hb;have hz:=hb.size;simp at hz);exact GO (v:=KV 0 kind num Af s ref) (by simp[results,results135,go_sem,hc]) rfl ⟨rfl,B4 (C8 (Be _) hb) _ om _ _ _ _ _ _⟩
def rA w(b:A8 3 num Af s ref=true)(hn:DU Af=false)(a:Cn Af=false):
  C9 135 #[V 3 num Af s ref] w (R9 (KV 0 3 num Af s ref) w):=by
 have g1:(O9 Af Af !=some .eq)=false:=hn;clear hn;go_enter func135,ntmps135;go_wp2_with (first|(go_at_call 162;refine m9 (Cb 3 num Af s ref _) λw1 hb=>?_;rw[b];obtain⟨hc,hf⟩:=AM hb;have hz:=hb.size;simp at hz)|(go_at_call 163;go_in)|(go_at_call 164;refine(MC Af _).mono ?_;rintro e w2 ⟨rfl,rfl⟩;rw[a]));exact GO (v:=KV 0 3 num Af s ref) (by simp[results,results135,go_sem,hc]) rfl ⟨rfl,B4 (C8 (Be _) hb) _ om _ _ _ _ _ _⟩
def qZ w(f:A8 3 num Af s ref=true)(hn:DU Af=false)(b:Cn Af=true):
  C9 135 #[V 3 num Af s ref] w (R9 (KV 0 2 (MU Af) 0 ⟨#[]⟩ 0) w):=by
 have g1:(O9 Af Af !=some .eq)=false:=hn;have g:∀w:World,(convert 29 2<|F9 Af).run prog w=.ok (J<|MU Af) w:=by
  unfold Cn at b;simp only[AaJ]at b;exact QL b.1.1 b.1.2
 clear hn;generalize MU Af=n at*;go_enter func135,ntmps135;go_wp2_with (first|(go_at_call 162;refine m9 (Cb 3 num Af s ref _) λw1 hb=>?_;rw[f];obtain⟨hc,hf⟩:=AM hb;have hz:=hb.size;simp at hz;have c:w.heap.size+1<w1.heap.size:=om;have h:w.heap.size<w1.heap.size:=om)|(go_at_call 163;go_in)|(go_at_call 164;refine(MC Af _).mono ?_;rintro e w2 ⟨rfl,rfl⟩;rw[b])|(go_at_call 165;refine m9 (FH n _) λw3 a=>?_;obtain⟨d,i⟩:=AM a;have j:=a.size));exact GO (v:=KV 0 2 n 0 ⟨#[]⟩ 0) (by simp[results,results135,go_sem,hc,d,c]) rfl ⟨rfl,B4 ((C8 (Be _) hb).trans<|a.mono om) _ om _ _ _ _ _ _⟩
def F2 kind num Af s ref w:
  C9 135 #[V kind num Af s ref] w (R9 (KQ kind num Af s ref) w):=by
 rw[KQ];by_cases a:A8 kind num Af s ref=true
 .rw[C3 a];by_cases d:kind=0
  .subst d;rw[C3 rfl];exact qX w a
  rw[Cs d];by_cases h3:kind=3
  .subst h3;by_cases hn:DU Af=true
   .rw[C3 hn];exact qY w a hn
   rw[Cs hn];have b:DU Af=false:=by simpa using hn
   by_cases c:Cn Af=true
   .rw[C3 c];exact qZ w a b c
   rw[Cs c];exact rA w a b<|by simpa using c
  rw[Cs h3];exact rB w a (by simp[d])<|by simp[h3]
 rw[Cs a];exact qW kind num Af s ref w<|by simpa using a
end
structure Pr where
 key:Vl
 val:Vl
 turn:Int
instance:Inhabited Pr:=⟨⟨default,default,0⟩⟩
def De(p:Pr):List Value:=[J p.key.kind,J p.key.num,F9 p.key.Af,.string p.key.str,J p.key.ref,J p.val.kind,J p.val.num,F9 p.val.Af,.string p.val.str,J p.val.ref,J p.turn]
abbrev PV(p:Pr):Value:=.agg #[J p.key.kind,J p.key.num,F9 p.key.Af,.string p.key.str,J p.key.ref,J p.val.kind,J p.val.num,F9 p.val.Af,.string p.val.str,J p.val.ref,J p.turn]
structure Ex (w:Y) (b o:Nat) (p:Pr):Prop where
 k0:w.cell? (G b o)=some (J p.key.kind)
 k1:w.cell? (G b<|o+1)=some (J p.key.num)
 k2:w.cell? (G b<|o+2)=some (F9 p.key.Af)
 k3:w.cell? (G b<|o+3)=some (.string p.key.str)
 k4:w.cell? (G b<|o+4)=some (J p.key.ref)
 v0:w.cell? (G b<|o+5)=some (J p.val.kind)
 v1:w.cell? (G b<|o+6)=some (J p.val.num)
 v2:w.cell? (G b<|o+7)=some (F9 p.val.Af)
 v3:w.cell? (G b<|o+8)=some (.string p.val.str)
 v4:w.cell? (G b<|o+9)=some (J p.val.ref)
 tn:w.cell? (G b<|o+10)=some (J p.turn)
def Ex.of{w}{p}(h:∀j u,(De p)[j]?=some u->w.cell? (G b<|o+j)=some u):Ex w b o p:=
 ⟨h 0 _ rfl,h 1 _ rfl,h 2 _ rfl,h 3 _ rfl,h 4 _ rfl,h 5 _ rfl,h 6 _ rfl,h 7 _ rfl,h 8 _ rfl,h 9 _ rfl,h 10 _ rfl⟩
def Ex.keep{w w'}{p}(h:Ex w b o p)(e:∀q,w'.cell? (G b q)=w.cell? (G b q)):Ex w' b o p:=
 ⟨(e _).trans h.k0,(e _).trans h.k1,(e _).trans h.k2,(e _).trans h.k3,(e _).trans h.k4,(e _).trans h.v0,(e _).trans h.v1,(e _).trans h.v2,(e _).trans h.v3,(e _).trans h.v4,(e _).trans h.tn⟩
def JX(w:Y)(a:T9)(n:Nat)(f:Nat->Pr):Prop:=
 n=0\/∃b off,a=some (G b off)/\b<w.heap.size/\∀i,i<n->Ex w b (off+i*11) (f i)
def JP(w:Y)(a:T9)(n:Nat)(f:Nat->Int):Prop:=
 n=0\/∃b off,a=some (G b off)/\b<w.heap.size/\∀i,i<n->w.cell? (G b<|off+i)=some (J<|f i)
def JX.below{w w':Y}{a:Option Addr}{f}(h:JX w a n f)(hb:Below B w w')(d:B=w.heap.size):JX w' a n f:=by
 subst d;rcases h with h|⟨b,off,e,c,hc⟩
 .exact .inl h
 exact .inr ⟨b,off,e,A0 c hb.size,λi hi=>(hc i hi).keep λq=>hb.cell c⟩
def JP.below{w w':Y}{a:Option Addr}{f}(h:JP w a n f)(hb:Below B w w')(d:B=w.heap.size):JP w' a n f:=by
 subst d;rcases h with h|⟨b,off,e,c,hc⟩
 .exact .inl h
 exact .inr ⟨b,off,e,A0 c hb.size,λi hi=>(hb.cell c).trans<|hc i hi⟩
structure Dc where
 n:Nat
 L:Nat->Pr
 m:Nat
 I:Nat->Int
 x:Nat
 X:Nat->Int
 used:Int
 live:Int
 turns:Int
abbrev Dv(la:T9)(lc:Nat)(ia:T9)(ic:Nat)(xa:T9)(xc:Nat)(d:Dc):Value:=.agg #[.slice la d.n lc,.slice ia d.m ic,.slice xa d.x xc,J d.used,J d.live,J d.turns]
structure Ea (w:Y) (la ia xa:T9) (d:Dc):Prop where
 log:JX w la d.n d.L
 ints:JP w ia d.m d.I
 index:JP w xa d.x d.X
def Ea.below{w w':Y}{d}(h:Ea w la ia xa d)(hb:B9 w w'):Ea w' la ia xa d:=⟨h.log.below hb rfl,h.ints.below hb rfl,h.index.below hb rfl⟩
structure Small (d:Dc):Prop where
 n:d.n<=4194304
 m:d.m<=4194304
 x:d.x<=4194304
structure Hl (w:Y) (c o:Nat) (la:T9) (lc:Nat) (ia:T9) (ic:Nat) (xa:T9) (xc:Nat) (d:Dc):Prop where
 lt:c<w.heap.size
 c0:w.cell? (G c o)=some (.slice la d.n lc)
 c1:w.cell? (G c<|o+1)=some (.slice ia d.m ic)
 c2:w.cell? (G c<|o+2)=some (.slice xa d.x xc)
 c3:w.cell? (G c<|o+3)=some (J d.used)
 c4:w.cell? (G c<|o+4)=some (J d.live)
 c5:w.cell? (G c<|o+5)=some (J d.turns)
 rows:Ea w la ia xa d
def Hl.below{w w':Y}{d}(h:Hl w c o la lc ia ic xa xc d)(hb:B9 w w'):Hl w' c o la lc ia ic xa xc d:=
 ⟨A0 h.lt hb.size,(hb.cell h.lt).trans h.c0,(hb.cell h.lt).trans h.c1,(hb.cell h.lt).trans h.c2,(hb.cell h.lt).trans h.c3,(hb.cell h.lt).trans h.c4,(hb.cell h.lt).trans h.c5,h.rows.below hb⟩
open Classical in
noncomputable def tells(p:Prop):Bool:=if p then true else false
theorem Aj(h:p):tells p=true:=C3 h
theorem Ae(h:¬p):tells p=false:=Cs h
def DH(v:Vl):Bool:=v.kind==0&&v.ok
def Cc(v:Vl):Bool:=v.ok&&v.kind !=0&&!(v.kind==3&&(DU v.Af||Cn v.Af))
def EI(turns last:Int)(p:Pr):Bool:=decide (last<p.turn)&&decide (p.turn<=turns)&&Cc p.key&&p.val.ok&&p.val.kind !=0
def CZ(d:Dc):Nat->Option (Int×Int)
 |0=>some (0,0)
 |k+1=>match CZ d k with
  |none=>none
  |some (live,last)=>if(d.L k).turn=0 then(if DH (d.L k).key&&DH (d.L k).val then some (live,last)else none)else if EI d.turns last (d.L k)then some (live+1,(d.L k).turn)else none
def V7{d}(h:CZ d k=none):∀j,CZ d (k+j)=none:=by
 intro j
 induction j with
 |zero=>exact h
 |succ j ih=>show(match CZ d (k+j)with|none=>none|some (live,last)=>_)=none;rw[ih]
def MF{d}(h:CZ d k=none)(hk:k<=n):CZ d n=none:=by
 have:=V7 h<|n-k;grind
def D1(d:Dc):Prop:=0<=d.live/\d.live<=500/\0<=d.turns/\d.turns<=1000000000000/\((d.n:Int)<=8\/(d.n:Int)<=2*d.live)
def D2(d:Dc):Prop:=∃last,CZ d d.n=some (d.live,last)
abbrev Dc.at(d:Dc)(p:Int):Pr:=d.L (p-1).toNat
def Fu(d:Dc)(i:Nat):Prop:=d.I i=0\/(0<d.I i/\d.I i<=d.n/\(d.at<|d.I i).turn≠0/\(d.at<|d.I i).key.kind=2/\(d.at<|d.I i).key.num=i+1)
def D3(d:Dc):Prop:=(∀i,i<d.m->Fu d i)/\(d.m=0\/0<d.I (d.m-1))
def Ay(m:Nat)(k:Vl):Prop:=k.kind=2/\1<=k.num/\k.num<=m
def Ga(d:Dc)(j:Nat):Prop:=d.X j=0\/d.X j=-1\/(0<d.X j/\d.X j<=d.n/\(d.at<|d.X j).turn≠0/\¬Ay d.m (d.at<|d.X j).key)
def BT(d:Dc):Nat->Nat
 |0=>0
 |k+1=>if d.X k=0 then BT d k else BT d k+1
def GY(x:Nat):Prop:=∃k,x=2^k
def D4(d:Dc):Prop:=(d.x=0\/(8<=d.x/\d.x<=4000/\GY d.x))/\(∀j,j<d.x->Ga d j)/\(BT d d.x:Int)=d.used/\2*BT d d.x<=d.x
def CI(f:Nat->Int)(i:Nat):Nat->Nat
 |0=>0
 |k+1=>if f k=(i:Int)+1 then CI f i k+1 else CI f i k
section
attribute [local go_sem] Ar Am
def pL(f:Nat->Pr):Nat->List Value
 |0=>[]
 |k+1=>pL f k++De (f k)
theorem DN f n:(pL f n).length=n*11:=by
 induction n with
 |zero=>rfl
 |succ n ih=>simp[pL,De];omega
theorem L5{f}{i j}(hi:i<n)(hj:j<11):(pL f n)[i*11+j]?=(De<|f i)[j]?:=by
 induction n with
 |zero=>omega
 |succ n ih=>
  show(pL f n++De (f n))[i*11+j]?=_;by_cases h:i<n
  .rw[Aat (by rw[DN];omega),ih h]
  have:i=n:=om;subst this;rw[AaG (by rw[DN];omega),DN,show i*11+j-i*11=j by omega]
def iL(f:Nat->Int):Nat->List Value
 |0=>[]
 |k+1=>iL f k++[J (f k)]
theorem CK f n:(iL f n).length=n:=by
 induction n with
 |zero=>rfl
 |succ n ih=>simp[iL,ih]
theorem Kk{f}{i}(hi:i<n):(iL f n)[i]?=some (J<|f i):=by
 induction n with
 |zero=>omega
 |succ n ih=>
  show(iL f n++[J (f n)])[i]?=_;by_cases h:i<n
  .rw[Aat (by rw[CK];omega),ih h]
  have:i=n:=om;subst this;rw[AaG (by rw[CK];omega),CK];simp
abbrev BP(w:Y)(base:Nat)(v:V9)(n:Nat)(f:Nat->Pr):Prop:=w.ownsRow base 166 11 v n<|pL f n
abbrev Bo(w:Y)(base:Nat)(v:V9)(n:Nat)(f:Nat->Int):Prop:=w.ownsRow base 3 1 v n<|iL f n
theorem BP.at{w}{base}{v}{f}(h:BP w base v n f):∃a d,v=.slice a n d/\JX w a n f:=by
 have h':=h;obtain⟨hl,⟨b,e⟩|⟨g,cap,cur,b,hb,c,h1,h2,h3,h4⟩⟩:=h'
 .grind [JX]
 subst b;refine⟨_,_,rfl,.inr ⟨g,0,rfl,(h.lt g rfl).2,λi hi=>Ex.of λj u hu=>?_⟩⟩;have hj:j<11:=by
  have:=(So.1 hu).1;simpa[De]using this
 rw[We,Ok h _ om,L5 hi hj,hu]
theorem Bo.at{w}{base}{v}{f}(h:Bo w base v n f):∃a d,v=.slice a n d/\JP w a n f:=by
 have h':=h;obtain⟨hl,⟨b,e⟩|⟨g,cap,cur,b,hb,c,h1,h2,h3,h4⟩⟩:=h'
 .grind [JP]
 subst b;refine⟨_,_,rfl,.inr ⟨g,0,rfl,(h.lt g rfl).2,λi hi=>?_⟩⟩;rw[We,Ok h _ om,Kk hi]
abbrev PZ:Value:=.agg #[J 0,J 0,F9 0,E9,J 0,J 0,J 0,F9 0,E9,J 0,J 0]
def EF:(prog.info? 166).map (λi=>(i.zero,i.size,i.bytes))=some (some PZ,11,104):=ou
def Np:(prog.info? 3).map (λi=>(i.zero,i.size,i.bytes))=some (some<|J 0,1,8):=ou
def Ff p:∀u∈De p,u.oneCell'=true:=by
 intro u hu;simp only[De,List.mem_cons,AaI,or_false]at hu;rcases hu with rfl|rfl|rfl|rfl|rfl|rfl|rfl|rfl|rfl|rfl|rfl<;>rfl
structure Cp (w wr:Y) (ia:T9) (ic:Nat) (xa:T9) (xc:Nat) (d:Dc) (v0 v1 v2:V9):Prop where
 below:B9 w wr
 sz:w.heap.size+2<=wr.heap.size
 a1:wr.cell? (y w 1)=some (.slice ia d.m ic)
 a2:wr.cell? (y w 2)=some (.slice xa d.x xc)
 b0:wr.cell? (Y9 w 0)=some v0
 b1:wr.cell? (Y9 w 1)=some v1
 b2:wr.cell? (Y9 w 2)=some v2
 b3:wr.cell? (Y9 w 3)=some (J d.used)
 b4:wr.cell? (Y9 w 4)=some (J d.live)
 b5:wr.cell? (Y9 w 5)=some (J d.turns)
 fz:∀q,wr.frozen? (Y9 w q)=false
theorem Cp.same{w wr w1:Y}{d}{v0 v1 v2}(h:Cp w wr ia ic xa xc d v0 v1 v2)(hb:Below (w.heap.size+2) wr w1):Cp w w1 ia ic xa xc d v0 v1 v2:=by
 have e:∀q o,q<w.heap.size+2->w1.cell? (G q o)=wr.cell? (G q o):=λq o hq=>hb.cell hq;have e':∀q o,q<w.heap.size+2->w1.frozen? (G q o)=wr.frozen? (G q o):=λq o hq=>hb.frozen hq;exact⟨h.below.trans<|hb.mono om,GP h.sz hb.size,(e _ _ om).trans h.a1,(e _ _ om).trans h.a2,(e _ _ om).trans h.b0,(e _ _ om).trans h.b1,(e _ _ om).trans h.b2,(e _ _ om).trans h.b3,(e _ _ om).trans h.b4,(e _ _ om).trans h.b5,λq=>(e' _ _ om).trans<|h.fz q⟩
theorem Aa{w:Y}{v:V9}(h:o≠o'):(w.setCell (G b o) v).cell? (G b o')=w.cell? (G b o'):=by
 apply World.cell?_setCell_other;intro e;cases e;exact h rfl
def Al{w:Y}{b'}{v:V9}(h:b≠b'):(w.setCell (G b o) v).cell? (G b' o')=w.cell? (G b' o'):=by
 apply World.cell?_setCell_other;intro e;cases e;exact h rfl
def Cp.pH{w wr}{d}{v0 v1 v2}(h:Cp w wr ia ic xa xc d v0 v1 v2)u:Cp w (wr.setCell (Y9 w 0) u) ia ic xa xc d u v1 v2:=
 ⟨h.below.setCell (by show _<=w.heap.size+1;omega) _,by simpa using h.sz,(Al om).trans h.a1,(Al om).trans h.a2,I9 _ _ _<|by rw[h.b0];rfl,(Aa om).trans h.b1,(Aa om).trans h.b2,(Aa om).trans h.b3,(Aa om).trans h.b4,(Aa om).trans h.b5,λq=>by rw[PC];exact h.fz q⟩
def Cp.eO{w wr}{d}{v0 v1 v2}(h:Cp w wr ia ic xa xc d v0 v1 v2)u:Cp w (wr.setCell (Y9 w 1) u) ia ic xa xc d v0 u v2:=
 ⟨h.below.setCell (by show _<=w.heap.size+1;omega) _,by simpa using h.sz,(Al om).trans h.a1,(Al om).trans h.a2,(Aa om).trans h.b0,I9 _ _ _<|by rw[h.b1];rfl,(Aa om).trans h.b2,(Aa om).trans h.b3,(Aa om).trans h.b4,(Aa om).trans h.b5,λq=>by rw[PC];exact h.fz q⟩
def Cp.eQ{w wr}{d}{v0 v1 v2}(h:Cp w wr ia ic xa xc d v0 v1 v2)u:Cp w (wr.setCell (Y9 w 2) u) ia ic xa xc d v0 v1 u:=
 ⟨h.below.setCell (by show _<=w.heap.size+1;omega) _,by simpa using h.sz,(Al om).trans h.a1,(Al om).trans h.a2,(Aa om).trans h.b0,(Aa om).trans h.b1,I9 _ _ _<|by rw[h.b2];rfl,(Aa om).trans h.b3,(Aa om).trans h.b4,(Aa om).trans h.b5,λq=>by rw[PC];exact h.fz q⟩
def Cx(w:Y)a v:w.grownBy (w.setCell a v)<|some a.block:=⟨rfl,rfl,rfl,oq,λk _ b=>At _ _ _ _ λe=>b<|by rw[e]⟩
def CO{w w':Y}{v:V9}(a:w.grownBy w' v.ownBlock)(b:∀q,v.ownBlock=some q->B<=q)(c:B<=w.heap.size):Below B w w':=
 ⟨a.os,a.tape,a.output,a.size,λk hk=>a.block k om λe=>oS<|b k e.symm⟩
def D7{w:Y}{base JY size}{v:V9}(h:w.ownsRow base e size v n xs)(hb:JY<=base):w.ownsRow JY e size v n xs:=by
 obtain⟨hl,h|⟨g,cap,cur,h1,h2,h3⟩⟩:=h
 .exact⟨hl,.inl h⟩
 exact⟨hl,.inr ⟨g,cap,cur,h1,GP hb h2,h3⟩⟩
def C0{w w':Y}{base size}{v:V9}(h:w.ownsRow base e size v n xs)(hs:w.heap.size<=w'.heap.size)(hq:∀q,base<=q->q<w.heap.size->w'.heap[q]?=w.heap[q]?):w'.ownsRow base e size v n xs:=by
 obtain⟨hl,h|⟨g,cap,cur,h1,h2,h3,h4⟩⟩:=h
 .exact⟨hl,.inl h⟩
 exact⟨hl,.inr ⟨g,cap,cur,h1,h2,(hq g h2 (E1.1 h3).1).trans h3,h4⟩⟩
structure iA (w:Y) (c:Nat) (v0 v1 v2:V9) (d:Dc):Prop where
 sz:c+1<=w.heap.size
 c0:w.cell? (G c 0)=some v0
 c1:w.cell? (G c 1)=some v1
 c2:w.cell? (G c 2)=some v2
 c3:w.cell? (G c 3)=some (J d.used)
 c4:w.cell? (G c 4)=some (J d.live)
 c5:w.cell? (G c 5)=some (J d.turns)
 fz:∀q,w.frozen? (G c q)=false
 log:BP w (c+1) v0 d.n d.L
 ints:Bo w (c+1) v1 d.m d.I
 index:Bo w (c+1) v2 d.x d.X
 ap:∀q,v1.ownBlock=some q->v2.ownBlock≠some q
def iA.ptr{w}{v0 v1 v2}{d}(h:iA w c v0 v1 v2 d):∃la lc ia ic xa xc,v0=.slice la d.n lc/\v1=.slice ia d.m ic/\v2=.slice xa d.x xc/\Hl w c 0 la lc ia ic xa xc d:=by
 rcases h.log.at,h.ints.at,h.index.at with⟨⟨la,lc,e0,a⟩,⟨ia,ic,e1,b⟩,⟨xa,xc,e2,e⟩⟩;subst e0 e1 e2;exact⟨la,lc,ia,ic,xa,xc,rfl,rfl,rfl,h.sz,h.c0,h.c1,h.c2,h.c3,h.c4,h.c5,a,b,e⟩
def OI lc{ia:Option Addr}ic{xa:Option Addr}xc{d}{w}(hD:Ea w la ia xa d)(hS:Small d):
  C9 45 #[Dv la lc ia ic xa xc d] w λe w'=>(∃c v v' o,e=.returned (Q9 c)/\c=w.heap.size+1/\iA w' c v v' o d)/\B9 w w':=by
 obtain⟨i0,hi,aq,ar,au⟩:=ON EF;obtain⟨j0,ji,U,V,Z⟩:=ON Np;obtain⟨hn,hm,hx⟩:=hS;obtain⟨hL,hI,hX⟩:=hD;have HX:=O hX;clear hX;have ae:B9 w<|(w.alloc<|.cells #[.slice la d.n lc,.slice ia d.m ic,.slice xa d.x xc,J d.used,J d.live,J d.turns] 103).alloc<|.cells #[N9,N9,N9,J d.used,J d.live,J d.turns] 103:=(n9).alloc oq _;have af:Hid<|Cp w ((w.alloc<|.cells #[.slice la d.n lc,.slice ia d.m ic,.slice xa d.x xc,J d.used,J d.live,J d.turns] 103).alloc<|.cells #[N9,N9,N9,J d.used,J d.live,J d.turns] 103) ia ic xa xc d N9 N9 N9:=
  O ⟨ae,oq,oe,oe,oe,oe,oe,oe,oe,oe,λq=>oe⟩
 clear ae;go_enter func45,ntmps45;go_wp2;go_loopw [21] (λi wr=>∃(k:Nat) (v:V9),k<=d.n/\i=J k/\Cp w wr ia ic xa xc d v N9 (N9)/\BP wr (w.heap.size+2) v k d.L) λi _=>d.n-(intOf i).toNat
 .exact⟨0,N9,om,rfl,af,NB _ _ _ _⟩
 clear af;obtain⟨k,v,hk,rfl,hc,r⟩:=hrel;by_cases s:k<d.n
 .obtain⟨b,off,rfl,E,hcs⟩:=hL.resolve_left om;rcases (hcs k s).keep (λq=>hc.below.cell E),O hc,O r with⟨⟨e0,e1,e2,e3,e4,e5,e6,e7,e8,e9,av⟩,t,S⟩;clear hcs hc r;go_wp2_with fail;obtain⟨W,A⟩:=o9<|wr.alloc<|.cells #[J (d.L k).key.kind,J (d.L k).key.num,F9 (d.L k).key.Af,.string (d.L k).key.str,J (d.L k).key.ref,J (d.L k).val.kind,J (d.L k).val.num,F9 (d.L k).val.Af,.string (d.L k).val.str,J (d.L k).val.ref,J (d.L k).turn] 166;rw[<-A];have x0:W.cell? (Y9 w 0)=some v:=by rw[A];exact(Hi _ _ _<|by have:=t.sz;show w.heap.size+1<_;omega).trans t.b0
  have p:=t.sz;have aw:W.heap.size=wr.heap.size+1:=by rw[A];simp
  have Q:=S.lt;have ax:Hid<|BP W.drew (w.heap.size+2) v k d.L:=O (by rw[A];exact(S.alloc _).drew);have ay:Cp w W ia ic xa xc d v N9<|N9:=by rw[A];exact t.same<|(BE _ _).alloc om _
  obtain⟨y0,y1,y2,y3,y4,y5,y6,y7,y8,y9,aM⟩:W.cell? (y wr 0)=some (J (d.L k).key.kind)/\W.cell? (y wr 1)=some (J (d.L k).key.num)/\W.cell? (y wr 2)=some (F9 (d.L k).key.Af)/\W.cell? (y wr 3)=some (.string (d.L k).key.str)/\W.cell? (y wr 4)=some (J (d.L k).key.ref)/\W.cell? (y wr 5)=some (J (d.L k).val.kind)/\W.cell? (y wr 6)=some (J (d.L k).val.num)/\W.cell? (y wr 7)=some (F9 (d.L k).val.Af)/\W.cell? (y wr 8)=some (.string (d.L k).val.str)/\W.cell? (y wr 9)=some (J (d.L k).val.ref)/\W.cell? (y wr 10)=some (J (d.L k).turn):=by rw[A];simp[go_sem]
  clear A t S e0 e1 e2 e3 e4 e5 e6 e7 e8 e9 av;have ag:w.heap.size+2<=W.heap.size:=om;have ah:w.heap.size+1<W.heap.size:=om;have F:=O Q;clear aw p Q
  go_region_law (refine To _ rfl (.tmp 29) (.tmp 31) 101 rfl (w.heap.size+2) 166 i0 PZ 11 104 underlying101 hi aq ar au rfl oo v k (pL d.L k) og (ax.alloc _) (y W 0) 1 1 (De<|d.L k) og rfl (Is<|DD _ _) (Ff _) oo od om ot _ rfl ?_;intro g3 j w3 f g H R;have l:=O<|ay.same<|((BE (w.heap.size+2) W).drew.alloc ot _).trans<|CO g (λq e=>(F q e).1) ot;have x3:=l.b0;have f3:=l.fz 0;have B:=O f;clear f g)
  all_goals
   have ai:=(B.lt g3 rfl).1;have h:BP (w3.setCell (Y9 w 0)<|S9 g3 (k+1) j) (w.heap.size+2) (S9 g3 (k+1) j) (k+1) d.L:=AaK B (Cx w3 _ _)<|.inr (by simp[Value.ownBlock];omega);have K:=O h;clear h;go_wp2;go_roundw
   .exact⟨k+1,S9 g3 (k+1) j,om,ov,l.pH _,K⟩
   exact ow
 have C:k=d.n:=om;subst C;rcases O hc,O r,hc.a1,hc.sz,o9 wr with⟨t,HP,q1,M,⟨u1,hu⟩⟩;rw[<-hu]at t HP q1 M ⊢;clear hc r hk s hu;go_wp2;go_loopw [39] (λi wr=>∃(k:Nat) (v':V9),k<=d.m/\i=J k/\Cp w wr ia ic xa xc d v v' (N9)/\Bo wr u1.heap.size v' k d.I/\u1.heap.size<=wr.heap.size/\∀q,w.heap.size+2<=q->q<u1.heap.size->wr.heap[q]?=u1.heap[q]?) λi _=>d.m-(intOf i).toNat
 .exact⟨0,N9,om,rfl,t,NB _ _ _ _,Be _,λ_ _ _=>rfl⟩
 clear t q1;obtain⟨k,v',hk,rfl,hc,r,p,a⟩:=hrel;by_cases s:k<d.m
 .obtain⟨b,off,rfl,E,hcs⟩:=hI.resolve_left om;rcases (hc.below.cell E).trans (hcs k s),hc.b1,hc.sz with⟨e0,x0,ag⟩;have ah:w.heap.size+1<wr.heap.size:=om;rcases O r.lt,O hc,O r,O a with⟨F,t,S,HK⟩;clear hcs hc r a;go_wp2_with (first|(at_builtin;refine RC _ rfl _ _ 91 rfl u1.heap.size 3 j0 (J 0) 1 8 underlying91 ji U V Z rfl oo v' k (iL d.I k) rfl (S.alloc _) (y wr 0) 1 1 [J (d.I k)] rfl rfl (Is<|DD _ _) oh oo od om ot _ rfl ?_;intro g3 j w3 f g H R;have D:=O<|((BE u1.heap.size wr).alloc p _).trans<|CO g (λq e=>(F q e).1) ot;have l:=O<|t.same<|D.mono M;have x3:=l.b1;have f3:=l.fz 1;have B:=O f;clear f g)|go_in);have ai:=(B.lt g3 rfl).1;have h:Bo (w3.setCell (Y9 w 1)<|S9 g3 (k+1) j) u1.heap.size (S9 g3 (k+1) j) (k+1) d.I:=AaK B (Cx w3 _ _)<|.inr (by simp[Value.ownBlock];omega);have K:=O h;clear h;go_roundw
  .exact⟨k+1,S9 g3 (k+1) j,om,ov,l.eO _,K,by have:=D.size;simp;omega,λq h1 h2=>(At _ _ _ _<|by show q≠w.heap.size+1;omega).trans<|(D.block q h2).trans<|HK q h1 h2⟩
  exact ow
 have C:k=d.m:=om;subst C;rcases C0 HP p a,O<|D7 r M,O hc,hc.a2,hc.sz,o9 wr with⟨T,HQ,t,q1,P,⟨u2,hu⟩⟩;rw[<-hu]at t T HQ q1 P ⊢;clear hc r hk s hu p a HP M;go_wp2;go_loopw [57] (λi wr=>∃(k:Nat) (o:V9),k<=d.x/\i=J k/\Cp w wr ia ic xa xc d v v' o/\Bo wr u2.heap.size o k d.X/\u2.heap.size<=wr.heap.size/\∀q,w.heap.size+2<=q->q<u2.heap.size->wr.heap[q]?=u2.heap[q]?) λi _=>d.x-(intOf i).toNat
 .exact⟨0,N9,om,rfl,t,NB _ _ _ _,Be _,λ_ _ _=>rfl⟩
 clear t q1;obtain⟨k,o,hk,rfl,hc,r,p,a⟩:=hrel;by_cases s:k<d.x
 .obtain⟨b,off,rfl,E,hcs⟩:=HX.resolve_left om;rcases (hc.below.cell E).trans (hcs k s),hc.b2,hc.sz with⟨e0,x0,ag⟩;have ah:w.heap.size+1<wr.heap.size:=om;rcases O r.lt,O hc,O r,O a with⟨F,t,S,HK⟩;clear hcs hc r a;go_wp2_with (first|(at_builtin;refine RC _ rfl _ _ 91 rfl u2.heap.size 3 j0 (J 0) 1 8 underlying91 ji U V Z rfl oo o k (iL d.X k) rfl (S.alloc _) (y wr 0) 1 1 [J (d.X k)] rfl rfl (Is<|DD _ _) oh oo od om ot _ rfl ?_;intro g3 j w3 f g H R;have D:=O<|((BE u2.heap.size wr).alloc p _).trans<|CO g (λq e=>(F q e).1) ot;have l:=O<|t.same<|D.mono P;have x3:=l.b2;have f3:=l.fz 2;have B:=O f;clear f g)|go_in);have ai:=(B.lt g3 rfl).1;have h:Bo (w3.setCell (Y9 w 2)<|S9 g3 (k+1) j) u2.heap.size (S9 g3 (k+1) j) (k+1) d.X:=AaK B (Cx w3 _ _)<|.inr (by simp[Value.ownBlock];omega);have K:=O h;clear h;go_roundw
  .exact⟨k+1,S9 g3 (k+1) j,om,ov,l.eQ _,K,by have:=D.size;simp;omega,λq h1 h2=>(At _ _ _ _<|by show q≠w.heap.size+1;omega).trans<|(D.block q h2).trans<|HK q h1 h2⟩
  exact ow
 have C:k=d.x:=om;subst C;rcases C0 T p a,C0 HQ p a,D7 r P with⟨aj,ak,ao⟩;have az:Hid<|∀q,v'.ownBlock=some q->o.ownBlock≠some q:=O (λq e e'=>by have h1:=(HQ.lt q e).2;have h2:=(r.lt q e').1;omega);have ad:=O (⟨hc,aj,ak,ao⟩:Cp w wr ia ic xa xc d v v' o/\BP wr (w.heap.size+2) v d.n d.L/\Bo wr (w.heap.size+2) v' d.m d.I/\Bo wr (w.heap.size+2) o d.x d.X);clear hc r hk s p a T HQ P aj ak ao;go_wp2;go_ret;obtain⟨hc,hP,hQ,hX⟩:=z ad;exact⟨⟨_,v,v',o,rfl,rfl,hc.sz,hc.b0,hc.b1,hc.b2,hc.b3,hc.b4,hc.b5,hc.fz,hP,hQ,hX,az⟩,hc.below⟩
abbrev Pc(c o:Nat):Value:=.pointer<|some<|G c o
def Ub{d}{w}(hD:Hl w c o la lc ia ic xa xc d)(f:Small d):
  C9 120 #[Pc c o] w (R9 (.bool<|tells<|D1 d) w):=by
 rcases f.n,hD.c0,hD.c4,hD.c5,hD.lt with⟨hn,c0,c4,c5,g⟩;clear hD f;by_cases h1:d.live<0
 .have a:=O<|Ae (p:=D1 d) (λh=>by unfold D1 at h;omega);go_enter func120,ntmps120;go_wp2;go_ret;exact⟨qg a,BE _ _⟩
 by_cases h2:500<d.live
 .have a:=O<|Ae (p:=D1 d) (λh=>by unfold D1 at h;omega);go_enter func120,ntmps120;go_wp2;go_ret;exact⟨qg a,BE _ _⟩
 by_cases h3:d.turns<0
 .have a:=O<|Ae (p:=D1 d) (λh=>by unfold D1 at h;omega);go_enter func120,ntmps120;go_wp2;go_ret;exact⟨qg a,BE _ _⟩
 by_cases h4:1000000000000<d.turns
 .have a:=O<|Ae (p:=D1 d) (λh=>by unfold D1 at h;omega);go_enter func120,ntmps120;go_wp2;go_ret;exact⟨qg a,BE _ _⟩
 by_cases h5:(d.n:Int)<=8
 .have a:=O<|Aj (p:=D1 d) ⟨om,om,om,om,.inl h5⟩;have i:decide ((d.n:Int)<=8)=true:=by simp[h5]
  go_enter func120,ntmps120;go_wp2;go_quiet (fail);go_wp2;go_ret;exact⟨qg a,AH (BE _ _) _⟩
 have i:decide ((d.n:Int)<=8)=false:=by simp[h5]
 have j:IntKind.i64.wrap (2*d.live)=2*d.live:=oj;by_cases b:(d.n:Int)<=2*d.live
 focus
  have a:=O<|Aj (p:=D1 d) ⟨om,om,om,om,.inr b⟩;have e:decide ((d.n:Int)<=2*d.live)=true:=by simp[b]
 rotate_left
 focus
  have a:=O<|Ae (p:=D1 d) (λh=>by unfold D1 at h;omega);have e:decide ((d.n:Int)<=2*d.live)=false:=by simp[b]
 all_goals
  go_enter func120,ntmps120;go_wp2;go_quiet (fail);go_wp2;go_ret;exact⟨qg a,AH (BE _ _) _⟩
def OM v w:
  C9 126 #[V v.kind v.num v.Af v.str v.ref] w (R9 (.bool<|DH v) w):=by
 by_cases h:v.kind=0
 .have hk:(v.kind==0)=true:=by simp[h]
  have a:Hid<|DH v=v.ok:=O (by unfold DH;rw[hk];rfl);clear h;go_enter func126,ntmps126;go_wp2_with (go_at_call 81;refine m9 (Bq v.kind v.num v.Af v.str v.ref _) λw1 hb=>?_);go_ret;exact⟨qg a,(n9).trans<|hb.mono oq⟩
 have hk:(v.kind==0)=false:=by simp[h]
 have a:Hid<|DH v=false:=O (by unfold DH;rw[hk];rfl);clear h;go_enter func126,ntmps126;go_wp2;go_ret;exact⟨qg a,n9⟩
def OG v:(Cc v=true/\KQ v.kind v.num v.Af v.str v.ref=KV 0 v.kind v.num v.Af v.str v.ref)\/(Cc v=false/\∃c k n f t r,KQ v.kind v.num v.Af v.str v.ref=KV c k n f t r/\(c≠0\/(v.kind=3/\k=2))):=by
 unfold KQ Cc Vl.ok;by_cases d:A8 v.kind v.num v.Af v.str v.ref=true
 .rw[d];by_cases a:v.kind=0
  .rw[C3 a];right;exact⟨by simp[a],1,0,0,0,⟨#[]⟩,0,rfl,.inl oo⟩
  rw[Cs a];by_cases h3:v.kind=3
  .rw[C3 h3];by_cases hn:DU v.Af=true
   .rw[C3 hn];right;exact⟨by simp[h3,hn],1,0,0,0,⟨#[]⟩,0,rfl,.inl oo⟩
   rw[Cs hn];by_cases b:Cn v.Af=true
   .rw[C3 b];right;exact⟨by simp[h3,b],0,2,MU v.Af,0,⟨#[]⟩,0,rfl,.inr ⟨h3,rfl⟩⟩
   rw[Cs b];left;exact⟨by simp[h3,hn,b],rfl⟩
  rw[Cs h3];left;exact⟨by simp[a,h3],rfl⟩
 rw[Cs d];right;have:A8 v.kind v.num v.Af v.str v.ref=false:=by simpa using d
 exact⟨qh this,2,0,0,0,⟨#[]⟩,0,rfl,.inl oo⟩
def JD v w:
  C9 152 #[V v.kind v.num v.Af v.str v.ref] w (R9 (.bool<|Cc v) w):=by
 rcases OG v with⟨hk,b⟩|⟨hk,c,k,n,f,t,r,b,hc⟩
 .have e:=O b;have HK:=O hk;clear hk b;go_enter func152,ntmps152;go_wp2_with (go_at_call 48;refine m9 (Hf v.kind v.num v.Af v.str v.ref _) λw1 hb=>?_;rw[z e];obtain⟨hc,hf⟩:=AM hb;have hz:=hb.size;simp at hz;have d:w.heap.size<w1.heap.size:=om);go_ret;exact⟨by rw[z HK];simp,((n9).trans<|hb.mono oq).alloc om _⟩
 have e:=O b;have HK:=O hk;clear hk b;rcases hc with hc|⟨h3,rfl⟩
 focus
  have g:(c==0)=false:=by simp[hc]
  clear hc
 rotate_left
 focus
  have h:((2:Int)==v.kind)=false:=qh h3
  clear h3;by_cases a:c=0
  .subst a;go_enter func152,ntmps152;go_wp2_with (go_at_call 48;refine m9 (Hf v.kind v.num v.Af v.str v.ref _) λw1 hb=>?_;rw[z e];obtain⟨hc,hf⟩:=AM hb;have hz:=hb.size;simp at hz;have d:w.heap.size<w1.heap.size:=om);go_ret;exact⟨by rw[z HK];simp,((n9).trans<|hb.mono oq).alloc om _⟩
  have g:(c==0)=false:=by simp[a]
  clear a
 all_goals
  go_enter func152,ntmps152;go_wp2_with (go_at_call 48;refine m9 (Hf v.kind v.num v.Af v.str v.ref _) λw1 hb=>?_;rw[z e];obtain⟨hc,hf⟩:=AM hb;have hz:=hb.size;simp at hz;have d:w.heap.size<w1.heap.size:=om);go_ret;exact⟨qg HK,((n9).trans<|hb.mono oq).alloc om _⟩
def F5{d}(h:CZ d k=some (live,last))(a:(d.L k).turn=0):CZ d (k+1)=if DH (d.L k).key&&DH (d.L k).val then some (live,last)else none:=by
 grind [CZ,DH]
def F6{d}(h:CZ d k=some (live,last))(a:(d.L k).turn≠0):CZ d (k+1)=if EI d.turns last (d.L k)then some (live+1,(d.L k).turn)else none:=by
 grind [CZ,EI]
def EY{d}(hk:k<d.n)(h:CZ d (k+1)=none):tells (D2 d)=false:=Ae λ⟨l,e⟩=>by rw[MF h om]at e;cases e
def T8{d}{w}(hD:Hl w c o la lc ia ic xa xc d)(hS:Small d):
  C9 121 #[Pc c o] w (R9 (.bool<|tells<|D2 d) w):=by
 rcases hS.n,hD.c0,hD.lt,O hD with⟨hn,c0,ah,HD⟩;clear hD hS;go_enter func121,ntmps121;go_wp2;go_loopw [3,4,12] (λl li i wr=>∃(k:Nat) (live last:Int),k<=d.n/\i=J k/\l=J last/\li=J live/\CZ d k=some (live,last)/\0<=live/\live<=k/\B9 w wr) λ_ _ i _=>d.n-(intOf i).toNat
 .exact⟨0,0,0,om,rfl,rfl,rfl,rfl,om,om,BE _ _⟩
 clear c0;obtain⟨k,live,last,hk,rfl,rfl,rfl,E,U,ai,hb⟩:=hrel;have hD:=HD.below hb;rcases hD.c4,hD.c5,hD.lt,O E with⟨c4,c5,V,C⟩;clear hD E;by_cases s:k<d.n
 case neg=>
  have Q:k=d.n:=om;subst Q;have F:=O hb;clear hb;by_cases M:live=d.live
  .have r:=O<|Aj (p:=D2 d) ⟨last,by rw[<-M];exact C⟩;have X:(live==d.live)=true:=by simp[M]
   clear M;go_wp2;go_ret;exact⟨by rw[z r];simp,F⟩
  have r:=O<|Ae (p:=D2 d) (λ⟨l,e⟩=>by rw[z C]at e;simp only[Option.some.injEq,Prod.mk.injEq]at e;exact M e.1);have X:(live==d.live)=false:=by simp[M]
  clear M;go_wp2;go_ret;exact⟨by rw[z r];simp,F⟩
 obtain⟨b,off,rfl,R,hcs⟩:=HD.rows.log.resolve_left om;rcases (hcs k s).keep (λq=>hb.cell R),hb.size,O hb with⟨⟨e0,e1,e2,e3,e4,e5,e6,e7,e8,e9,S⟩,aj,F⟩;clear hcs hb;by_cases P:(d.L k).turn=0
 .have B:=O<|F5 C P;rw[P]at S;clear P;go_wp2_with fail;refine m9 (OM (d.L k).key _) λw1 x=>?_;obtain⟨u,Z⟩:=AM x;have ad:=x.size;simp at ad;have ak:wr.heap.size<w1.heap.size:=om;have A:=(F.alloc F.size _).trans<|x.mono ot;have H:=O A;cases I:DH (d.L k).key
  .have r:=O<|EY s<|B.trans<|qh I;clear x A;go_wp2_with fail;go_ret;exact⟨qg r,H⟩
  have d5:w1.cell? (y wr 5)=some (J (d.L k).val.kind):=by rw[u _ _ oq];simp[go_sem]
  have d6:w1.cell? (y wr 6)=some (J (d.L k).val.num):=by rw[u _ _ oq];simp[go_sem]
  have d7:w1.cell? (y wr 7)=some (F9 (d.L k).val.Af):=by rw[u _ _ oq];simp[go_sem]
  have d8:w1.cell? (y wr 8)=some (.string (d.L k).val.str):=by rw[u _ _ oq];simp[go_sem]
  have d9:w1.cell? (y wr 9)=some (J (d.L k).val.ref):=by rw[u _ _ oq];simp[go_sem]
  clear x A u Z;go_wp2_with fail;refine m9 (OM (d.L k).val _) λw2 a=>?_;have j:=O<|o8 H a;clear a;cases Dt:DH (d.L k).val
  .have r:=O<|EY s<|B.trans (by rw[I,Dt];rfl);go_wp2_with fail;go_ret;exact⟨qg r,j⟩
  have r:=O (B.trans (by rw[I,Dt];rfl):CZ d (k+1)=some (live,last));go_wp2_with fail;go_roundw
  .exact⟨k+1,live,last,om,ov,rfl,rfl,r,U,om,j⟩
  exact ow
 have B:=O<|F6 C P;have ao:((d.L k).turn==0)=false:=by simp[P]
 clear P;go_wp2_with fail;obtain⟨W,t⟩:=o9<|wr.alloc<|.cells #[J (d.L k).key.kind,J (d.L k).key.num,F9 (d.L k).key.Af,.string (d.L k).key.str,J (d.L k).key.ref,J (d.L k).val.kind,J (d.L k).val.num,F9 (d.L k).val.Af,.string (d.L k).val.str,J (d.L k).val.ref,J (d.L k).turn] 166;rw[<-t];have y0:W.cell? (y wr 0)=some (J (d.L k).key.kind):=by rw[t];simp[go_sem]
 obtain⟨y1,y2,y3,y4,y5,y6,y7,y8,y9,T⟩:W.cell? (y wr 1)=some (J (d.L k).key.num)/\W.cell? (y wr 2)=some (F9 (d.L k).key.Af)/\W.cell? (y wr 3)=some (.string (d.L k).key.str)/\W.cell? (y wr 4)=some (J (d.L k).key.ref)/\W.cell? (y wr 5)=some (J (d.L k).val.kind)/\W.cell? (y wr 6)=some (J (d.L k).val.num)/\W.cell? (y wr 7)=some (F9 (d.L k).val.Af)/\W.cell? (y wr 8)=some (.string (d.L k).val.str)/\W.cell? (y wr 9)=some (J (d.L k).val.ref)/\W.cell? (y wr 10)=some (J (d.L k).turn):=by rw[t];simp[go_sem]
 have m:Hid<|B9 w W:=O (by rw[t];exact F.alloc F.size _);have ae:wr.heap.size<W.heap.size:=by rw[t];simp
 have aq:c<W.heap.size:=om;have z5:W.cell? (G c<|o+5)=some (J d.turns):=by rw[t];exact(Hi _ _ _<|by exact V).trans c5
 clear t e0 e1 e2 e3 e4 e5 e6 e7 e8 e9 S c4 c5 R F;by_cases t1:(d.L k).turn<=last
 .have r:=O<|EY s<|B.trans<|Cs (by unfold EI;simp;intros;omega);have hd:decide ((d.L k).turn<=last)=true:=by simp[t1]
  clear t1;refine qr W ?_;(iterate 5 refine N (h:=?_));iterate 7 (go_big_quiet_step (fail))
  refine N (h:=N (h:=?_));iterate 4 (go_big_quiet_step (fail))
  refine N (h:=N (h:=?_));iterate 4 (go_big_quiet_step (fail))
  refine N (h:=N (h:=?_));iterate 4 (go_big_quiet_step (fail))
  refine N (h:=?_);refine GS ?_;intro w2 g;have a:=o8 m g;have j:=O a;clear g a;go_wp2;go_ret;exact⟨qg r,j⟩
 have hd:decide ((d.L k).turn<=last)=false:=ot;by_cases t2:d.turns<(d.L k).turn
 .have r:=O<|EY s<|B.trans<|Cs (by unfold EI;simp;intros;omega);have af:decide (d.turns<(d.L k).turn)=true:=by simp[t2]
  clear t1 t2;refine qr W ?_;(iterate 12 refine N (h:=?_));refine N (h:=N (h:=?_));iterate 4 (go_big_quiet_step (fail))
  refine N (h:=N (h:=?_));iterate 4 (go_big_quiet_step (fail))
  refine N (h:=N (h:=?_));iterate 4 (go_big_quiet_step (fail))
  refine N (h:=?_);refine GS ?_;intro w2 g;have a:=o8 m g;have j:=O a;clear g a;go_wp2;go_ret;exact⟨qg r,j⟩
 have af:decide (d.turns<(d.L k).turn)=false:=ot;cases t3:Cc (d.L k).key
 .have r:=O<|EY s<|B.trans<|Cs (by unfold EI;simp[t3]);clear t1 t2;refine qr W ?_;(iterate 12 refine N (h:=?_));(iterate 4 refine N (h:=?_));refine GC λK hK=>?_;go_simp;apply Exists.intro;refine qj (λw' f=>?_)<|hK _ ?_
  .refine(t3▸JD (d.L k).key _).mono ?_;rintro e v ⟨rfl,hb⟩;exact⟨rfl,o8 f hb⟩
  clear hK K;refine N (h:=N (h:=N (h:=?_)));iterate 4 (go_big_quiet_step (fail))
  refine N (h:=N (h:=?_));iterate 4 (go_big_quiet_step (fail))
  refine N (h:=?_);refine GS ?_;intro w2 g;have a:=o8 m g;have j:=O a;clear g a;go_wp2;go_ret;exact⟨qg r,j⟩
 cases t4:(d.L k).val.ok
 .have r:=O<|EY s<|B.trans<|Cs (by unfold EI;simp[t4]);have D:A8 (d.L k).val.kind (d.L k).val.num (d.L k).val.Af (d.L k).val.str (d.L k).val.ref=false:=t4;clear t1 t2;refine qr W ?_;(iterate 12 refine N (h:=?_));(iterate 4 refine N (h:=?_));refine GC λK hK=>?_;go_simp;apply Exists.intro;refine qj (λw' f=>?_)<|hK _ ?_
  .refine(t3▸JD (d.L k).key _).mono ?_;rintro e v ⟨rfl,hb⟩;exact⟨rfl,o8 f hb⟩
  clear hK K;(iterate 5 refine N (h:=?_));refine GC λK hK=>?_;go_simp;apply Exists.intro;refine qj (λw' f=>?_)<|hK _ ?_
  .refine(D▸Bq (d.L k).val.kind (d.L k).val.num (d.L k).val.Af (d.L k).val.str (d.L k).val.ref _).mono ?_;rintro e v ⟨rfl,hb⟩;exact⟨rfl,o8 f hb⟩
  clear hK K;refine N (h:=N (h:=N (h:=?_)));iterate 4 (go_big_quiet_step (fail))
  refine N (h:=?_);refine GS ?_;intro w2 g;have a:=o8 m g;have j:=O a;clear g a;go_wp2;go_ret;exact⟨qg r,j⟩
 have D:A8 (d.L k).val.kind (d.L k).val.num (d.L k).val.Af (d.L k).val.str (d.L k).val.ref=true:=t4;by_cases t5:(d.L k).val.kind=0
 .have r:=O<|EY s<|B.trans<|Cs (by unfold EI;simp[t5]);have ag:((d.L k).val.kind==0)=true:=by simp[t5]
  clear t1 t2 t5;refine qr W ?_;(iterate 12 refine N (h:=?_));(iterate 4 refine N (h:=?_));refine GC λK hK=>?_;go_simp;apply Exists.intro;refine qj (λw' f=>?_)<|hK _ ?_
  .refine(t3▸JD (d.L k).key _).mono ?_;rintro e v ⟨rfl,hb⟩;exact⟨rfl,o8 f hb⟩
  clear hK K;(iterate 5 refine N (h:=?_));refine GC λK hK=>?_;go_simp;apply Exists.intro;refine qj (λw' f=>?_)<|hK _ ?_
  .refine(D▸Bq (d.L k).val.kind (d.L k).val.num (d.L k).val.Af (d.L k).val.str (d.L k).val.ref _).mono ?_;rintro e v ⟨rfl,hb⟩;exact⟨rfl,o8 f hb⟩
  clear hK K;(iterate 8 refine N (h:=?_));refine GS ?_;intro w2 g;have a:=o8 m g;have j:=O a;clear g a;go_wp2;go_ret;exact⟨qg r,j⟩
 have r:=O<|B.trans<|C3 (by unfold EI;simp[t3,t4,t5];omega);have ag:((d.L k).val.kind==0)=false:=by simp[t5]
 clear t1 t2 t5;refine qr W ?_;(iterate 12 refine N (h:=?_));(iterate 4 refine N (h:=?_));refine GC λK hK=>?_;go_simp;apply Exists.intro;refine qj (λw' f=>?_)<|hK _ ?_
 .refine(t3▸JD (d.L k).key _).mono ?_;rintro e v ⟨rfl,hb⟩;exact⟨rfl,o8 f hb⟩
 clear hK K;(iterate 5 refine N (h:=?_));refine GC λK hK=>?_;go_simp;apply Exists.intro;refine qj (λw' f=>?_)<|hK _ ?_
 .refine(D▸Bq (d.L k).val.kind (d.L k).val.num (d.L k).val.Af (d.L k).val.str (d.L k).val.ref _).mono ?_;rintro e v ⟨rfl,hb⟩;exact⟨rfl,o8 f hb⟩
 clear hK K;(iterate 8 refine N (h:=?_));refine GS ?_;intro w2 g;have a:=o8 m g;have ar:=oT g ae T;have j:=O a;clear g a y0 y1 y2 y3 y4 y5 y6 y7 y8 y9 T;go_wp2;go_roundw
 .exact⟨k+1,live+1,(d.L k).turn,om,ov,rfl,ov,r,om,om,j⟩
 exact ow
def Ks{d}(hk:k<d.m)(h:¬Fu d k):tells (D3 d)=false:=Ae λh'=>h<|h'.1 k hk
def Sb{d}{w}(hD:Hl w c o la lc ia ic xa xc d)(H:Small d):
  C9 122 #[Pc c o] w (R9 (.bool<|tells<|D3 d) w):=by
 rcases H.n,H.m,hD.c1,O hD with⟨hn,X,c1,F⟩;clear hD H;go_enter func122,ntmps122;go_wp2;go_loopw [11] (λi wr=>∃(k:Nat),k<=d.m/\i=J k/\(∀j,j<k->Fu d j)/\B9 w wr) λi _=>d.m-(intOf i).toNat
 .exact⟨0,om,rfl,λj hj=>om,BE _ _⟩
 clear c1;obtain⟨k,hk,rfl,t,hb⟩:=hrel;have hD:=F.below hb;rcases hD.c0,hD.c1,O t with⟨c0,c1,g⟩;clear hD t;by_cases r:k<d.m
 case neg=>
  have B:k=d.m:=om;subst B;by_cases a:d.m=0
  .have l:=O<|Aj (p:=D3 d) ⟨g,.inl a⟩;have v:((d.m:Int)==0)=true:=by simp[a]
   have f:=O hb;clear hb a;go_wp2_with fail;go_quiet (fail);go_wp2;go_ret;exact⟨qg l,AH f _⟩
  have v:((d.m:Int)==0)=false:=ot;obtain⟨q,hq⟩:∃q,d.m=q+1:=⟨d.m-1,om⟩;obtain⟨b,off,rfl,x,hcs⟩:=F.rows.ints.resolve_left a;have e0:=(hb.cell x).trans<|hcs q om;have T:IntKind.i64.wrap ((d.m:Int)-1)=(q:Int):=oj;have U:q<d.m:=om;have f:=O hb;clear hcs hb;by_cases hp:0<d.I q
  focus
   have l:=O<|Aj (p:=D3 d) ⟨g,.inr<|by rw[hq];exact hp⟩;have V:decide (0<d.I q)=true:=by simp[hp]
  rotate_left
  focus
   have l:=O (Ae (p:=D3 d) (λh=>by
    rcases h.2 with h|h
    .exact a h
    rw[hq]at h;exact hp h))
   have V:decide (0<d.I q)=false:=ot
  all_goals
   have K:=O hq;clear hp hq a;go_wp2_with fail;go_quiet (fail);go_wp2;go_ret;exact⟨qg l,AH f _⟩
 obtain⟨b,off,rfl,x,hcs⟩:=F.rows.ints.resolve_left om;have e0:=(hb.cell x).trans<|hcs k r;clear hcs;by_cases a:d.I k=0
 .have f:=O hb;have M:Fu d k:=.inl a;rw[a]at e0;clear hb a;go_wp2;go_roundw
  .exact⟨k+1,om,ov,λj hj=>(by by_cases e:j=k;exact e▸z M;exact g j om),f⟩
  exact ow
 have v:(d.I k==0)=false:=by simp[a]
 by_cases h1:d.I k<0
 .have l:=O<|Ks r (λh=>by rcases h with h|h;exact a h;omega);have f:=O hb;clear hb a;go_wp2;go_ret;exact⟨qg l,f⟩
 by_cases h2:(d.n:Int)<d.I k
 .have l:=O<|Ks r (λh=>by rcases h with h|h;exact a h;omega);have f:=O hb;clear hb a;go_wp2;go_ret;exact⟨qg l,f⟩
 obtain⟨q,hq⟩:∃q:Nat,d.I k=(q:Int)+1:=⟨(d.I k-1).toNat,om⟩;have P:q<d.n:=om;obtain⟨lb,lo,rfl,Q,C⟩:=F.rows.log.resolve_left om;obtain⟨e1,e2,e3,Z,e5,_,_,_,_,_,R⟩:=(C q P).keep λq=>hb.cell Q;have A:Hid<|d.at (d.I k)=d.L q:=O (by unfold Dc.at;rw[hq];congr 1;omega);have f:=O hb;rw[hq]at e0;have g0:((q:Int)+1==0)=false:=ot;have g1:¬(q:Int)+1<0:=om;have g2:¬(d.n:Int)<(q:Int)+1:=om;have K:=O hq;have S:=O a;clear C hb a h1 h2 v hq;by_cases u:(d.L q).turn=0
 .have l:=O<|Ks r (λh=>by rcases h with h|h;exact S h;rw[z A]at h;exact h.2.2.1 u);rw[u]at R;clear u;go_wp2;go_ret;exact⟨qg l,f⟩
 have W:((d.L q).turn==0)=false:=by simp[u]
 have hw:IntKind.i64.wrap ((k:Int)+1)=(k:Int)+1:=oj;by_cases Dt:(d.L q).key.kind=2
 case neg=>
  have l:=O<|Ks r (λh=>by rcases h with h|h;exact S h;rw[z A]at h;exact Dt h.2.2.2.1);have D:((d.L q).key.kind !=2)=true:=by simp[Dt]
  clear Dt u;go_wp2;go_ret;exact⟨qg l,f.alloc f.size _⟩
 have D:((d.L q).key.kind !=2)=false:=by simp[Dt]
 by_cases s:(d.L q).key.num=(k:Int)+1
 case neg=>
  have l:=O<|Ks r (λh=>by rcases h with h|h;exact S h;rw[z A]at h;exact s h.2.2.2.2);have E:((d.L q).key.num !=(k:Int)+1)=true:=by simp[s]
  clear Dt u s;go_wp2;go_ret;exact⟨qg l,f.alloc f.size _⟩
 have M:Fu d k:=.inr ⟨by rw[z K];omega,by rw[z K];omega,by rw[z A];exact u,by rw[z A];exact Dt,by rw[z A];exact s⟩;have E:((d.L q).key.num !=(k:Int)+1)=false:=by simp[s]
 clear Dt u s;go_wp2;go_roundw
 .exact⟨k+1,om,ov,λj hj=>(by by_cases e:j=k;exact e▸z M;exact g j om),f.alloc f.size _⟩
 exact ow
def Gw{d}v{w}(hD:Hl w c o la lc ia ic xa xc d)(g:Small d):
  C9 129 #[Pc c o,V v.kind v.num v.Af v.str v.ref] w (R9 (.bool<|tells<|Ay d.m v) w):=by
 rcases g.m,hD.c1,hD.lt with⟨j,c1,i⟩;clear hD g;by_cases h1:v.kind=2
 case neg=>
  have a:=O<|Ae (p:=Ay d.m v) λh=>h1 h.1;have b:(v.kind==2)=false:=by simp[h1]
  clear h1;go_enter func129,ntmps129;go_wp2;go_quiet (fail);go_wp2;go_ret;exact⟨qg a,AH n9 _⟩
 have b:(v.kind==2)=true:=by simp[h1]
 by_cases h2:1<=v.num
 case neg=>
  have a:=O<|Ae (p:=Ay d.m v) λh=>h2 h.2.1;have e:decide (1<=v.num)=false:=by simp[h2]
  clear h1 h2;go_enter func129,ntmps129;go_wp2;go_quiet (fail);go_wp2;go_ret;exact⟨qg a,AH n9 _⟩
 have e:decide (1<=v.num)=true:=by simp[h2]
 by_cases h3:v.num<=(d.m:Int)
 focus
  have a:=O<|Aj (p:=Ay d.m v) ⟨h1,h2,h3⟩;have f:decide (v.num<=(d.m:Int))=true:=by simp[h3]
 rotate_left
 focus
  have a:=O<|Ae (p:=Ay d.m v) λh=>h3 h.2.2;have f:decide (v.num<=(d.m:Int))=false:=by simp[h3]
 all_goals
  clear h1 h2 h3;go_enter func129,ntmps129;go_wp2;go_quiet (fail);go_wp2;go_ret;exact⟨qg a,AH n9 _⟩
def Entry(d:Dc)(i:Nat):Prop:=((d.L i).turn=0/\DH (d.L i).key=true/\DH (d.L i).val=true)\/(0<(d.L i).turn/\(d.L i).turn<=d.turns/\Cc (d.L i).key=true/\(d.L i).val.ok=true/\(d.L i).val.kind≠0)
def Qi{d}:∀(k) {live last:Int},CZ d k=some (live,last)->0<=last/\∀i,i<k->Entry d i:=by
 intro k
 induction k with
 |zero=>intro live last h;simp[CZ]at h;exact⟨om,λi hi=>om⟩
 |succ k ih=>
  intro live last h;cases hk:CZ d k with
  |none=>rw[MF hk om]at h;cases h
  |some x=>
   obtain⟨b,i2⟩:=ih hk;by_cases a:(d.L k).turn=0
   .rw[F5 hk a]at h;split at h
    .next hn=>
     simp only[Option.some.injEq,Prod.mk.injEq]at h;refine⟨om,λi hi=>?_⟩;by_cases e:i=k
     .subst e;left;simpa[a]using hn
     exact i2 i om
    cases h
   rw[F6 hk a]at h;split at h
   .next hn=>
    simp only[Option.some.injEq,Prod.mk.injEq]at h;unfold EI at hn;simp at hn;refine⟨om,λi hi=>?_⟩;by_cases e:i=k
    .subst e;right;exact⟨om,hn.1.1.1.2,hn.1.1.2,hn.1.2,hn.2⟩
    exact i2 i om
   cases h
def D2.entry{d}(h:D2 d){i}(hi:i<d.n):Entry d i:=by
 obtain⟨l,e⟩:=h;exact(Qi d.n e).2 i hi
theorem D2.pos{d}(h:D2 d){i}(hi:i<d.n)(a:(d.L i).turn≠0):0<(d.L i).turn/\Cc (d.L i).key=true:=by
 rcases h.entry hi with h|h;all_goals grind [D2]
def AP(d:Dc)(i:Nat):Prop:=0<(d.L i).turn/\¬Ay d.m (d.L i).key
def Fb{d}q{w}(hD:Hl w c o la lc ia ic xa xc d)(f:Small d)(hq:q<d.n):
  C9 153 #[Pc c o,J q] w (R9 (.bool<|tells<|AP d q) w):=by
 have c0:=hD.c0;obtain⟨b,off,rfl,g,a⟩:=hD.rows.log.resolve_left om;rcases a q hq,O hD,O f with⟨⟨e0,e1,e2,e3,t,u,v,x,A,B,i⟩,j,k⟩;clear hD f a;by_cases h1:0<(d.L q).turn
 case neg=>
  have l:=O<|Ae (p:=AP d q) λh=>h1 h.1;have e:decide (0<(d.L q).turn)=false:=ot;clear h1;go_enter func153,ntmps153;go_wp2;go_ret;exact⟨qg l,n9⟩
 have e:decide (0<(d.L q).turn)=true:=by simp[h1]
 have r:Hid<|tells (AP d q)=!tells (Ay d.m (d.L q).key):=O (by
  by_cases hs:Ay d.m (d.L q).key
  .rw[Aj hs,Ae (λh=>h.2 hs)];rfl
  rw[Ae hs,Aj ⟨h1,hs⟩];rfl)
 clear h1;go_enter func153,ntmps153;go_wp2_with fail;refine m9 (Gw (d.L q).key (j.below n9) k) λw1 hb=>?_;have s:=O hb;clear hb;go_wp2;go_ret;exact⟨by rw[z r];simp,(n9).trans<|s.mono oq⟩
def Zq(h:1<=a):GY (2*a)↔GY a:=by
 constructor
 .rintro⟨k,hk⟩;cases k with
  |zero=>simp at hk;omega
  |succ k=>exact⟨k,by rw[Aax]at hk;omega⟩
 rintro⟨k,hk⟩;exact⟨k+1,by rw[hk];omega⟩
def dV(h:1<a)(b:a%2≠0):¬GY a:=by
 rintro⟨k,hk⟩;cases k with
 |zero=>simp at hk;omega
 |succ k=>rw[Aax]at hk;omega
def dW:GY 1:=⟨0,rfl⟩
def Rr d k:BT d k<=k:=by
 induction k with
 |zero=>exact Be _
 |succ k ih=>unfold BT;split<;>omega
def Gr(x:Nat):Prop:=x=0\/(8<=x/\x<=4000/\GY x)
def Pa{d}(hk:k<d.x)(h:¬Ga d k):tells (D4 d)=false:=Ae λh'=>h<|h'.2.1 k hk
def Nu{d}(h:¬Gr d.x):tells (D4 d)=false:=Ae λh'=>h h'.1
def Qd{d}{w}(hD:Hl w c o la lc ia ic xa xc d)(S:Small d)(h2:D2 d):
  C9 123 #[Pc c o] w (R9 (.bool<|tells<|D4 d) w):=by
 rcases S.n,S.x,hD.c2,hD.lt,O hD,O h2 with⟨hn,hx,c2,aq,H,H2⟩;clear hD h2;by_cases s1:0<d.x/\d.x<8
 .have f:=O<|Nu (d:=d) (λh=>by rcases h with h|h<;>omega);obtain⟨s1,s2⟩:=s1;go_enter func123,ntmps123;go_wp2;go_ret;exact⟨qg f,BE _ _⟩
 by_cases s2:4000<d.x
 .have f:=O<|Nu (d:=d) (λh=>by rcases h with h|h<;>omega);have C:¬(d.x:Int)<8:=om;clear s1;go_enter func123,ntmps123;go_wp2;go_ret;exact⟨qg f,BE _ _⟩
 have Z:=O s1;clear s1;go_enter func123,ntmps123;have C:d.x=0\/(0<d.x/\¬d.x<8):=oS<|z Z;rcases C with C|⟨C,s4⟩
 .have s:=O C;have ad:¬(0:Int)<d.x:=om;clear C;go_wp2_with fail;go_loopw [4] (λm wr=>m=J d.x/\wr=w) λ_ _=>0
  .exact⟨rfl,rfl⟩
  obtain⟨rfl,rfl⟩:=hrel;go_wp2_with fail;go_loopw [5,36] (λu i ae=>u=J 0/\i=J 0/\ae=wr) λ_ _ _=>0
  .exact⟨rfl,rfl,rfl⟩
  obtain⟨rfl,rfl,rfl⟩:=hrel;have c3:=H.c3;have ar:(0:Int)<=d.x:=om;by_cases hu:(0:Int)=d.used
  .have f:=O<|Aj (p:=D4 d) ⟨.inl s,λj hj=>oS<|z s,by rw[z s];exact hu,by rw[z s];exact Be _⟩;have I:((0:Int)==d.used)=true:=by simp[hu]
   have K:(d.used==0)=true:=by simp[<-hu]
   rw[<-hu]at c3;clear hu I K;go_wp2;go_ret;exact⟨qg f,BE _ _⟩
  have f:=O<|Ae (p:=D4 d) (λh=>by have:=h.2.2.1;rw[z s]at this;exact hu this);have I:((0:Int)==d.used)=false:=by simp[hu]
  clear hu;go_wp2;go_ret;exact⟨qg f,BE _ _⟩
 have ad:(0:Int)<d.x:=om;have au:d.x<=4000:=om;clear C;go_wp2_with fail;go_loopw [4] (λm wr=>∃a:Nat,m=J a/\1<=a/\a<=4000/\(GY d.x↔GY a)/\wr=w) λm _=>(intOf m).toNat
 .exact⟨d.x,rfl,om,om,Iff.rfl,rfl⟩
 obtain⟨a,rfl,af,ag,A,M⟩:=hrel;rw[M];clear M;have T:=O A;clear A;by_cases ha:1<a
 .obtain⟨q,r,av,hr⟩:∃q r,a=2*q+r/\r<2:=⟨a/2,a%2,om,om⟩;have hm:(a:Int).tmod 2=r:=by rw[Int.tmod_eq_emod_of_nonneg om];omega
  have P:r=0\/r=1:=om;rcases P with rfl|rfl
  .have ah:Hid<|GY d.x↔GY q:=O<|T.trans (by rw[show a=2*q by omega];exact Zq om);go_wp2;refine⟨⟨q,rfl,om,om,ah,trivial⟩,?_⟩;exact ow
  have f:=O (Nu (d:=d) (λh=>by
   rcases h with h|h
   .omega
   exact dV ha om (T.1 h.2.2)))
  go_wp2;go_ret;exact⟨qg f,BE _ _⟩
 have ai:a=1:=om;subst ai;rw[show((1:Nat):Int)=1 from rfl];have HP:Gr d.x:=.inr ⟨om,om,T.2 dW⟩;clear T af ag ha;go_wp2_with fail;clear c2;go_loopw [5,36] (λu i wr=>∃k:Nat,k<=d.x/\i=J k/\u=J (BT d k)/\(∀j,j<k->Ga d j)/\B9 w wr) λ_ i _=>d.x-(intOf i).toNat
 .exact⟨0,om,rfl,rfl,λj hj=>om,BE _ _⟩
 obtain⟨k,hk,rfl,rfl,B,hb⟩:=hrel;have hD:=H.below hb;rcases hD.c0,hD.c3,Rr d k,O B with⟨c0,c3,aw,g⟩;clear hD B;by_cases v:k<d.x
 case neg=>
  have Q:k=d.x:=om;subst Q;have l:=O hb;clear hb;by_cases h1:(BT d d.x:Int)=d.used
  case neg=>
   have f:=O<|Ae (p:=D4 d) λh=>h1 h.2.2.1;have aj:((BT d d.x:Int)==d.used)=false:=by simp[h1]
   clear h1;go_wp2;go_ret;exact⟨qg f,l⟩
  have aj:((BT d d.x:Int)==d.used)=true:=by simp[h1]
  by_cases h2:2*BT d d.x<=d.x
  .have f:=O<|Aj (p:=D4 d) ⟨HP,g,h1,h2⟩;have ak:decide (2*(BT d d.x:Int)<=d.x)=true:=ot;clear h1 h2;go_wp2;go_ret;exact⟨by rw[z f];simp,l⟩
  have f:=O<|Ae (p:=D4 d) λh=>h2 h.2.2.2;have ak:decide (2*(BT d d.x:Int)<=d.x)=false:=ot;clear h1 h2;go_wp2;go_ret;exact⟨by rw[z f];simp,l⟩
 obtain⟨b,off,rfl,ao,hcs⟩:=H.rows.index.resolve_left om;have e0:=(hb.cell ao).trans<|hcs k v;have l:=O hb;clear hcs hb;by_cases p1:d.X k< -1
 .have f:=O<|Pa v (λh=>by rcases h with h|h|h<;>omega);go_wp2;go_ret;exact⟨qg f,l⟩
 by_cases p2:(d.n:Int)<d.X k
 .have f:=O<|Pa v (λh=>by rcases h with h|h|h<;>omega);go_wp2;go_ret;exact⟨qg f,l⟩
 by_cases D:d.X k=0
 .have R:Ga d k:=.inl D;have U:Hid<|BT d (k+1)=BT d k:=O (by show(if d.X k=0 then _ else _)=_;rw[C3 D]);rw[D]at e0;clear p1 p2 D;go_wp2;go_roundw
  .exact⟨k+1,om,ov,qg U,λj hj=>(by by_cases e:j=k;exact e▸z R;exact g j om),l⟩
  exact ow
 have U:Hid<|BT d (k+1)=BT d k+1:=O (by show(if d.X k=0 then _ else _)=_;rw[Cs D]);by_cases V:d.X k=-1
 .have R:Ga d k:=.inr<|.inl V;rw[V]at e0;clear p1 p2 D V;go_wp2;go_roundw
  .exact⟨k+1,om,ov,by rw[z U];go_num,λj hj=>(by by_cases e:j=k;exact e▸z R;exact g j om),l⟩
  exact ow
 obtain⟨q,hq⟩:∃q:Nat,d.X k=(q:Int)+1:=⟨(d.X k-1).toNat,om⟩;have E:q<d.n:=om;have HA:Hid<|d.at (d.X k)=d.L q:=O (by unfold Dc.at;rw[hq];congr 1;omega);rw[hq]at e0;have g0:((q:Int)+1!=0)=true:=ot;have g1:¬(q:Int)+1< -1:=om;have g2:¬(d.n:Int)<(q:Int)+1:=om;have W:=O hq;clear p1 p2 D V hq;by_cases hi:AP d q
 .have HR:=O<|Aj hi;have R:Ga d k:=.inr<|.inr ⟨by rw[z W];omega,by rw[z W];omega,by rw[z HA];have:=hi.1;omega,by rw[z HA];exact hi.2⟩;clear hi;go_wp2_with fail;refine m9 (Fb q (H.below l) S E) λw1 t=>?_;rw[z HR];have F:=o8 l t;clear t;go_wp2;go_roundw
  .exact⟨k+1,om,ov,by rw[z U];go_num,λj hj=>(by by_cases e:j=k;exact e▸z R;exact g j om),F⟩
  exact ow
 have HR:=O<|Ae hi;have f:=O (Pa v (λh=>by
  rcases h with h|h|h
  .rw[z W]at h;omega
  .rw[z W]at h;omega
  rw[z HA]at h;exact hi ⟨(H2.pos E h.2.2.1).1,h.2.2.2⟩))
 clear hi;go_wp2_with fail;refine m9 (Fb q (H.below l) S E) λw1 t=>?_;rw[z HR];have F:=o8 l t;clear t;go_wp2;go_ret;exact⟨qg f,F⟩
def PS(a b:Nat):Bool:=O9 a b==some .eq
def AF(a b:Vl):Bool:=a.kind==b.kind&&(a.num==b.num&&(PS a.Af b.Af&&(a.str.toList==b.str.toList&&a.ref==b.ref)))
def probe(d:Dc)(v:Vl):Nat->Nat->Option Nat
 |_,0=>none
 |at0,f+1=>if d.X at0=0 then none else if 0<d.X at0/\AF (d.at<|d.X at0).key v=true then some at0 else probe d v ((at0+1)%d.x) f
def A5(d:Dc)(v:Vl)(h:Nat):Option Nat:=if d.x=0 then none else probe d v (h%d.x) d.x
def FF:Option Nat->Int
 |none=>-1
 |some s=>s
def fH(d:Dc):Option Nat->Int
 |none=>-1
 |some s=>d.X s-1
open Classical in
noncomputable def Aw(d:Dc)(v:Vl)(h:Nat):Int:=if Ay d.m v then d.I (v.num-1).toNat-1 else fH d (A5 d v h)
def EZ{d}{v}(h:d.X a=0):probe d v a (f+1)=none:=C3 h
def FR{d}{v}(h:0<d.X a)(hl:AF (d.at<|d.X a).key v=true):probe d v a (f+1)=some a:=by
 grind [AF,probe]
def CQ{d}{v}(h:d.X a≠0)(hl:¬(0<d.X a/\AF (d.at<|d.X a).key v=true)):probe d v a (f+1)=probe d v ((a+1)%d.x) f:=by
 show(if _ then _ else _)=_;rw[Cs h,Cs hl]
def dY{d}{v}(c:0<d.x):∀(f a s),a<d.x->probe d v a f=some s->s<d.x/\0<d.X s:=by
 intro f
 induction f with
 |zero=>intro a s _ h;cases h
 |succ f ih=>
  intro a s e h;by_cases b:d.X a=0
  .rw[EZ b]at h;cases h
  by_cases hl:0<d.X a/\AF (d.at<|d.X a).key v=true
  .rw[FR hl.1 hl.2]at h;cases h;exact⟨e,hl.1⟩
  rw[CQ b hl]at h;exact ih _ _ (VC _ c) h
def Md{d}{v}{s}(e:A5 d v h=some s):s<d.x/\0<d.X s:=by
 unfold A5 at e;split at e
 .cases e
 exact dY om _ _ _ (VC _ om) e
structure Yo (v:Vl) (h:Nat):Prop where
 lt:h<18446744073709551616
 call:∀w:World,C9 157 #[V v.kind v.num v.Af v.str v.ref] w<|R9 (.int .u64 (h:Int)) w
def OJ a b w:
  C9 158 #[V a.kind a.num a.Af a.str a.ref,V b.kind b.num b.Af b.str b.ref] w (R9 (.bool<|AF a b) w):=by
 go_enter func158,ntmps158;go_wp2;all_goals(go_ret;refine⟨by simp_all [AF,PS],(n9).alloc oq _⟩)
def Tk(hp:GY x)(b:x<=4000)(a:h<18446744073709551616):bits BinOp.and IntKind.u64 (h) ((x)-1)=((h%x:Nat):Int):=by
 obtain⟨k,rfl⟩:=hp;have h1:=OK k;have e:(((2^k:Nat):Int)-1)=((2^k-1:Nat):Int):=om;rw[e,bits_and_u64_nat _ _ a om,Nat.and_two_pow_sub_one_eq_mod]
def Km{d}{v}{w}(hD:Hl w c o la lc ia ic xa xc d)(T:Small d)(h4:D4 d)(hh:Yo v h):
  C9 130 #[Pc c o,V v.kind v.num v.Af v.str v.ref] w (R9 (J<|FF<|A5 d v h) w):=by
 rcases T.n,T.x,hD.c2,hD.lt,O hD with⟨hn,hx,c2,ag,U⟩;clear hD T;by_cases r:d.x=0
 .have F:Hid<|A5 d v h=none:=O<|C3 r;have H:((d.x:Int)==0)=true:=by simp[r]
  clear r;go_enter func130,ntmps130;go_wp2;go_ret;exact⟨qg F,n9⟩
 have A:=h4.1.resolve_left r;have hand:=Tk (h:=h) A.2.2 A.2.1 hh.lt;have P:h%d.x<d.x:=VC _ om;have F:Hid<|A5 d v h=probe d v (h%d.x) d.x:=O<|Cs r;have H:((d.x:Int)==0)=false:=ot;rcases A.1,A.2.1,o9 (h%d.x) with⟨ah,ai,⟨a0,Q⟩⟩;rw[<-Q]at hand P F;clear r A Q;go_enter func130,ntmps130;go_wp2_with fail;refine(hh.call _).mono ?_;rintro e w1 ⟨rfl,D⟩;obtain⟨s,W⟩:=AM D;have q0:w1.cell? (y w 0)=some (J v.kind):=by rw[s _ _ oq];simp[go_sem]
 have q1:w1.cell? (y w 1)=some (J v.num):=by rw[s _ _ oq];simp[go_sem]
 have q2:w1.cell? (y w 2)=some (F9 v.Af):=by rw[s _ _ oq];simp[go_sem]
 have q3:w1.cell? (y w 3)=some (.string v.str):=by rw[s _ _ oq];simp[go_sem]
 have q4:w1.cell? (y w 4)=some (J v.ref):=by rw[s _ _ oq];simp[go_sem]
 have t:w.heap.size<w1.heap.size:=by have:=D.size;simp at this;omega
 have g:=((BE w.heap.size w).alloc (Be _) _).trans<|D.mono oq;clear D s W c2;go_wp2_with fail;go_loopw [6,7] (λp i wr=>∃(a j:Nat),p=J a/\i=J j/\a<d.x/\j<=d.x/\probe d v a0 d.x=probe d v a (d.x-j)/\B9 w1 wr) λ_ i _=>d.x-(intOf i).toNat
 .exact⟨a0,0,oq,rfl,P,om,rfl,BE _ _⟩
 obtain⟨a,j,rfl,rfl,ha,hj,Z,hb⟩:=hrel;have hD:=U.below<|o8 g hb;rcases hD.c0,hD.c2,hD.lt,O (F.trans Z) with⟨c0,c2,aj,u⟩;by_cases ak:j<d.x
 case neg=>
  have B:Hid<|A5 d v h=none:=O<|u.trans (by rw[show d.x-j=0 by omega];rfl);have C:=O hb;go_wp2;go_ret;exact⟨qg B,o8 g C⟩
 obtain⟨f,hf⟩:∃f,d.x-j=f+1:=⟨d.x-j-1,om⟩;obtain⟨b,off,rfl,R,hcs⟩:=U.rows.index.resolve_left om;rcases (hb.cell<|A0 R g.size).trans ((g.cell R).trans<|hcs a ha),(hb.cell t).trans q0,(hb.cell t).trans q1,(hb.cell t).trans q2,(hb.cell t).trans q3,(hb.cell t).trans q4,A0 t hb.size,O hb with⟨e0,p0,p1,p2,p3,p4,ao,C⟩;rw[hf]at u;have S:=O hf;by_cases r:d.X a=0
 .have B:=O<|u.trans<|EZ r;rw[r]at e0;go_wp2;go_ret;exact⟨qg B,o8 g C⟩
 have H:(d.X a==0)=false:=by simp[r]
 rcases h4.2.1 a ha with hs|hs|hs
 .exact absurd hs r
 .have B:=O<|u.trans<|CQ r λh=>om;rw[hs]at e0;go_wp2_with fail;refine qr wr ?_;refine N (h:=N (h:=N (h:=?_)));iterate 11 (go_big_quiet_step (fail))
  refine N (h:=?_);refine GS ?_;intro w2 l;have m:=o8 C l;by_cases hw:a+1=d.x
  .have k:((a:Int)+1==d.x)=true:=ot;have I:Hid<|(a+1)%d.x=0:=O (by rw[hw];exact Nat.mod_self _);go_wp2;go_roundw
   .exact⟨0,j+1,rfl,ov,om,om,by rw[<-z F,z B,z I,show d.x-(j+1)=f by have:=z S;omega],m⟩
   exact ow
  have k:((a:Int)+1==d.x)=false:=ot;have I:Hid<|(a+1)%d.x=a+1:=O<|TC om;have l:a+1<d.x:=om;go_wp2;go_roundw
  .exact⟨a+1,j+1,ov,ov,om,om,by rw[<-z F,z B,z I,show d.x-(j+1)=f by have:=z S;omega],m⟩
  exact ow
 obtain⟨q,hq⟩:∃q:Nat,d.X a=(q:Int)+1:=⟨(d.X a-1).toNat,om⟩;have ad:q<d.n:=om;obtain⟨lb,lo,rfl,M,ae⟩:=U.rows.log.resolve_left om;obtain⟨e1,e2,e3,e4,e5,_,_,_,_,_,_⟩:=(ae q ad).keep λq=>(C.cell<|A0 M g.size).trans<|g.cell M;have aq:=A0 (A0 M g.size) C.size;have HA:Hid<|d.at (d.X a)=d.L q:=O (by unfold Dc.at;rw[hq];congr 1;omega);rw[hq]at e0 H;have ar:IntKind.i64.wrap (q:Int)=q:=oj;have HQ:=O hq;have H0:=O r;cases E:AF (d.L q).key v
 .have B:=O<|u.trans<|CQ H0 (λh=>by rw[z HA,E]at h;exact absurd h.2 oo);go_wp2_with fail;refine qr wr ?_;(iterate 12 refine N (h:=?_));refine N (h:=?_);refine GC λK hK=>?_;go_simp;apply Exists.intro;refine qj (λw' k=>?_)<|hK _ ?_
  .refine(E▸OJ (d.L q).key v _).mono ?_;rintro e af ⟨rfl,hb⟩;exact⟨rfl,o8 k hb⟩
  clear hK K;refine N (h:=?_);refine GS ?_;intro w2 l;have m:=o8 C l;by_cases hw:a+1=d.x
  .have k:((a:Int)+1==d.x)=true:=ot;have I:Hid<|(a+1)%d.x=0:=O (by rw[hw];exact Nat.mod_self _);go_wp2;go_roundw
   .exact⟨0,j+1,rfl,ov,om,om,by rw[<-z F,z B,z I,show d.x-(j+1)=f by have:=z S;omega],m⟩
   exact ow
  have k:((a:Int)+1==d.x)=false:=ot;have I:Hid<|(a+1)%d.x=a+1:=O<|TC om;have l:a+1<d.x:=om;go_wp2;go_roundw
  .exact⟨a+1,j+1,ov,ov,om,om,by rw[<-z F,z B,z I,show d.x-(j+1)=f by have:=z S;omega],m⟩
  exact ow
 have B:=O<|u.trans<|FR (by rw[z HQ];omega) (by rw[z HA];exact E);go_wp2_with fail;refine qr wr ?_;(iterate 12 refine N (h:=?_));refine N (h:=?_);refine GC λK hK=>?_;go_simp;apply Exists.intro;refine qj (λw' k=>?_)<|hK _ ?_
 .refine(E▸OJ (d.L q).key v _).mono ?_;rintro e af ⟨rfl,hb⟩;exact⟨rfl,o8 k hb⟩
 clear hK K;refine N (h:=?_);refine GS ?_;intro w2 l;have m:=o8 C l;go_wp2;go_ret;exact⟨qg B,o8 g m⟩
end
section
attribute [local go_sem] Ar Am
def I6{d}{v}{w}(hD:Hl w c o la lc ia ic xa xc d)(l:Small d)(h3:D3 d)(h4:D4 d)(hh:Yo v h):
  C9 90 #[Pc c o,V v.kind v.num v.Af v.str v.ref] w (R9 (J<|Aw d v h) w):=by
 have g:B9 w<|w.alloc<|.cells (qe v) 43:=n9;go_enter func90,ntmps90;go_wp2_with fail;refine m9 (Gw v (hD.below g) l) λw1 p=>?_;obtain⟨e,B⟩:=AM p;have F:w1.cell? (y w 0)=some (J v.kind):=by rw[e _ _ oq];simp[go_sem]
 have C:w1.cell? (y w 1)=some (J v.num):=by rw[e _ _ oq];simp[go_sem]
 have H:w1.cell? (y w 2)=some (F9 v.Af):=by rw[e _ _ oq];simp[go_sem]
 have K:w1.cell? (y w 3)=some (.string v.str):=by rw[e _ _ oq];simp[go_sem]
 have L:w1.cell? (y w 4)=some (J v.ref):=by rw[e _ _ oq];simp[go_sem]
 have a:=o8 g p;by_cases hs:Ay d.m v
 .rw[Aj hs];obtain⟨k1,k2,k3⟩:=hs;obtain⟨q,hq⟩:∃q:Nat,v.num=(q:Int)+1:=⟨(v.num-1).toNat,om⟩;have r:q<d.m:=om;have u:Hid<|Aw d v h=d.I q-1:=O (by unfold Aw;rw[C3 ⟨k1,k2,k3⟩,hq];congr 2;omega);obtain⟨b,off,rfl,i,hcs⟩:=hD.rows.ints.resolve_left om;rcases (a.cell i).trans (hcs q r),(hD.below a).c1,l.m,l.n with⟨e0,c1,M,hn⟩;have P:0<=d.I q/\d.I q<=d.n:=by
   rcases h3.1 q r with hh|hh
   .omega
   exact⟨om,hh.2.1⟩
  have x:IntKind.i64.wrap (d.I q-1)=d.I q-1:=oj;have D:IntKind.i64.wrap (q:Int)=q:=oj;rw[hq]at C;go_wp2_with fail;go_quiet (fail);go_wp2;go_ret;exact⟨by rw[z u];simp,AH a _⟩
 rw[Ae hs];have u:Hid<|Aw d v h=fH d (A5 d v h):=O (by unfold Aw;rw[Cs hs]);go_wp2_with fail;refine m9 (Km (hD.below a) l h4 hh) λw2 A=>?_;have f:=o8 a A;cases j:A5 d v h with
 |none=>
  have k:Hid<|Aw d v h=-1:=O<|u.trans<|qh j;simp only[FF];go_wp2;go_ret;exact⟨qg k,f⟩
 |some s=>
  have k:Hid<|Aw d v h=d.X s-1:=O<|u.trans<|qh j;obtain⟨t,E⟩:=Md j;simp only[FF];obtain⟨b,off,rfl,i,hcs⟩:=hD.rows.index.resolve_left om;rcases (f.cell i).trans (hcs s t),(hD.below f).c2,l.n with⟨e0,c2,hn⟩;have Q:d.X s<=d.n:=by
   rcases h4.2.1 s t with hh|hh|hh<;>omega
  have x:IntKind.i64.wrap (d.X s-1)=d.X s-1:=oj;go_wp2;go_ret;exact⟨by rw[z k];simp,f⟩
def D5(d:Dc)(H:Nat->Nat):Prop:=∀i,i<d.n->(d.L i).turn≠0->CI d.I i d.m+CI d.X i d.x=1/\Aw d (d.L i).key (H i)=i/\¬((d.L i).key.kind=2/\(d.L i).key.num=(d.m:Int)+1)
def Zh(d:Dc)(H:Nat->Nat)(i:Nat):Prop:=(d.L i).turn≠0->CI d.I i d.m+CI d.X i d.x=1/\Aw d (d.L i).key (H i)=i/\¬((d.L i).key.kind=2/\(d.L i).key.num=(d.m:Int)+1)
def Su{d}(hk:k<d.n)(h:¬Zh d H k):tells (D5 d H)=false:=Ae λh'=>h<|h' k hk
def JE(n:Nat)(hn:n<=4194304)w:
  (Instr.makeSlice 91 (J n)<|J n).run prog w=.ok (S9 w.heap.size n n) (w.alloc<|.cells (madeCells (Value.int .i64 0).cells n) 3):=by
 obtain⟨i,hi,hz,hs,hb⟩:=ON Np;have:=run_make (P:=prog) w 91 3 i _ underlying91 hi hz .i64 .i64 n n om (AaC _) (by rw[hb];omega) om;simp only[On,hs,Nat.mul_one]at this;exact this
def Ib(w:Y)n:(w.alloc<|.cells (madeCells (Value.int .i64 0).cells n) 3).rowIs w.heap.size 3 n λ_=>J 0:=by
 have h:=Aaj w (madeCells (Value.int .i64 0).cells n) 3 (λ_=>J 0) (λi hi=>by
  rw[AaN]at hi;rw[madeCells];simp[Value.cells,hi,Nat.mod_one])
 rw[AaN]at h;exact h
def LO f i k:CI f i k<=k:=by
 induction k with
 |zero=>exact Be _
 |succ k ih=>unfold CI;split<;>omega
def Bs(w:Y)(b n:Nat)(g:Nat->Nat):Prop:=∃h,w.rowIs b 3 n h/\∀j,j<n->h j=J (g j)
def Bs.cell{w}(h:Bs w b n g){j}(hj:j<n):w.cell? (G b j)=some (J<|g j):=by
 obtain⟨d,a,c⟩:=h;rw[a.cell hj,c j hj]
def Bs.frozen{w}(h:Bs w b n g)j:w.frozen? (G b j)=false:=by
 obtain⟨c,a,d⟩:=h;exact a.frozen j
def Bs.lt{w}(h:Bs w b n g):b<w.heap.size:=by
 obtain⟨c,a,d⟩:=h;exact a.lt
def Bs.below{w w':Y}(h:Bs w b n g)(hb:B9 w w'):Bs w' b n g:=by
 obtain⟨c,a,d⟩:=h;exact⟨c,a.of_block<|hb.block b a.lt,d⟩
def Bs.bump{w}{q}(h:Bs w b n g):Bs (w.setCell (G b q)<|J<|(g q)+1) b n λj=>if j=q then g q+1 else g j:=by
 obtain⟨c,a,d⟩:=h;refine⟨_,a.set q _,λj hj=>?_⟩;grind
theorem Bs.congr{w}{g'}(h:Bs w b n g)(e:∀j,j<n->g' j=g j):Bs w b n g':=by
 grind [Bs]
def T7{d}H{w}(hD:Hl w c o la lc ia ic xa xc d)(V:Small d)(h3:D3 d)(h4:D4 d)(hH:∀i,i<d.n->(d.L i).turn≠0->Yo (d.L i).key (H i)):
  C9 124 #[Pc c o] w (R9 (.bool<|tells<|D5 d H) w):=by
 rcases V.n,V.m,V.x,hD.c0,hD.c1,hD.lt with⟨hn,hm,hx,c0,c1,av⟩;have ak:=JE d.n hn;have Z:Hid<|Bs (w.alloc<|.cells (madeCells (Value.int .i64 0).cells d.n) 3) w.heap.size d.n λj=>CI d.I j 0:=O ⟨_,Ib w d.n,λj hj=>rfl⟩;rcases O hD,O V,O hH with⟨T,HS,HH⟩;clear hD V hH;go_enter func124,ntmps124;go_wp2;clear c0 c1 ak;go_loopw [21] (λi wr=>∃k:Nat,k<=d.m/\i=J k/\Bs wr w.heap.size d.n (λj=>CI d.I j k)/\B9 w wr) λi _=>d.m-(intOf i).toNat
 .exact⟨0,om,rfl,Z,n9⟩
 clear Z;obtain⟨k,hk,rfl,a,hb⟩:=hrel;by_cases f:k<d.m
 .obtain⟨b,off,rfl,A,hcs⟩:=T.rows.ints.resolve_left om;rcases (hb.cell A).trans (hcs k f),a.lt,O hb with⟨e0,af,g⟩;rcases h3.1 k f with hz|hz
  .have s:Bs wr w.heap.size d.n λj=>CI d.I j<|k+1:=a.congr (λj hj=>by show(if _ then _ else _)=_;rw[Cs om]);rw[hz]at e0;clear hcs hb a hz;go_wp2;go_roundw
   .exact⟨k+1,om,ov,s,g⟩
   exact ow
  obtain⟨q,hq⟩:∃q:Nat,d.I k=(q:Int)+1:=⟨(d.I k-1).toNat,om⟩;have Q:q<d.n:=om;rcases a.cell Q,a.frozen q,LO d.I q k with⟨r0,r1,l⟩;have s:Hid<|Bs (wr.setCell (y w q)<|J<|(CI d.I q k:Int)+1) w.heap.size d.n λj=>CI d.I j<|k+1:=O (a.bump.congr (λj hj=>by
   show(if d.I k=(j:Int)+1 then _ else _)=(if j=q then _ else _);by_cases e:j=q
   .subst e;rw[C3 hq,C3 rfl]
   rw[Cs om,Cs e]))
  rw[hq]at e0;clear hcs hb a hz hq;go_wp2;go_roundw
  .exact⟨k+1,om,ov,s,g.setCell (by exact Be _) _⟩
  exact ow
 have r:k=d.m:=om;subst r;rcases O a,O hb,T.below hb with⟨s,g,hD⟩;have c2:=hD.c2;have l:=hD.lt;clear a hb hD hk f;go_wp2;clear c2;go_loopw [40] (λi wr=>∃k:Nat,k<=d.x/\i=J k/\Bs wr w.heap.size d.n (λj=>CI d.I j d.m+CI d.X j k)/\B9 w wr) λi _=>d.x-(intOf i).toNat
 .exact⟨0,om,rfl,s,g⟩
 clear s g l;obtain⟨k,hk,rfl,a,hb⟩:=hrel;by_cases f:k<d.x
 .obtain⟨b,off,rfl,A,hcs⟩:=T.rows.index.resolve_left om;rcases (hb.cell A).trans (hcs k f),a.lt,O hb with⟨e0,af,g⟩;by_cases hz:0<d.X k
  case neg=>
   have s:Bs wr w.heap.size d.n λj=>CI d.I j d.m+CI d.X j (k+1):=a.congr (λj hj=>by show _+(if _ then _ else _)=_;rw[Cs om]);have aw:decide (0<d.X k)=false:=ot;clear hcs hb a;go_wp2;go_roundw
   .exact⟨k+1,om,ov,s,g⟩
   exact ow
  obtain⟨q,hq⟩:∃q:Nat,d.X k=(q:Int)+1:=⟨(d.X k-1).toNat,om⟩;have Q:q<d.n:=by rcases h4.2.1 k f with hh|hh|hh<;>omega
  rcases a.cell Q,a.frozen q,LO d.I q d.m,LO d.X q k with⟨r0,r1,l,F⟩;have s:Hid<|Bs (wr.setCell (y w q)<|J<|((CI d.I q d.m+CI d.X q k:Nat):Int)+1) w.heap.size d.n λj=>CI d.I j d.m+CI d.X j (k+1):=O (a.bump.congr (λj hj=>by
   show _+(if d.X k=(j:Int)+1 then _ else _)=(if j=q then _ else _);by_cases e:j=q
   .subst e;rw[C3 hq,C3 rfl];omega
   rw[Cs om,Cs e]))
  generalize ao:CI d.I q d.m+CI d.X q k=cc at r0 s;have ax:cc<=8388608:=om;rw[hq]at e0;clear hcs hb a hz hq ao l F;go_wp2;go_roundw
  .exact⟨k+1,om,ov,s,g.setCell (by exact Be _) _⟩
  exact ow
 have r:k=d.x:=om;subst r;rcases O a,O hb,T.below hb with⟨s,g,hD⟩;have c0:=hD.c0;have l:=hD.lt;clear a hb hD hk f;go_wp2;clear c0;go_loopw [59] (λi wr=>∃k:Nat,k<=d.n/\i=J k/\Bs wr w.heap.size d.n (λj=>CI d.I j d.m+CI d.X j d.x)/\(∀j,j<k->Zh d H j)/\B9 w wr) λi _=>d.n-(intOf i).toNat
 .exact⟨0,om,rfl,s,λj hj=>om,g⟩
 clear s g l;obtain⟨k,hk,rfl,a,K,hb⟩:=hrel;have t:=O K;clear K;by_cases f:k<d.n
 case neg=>
  have r:k=d.n:=om;subst r;have R:=O<|Aj (p:=D5 d H) λi hi=>t i hi;have g:=O hb;clear hb a;go_wp2;go_ret;exact⟨qg R,g⟩
 obtain⟨b,off,rfl,A,hcs⟩:=T.rows.log.resolve_left om;rcases (hcs k f).keep (λq=>hb.cell A),a.cell f,a.lt,T.below hb,O hb with⟨⟨e0,e1,e2,e3,e4,e5,e6,e7,e8,e9,ag⟩,r0,af,hD,g⟩;rcases hD.lt,hD.c1,hb.size with⟨l,c1,aq⟩;clear hcs hb;by_cases C:(d.L k).turn=0
 .have HO:Zh d H k:=λh=>absurd C h;rw[C]at ag;clear C;go_wp2;go_roundw
  .exact⟨k+1,om,ov,a.below n9,λj hj=>(by by_cases e:j=k;exact e▸z HO;exact t j om),g.alloc g.size _⟩
  exact ow
 have ay:((d.L k).turn==0)=false:=by simp[C]
 by_cases u:CI d.I k d.m+CI d.X k d.x=1
 case neg=>
  have R:=O<|Su (H:=H) f λh=>u (h C).1;have M:(((CI d.I k d.m+CI d.X k d.x:Nat):Int)!=1)=true:=ot;generalize CI d.I k d.m+CI d.X k d.x=cc at r0 M u;clear C u;go_wp2;go_ret;exact⟨qg R,g.alloc g.size _⟩
 have ah:=O u;rw[u]at r0;have ai:=O C;have ar:=z HH k f C;have M:(((1:Nat):Int)!=1)=false:=rfl;clear u C;obtain⟨W,U⟩:=o9<|wr.alloc<|.cells #[J (d.L k).key.kind,J (d.L k).key.num,F9 (d.L k).key.Af,.string (d.L k).key.str,J (d.L k).key.ref,J (d.L k).val.kind,J (d.L k).val.num,F9 (d.L k).val.Af,.string (d.L k).val.str,J (d.L k).val.ref,J (d.L k).turn] 166;have S:B9 wr W:=by rw[U];exact(BE _ _).alloc (Be _) _
 obtain⟨y0,y1⟩:W.cell? (y wr 0)=some (J (d.L k).key.kind)/\W.cell? (y wr 1)=some (J (d.L k).key.num):=by rw[U];simp[go_sem]
 have aj:wr.heap.size<W.heap.size:=by rw[U];simp
 go_wp2_with fail
 rw[<-U];clear U;refine m9 (I6 (hD.below S) HS h3 h4 ar) λw2 D=>?_;rcases (D.cell aj).trans y0,(D.cell aj).trans y1,o8 S D with⟨z0,z1,B⟩;rcases a.below B,g.trans<|B.mono aq,(B.cell l).trans c1,A0 l B.size with⟨P,E,az,F⟩;clear D B c1 y0 y1 e0 e1 e2 e3 e4 e5 e6 e7 e8 e9 ag r0;by_cases hp:Aw d (d.L k).key (H k)=(k:Int)
 case neg=>
  have R:=O<|Su f λh=>hp (h ai).2.1;have au:(Aw d (d.L k).key (H k)!=(k:Int))=true:=by simp[hp]
  generalize Aw d (d.L k).key (H k)=pl at au;clear hp;go_wp2;go_ret;exact⟨qg R,E⟩
 rw[hp];have HP:=O hp;clear hp;by_cases Dt:(d.L k).key.kind=2
 case neg=>
  have HO:Zh d H k:=λ_=>⟨ah,HP,λh=>Dt h.1⟩;have ad:((d.L k).key.kind==2)=false:=by simp[Dt]
  clear Dt;go_wp2_with fail;go_quiet (fail);go_wp2;go_roundw
  .exact⟨k+1,om,ov,P,λj hj=>(by by_cases e:j=k;exact e▸z HO;exact t j om),AH E _⟩
  exact ow
 have ad:((d.L k).key.kind==2)=true:=by simp[Dt]
 have hw:IntKind.i64.wrap ((d.m:Int)+1)=(d.m:Int)+1:=oj;by_cases v:(d.L k).key.num=(d.m:Int)+1
 .have R:=O<|Su (H:=H) f λh=>(h ai).2.2 ⟨Dt,v⟩;have ae:((d.L k).key.num==(d.m:Int)+1)=true:=by simp[v]
  clear Dt v;go_wp2_with fail;go_quiet (fail);go_wp2;go_ret;exact⟨qg R,AH E _⟩
 have HO:Zh d H k:=λ_=>⟨ah,HP,λh=>v h.2⟩;have ae:((d.L k).key.num==(d.m:Int)+1)=false:=by simp[v]
 clear Dt v;go_wp2_with fail;go_quiet (fail);go_wp2;go_roundw
 .exact⟨k+1,om,ov,P,λj hj=>(by by_cases e:j=k;exact e▸z HO;exact t j om),AH E _⟩
 exact ow
end
section
attribute [local go_sem] Ar Am
open Classical in
noncomputable def BI(d:Dc)(H:Nat->Nat):Int:=
 if D1 d then if D2 d then if D3 d then if D4 d then if D5 d H then 0 else 5 else 4 else 3 else 2 else 1
def Xw{d}(h:¬D1 d):BI d H=1:=Cs h
def Xx{d}(h1:D1 d)(h:¬D2 d):BI d H=2:=by unfold BI;rw[C3 h1,Cs h]
def Xy{d}(h1:D1 d)(h2:D2 d)(h:¬D3 d):BI d H=3:=by unfold BI;rw[C3 h1,C3 h2,Cs h]
def Xz{d}(h1:D1 d)(h2:D2 d)(h3:D3 d)(h:¬D4 d):BI d H=4:=by unfold BI;rw[C3 h1,C3 h2,C3 h3,Cs h]
def XA{d}(h1:D1 d)(h2:D2 d)(h3:D3 d)(h4:D4 d)(h:¬D5 d H):BI d H=5:=by unfold BI;rw[C3 h1,C3 h2,C3 h3,C3 h4,Cs h]
def RS{d}(h1:D1 d)(h2:D2 d)(h3:D3 d)(h4:D4 d)(h:D5 d H):BI d H=0:=by unfold BI;rw[C3 h1,C3 h2,C3 h3,C3 h4,C3 h]
structure Sound (d:Dc) (H:Nat->Nat):Prop where
 d1:D1 d
 d2:D2 d
 d3:D3 d
 d4:D4 d
 d5:D5 d H
def Lg{d}(h:BI d H=0):Sound d H:=by
 unfold BI at h;split at h
 .next h1=>
  split at h
  .next h2=>
   split at h
   .next h3=>
    split at h
    .next h4=>
     split at h
     .next h5=>exact⟨h1,h2,h3,h4,h5⟩
     cases h
    cases h
   cases h
  cases h
 cases h
def Sound.zero{d}(h:Sound d H):BI d H=0:=RS h.d1 h.d2 h.d3 h.d4 h.d5
def WJ lc{ia:Option Addr}ic{xa:Option Addr}xc{d}H{w}(hD:Ea w la ia xa d)(k:Small d)(F:∀i,i<d.n->Cc (d.L i).key=true->Yo (d.L i).key (H i)):
  C9 78 #[Dv la lc ia ic xa xc d] w (R9 (J<|BI d H) w):=by
 have b:B9 w<|w.alloc<|.cells #[.slice la d.n lc,.slice ia d.m ic,.slice xa d.x xc,J d.used,J d.live,J d.turns] 103:=n9;go_enter func78,ntmps78;go_wp2_with fail;refine(OI lc ic xc (hD.below b) k).mono ?_;rintro e w1 ⟨⟨c,v0,v1,v2,rfl,l,o⟩,C⟩;clear l;obtain⟨I,K,M,P,Q,R,rfl,rfl,rfl,E⟩:=o.ptr;have p:=o8 b C;go_wp2_with fail;refine m9 (Ub E k) λw2 q=>?_;have f:=o8 p q;have r:=E.below q;by_cases h1:D1 d
 case neg=>
  rw[Ae h1];have a:=O<|Xw (H:=H) h1;go_wp2;go_ret;exact⟨qg a,f⟩
 rw[Aj h1];go_wp2_with fail;refine m9 (T8 r k) λw3 s=>?_;have g:=o8 f s;have t:=r.below s;by_cases h2:D2 d
 case neg=>
  rw[Ae h2];have a:=O<|Xx (H:=H) h1 h2;go_wp2;go_ret;exact⟨qg a,g⟩
 rw[Aj h2];go_wp2_with fail;refine m9 (Sb t k) λw4 u=>?_;have h:=o8 g u;have v:=t.below u;by_cases h3:D3 d
 case neg=>
  rw[Ae h3];have a:=O<|Xy (H:=H) h1 h2 h3;go_wp2;go_ret;exact⟨qg a,h⟩
 rw[Aj h3];go_wp2_with fail;refine m9 (Qd v k h2) λw5 A=>?_;have j:=o8 h A;by_cases h4:D4 d
 case neg=>
  rw[Ae h4];have a:=O<|Xz (H:=H) h1 h2 h3 h4;go_wp2;go_ret;exact⟨qg a,j⟩
 rw[Aj h4];go_wp2_with fail;refine m9 (T7 H (z<|v.below A) k h3 h4 λi hi S=>z (O F) i hi (h2.pos hi S).2) λT D=>?_;have B:=o8 j D;by_cases h5:D5 d H
 .rw[Aj h5];have a:=O<|RS h1 h2 h3 h4 h5;go_wp2;go_ret;exact⟨qg a,B⟩
 rw[Ae h5];go_wp2;go_ret;exact⟨by rw[z (O (XA h1 h2 h3 h4 h5))];rfl,B⟩
end
section
open Go.ChangeShapes Go.WideShapes Go.ChangeAt Go.RowKit
section
variable {H:Type} {enc:TypeId×Value->H} {P:Program} {w:Y} {base:Nat} {spare:Nat->Bool} {held:Bool}
def WY{fuel}{cs}{x}{k}(a:P.underlying t=some (.float k))(h:DataW.trod enc P w base spare held fuel t cs=some x):
  ∃b,cs=[.float k b]/\x=(.lit<|.float k b,[])/\(Lit.float k b).wf=true:=by
 cases fuel with
 |zero=>simp[DataW.trod]at h
 |succ n=>
  unfold DataW.trod at h;split at h<;>simp_all
structure Fs (P:Program) (t ti tn a ts:TypeId):Prop where
 st:∃f0 f1 f2 f3 f4:Field,P.underlying t=some (.struct #[f0,f1,f2,f3,f4])/\f0.type=ti/\f1.type=tn/\f2.type=a/\f3.type=ts/\f4.type=ti/\f0.offset=0/\f1.offset=1/\f2.offset=2/\f3.offset=3/\f4.offset=4
 ci:P.cellsOf ti=1
 cn:P.cellsOf tn=1
 cf:P.cellsOf a=1
 cs:P.cellsOf ts=1
 ct:P.cellsOf t=5
 ui:P.underlying ti=some (.int .i64)
 un:P.underlying tn=some (.int .i64)
 uf:P.underlying a=some (.float .f64)
 us:P.underlying ts=some .string
def Gg{ti tn d ts}(F:Fs P t ti tn d ts){fuel}{cs}{x}(h:DataW.trod enc P w base spare held fuel t cs=some x):
  ∃kind num Af s ref,cs=[.int .i64 kind,.int .i64 num,.float .f64 Af,.string s,.int .i64 ref]/\(Lit.int .i64 kind).wf=true/\(Lit.int .i64 num).wf=true/\(Lit.float .f64 Af).wf=true/\s.size<=maxLen/\(Lit.int .i64 ref).wf=true/\x.2=[]:=by
 obtain⟨f0,f1,f2,f3,f4,hu,t0,t1,t2,t3,t4,o0,o1,o2,e,f⟩:=F.st;obtain⟨xs,n,_,rfl,hl,a,hf⟩:=Aay hu h;rw[F.ct]at hl
 match cs,hl with
 |[c0,c1,c2,c3,c4],_=>
  match xs,a with
  |[i,j,k,l,m],_=>
   rcases hf 0 f0 rfl,hf 1 f1 rfl,hf 2 f2 rfl,hf 3 f3 rfl,hf 4 f4 rfl with⟨b,h1,h2,h3,h4⟩;simp only[t0,t1,t2,t3,t4,o0,o1,o2,e,f,F.ci,F.cn,F.cf,F.cs,List.drop_zero,AaB,Aaz,List.take_zero,Aao]at b h1 h2 h3 h4;rcases Wx F.ui b,Wx F.un h1,WY F.uf h2,DataW.trod_string F.us h3,Wx F.ui h4 with⟨⟨a0,e0,r0,w0⟩,⟨a1,e1,r1,w1⟩,⟨a2,e2,r2,w2⟩,⟨a3,e3,r3,w3⟩,⟨a4,c,g,w4⟩⟩;simp only[AaT,and_true]at e0 e1 e2 e3 c;subst e0 e1 e2 e3 c;exact⟨a0,a1,a2,a3,a4,rfl,w0,w1,w2,w3,w4,by simp[r0,r1,r2,r3,g]⟩
end
end
section
open Go.ChangeShapes Go.WideShapes Go.ChangeAt Go.RowKit
attribute [local go_sem] Ar Am
def Mg kind num Af s ref left w(hs:s.size<=maxLen)(a:0<=left)(h1:left<=1048576):
  C9 18 #[V kind num Af s ref,J left] w (R9 (J<|if left<s.size then -1 else left-s.size) w):=by
 unfold maxLen at hs;by_cases h:left<s.size
 focus
  rw[C3 h]
 rotate_left
 focus
  rw[Cs h]
 all_goals
  go_enter func18,ntmps18;go_wp2;go_ret;exact⟨oq,n9⟩
def Fx kind num Af s ref w:
  C9 25 #[V kind num Af s ref] w (R9 (V kind num Af s ref) w):=by
 go_enter func25,ntmps25;go_wp2;exact GO (v:=V kind num Af s ref) (by simp[results,results25,go_sem]) rfl ⟨rfl,((n9).alloc oq _).alloc ot _⟩
end
section
attribute [local go_sem] Ar Am
def zero_num(h:fz x=true):∃s i,Ieee.double.read x=.number s 0 i:=by
 have h':(Ieee.double.order x 0==some .eq)=true:=h;rcases Fl.Cl x with⟨s,m,i,a,hi,c,d,_⟩|⟨s,a⟩|⟨s,t,a⟩
 .rw[Fl.BG a Fl.Cq hi om,Fl.Ef]at h';have b:Fl.sc s m i=0:=by simpa using h'
  unfold Fl.sc at b;rw[Fl.Du]at b;have hp:=Fl.Ge (i+1074).toNat;have:m=0:=by
   generalize (2:Int)^(i+1074).toNat=u at b hp;have h1:(m:Int)*u=0:=by grind
   rcases Int.mul_eq_zero.1 h1 with h|h<;>omega
  subst this;exact⟨s,i,a⟩
 .unfold Ieee.Format.order at h';rw[a,Fl.Cq]at h';cases s<;>simp[Ieee.Datum.order]at h'
 unfold Ieee.Format.order at h';rw[a]at h';simp[Ieee.Datum.order]at h'
def eC(h:fz x=true):∃r,floatBits .quo .f64 4607182418800017408 x=some r:=by
 obtain⟨s,i,a⟩:=zero_num h;refine⟨Ieee.double.write<|.infinity<|false^^s,?_⟩;show((Ieee.double.read 4607182418800017408).quotient _<|Ieee.double.read x).map Ieee.double.write=_;simp[a,Fl.UA,Ieee.Datum.quotient]
def Pp x w:
  C9 110 #[F9 x,F9 x] w λe w'=>e=.returned (.bool true)/\w'=w:=by
 by_cases h1:DU x=true
 .have g1:(O9 x x !=some .eq)=true:=h1;clear h1;go_enter func110,ntmps110;go_wp2;go_ret;exact⟨rfl,rfl⟩
 have g1:(O9 x x !=some .eq)=false:=(by simpa using h1:DU x=false);have g2:(O9 x x==some .eq)=true:=by simpa using g1
 by_cases h2:fz x=true
 .have g3:(O9 x 0==some .eq)=true:=h2;obtain⟨r,a⟩:=eC h2;have hq:∀w:World,(binOp .quo 29 (F9 4607182418800017408)<|F9 x).run prog w=.ok (F9 r) w:=λw=>AaR w .quo 29 .f64 _ _ r a;clear h1 h2 a;go_enter func110,ntmps110;go_wp2;go_ret;exact⟨oq,rfl⟩
 have g3:(O9 x 0==some .eq)=false:=(by simpa using h2:fz x=false);clear h1 h2;go_enter func110,ntmps110;go_wp2;go_ret;exact⟨rfl,rfl⟩
def EB kind num Af s ref w:
  C9 63 #[V kind num Af s ref,V kind num Af s ref] w (R9 (.bool true) w):=by
 go_enter func63,ntmps63;go_wp2_with (go_at_call 110;refine(Pp Af _).mono ?_;rintro e w1 ⟨rfl,rfl⟩);go_ret;exact⟨rfl,(n9).alloc oq _⟩
end
end Go.Proofs.YtoobllcjfinmoaaGreatDoor
