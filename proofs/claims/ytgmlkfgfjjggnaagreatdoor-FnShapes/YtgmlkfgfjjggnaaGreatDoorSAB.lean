import Derived.Test.YtgmlkfgfjjggnaaGreatDoorSAA
import Derived.Below
import Derived.Deep.OwnRows
import Derived.Deep.AppendLies
import Derived.Deep.RegionLaw
import Derived.Deep.QuietTactic
import Derived.BigQuiet
import Derived.Laws.Bits64b
set_option linter.unusedVariables false
set_option linter.unusedSimpArgs false
set_option maxHeartbeats 40000000
set_option maxRecDepth 100000
namespace Go.Proofs.YtgmlkfgfjjggnaaGreatDoor
section
open Go.RowKit
attribute [local go_sem] run_store_float run_equalIn_float
theorem intValue_any(n:Int)(w:World):
  Calls Tryz.prog 238 #[.int .i64 n] w fun e w'=>e=.returned (V 2 n 0 ⟨#[]⟩ 0)/\Below w.heap.size w w':=by
 go_enter Tryz.func238,Tryz.ntmps238
 go_wp2
 exact bodyPost_ret (v:=V 2 n 0 ⟨#[]⟩ 0) (by simp[results,go_sem]) rfl ⟨rfl,(Below.refl _ _).alloc (Nat.le_refl _) _⟩
theorem ikeyA(kind num:Int)(flt:Nat)(s:ByteArray)(ref:Int)(w:World)(hv:validB kind num flt s ref=false):
  Calls Tryz.prog 204 #[V kind num flt s ref] w fun e w'=>e=.returned (KV 2 0 0 0 ⟨#[]⟩ 0)/\Below w.heap.size w w':=by
 go_enter Tryz.func204,Tryz.ntmps204
 go_wp2_with (go_at_call 150;refine(isValid_any kind num flt s ref _).mono ?_;rintro e w1 ⟨rfl,hb⟩;rw[hv];obtain⟨hc,hf⟩:=bcell hb;have hz:=hb.size;simp at hz)
 exact bodyPost_ret (v:=KV 2 0 0 0 ⟨#[]⟩ 0) (by simp[results,Tryz.results204,go_sem,hc]) rfl ⟨rfl,below_set6 (two_then (Nat.le_refl _) hb) _ (by omega) _ _ _ _ _ _⟩
theorem ikeyB(num:Int)(flt:Nat)(s:ByteArray)(ref:Int)(w:World)(hv:validB 0 num flt s ref=true):
  Calls Tryz.prog 204 #[V 0 num flt s ref] w fun e w'=>e=.returned (KV 1 0 0 0 ⟨#[]⟩ 0)/\Below w.heap.size w w':=by
 go_enter Tryz.func204,Tryz.ntmps204
 go_wp2_with (go_at_call 150;refine(isValid_any 0 num flt s ref _).mono ?_;rintro e w1 ⟨rfl,hb⟩;rw[hv];obtain⟨hc,hf⟩:=bcell hb;have hz:=hb.size;simp at hz)
 exact bodyPost_ret (v:=KV 1 0 0 0 ⟨#[]⟩ 0) (by simp[results,Tryz.results204,go_sem,hc]) rfl ⟨rfl,below_set6 (two_then (Nat.le_refl _) hb) _ (by omega) _ _ _ _ _ _⟩
theorem ikeyC(num:Int)(flt:Nat)(s:ByteArray)(ref:Int)(w:World)(hv:validB 3 num flt s ref=true)(hn:fnan flt=true):
  Calls Tryz.prog 204 #[V 3 num flt s ref] w fun e w'=>e=.returned (KV 1 0 0 0 ⟨#[]⟩ 0)/\Below w.heap.size w w':=by
 have g1:(FloatKind.f64.format.order flt flt !=some .eq)=true:=hn
 clear hn
 go_enter Tryz.func204,Tryz.ntmps204
 go_wp2_with (first|(go_at_call 150;refine(isValid_any 3 num flt s ref _).mono ?_;rintro e w1 ⟨rfl,hb⟩;rw[hv];obtain⟨hc,hf⟩:=bcell hb;have hz:=hb.size;simp at hz)|(go_at_call 236;go_in))
 exact bodyPost_ret (v:=KV 1 0 0 0 ⟨#[]⟩ 0) (by simp[results,Tryz.results204,go_sem,hc]) rfl ⟨rfl,below_set6 (two_then (Nat.le_refl _) hb) _ (by omega) _ _ _ _ _ _⟩
theorem ikeyF(kind num:Int)(flt:Nat)(s:ByteArray)(ref:Int)(w:World)(hv:validB kind num flt s ref=true)(h0:(kind==0)=false)(h3:(kind==3)=false):
  Calls Tryz.prog 204 #[V kind num flt s ref] w fun e w'=>e=.returned (KV 0 kind num flt s ref)/\Below w.heap.size w w':=by
 go_enter Tryz.func204,Tryz.ntmps204
 go_wp2_with (go_at_call 150;refine(isValid_any kind num flt s ref _).mono ?_;rintro e w1 ⟨rfl,hb⟩;rw[hv];obtain⟨hc,hf⟩:=bcell hb;have hz:=hb.size;simp at hz)
 exact bodyPost_ret (v:=KV 0 kind num flt s ref) (by simp[results,Tryz.results204,go_sem,hc]) rfl ⟨rfl,below_set6 (two_then (Nat.le_refl _) hb) _ (by omega) _ _ _ _ _ _⟩
theorem ikeyE(num:Int)(flt:Nat)(s:ByteArray)(ref:Int)(w:World)(hv:validB 3 num flt s ref=true)(hn:fnan flt=false)(hno:wholeB flt=false):
  Calls Tryz.prog 204 #[V 3 num flt s ref] w fun e w'=>e=.returned (KV 0 3 num flt s ref)/\Below w.heap.size w w':=by
 have g1:(FloatKind.f64.format.order flt flt !=some .eq)=false:=hn
 clear hn
 go_enter Tryz.func204,Tryz.ntmps204
 go_wp2_with (first|(go_at_call 150;refine(isValid_any 3 num flt s ref _).mono ?_;rintro e w1 ⟨rfl,hb⟩;rw[hv];obtain⟨hc,hf⟩:=bcell hb;have hz:=hb.size;simp at hz)|(go_at_call 236;go_in)|(go_at_call 237;refine(isWhole_any flt _).mono ?_;rintro e w2 ⟨rfl,rfl⟩;rw[hno]))
 exact bodyPost_ret (v:=KV 0 3 num flt s ref) (by simp[results,Tryz.results204,go_sem,hc]) rfl ⟨rfl,below_set6 (two_then (Nat.le_refl _) hb) _ (by omega) _ _ _ _ _ _⟩
theorem ikeyD(num:Int)(flt:Nat)(s:ByteArray)(ref:Int)(w:World)(hv:validB 3 num flt s ref=true)(hn:fnan flt=false)(hw:wholeB flt=true):
  Calls Tryz.prog 204 #[V 3 num flt s ref] w fun e w'=>e=.returned (KV 0 2 (fint flt) 0 ⟨#[]⟩ 0)/\Below w.heap.size w w':=by
 have g1:(FloatKind.f64.format.order flt flt !=some .eq)=false:=hn
 have hcv:∀w:World,(convert 29 2 (.float .f64 flt)).run Tryz.prog w=.ok (.int .i64 (fint flt)) w:=by
  unfold wholeB at hw
  simp only[Bool.and_eq_true]at hw
  exact fint_conv hw.1.1 hw.1.2
 clear hn
 generalize fint flt=n at*
 go_enter Tryz.func204,Tryz.ntmps204
 go_wp2_with (first|(go_at_call 150;refine(isValid_any 3 num flt s ref _).mono ?_;rintro e w1 ⟨rfl,hb⟩;rw[hv];obtain⟨hc,hf⟩:=bcell hb;have hz:=hb.size;simp at hz;have hz1:w.heap.size+1<w1.heap.size:=(by omega);have hz0:w.heap.size<w1.heap.size:=(by omega))|(go_at_call 236;go_in)|(go_at_call 237;refine(isWhole_any flt _).mono ?_;rintro e w2 ⟨rfl,rfl⟩;rw[hw])|(go_at_call 238;refine(intValue_any n _).mono ?_;rintro e w3 ⟨rfl,hb3⟩;obtain⟨hc3,hf3⟩:=bcell hb3;have hz3:=hb3.size))
 exact bodyPost_ret (v:=KV 0 2 n 0 ⟨#[]⟩ 0) (by simp[results,Tryz.results204,go_sem,hc,hc3,hz1]) rfl ⟨rfl,below_set6 ((two_then (Nat.le_refl _) hb).trans (hb3.mono (by omega))) _ (by omega) _ _ _ _ _ _⟩
theorem ikey_any(kind num:Int)(flt:Nat)(s:ByteArray)(ref:Int)(w:World):
  Calls Tryz.prog 204 #[V kind num flt s ref] w fun e w'=>e=.returned (keyV kind num flt s ref)/\Below w.heap.size w w':=by
 unfold keyV
 by_cases hv:validB kind num flt s ref=true
 ·rw[if_pos hv]
  by_cases h0:kind=0
  ·subst h0;rw[if_pos rfl];exact ikeyB num flt s ref w hv
  ·rw[if_neg h0]
   by_cases h3:kind=3
   ·subst h3
    rw[if_pos rfl]
    by_cases hn:fnan flt=true
    ·rw[if_pos hn];exact ikeyC num flt s ref w hv hn
    ·rw[if_neg hn]
     have hn':fnan flt=false:=by simpa using hn
     by_cases hw:wholeB flt=true
     ·rw[if_pos hw];exact ikeyD num flt s ref w hv hn' hw
     ·rw[if_neg hw];exact ikeyE num flt s ref w hv hn' (by simpa using hw)
   ·rw[if_neg h3]
    exact ikeyF kind num flt s ref w hv (by simp[h0]) (by simp[h3])
 ·rw[if_neg hv];exact ikeyA kind num flt s ref w (by simpa using hv)
end
section
open Go.RowKit
structure Pr where
 key:Vl
 val:Vl
 turn:Int
instance:Inhabited Pr:=⟨⟨default,default,0⟩⟩
def prL(p:Pr):List Value:=[.int .i64 p.key.kind,.int .i64 p.key.num,.float .f64 p.key.flt,.string p.key.str,.int .i64 p.key.ref,.int .i64 p.val.kind,.int .i64 p.val.num,.float .f64 p.val.flt,.string p.val.str,.int .i64 p.val.ref,.int .i64 p.turn]
structure PCell (w:World) (b o:Nat) (p:Pr):Prop where
 k0:w.cell? ⟨b,o,none⟩=some (.int .i64 p.key.kind)
 k1:w.cell? ⟨b,o+1,none⟩=some (.int .i64 p.key.num)
 k2:w.cell? ⟨b,o+2,none⟩=some (.float .f64 p.key.flt)
 k3:w.cell? ⟨b,o+3,none⟩=some (.string p.key.str)
 k4:w.cell? ⟨b,o+4,none⟩=some (.int .i64 p.key.ref)
 v0:w.cell? ⟨b,o+5,none⟩=some (.int .i64 p.val.kind)
 v1:w.cell? ⟨b,o+6,none⟩=some (.int .i64 p.val.num)
 v2:w.cell? ⟨b,o+7,none⟩=some (.float .f64 p.val.flt)
 v3:w.cell? ⟨b,o+8,none⟩=some (.string p.val.str)
 v4:w.cell? ⟨b,o+9,none⟩=some (.int .i64 p.val.ref)
 tn:w.cell? ⟨b,o+10,none⟩=some (.int .i64 p.turn)
theorem PCell.of{w:World}{b o:Nat}{p:Pr}(h:∀j u,(prL p)[j]?=some u->w.cell? ⟨b,o+j,none⟩=some u):PCell w b o p:=
 ⟨h 0 _ rfl,h 1 _ rfl,h 2 _ rfl,h 3 _ rfl,h 4 _ rfl,h 5 _ rfl,h 6 _ rfl,h 7 _ rfl,h 8 _ rfl,h 9 _ rfl,h 10 _ rfl⟩
theorem PCell.keep{w w':World}{b o:Nat}{p:Pr}(h:PCell w b o p)(e:∀q,w'.cell? ⟨b,q,none⟩=w.cell? ⟨b,q,none⟩):PCell w' b o p:=
 ⟨(e _).trans h.k0,(e _).trans h.k1,(e _).trans h.k2,(e _).trans h.k3,(e _).trans h.k4,(e _).trans h.v0,(e _).trans h.v1,(e _).trans h.v2,(e _).trans h.v3,(e _).trans h.v4,(e _).trans h.tn⟩
def PAt(w:World)(a:Option Addr)(n:Nat)(f:Nat->Pr):Prop:=
 n=0\/∃b off,a=some ⟨b,off,none⟩/\b<w.heap.size/\∀i,i<n->PCell w b (off+i*11) (f i)
def IAt(w:World)(a:Option Addr)(n:Nat)(f:Nat->Int):Prop:=
 n=0\/∃b off,a=some ⟨b,off,none⟩/\b<w.heap.size/\∀i,i<n->w.cell? ⟨b,off+i,none⟩=some (.int .i64 (f i))
theorem PAt.below{w w':World}{B:Nat}{a:Option Addr}{n:Nat}{f:Nat->Pr}(h:PAt w a n f)(hb:Below B w w')(hB:B=w.heap.size):PAt w' a n f:=by
 subst hB
 rcases h with h|⟨b,off,e,hlt,hc⟩
 ·exact .inl h
 ·exact .inr ⟨b,off,e,Nat.lt_of_lt_of_le hlt hb.size,fun i hi=>(hc i hi).keep (fun q=>hb.cell (p:=⟨b,q,none⟩) hlt)⟩
theorem IAt.below{w w':World}{B:Nat}{a:Option Addr}{n:Nat}{f:Nat->Int}(h:IAt w a n f)(hb:Below B w w')(hB:B=w.heap.size):IAt w' a n f:=by
 subst hB
 rcases h with h|⟨b,off,e,hlt,hc⟩
 ·exact .inl h
 ·exact .inr ⟨b,off,e,Nat.lt_of_lt_of_le hlt hb.size,fun i hi=>(hb.cell (p:=⟨b,off+i,none⟩) hlt).trans (hc i hi)⟩
structure Dc where
 n:Nat
 L:Nat->Pr
 m:Nat
 I:Nat->Int
 x:Nat
 X:Nat->Int
 used:Int
 live:Int
 turns:Int
abbrev Dv(la:Option Addr)(lc:Nat)(ia:Option Addr)(ic:Nat)(xa:Option Addr)(xc:Nat)(d:Dc):Value:=.agg #[.slice la d.n lc,.slice ia d.m ic,.slice xa d.x xc,.int .i64 d.used,.int .i64 d.live,.int .i64 d.turns]
structure DAt (w:World) (la ia xa:Option Addr) (d:Dc):Prop where
 log:PAt w la d.n d.L
 ints:IAt w ia d.m d.I
 index:IAt w xa d.x d.X
theorem DAt.below{w w':World}{la ia xa:Option Addr}{d:Dc}(h:DAt w la ia xa d)(hb:Below w.heap.size w w'):DAt w' la ia xa d:=⟨h.log.below hb rfl,h.ints.below hb rfl,h.index.below hb rfl⟩
structure Small (d:Dc):Prop where
 n:d.n<=4194304
 m:d.m<=4194304
 x:d.x<=4194304
open Classical in
noncomputable def tells(p:Prop):Bool:=if p then true else false
theorem tells_yes{p:Prop}(h:p):tells p=true:=if_pos h
theorem tells_no{p:Prop}(h:¬p):tells p=false:=if_neg h
def noneB(v:Vl):Bool:=v.kind==0&&v.ok
def keyB(v:Vl):Bool:=v.ok&&v.kind !=0&&!(v.kind==3&&(fnan v.flt||wholeB v.flt))
def pairB(turns last:Int)(p:Pr):Bool:=decide (last<p.turn)&&decide (p.turn<=turns)&&keyB p.key&&p.val.ok&&p.val.kind !=0
def logTo(d:Dc):Nat->Option (Int×Int)
 |0=>some (0,0)
 |k+1=>match logTo d k with
  |none=>none
  |some (live,last)=>if(d.L k).turn=0 then(if noneB (d.L k).key&&noneB (d.L k).val then some (live,last)else none)else if pairB d.turns last (d.L k)then some (live+1,(d.L k).turn)else none
theorem logTo_none{d:Dc}{k:Nat}(h:logTo d k=none):∀j,logTo d (k+j)=none:=by
 intro j
 induction j with
 |zero=>exact h
 |succ j ih=>show(match logTo d (k+j)with|none=>none|some (live,last)=>_)=none;rw[ih]
theorem logTo_none'{d:Dc}{k n:Nat}(h:logTo d k=none)(hk:k<=n):logTo d n=none:=by
 have:=logTo_none h (n-k)
 rwa [show k+(n-k)=n by omega]at this
def D1(d:Dc):Prop:=0<=d.live/\d.live<=500/\0<=d.turns/\d.turns<=1000000000000/\((d.n:Int)<=8\/(d.n:Int)<=2*d.live)
def D2(d:Dc):Prop:=∃last,logTo d d.n=some (d.live,last)
abbrev Dc.at(d:Dc)(p:Int):Pr:=d.L (p-1).toNat
def okInt(d:Dc)(i:Nat):Prop:=d.I i=0\/(0<d.I i/\d.I i<=d.n/\(d.at (d.I i)).turn≠0/\(d.at (d.I i)).key.kind=2/\(d.at (d.I i)).key.num=i+1)
def D3(d:Dc):Prop:=(∀i,i<d.m->okInt d i)/\(d.m=0\/0<d.I (d.m-1))
def smallK(m:Nat)(k:Vl):Prop:=k.kind=2/\1<=k.num/\k.num<=m
def okSlot(d:Dc)(j:Nat):Prop:=d.X j=0\/d.X j=-1\/(0<d.X j/\d.X j<=d.n/\(d.at (d.X j)).turn≠0/\¬smallK d.m (d.at (d.X j)).key)
def usedTo(d:Dc):Nat->Nat
 |0=>0
 |k+1=>if d.X k=0 then usedTo d k else usedTo d k+1
def Pow2(x:Nat):Prop:=∃k,x=2^k
def D4(d:Dc):Prop:=(d.x=0\/(8<=d.x/\d.x<=4000/\Pow2 d.x))/\(∀j,j<d.x->okSlot d j)/\(usedTo d d.x:Int)=d.used/\2*usedTo d d.x<=d.x
def cnt(f:Nat->Int)(i:Nat):Nat->Nat
 |0=>0
 |k+1=>if f k=(i:Int)+1 then cnt f i k+1 else cnt f i k
end
section
open Go.RowKit
attribute [local go_sem] run_store_float run_equalIn_float
def pL(f:Nat->Pr):Nat->List Value
 |0=>[]
 |k+1=>pL f k++prL (f k)
theorem pL_length(f:Nat->Pr)(n:Nat):(pL f n).length=n*11:=by
 induction n with
 |zero=>rfl
 |succ n ih=>simp[pL,ih,prL];omega
theorem pL_get{f:Nat->Pr}{n i j:Nat}(hi:i<n)(hj:j<11):(pL f n)[i*11+j]?=(prL (f i))[j]?:=by
 induction n with
 |zero=>omega
 |succ n ih=>
  show(pL f n++prL (f n))[i*11+j]?=_
  by_cases h:i<n
  ·rw[List.getElem?_append_left (by rw[pL_length];omega),ih h]
  ·have:i=n:=by omega
   subst this
   rw[List.getElem?_append_right (by rw[pL_length];omega),pL_length,show i*11+j-i*11=j by omega]
def iL(f:Nat->Int):Nat->List Value
 |0=>[]
 |k+1=>iL f k++[.int .i64 (f k)]
theorem iL_length(f:Nat->Int)(n:Nat):(iL f n).length=n:=by
 induction n with
 |zero=>rfl
 |succ n ih=>simp[iL,ih]
theorem iL_get{f:Nat->Int}{n i:Nat}(hi:i<n):(iL f n)[i]?=some (.int .i64 (f i)):=by
 induction n with
 |zero=>omega
 |succ n ih=>
  show(iL f n++[.int .i64 (f n)])[i]?=_
  by_cases h:i<n
  ·rw[List.getElem?_append_left (by rw[iL_length];omega),ih h]
  ·have:i=n:=by omega
   subst this
   rw[List.getElem?_append_right (by rw[iL_length];omega),iL_length]
   simp
abbrev POwn(w:World)(base:Nat)(v:Value)(n:Nat)(f:Nat->Pr):Prop:=w.ownsRow base 96 11 v n (pL f n)
abbrev IOwn(w:World)(base:Nat)(v:Value)(n:Nat)(f:Nat->Int):Prop:=w.ownsRow base 3 1 v n (iL f n)
abbrev PZ:Value:=.agg #[.int .i64 0,.int .i64 0,.float .f64 0,.string ⟨#[]⟩,.int .i64 0,.int .i64 0,.int .i64 0,.float .f64 0,.string ⟨#[]⟩,.int .i64 0,.int .i64 0]
theorem infoPair:(Tryz.prog.info? 96).map (fun i=>(i.zero,i.size,i.bytes))=some (some PZ,11,104):=by kernel_rfl
theorem infoInt:(Tryz.prog.info? 3).map (fun i=>(i.zero,i.size,i.bytes))=some (some (.int .i64 0),1,8):=by kernel_rfl
theorem prL_one(p:Pr):∀u∈prL p,u.oneCell'=true:=by
 intro u hu
 simp only[prL,List.mem_cons,List.not_mem_nil,or_false]at hu
 rcases hu with rfl|rfl|rfl|rfl|rfl|rfl|rfl|rfl|rfl|rfl|rfl<;>rfl
theorem cell_set_other{w:World}{b o o':Nat}{v:Value}(h:o≠o'):(w.setCell ⟨b,o,none⟩ v).cell? ⟨b,o',none⟩=w.cell? ⟨b,o',none⟩:=by
 apply World.cell?_setCell_other
 intro e
 cases e
 exact h rfl
theorem cell_set_block{w:World}{b b' o o':Nat}{v:Value}(h:b≠b'):(w.setCell ⟨b,o,none⟩ v).cell? ⟨b',o',none⟩=w.cell? ⟨b',o',none⟩:=by
 apply World.cell?_setCell_other
 intro e
 cases e
 exact h rfl
theorem grown_setCell(w:World)(a:Addr)(v:Value):w.grownBy (w.setCell a v) (some a.block):=⟨rfl,rfl,rfl,by simp,fun k _ hne=>Deep.blk_setCell_other _ _ _ _ (fun e=>hne (by rw[e]))⟩
theorem grown_below{w w':World}{v:Value}{B:Nat}(hgr:w.grownBy w' v.ownBlock)(hlt:∀q,v.ownBlock=some q->B<=q)(hB:B<=w.heap.size):Below B w w':=
 ⟨hgr.os,hgr.tape,hgr.output,hgr.size,fun k hk=>hgr.block k (by omega) (fun e=>by have:=hlt k e.symm;omega)⟩
theorem own_mono{w:World}{base base' e size:Nat}{v:Value}{n:Nat}{xs:List Value}(h:w.ownsRow base e size v n xs)(hb:base'<=base):w.ownsRow base' e size v n xs:=by
 obtain⟨hl,h|⟨g,cap,cur,h1,h2,h3⟩⟩:=h
 ·exact⟨hl,.inl h⟩
 ·exact⟨hl,.inr ⟨g,cap,cur,h1,Nat.le_trans hb h2,h3⟩⟩
theorem own_block{w w':World}{base e size:Nat}{v:Value}{n:Nat}{xs:List Value}(h:w.ownsRow base e size v n xs)(hs:w.heap.size<=w'.heap.size)(hq:∀q,base<=q->q<w.heap.size->w'.heap[q]?=w.heap[q]?):w'.ownsRow base e size v n xs:=by
 obtain⟨hl,h|⟨g,cap,cur,h1,h2,h3,h4⟩⟩:=h
 ·exact⟨hl,.inl h⟩
 ·exact⟨hl,.inr ⟨g,cap,cur,h1,h2,(hq g h2 (Array.getElem?_eq_some_iff.1 h3).1).trans h3,h4⟩⟩
end
section
open Go.RowKit
attribute [local go_sem] run_store_float run_equalIn_float
theorem keyV_cases(v:Vl):(keyB v=true/\keyV v.kind v.num v.flt v.str v.ref=KV 0 v.kind v.num v.flt v.str v.ref)\/(keyB v=false/\∃c k n f t r,keyV v.kind v.num v.flt v.str v.ref=KV c k n f t r/\(c≠0\/(v.kind=3/\k=2))):=by
 unfold keyV keyB Vl.ok
 by_cases hv:validB v.kind v.num v.flt v.str v.ref=true
 ·rw[if_pos hv,hv]
  by_cases h0:v.kind=0
  ·rw[if_pos h0];right;exact⟨by simp[h0],1,0,0,0,⟨#[]⟩,0,rfl,.inl (by decide)⟩
  ·rw[if_neg h0]
   by_cases h3:v.kind=3
   ·rw[if_pos h3]
    by_cases hn:fnan v.flt=true
    ·rw[if_pos hn];right;exact⟨by simp[h3,hn],1,0,0,0,⟨#[]⟩,0,rfl,.inl (by decide)⟩
    ·rw[if_neg hn]
     by_cases hw:wholeB v.flt=true
     ·rw[if_pos hw];right;exact⟨by simp[h3,hw],0,2,fint v.flt,0,⟨#[]⟩,0,rfl,.inr ⟨h3,rfl⟩⟩
     ·rw[if_neg hw];left;exact⟨by simp[h3,hn,hw],rfl⟩
   ·rw[if_neg h3];left;exact⟨by simp[h0,h3],rfl⟩
 ·rw[if_neg hv]
  right
  have:validB v.kind v.num v.flt v.str v.ref=false:=by simpa using hv
  exact⟨by rw[this];rfl,2,0,0,0,⟨#[]⟩,0,rfl,.inl (by decide)⟩
end
section
open Go.RowKit
attribute [local go_sem] run_store_float run_equalIn_float
theorem logTo_dead{d:Dc}{k:Nat}{live last:Int}(h:logTo d k=some (live,last))(ht:(d.L k).turn=0):logTo d (k+1)=if noneB (d.L k).key&&noneB (d.L k).val then some (live,last)else none:=by
 show(match logTo d k with|none=>none|some (live,last)=>_)=_
 rw[h]
 simp only[ht,if_true]
theorem logTo_live{d:Dc}{k:Nat}{live last:Int}(h:logTo d k=some (live,last))(ht:(d.L k).turn≠0):logTo d (k+1)=if pairB d.turns last (d.L k)then some (live+1,(d.L k).turn)else none:=by
 show(match logTo d k with|none=>none|some (live,last)=>_)=_
 rw[h]
 simp only[ht,if_false]
theorem not_D2{d:Dc}{k:Nat}(hk:k<d.n)(h:logTo d (k+1)=none):tells (D2 d)=false:=tells_no (fun⟨l,e⟩=>by rw[logTo_none' h (by omega)]at e;cases e)
end
section
open Go.RowKit
attribute [local go_sem] run_store_float run_equalIn_float
theorem not_D3{d:Dc}{k:Nat}(hk:k<d.m)(h:¬okInt d k):tells (D3 d)=false:=tells_no (fun h'=>h (h'.1 k hk))
end
section
open Go.RowKit
attribute [local go_sem] run_store_float run_equalIn_float
def Entry(d:Dc)(i:Nat):Prop:=((d.L i).turn=0/\noneB (d.L i).key=true/\noneB (d.L i).val=true)\/(0<(d.L i).turn/\(d.L i).turn<=d.turns/\keyB (d.L i).key=true/\(d.L i).val.ok=true/\(d.L i).val.kind≠0)
theorem logTo_entries{d:Dc}:∀(k:Nat) {live last:Int},logTo d k=some (live,last)->0<=last/\∀i,i<k->Entry d i:=by
 intro k
 induction k with
 |zero=>intro live last h;simp[logTo]at h;exact⟨by omega,fun i hi=>by omega⟩
 |succ k ih=>
  intro live last h
  cases hk:logTo d k with
  |none=>rw[logTo_none' hk (by omega)]at h;cases h
  |some x=>
   obtain⟨l0,t0⟩:=x
   obtain⟨i1,i2⟩:=ih hk
   by_cases ht:(d.L k).turn=0
   ·rw[logTo_dead hk ht]at h
    split at h
    ·next hn=>
     simp only[Option.some.injEq,Prod.mk.injEq]at h
     refine⟨by omega,fun i hi=>?_⟩
     by_cases e:i=k
     ·subst e;left;simpa[ht]using hn
     ·exact i2 i (by omega)
    ·cases h
   ·rw[logTo_live hk ht]at h
    split at h
    ·next hn=>
     simp only[Option.some.injEq,Prod.mk.injEq]at h
     unfold pairB at hn
     simp at hn
     refine⟨by omega,fun i hi=>?_⟩
     by_cases e:i=k
     ·subst e;right;exact⟨by omega,hn.1.1.1.2,hn.1.1.2,hn.1.2,hn.2⟩
     ·exact i2 i (by omega)
    ·cases h
theorem D2.entry{d:Dc}(h:D2 d){i:Nat}(hi:i<d.n):Entry d i:=by
 obtain⟨l,e⟩:=h
 exact(logTo_entries d.n e).2 i hi
theorem D2.pos{d:Dc}(h:D2 d){i:Nat}(hi:i<d.n)(ht:(d.L i).turn≠0):0<(d.L i).turn/\keyB (d.L i).key=true:=by
 rcases h.entry hi with h|h
 ·exact absurd h.1 ht
 ·exact⟨h.1,h.2.2.1⟩
def indexedK(d:Dc)(i:Nat):Prop:=0<(d.L i).turn/\¬smallK d.m (d.L i).key
theorem usedTo_le(d:Dc)(k:Nat):usedTo d k<=k:=by
 induction k with
 |zero=>exact Nat.le_refl _
 |succ k ih=>unfold usedTo;split<;>omega
def SizeX(x:Nat):Prop:=x=0\/(8<=x/\x<=4000/\Pow2 x)
theorem not_D4{d:Dc}{k:Nat}(hk:k<d.x)(h:¬okSlot d k):tells (D4 d)=false:=tells_no (fun h'=>h (h'.2.1 k hk))
theorem not_D4'{d:Dc}(h:¬SizeX d.x):tells (D4 d)=false:=tells_no (fun h'=>h h'.1)
end
section
open Go.RowKit
attribute [local go_sem] run_store_float run_equalIn_float
def feq(a b:Nat):Bool:=FloatKind.f64.format.order a b==some .eq
def likeB(a b:Vl):Bool:=a.kind==b.kind&&(a.num==b.num&&(feq a.flt b.flt&&(a.str.toList==b.str.toList&&a.ref==b.ref)))
def probe(d:Dc)(v:Vl):Nat->Nat->Option Nat
 |_,0=>none
 |at0,f+1=>if d.X at0=0 then none else if 0<d.X at0/\likeB (d.at (d.X at0)).key v=true then some at0 else probe d v ((at0+1)%d.x) f
def slotOf(d:Dc)(v:Vl)(h:Nat):Option Nat:=if d.x=0 then none else probe d v (h%d.x) d.x
def slotI:Option Nat->Int
 |none=>-1
 |some s=>s
def slotP(d:Dc):Option Nat->Int
 |none=>-1
 |some s=>d.X s-1
open Classical in
noncomputable def placeI(d:Dc)(v:Vl)(h:Nat):Int:=if smallK d.m v then d.I (v.num-1).toNat-1 else slotP d (slotOf d v h)
theorem probe_zero{d:Dc}{v:Vl}{a f:Nat}(h:d.X a=0):probe d v a (f+1)=none:=if_pos h
theorem probe_hit{d:Dc}{v:Vl}{a f:Nat}(h:0<d.X a)(hl:likeB (d.at (d.X a)).key v=true):probe d v a (f+1)=some a:=by
 show(if _ then _ else _)=_
 rw[if_neg (by omega),if_pos ⟨h,hl⟩]
theorem probe_next{d:Dc}{v:Vl}{a f:Nat}(h:d.X a≠0)(hl:¬(0<d.X a/\likeB (d.at (d.X a)).key v=true)):probe d v a (f+1)=probe d v ((a+1)%d.x) f:=by
 show(if _ then _ else _)=_
 rw[if_neg h,if_neg hl]
theorem probe_lt{d:Dc}{v:Vl}(hx:0<d.x):∀(f a s:Nat),a<d.x->probe d v a f=some s->s<d.x/\0<d.X s:=by
 intro f
 induction f with
 |zero=>intro a s _ h;cases h
 |succ f ih=>
  intro a s ha h
  by_cases h0:d.X a=0
  ·rw[probe_zero h0]at h;cases h
  ·by_cases hl:0<d.X a/\likeB (d.at (d.X a)).key v=true
   ·rw[probe_hit hl.1 hl.2]at h
    cases h
    exact⟨ha,hl.1⟩
   ·rw[probe_next h0 hl]at h
    exact ih _ _ (Nat.mod_lt _ hx) h
theorem slotOf_lt{d:Dc}{v:Vl}{h s:Nat}(e:slotOf d v h=some s):s<d.x/\0<d.X s:=by
 unfold slotOf at e
 split at e
 ·cases e
 ·exact probe_lt (by omega) _ _ _ (Nat.mod_lt _ (by omega)) e
end
section
open Go.RowKit
attribute [local go_sem] run_store_float run_equalIn_float
def D5(d:Dc)(H:Nat->Nat):Prop:=∀i,i<d.n->(d.L i).turn≠0->cnt d.I i d.m+cnt d.X i d.x=1/\placeI d (d.L i).key (H i)=i/\¬((d.L i).key.kind=2/\(d.L i).key.num=(d.m:Int)+1)
def ok5(d:Dc)(H:Nat->Nat)(i:Nat):Prop:=(d.L i).turn≠0->cnt d.I i d.m+cnt d.X i d.x=1/\placeI d (d.L i).key (H i)=i/\¬((d.L i).key.kind=2/\(d.L i).key.num=(d.m:Int)+1)
theorem not_D5{d:Dc}{H:Nat->Nat}{k:Nat}(hk:k<d.n)(h:¬ok5 d H k):tells (D5 d H)=false:=tells_no (fun h'=>h (h' k hk))
theorem make_ints(n:Nat)(hn:n<=4194304)(w:World):
  (Instr.makeSlice 90 (.int .i64 (n:Int)) (.int .i64 (n:Int))).run Tryz.prog w=.ok (.slice (some ⟨w.heap.size,0,none⟩) n n) (w.alloc (.cells (madeCells (Value.int .i64 0).cells n) 3)):=by
 obtain⟨i,hi,hz,hs,hb⟩:=info_parts infoInt
 have:=run_make (P:=Tryz.prog) w 90 3 i _ Tryz.underlying90 hi hz .i64 .i64 n n (by omega) (Int.le_refl _) (by rw[hb];omega) (by omega)
 simp only[Int.toNat_natCast,hs,Nat.mul_one]at this
 exact this
theorem made_zeros(w:World)(n:Nat):(w.alloc (.cells (madeCells (Value.int .i64 0).cells n) 3)).rowIs w.heap.size 3 n (fun _=>.int .i64 0):=by
 have h:=World.rowIs_alloc w (madeCells (Value.int .i64 0).cells n) 3 (fun _=>.int .i64 0) (fun i hi=>by
  rw[size_madeCells]at hi
  unfold madeCells
  simp[Value.cells,hi,Nat.mod_one])
 rw[size_madeCells]at h
 exact h
theorem cnt_le(f:Nat->Int)(i k:Nat):cnt f i k<=k:=by
 induction k with
 |zero=>exact Nat.le_refl _
 |succ k ih=>unfold cnt;split<;>omega
def Counts(w:World)(b n:Nat)(g:Nat->Nat):Prop:=∃h,w.rowIs b 3 n h/\∀j,j<n->h j=.int .i64 (g j)
theorem Counts.cell{w:World}{b n:Nat}{g:Nat->Nat}(h:Counts w b n g){j:Nat}(hj:j<n):w.cell? ⟨b,j,none⟩=some (.int .i64 (g j)):=by
 obtain⟨h0,hr,hg⟩:=h
 rw[hr.cell hj,hg j hj]
theorem Counts.frozen{w:World}{b n:Nat}{g:Nat->Nat}(h:Counts w b n g)(j:Nat):w.frozen? ⟨b,j,none⟩=false:=by
 obtain⟨h0,hr,hg⟩:=h
 exact hr.frozen j
theorem Counts.lt{w:World}{b n:Nat}{g:Nat->Nat}(h:Counts w b n g):b<w.heap.size:=by
 obtain⟨h0,hr,hg⟩:=h
 exact hr.lt
theorem Counts.below{w w':World}{b n:Nat}{g:Nat->Nat}(h:Counts w b n g)(hb:Below w.heap.size w w'):Counts w' b n g:=by
 obtain⟨h0,hr,hg⟩:=h
 exact⟨h0,hr.of_block (hb.block b hr.lt),hg⟩
theorem Counts.bump{w:World}{b n q:Nat}{g:Nat->Nat}(h:Counts w b n g):Counts (w.setCell ⟨b,q,none⟩ (.int .i64 ((g q:Int)+1))) b n (fun j=>if j=q then g q+1 else g j):=by
 obtain⟨h0,hr,hg⟩:=h
 refine⟨_,hr.set q _,fun j hj=>?_⟩
 by_cases e:j=q
 ·subst e;simp
 ·simp only[e,if_false];exact hg j hj
theorem Counts.congr{w:World}{b n:Nat}{g g':Nat->Nat}(h:Counts w b n g)(e:∀j,j<n->g' j=g j):Counts w b n g':=by
 obtain⟨h0,hr,hg⟩:=h
 exact⟨h0,hr,fun j hj=>by rw[e j hj];exact hg j hj⟩
end
section
open Go.RowKit
attribute [local go_sem] run_store_float run_equalIn_float
open Classical in
noncomputable def dictOk(d:Dc)(H:Nat->Nat):Int:=
 if D1 d then if D2 d then if D3 d then if D4 d then if D5 d H then 0 else 5 else 4 else 3 else 2 else 1
theorem dictOk1{d:Dc}{H:Nat->Nat}(h:¬D1 d):dictOk d H=1:=if_neg h
theorem dictOk2{d:Dc}{H:Nat->Nat}(h1:D1 d)(h:¬D2 d):dictOk d H=2:=by unfold dictOk;rw[if_pos h1,if_neg h]
theorem dictOk3{d:Dc}{H:Nat->Nat}(h1:D1 d)(h2:D2 d)(h:¬D3 d):dictOk d H=3:=by unfold dictOk;rw[if_pos h1,if_pos h2,if_neg h]
theorem dictOk4{d:Dc}{H:Nat->Nat}(h1:D1 d)(h2:D2 d)(h3:D3 d)(h:¬D4 d):dictOk d H=4:=by unfold dictOk;rw[if_pos h1,if_pos h2,if_pos h3,if_neg h]
theorem dictOk5{d:Dc}{H:Nat->Nat}(h1:D1 d)(h2:D2 d)(h3:D3 d)(h4:D4 d)(h:¬D5 d H):dictOk d H=5:=by unfold dictOk;rw[if_pos h1,if_pos h2,if_pos h3,if_pos h4,if_neg h]
theorem dictOk0{d:Dc}{H:Nat->Nat}(h1:D1 d)(h2:D2 d)(h3:D3 d)(h4:D4 d)(h:D5 d H):dictOk d H=0:=by unfold dictOk;rw[if_pos h1,if_pos h2,if_pos h3,if_pos h4,if_pos h]
structure Sound (d:Dc) (H:Nat->Nat):Prop where
 d1:D1 d
 d2:D2 d
 d3:D3 d
 d4:D4 d
 d5:D5 d H
theorem sound_of{d:Dc}{H:Nat->Nat}(h:dictOk d H=0):Sound d H:=by
 unfold dictOk at h
 split at h
 ·next h1=>
  split at h
  ·next h2=>
   split at h
   ·next h3=>
    split at h
    ·next h4=>
     split at h
     ·next h5=>exact⟨h1,h2,h3,h4,h5⟩
     ·cases h
    ·cases h
   ·cases h
  ·cases h
 ·cases h
theorem Sound.zero{d:Dc}{H:Nat->Nat}(h:Sound d H):dictOk d H=0:=dictOk0 h.d1 h.d2 h.d3 h.d4 h.d5
end
end Go.Proofs.YtgmlkfgfjjggnaaGreatDoor
