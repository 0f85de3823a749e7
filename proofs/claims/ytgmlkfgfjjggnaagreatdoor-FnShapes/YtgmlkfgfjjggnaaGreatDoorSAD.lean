import Derived.WalkKit
import Derived.WalkSpells
import Derived.WalkLawsBesides
import Derived.Below
import Derived.Deep.OwnRows
import Derived.Test.YtgmlkfgfjjggnaaGreatDoorSAA
import Derived.Deep.QuietTactic
import Derived.BigQuiet
import Derived.ProofKit
import Derived.OpenShut
import Derived.ShutString
import Derived.ChangeOld
import Derived.Test.YtgmlkfgfjjggnaaGreatDoorSAB
import Derived.Test.YtgmlkfgfjjggnaaGreatDoorSAC
import Derived.BigRegion
import Derived.RangeFuncNested
import Derived.RangeFuncBound
import Derived.RangeFuncCalls
import Derived.RangeFuncLeaves
import Derived.RangeFuncFrom
import Derived.Shelf.Abstract
import Derived.Shelf.RegionOpen
import Derived.OwnWalkIn
import Derived.TacticsInMore
import Derived.LoopNIn
import Derived.LoopIn
set_option linter.unusedVariables false
set_option linter.unusedSimpArgs false
set_option maxHeartbeats 40000000
set_option maxRecDepth 100000
namespace Go.Proofs.YtgmlkfgfjjggnaaGreatDoor
section
open Go.RowKit
structure Shp where
 parent:Int
 key:ByteArray
 count:Int
instance:Inhabited Shp:=⟨⟨0,⟨#[]⟩,0⟩⟩
abbrev Sh(p:Int)(k:ByteArray)(c:Int):Value:=.agg #[.int .i64 p,.string k,.int .i64 c]
end
section
open Go.RowKit
def cellOf(f:Nat->Shp)(j:Nat):Value:=
 if j%3=0 then .int .i64 (f (j/3)).parent else if j%3=1 then .string (f (j/3)).key else .int .i64 (f (j/3)).count
theorem cellOf0(f:Nat->Shp)(i:Nat):cellOf f (i*3)=.int .i64 (f i).parent:=by
 have h1:i*3%3=0:=by omega
 have h2:i*3/3=i:=by omega
 simp[cellOf]
theorem cellOf1(f:Nat->Shp)(i:Nat):cellOf f (i*3+1)=.string (f i).key:=by
 have h1:(i*3+1)%3=1:=by omega
 have h2:(i*3+1)/3=i:=by omega
 simp[cellOf,h1,h2]
theorem cellOf2(f:Nat->Shp)(i:Nat):cellOf f (i*3+2)=.int .i64 (f i).count:=by
 have h1:(i*3+2)%3=2:=by omega
 have h2:(i*3+2)/3=i:=by omega
 simp[cellOf,h1,h2]
def ShRow(w:World)(b n:Nat)(f:Nat->Shp):Prop:=∃(N:Nat) (g:Nat->Value),n*3<=N/\w.rowIs b 205 N g/\∀j,j<n*3->g j=cellOf f j
theorem ShRow.lt{w:World}{b n:Nat}{f:Nat->Shp}(h:ShRow w b n f):b<w.heap.size:=by obtain⟨_,_,_,h,_⟩:=h;exact h.lt
theorem ShRow.cells{w:World}{b n:Nat}{f:Nat->Shp}(h:ShRow w b n f){i:Nat}(hi:i<n):
  w.cell? ⟨b,i*3,none⟩=some (.int .i64 (f i).parent)/\w.cell? ⟨b,i*3+1,none⟩=some (.string (f i).key)/\w.cell? ⟨b,i*3+2,none⟩=some (.int .i64 (f i).count):=by
 obtain⟨N,g,hN,hr,hg⟩:=h
 exact⟨by rw[hr.cell (by omega),hg _ (by omega),cellOf0],by rw[hr.cell (by omega),hg _ (by omega),cellOf1],by rw[hr.cell (by omega),hg _ (by omega),cellOf2]⟩
theorem ShRow.of_block{w w':World}{b n:Nat}{f:Nat->Shp}(h:ShRow w b n f)(e:w'.heap[b]?=w.heap[b]?):ShRow w' b n f:=by
 obtain⟨N,g,hN,hr,hg⟩:=h
 exact⟨N,g,hN,hr.of_block e,hg⟩
theorem ShRow.below{w w':World}{B b n:Nat}{f:Nat->Shp}(h:ShRow w b n f)(hb:Below B w w')(hB:b<B):ShRow w' b n f:=h.of_block (hb.block b hB)
theorem infoShape:(Tryz.prog.info? 205).map (fun i=>(i.zero,i.size,i.bytes))=some (some (Sh 0 ⟨#[]⟩ 0),3,32):=by kernel_rfl
end
section
open Go.RowKit
attribute [local go_sem] run_store_float run_equalIn_float
structure Tb where
 shape:Int
 nv:Nat
 V:Nat->Vl
 d:Dc
structure Si where
 key:ByteArray
 shape:Int
 place:Int
 hits:Int
 misses:Int
structure Sto where
 nf:Nat
 F:Nat->Shp
 nt:Nat
 T:Nat->Tb
 ns:Nat
 S:Nat->Si
abbrev VVa(v:Vl):Value:=V v.kind v.num v.flt v.str v.ref
structure VCell (w:World) (b o:Nat) (p:Vl):Prop where
 c0:w.cell? ⟨b,o,none⟩=some (.int .i64 p.kind)
 c1:w.cell? ⟨b,o+1,none⟩=some (.int .i64 p.num)
 c2:w.cell? ⟨b,o+2,none⟩=some (.float .f64 p.flt)
 c3:w.cell? ⟨b,o+3,none⟩=some (.string p.str)
 c4:w.cell? ⟨b,o+4,none⟩=some (.int .i64 p.ref)
theorem VCell.keep{w w':World}{b o:Nat}{p:Vl}(h:VCell w b o p)(e:∀q,w'.cell? ⟨b,q,none⟩=w.cell? ⟨b,q,none⟩):VCell w' b o p:=
 ⟨(e _).trans h.c0,(e _).trans h.c1,(e _).trans h.c2,(e _).trans h.c3,(e _).trans h.c4⟩
def VAt(w:World)(a:Option Addr)(n:Nat)(f:Nat->Vl):Prop:=
 n=0\/∃b off,a=some ⟨b,off,none⟩/\b<w.heap.size/\∀i,i<n->VCell w b (off+i*5) (f i)
theorem VAt.below{w w':World}{B:Nat}{a:Option Addr}{n:Nat}{f:Nat->Vl}(h:VAt w a n f)(hb:Below B w w')(hB:B=w.heap.size):VAt w' a n f:=by
 subst hB
 rcases h with h|⟨b,off,e,hlt,hc⟩
 ·exact .inl h
 ·exact .inr ⟨b,off,e,Nat.lt_of_lt_of_le hlt hb.size,fun i hi=>(hc i hi).keep (fun q=>hb.cell (p:=⟨b,q,none⟩) hlt)⟩
structure SCl (w:World) (b o:Nat) (p:Si):Prop where
 c0:w.cell? ⟨b,o,none⟩=some (.string p.key)
 c1:w.cell? ⟨b,o+1,none⟩=some (.int .i64 p.shape)
 c2:w.cell? ⟨b,o+2,none⟩=some (.int .i64 p.place)
 c3:w.cell? ⟨b,o+3,none⟩=some (.int .i64 p.hits)
 c4:w.cell? ⟨b,o+4,none⟩=some (.int .i64 p.misses)
theorem SCl.keep{w w':World}{b o:Nat}{p:Si}(h:SCl w b o p)(e:∀q,w'.cell? ⟨b,q,none⟩=w.cell? ⟨b,q,none⟩):SCl w' b o p:=
 ⟨(e _).trans h.c0,(e _).trans h.c1,(e _).trans h.c2,(e _).trans h.c3,(e _).trans h.c4⟩
def SiAt(w:World)(a:Option Addr)(n:Nat)(f:Nat->Si):Prop:=
 n=0\/∃b off,a=some ⟨b,off,none⟩/\b<w.heap.size/\∀i,i<n->SCl w b (off+i*5) (f i)
theorem SiAt.below{w w':World}{B:Nat}{a:Option Addr}{n:Nat}{f:Nat->Si}(h:SiAt w a n f)(hb:Below B w w')(hB:B=w.heap.size):SiAt w' a n f:=by
 subst hB
 rcases h with h|⟨b,off,e,hlt,hc⟩
 ·exact .inl h
 ·exact .inr ⟨b,off,e,Nat.lt_of_lt_of_le hlt hb.size,fun i hi=>(hc i hi).keep (fun q=>hb.cell (p:=⟨b,q,none⟩) hlt)⟩
end
section
open Go.RowKit Go.Shelf
section
variable {P:Program} {ops:Array Oper} {C:World->Prop} {md:Region.Mode}
theorem wpIn_of_quiet{l n:Nat}{o:Oper}{a:Act}{K:Act->Prop}{K':Act->World->Prop}{Q':Exit->Act->World->Prop}{w:World}(hd:∀c,o.op≠.defer c)(hw:C w)(h:∀a w',C w'->K a->K' a w')(hh:o.quiet P a C K):o.wpIn (Fence.wide.inRound l) n P a w K' Q':=by
 obtain⟨v,h1,h2⟩:=hh
 have h3:=h1 w hw
 unfold Oper.quietAt at h3
 refine⟨fun _ _=>trivial,?_⟩
 show o.uponIn (Fence.wide.inRound l) n P a K' Q' ((o.semAt (some l) a.eval).run P w)
 rw[Oper.semAt_some l _ _ hd]
 generalize (execOp a.eval o).run P w=r at*
 cases r with
 |ok x w'=>
  cases x<;>simp only[Oper.quietUpon]at h3<;>simp only[Oper.uponIn]
  case value u=>
   obtain⟨e1,e2⟩:=h3
   rw[e1,e2]
   exact h _ _ hw h2
  case skip=>
   obtain⟨e1,e2⟩:=h3
   rw[e1,<-e2]
   exact h _ _ hw h2
  case enter f args=>
   obtain⟨e1,hc⟩:=h3
   rw[e1]
   refine⟨fun hh=>(by cases hh),CallsIn.inRound l (callsIn_wide.2 (hc.mono fun e w'' ⟨he,hw''⟩=>?_))⟩
   subst he
   exact h _ _ hw'' h2
 |halt x w'=>simp only[Oper.quietUpon]at h3
def noDefer(ops:Array Oper):Bool:=ops.all fun o=>match o.op with|.defer _=>false|_=>true
theorem noDefer_spec(h:noDefer ops=true){i:Nat}{o:Oper}(ho:ops[i]?=some o):∀c,o.op≠.defer c:=by
 intro c e
 unfold noDefer at h
 rw[Array.all_eq_true]at h
 obtain⟨hi,he⟩:=Array.getElem?_eq_some_iff.1 ho
 have:=h i hi
 rw[he,e]at this
 simp at this
theorem wpOpIn_of_qOp{l n i:Nat}{a:Act}{K:Act->Prop}{K':Act->World->Prop}{Q':Exit->Act->World->Prop}{w:World}(hd:noDefer ops=true)(hC:C w)(h:∀a w',C w'->K a->K' a w')(hh:qOp P ops C i K a):wpOpIn (Fence.wide.inRound l) n P ops Q' i K' a w:=by
 unfold qOp at hh
 unfold wpOpIn
 split
 ·rename_i ho;simp only[ho]at hh;exact h _ _ hC hh
 ·rename_i o ho
  simp only[ho]at hh
  split
  ·rename_i hw;simp only[hw,if_true]at hh;exact wpIn_of_quiet (noDefer_spec hd ho) hC h hh
  ·rename_i hw;simp only[hw]at hh;exact⟨fun _ _=>trivial,h _ _ hC hh⟩
theorem wpAnyIn_of_quiet{l n:Nat}{Q:Act->Prop}{Q':Exit->Act->World->Prop}(hd:noDefer ops=true)(hQ:∀a w,C w->Q a->Q' .normal a w):∀(fuel:Nat) (listed:Array Bool) (a:Act) (w:World),C w->
  wpAnyQ P md ops C Q fuel listed a->wpAnyIn (Fence.wide.inRound l) n P md ops Q' fuel listed a w
 |0,_,_,_,hw,h=>⟨h.1,hQ _ _ hw h.2⟩
 |fuel+1,_,_,_,hw,h=>⟨fun h0=>hQ _ _ hw (h.1 h0),fun i hi=>wpOpIn_of_qOp hd hw (fun a' w' hw'=>wpAnyIn_of_quiet hd hQ fuel _ a' w' hw') (h.2 i hi)⟩
theorem wpIn_region_quiet{l n id:Nat}{Q:Exit->Act->World->Prop}{a:Act}{w:World}(hm:P.follows .mixedOrders=true)(hB:Region.lexB .any ops=true)(hd:noDefer ops=true)(hC:C {w with drawn:=w.drawn+1})
  (h:wpQuiet P ops C (fun a'=>∀w',C w'->Q .normal a' w') ops.toList a):(Code.region id ops true).wpIn (Fence.wide.inRound l) n P Q a w:=by
 simp only[Region.lexB,Bool.and_eq_true]at hB
 refine wpIn_region_any hm (wpAnyIn_of_quiet hd (Q:=fun a'=>∀w',C w'->Q .normal a' w') (fun _ w' hw' h=>h w' hw') _ _ _ _ hC ?_)
 have:=wpAnyQ_lex (C:=C) (md:=.any) hB.1 ops.toList 0 (Array.replicate ops.size false) a (by simp) (by simpa using hB.2) h
 simpa using this
end
end
section
open Go.RowKit Go.Shelf
attribute [local go_sem] run_store_float run_equalIn_float Oper.semAt_some
structure HsI (T:World->Prop) (v:Vl) (h:Nat):Prop where
 lt:h<18446744073709551616
 call:∀w:World,T w->Calls Tryz.prog 247 #[V v.kind v.num v.flt v.str v.ref] w fun e w'=>e=.returned (.int .u64 (h:Int))/\Below w.heap.size w w'
def Lasts(T:World->Prop):Prop:=∀w w',T w->Below w.heap.size w w'->T w'
def seqL(x a0 f:Nat):List Nat:=(List.range f).map (fun j=>(a0+j)%x)
theorem seqL_succ(x a0 f:Nat):seqL x a0 (f+1)=seqL x a0 f++[(a0+f)%x]:=by
 unfold seqL
 rw[List.range_succ]
 simp
theorem seqL_length(x a0 f:Nat):(seqL x a0 f).length=f:=by simp[seqL]
theorem seqL_prefix{x a0 f g:Nat}(h:f<=g):seqL x a0 f<+:seqL x a0 g:=by
 obtain⟨k,rfl⟩:∃k,g=f+k:=⟨g-f,by omega⟩
 induction k with
 |zero=>exact List.prefix_refl _
 |succ k ih=>
  rw[show f+(k+1)=(f+k)+1 by omega,seqL_succ]
  exact(ih (by omega)).trans (List.prefix_append _ _)
theorem from_any(p:Option Addr)(v:Vl)(w:World):
  Calls Tryz.prog 297 #[.pointer p,V v.kind v.num v.flt v.str v.ref] w fun e w'=>e=.returned (.func (.func 308) #[] #[.pointer (some ⟨w.heap.size,0,none⟩),.pointer (some ⟨w.heap.size+1,0,none⟩)])/\w'=(w.alloc (.cells #[.pointer p] 377)).alloc (.cells #[.int .i64 v.kind,.int .i64 v.num,.float .f64 v.flt,.string v.str,.int .i64 v.ref] 43):=by
 go_enter Tryz.func297,Tryz.ntmps297
 go_wp2
 go_ret
 exact⟨rfl,rfl⟩
theorem grown_of_below{w w':World}(h:Below w.heap.size w w'):w.grownBy w' none:=⟨h.os,h.tape,h.output,h.size,fun k hk _=>h.block k hk⟩
def SqAll(d:Dc)(h:Nat)(xs:List {a:Nat//a<d.x}):Prop:=xs.map (·.1)=seqL d.x (h%d.x) d.x
def SqPre(d:Dc)(h:Nat)(xs:List {a:Nat//a<d.x}):Prop:=xs.map (·.1)<+:seqL d.x (h%d.x) d.x
def SqTo(d:Dc)(h j:Nat)(xs:List {a:Nat//a<d.x}):Prop:=xs.map (·.1)=seqL d.x (h%d.x) j
theorem SqTo.len{d:Dc}{h j:Nat}{xs:List {a:Nat//a<d.x}}(e:SqTo d h j xs):xs.length=j:=by
 have:=congrArg List.length e
 rwa [List.length_map,seqL_length]at this
theorem SqTo.snoc{d:Dc}{h j:Nat}{xs:List {a:Nat//a<d.x}}(e:SqTo d h j xs)(hx:(h%d.x+j)%d.x<d.x):SqTo d h (j+1) (xs++[⟨(h%d.x+j)%d.x,hx⟩]):=by
 unfold SqTo at*
 rw[List.map_append,e,seqL_succ]
 rfl
theorem SqTo.pre{d:Dc}{h j:Nat}{xs:List {a:Nat//a<d.x}}(e:SqTo d h j xs)(hj:j<=d.x):SqPre d h xs:=by
 unfold SqTo at e
 unfold SqPre
 rw[e]
 exact seqL_prefix hj
theorem from_stops(n:Nat)(hn:1<=n)(T:World->Prop)(hTl:Lasts T)(bk R2 mb kb:Nat)(d:Dc)(v:Vl)(h n0:Nat)(hh:HsI T v h)(w:World)(hT:T w)(hx:d.x<=4194304)
  (m0:w.cell? ⟨mb,0,none⟩=some (.pointer (some ⟨bk,2,none⟩))) (c2:w.cell? ⟨bk,2,none⟩=some hashF) (c3:w.cell? ⟨bk,3,none⟩=some (.slice (some ⟨R2,0,none⟩) d.x d.x))
  (k0:w.cell? ⟨kb,0,none⟩=some (.int .i64 v.kind)) (k1:w.cell? ⟨kb,1,none⟩=some (.int .i64 v.num)) (k2:w.cell? ⟨kb,2,none⟩=some (.float .f64 v.flt)) (k3:w.cell? ⟨kb,3,none⟩=some (.string v.str)) (k4:w.cell? ⟨kb,4,none⟩=some (.int .i64 v.ref)):
  SeqStopsK Fence.wide n Tryz.prog 308 #[.pointer (some ⟨mb,0,none⟩),.pointer (some ⟨kb,0,none⟩)] (fun a:{a:Nat//a<d.x}=>#[.int .i64 (a.1:Int)]) (Below n0)
   (SqAll d h) (SqPre d h) d.x w:=fun l J Jx W hW hJ hJx hY h0=>by
 have lm:=World.block_lt_of_cell? _ _ m0
 have lb:=World.block_lt_of_cell? _ _ c2
 have lk:=World.block_lt_of_cell? _ _ k0
 have m0:=(hW.cell (p:=⟨mb,0,none⟩) lm).trans m0
 have c2:=(hW.cell (p:=⟨bk,2,none⟩) lb).trans c2
 have c3:=(hW.cell (p:=⟨bk,3,none⟩) lb).trans c3
 have k0:=(hW.cell (p:=⟨kb,0,none⟩) lk).trans k0
 have k1:=(hW.cell (p:=⟨kb,1,none⟩) lk).trans k1
 have k2:=(hW.cell (p:=⟨kb,2,none⟩) lk).trans k2
 have k3:=(hW.cell (p:=⟨kb,3,none⟩) lk).trans k3
 have k4:=(hW.cell (p:=⟨kb,4,none⟩) lk).trans k4
 have lm':mb<W.heap.size:=Nat.lt_of_lt_of_le lm hW.size
 have lb':bk<W.heap.size:=Nat.lt_of_lt_of_le lb hW.size
 have lk':kb<W.heap.size:=Nat.lt_of_lt_of_le lk hW.size
 have HT:=uy (hTl _ _ hT hW)
 have HTl:=uy hTl
 have HH:=uy hh
 have HJ:=uy hJ
 have HY:=uy hY
 have H0:=uy h0
 clear hJx hJ hY hT hW hTl hh h0
 refine callsIn_of_wp Tryz.func308 rfl trivial ?_ rfl
 simp only[Tryz.ntmps308,List.size_toArray,List.length_cons,List.length_nil,Nat.reduceAdd,Nat.reduceSub,Array.replicate_succ,Array.replicate_zero,List.push_toArray,List.append_toArray,List.nil_append,List.cons_append]
 by_cases hx0:d.x=0
 ·have hx0':((d.x:Int)==0)=true:=by simp[hx0]
  have HX0:=uy hx0
  clear hx0
  gi_wp2
  refine bodyPost_ret (results_none rfl _ _ _) rfl ?_
  exact⟨⟨_,rfl⟩,.inl ⟨[],by unfold SqAll;rw[uh HX0];rfl,uh H0⟩⟩
 have hx0':((d.x:Int)==0)=false:=by simp[hx0]
 have hxp:0<d.x:=by omega
 gi_wp2
 refine wpIn_wide.2 ?_
 refine wp_region_quiet (C:=fun w'=>Below W.heap.size W w') (by kernel_rfl) (by kernel_rfl) ((Below.refl _ _).drew) ?_
 show wpQuiet _ _ _ _ [_,_,_,_,_,_,_,_,_] _
 (refine wpQuiet_step (fun K hK=>?_);go_simp;refine Exists.intro ?_ (And.intro (fun w' hw'=>?_) (hK _ ?_));rotate_left;obtain⟨hc',hf'⟩:=bcell hw';go_simp;first|rfl|exact⟨rfl,rfl⟩|exact⟨rfl⟩;clear hK K)
 iterate 2 (refine wpQuiet_step (fun K hK=>?_);go_simp;refine⟨_,fun w' hw'=>rfl,hK _ ?_⟩;clear hK K)
 iterate 2 (refine wpQuiet_step (fun K hK=>?_);go_simp;refine Exists.intro ?_ (And.intro (fun w' hw'=>?_) (hK _ ?_));rotate_left;obtain⟨hc',hf'⟩:=bcell hw';go_simp;first|rfl|exact⟨rfl,rfl⟩|exact⟨rfl⟩;clear hK K)
 refine wpQuiet_step (fun K hK=>?_)
 go_simp
 apply Exists.intro
 refine And.intro (fun w' hw'=>?_) (hK _ ?_)
 ·refine(((uh HH).call _ (uh HTl _ _ (uh HT) hw'))).mono ?_
  rintro e w'' ⟨rfl,hb⟩
  exact⟨rfl,hw'.trans (hb.mono hw'.size)⟩
 clear hK K
 obtain⟨a0,ha0⟩:∃a0,a0=h%d.x:=⟨_,rfl⟩
 have hr0:(h:Int).tmod (d.x:Int)=(a0:Int):=by rw[ha0,Int.tmod_eq_emod_of_nonneg (by omega)];exact(Int.natCast_emod _ _).symm
 have ha1:a0<d.x:=by rw[ha0];exact Nat.mod_lt _ hxp
 have hhl:=(uh HH).lt
 have HA0:=uy ha0
 clear ha0
 iterate 3 (refine wpQuiet_step (fun K hK=>?_);go_simp;refine⟨_,fun w' hw'=>rfl,hK _ ?_⟩;clear hK K)
 refine wpQuiet_nil ?_
 intro w2 hw2
 have HJ2:=uy ((uh HJ) [] W w2 none (uh H0) (grown_of_below hw2) (fun r e=>by cases e))
 clear hw2 hr0 m0 c2 c3 k0 k1 k2 k3 k4
 gi_wp2
 gi_loopw [24] (fun i wr=>∃(j:Nat) (pre:List {a:Nat//a<d.x}),j<=d.x/\i=.int .u64 (j:Int)/\SqTo d h j pre/\J pre wr) (fun i _=>d.x-(intOf i).toNat)
 case atStart=>exact⟨0,[],by omega,rfl,rfl,uh HJ2⟩
 case round=>
  clear HJ2
  obtain⟨j,pre,hj,rfl,hsq,hJp⟩:=hrel
  by_cases hjx:j<d.x
  ·obtain⟨a1,ha⟩:∃a1,a1=(a0+j)%d.x:=⟨_,rfl⟩
   have hlt1:a1<d.x:=by rw[ha];exact Nat.mod_lt _ hxp
   have hr1:((a0:Int)+(j:Int)).tmod (d.x:Int)=(a1:Int):=by rw[ha,Int.tmod_eq_emod_of_nonneg (by omega),Int.natCast_emod,Int.natCast_add]
   obtain⟨fn,tmps,assign,body,hy,hR⟩:=uh HY pre ⟨a1,hlt1⟩ wr hJp (by rw[hsq.len];exact hjx)
   have HSN:Hid (SqTo d h (j+1) (pre++[⟨a1,hlt1⟩])):=uy (by
    have:=hsq.snoc (by rw[<-uh HA0,<-ha];exact hlt1)
    simp only[<-uh HA0,<-ha]at this
    exact this)
   have HR:=uy hR
   clear hR hsq hJp ha
   dsimp only at hy
   gi_wp2
   refine(uh HR).mono ?_
   rintro e W3 (⟨rfl,hJ3,hk3⟩|⟨rfl,hJx3⟩)
   ·clear HR hy
    gi_wp2
    go_roundw
    case rel=>exact⟨j+1,_,by omega,by go_num,uh HSN,hJ3⟩
    case measure=>simp[intOf];omega
   ·clear HR hy
    gi_wp2
    refine bodyPost_ret (results_none rfl _ _ _) rfl ?_
    exact⟨⟨_,rfl⟩,.inr ⟨_,(uh HSN).pre (by omega),hJx3⟩⟩
  ·have hjx':j=d.x:=by omega
   subst hjx'
   have HS:=uy hsq
   clear hsq
   gi_wp2
   go_end0
   exact⟨⟨_,rfl⟩,.inl ⟨pre,uh HS,hJp⟩⟩
end
section
open Go.RowKit Go.Shelf
attribute [local go_sem] run_store_float run_equalIn_float Oper.semAt_some
def Stop(d:Dc)(v:Vl)(a:Nat):Prop:=d.X a=0\/(0<d.X a/\likeB (d.at (d.X a)).key v=true)
open Classical in
noncomputable def findL(d:Dc)(v:Vl):List Nat->Option Nat
 |[]=>none
 |a::l=>if d.X a=0 then none else if 0<d.X a/\likeB (d.at (d.X a)).key v=true then some a else findL d v l
theorem findL_none{d:Dc}{v:Vl}{l:List Nat}(h:∀a∈l,¬Stop d v a):findL d v l=none:=by
 induction l with
 |nil=>rfl
 |cons a l ih=>
  have h1:=h a (by simp)
  unfold findL
  rw[if_neg (fun e=>h1 (.inl e)),if_neg (fun e=>h1 (.inr e))]
  exact ih (fun b hb=>h b (by simp[hb]))
theorem findL_stop{d:Dc}{v:Vl}{l l':List Nat}{a:Nat}(h:∀b∈l,¬Stop d v b)(hp:l++[a]<+:l')(hs:Stop d v a):findL d v l'=if d.X a=0 then none else some a:=by
 obtain⟨r,rfl⟩:=hp
 induction l with
 |nil=>
  show(if _ then _ else _)=_
  by_cases e:d.X a=0
  ·rw[if_pos e,if_pos e]
  ·rw[if_neg e,if_neg e,if_pos (hs.resolve_left e)]
 |cons b l ih=>
  have h1:=h b (by simp)
  show(if _ then _ else _)=_
  rw[if_neg (fun e=>h1 (.inl e)),if_neg (fun e=>h1 (.inr e))]
  exact ih (fun c hc=>h c (by simp[hc]))
theorem probe_findL{d:Dc}{v:Vl}(hx:0<d.x):∀(f a:Nat),a<d.x->probe d v a f=findL d v (seqL d.x a f):=by
 intro f
 induction f with
 |zero=>intro a _;rfl
 |succ f ih=>
  intro a ha
  have e:seqL d.x a (f+1)=a::seqL d.x ((a+1)%d.x) f:=by
   unfold seqL
   rw[List.range_succ_eq_map]
   simp only[List.map_cons,List.map_map,Nat.add_zero,Nat.mod_eq_of_lt ha]
   congr 1
   apply List.map_congr_left
   intro j _
   simp only[Function.comp]
   rw[Nat.mod_add_mod]
   congr 1
   omega
  rw[e]
  show(if _ then _ else _)=(if _ then _ else _)
  rw[ih _ (Nat.mod_lt _ hx)]
theorem slotOf_findL{d:Dc}{v:Vl}{h:Nat}:slotOf d v h=findL d v (seqL d.x (h%d.x) d.x):=by
 unfold slotOf
 by_cases h0:d.x=0
 ·rw[if_pos h0,h0];rfl
 ·rw[if_neg h0]
  exact probe_findL (by omega) _ _ (Nat.mod_lt _ (by omega))
theorem keeps_of_below{W W':World}(h:Below W.heap.size W W'):KeepsOthers W W':=⟨h.size,fun k o hk _=>(h.block k (Array.getElem?_eq_some_iff.1 hk).1).trans hk⟩
theorem find_any(T:World->Prop)(hTl:Lasts T)(bk R0 R1 R2:Nat)(E S:Nat->Nat)(d:Dc)(v:Vl)(h:Nat)(hh:HsI T v h)(w:World)(hT:T w)(hB:Book w bk R0 R1 R2 E S d)(hS:Small d)(h4:D4 d):
  Calls Tryz.prog 280 #[.pointer (some ⟨bk,2,none⟩),V v.kind v.num v.flt v.str v.ref] w fun e w'=>e=.returned (.int .i64 (slotI (slotOf d v h)))/\Below w.heap.size w w':=by
 have hx:=hS.x
 refine(callsIn_wide (n:=10)).1 ?_
 refine callsIn_of_wp_marks Tryz.func280 rfl trivial ?_ rfl
 simp only[Tryz.ntmps280,List.size_toArray,List.length_cons,List.length_nil,Nat.reduceAdd,Nat.reduceSub,Array.replicate_succ,Array.replicate_zero,List.push_toArray,List.append_toArray,List.nil_append,List.cons_append]
 gi_wp2_with (refine⟨trivial,?_⟩;gi_at_call 297;refine(callsIn_wide.2 (from_any (some ⟨bk,2,none⟩) v _)).mono ?_;rintro e w' ⟨rfl,rfl⟩)
 obtain⟨u,hu⟩:∃u,u=((((w.alloc (.cells #[.pointer (some ⟨bk,2,none⟩)] 377)).alloc (.cells #[.int .i64 v.kind,.int .i64 v.num,.float .f64 v.flt,.string v.str,.int .i64 v.ref] 43)).alloc (.cells #[.int .i64 0] 3)).alloc (.cells #[.pointer (some ⟨bk,2,none⟩)] 377)).alloc (.cells #[.int .i64 v.kind,.int .i64 v.num,.float .f64 v.flt,.string v.str,.int .i64 v.ref] 43):=⟨_,rfl⟩
 rw[<-hu]
 have zu:u.heap.size=w.heap.size+5:=by rw[hu];simp
 have bu:Below w.heap.size w u:=by rw[hu];exact(((((Below.refl _ _).alloc (Nat.le_refl _) _).alloc (by simp) _).alloc (by simp;omega) _).alloc (by simp;omega) _).alloc (by simp;omega) _
 have n0:u.cell? ⟨w.heap.size,0,none⟩=some (.pointer (some ⟨bk,2,none⟩)):=by rw[hu];simp[go_sem]
 have i0:u.cell? ⟨w.heap.size+1,0,none⟩=some (.int .i64 v.kind):=by rw[hu];simp[go_sem]
 have i1:u.cell? ⟨w.heap.size+1,1,none⟩=some (.int .i64 v.num):=by rw[hu];simp[go_sem]
 have i2:u.cell? ⟨w.heap.size+1,2,none⟩=some (.float .f64 v.flt):=by rw[hu];simp[go_sem]
 have i3:u.cell? ⟨w.heap.size+1,3,none⟩=some (.string v.str):=by rw[hu];simp[go_sem]
 have i4:u.cell? ⟨w.heap.size+1,4,none⟩=some (.int .i64 v.ref):=by rw[hu];simp[go_sem]
 have r0:u.cell? ⟨w.heap.size+1+1,0,none⟩=some (.int .i64 0):=by rw[hu];simp[go_sem]
 have r1:u.frozen? ⟨w.heap.size+1+1,0,none⟩=false:=by rw[hu];simp[go_sem]
 have m0:u.cell? ⟨w.heap.size+1+1+1,0,none⟩=some (.pointer (some ⟨bk,2,none⟩)):=by rw[hu];simp[go_sem]
 have j0:u.cell? ⟨w.heap.size+1+1+1+1,0,none⟩=some (.int .i64 v.kind):=by rw[hu];simp[go_sem]
 have j1:u.cell? ⟨w.heap.size+1+1+1+1,1,none⟩=some (.int .i64 v.num):=by rw[hu];simp[go_sem]
 have j2:u.cell? ⟨w.heap.size+1+1+1+1,2,none⟩=some (.float .f64 v.flt):=by rw[hu];simp[go_sem]
 have j3:u.cell? ⟨w.heap.size+1+1+1+1,3,none⟩=some (.string v.str):=by rw[hu];simp[go_sem]
 have j4:u.cell? ⟨w.heap.size+1+1+1+1,4,none⟩=some (.int .i64 v.ref):=by rw[hu];simp[go_sem]
 have hBu:=hB.below bu
 have hTu:=hTl _ _ hT bu
 clear hu
 refine wpIn_rangeFunc_ownF rfl (by decide) (gf:=308) (lb:=#[.pointer (some ⟨w.heap.size+1+1+1,0,none⟩),.pointer (some ⟨w.heap.size+1+1+1+1,0,none⟩)]) rfl trivial (enters_of Tryz.func308 (by kernel_rfl) rfl)
  (from_stops 9 (by decide) T hTl bk R2 (w.heap.size+1+1+1) (w.heap.size+1+1+1+1) d v h w.heap.size hh u hTu hx m0 hBu.c2 hBu.c3 j0 j1 j2 j3 j4) belowK_t (belowK_b (by omega)) (Below.refl _ _) (fun _=>rfl)
  (fun pre W=>((∀y∈pre,¬Stop d v y.1)/\W.cell? ⟨w.heap.size,0,none⟩=some (.pointer (some ⟨bk,2,none⟩))/\W.cell? ⟨w.heap.size+1,0,none⟩=some (.int .i64 v.kind)/\W.cell? ⟨w.heap.size+1,1,none⟩=some (.int .i64 v.num)/\W.cell? ⟨w.heap.size+1,2,none⟩=some (.float .f64 v.flt)/\W.cell? ⟨w.heap.size+1,3,none⟩=some (.string v.str)/\W.cell? ⟨w.heap.size+1,4,none⟩=some (.int .i64 v.ref)/\W.cell? ⟨w.heap.size+1+1,0,none⟩=some (.int .i64 0)/\W.frozen? ⟨w.heap.size+1+1,0,none⟩=false)/\Below w.heap.size w W)
  (fun c pre W=>(c=.ret/\(∃pre' a,pre=pre'++[a]/\(∀y∈pre',¬Stop d v y.1)/\Stop d v a.1/\W.cell? ⟨w.heap.size+1+1,0,none⟩=some (.int .i64 (slotI (if d.X a.1=0 then none else some a.1)))))/\Below w.heap.size w W)
  (OwnFrom.and (Own.from (fun s A B row hs hg hr=>⟨hs.1,cell_kept hs.2.1 hg hr,cell_kept hs.2.2.1 hg hr,cell_kept hs.2.2.2.1 hg hr,cell_kept hs.2.2.2.2.1 hg hr,cell_kept hs.2.2.2.2.2.1 hg hr,cell_kept hs.2.2.2.2.2.2.1 hg hr,cell_kept hs.2.2.2.2.2.2.2.1 hg hr,(frozen_kept hs.2.2.2.2.2.2.2.1 hg hr).trans hs.2.2.2.2.2.2.2.2⟩) _) (ownFrom_below (Nat.le_refl _) (by omega)))
  (fun c=>OwnFrom.and (Own.from (fun s A B row hs hg hr=>⟨hs.1,by obtain⟨pre',a,h1,h2,h3,h4⟩:=hs.2;exact⟨pre',a,h1,h2,h3,cell_kept h4 hg hr⟩⟩) _) (ownFrom_below (Nat.le_refl _) (by omega)))
  ⟨⟨by simp,n0,i0,i1,i2,i3,i4,r0,r1⟩,bu⟩
  ?a1 ?assign ?body ?done ?stop
 case assign=>
  intro l x W K hK
  gi_wp2
  exact hK
 case body=>
  rintro l pre ⟨a,ha⟩ W ⟨⟨hp,g0,e0,e1,e2,e3,e4,s0,s1⟩,hBW⟩ _
  have hBk:=hB.below hBW
  have c3:=hBk.c3
  have p0:=hBk.r2 a ha
  have hsl:=hBk.sl a ha
  have lW:bk<W.heap.size:=hBk.lt
  have lR:R2<W.heap.size:=hBk.l2
  have z0:=World.block_lt_of_cell? _ _ g0
  have z1:=World.block_lt_of_cell? _ _ e0
  have z2:=World.block_lt_of_cell? _ _ s0
  dsimp only at z0 z1 z2
  have HP:=uy hp
  have HBW:=uy hBW
  clear hBk hp hBW n0 i0 i1 i2 i3 i4 r0 r1 m0 j0 j1 j2 j3 j4 hBu hTu bu zu hB hT hh hTl
  rcases h4.2.1 a ha with hs|hs|hs
  ·have hst:Stop d v a:=.inl hs
   have HS:=uy hst
   rw[show sltP S a (d.X a)=none from if_pos hs]at p0
   have HX:Hid (slotI (if d.X a=0 then none else some a)=-1):=uy (by rw[if_pos hs];rfl)
   clear hsl hs hst
   gi_wp2
   exact⟨KeepsOthers.setCell _ _ _,⟨rfl,pre,⟨a,ha⟩,rfl,uh HP,uh HS,by rw[uh HX];exact World.cell?_setCell_same' _ _ _ (by rw[s0];rfl)⟩,(uh HBW).setCell (p:=⟨w.heap.size+1+1,0,none⟩) (by show w.heap.size<=w.heap.size+1+1;omega) _⟩
  ·have hns:¬Stop d v a:=fun h=>by rcases h with h|h<;>omega
   have HS:=uy hns
   rw[show sltP S a (d.X a)=some ⟨S a,0,none⟩from if_neg (by omega)]at p0
   obtain⟨hsz,hgn⟩:=hsl.2 (by omega)
   clear hsl hs hns
   gi_wp2
   refine wpIn_region_quiet (C:=fun w'=>Below W.heap.size W w') (by kernel_rfl) (by kernel_rfl) (by kernel_rfl) ((Below.refl _ _).drew) ?_
   show wpQuiet _ _ _ _ [_,_,_,_,_,_,_,_,_,_,_,_,_] _
   iterate 3 (refine wpQuiet_step (fun K hK=>?_);go_simp;refine⟨_,fun w' hw'=>rfl,hK _ ?_⟩;clear hK K)
   (refine wpQuiet_step (fun K hK=>?_);go_simp;refine Exists.intro ?_ (And.intro (fun w' hw'=>?_) (hK _ ?_));rotate_left;obtain⟨hc',hf'⟩:=bcell hw';go_simp;first|rfl|exact⟨rfl,rfl⟩|exact⟨rfl⟩;clear hK K)
   iterate 2 (refine wpQuiet_step (fun K hK=>?_);go_simp;refine⟨_,fun w' hw'=>rfl,hK _ ?_⟩;clear hK K)
   go_big_quiet_step (fail)
   go_big_quiet_step (fail)
   go_big_quiet_step (fail)
   go_big_quiet_step (fail)
   go_big_quiet_step (fail)
   go_big_quiet_step (fail)
   (refine wpQuiet_step (fun K hK=>?_);go_simp;refine⟨_,fun w' hw'=>rfl,hK _ ?_⟩;clear hK K)
   refine wpQuiet_nil ?_
   intro w2 hw2
   have HK:=uy (keeps_of_below hw2)
   have HB2:=uy hw2
   have g0:=(hw2.cell (p:=⟨w.heap.size,0,none⟩) z0).trans g0
   have e0:=(hw2.cell (p:=⟨w.heap.size+1,0,none⟩) z1).trans e0
   have e1:=(hw2.cell (p:=⟨w.heap.size+1,1,none⟩) z1).trans e1
   have e2:=(hw2.cell (p:=⟨w.heap.size+1,2,none⟩) z1).trans e2
   have e3:=(hw2.cell (p:=⟨w.heap.size+1,3,none⟩) z1).trans e3
   have e4:=(hw2.cell (p:=⟨w.heap.size+1,4,none⟩) z1).trans e4
   have s0:=(hw2.cell (p:=⟨w.heap.size+1+1,0,none⟩) z2).trans s0
   have s1:=(hw2.frozen (p:=⟨w.heap.size+1+1,0,none⟩) z2).trans s1
   clear hw2
   gi_wp2
   exact⟨uh HK,(uh HB2).mono (uh HBW).size,⟨fun y hy=>(List.mem_append.1 hy).elim (uh HP y) (fun e=>by simp at e;subst e;exact uh HS),g0,e0,e1,e2,e3,e4,s0,s1⟩,(uh HBW).trans ((uh HB2).mono (uh HBW).size)⟩
  ·rw[show sltP S a (d.X a)=some ⟨S a,0,none⟩from if_neg (by omega)]at p0
   obtain⟨hsz,f0,f1,f2,f3,f4,f5,f6⟩:=hsl.1 hs.1
   have hsp:=hs.1
   generalize hkv:(d.at (d.X a)).key=kv at*
   cases hlk:likeB kv v
   ·have hns:¬Stop d v a:=fun h=>by
     rcases h with h|h
     ·omega
     ·rw[hkv,hlk]at h;exact absurd h.2 (by decide)
    have HS:=uy hns
    have hl':(kv.kind==v.kind&&(kv.num==v.num&&((FloatKind.f64.format.order kv.flt v.flt==some .eq)&&(kv.str.toList==v.str.toList&&kv.ref==v.ref))))=false:=hlk
    clear hsl hs hns hsp hkv
    gi_wp2
    refine wpIn_region_quiet (C:=fun w'=>Below W.heap.size W w') (by kernel_rfl) (by kernel_rfl) (by kernel_rfl) ((Below.refl _ _).drew) ?_
    show wpQuiet _ _ _ _ [_,_,_,_,_,_,_,_,_,_,_,_,_] _
    iterate 3 (refine wpQuiet_step (fun K hK=>?_);go_simp;refine⟨_,fun w' hw'=>rfl,hK _ ?_⟩;clear hK K)
    (refine wpQuiet_step (fun K hK=>?_);go_simp;refine Exists.intro ?_ (And.intro (fun w' hw'=>?_) (hK _ ?_));rotate_left;obtain⟨hc',hf'⟩:=bcell hw';go_simp;first|rfl|exact⟨rfl,rfl⟩|exact⟨rfl⟩;clear hK K)
    iterate 5 (refine wpQuiet_step (fun K hK=>?_);go_simp;refine⟨_,fun w' hw'=>rfl,hK _ ?_⟩;clear hK K)
    iterate 2 (refine wpQuiet_step (fun K hK=>?_);go_simp;refine Exists.intro ?_ (And.intro (fun w' hw'=>?_) (hK _ ?_));rotate_left;obtain⟨hc',hf'⟩:=bcell hw';go_simp;first|rfl|exact⟨rfl,rfl⟩|exact⟨rfl⟩;clear hK K)
    refine wpQuiet_step (fun K hK=>?_)
    go_simp
    refine⟨.bool false,fun w' hw'=>?_,hK _ ?_⟩
    ·by_cases q1:kv.kind=v.kind<;>by_cases q2:kv.num=v.num<;>by_cases q3:FloatKind.f64.format.order kv.flt v.flt=some Ordering.eq<;>by_cases q4:kv.str.toList=v.str.toList<;>by_cases q5:kv.ref=v.ref<;>simp_all
    clear hK K
    (refine wpQuiet_step (fun K hK=>?_);go_simp;refine⟨_,fun w' hw'=>rfl,hK _ ?_⟩;clear hK K)
    refine wpQuiet_nil ?_
    intro w2 hw2
    have HK:=uy (keeps_of_below hw2)
    have HB2:=uy hw2
    have g0:=(hw2.cell (p:=⟨w.heap.size,0,none⟩) z0).trans g0
    have e0:=(hw2.cell (p:=⟨w.heap.size+1,0,none⟩) z1).trans e0
    have e1:=(hw2.cell (p:=⟨w.heap.size+1,1,none⟩) z1).trans e1
    have e2:=(hw2.cell (p:=⟨w.heap.size+1,2,none⟩) z1).trans e2
    have e3:=(hw2.cell (p:=⟨w.heap.size+1,3,none⟩) z1).trans e3
    have e4:=(hw2.cell (p:=⟨w.heap.size+1,4,none⟩) z1).trans e4
    have s0:=(hw2.cell (p:=⟨w.heap.size+1+1,0,none⟩) z2).trans s0
    have s1:=(hw2.frozen (p:=⟨w.heap.size+1+1,0,none⟩) z2).trans s1
    clear hw2
    gi_wp2
    exact⟨uh HK,(uh HB2).mono (uh HBW).size,⟨fun y hy=>(List.mem_append.1 hy).elim (uh HP y) (fun e=>by simp at e;subst e;exact uh HS),g0,e0,e1,e2,e3,e4,s0,s1⟩,(uh HBW).trans ((uh HB2).mono (uh HBW).size)⟩
   ·have hst:Stop d v a:=.inr ⟨hsp,by rw[hkv];exact hlk⟩
    have HS:=uy hst
    have HX:Hid (slotI (if d.X a=0 then none else some a)=(a:Int)):=uy (by rw[if_neg (by omega)];rfl)
    have hl':(kv.kind==v.kind&&(kv.num==v.num&&((FloatKind.f64.format.order kv.flt v.flt==some .eq)&&(kv.str.toList==v.str.toList&&kv.ref==v.ref))))=true:=hlk
    clear hsl hs hst hsp hkv
    gi_wp2
    refine wpIn_region_quiet (C:=fun w'=>Below W.heap.size W w') (by kernel_rfl) (by kernel_rfl) (by kernel_rfl) ((Below.refl _ _).drew) ?_
    show wpQuiet _ _ _ _ [_,_,_,_,_,_,_,_,_,_,_,_,_] _
    iterate 3 (refine wpQuiet_step (fun K hK=>?_);go_simp;refine⟨_,fun w' hw'=>rfl,hK _ ?_⟩;clear hK K)
    (refine wpQuiet_step (fun K hK=>?_);go_simp;refine Exists.intro ?_ (And.intro (fun w' hw'=>?_) (hK _ ?_));rotate_left;obtain⟨hc',hf'⟩:=bcell hw';go_simp;first|rfl|exact⟨rfl,rfl⟩|exact⟨rfl⟩;clear hK K)
    iterate 5 (refine wpQuiet_step (fun K hK=>?_);go_simp;refine⟨_,fun w' hw'=>rfl,hK _ ?_⟩;clear hK K)
    iterate 2 (refine wpQuiet_step (fun K hK=>?_);go_simp;refine Exists.intro ?_ (And.intro (fun w' hw'=>?_) (hK _ ?_));rotate_left;obtain⟨hc',hf'⟩:=bcell hw';go_simp;first|rfl|exact⟨rfl,rfl⟩|exact⟨rfl⟩;clear hK K)
    refine wpQuiet_step (fun K hK=>?_)
    go_simp
    refine⟨.bool true,fun w' hw'=>?_,hK _ ?_⟩
    ·by_cases q1:kv.kind=v.kind<;>by_cases q2:kv.num=v.num<;>by_cases q3:FloatKind.f64.format.order kv.flt v.flt=some Ordering.eq<;>by_cases q4:kv.str.toList=v.str.toList<;>by_cases q5:kv.ref=v.ref<;>simp_all
    clear hK K
    (refine wpQuiet_step (fun K hK=>?_);go_simp;refine⟨_,fun w' hw'=>rfl,hK _ ?_⟩;clear hK K)
    refine wpQuiet_nil ?_
    intro w2 hw2
    have HK:=uy (keeps_of_below hw2)
    have HB2:=uy hw2
    have g0:=(hw2.cell (p:=⟨w.heap.size,0,none⟩) z0).trans g0
    have e0:=(hw2.cell (p:=⟨w.heap.size+1,0,none⟩) z1).trans e0
    have e1:=(hw2.cell (p:=⟨w.heap.size+1,1,none⟩) z1).trans e1
    have e2:=(hw2.cell (p:=⟨w.heap.size+1,2,none⟩) z1).trans e2
    have e3:=(hw2.cell (p:=⟨w.heap.size+1,3,none⟩) z1).trans e3
    have e4:=(hw2.cell (p:=⟨w.heap.size+1,4,none⟩) z1).trans e4
    have s0:=(hw2.cell (p:=⟨w.heap.size+1+1,0,none⟩) z2).trans s0
    have s1:=(hw2.frozen (p:=⟨w.heap.size+1+1,0,none⟩) z2).trans s1
    clear hw2
    gi_wp2
    exact⟨(uh HK).trans (KeepsOthers.setCell _ _ _),⟨rfl,pre,⟨a,ha⟩,rfl,uh HP,uh HS,by rw[uh HX];exact World.cell?_setCell_same' _ _ _ (by rw[s0];rfl)⟩,((uh HBW).trans ((uh HB2).mono (uh HBW).size)).setCell (p:=⟨w.heap.size+1+1,0,none⟩) (by show w.heap.size<=w.heap.size+1+1;omega) _⟩
 case done=>
  rintro D ys W hD hsq ⟨⟨hp,_,_,_,_,_,_,hcr,hfr⟩,hBW⟩ hK
  have HR:Hid (slotOf d v h=none):=uy (by
   rw[slotOf_findL,<-show ys.map (·.1)=seqL d.x (h%d.x) d.x from hsq]
   exact findL_none (fun a ha=>by obtain⟨y,hy,rfl⟩:=List.mem_map.1 ha;exact hp y hy))
  clear hsq hp hh hB hBu
  gi_wp2
  have hK':=(KeepsOthers.setCell W ⟨w.heap.size+1+1,0,none⟩ (.int .i64 (-1))).same D _ hK rfl
  refine⟨by simp,.inl ⟨_,_,rfl,run_takeDeferred hK',?_⟩⟩
  have hc5:=cell_kept (World.cell?_setCell_same' W ⟨w.heap.size+1+1,0,none⟩ (.int .i64 (-1)) (by rw[hcr];rfl)) (grownBy_putObj' _ D (.deferred none)) (fun r e=>by cases e;exact⟨_,hK',rfl⟩)
  refine⟨.int .i64 (-1),?_,by rw[uh HR];rfl,(hBW.setCell (p:=⟨w.heap.size+1+1,0,none⟩) (by show w.heap.size<=w.heap.size+1+1;omega) _).trans (belowK_b (w:=w) (Nat.le_refl _) _ D _ _ (by omega) hK' rfl rfl)⟩
  simp[results,Tryz.f280,go_sem,hc5]
 case stop=>
  rintro D c pre W hD hpre ⟨⟨rfl,pre',a,rfl,h1,h2,hcr⟩,hBW⟩ hK
  have HR:Hid (slotOf d v h=if d.X a.1=0 then none else some a.1):=uy (by
   rw[slotOf_findL]
   have hp:(pre'++[a]).map (·.1)<+:seqL d.x (h%d.x) d.x:=hpre
   rw[List.map_append]at hp
   exact findL_stop (fun b hb=>by obtain⟨y,hy,rfl⟩:=List.mem_map.1 hb;exact h1 y hy) hp h2)
  clear hpre h1 h2 hh hB hBu
  gi_wp2
  refine⟨by simp,.inl ⟨_,_,rfl,run_takeDeferred hK,?_⟩⟩
  have hc5:=cell_kept hcr (grownBy_putObj' _ D (.deferred none)) (fun r e=>by cases e;exact⟨_,hK,rfl⟩)
  refine⟨.int .i64 (slotI (if d.X a.1=0 then none else some a.1)),?_,by rw[uh HR],hBW.trans (belowK_b (w:=w) (Nat.le_refl _) W D _ _ (by omega) hK rfl rfl)⟩
  simp[results,Tryz.f280,go_sem,hc5]
end
end Go.Proofs.YtgmlkfgfjjggnaaGreatDoor
