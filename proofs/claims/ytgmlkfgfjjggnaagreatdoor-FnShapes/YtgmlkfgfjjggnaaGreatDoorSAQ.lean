import Derived.Below
import Derived.WalkKit
import Derived.LaidEql
import Derived.Handy
import Derived.RowKitTokens
import Derived.Test.YtgmlkfgfjjggnaaGreatDoorSAA
set_option linter.unusedVariables false
set_option linter.unusedSimpArgs false
set_option maxHeartbeats 40000000
set_option maxRecDepth 100000
namespace Go.Proofs.YtgmlkfgfjjggnaaGreatDoor
section
open Go.RowKit Go.Extern
abbrev ErrT:Value:=.iface 341 (.agg #[.pointer (some ⟨5,200,none⟩)])
def ErrG(w:World):Prop:=w.cell? ⟨0,0,none⟩=some ErrT
theorem ErrG.lt{w:World}(h:ErrG w):0<w.heap.size:=by
 rcases Nat.lt_or_ge 0 w.heap.size with h1|h1
 ·exact h1
 ·unfold ErrG at h;simp[World.cell?,Array.getElem?_eq_none h1]at h
theorem ErrG.below{B:Nat}{w w':World}(h:ErrG w)(hb:Below B w w')(hB:0<B):ErrG w':=
 (World.cell?_of_block (hb.block _ hB)).trans h
theorem er_valP(t:Addr)(w:World):(ReflectliteValue.unpack (.iface 269 (.pointer (some t)))).run Tryz.prog w
  =.ok (.agg #[.pointer (some ⟨5,269,none⟩),.pointer (some ⟨w.heap.size,0,none⟩),.int .u64 150]) (w.alloc (.cells #[.pointer (some t)] 269)):=by kernel_rfl
theorem er_typP(a:Addr)(w:World):(ReflectliteValue.methodAny (ReflectliteValue.valueError "reflectlite.Value.Type" 0) (fun t _ _ _=>ReflectliteType.toType t) #[.agg #[.pointer (some ⟨5,269,none⟩),.pointer (some a),.int .u64 150]]).run Tryz.prog w
  =.ok (.iface 341 (.agg #[.pointer (some ⟨5,269,none⟩)])) w:=by kernel_rfl
theorem er_kindP(w:World):((ReflectliteType.abiMethod fun t=>(fun a:Nat=>Value.int IntKind.u8 (a:Int)) <$> Rtype.kind t) #[.pointer (some ⟨5,269,none⟩)]).run Tryz.prog w=.ok (.int .u8 22) w:=by kernel_rfl
theorem er_kindF(w:World):((ReflectliteType.abiMethod fun t=>(fun a:Nat=>Value.int IntKind.u8 (a:Int)) <$> Rtype.kind t) #[.pointer (some ⟨5,267,none⟩)]).run Tryz.prog w=.ok (.int .u8 25) w:=by kernel_rfl
theorem er_m(z:Sem Value)(f:TypeId->Addr->Nat->Nat->Sem Value)(v:Value):
  ReflectliteValue.method z f #[v]=(do match<-ReflectliteValue.parts v with|none=>z|some (t,a,fl)=>f t a fl (fl%32)):=rfl
theorem er_partsP(a:Addr)(w:World):(ReflectliteValue.parts (.agg #[.pointer (some ⟨5,269,none⟩),.pointer (some a),.int .u64 150])).run Tryz.prog w=.ok (some (269,a,150)) w:=by kernel_rfl
theorem er_isNil(a p:Addr)(W:World)(ha:W.cell? a=some (.pointer (some p))):
  (ReflectliteValue.method (ReflectliteValue.valueError "reflectlite.Value.IsNil" 0) ReflectliteValue.isNil #[.agg #[.pointer (some ⟨5,269,none⟩),.pointer (some a),.int .u64 150]]).run Tryz.prog W=.ok (.bool false) W:=by
 rw[er_m]
 simp only[Sem.run_bind,er_partsP,Result.andThen]
 simp[ReflectliteValue.isNil,loadVar,isAgg,underlying,Tryz.underlying269,ha,Result.andThen]
theorem er_elem(w:World):(ReflectliteType.method ReflectliteType.elem #[.agg #[.pointer (some ⟨5,269,none⟩)]]).run Tryz.prog w=.ok (.iface 341 (.agg #[.pointer (some ⟨5,267,none⟩)])) w:=by kernel_rfl
theorem er_impl(w:World):(ReflectliteType.relation "Implements" ReflectliteType.implements_ #[.agg #[.pointer (some ⟨5,267,none⟩)],ErrT]).run Tryz.prog w=.ok (.bool true) w:=by kernel_rfl
theorem er_typeOf(v:Value)(w:World):(ReflectliteType.typeOf #[.iface 267 v]).run Tryz.prog w=.ok (.iface 341 (.agg #[.pointer (some ⟨5,267,none⟩)])) w:=by kernel_rfl
theorem er_assign(w:World):(ReflectliteType.relation "AssignableTo" ReflectliteType.assignableTo #[.agg #[.pointer (some ⟨5,267,none⟩)],.iface 341 (.agg #[.pointer (some ⟨5,267,none⟩)])]).run Tryz.prog w=.ok (.bool true) w:=by kernel_rfl
theorem er_valF(c:Int)(w:World):(ReflectliteValue.unpack (.iface 267 (.agg #[.int .i64 c]))).run Tryz.prog w
  =.ok (.agg #[.pointer (some ⟨5,267,none⟩),.pointer (some ⟨w.heap.size,0,none⟩),.int .u64 153]) (w.alloc (.cells #[.int .i64 c] 267)):=by kernel_rfl
theorem er_elemOf(w:World):(Rtype.elem? 269).run Tryz.prog w=.ok (some 267) w:=by kernel_rfl
theorem er_mk(p:Addr)(w:World):(ReflectliteValue.mk 267 p ReflectliteValue.flagAddr).run Tryz.prog w=.ok (.agg #[.pointer (some ⟨5,267,none⟩),.pointer (some p),.int .u64 409]) w:=by kernel_rfl
theorem er_elemV(a p:Addr)(W:World)(ha:W.cell? a=some (.pointer (some p))):
  (ReflectliteValue.method (ReflectliteValue.valueError "reflectlite.Value.Elem" 0) ReflectliteValue.elem #[.agg #[.pointer (some ⟨5,269,none⟩),.pointer (some a),.int .u64 150]]).run Tryz.prog W
   =.ok (.agg #[.pointer (some ⟨5,267,none⟩),.pointer (some p),.int .u64 409]) W:=by
 rw[er_m]
 simp only[Sem.run_bind,er_partsP,Result.andThen]
 simp[ReflectliteValue.elem,loadVar,isAgg,underlying,Tryz.underlying269,ha,Result.andThen,er_elemOf,er_mk]
theorem er_s(v x:Value):ReflectliteValue.set #[v,x]=(do
  let (some (dst,a,fl),some (src,b,_)):=(<-ReflectliteValue.parts v,<-ReflectliteValue.parts x)
   |unsupported (.noEntry "extern/(internal/reflectlite.Value).Set.zeroValue")
  if fl/ReflectliteValue.flagAddr%2==0 then unsupported (.noEntry "extern/(internal/reflectlite.Value).Set.unaddressable")
  let val<-loadVar src b
  if<-Rtype.directlyAssignable dst src then storeVar dst a val
  else if<-Rtype.implements dst src then
   if(<-Rtype.kind src)==20 then
    match val with
    |.nilIface=>unsupported (.noEntry "extern/reflectlite: a nil value of one interface type handed on as a value of another")
    |_=>storeVar dst a val
   else storeVar dst a (.iface src val)
  else panicString ("reflectlite.Set: value of type " ++(<-Rtype.spelt src)++ " is not assignable to type " ++(<-Rtype.spelt dst))
  pure (.tuple #[])):=rfl
theorem er_partsA(a:Addr)(w:World):(ReflectliteValue.parts (.agg #[.pointer (some ⟨5,267,none⟩),.pointer (some a),.int .u64 409])).run Tryz.prog w=.ok (some (267,a,409)) w:=by kernel_rfl
theorem er_partsF(a:Addr)(w:World):(ReflectliteValue.parts (.agg #[.pointer (some ⟨5,267,none⟩),.pointer (some a),.int .u64 153])).run Tryz.prog w=.ok (some (267,a,153)) w:=by kernel_rfl
theorem er_direct(w:World):(Rtype.directlyAssignable 267 267).run Tryz.prog w=.ok true w:=by kernel_rfl
theorem er_load(w:World)(c:Int):(loadVar 267 ⟨w.heap.size,0,none⟩).run Tryz.prog (w.alloc (.cells #[.int .i64 c] 267))=.ok (.agg #[.int .i64 c]) (w.alloc (.cells #[.int .i64 c] 267)):=by
 simp[loadVar,isAgg,underlying,Tryz.underlying267,Result.andThen,go_sem]
theorem er_set(tb:Nat)(c:Int)(old:Value)(w:World)(hl:tb<w.heap.size)(ht:w.cell? ⟨tb,0,none⟩=some old)(hf:w.frozen? ⟨tb,0,none⟩=false):
  (ReflectliteValue.set #[.agg #[.pointer (some ⟨5,267,none⟩),.pointer (some ⟨tb,0,none⟩),.int .u64 409],.agg #[.pointer (some ⟨5,267,none⟩),.pointer (some ⟨w.heap.size,0,none⟩),.int .u64 153]]).run Tryz.prog (w.alloc (.cells #[.int .i64 c] 267))
   =.ok (.tuple #[]) ((w.alloc (.cells #[.int .i64 c] 267)).setCell ⟨tb,0,none⟩ (.int .i64 c)):=by
 rw[er_s]
 simp only[Sem.run_bind,er_partsA,er_partsF,Result.andThen]
 simp only[ReflectliteValue.flagAddr]
 simp[er_load,er_direct,Result.andThen,storeVar,Value.cells,storeCells,Addr.add]
 rw[run_store Tryz.prog _ ⟨tb,0,none⟩ _ _ (by rfl)]
 simp[World.cell?_alloc_lt _ _ ⟨tb,0,none⟩ hl,World.frozen?_alloc_old _ _ ⟨tb,0,none⟩ (Nat.ne_of_lt hl),ht,hf]
theorem as_nil(t:Value)(w:World):
  Calls Tryz.prog 183 #[.nilIface,t] w fun e w'=>e=.returned (.bool false)/\w'=w:=by
 go_enter Tryz.func183,Tryz.ntmps183
 go_wp2
 go_ret
 exact⟨rfl,rfl⟩
end
section
open Go.RowKit Go.Extern
theorem as_hit(c:Int)(tb:Nat)(old:Value)(w:World)(hg:ErrG w)(hl:tb<w.heap.size)(ht0:w.cell? ⟨tb,0,none⟩=some old)(hf0:w.frozen? ⟨tb,0,none⟩=false):
  Calls Tryz.prog 183 #[.iface 267 (.agg #[.int .i64 c]),.iface 269 (.pointer (some ⟨tb,0,none⟩))] w fun ev w'=>ev=.returned (.bool true)/\w'=((((w.alloc (.cells #[.pointer (some ⟨tb,0,none⟩)] 269)).alloc (.cells #[.pointer (some ⟨5,269,none⟩),.pointer (some ⟨w.heap.size,0,none⟩),.int .u64 150] 305)).alloc (.cells #[.pointer (some ⟨5,269,none⟩),.pointer (some ⟨w.heap.size,0,none⟩),.int .u64 150] 305)).alloc (.cells #[.int .i64 c] 267)).setCell ⟨tb,0,none⟩ (.int .i64 c):=by
 have h6:=@run_callFunc_extern Tryz.prog 224 _ (fun args=>ReflectliteValue.unpack (args.getD 0 (.tuple #[]))) Tryz.func224 (by kernel_rfl) (by kernel_rfl) (by kernel_rfl) (by kernel_rfl)
 have h7:=@run_callFunc_extern Tryz.prog 225 _ (ReflectliteValue.methodAny (ReflectliteValue.valueError "reflectlite.Value.Type" 0) (fun t _ _ _=>ReflectliteType.toType t)) Tryz.func225 (by kernel_rfl) (by kernel_rfl) (by kernel_rfl) (by kernel_rfl)
 have h8:=@run_callFunc_extern Tryz.prog 226 _ (ReflectliteValue.method (ReflectliteValue.valueError "reflectlite.Value.IsNil" 0) ReflectliteValue.isNil) Tryz.func226 (by kernel_rfl) (by kernel_rfl) (by kernel_rfl) (by kernel_rfl)
 have h27:=@run_callFunc_extern Tryz.prog 336 _ (ReflectliteType.abiMethod fun t=>do pure (.int .u8 (<-Rtype.kind t))) Tryz.func336 (by kernel_rfl) (by kernel_rfl) (by kernel_rfl) (by kernel_rfl)
 have h37:=@run_callFunc_extern Tryz.prog 364 _ (ReflectliteType.method ReflectliteType.elem) Tryz.func364 (by kernel_rfl) (by kernel_rfl) (by kernel_rfl) (by kernel_rfl)
 have h38:=@run_callFunc_extern Tryz.prog 365 _ (ReflectliteType.relation "Implements" ReflectliteType.implements_) Tryz.func365 (by kernel_rfl) (by kernel_rfl) (by kernel_rfl) (by kernel_rfl)
 have h10:=@run_callFunc_extern Tryz.prog 255 _ ReflectliteType.typeOf Tryz.func255 (by kernel_rfl) (by kernel_rfl) (by kernel_rfl) (by kernel_rfl)
 have h35:=@run_callFunc_extern Tryz.prog 362 _ (ReflectliteType.relation "AssignableTo" ReflectliteType.assignableTo) Tryz.func362 (by kernel_rfl) (by kernel_rfl) (by kernel_rfl) (by kernel_rfl)
 have h11:=@run_callFunc_extern Tryz.prog 256 _ (ReflectliteValue.method (ReflectliteValue.valueError "reflectlite.Value.Elem" 0) ReflectliteValue.elem) Tryz.func256 (by kernel_rfl) (by kernel_rfl) (by kernel_rfl) (by kernel_rfl)
 have h12:=@run_callFunc_extern Tryz.prog 257 _ ReflectliteValue.set Tryz.func257 (by kernel_rfl) (by kernel_rfl) (by kernel_rfl) (by kernel_rfl)
 have tO:=er_typeOf
 have a25:=er_assign
 have v25:=er_valF
 have f6:=er_valP
 have f7:=er_typP
 have k27:=er_kindP
 have k25:=er_kindF
 have e27:=er_elem
 have i25:=er_impl
 obtain⟨W1,hW1⟩:∃W1,W1=(w.alloc (.cells #[.pointer (some ⟨tb,0,none⟩)] 269)).alloc (.cells #[.pointer (some ⟨5,269,none⟩),.pointer (some ⟨w.heap.size,0,none⟩),.int .u64 150] 305):=⟨_,rfl⟩
 have n8:=er_isNil ⟨w.heap.size,0,none⟩ ⟨tb,0,none⟩ ((w.alloc (.cells #[.pointer (some ⟨tb,0,none⟩)] 269)).alloc (.cells #[.pointer (some ⟨5,269,none⟩),.pointer (some ⟨w.heap.size,0,none⟩),.int .u64 150] 305)) (by simp)
 have hlt:=hg.lt
 have hg2:((w.alloc (.cells #[.pointer (some ⟨tb,0,none⟩)] 269)).alloc (.cells #[.pointer (some ⟨5,269,none⟩),.pointer (some ⟨w.heap.size,0,none⟩),.int .u64 150] 305)).cell? ⟨0,0,none⟩=some ErrT:=by
  rw[World.cell?_alloc_lt _ _ ⟨0,0,none⟩ (by simp<;>omega),World.cell?_alloc_lt _ _ ⟨0,0,none⟩ hlt];exact hg
 have el:=er_elemV ⟨w.heap.size,0,none⟩ ⟨tb,0,none⟩ (((w.alloc (.cells #[.pointer (some ⟨tb,0,none⟩)] 269)).alloc (.cells #[.pointer (some ⟨5,269,none⟩),.pointer (some ⟨w.heap.size,0,none⟩),.int .u64 150] 305)).alloc (.cells #[.pointer (some ⟨5,269,none⟩),.pointer (some ⟨w.heap.size,0,none⟩),.int .u64 150] 305)) (by rw[World.cell?_alloc_lt _ _ ⟨w.heap.size,0,none⟩ (by simp;omega)];simp)
 have st:=er_set tb c old (((w.alloc (.cells #[.pointer (some ⟨tb,0,none⟩)] 269)).alloc (.cells #[.pointer (some ⟨5,269,none⟩),.pointer (some ⟨w.heap.size,0,none⟩),.int .u64 150] 305)).alloc (.cells #[.pointer (some ⟨5,269,none⟩),.pointer (some ⟨w.heap.size,0,none⟩),.int .u64 150] 305)) (by simp;omega)
  (by rw[World.cell?_alloc_lt _ _ ⟨tb,0,none⟩ (by simp;omega),World.cell?_alloc_lt _ _ ⟨tb,0,none⟩ (by simp;omega),World.cell?_alloc_lt _ _ ⟨tb,0,none⟩ hl];exact ht0)
  (by rw[World.frozen?_alloc_old _ _ ⟨tb,0,none⟩ (by simp;omega),World.frozen?_alloc_old _ _ ⟨tb,0,none⟩ (by simp;omega),World.frozen?_alloc_old _ _ ⟨tb,0,none⟩ (Nat.ne_of_lt hl)];exact hf0)
 have sz:(((w.alloc (.cells #[.pointer (some ⟨tb,0,none⟩)] 269)).alloc (.cells #[.pointer (some ⟨5,269,none⟩),.pointer (some ⟨w.heap.size,0,none⟩),.int .u64 150] 305)).alloc (.cells #[.pointer (some ⟨5,269,none⟩),.pointer (some ⟨w.heap.size,0,none⟩),.int .u64 150] 305)).heap.size=w.heap.size+1+1+1:=by simp
 rw[sz]at st
 go_enter Tryz.func183,Tryz.ntmps183
 go_wp2
 refine wp_loop_rounds 1 ?_
 rw[rounds_succ]
 go_wp2
 go_ret
 exact⟨rfl,rfl⟩
end
end Go.Proofs.YtgmlkfgfjjggnaaGreatDoor
