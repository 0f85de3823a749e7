import Derived.Handy
import Derived.Test.YtgmlkfgfjjggnaaGreatDoorSPAF
set_option linter.all false
set_option maxHeartbeats 40000000
set_option maxRecDepth 100000
namespace Go.Proofs.YtgmlkfgfjjggnaaGreatDoor
open Go.Proofs.Tryz
open Go.RowKit
attribute [local go_sem] Am Aj Cx
variable {w w' w1 W:Y}{a:Ac}{s s':AK}{B0 c g ab t n i p b l bk R2:Nat}{Bk Bk' E S:Nat->Nat}{A:Ad}{x:Tb}{Z:Nat->Prop}{vN vT vS vU d f m r0 r1 j:V9}{k v:Vl}{Q:Pl}{A':Nat->Ad}{cs:Array Value}
section
open Go.RowKit Go.Extern
abbrev XM:Value:=.iface 341 (.agg #[.pointer (some (G 5 200))])
def Gg(w:Y):Prop:=w.cell? (G 0 0)=some XM
theorem Gg.lt(h:Gg w):0<w.heap.size:=by
 rcases Nat.lt_or_ge 0 w.heap.size with h1|h1
 ·exact h1
 ·unfold Gg at h;simp[World.cell?,Array.getElem?_eq_none h1]at h
theorem Gg.below{B:Nat}(h:Gg w)(hb:Below B w w')(a:0<B):Gg w':=
 (As (hb.block _ a)).trans h
theorem bA(t:Addr)(w:Y):(ReflectliteValue.unpack (.iface 269 (.pointer (some t)))).run prog w
  =.ok (.agg #[.pointer (some (G 5 269)),Q9 w.heap.size,.int .u64 150]) (w.alloc (.cells #[.pointer (some t)] 269)):=og
theorem aY(a:Addr)(w:Y):(ReflectliteValue.methodAny (ReflectliteValue.valueError "reflectlite.Value.Type" 0) (fun t _ _ _=>ReflectliteType.toType t) #[.agg #[.pointer (some (G 5 269)),.pointer (some a),.int .u64 150]]).run prog w
  =.ok (.iface 341 (.agg #[.pointer (some (G 5 269))])) w:=og
theorem Yf(w:Y):((ReflectliteType.abiMethod fun t=>(fun a:Nat=>Value.int IntKind.u8 (a:Int)) <$> Rtype.kind t) #[.pointer (some (G 5 269))]).run prog w=.ok (.int .u8 22) w:=og
theorem Ye(w:Y):((ReflectliteType.abiMethod fun t=>(fun a:Nat=>Value.int IntKind.u8 (a:Int)) <$> Rtype.kind t) #[.pointer (some (G 5 267))]).run prog w=.ok (.int .u8 25) w:=og
theorem jI(Z:Sem Value)(f:TypeId->Addr->Nat->Nat->Sem Value)(v:V9):
  ReflectliteValue.method Z f #[v]=(do match<-ReflectliteValue.parts v with|none=>Z|some (t,a,b)=>f t a b (b%32)):=rfl
theorem Pj(a:Addr)(w:Y):(ReflectliteValue.parts (.agg #[.pointer (some (G 5 269)),.pointer (some a),.int .u64 150])).run prog w=.ok (some (269,a,150)) w:=og
theorem Yd(a p:Addr)(W:Y)(b:W.cell? a=some (.pointer (some p))):
  (ReflectliteValue.method (ReflectliteValue.valueError "reflectlite.Value.IsNil" 0) ReflectliteValue.isNil #[.agg #[.pointer (some (G 5 269)),.pointer (some a),.int .u64 150]]).run prog W=.ok (.bool false) W:=by
 rw[jI];simp only[AaR,Pj,Result.andThen];simp[ReflectliteValue.isNil,loadVar,isAgg,underlying,underlying269,b,Result.andThen]
theorem aV(w:Y):(ReflectliteType.method ReflectliteType.elem #[.agg #[.pointer (some (G 5 269))]]).run prog w=.ok (.iface 341 (.agg #[.pointer (some (G 5 267))])) w:=og
theorem aW(w:Y):(ReflectliteType.relation "Implements" ReflectliteType.implements_ #[.agg #[.pointer (some (G 5 267))],XM]).run prog w=.ok (.bool true) w:=og
theorem V8(v:V9)(w:Y):(ReflectliteType.typeOf #[.iface 267 v]).run prog w=.ok (.iface 341 (.agg #[.pointer (some (G 5 267))])) w:=og
theorem V3(w:Y):(ReflectliteType.relation "AssignableTo" ReflectliteType.assignableTo #[.agg #[.pointer (some (G 5 267))],.iface 341 (.agg #[.pointer (some (G 5 267))])]).run prog w=.ok (.bool true) w:=og
theorem aZ(c:Int)(w:Y):(ReflectliteValue.unpack (.iface 267 (.agg #[J c]))).run prog w
  =.ok (.agg #[.pointer (some (G 5 267)),Q9 w.heap.size,.int .u64 153]) (w.alloc (.cells #[J c] 267)):=og
theorem V5(w:Y):(Rtype.elem? 269).run prog w=.ok (some 267) w:=og
theorem jJ(p:Addr)(w:Y):(ReflectliteValue.mk 267 p ReflectliteValue.flagAddr).run prog w=.ok (.agg #[.pointer (some (G 5 267)),.pointer (some p),.int .u64 409]) w:=og
theorem Yc(a p:Addr)(W:Y)(b:W.cell? a=some (.pointer (some p))):
  (ReflectliteValue.method (ReflectliteValue.valueError "reflectlite.Value.Elem" 0) ReflectliteValue.elem #[.agg #[.pointer (some (G 5 269)),.pointer (some a),.int .u64 150]]).run prog W
   =.ok (.agg #[.pointer (some (G 5 267)),.pointer (some p),.int .u64 409]) W:=by
 rw[jI];simp only[AaR,Pj,Result.andThen];simp[ReflectliteValue.elem,loadVar,isAgg,underlying,underlying269,b,Result.andThen,V5,jJ]
theorem mG(v x:V9):ReflectliteValue.set #[v,x]=(do
  let (some (dst,a,c),some (src,b,_)):=(<-ReflectliteValue.parts v,<-ReflectliteValue.parts x)
   |unsupported (.noEntry "extern/(internal/reflectlite.Value).Set.zeroValue")
  if c/ReflectliteValue.flagAddr%2==0 then unsupported (.noEntry "extern/(internal/reflectlite.Value).Set.unaddressable")
  let val<-loadVar src b
  if<-Rtype.directlyAssignable dst src then storeVar dst a val
  else if<-Rtype.implements dst src then
   if(<-Rtype.kind src)==20 then
    match val with
    |.nilIface=>unsupported (.noEntry "extern/reflectlite: a nil value of one interface type handed on as a value of another")
    |_=>storeVar dst a val
   else storeVar dst a (.iface src val)
  else panicString ("reflectlite.Set: value of type " ++(<-Rtype.spelt src)++ " is not assignable to type " ++(<-Rtype.spelt dst))
  pure (.tuple #[])):=rfl
theorem V6(a:Addr)(w:Y):(ReflectliteValue.parts (.agg #[.pointer (some (G 5 267)),.pointer (some a),.int .u64 409])).run prog w=.ok (some (267,a,409)) w:=og
theorem V7(a:Addr)(w:Y):(ReflectliteValue.parts (.agg #[.pointer (some (G 5 267)),.pointer (some a),.int .u64 153])).run prog w=.ok (some (267,a,153)) w:=og
theorem V4(w:Y):(Rtype.directlyAssignable 267 267).run prog w=.ok true w:=og
theorem aX(w:Y)(c:Int):(loadVar 267 (y w 0)).run prog (w.alloc (.cells #[J c] 267))=.ok (.agg #[J c]) (w.alloc (.cells #[J c] 267)):=by
 simp[loadVar,isAgg,underlying,underlying267,Result.andThen,go_sem]
theorem fH(tb:Nat)(c:Int)(old:V9)(w:Y)(hl:tb<w.heap.size)(a:w.cell? (G tb 0)=some old)(hf:w.frozen? (G tb 0)=false):
  (ReflectliteValue.set #[.agg #[.pointer (some (G 5 267)),Q9 tb,.int .u64 409],.agg #[.pointer (some (G 5 267)),Q9 w.heap.size,.int .u64 153]]).run prog (w.alloc (.cells #[J c] 267))
   =.ok (.tuple #[]) ((w.alloc (.cells #[J c] 267)).setCell (G tb 0) (J c)):=by
 rw[mG];simp only[AaR,V6,V7,Result.andThen];simp only[ReflectliteValue.flagAddr];simp[aX,V4,Result.andThen,storeVar,Value.cells,storeCells,Addr.add];rw[run_store prog _ (G tb 0) _ _ (by rfl)];simp[GP _ _ (G tb 0) hl,World.frozen?_alloc_old _ _ (G tb 0) (Nat.ne_of_lt hl),a,hf]
theorem fC(t:V9)(w:Y):
  C9 183 #[.nilIface,t] w fun e w'=>e=.returned (.bool false)/\w'=w:=by
 go_enter func183,ntmps183
 go_wp2;go_ret;exact⟨rfl,rfl⟩
theorem fB(c:Int)(tb:Nat)(old:V9)(w:Y)(e:Gg w)(hl:tb<w.heap.size)(a:w.cell? (G tb 0)=some old)(b:w.frozen? (G tb 0)=false):
  C9 183 #[.iface 267 (.agg #[J c]),.iface 269 (Q9 tb)] w fun g w'=>g=.returned (.bool true)/\w'=((((w.alloc (.cells #[Q9 tb] 269)).alloc (.cells #[.pointer (some (G 5 269)),Q9 w.heap.size,.int .u64 150] 305)).alloc (.cells #[.pointer (some (G 5 269)),Q9 w.heap.size,.int .u64 150] 305)).alloc (.cells #[J c] 267)).setCell (G tb 0) (J c):=by
 have u:=@run_callFunc_extern prog 224 _ (fun args=>ReflectliteValue.unpack (args.getD 0 (.tuple #[]))) func224 og og og og;have v:=@run_callFunc_extern prog 225 _ (ReflectliteValue.methodAny (ReflectliteValue.valueError "reflectlite.Value.Type" 0) (fun t _ _ _=>ReflectliteType.toType t)) func225 og og og og;have x:=@run_callFunc_extern prog 226 _ (ReflectliteValue.method (ReflectliteValue.valueError "reflectlite.Value.IsNil" 0) ReflectliteValue.isNil) func226 og og og og;have h:=@run_callFunc_extern prog 336 _ (ReflectliteType.abiMethod fun t=>do pure (.int .u8 (<-Rtype.kind t))) func336 og og og og;have i:=@run_callFunc_extern prog 364 _ (ReflectliteType.method ReflectliteType.elem) func364 og og og og;have j:=@run_callFunc_extern prog 365 _ (ReflectliteType.relation "Implements" ReflectliteType.implements_) func365 og og og og;have k:=@run_callFunc_extern prog 255 _ ReflectliteType.typeOf func255 og og og og;have l:=@run_callFunc_extern prog 362 _ (ReflectliteType.relation "AssignableTo" ReflectliteType.assignableTo) func362 og og og og;have m:=@run_callFunc_extern prog 256 _ (ReflectliteValue.method (ReflectliteValue.valueError "reflectlite.Value.Elem" 0) ReflectliteValue.elem) func256 og og og og;have n:=@run_callFunc_extern prog 257 _ ReflectliteValue.set func257 og og og og;have A:=V8;have a25:=V3;have v25:=aZ;have f6:=bA;have f7:=aY;have o:=Yf;have p:=Ye;have q:=aV;have i25:=aW;obtain⟨f,r⟩:∃f,f=(w.alloc (.cells #[Q9 tb] 269)).alloc (.cells #[.pointer (some (G 5 269)),Q9 w.heap.size,.int .u64 150] 305):=⟨_,rfl⟩;have B:=Yd (y w 0) (G tb 0) ((w.alloc (.cells #[Q9 tb] 269)).alloc (.cells #[.pointer (some (G 5 269)),Q9 w.heap.size,.int .u64 150] 305)) od;have d:=e.lt;have s:((w.alloc (.cells #[Q9 tb] 269)).alloc (.cells #[.pointer (some (G 5 269)),Q9 w.heap.size,.int .u64 150] 305)).cell? (G 0 0)=some XM:=by
  rw[GP _ _ (G 0 0) (by simp<;>omega),GP _ _ (G 0 0) d];exact e
 have el:=Yc (y w 0) (G tb 0) (((w.alloc (.cells #[Q9 tb] 269)).alloc (.cells #[.pointer (some (G 5 269)),Q9 w.heap.size,.int .u64 150] 305)).alloc (.cells #[.pointer (some (G 5 269)),Q9 w.heap.size,.int .u64 150] 305)) (by rw[GP _ _ (y w 0) oe];simp);have st:=fH tb c old (((w.alloc (.cells #[Q9 tb] 269)).alloc (.cells #[.pointer (some (G 5 269)),Q9 w.heap.size,.int .u64 150] 305)).alloc (.cells #[.pointer (some (G 5 269)),Q9 w.heap.size,.int .u64 150] 305)) oe
  (by rw[GP _ _ (G tb 0) oe,GP _ _ (G tb 0) oe,GP _ _ (G tb 0) hl];exact a)
  (by rw[World.frozen?_alloc_old _ _ (G tb 0) oe,World.frozen?_alloc_old _ _ (G tb 0) oe,World.frozen?_alloc_old _ _ (G tb 0) (Nat.ne_of_lt hl)];exact b)
 have sz:(((w.alloc (.cells #[Q9 tb] 269)).alloc (.cells #[.pointer (some (G 5 269)),Q9 w.heap.size,.int .u64 150] 305)).alloc (.cells #[.pointer (some (G 5 269)),Q9 w.heap.size,.int .u64 150] 305)).heap.size=w.heap.size+1+1+1:=od;rw[sz]at st
 go_enter func183,ntmps183
 go_wp2;refine wp_loop_rounds 1 ?_;rw[rounds_succ];go_wp2;go_ret;exact⟨rfl,rfl⟩
end
def Bp(c:Int):Value:=if c=0 then .nilIface else .iface 267 (.agg #[J c])
theorem TK(c:Int)(w:Y)(j:Gg w):
  C9 114 #[Bp c] w (R9 (J c) w):=by
 unfold Bp;by_cases f:c=0
 ·subst f;rw[DD rfl]
  go_enter func114,ntmps114
  go_wp2_with (go_at_call 183;refine(fC _ _).mono ?_;rintro e w1 ⟨rfl,rfl⟩)
  go_ret;exact⟨rfl,n9⟩
 ·rw[C3 f];clear f;have g:=j.lt;obtain⟨W,a⟩:∃W,W=w.alloc (.cells #[J 0] 267):=⟨_,rfl⟩;have b:B9 w W:=by rw[a];exact(Cs _ _).alloc (Be _) _
  have d:Gg W:=j.below b g;have hl:w.heap.size<W.heap.size:=by rw[a];simp
  obtain⟨h,k⟩:W.cell? (y w 0)=some (J 0)/\W.frozen? (y w 0)=false:=by rw[a];simp[go_sem]
  have l:=O b
  go_enter func114,ntmps114
  go_wp2_with fail
  rw[<-a];refine(fB c w.heap.size _ W d hl h k).mono ?_;rintro e w1 ⟨rfl,h1⟩;have i:B9 w w1:=by
   rw[h1];refine PC (p:=(y w 0)) ?_ (Be _) _;exact(((l.alloc oa _).alloc oe _).alloc oe _).alloc oe _
  have m:w1.cell? (y w 0)=some (J c):=by
   rw[h1];apply World.cell?_setCell_same (u:=J 0);rw[GP _ _ (y w 0) oe,GP _ _ (y w 0) oe,GP _ _ (y w 0) oe,GP _ _ (y w 0) hl];exact h
  clear h1 a h k d;go_wp2_with fail;go_ret;exact⟨rfl,i⟩
theorem nX{op:Int}(h1:1<=op)(a:op<=9):(bt op 1!=0)=Eu op/\(bt op 2!=0)=EG op/\(bt op 8!=0)=(op==2||op==3||op==7):=by
 rcases(by omega:op=1\/op=2\/op=3\/op=4\/op=5\/op=6\/op=7\/op=8\/op=9)with rfl|rfl|rfl|rfl|rfl|rfl|rfl|rfl|rfl
 ·rw[lD.1,lD.2.1,lD.2.2.2.1];decide
 ·rw[lE.1,lE.2.1,lE.2.2.2.1];decide
 ·rw[lF.1,lF.2.1,lF.2.2.2.1];decide
 ·rw[lG.1,lG.2.1,lG.2.2.2.1];decide
 ·rw[lH.1,lH.2.1,lH.2.2.2.1];decide
 ·rw[lI.1,lI.2.1,lI.2.2.2.1];decide
 ·rw[lJ.1,lJ.2.1,lJ.2.2.2.1];decide
 ·rw[lK.1,lK.2.1,lK.2.2.2.1];decide
 ·rw[lL.1,lL.2.1,lL.2.2.2.1];decide
theorem Yi(c k n:Int)(f:Nat)(s:ByteArray)(r:Int)(w:Y):(Instr.field 182 (KV c k n f s r) 0).run prog w=.ok (J c) w:=og
theorem Zz(h:CB a=true)(b:a.op=7):De a.k=0:=by
 have h1:=Pe h b;have h2:=(Hp h).2.2.1;unfold De;rw[DD h2,C3 oa,C3 oa]
theorem fF(h:CB a=true)(nt ns:Nat):GD a nt ns=if(bt a.op 1!=0)=true/\(nt:Int)<=a.t then 2 else if(bt a.op 2!=0)=true/\(ns:Int)<=a.site then 3 else if(bt a.op 8!=0)=true/\De a.k≠0 then 4 else 0:=by
 obtain⟨_,_,_,_,_,h1,c⟩:=Hp h;obtain⟨e1,e2,e3⟩:=nX h1 c;unfold GD;rw[C3 (by rw[h];simp),e1,e2,e3];by_cases b:a.op=7
 ·have hk:=Zz h b;simp[hk]
 ·congr 2
  simp[b]
theorem VU(a:Ac)(nt ns:Nat)(w:Y)(P:nt<=100)(Q:ns<=50):
  C9 182 #[Lm a,J nt,J ns] w (R9 (Bp (GD a nt ns)) w):=by
 obtain⟨W,b⟩:∃W,W=w.alloc (.cells (ox a) 51):=⟨_,rfl⟩;have m:B9 w W:=by rw[b];exact(Cs _ _).alloc (Be _) _
 obtain⟨c0,c1,c2,c4,c5,c6,c7,o⟩:W.cell? (y w 0)=some (J a.op)/\W.cell? (y w 1)=some (J a.t)/\W.cell? (y w 2)=some (J a.site)/\W.cell? (y w 4)=some (J a.k.kind)/\W.cell? (y w 5)=some (J a.k.num)/\W.cell? (y w 6)=some (F9 a.k.Ag)/\W.cell? (y w 7)=some (.string a.k.str)/\W.cell? (y w 8)=some (J a.k.ref):=by rw[b];simp[go_sem]
 have hz:w.heap.size<W.heap.size:=by rw[b];simp
 have E:=O (And.intro c0 (And.intro c1 (And.intro c2 (And.intro c4 (And.intro c5 (And.intro c6 (And.intro c7 o)))))));have F:=O m;clear m c0 c1 c2 c4 c5 c6 c7 o
 go_enter func182,ntmps182
 go_wp2_with fail
 rw[<-b];clear b;refine m9 (Ws a _) fun w1 c=>?_;have g:=O (oo F c);have q:w.heap.size<w1.heap.size:=At hz c.size;have c0:=ol c hz E.1;have r:Hid (w1.heap[w.heap.size]?=W.heap[w.heap.size]?):=O (c.block _ hz);clear c;cases hA:CB a
 ·have i:Hid (GD a nt ns=1):=O (by unfold GD;rw[DD hA]);go_wp2_with fail;go_ret;exact⟨by rw[z i];rfl,g⟩
 ·have i:=O (fF hA nt ns);obtain⟨_,_,_,_,_,h1,R⟩:=Hp hA;obtain⟨fn,x⟩:=Sf a.op oa oa;have A:=U7;clear h1 R;go_wp2_with fail;refine qr w1 ?_;refine GS (fun K hK=>?_);go_simp;refine⟨_,fun w' j=>qk j (KQ _),hK _ ?_⟩;clear hK K;refine N (h:=N (h:=?_));refine GS (fun K hK=>?_);go_simp;apply Exists.intro;refine And.intro (fun w' j=>?_) (hK _ ?_)
  ·rfl
  clear hK K;refine GS (fun K hK=>?_);go_simp;apply Exists.intro;refine And.intro (fun w' j=>?_) (hK _ ?_)
  ·rfl
  clear hK K;refine N (h:=?_);refine H7 ?_;intro w2 e;have S:w.heap.size<w2.heap.size:=At q e.size;have DI:=(e.block _ q).trans r;obtain⟨_,c1,c2,c4,c5,c6,c7,o⟩:=z E;have c1:=(As (a:=(y w 1)) DI).trans c1;have c2:=(As (a:=(y w 2)) DI).trans c2;have c4:=(As (a:=(y w 4)) DI).trans c4;have c5:=(As (a:=(y w 5)) DI).trans c5;have c6:=(As (a:=(y w 6)) DI).trans c6;have c7:=(As (a:=(y w 7)) DI).trans c7;have o:=(As (a:=(y w 8)) DI).trans o;have d:=O (oo g e);have s:=DX a.k;have B:=O s;have T:=Yi;clear e DI x A r c0 s;generalize H:(bt a.op 1!=0)=x1 at i;generalize I:(bt a.op 2!=0)=x2 at i;generalize L:(bt a.op 8!=0)=U at i;by_cases g1:x1=true/\(nt:Int)<=a.t
  ·have f:Hid (GD a nt ns=2):=O (i.trans (DD g1));obtain⟨rfl,g1⟩:=g1;go_wp2_with fail;go_ret;exact⟨by rw[z f];rfl,d⟩
  ·have u:=O (i.trans (C3 g1));have C:x1=false\/(x1=true/\¬(nt:Int)<=a.t):=by
    cases x1
    ·exact .inl rfl
    ·exact .inr ⟨rfl,fun h=>g1 ⟨rfl,h⟩⟩
   clear g1;by_cases g2:x2=true/\(ns:Int)<=a.site
   ·have f:Hid (GD a nt ns=3):=O (u.trans (DD g2));obtain⟨rfl,g2⟩:=g2;rcases C with rfl|⟨rfl,g1⟩;all_goals(go_wp2_with fail;go_ret;exact⟨by rw[z f];rfl,d⟩)
   ·have l:=O (u.trans (C3 g2));have M:x2=false\/(x2=true/\¬(ns:Int)<=a.site):=by
     cases x2
     ·exact .inl rfl
     ·exact .inr ⟨rfl,fun h=>g2 ⟨rfl,h⟩⟩
    clear g2;cases U
    ·have f:Hid (GD a nt ns=0):=O (l.trans (C3 od));rcases C with rfl|⟨rfl,g1⟩<;>rcases M with rfl|⟨rfl,g2⟩
     all_goals(go_wp2_with fail;go_ret;exact⟨by rw[z f];rfl,d⟩)
    ·by_cases g3:De a.k=0
     focus
      have f:Hid (GD a nt ns=0):=O (l.trans (C3 (by simp[g3])));have d3:(De a.k !=0)=false:=by simp[g3]
     rotate_left
     focus
      have f:Hid (GD a nt ns=4):=O (l.trans (DD ⟨rfl,g3⟩));have d3:(De a.k !=0)=true:=by simp[g3]
     rotate_left;all_goals
      clear g3;rcases C with rfl|⟨rfl,g1⟩<;>rcases M with rfl|⟨rfl,g2⟩
      all_goals(go_wp2_with (go_at_call 204;refine m9 (Hx a.k.kind a.k.num a.k.Ag a.k.str a.k.ref _) fun w3 D=>?_;rw[z B]);go_ret;exact⟨by rw[z f];rfl,oo d D⟩)
structure VN (w:Y) (s:AK) (B0:Nat) (Bk:Nat->Nat) (A:Ad) (x:Tb):Prop where
 nd:I2 w s B0 Bk
 v:I4 w A.va x.nv x.V
 d:G8 w A.la A.ia A.xa x.d
 tb:BH w
theorem VN.below(h:VN w s B0 Bk A x)(hb:B9 w w'):VN w' s B0 Bk A x:=⟨h.nd.below hb,h.v.below hb rfl,h.d.below hb,Bg _ _ h.tb hb⟩
theorem AZ.lT{A:Nat->Ad}(h:AZ Z w c B0 vN vT vS vU Bk A s)(b:BH w){t:Nat}(a:t<s.nt):VN w s B0 Bk (A t) (s.T t):=⟨h.nd,(h.rd t a).now.1,(h.rd t a).now.2,b⟩
theorem Sl(hf:Ax s.nf s.F=0)(hx:Oi s x){k:Vl}(hk:Ky k):
  (AG Bk A x=.iface 239 (KD A x)/\∀w,VN w s B0 Bk A x->C9 349 #[KD A x,Gf k] w (R9 (Gf (Cm s.F x k)) w))\/
  (∃p,AG Bk A x=.iface 236 (CA p A x)/\∀w,VN w s B0 Bk A x->C9 342 #[CA p A x,Gf k] w (R9 (Gf (Cm s.F x k)) w)):=by
 rcases hx.way with⟨h1,h2,h3⟩|⟨j,h1,h2,h3,h4,h5⟩
 ·exact .inl ⟨DD h1,fun w a=>Hh A x s.F k w a.tb h1 h3 hx.wf hx.small hk a.d⟩
 ·refine .inr ⟨Bk j,?_,fun w a=>Jh A x s B0 Bk j k w a.nd hf h2 h1 h3 a.v⟩;unfold AG;rw[C3 oa,h1];rfl
theorem U8(c k n:Int)(f:Nat)(s:ByteArray)(r:Int)(w:Y):(Instr.field 182 (KV c k n f s r) 1).run prog w=.ok (V k n f s r) w:=og
attribute [local go_sem] U8
def Ha(c g ab t:Nat)(vT a:V9)(k:Vl)(W:Y):Prop:=W.cell? (G c 1)=some vT/\W.cell? (G g t)=some a/\W.cell? (G ab 1)=some (J (t:Int))/\W.cell? (G ab 4)=some (J k.kind)/\W.cell? (G ab 5)=some (J k.num)/\W.cell? (G ab 6)=some (F9 k.Ag)/\W.cell? (G ab 7)=some (.string k.str)/\W.cell? (G ab 8)=some (J k.ref)
theorem Ha.keep(h:Ha c g ab t vT d k w)(hc:w'.heap[c]?=w.heap[c]?)(e:w'.heap[g]?=w.heap[g]?)(b:w'.heap[ab]?=w.heap[ab]?):Ha c g ab t vT d k w':=by
 obtain⟨h1,h2,h3,h4,h5,f,i,j⟩:=h;exact⟨(As (a:=(G c 1)) hc).trans h1,(As (a:=(G g t)) e).trans h2,(As (a:=(G ab 1)) b).trans h3,(As (a:=(G ab 4)) b).trans h4,(As (a:=(G ab 5)) b).trans h5,(As (a:=(G ab 6)) b).trans f,(As (a:=(G ab 7)) b).trans i,(As (a:=(G ab 8)) b).trans j⟩
theorem kV(Z:Nat->Prop)(c B0:Nat)(vN vT vS vU:V9)(Bk:Nat->Nat)(A:Nat->Ad)(s:AK)(a:Ac)(t:Nat)(w:Y)(u:AZ Z w c B0 vN vT vS vU Bk A s)(hf:Ax s.nf s.F=0)(hx:Oi s (s.T t))(hT:BH w)(et:a.t=t)(ht:t<s.nt)(aj:s.nt<=100)(hk:Ky (DY a.k)):
  C9 143 #[Q9 c,Lm a] w (R9 (.tuple #[Dw (E4 (Cm s.F (s.T t) (DY a.k))),Bp 0]) w):=by
 obtain⟨g,L,hv,M,ak,x,P⟩:=u.CP ht;subst hv;obtain⟨W,hW,j,hA,hR,hz⟩:=boxes w a;have Q:=u.lt;have B:=(u.lT hT ht).below j;have l:∀o,AG Bk (A t) (s.T t)=o->Ha c g w.heap.size t (S9 g s.nt L) o a.k W.drew:=fun o e=>by
  obtain⟨a0,a1,a2,a3,a4,a5,a6,a7,a8,a9⟩:=hA.all;rw[et]at a1;exact⟨(j.cell (p:=(G c 1)) Q).trans u.cells.2.1,(j.cell (p:=(G g t)) M).trans (x.trans (by rw[e])),a1,a4,a5,a6,a7,a8⟩
 have R:=O B;have S:=O j;have HQ:=O hR;have U:=O l;have V:=O (Sl (B0:=B0) (Bk:=Bk) (A:=A t) hf hx hk);have ao:=hz;clear u hA hR B l hf hx hT hk x P j et
 go_enter func143,ntmps143
 go_wp2_with fail
 rw[<-hW];clear hW;rcases z V with⟨d,X⟩|⟨p,d,X⟩
 case' inl=>refine Dh (Ha c g w.heap.size t (S9 g s.nt L) (.iface 239 (KD (A t) (s.T t))) a.k) og ?_
 case' inr=>refine Dh (Ha c g w.heap.size t (S9 g s.nt L) (.iface 236 (CA p (A t) (s.T t))) a.k) og ?_
 all_goals
  have l:=z U _ d;have HC:=O X;clear X d;change wpAnyH _ _ _ _ _ _ _ _ (World.drew _);refine tz 0 (h:=tz 1 (h:=tz 2 (h:=tz 3 (h:=tz 4 (h:=tz 5 (h:=tz 6 (h:=tz 7 (h:=tz 8 (h:=tz 9 (h:=tz 10 (h:=tz 13 (h:=?_))))))))))));refine tz 14 (h:=?_);have zw:=S.size;refine ry 11 (fun K hK=>?_);go_simp;refine m9 (Hx a.k.kind a.k.num a.k.Ag a.k.str a.k.ref _) fun w2 f=>?_;have f:B9 W w2:=AaK (Cs _ _).drew f;have q:=l.keep (w':=w2) (f.block c oa) (f.block g oa) (f.block w.heap.size oa);rw[DX];have i:=O f;obtain⟨o,d⟩:∃o,o=DY a.k:=⟨_,rfl⟩;obtain⟨kc,C⟩:∃kc,kc=De a.k:=⟨_,rfl⟩;rw[<-d]at HC ⊢;rw[<-C];have ad:=O d;clear d C;refine hK.out _ _ q (fun _=>?_);clear hK K l f;refine tz 12 (h:=?_);refine ry 15 (fun K hK=>?_);go_simp;refine(HC _ (R.below i)).mono ?_;rintro e w3 ⟨rfl,b⟩;have b:B9 W w3:=oo i b;have D:=q.keep (w':=w3) ((b.block c oa).trans (i.block c oa).symm) ((b.block g oa).trans (i.block g oa).symm) ((b.block w.heap.size oa).trans (i.block w.heap.size oa).symm);obtain⟨I,r⟩:∃I,I=Cm s.F (s.T t) o:=⟨_,rfl⟩;rw[<-r];have ae:=O r;clear r;obtain⟨w4,n,m⟩:=Bs (HQ.below b oa) (E4 I);have E:=D.keep (w':=w4) (m.other c oa) (m.other g oa) (m.other w.heap.size oa);have af:=O b;have ag:=O n;have H:=O m;refine hK.out _ _ D (fun _=>?_);clear hK K q b n m;refine tz 16 (h:=?_);refine ry 17 (fun K hK=>?_);refine BJ rfl rfl _ ag ?_;refine hK.out _ _ E (fun aq=>?_);clear hK K;refine tz 18 (h:=?_);refine Fj ?_;obtain⟨r0,r1,r2,r3,r4,r5,r6,r7,r8,r9,ah,ai⟩:=An.read H.BB;go_wp2_with fail;refine E1 (v:=.tuple #[Dw (E4 I),Bp 0]) (by simp[results,results143,go_sem,r0,r1,r2,r3,r4,r5,r6,r7,r8,r9,ah,ai,Bp]) rfl ⟨by rw[z ae,z ad],?_⟩;exact H.below (oo S af) oa
abbrev dP:Array Value:=#[.bool false,J 0,J 0,F9 0,E9,J 0,J 0,J 0,F9 0,E9,J 0,J 0]
def lM(b:Bool)(p:Pr):List Value:=.bool b::Db p
theorem ZO(w:Y):(sizeOf 254).run prog w=.ok 12 w:=og
theorem bB(b:Bool)(p:Pr):∀u∈lM b p,u.oneCell'=true:=by
 intro u h;simp only[lM,Db,List.mem_cons,AaD,or_false]at h;rcases h with rfl|rfl|rfl|rfl|rfl|rfl|rfl|rfl|rfl|rfl|rfl|rfl<;>rfl
theorem N3{q:Nat}(h:w.heap[q]?=some (.cells dP 254 (0,0)))(b:Bool)(p:Pr):∃w',(Instr.storeAt 254 (Q9 q) (eN b p)).run prog w=.ok () w'/\Bn w w' q (lM b p).toArray 254:=
 BM (old:=dP.toList) (vs:=lM b p) ZO h rfl rfl (bB b p) rfl
theorem Ku(A:Ad)(t:Tb)(n:Int)(w:Y)(C:BH w)(hA:G8 w A.la A.ia A.xa t.d)(D:Small t.d)(h:VQ t.d)(E:C6 t.d (hD t.d)=0):C9 347 #[KD A t,J n] w (R9 (eN (Kc t.d n).1 (Kc t.d n).2) w):=by
 obtain⟨W,k⟩:∃W,W=(w.alloc (.cells #[.slice A.va t.nv A.vc,.slice A.la t.d.n A.lc,.slice A.ia t.d.m A.ic,.slice A.xa t.d.x A.xc,J t.d.used,J t.d.live,J t.d.turns] 239)).alloc (.cells dP 254):=⟨_,rfl⟩;have c:B9 w W:=by rw[k];exact(n9).alloc od _
 have f:W.heap[w.heap.size+1]?=some (.cells dP 254 (0,0)):=by
  rw[k];have h1:=BE (w.alloc (.cells #[.slice A.va t.nv A.vc,.slice A.la t.d.n A.lc,.slice A.ia t.d.m A.ic,.slice A.xa t.d.x A.xc,J t.d.used,J t.d.live,J t.d.turns] 239)) (.cells dP 254);simpa using h1
 have l:=Ah f;have F:=O (T3 A.la A.lc A.ia A.ic A.xa A.xc t.d n W (Bg _ _ C c) (hA.below c) D h E);have i:=O c;have o:=O f;clear hA C D h c f E
 go_enter func347,ntmps347
 go_wp2_with fail
 rw[<-k];clear k;refine F.mono ?_;rintro e w1 ⟨rfl,g⟩;obtain⟨x,hx⟩:∃x,x=Kc t.d n:=⟨_,rfl⟩;rw[<-hx];have H:=O hx;obtain⟨b,p⟩:=x;obtain⟨w2,j,a⟩:=N3 ((g.block _ l).trans o) b p;have q:=O j;have r:=O (oo i g);have e0:=Ab a 0 _ rfl;have e1:=Ab a 1 _ rfl;have e2:=Ab a 2 _ rfl;have e3:=Ab a 3 _ rfl;have I:=Ab a 4 _ rfl;have K:=Ab a 5 _ rfl;have L:=Ab a 6 _ rfl;have M:=Ab a 7 _ rfl;have P:=Ab a 8 _ rfl;have Q:=Ab a 9 _ rfl;have s:=Ab a 10 _ rfl;have u:=Ab a 11 _ rfl;have B:=O a;clear g j a F hx;go_wp2_with (refine Ai rfl rfl _ q ?_);refine E1 (v:=eN b p) (by simp[results,results347,go_sem,e0,e1,e2,e3,I,K,L,M,P,Q,s,u]) rfl ⟨by rw[<-z H],?_⟩;exact B.below r oa
theorem VI(w:Y):(sizeOf 96).run prog w=.ok 11 w:=og
theorem E3{t:TypeId}(hs:∀w,(sizeOf t).run prog w=.ok n w)(w:Y){old vs:List Value}{ty:TypeId}(hl:vs.length=old.length)(hn:vs.length=n)(h1:∀v∈vs,v.oneCell'=true){v:V9}(b:v.cells=vs.toArray):
  (Instr.storeAt t (Q9 w.heap.size) v).run prog (w.alloc (.cells old.toArray ty))=.ok () (w.alloc (.cells vs.toArray ty)):=by
 have h:=Eo (P:=prog) w ty vs [] old hl h1;unfold Instr.storeAt storeVar;simp only[W9,XN]at h;have a:∀w',(Instr.sureAddr (Q9 w.heap.size)).run prog w'=.ok (y w 0) w':=fun w'=>by simp[go_sem]
 simp only[AaR];simp[a,hs,b,hn];exact h
theorem T5:(prog.info? 96).map (·.size)=some 11:=og
theorem N4(w:Y)(p:Pr):(Instr.storeAt 96 (Q9 w.heap.size) (.agg (Db p).toArray)).run prog (w.alloc (.cells eW.toArray 96))=.ok () (w.alloc (.cells (Db p).toArray 96)):=
 E3 VI w (by rfl) (by rfl) (Fh p) rfl
theorem SH{p:Pr}(h:Hc w g (i*11) p):w.rangeAt g (i*11) (Db p):=by
 intro j v a;have hj:j<11:=(It.1 a).1;obtain⟨c0,c1,c2,c3,c4,c5,c6,c7,c,d,b⟩:=h;rcases j with _|_|_|_|_|_|_|_|_|_|_|j;all_goals first|(cases a;assumption)|omega
def Qy(s:AK)(j:Nat)(t:Tb)(n:Int):Bool:=decide (0<=(⟨nf s.F j,FQ s j t,0⟩:Pl).nextI n)
theorem cI{n:Int}(h:∀q,q<Q.n->¬n<(Q.P q).turn):decide (0<=Q.nextI n)=false/\Q.next n=⟨KA,KA,0⟩:=by
 have e:Q.nextI n=-1:=by
  unfold Pl.nextI;rcases Iz (fun j=>decide (n<(Q.P j).turn)) Q.n with e|⟨j,e,h1,h2⟩
  ·exact e
  ·exact absurd (by simpa using h2) (h j h1)
 unfold Pl.next;rw[e];exact⟨rfl,rfl⟩
theorem cH{n:Int}{k:Nat}(hk:k<Q.n)(h:∀q,q<k->¬n<(Q.P q).turn)(h2:n<(Q.P k).turn):decide (0<=Q.nextI n)=true/\Q.next n=Q.P k:=by
 have e:Q.nextI n=k:=by
  unfold Pl.nextI;rcases atF_rng (fun j=>decide (n<(Q.P j).turn)) Q.n 0 with e|⟨j,e,h3,h4,h5,a⟩
  ·have:=Gl e k (Re _) oa;simp at this;omega
  ·have h5:n<(Q.P j).turn:=by simpa using h5
   have:j=k:=by
    rcases Nat.lt_trichotomy j k with h7|h7|h7
    ·exact absurd h5 (h j h7)
    ·exact h7
    ·have:=a k (Re _) h7;simp at this;omega
   rw[<-this];exact e
 unfold Pl.next;rw[e];refine⟨od,?_⟩;rw[C3 oa];simp
theorem Mb(A:Ad)(t:Tb)(s:AK)(b0:Nat)(B:Nat->Nat)(j:Nat)(n:Int)(w:Y)(hN:I2 w s b0 B)(hf:Ax s.nf s.F=0)(hj:j<s.nf)(ae:t.nv=nf s.F j)(hV:I4 w A.va t.nv t.V):
  C9 340 #[CA (B j) A t,J n] w (R9 (eN (Qy s j t n) ((⟨nf s.F j,FQ s j t,0⟩:Pl).next n)) w):=by
 obtain⟨W,hW⟩:∃W,W=(w.alloc (.cells #[.slice A.va t.nv A.vc,.slice A.la t.d.n A.lc,.slice A.ia t.d.m A.ic,.slice A.xa t.d.x A.xc,J t.d.used,J t.d.live,J t.d.turns,Q9 (B j)] 236)).alloc (.cells dP 254):=⟨_,rfl⟩;have o:B9 w W:=by rw[hW];exact(n9).alloc od _
 have ar:W.heap.size=w.heap.size+1+1:=by rw[hW];simp
 have af:W.heap[w.heap.size]?=some (.cells #[.slice A.va t.nv A.vc,.slice A.la t.d.n A.lc,.slice A.ia t.d.m A.ic,.slice A.xa t.d.x A.xc,J t.d.used,J t.d.live,J t.d.turns,Q9 (B j)] 236 (0,0)):=by
  rw[hW];exact(DO _ _ _ od).trans (BE _ _)
 have b1:W.heap[w.heap.size+1]?=some (.cells dP 254 (0,0)):=by
  rw[hW];have h1:=BE (w.alloc (.cells #[.slice A.va t.nv A.vc,.slice A.la t.d.n A.lc,.slice A.ia t.d.m A.ic,.slice A.xa t.d.x A.xc,J t.d.used,J t.d.live,J t.d.turns,Q9 (B j)] 236)) (.cells dP 254);simpa using h1
 obtain⟨Z,M,ag,ah⟩:=hN;have HC:=O (Io s b0 B Z M A t j W (ag.below o) ah hf hj (hV.below o rfl) ae);have ad:=Gq hf hj;obtain⟨m,hm⟩:∃m,m=nf s.F j:=⟨_,rfl⟩;rw[<-hm]at HC ad;have HM:=O hm;obtain⟨P,hP⟩:∃P,P=FQ s j t:=⟨_,rfl⟩;rw[<-hP]at HC;have HP:=O hP;have au:=O o;have ai:=O af;have aj:=O b1;clear ag ah hf hj ae hV o hm hP af b1
 go_enter func340,ntmps340
 go_wp2_with fail
 rw[<-hW];clear hW;go_wp2_with (first|(refine Aat rfl 236 _ rfl w.heap.size rfl _ _ _ _ ai underlying236 rfl LB ?_));refine HC.mono ?_;rintro e w1 ⟨⟨v,rfl,f⟩,r⟩;obtain⟨va,vc,rfl⟩:=Ay f;have l1:w.heap.size+1<w1.heap.size:=oj r.size;have av:=O ((r.block _ oa).trans aj);have H:=O (au.trans (r.mono oa));have HO:=O f;clear r f HC ai aj ar;go_wp2_with fail;go_loopw [10] (fun i wr=>∃(k:Nat),k<=m/\i=J k/\B9 w1 wr/\∀q,q<k->¬n<(P q).turn) (fun i _=>m-(intOf i).toNat)
 case atStart=>exact⟨0,oa,rfl,Cs _ _,fun q hq=>oa⟩
 case round=>
  obtain⟨k,hk,rfl,hb,b⟩:=hrel;have a7:=hb.size;have K:=O ((hb.block _ l1).trans av);have u:=O (oo H hb);have lr:w.heap.size+1<wr.heap.size:=oa;by_cases L:k<m
  case neg=>
   have ak:k=m:=oa;obtain⟨e1,e2⟩:=cI (Q:=⟨nf s.F j,FQ s j t,0⟩) (n:=n) (fun q hq=>by
    have:=b q (by rw[ak,z HM];exact hq);rw[z HP]at this;exact this)
   have HR:=O (And.intro e1 e2);obtain⟨w2,l,a⟩:=N3 K false ⟨KA,KA,0⟩;have R:=O l;have c0:=Ab a 0 _ rfl;have c1:=Ab a 1 _ rfl;have c2:=Ab a 2 _ rfl;have c3:=Ab a 3 _ rfl;have c4:=Ab a 4 _ rfl;have c5:=Ab a 5 _ rfl;have c6:=Ab a 6 _ rfl;have c7:=Ab a 7 _ rfl;have c8:=Ab a 8 _ rfl;have c9:=Ab a 9 _ rfl;have S:=Ab a 10 _ rfl;have Qm:=Ab a 11 _ rfl;have T:=O a;clear hb b L e1 e2 l a;subst ak;go_wp2_with (refine Ai rfl rfl _ R ?_);refine E1 (v:=eN false ⟨KA,KA,0⟩) (by simp[results,results340,go_sem,c0,c1,c2,c3,c4,c5,c6,c7,c8,c9,S,Qm]) rfl ⟨by unfold Qy;rw[(z HR).1,(z HR).2],?_⟩;exact T.below u oa
  obtain⟨g,cp,hv,a8,aw,_,ao,_⟩:=Ck.form HO oa;cases hv;have U:=O (SH ((ao k L).keep (fun q=>hb.cell (p:=(G g q)) aw)));obtain⟨p,hp⟩:∃p,p=P k:=⟨_,rfl⟩;rw[<-hp]at U;have X:=O hp;have I:=O b;have aq:=O hb;have bb:g<wr.heap.size:=oa;clear hb b ao hp;go_upto_region 4 with(first|(refine wpList_load_mid rfl 96 _ rfl g (k*11) rfl (Db p) _ U underlying96 rfl T5 ?_)|(refine Ai rfl rfl _ (N4 wr p) ?_))
  obtain⟨w4,C⟩:∃w4,w4=wr.alloc (.cells (Db p).toArray 96):=⟨_,rfl⟩;rw[<-C];have D:B9 wr w4:=by rw[C];exact(Cs _ _).alloc (Be _) _
  have E:w4.heap[wr.heap.size]?=some (.cells (Db p).toArray 96 (0,0)):=by rw[C];exact BE _ _
  have t10:w4.cell? (y wr 10)=some (J p.turn):=by rw[MM w4 _ _ _ _ _ E];rfl
  have l4:=Ah E;have ax:Hid (w4.heap[wr.heap.size]?=some (.cells #[J p.key.kind,J p.key.num,F9 p.key.Ag,.string p.key.str,J p.key.ref,J p.val.kind,J p.val.num,F9 p.val.Ag,.string p.val.str,J p.val.ref,J p.turn] 96 (0,0))):=O E;have ay:=O (oo u D);have az:=O (oo aq D);have aM:=O ((D.block _ lr).trans K);clear C D E U K u;by_cases c:n<p.turn
  ·have hd:decide (n<p.turn)=true:=by simp[c]
   obtain⟨e1,e2⟩:=cH (Q:=⟨nf s.F j,FQ s j t,0⟩) (n:=n) (k:=k) (by rw[<-z HM];exact L) (fun q hq=>by
    have:=z I q hq;rw[z HP]at this;exact this) (by have h:=c;rw[z X,z HP]at h;exact h)
   have e3:(⟨nf s.F j,FQ s j t,0⟩:Pl).P k=p:=by rw[z X,z HP]
   have HR:=O (And.intro e1 (e2.trans e3));obtain⟨w2,l,a⟩:=N3 aM true p;have R:=O l;have c0:=Ab a 0 _ rfl;have c1:=Ab a 1 _ rfl;have c2:=Ab a 2 _ rfl;have c3:=Ab a 3 _ rfl;have c4:=Ab a 4 _ rfl;have c5:=Ab a 5 _ rfl;have c6:=Ab a 6 _ rfl;have c7:=Ab a 7 _ rfl;have c8:=Ab a 8 _ rfl;have c9:=Ab a 9 _ rfl;have S:=Ab a 10 _ rfl;have Qm:=Ab a 11 _ rfl;have T:=O a;clear e1 e2 e3 l a c;go_wp2_with (first|(refine Aat rfl 96 _ rfl wr.heap.size rfl _ _ _ _ ax underlying96 rfl T5 ?_)|(refine Ai rfl rfl _ R ?_));refine E1 (v:=eN true p) (by simp[results,results340,go_sem,c0,c1,c2,c3,c4,c5,c6,c7,c8,c9,S,Qm]) rfl ⟨by unfold Qy;rw[(z HR).1,(z HR).2],?_⟩;exact T.below ay oa
  ·have hd:decide (n<p.turn)=false:=by simp[c]
   have a6:=O c;clear c;go_wp2;go_roundw
   case rel=>exact⟨k+1,oa,oh,az,fun q hq=>by
    by_cases e:q=k
    ·subst e;have h:=z a6;rw[z X]at h;exact h
    ·exact I q oa⟩
   case measure=>simp[intOf];omega
def B4(p:Nat)(A:Ad)(t:Tb):List Value:=[.slice A.va t.nv A.vc,.slice A.la t.d.n A.lc,.slice A.ia t.d.m A.ic,.slice A.xa t.d.x A.xc,J t.d.used,J t.d.live,J t.d.turns,Q9 p]
theorem Kn(p:Nat)(A:Ad)(t:Tb):∀u∈B4 p A t,u.oneCell'=true:=by
 intro u h;simp only[B4,List.mem_cons,AaD,or_false]at h;rcases h with rfl|rfl|rfl|rfl|rfl|rfl|rfl|rfl<;>rfl
theorem Mr:∀u∈Cc.toList,u.oneCell'=true:=by
 intro u h;simp only[List.mem_cons,AaD,or_false]at h;rcases h with rfl|rfl|rfl|rfl|rfl|rfl|rfl|rfl<;>rfl
theorem Q7(w:Y)(p:Nat)(A:Ad)(t:Tb):(Instr.storeAt 236 (Q9 w.heap.size) (CA p A t)).run prog (w.alloc (.cells Cc 236))=.ok () (w.alloc (.cells (B4 p A t).toArray 236)):=
 E3 (old:=Cc.toList) Ee w (by rfl) (by rfl) (Kn p A t) rfl
theorem UE(hb:w.heap[b]?=some (.cells Cc 236 (0,0)))(p:Nat)(A:Ad)(t:Tb):∃w',(Instr.storeAt 236 (Q9 b) (.agg (B4 p A t).toArray)).run prog w=.ok () w'/\Bn w w' b (B4 p A t).toArray 236:=
 BM (old:=Cc.toList) (vs:=B4 p A t) Ee hb rfl rfl (Kn p A t) rfl
theorem ZK(hb:w.heap[b]?=some (.cells Cc 236 (0,0))):∃w',(Instr.storeAt 236 (Q9 b) (.agg Cc)).run prog w=.ok () w'/\Bn w w' b Cc 236:=
 BM (old:=Cc.toList) (vs:=Cc.toList) Ee hb rfl rfl Mr rfl
theorem En{t:Tb}(h:w.heap[b]?=some (.cells (B4 p A t).toArray 236 (0,0))):∀j u,(B4 p A t)[j]?=some u->w.cell? (G b j)=some u:=fun j u hu=>by
 rw[MM w b j _ _ _ h];simpa using hu
theorem AZ.Yk{b:Y}{g i:V9}{o:Nat}{m:Array Value}(h:AZ (ZB Z w.heap.size o) w1 c B0 d f g i Bk' A' s')(p:Br (Au B0 c vN vT vS w) w (Au B0 c d f g w1) w1)(n:B0<=w.heap.size)(j:w.heap.size<=l)(hz:l<o)(q:w1.heap[l]?=some (.cells m 236 (0,0)))(a:Bn w1 b l cs 236):
  AZ Z b c B0 d f g i Bk' A' s'/\Br (Au B0 c vN vT vS w) w (Au B0 c d f g b) b:=
 h.fin p n (.inr ⟨j,hz⟩) j (h.Em q oc oc oc oc oc) (fun k e=>.inl e) ⟨a.os,a.tape,a.output,a.size⟩ a.other a.BB oc
def Mw(Z:Nat->Prop)(c B0:Nat)(vN vT vS vU:V9)(Bk:Nat->Nat)(A:Nat->Ad)(s:AK)(i t:Nat)(w:Y)(e:Ending)(w':Y):Prop:=
 ∃vs:List Value,vs.length=8/\(∀u∈vs,u.oneCell'=true)/\e=.returned (.tuple #[.agg vs.toArray,J (Bj s i t)])/\(0<=Bj s i t->∃j:Nat,(s.T t).shape=j/\vs=B4 (Bk j) (A t) (s.T t))/\AZ Z w' c B0 vN vT vS vU Bk A (AV s i t)/\Br (Au B0 c vN vT vS w) w (Au B0 c vN vT vS w') w'
def UT(b g o:Nat)(pl:Int)(p:Nat)(A:Ad)(t:Tb)(W:Y):Prop:=W.cell? (G b 0)=some (.slice A.va t.nv A.vc)/\W.cell? (G b 1)=some (.slice A.la t.d.n A.lc)/\W.cell? (G b 2)=some (.slice A.ia t.d.m A.ic)/\W.cell? (G b 3)=some (.slice A.xa t.d.x A.xc)/\W.cell? (G b 4)=some (J t.d.used)/\W.cell? (G b 5)=some (J t.d.live)/\W.cell? (G b 6)=some (J t.d.turns)/\W.cell? (G b 7)=some (Q9 p)/\W.cell? (G g (o+2))=some (J pl)
theorem Yl(Z:Nat->Prop)(c B0:Nat)(vN vT vS vU:V9)(Bk:Nat->Nat)(A:Nat->Ad)(s:AK)(i t j:Nat)(w:Y)(M:AZ Z w c B0 vN vT vS vU Bk A s)(hi:i<s.ns)(bh:s.ns<=50)(ht:t<s.nt)(bj:s.nt<=100)(F:(s.T t).shape=j)(hj:j<s.nf)(P:(s.S i).shape=j)(W:0<=(s.S i).EB)(X:(s.S i).EB<=1000000000000):
  C9 206 #[Q9 c,J (i:Int),J (t:Int)] w fun e w'=>Mw Z c B0 vN vT vS vU Bk A s i t w e w':=by
 obtain⟨Q,C,aw,I,_,D,_⟩:=M.CP ht;obtain⟨g,cp,R,H,bk,U,ae⟩:=M.F1 hi;subst aw R;have af:AG Bk (A t) (s.T t)=.iface 236 (CA (Bk j) (A t) (s.T t)):=by
  unfold AG;rw[C3 oa,F];rfl
 rw[af]at D;have E:J0 s i t=true:=by unfold J0;simp[F,P]
 have eI:Bj s i t=(s.S i).place:=by unfold Bj;rw[DD E]
 have eX:DE s i t={s.S i with EB:=DQ (s.S i).EB}:=by unfold DE;rw[DD E]
 obtain⟨b,r⟩:∃b,b=(w.alloc (.cells Cc 236)).alloc (.cells (B4 (Bk j) (A t) (s.T t)).toArray 236):=⟨_,rfl⟩;have B:B9 w b:=by rw[r];exact(n9).alloc od _
 have ax:b.heap.size=w.heap.size+1+1:=by rw[r];simp
 have b0:b.heap[w.heap.size]?=some (.cells Cc 236 (0,0)):=by
  rw[r];exact(DO _ _ _ od).trans (BE _ _)
 have b1:b.heap[w.heap.size+1]?=some (.cells (B4 (Bk j) (A t) (s.T t)).toArray 236 (0,0)):=by
  rw[r];have h1:=BE (w.alloc (.cells Cc 236)) (.cells (B4 (Bk j) (A t) (s.T t)).toArray 236);simpa using h1
 obtain⟨hE,ag⟩:=M.enter B;have ay:=M.lt;have bf:c<w.heap.size+1:=oa;have bg:g<w.heap.size+1:=oa;have av:Q<w.heap.size+1:=oa;obtain⟨c0,c1,c2,c3,cf⟩:=M.cells;have ad:Hid ((Instr.storeAt 236 (Q9 (w.heap.size+1)) (CA (Bk j) (A t) (s.T t))).run prog ((w.alloc (.cells Cc 236)).alloc (.cells Cc 236))=.ok () b):=O (by
  have h:=Q7 (w.alloc (.cells Cc 236)) (Bk j) (A t) (s.T t);rw[World.size_alloc]at h;rw[r];exact h)
 have L:Hid (∀q f,f=(b.drewN q).setCell (G g (i*5+3)) (J (DQ (s.S i).EB))->UT (w.heap.size+1) g (i*5) (s.S i).place (Bk j) (A t) (s.T t) f.drew/\w.heap.size<f.heap.size/\
   ∃w3,(Instr.storeAt 236 (Q9 w.heap.size) (.agg (B4 (Bk j) (A t) (s.T t)).toArray)).run prog f.drew=.ok () w3/\Bn f.drew w3 w.heap.size (B4 (Bk j) (A t) (s.T t)).toArray 236/\UT (w.heap.size+1) g (i*5) (s.S i).place (Bk j) (A t) (s.T t) w3/\
   AZ Z w3 c B0 vN (S9 Q s.nt C) (S9 g s.ns cp) vU Bk A (AV s i t)/\Br (Au B0 c vN (S9 Q s.nt C) (S9 g s.ns cp) w) w (Au B0 c vN (S9 Q s.nt C) (S9 g s.ns cp) w3) w3):=O (by
  intro q f hq;have az:B9 b (b.drewN q):=⟨rfl,rfl,rfl,Be _,fun _ _=>rfl⟩;obtain⟨m1,d1⟩:=hE.below az;obtain⟨m2,d2⟩:=m1.EK (i:=i) (j:=3) (u:=J (DQ (s.S i).EB)) (x':=DE s i t) rfl hi oa (by rw[eX];rfl);rw[<-hq]at m2 d2;have bm:f.heap.size=b.heap.size:=by rw[hq];simp
  have st:∀k,k≠g->f.heap[k]?=b.heap[k]?:=fun k hk=>by rw[hq];exact A0 _ _ _ _ (by exact hk)
  have ah:f.drew.heap[w.heap.size]?=some (.cells Cc 236 (0,0)):=(st _ oa).trans b0;have ai:f.drew.heap[w.heap.size+1]?=some (.cells (B4 (Bk j) (A t) (s.T t)).toArray 236 (0,0)):=(st _ oa).trans b1;obtain⟨_,_,R,_,_,aM,_⟩:=m2.F1 (i:=i) hi;cases R;have aj:f.drew.cell? (G g (i*5+2))=some (J (s.S i).place):=aM 2 _ (by
   show(IZ (AY s.S i (DE s i t) i))[2]?=_;rw[Ak,eX];rfl)
  have hc:=En ai;have hH:UT (w.heap.size+1) g (i*5) (s.S i).place (Bk j) (A t) (s.T t) f.drew:=⟨hc 0 _ rfl,hc 1 _ rfl,hc 2 _ rfl,hc 3 _ rfl,hc 4 _ rfl,hc 5 _ rfl,hc 6 _ rfl,hc 7 _ rfl,aj⟩;obtain⟨w3,k1,k2⟩:=UE ah (Bk j) (A t) (s.T t);have l:=En ((k2.other _ oa).trans ai);have hd:Br (Au B0 c vN (S9 Q s.nt C) (S9 g s.ns cp) w) w (Au B0 c vN (S9 Q s.nt C) (S9 g s.ns cp) f.drew) f.drew:=((ag.trans d1).trans d2).Rz;obtain⟨f1,f2⟩:=AZ.Yk (m2.drew) hd M.base (Be _) oa ah k2;exact⟨hH,oa,w3,k1,k2,⟨l 0 _ rfl,l 1 _ rfl,l 2 _ rfl,l 3 _ rfl,l 4 _ rfl,l 5 _ rfl,l 6 _ rfl,l 7 _ rfl,(As (a:=(G g (i*5+2))) (k2.other g oa)).trans aj⟩,f1,f2⟩)
 obtain⟨_,y1,y2,_,_⟩:=hE.cells;have yT:=ol B I D;have s1:=ol B H (U 1 _ rfl);have s3:=ol B H (U 3 _ rfl);have f3:b.frozen? (G g (i*5+3))=false:=om B H (ae _);obtain⟨nl,n0,_⟩:=I2.cell hE.nd hj;have p7:b.cell? (G (w.heap.size+1) 7)=some (Q9 (Bk j)):=En b1 7 _ rfl;have l1:w.heap.size+1<b.heap.size:=oa;have lc:c<b.heap.size:=oa;have lg:g<b.heap.size:=oa;rw[P]at s1;have d0:((j:Int)==(j:Int))=true:=od;have a6:=O eI;have a7:=O F;have a8:=nF (CA (Bk j) (A t) (s.T t));have bb:=O (Ie (s.S i).EB);have HH:=O (And.intro W X);clear M hE ag B ax b0 b1 af E eI eX r ae F P cf c3 c0 W X
 go_enter func206,ntmps206
 go_upto_region 3 with(refine Ai rfl rfl _ ad ?_)
 clear c1 c2 D U ay H I;go_wp2_with fail
 go_quiet (fail)
 go_wp2_with fail
 refine(bb _ HH.1 HH.2).mono ?_;rintro e w2 ⟨rfl,rfl⟩;go_upto_region 5 with fail
 obtain⟨f,V⟩:∃f,f=(b.drewN nq).setCell (G g (i*5+3)) (J (DQ (s.S i).EB)):=⟨_,rfl⟩;rw[<-V];obtain⟨bn,l2,w3,ak,ao,bc,aq,ar⟩:=z L nq f V;have bd:=O ak;have o:=O ao;have au:=O (And.intro aq ar);clear V ak ao aq ar L s1 s3 f3 n0 p7 y1 y2 yT d0 a8;refine Hl (UT (w.heap.size+1) g (i*5) (s.S i).place (Bk j) (A t) (s.T t)) ?_;refine tz 0 (h:=tz 1 (h:=tz 2 (h:=tz 3 (h:=tz 4 (h:=?_)))));refine ry 5 (fun K hK=>?_);refine BJ rfl rfl _ bd ?_;refine hK.out _ _ bc (fun _=>?_);clear hK K;refine tz 6 (h:=?_);refine Fj ?_;obtain⟨r0,r1,r2,r3,r4,r5,r6,r7⟩:=ou (Ab o);go_wp2_with fail;refine E1 (v:=.tuple #[.agg (B4 (Bk j) (A t) (s.T t)).toArray,J (s.S i).place]) (by simp[results,results206,go_sem,r0,r1,r2,r3,r4,r5,r6,r7,B4]) rfl ⟨B4 (Bk j) (A t) (s.T t),rfl,Kn _ _ _,by rw[z a6],fun _=>⟨j,a7,rfl⟩,au.1,au.2⟩
theorem I2.Zd{b0:Nat}{B:Nat->Nat}(h:I2 w s b0 B)(a:Ax s.nf s.F=0){j:Nat}(hj:j<s.nf)(key:ByteArray):
  C9 181 #[Q9 (B j),.string key] w fun e w'=>e=.returned (J (BO s.F j key))/\w'=w:=by
 obtain⟨Z,M,h1,h2⟩:=h;refine(Ih w s.F b0 s.nf B Z M h1 h2 (AB a).2.1 (AB a).2.2.1 j hj key).mono ?_;rintro e w' ⟨⟨b,_⟩,rfl⟩;exact⟨b,rfl⟩
theorem Wc(Z:Nat->Prop)(c B0:Nat)(vN vT vS vU:V9)(Bk:Nat->Nat)(A:Nat->Ad)(s:AK)(i t:Nat)(w:Y)(B:AZ Z w c B0 vN vT vS vU Bk A s)(hi:i<s.ns)(aw:s.ns<=50)(ht:t<s.nt)(ax:s.nt<=100)(n:(s.T t).shape=-1)(F:0<=(s.S i).AU)(H:(s.S i).AU<=1000000000000):
  C9 206 #[Q9 c,J (i:Int),J (t:Int)] w fun e w'=>Mw Z c B0 vN vT vS vU Bk A s i t w e w':=by
 obtain⟨I,C,ag,r,_,d,_⟩:=B.CP ht;obtain⟨g,cp,ah,D,ay,K,L⟩:=B.F1 hi;subst ag ah;have M:AG Bk (A t) (s.T t)=.iface 239 (KD (A t) (s.T t)):=DD n;rw[M]at d;have f:J0 s i t=false:=by unfold J0;simp[n]
 have eI:Bj s i t=-1:=by unfold Bj;rw[C3 (by rw[f];decide),C3 oa]
 have eX:DE s i t={s.S i with AU:=DQ (s.S i).AU}:=by unfold DE;rw[C3 (by rw[f];decide),C3 oa]
 obtain⟨b,l⟩:∃b,b=(w.alloc (.cells Cc 236)).alloc (.cells Cc 236):=⟨_,rfl⟩;have m:B9 w b:=by rw[l];exact(n9).alloc od _
 have ai:b.heap.size=w.heap.size+1+1:=by rw[l];simp
 have b0:b.heap[w.heap.size]?=some (.cells Cc 236 (0,0)):=by
  rw[l];exact(DO _ _ _ od).trans (BE _ _)
 obtain⟨hE,P⟩:=B.enter m;have aj:=B.lt;have au:c<w.heap.size+1:=oa;have av:g<w.heap.size+1:=oa;have af:I<w.heap.size+1:=oa;obtain⟨c0,c1,c2,c3,cf⟩:=B.cells;have Q:Hid ((Instr.storeAt 236 (Q9 (w.heap.size+1)) (.agg Cc)).run prog ((w.alloc (.cells Cc 236)).alloc (.cells Cc 236))=.ok () b):=O (by
  have h:=E3 (t:=236) (v:=.agg Cc) (old:=Cc.toList) (vs:=Cc.toList) Ee (w.alloc (.cells Cc 236)) (ty:=236) rfl rfl Mr rfl;rw[World.size_alloc]at h;rw[l];exact h)
 have x:Hid (∀q o,o=(b.drewN q).setCell (G g (i*5+4)) (J (DQ (s.S i).AU))->
   ∃w3,(Instr.storeAt 236 (Q9 w.heap.size) (.agg Cc)).run prog o=.ok () w3/\Bn o w3 w.heap.size Cc 236/\
   AZ Z w3 c B0 vN (S9 I s.nt C) (S9 g s.ns cp) vU Bk A (AV s i t)/\Br (Au B0 c vN (S9 I s.nt C) (S9 g s.ns cp) w) w (Au B0 c vN (S9 I s.nt C) (S9 g s.ns cp) w3) w3):=O (by
  intro q o hq;have ak:B9 b (b.drewN q):=⟨rfl,rfl,rfl,Be _,fun _ _=>rfl⟩;obtain⟨m1,d1⟩:=hE.below ak;obtain⟨m2,d2⟩:=m1.EK (i:=i) (j:=4) (u:=J (DQ (s.S i).AU)) (x':=DE s i t) rfl hi oa (by rw[eX];rfl);rw[<-hq]at m2 d2;have st:∀k,k≠g->o.heap[k]?=b.heap[k]?:=fun k hk=>by rw[hq];exact A0 _ _ _ _ (by exact hk)
  have R:=(st _ oa).trans b0;obtain⟨w3,k1,k2⟩:=ZK R;obtain⟨f1,f2⟩:=AZ.Yk m2 ((P.trans d1).trans d2) B.base (Be _) oa R k2;exact⟨w3,k1,k2,f1,f2⟩)
 obtain⟨_,y1,y2,_,_⟩:=hE.cells;have yT:=ol m r d;have s4:=ol m D (K 4 _ rfl);have f4:b.frozen? (G g (i*5+4))=false:=om m D (L _);have l1:w.heap.size+1<b.heap.size:=oa;have lc:c<b.heap.size:=oa;have lg:g<b.heap.size:=oa;have U:=O eI;have az:=O n;have ao:=nT (KD (A t) (s.T t));have aq:=O (Ie (s.S i).AU);have HH:=O (And.intro F H);clear B hE P m ai b0 M f eI eX L n cf c3 c0 F H l
 go_enter func206,ntmps206
 go_upto_region 3 with(refine Ai rfl rfl _ Q ?_)
 clear c1 c2 d K aj D r;go_wp2_with fail
 go_quiet (fail)
 go_wp2_with fail
 refine(aq _ HH.1 HH.2).mono ?_;rintro e w2 ⟨rfl,rfl⟩;go_upto_region 7 with fail
 obtain⟨o,E⟩:∃o,o=(b.drewN nq).setCell (G g (i*5+4)) (J (DQ (s.S i).AU)):=⟨_,rfl⟩;rw[<-E];obtain⟨w3,V,W,X,ad⟩:=z x nq o E;have ar:=O V;have a:=O W;have ae:=O (And.intro X ad);clear E V W X ad x s4 f4 y1 y2 yT ao;obtain⟨r0,r1,r2,r3,r4,r5,r6,r7⟩:=ou (Ab (vs:=Cc.toList) a);go_wp2_with (refine Ai rfl rfl _ ar ?_);refine E1 (v:=.tuple #[.agg Cc,J (-1)]) (by simp[results,results206,go_sem,r0,r1,r2,r3,r4,r5,r6,r7]) rfl ⟨Cc.toList,rfl,Mr,by rw[z U],fun h=>absurd h (by rw[z U];decide),ae.1,ae.2⟩
theorem Wb(Z:Nat->Prop)(c B0:Nat)(vN vT vS vU:V9)(Bk:Nat->Nat)(A:Nat->Ad)(s:AK)(i t j:Nat)(w:Y)(hM:AZ Z w c B0 vN vT vS vU Bk A s)(hf:Ax s.nf s.F=0)(hi:i<s.ns)(b7:s.ns<=50)(ht:t<s.nt)(b8:s.nt<=100)(B:(s.T t).shape=j)(hj:j<s.nf)(bk:(s.S i).shape≠j)(ar:0<=(s.S i).AU)(au:(s.S i).AU<=1000000000000):
  C9 206 #[Q9 c,J (i:Int),J (t:Int)] w fun e w'=>Mw Z c B0 vN vT vS vU Bk A s i t w e w':=by
 obtain⟨E,l,bm,W,_,H,_⟩:=hM.CP ht;obtain⟨g,L,bn,M,b9,af,av⟩:=hM.F1 hi;subst bm bn;have aw:AG Bk (A t) (s.T t)=.iface 236 (CA (Bk j) (A t) (s.T t)):=by
  unfold AG;rw[C3 oa,B];rfl
 rw[aw]at H;have I:J0 s i t=false:=by unfold J0;rw[B];simp;omega
 obtain⟨pl,P⟩:∃pl,pl=BO s.F j (s.S i).key:=⟨_,rfl⟩;have eI:Bj s i t=pl:=by unfold Bj;rw[C3 (by rw[I];decide),DD oa,B,P];rfl
 have eX:DE s i t=if 0<=pl then⟨(s.S i).key,(j:Int),pl,(s.S i).EB,DQ (s.S i).AU⟩else{s.S i with AU:=DQ (s.S i).AU}:=by
  unfold DE;rw[C3 (by rw[I];decide),B,show((j:Int)).toNat=j by omega,<-P];by_cases K:0<=pl
  ·rw[DD ⟨oa,K⟩,DD K]
  ·rw[C3 (fun h=>K h.2),C3 K]
 obtain⟨o,C⟩:∃o,o=(w.alloc (.cells Cc 236)).alloc (.cells (B4 (Bk j) (A t) (s.T t)).toArray 236):=⟨_,rfl⟩;have D:B9 w o:=by rw[C];exact(n9).alloc od _
 have bp:o.heap.size=w.heap.size+1+1:=by rw[C];simp
 have b0:o.heap[w.heap.size]?=some (.cells Cc 236 (0,0)):=by
  rw[C];exact(DO _ _ _ od).trans (BE _ _)
 have b1:o.heap[w.heap.size+1]?=some (.cells (B4 (Bk j) (A t) (s.T t)).toArray 236 (0,0)):=by
  rw[C];have h1:=BE (w.alloc (.cells Cc 236)) (.cells (B4 (Bk j) (A t) (s.T t)).toArray 236);simpa using h1
 obtain⟨hE,ax⟩:=hM.enter D;have bq:=hM.lt;have b5:c<w.heap.size+1:=oa;have b6:g<w.heap.size+1:=oa;have bj:E<w.heap.size+1:=oa;obtain⟨c0,c1,c2,c3,cf⟩:=hM.cells;have X:Hid ((Instr.storeAt 236 (Q9 (w.heap.size+1)) (CA (Bk j) (A t) (s.T t))).run prog ((w.alloc (.cells Cc 236)).alloc (.cells Cc 236))=.ok () o):=O (by
  have h:=Q7 (w.alloc (.cells Cc 236)) (Bk j) (A t) (s.T t);rw[World.size_alloc]at h;rw[C];exact h)
 obtain⟨x1,ag⟩:∃x1:Si,x1={s.S i with AU:=DQ (s.S i).AU}:=⟨_,rfl⟩;have ad:Hid (∀q b,b=(o.drewN q).setCell (G g (i*5+4)) (J (DQ (s.S i).AU))->
   AZ (ZB Z w.heap.size o.heap.size) b c B0 vN (S9 E s.nt l) (S9 g s.ns L) vU Bk A {s with S:=AY s.S i x1}/\Br (Au B0 c vN (S9 E s.nt l) (S9 g s.ns L) w) w (Au B0 c vN (S9 E s.nt l) (S9 g s.ns L) b) b/\
   b.heap[w.heap.size]?=some (.cells Cc 236 (0,0))/\b.heap[w.heap.size+1]?=some (.cells (B4 (Bk j) (A t) (s.T t)).toArray 236 (0,0))/\(∀q2,C9 181 #[Q9 (Bk j),.string (s.S i).key] (b.drewN q2) fun e w'=>e=.returned (J pl)/\w'=b.drewN q2)):=O (by
  intro q b hq;have br:B9 o (o.drewN q):=⟨rfl,rfl,rfl,Be _,fun _ _=>rfl⟩;obtain⟨m1,d1⟩:=hE.below br;obtain⟨m2,d2⟩:=m1.EK (i:=i) (j:=4) (u:=J (DQ (s.S i).AU)) (x':=x1) rfl hi oa (by rw[ag];rfl);rw[<-hq]at m2 d2;have st:∀k,k≠g->b.heap[k]?=o.heap[k]?:=fun k hk=>by rw[hq];exact A0 _ _ _ _ (by exact hk)
  refine⟨m2,(ax.trans d1).trans d2,(st _ oa).trans b0,(st _ oa).trans b1,fun q2=>?_⟩;have f:B9 b (b.drewN q2):=⟨rfl,rfl,rfl,Be _,fun _ _=>rfl⟩;have hn:I2 (b.drewN q2) s B0 Bk:=(m2.below f).1.nd;rw[P];exact hn.Zd hf hj _)
 have ae:Hid (∀a,AZ (ZB Z w.heap.size o.heap.size) a c B0 vN (S9 E s.nt l) (S9 g s.ns L) vU Bk A (AV s i t)->Br (Au B0 c vN (S9 E s.nt l) (S9 g s.ns L) w) w (Au B0 c vN (S9 E s.nt l) (S9 g s.ns L) a) a->a.heap[w.heap.size]?=some (.cells Cc 236 (0,0))->
   ∃w3,(Instr.storeAt 236 (Q9 w.heap.size) (.agg (B4 (Bk j) (A t) (s.T t)).toArray)).run prog a=.ok () w3/\Bn a w3 w.heap.size (B4 (Bk j) (A t) (s.T t)).toArray 236/\
   Mw Z c B0 vN (S9 E s.nt l) (S9 g s.ns L) vU Bk A s i t w (.returned (.tuple #[.agg (B4 (Bk j) (A t) (s.T t)).toArray,J pl])) w3):=O (by
  intro a m3 d3 hb;obtain⟨w3,k1,k2⟩:=UE hb (Bk j) (A t) (s.T t);obtain⟨f1,f2⟩:=AZ.Yk m3 d3 hM.base (Be _) oa hb k2;exact⟨w3,k1,k2,B4 (Bk j) (A t) (s.T t),rfl,Kn _ _ _,by rw[eI],fun _=>⟨j,B,rfl⟩,f1,f2⟩)
 have ay:=O eX;have ah:=O ag;obtain⟨_,y1,y2,_,_⟩:=hE.cells;have yT:=ol D W H;have s1:=ol D M (af 1 _ rfl);have s4:=ol D M (af 4 _ rfl);have f4:o.frozen? (G g (i*5+4))=false:=om D M (av _);obtain⟨nl,n0,_⟩:=I2.cell hE.nd hj;have p7:o.cell? (Y9 w 7)=some (Q9 (Bk j)):=En b1 7 _ rfl;have l1:w.heap.size+1<o.heap.size:=oa;have lc:c<o.heap.size:=oa;have lg:g<o.heap.size:=oa;have d0:((j:Int)==(s.S i).shape)=false:=oe;have bt:=nF (CA (Bk j) (A t) (s.T t));have az:=O (Ie (s.S i).AU);have HH:=O (And.intro ar au);have bu:g≠w.heap.size:=oa;have ao:g≠w.heap.size+1:=oa;clear hM hE ax D bp b0 b1 aw I eI eX av B bk cf c3 c0 ar au C ag P hf
 go_enter func206,ntmps206
 go_upto_region 3 with(refine Ai rfl rfl _ X ?_)
 clear c1 c2 H af bq M W;go_wp2_with fail
 go_quiet (fail)
 go_wp2_with fail
 refine(az _ HH.1 HH.2).mono ?_;rintro e w2 ⟨rfl,rfl⟩;go_upto_region 7 with fail
 obtain⟨b,ai⟩:∃b,b=(o.drewN nq).setCell (G g (i*5+4)) (J (DQ (s.S i).AU)):=⟨_,rfl⟩;rw[<-ai];obtain⟨Q,aM,a6,R,a7⟩:=z ad nq b ai;obtain⟨ca,cb,_⟩:=I2.cell (s:={s with S:=AY s.S i x1}) Q.nd hj;obtain⟨_,_,aq,cc,_,U,aj⟩:=Q.F1 (i:=i) hi;cases aq;have cd:b.cell? (G g (i*5))=some (.string (s.S i).key):=U 0 _ (by
  show(IZ (AY s.S i x1 i))[0]?=_;rw[Ak,z ah];rfl)
 obtain⟨k1,cg⟩:∃u,b.cell? (G g (i*5+1))=some u:=⟨_,U 1 _ rfl⟩;obtain⟨k2,DI⟩:∃u,b.cell? (G g (i*5+2))=some u:=⟨_,U 2 _ rfl⟩;have g1:=aj (i*5+1);have g2:=aj (i*5+2);have q7:b.cell? (Y9 w 7)=some (Q9 (Bk j)):=En R 7 _ rfl;have bw:=Ah R;have a8:=O (And.intro Q aM);have bb:=O a6;have bc:=O R;have bx:=O a7;clear ai Q aM a6 R a7 ad s1 s4 f4 n0 p7 y1 y2 yT d0 bt U aj nl HH az X;go_wp2_with fail
 go_quiet (exact Calls.quiet_of_same (bx _))
 by_cases K:0<=pl
 focus
  have bz:decide (0<=pl)=true:=by simp[K]
  have ak:Hid (∀q a,a=((b.drewN q).setCell (G g (i*5+1)) (J (j:Int))).setCell (G g (i*5+2)) (J pl)->a.heap[w.heap.size+1]?=some (.cells (B4 (Bk j) (A t) (s.T t)).toArray 236 (0,0))/\∃w3,(Instr.storeAt 236 (Q9 w.heap.size) (.agg (B4 (Bk j) (A t) (s.T t)).toArray)).run prog a=.ok () w3/\Bn a w3 w.heap.size (B4 (Bk j) (A t) (s.T t)).toArray 236/\
   Mw Z c B0 vN (S9 E s.nt l) (S9 g s.ns L) vU Bk A s i t w (.returned (.tuple #[.agg (B4 (Bk j) (A t) (s.T t)).toArray,J pl])) w3):=O (by
   intro q a hq;obtain⟨m2,d2⟩:=z a8;have f:B9 b (b.drewN q):=⟨rfl,rfl,rfl,Be _,fun _ _=>rfl⟩;obtain⟨m3,d3⟩:=m2.below f;obtain⟨m4,d4⟩:=m3.EK (i:=i) (j:=1) (u:=J (j:Int)) (x':={x1 with shape:=(j:Int)}) rfl hi oa (by
    show _=(IZ (AY s.S i x1 i)).set 1 _;rw[Ak];rfl)
   obtain⟨m5,d5⟩:=m4.EK (i:=i) (j:=2) (u:=J pl) (x':={x1 with shape:=(j:Int),place:=pl}) rfl hi oa (by
    show _=(IZ (AY (AY s.S i x1) i {x1 with shape:=(j:Int)} i)).set 2 _;rw[Ak];rfl)
   rw[<-hq]at m5 d5;have st:∀k,k≠g->a.heap[k]?=b.heap[k]?:=fun k hk=>by
    rw[hq];exact(A0 _ _ _ _ (by exact hk)).trans (A0 _ _ _ _ (by exact hk))
   have eS:AV s i t={s with S:=AY (AY (AY s.S i x1) i {x1 with shape:=(j:Int)}) i {x1 with shape:=(j:Int),place:=pl}}:=by
    unfold AV;rw[F2,F2,z ay,DD K,z ah]
   refine⟨(st _ (fun e=>ao e.symm)).trans bc,ae a (by rw[eS];exact m5) (((d2.trans d3).trans d4).trans d5) ((st _ (fun e=>bu e.symm)).trans bb)⟩)
  clear K;go_upto_region 12 with fail
  obtain⟨a,V⟩:∃a,a=((b.drewN nq).setCell (G g (i*5+1)) (J (j:Int))).setCell (G g (i*5+2)) (J pl):=⟨_,rfl⟩
 rotate_left
 focus
  have bz:decide (0<=pl)=false:=by simp[K]
  have ak:Hid (∀q a,a=b.drewN q->a.heap[w.heap.size+1]?=some (.cells (B4 (Bk j) (A t) (s.T t)).toArray 236 (0,0))/\∃w3,(Instr.storeAt 236 (Q9 w.heap.size) (.agg (B4 (Bk j) (A t) (s.T t)).toArray)).run prog a=.ok () w3/\Bn a w3 w.heap.size (B4 (Bk j) (A t) (s.T t)).toArray 236/\
   Mw Z c B0 vN (S9 E s.nt l) (S9 g s.ns L) vU Bk A s i t w (.returned (.tuple #[.agg (B4 (Bk j) (A t) (s.T t)).toArray,J pl])) w3):=O (by
   intro q a hq;obtain⟨m2,d2⟩:=z a8;have f:B9 b a:=by rw[hq];exact⟨rfl,rfl,rfl,Be _,fun _ _=>rfl⟩
   obtain⟨m3,d3⟩:=m2.below f;have eS:AV s i t={s with S:=AY s.S i x1}:=by
    unfold AV;rw[z ay,C3 K,z ah]
   refine⟨(f.block _ bw).trans bc,ae a (by rw[eS];exact m3) (d2.trans d3) ((f.block _ oa).trans bb)⟩)
  clear K;go_upto_region 12 with fail
  obtain⟨a,V⟩:∃a,a=b.drewN nq:=⟨_,rfl⟩
 rotate_left;all_goals
  rw[<-V];obtain⟨bd,w3,bf,bg,bh⟩:=z ak nq a V;have b2:=O bf;have r:=O bg;have b3:=O bh;have b4:Hid (a.heap[w.heap.size+1]?=some (.cells #[.slice (A t).va (s.T t).nv (A t).vc,.slice (A t).la (s.T t).d.n (A t).lc,.slice (A t).ia (s.T t).d.m (A t).ic,.slice (A t).xa (s.T t).d.x (A t).xc,J (s.T t).d.used,J (s.T t).d.live,J (s.T t).d.turns,Q9 (Bk j)] 236 (0,0))):=O bd;clear bf bg bh bd V ak;obtain⟨r0,r1,r2,r3,r4,r5,r6,r7⟩:=ou (Ab r);go_wp2_with (first|(refine Aat rfl 236 _ rfl (w.heap.size+1) rfl _ _ _ _ b4 underlying236 rfl LB ?_)|(refine Ai rfl rfl _ b2 ?_));refine E1 (v:=.tuple #[.agg (B4 (Bk j) (A t) (s.T t)).toArray,J pl]) (by simp[results,results206,go_sem,r0,r1,r2,r3,r4,r5,r6,r7,B4]) rfl b3
theorem P2(Z:Nat->Prop)(c B0:Nat)(vN vT vS vU:V9)(Bk:Nat->Nat)(A:Nat->Ad)(s:AK)(i t:Nat)(w:Y)(f:AZ Z w c B0 vN vT vS vU Bk A s)(hf:Ax s.nf s.F=0)(hi:i<s.ns)(a:s.ns<=50)(g:t<s.nt)(b:s.nt<=100)(hx:Oi s (s.T t))(hs:gP s (s.S i)):
  C9 206 #[Q9 c,J (i:Int),J (t:Int)] w fun e w'=>Mw Z c B0 vN vT vS vU Bk A s i t w e w':=by
 obtain⟨_,h1,h2,h3,h4,_⟩:=hs;rcases hx.way with⟨e,_⟩|⟨j,e,hj,_⟩
 ·exact Wc Z c B0 vN vT vS vU Bk A s i t w f hi a g b e h2 h4
 ·by_cases d:(s.S i).shape=j
  ·exact Yl Z c B0 vN vT vS vU Bk A s i t j w f hi a g b e hj d h1 h3
  ·exact Wb Z c B0 vN vT vS vU Bk A s i t j w f hf hi a g b e hj d h2 h4
def lA(Z:Nat->Prop)(c B0:Nat)(vN vT vS vU:V9)(Bk:Nat->Nat)(A:Nat->Ad)(s:AK)(t:Nat)(k v:Vl)(w:Y)(e:Ending)(w':Y):Prop:=
 (e=.returned (.tuple #[.agg Cc,.bool false])/\BN s (s.T t) k v=.loose/\AZ Z w' c B0 vN vT vS vU Bk A s/\Br (Au B0 c vN vT vS w) w (Au B0 c vN vT vS w') w')\/
 (∃a B' p a' x' s',e=.returned (.tuple #[.agg (B4 p a' x').toArray,.bool true])/\AG B' a' x'=.iface 236 (.agg (B4 p a' x').toArray)/\BW s' t x'=CC s t k v/\BN s (s.T t) k v≠.full/\s'.nt=s.nt/\AZ Z w' c B0 a vT vS vU B' A s'/\Br (Au B0 c vN vT vS w) w (Au B0 c a vT vS w') w'/\Rd (OZ Z B0 c a vT vS w') w' a' x')
theorem AZ.Um{w0:Y}{A:Nat->Ad}(h:AZ Z w c B0 vN vT vS vU Bk A s)(hz:∀k,Z k->k<w0.heap.size){B n a g:Nat}{f:Nat->Vl}(b:Cp w B (S9 g n a) n f)(d:w0.heap.size<=g):¬OZ Z B0 c vN vT vS w g:=by
 obtain⟨cur,hb,_⟩:=AJ b rfl;rintro(e|e)
 ·exact h.Em hb oc oc oc oc oc e
 ·have:=hz g e;omega
theorem AZ.mJ{d:Y}{g i:V9}{o:Array Value}{a:Ad}(h:AZ (ZB Z w.heap.size n) w1 c B0 f g i m Bk' A' s')(p:B0<=w.heap.size)(j:w.heap.size<=l)(hz:l<n)(q:w1.heap[l]?=some (.cells o 236 (0,0)))(b:Bn w1 d l cs 236)(r:Rd (OZ (ZB Z w.heap.size n) B0 c f g i w1) w1 a x):Rd (OZ Z B0 c f g i d) d a x:=fun w3 hs hk=>by
 have s:=(h.box (.inr ⟨j,hz⟩) (GO p j) (h.Em q oc oc oc oc oc) ⟨b.os,b.tape,b.output,b.size⟩ b.other b.BB oc).2;refine r w3 (by rw[<-b.size];exact hs) (fun k k1 k2=>(hk k (by rw[b.size];exact k1) (fun e=>k2 (e.imp (s k) .inl))).trans (b.other k (fun e=>k2 (.inr (.inr (by rw[e];exact⟨j,hz⟩))))))
theorem Me(Z:Nat->Prop)(c B0:Nat)(vN vT vS vU:V9)(Bk:Nat->Nat)(A:Nat->Ad)(s:AK)(t j:Nat)(k v:Vl)(w:Y)(hM:AZ Z w c B0 vN vT vS vU Bk A s)(hf:Ax s.nf s.F=0)(ht:t<s.nt)(hx:(s.T t).shape=j)(hj:j<s.nf)(ak:(s.T t).nv=nf s.F j)(ay:bare (s.T t).d)(hk:Ky k)(ao:¬(v.kind=0/\(Cm s.F (s.T t) k).kind=0))(az:∀i,i<s.nt->(s.T i).shape=-1\/∃j:Nat,(s.T i).shape=j/\j<s.nf):
  C9 233 #[Q9 c,CA (Bk j) (A t) (s.T t),Gf k,Gf v] w fun e w'=>lA Z c B0 vN vT vS vU Bk A s t k v w e w':=by
 obtain⟨W,S⟩:∃W,W=(((w.alloc (.cells #[.slice (A t).va (s.T t).nv (A t).vc,.slice (A t).la (s.T t).d.n (A t).lc,.slice (A t).ia (s.T t).d.m (A t).ic,.slice (A t).xa (s.T t).d.x (A t).xc,J (s.T t).d.used,J (s.T t).d.live,J (s.T t).d.turns,Q9 (Bk j)] 236)).alloc (.cells (ow k) 43)).alloc (.cells (ow v) 43)).alloc (.cells Cc 236):=⟨_,rfl⟩;have aq:B9 w W:=by rw[S];exact(((n9).alloc od _).alloc oe _).alloc oe _
 have b5:W.heap.size=w.heap.size+1+1+1+1:=by rw[S];simp
 have b0:W.heap[w.heap.size]?=some (.cells (B4 (Bk j) (A t) (s.T t)).toArray 236 (0,0)):=by
  rw[S];iterate 3 (refine(DO _ _ _ (by simp;try omega)).trans ?_)
  exact BE _ _
 have b1:W.heap[w.heap.size+1]?=some (.cells (ow k) 43 (0,0)):=by
  rw[S];iterate 2 (refine(DO _ _ _ (by simp;try omega)).trans ?_)
  have h1:=BE (w.alloc (.cells #[.slice (A t).va (s.T t).nv (A t).vc,.slice (A t).la (s.T t).d.n (A t).lc,.slice (A t).ia (s.T t).d.m (A t).ic,.slice (A t).xa (s.T t).d.x (A t).xc,J (s.T t).d.used,J (s.T t).d.live,J (s.T t).d.turns,Q9 (Bk j)] 236)) (.cells (ow k) 43);simpa using h1
 have b2:W.heap[w.heap.size+1+1]?=some (.cells (ow v) 43 (0,0)):=by
  rw[S];refine(DO _ _ _ od).trans ?_;have h1:=BE ((w.alloc (.cells #[.slice (A t).va (s.T t).nv (A t).vc,.slice (A t).la (s.T t).d.n (A t).lc,.slice (A t).ia (s.T t).d.m (A t).ic,.slice (A t).xa (s.T t).d.x (A t).xc,J (s.T t).d.used,J (s.T t).d.live,J (s.T t).d.turns,Q9 (Bk j)] 236)).alloc (.cells (ow k) 43)) (.cells (ow v) 43);simpa using h1
 have b3:W.heap[w.heap.size+1+1+1]?=some (.cells Cc 236 (0,0)):=by
  rw[S];have h1:=BE (((w.alloc (.cells #[.slice (A t).va (s.T t).nv (A t).vc,.slice (A t).la (s.T t).d.n (A t).lc,.slice (A t).ia (s.T t).d.m (A t).ic,.slice (A t).xa (s.T t).d.x (A t).xc,J (s.T t).d.used,J (s.T t).d.live,J (s.T t).d.turns,Q9 (Bk j)] 236)).alloc (.cells (ow k) 43)).alloc (.cells (ow v) 43)) (.cells Cc 236);simpa using h1
 have af:(s.T t).nv<=12:=by rw[ak];exact Gq hf hj
 obtain⟨hE,aM⟩:=hM.enter aq;have Q:=hM.base;have a6:=hM.z;have k0:W.cell? (Y9 w 0)=some (J k.kind):=by simp[World.cell?,b1]
 have k3:W.cell? (Y9 w 3)=some (.string k.str):=by simp[World.cell?,b1]
 have v0:W.cell? (Z9 w 0)=some (J v.kind):=by simp[World.cell?,b2]
 have x7:=En b0 7 _ rfl;have l0:w.heap.size<W.heap.size:=oa;have l1:w.heap.size+1<W.heap.size:=oa;have l2:w.heap.size+1+1<W.heap.size:=oa;have a7:I4 W (A t).va (s.T t).nv (s.T t).V:=((hM.rd t ht).now.1).below aq rfl;have a8:I2 W s B0 Bk:=hE.nd;have bb:k.kind=4->k.str.size<=4000:=fun h=>by
  have h1:=hk.1;unfold Df Vl.ok Bh at h1;simp[h]at h1;omega
 have HE:=O hE;have ae:=O aM;have bm:=O a6;have U:=O (And.intro b0 (And.intro b1 (And.intro b2 b3)));have HX:=O (And.intro hx (And.intro ak ay));have HF:=O hf;have bn:=O az;have bp:=O a7;have bq:=O a8;have br:=O bb;have b6:=O ao;have ad:Hid (∀w1,AZ (ZB Z w.heap.size W.heap.size) w1 c B0 vN vT vS vU Bk A s->Br (Au B0 c vN vT vS w) w (Au B0 c vN vT vS w1) w1->w1.heap[w.heap.size+1+1+1]?=some (.cells Cc 236 (0,0))->BN s (s.T t) k v=.loose->∃w2,(Instr.storeAt 236 (Q9 (w.heap.size+1+1+1)) (.agg Cc)).run prog w1=.ok () w2/\Bn w1 w2 (w.heap.size+1+1+1) Cc 236/\lA Z c B0 vN vT vS vU Bk A s t k v w (.returned (.tuple #[.agg Cc,.bool false])) w2):=O (fun w1 m1 d1 hb hw=>by
  obtain⟨w2,h1,h2⟩:=ZK hb;obtain⟨f1,f2⟩:=AZ.Yk m1 d1 Q oa oa hb h2;exact⟨w2,h1,h2,.inl ⟨rfl,hw,f1,f2⟩⟩)
 have bc:Hid (∀w1 H B' p a' x' s',AZ (ZB Z w.heap.size W.heap.size) w1 c B0 H vT vS vU B' A s'->Br (Au B0 c vN vT vS w) w (Au B0 c H vT vS w1) w1->w1.heap[w.heap.size+1+1+1]?=some (.cells Cc 236 (0,0))->Rd (OZ (ZB Z w.heap.size W.heap.size) B0 c H vT vS w1) w1 a' x'->AG B' a' x'=.iface 236 (.agg (B4 p a' x').toArray)->BW s' t x'=CC s t k v->BN s (s.T t) k v≠.full->s'.nt=s.nt->
   ∃w2,(Instr.storeAt 236 (Q9 (w.heap.size+1+1+1)) (.agg (B4 p a' x').toArray)).run prog w1=.ok () w2/\Bn w1 w2 (w.heap.size+1+1+1) (B4 p a' x').toArray 236/\lA Z c B0 vN vT vS vU Bk A s t k v w (.returned (.tuple #[.agg (B4 p a' x').toArray,.bool true])) w2):=O (fun w1 H B' p a' x' s' m1 d1 hb hR e1 e2 e3 e4=>by
  obtain⟨w2,h1,h2⟩:=UE hb p a' x';obtain⟨f1,f2⟩:=AZ.Yk m1 d1 Q oa oa hb h2;exact⟨w2,h1,h2,.inr ⟨H,B',p,a',x',s',rfl,e1,e2,e3,e4,f1,f2,m1.mJ Q oa oa hb h2 hR⟩⟩)
 have ag:∀(P:Way),(¬(k.kind=4/\v.kind≠0)->P=.loose)->(k.kind=4->v.kind≠0->0<=BO s.F j k.str->P=.Dr)->(k.kind=4->v.kind≠0->¬0<=BO s.F j k.str->0<=ER s.nf s.F j k.str->P=.grow)->(k.kind=4->v.kind≠0->¬0<=BO s.F j k.str->¬0<=ER s.nf s.F j k.str->P=.loose)->BN s (s.T t) k v=P:=by
  intro P p1 p2 p3 p4;unfold BN;rw[C3 ao,DD oa,hx,show((j:Int)).toNat=j by omega];by_cases h1:k.kind=4/\v.kind≠0
  ·rw[DD h1];by_cases h2:0<=BO s.F j k.str
   ·rw[DD h2,p2 h1.1 h1.2 h2]
   ·rw[C3 h2];by_cases h3:0<=ER s.nf s.F j k.str
    ·rw[DD h3,p3 h1.1 h1.2 h2 h3]
    ·rw[C3 h3,p4 h1.1 h1.2 h2 h3]
  ·rw[C3 h1,p1 h1]
 have I:=O ag;clear hM hE aM a6 b0 b1 b2 b3 hx ak ay hf az a7 a8 bb ao aq hk ag;by_cases K:k.kind=4
 case neg=>
  have d1:(k.kind !=4)=true:=by simp[K]
  have HW:Hid (BN s (s.T t) k v=.loose):=O (I .loose (fun _=>rfl) (fun h=>absurd h K) (fun h=>absurd h K) (fun h=>absurd h K));clear K
  go_enter func233,ntmps233
  go_upto_region 1 with fail
  rw[<-S];clear S;obtain⟨w2,f,l,o⟩:=z ad W HE ae U.2.2.2 HW;have C:=O f;have a:=O l;have D:=O o;obtain⟨r0,r1,r2,r3,r4,r5,r6,r7⟩:=ou (Ab (vs:=Cc.toList) a);clear f l o;go_wp2_with (refine Ai rfl rfl _ C ?_);refine E1 (v:=.tuple #[.agg Cc,.bool false]) (by simp[results,results233,go_sem,r0,r1,r2,r3,r4,r5,r6,r7]) rfl D
 have d1:(k.kind !=4)=false:=by simp[K]
 have ah:=O K;clear K;by_cases L:v.kind=0
 case pos=>
  have d2:(v.kind==0)=true:=by simp[L]
  have HW:Hid (BN s (s.T t) k v=.loose):=O (I .loose (fun _=>rfl) (fun _ h=>absurd L h) (fun _ h=>absurd L h) (fun _ h=>absurd L h));clear L
  go_enter func233,ntmps233
  go_upto_region 1 with fail
  rw[<-S];clear S;obtain⟨w2,f,l,o⟩:=z ad W HE ae U.2.2.2 HW;have C:=O f;have a:=O l;have D:=O o;obtain⟨r0,r1,r2,r3,r4,r5,r6,r7⟩:=ou (Ab (vs:=Cc.toList) a);clear f l o;go_wp2_with (refine Ai rfl rfl _ C ?_);refine E1 (v:=.tuple #[.agg Cc,.bool false]) (by simp[results,results233,go_sem,r0,r1,r2,r3,r4,r5,r6,r7]) rfl D
 have d2:(v.kind==0)=false:=by simp[L]
 have ar:=O L;clear L;have y0:W.cell? (Z9 w 0)=some (J v.kind):=by have b:=U.2.2.1;simp[World.cell?,b]
 have y1:W.cell? (Z9 w 1)=some (J v.num):=by have b:=U.2.2.1;simp[World.cell?,b]
 have y2:W.cell? (Z9 w 2)=some (F9 v.Ag):=by have b:=U.2.2.1;simp[World.cell?,b]
 have y3:W.cell? (Z9 w 3)=some (.string v.str):=by have b:=U.2.2.1;simp[World.cell?,b]
 have y4:W.cell? (Z9 w 4)=some (J v.ref):=by have b:=U.2.2.1;simp[World.cell?,b]
 obtain⟨pl,R⟩:∃pl,pl=BO s.F j k.str:=⟨_,rfl⟩;have au:Hid (C9 181 #[Q9 (Bk j),.string k.str] W fun e w'=>e=.returned (J pl)/\w'=W):=O (by rw[R];exact bq.Zd HF hj _);have bt:Hid (W.heap[w.heap.size]?=some (.cells #[.slice (A t).va (s.T t).nv (A t).vc,.slice (A t).la (s.T t).d.n (A t).lc,.slice (A t).ia (s.T t).d.m (A t).ic,.slice (A t).xa (s.T t).d.x (A t).xc,J (s.T t).d.used,J (s.T t).d.live,J (s.T t).d.turns,Q9 (Bk j)] 236 (0,0))):=O U.1;by_cases h0:0<=pl
 case pos=>
  have bd:decide (0<=pl)=true:=by simp[h0]
  obtain⟨i,hi⟩:∃i:Nat,pl=i:=⟨pl.toNat,oa⟩;have OE:i<(s.T t).nv:=by
   rcases GU HF hj k.str with h|⟨q,h1,h2⟩
   ·omega
   ·rw[(z HX).2.1];omega
  have HW:Hid (BN s (s.T t) k v=.Dr/\CC s t k v=BW s t (Eh (s.T t) i v)):=O (by
   have h1:=z I .Dr (fun h=>absurd ⟨ah,ar⟩ h) (fun _ _ _=>rfl) (fun _ _ h=>absurd (by rw[<-R];exact h0) h) (fun _ _ h=>absurd (by rw[<-R];exact h0) h);refine⟨h1,?_⟩;unfold CC;rw[h1];show BW s t (Eh (s.T t) (BO s.F (s.T t).shape.toNat k.str).toNat v)=_;rw[(z HX).1,show((j:Int)).toNat=j by omega,<-R,hi];rfl)
  have bu:=O (Tm (Bk j) (A t) (s.T t) i v W bp OE af);rw[hi]at au bd;clear R h0 hi
  go_enter func233,ntmps233
  go_upto_region 1 with fail
  rw[<-S];clear S;go_wp2_with fail;refine au.mono ?_;rintro e w1 ⟨rfl,rfl⟩;go_wp2_with (first|(refine Aat rfl 236 _ rfl w.heap.size rfl _ _ _ _ bt underlying236 rfl LB ?_));refine bu.mono ?_;rintro e w3 ⟨⟨g,B,rfl,u⟩,E⟩;have z3:=E.size;obtain⟨m3,d3⟩:=HE.below E;have av:=(u.lt g rfl).1;have bf:Rd (OZ (ZB Z w.heap.size w1.heap.size) B0 c vN vT vS w3) w3 {A t with va:=some (G g 0),vc:=B} (Eh (s.T t) i v):=Rd.iO (t:=Eh (s.T t) i v) u rfl (m3.Um (w0:=w1) (fun q e=>e.elim (fun e=>oj (z bm q e)) (fun e=>e.2)) u av) HX.2.2;obtain⟨w2,f,l,o⟩:=z bc w3 vN Bk (Bk j) {A t with va:=some (G g 0),vc:=B} (Eh (s.T t) i v) s m3 (ae.trans d3) ((E.block _ oa).trans U.2.2.2) bf (by
   unfold AG;rw[C3 (by show¬(s.T t).shape=-1;rw[(z HX).1];omega)];show Value.iface _ (CA (Bk (s.T t).shape.toNat) _ _)=_;rw[(z HX).1];rfl) HW.2.symm (by rw[(z HW).1];decide) rfl
  clear E m3 d3 u bf;have C:=O f;have a:=O l;have D:=O o;obtain⟨r0,r1,r2,r3,r4,r5,r6,r7⟩:=ou (Ab a);clear f l o;go_wp2_with (refine Ai rfl rfl _ C ?_);refine E1 (v:=.tuple #[.agg (B4 (Bk j) ({A t with va:=some (G g 0),vc:=B}) (Eh (s.T t) i v)).toArray,.bool true]) (by simp[results,results233,go_sem,r0,r1,r2,r3,r4,r5,r6,r7,B4]) rfl D
 have bd:decide (0<=pl)=false:=by simp[h0]
 have bw:=O (XD _ c B0 vN vT vS vU Bk A s j k.str W HE HF hj (br ah) bn);have bg:Hid (BO s.F j k.str<0):=O (by rw[<-R];omega);clear R h0
 go_enter func233,ntmps233
 go_upto_region 1 with fail
 rw[<-S];clear S;go_wp2_with fail;refine au.mono ?_;rintro e w1 ⟨rfl,rfl⟩;go_wp2_with fail;refine bw.mono ?_;rintro e w3 (⟨hr,rfl,X,M⟩|⟨r,hr,H,B',rfl,X,M⟩)
 ·have HW:Hid (BN s (s.T t) k v=.loose):=O (I .loose (fun h=>absurd ⟨ah,ar⟩ h) (fun _ _ h=>absurd h (oj (z bg))) (fun _ _ _ h=>by exfalso;rw[hr]at h;omega) (fun _ _ _ _=>rfl));have ai:=O X;have aw:=O M;have bx:Hid (w3.heap[w.heap.size+1+1+1]?=some (.cells Cc 236 (0,0))):=O ((M.block _ oa (fun e=>by
   have hb:=U.2.2.2;exact HE.Em hb oc oc oc oc oc e)).trans U.2.2.2)
  clear X M hr;obtain⟨w2,f,l,o⟩:=z ad w3 ai (ae.trans aw) bx HW;have C:=O f;have a:=O l;have D:=O o;obtain⟨r0,r1,r2,r3,r4,r5,r6,r7⟩:=ou (Ab (vs:=Cc.toList) a);clear f l o;go_wp2_with (refine Ai rfl rfl _ C ?_);refine E1 (v:=.tuple #[.agg Cc,.bool false]) (by simp[results,results233,go_sem,r0,r1,r2,r3,r4,r5,r6,r7]) rfl D
 ·have E:∀(q:Nat) (cs:Array Value) (ty:TypeId),w1.heap[q]?=some (Obj.cells cs ty (0,0))->(ty=236\/ty=43)->w3.heap[q]?=some (Obj.cells cs ty (0,0)):=fun q cs ty hq ht=>(M.block q (Ah hq) (fun e=>by
   rcases ht with rfl|rfl
   ·exact HE.Em hq oc oc oc oc oc e
   ·exact HE.Em hq oc oc oc oc oc e)).trans hq
  have c0:=E _ _ _ U.1 (.inl rfl);have c2:=E _ _ _ U.2.2.1 (.inr rfl);have c3:=E _ _ _ U.2.2.2 (.inl rfl);have bz:Hid (w3.heap[w.heap.size]?=some (.cells #[.slice (A t).va (s.T t).nv (A t).vc,.slice (A t).la (s.T t).d.n (A t).lc,.slice (A t).ia (s.T t).d.m (A t).ic,.slice (A t).xa (s.T t).d.x (A t).xc,J (s.T t).d.used,J (s.T t).d.live,J (s.T t).d.turns,Q9 (Bk j)] 236 (0,0))):=O c0;have bh:=O c3;have u0:w3.cell? (Z9 w 0)=some (J v.kind):=by simp[World.cell?,c2]
  have u1:w3.cell? (Z9 w 1)=some (J v.num):=by simp[World.cell?,c2]
  have u2:w3.cell? (Z9 w 2)=some (F9 v.Ag):=by simp[World.cell?,c2]
  have u3:w3.cell? (Z9 w 3)=some (.string v.str):=by simp[World.cell?,c2]
  have u4:w3.cell? (Z9 w 4)=some (J v.ref):=by simp[World.cell?,c2]
  have lu:=Ah c2;have HW:Hid (BN s (s.T t) k v=.grow/\CC s t k v=BW {s with nf:=E7 s.nf s.F j k.str,F:=Fz s.nf s.F j k.str} t (Ej (s.T t) (r:Int) v)):=O (by
   have h1:=z I .grow (fun h=>absurd ⟨ah,ar⟩ h) (fun _ _ h=>absurd h (oj (z bg))) (fun _ _ _ _=>rfl) (fun _ _ _ h=>by exfalso;rw[hr]at h;omega);refine⟨h1,?_⟩;unfold CC;rw[h1];show{BW s t (Ej (s.T t) (ER s.nf s.F (s.T t).shape.toNat k.str) v)with nf:=E7 s.nf s.F (s.T t).shape.toNat k.str,F:=Fz s.nf s.F (s.T t).shape.toNat k.str}=_;rw[(z HX).1,show((j:Int)).toNat=j by omega,hr];rfl)
  have ai:=O X;have aw:=O M;have b7:=M.size;have bj:=O (Wq (Bk j) (B' r) (A t) (s.T t) (r:Int) v w3 ((X.rd t ht).now.1) af HX.2.2);obtain⟨kb,ax⟩:∃kb,kb=B' r:=⟨_,rfl⟩;rw[<-ax]at bj ⊢;have b4:=O ax;clear E c0 c2 c3 X M hr ax;go_wp2_with (first|(refine Aat rfl 236 _ rfl w.heap.size rfl _ _ _ _ bz underlying236 rfl LB ?_));refine bj.mono ?_;rintro e w4 ⟨⟨g,B,av,rfl,u⟩,aj⟩;have z4:=aj.size;obtain⟨m4,d4⟩:=ai.below aj;have bk:Rd (OZ (ZB Z w.heap.size w1.heap.size) B0 c H vT vS w4) w4 (XC g B) (Ej (s.T t) (r:Int) v):=Rd.iO (t:=Ej (s.T t) (r:Int) v) u rfl (m4.Um (w0:=w3) (fun q e=>by have:=ai.z q e;exact this) u av) HX.2.2;obtain⟨w2,f,l,o⟩:=z bc w4 H B' kb (XC g B) (Ej (s.T t) (r:Int) v) {s with nf:=E7 s.nf s.F j k.str,F:=Fz s.nf s.F j k.str} m4 ((ae.trans aw).trans d4) ((aj.block _ (oj (Ah bh))).trans bh) bk (by
   unfold AG;rw[C3 (by show¬(r:Int)=-1;omega),z b4];rfl) HW.2.symm (by rw[(z HW).1];decide) rfl
  clear aj m4 d4 u bk;have C:=O f;have a:=O l;have D:=O o;obtain⟨r0,r1,r2,r3,r4,r5,r6,r7⟩:=ou (Ab a);clear f l o;go_wp2_with (refine Ai rfl rfl _ C ?_);refine E1 (v:=.tuple #[.agg (B4 (kb) (XC g B) (Ej (s.T t) (r:Int) v)).toArray,.bool true]) (by simp[results,results233,go_sem,r0,r1,r2,r3,r4,r5,r6,r7,B4]) rfl D
abbrev D0:Array Value:=#[N9,N9,N9,J 0,J 0,J 0]
theorem dD(w:Y):(sizeOf 92).run prog w=.ok 6 w:=og
theorem Ta(hb:w.heap[b]?=some (.cells D0 92 (0,0)))(a0 a1 a2:T9)(n0 a c c0 c1 c2:Nat)(d:Dc):∃w',(Instr.storeAt 92 (Q9 b) (dO (.slice a0 n0 c0) (.slice a1 a c1) (.slice a2 c c2) d)).run prog w=.ok () w'/\Bn w w' b #[.slice a0 n0 c0,.slice a1 a c1,.slice a2 c c2,J d.used,J d.live,J d.turns] 92:=
 BM (old:=D0.toList) (vs:=[.slice a0 n0 c0,.slice a1 a c1,.slice a2 c c2,J d.used,J d.live,J d.turns]) dD hb rfl rfl (by simp[Value.oneCell']) rfl
theorem ZE:Small aB:=⟨oc,oc,oc⟩
theorem AD.kA{d:Dc}(h:AD w bk r0 r1 R2 E S d){q:Nat}{cs:Array Value}(hq:w.heap[q]?=some (.cells cs 96 (0,0)))(hb:bk<q):¬mM bk r0 R2 q:=by
 rintro(e|e|e)
 ·omega
 ·obtain⟨cur,hc,_⟩:=AJ h.log e;rw[hc]at hq;cases hq
 ·obtain⟨cur,hc,_⟩:=AJ h.slots (show(Value.slice (some (G R2 0)) d.x d.x).ownBlock=some q by rw[e];rfl);rw[hc]at hq;cases hq
theorem TG(A:Ad)(t:Tb)(s:AK)(b0:Nat)(B:Nat->Nat)(j:Nat)(w:Y)(hT:BH w)(hN:I2 w s b0 B)(hf:Ax s.nf s.F=0)(hj:j<s.nf)(af:t.nv=nf s.F j)(hV:I4 w A.va t.nv t.V)(ak:∀i,i<t.nv->OV (t.V i)=true):
  C9 235 #[CA (B j) A t] w fun e w'=>(∃v0 v1 v2,e=.returned (dO v0 v1 v2 (Av s.F j t.V t.nv))/\DV (Av s.F j t.V t.nv) w' v0 v1 v2 w.heap.size w'.heap.size)/\B9 w w':=by
 obtain⟨W,hW⟩:∃W,W=(w.alloc (.cells #[.slice A.va t.nv A.vc,.slice A.la t.d.n A.lc,.slice A.ia t.d.m A.ic,.slice A.xa t.d.x A.xc,J t.d.used,J t.d.live,J t.d.turns,Q9 (B j)] 236)).alloc (.cells D0 92):=⟨_,rfl⟩;have ag:B9 w W:=by rw[hW];exact(n9).alloc od _
 have ct:W.heap.size=w.heap.size+1+1:=by rw[hW];simp
 have bf:W.heap[w.heap.size]?=some (.cells #[.slice A.va t.nv A.vc,.slice A.la t.d.n A.lc,.slice A.ia t.d.m A.ic,.slice A.xa t.d.x A.xc,J t.d.used,J t.d.live,J t.d.turns,Q9 (B j)] 236 (0,0)):=by
  rw[hW];exact(DO _ _ _ od).trans (BE _ _)
 have b1:W.heap[w.heap.size+1]?=some (.cells D0 92 (0,0)):=by
  rw[hW];have h1:=BE (w.alloc (.cells #[.slice A.va t.nv A.vc,.slice A.la t.d.n A.lc,.slice A.ia t.d.m A.ic,.slice A.xa t.d.x A.xc,J t.d.used,J t.d.live,J t.d.turns,Q9 (B j)] 236)) (.cells D0 92);simpa using h1
 obtain⟨Z,M,bg,bh⟩:=hN;have HC:Hid (∀w2,B9 W w2->C9 157 #[CA (B j) A t] w2 fun e w'=>(∃v,e=.returned v/\Ck w' w2.heap.size v t.nv (FQ s j t))/\B9 w2 w'):=O (fun w2 h2=>by
  have o:=ag.trans (h2.mono oa);rw[af];exact Io s b0 B Z M A t j w2 (bg.below o) bh hf hj (hV.below o rfl) af)
 have cr:t.nv<=12:=by rw[af];exact Gq hf hj
 have ao:Hid (∀i,i<=t.nv->P6 s.F j t.V i (Av s.F j t.V i)):=O (fun i hi=>Fo hf hj (fun q hq=>ak q oa) i oa);have bb:Hid (∀k,k<t.nv->AE (BA (Dr s.F j k)) (BA (Dr s.F j k))=true/\Ky (BA (Dr s.F j k))/\(t.V k).ok=true/\(t.V k).kind≠0/\(∀i,i<(Av s.F j t.V k).n->((Av s.F j t.V k).L i).turn≠0->AE ((Av s.F j t.V k).L i).key (BA (Dr s.F j k))=false)/\Aw (Av s.F j t.V k) (BA (Dr s.F j k)) (hN (BA (Dr s.F j k)))=-1):=O (fun k hk=>by
  have hl:=(ao k oa).ls;have hky:=F8 (Gp hf hj (show k<nf s.F j by omega));have hv':(t.V k).ok=true/\(t.V k).kind≠0:=by simpa[OV]using ak k hk
  refine⟨Ca.refl _ hky,hky,hv'.1,hv'.2,hl.no hf hj oa,?_⟩;rcases hl.inv.i0.place Ca hky with⟨q,h1,h2,h3,h4⟩|⟨h1,h2⟩
  ·have:=hl.place hf hj (show k<nf s.F j by omega);omega
  ·exact h2)
 have bj:BH W:=Bg _ _ hT ag;have b6:=O bj;have cu:5<=w.heap.size:=hT.sz;have b7:=O ag;have bm:=O bf;have b8:=O b1;obtain⟨P,hP⟩:∃P,P=FQ s j t:=⟨_,rfl⟩;rw[<-hP]at HC;have HP:=O hP;clear bg bh hf hj af hV ag hP bf b1 ak hT bj
 go_enter func235,ntmps235
 go_wp2_with fail
 rw[<-hW];clear hW;go_wp2_with fail;refine(GR none 0 none 0 none 0 aB W (gK W) ZE (QS (K:=Ky) (hf:=hN)).i0.d3 (QS (K:=Ky) (hf:=hN)).i0.d4).mono ?_;rintro e w2 ⟨⟨bk,R0,R1,R2,E,S,rfl,bn,aq⟩,o⟩;have ar:=AD.Vv bn aq ZE;have cv:=aq.gb;have bp:=O ar;have ah:=O o;have bq:=O ((o.block _ oa).trans bm);have z2:=o.size;have cw:=ar.lt;clear bn aq ar o bm;go_wp2_with (first|(refine Aat rfl 236 _ rfl w.heap.size rfl _ _ _ _ bq underlying236 rfl LB ?_));refine(HC _ ah).mono ?_;rintro e w3 ⟨⟨v,rfl,r⟩,H⟩;obtain⟨va,vc,rfl⟩:=Ay r;have b9:=O (bp.below H);have bc:=O (b7.trans ((ah.trans (H.mono oa)).mono oa));have I:=O (ah.trans (H.mono oa));have z3:=H.size;have HO:=O r;have ca:=O r.lt;clear H r HC bq bp ah;go_wp2_with fail;go_loopw [11] (fun i wr=>∃(k:Nat) (r0 r1:V9) (R2:Nat) (E S:Nat->Nat),k<=t.nv/\i=J k/\AD wr bk r0 r1 R2 E S (Av s.F j t.V k)/\Below bk w3 wr/\∀q,(Value.slice va t.nv vc).ownBlock=some q->wr.heap[q]?=w3.heap[q]?) (fun i _=>t.nv-(intOf i).toNat)
 case atStart=>exact⟨0,_,_,_,_,_,oa,rfl,b9,Cs _ _,fun _ _=>rfl⟩
 case round=>
  obtain⟨k,r0,r1,au,Ek,Sk,hk,rfl,Q,hb,C⟩:=hrel;have cx:=hb.size;by_cases av:k<t.nv
  case neg=>
   have br:k=t.nv:=oa;have f:=z ao k hk;have hI:=f.ls.inv;have bt:Small (Av s.F j t.V k):=hI.small (by rw[f.m];omega);have cb:=O ((hb.block (w.heap.size+1) oa).trans ((I.block _ oa).trans b8));have cc:=O (bc.trans (hb.mono oa));have R:=O Q;have HI:=O hI;have bu:=O bt;clear hb C Q f hI bt av;obtain⟨D,hD⟩:∃D,D=Av s.F j t.V k:=⟨_,rfl⟩;rw[<-hD]at R HI bu;have HD:Hid (Av s.F j t.V t.nv=D):=O (by rw[hD,br]);rw[br];clear hD;go_wp2_with fail;refine(Rx bk r0 r1 au Ek Sk D wr R bu (fun j hj=>by
    rcases HI.i0.ints j hj with e|e<;>omega) (fun j hj=>by
    rcases HI.i0.idx.range j hj with e|e|⟨e1,e2,_⟩
    ·exact .inl e
    ·exact .inr (.inl e)
    ·exact .inr (.inr ⟨e1,oa⟩))).mono ?_
   rintro e w6 ⟨⟨u0,u1,u2,rfl,aw⟩,ai⟩;obtain⟨ua,uc,ub,ud,ue,uf,e0,e1,e2,-⟩:=aw.at;subst e0 e1 e2;obtain⟨w7,bw,l⟩:=Ta ((ai.block _ oa).trans cb) ua ub ue D.n D.m D.x uc ud uf D;have cd:=O bw;have c0:=Ab l 0 _ rfl;have c1:=Ab l 1 _ rfl;have c2:=Ab l 2 _ rfl;have c3:=Ab l 3 _ rfl;have c4:=Ab l 4 _ rfl;have c5:=Ab l 5 _ rfl;have ax:=O l;have cg:=O aw;have ch:=O (cc.trans (ai.mono oa));have z6:=ai.size;clear aw ai bw l;go_wp2_with (refine Ai rfl rfl _ cd ?_);refine E1 (v:=dO (.slice ua D.n uc) (.slice ub D.m ud) (.slice ue D.x uf) D) (by simp[results,results235,go_sem,c0,c1,c2,c3,c4,c5]) rfl ⟨⟨_,_,_,by rw[z HD],?_⟩,?_⟩
   ·rw[z HD];refine DV.wide (DV.keep cg (fun b hb _=>ax.other b oa)) oa (by rw[(z ax).size];exact Be _)
   ·exact ax.below ch oa
  obtain⟨g,cp,hv,cy,cz,_,bx,_⟩:=Ck.form HO oa;cases hv;have T:=C g rfl;obtain⟨ae,U,_⟩:=AJ HO rfl;have ay:wr.heap[g]?=some (.cells ae 96 (0,0)):=T.trans U;have cj:=Ah ay;have az:=O (SH ((bx k av).keep (fun q=>As (a:=(G g q)) T)));obtain⟨p,hp⟩:∃p,p=P k:=⟨_,rfl⟩;rw[<-hp]at az;have bz:Hid (p.key=BA (Dr s.F j k)/\p.val=t.V k):=O (by rw[hp,z HP];exact⟨rfl,rfl⟩);have b2:=O hb;have R:=O Q;have bd:=O C;have ck:=O ay;have cD:=Q.lt;clear hb C bx hp Q T ay U;go_upto_region 5 with(first|(refine wpList_load_mid rfl 96 _ rfl g (k*11) rfl (Db p) _ az underlying96 rfl T5 ?_)|(refine Ai rfl rfl _ (N4 wr p) ?_))
  obtain⟨w4,aj⟩:∃w4,w4=wr.alloc (.cells (Db p).toArray 96):=⟨_,rfl⟩;rw[<-aj];have b3:B9 wr w4:=by rw[aj];exact(Cs _ _).alloc (Be _) _
  have c:w4.heap[wr.heap.size]?=some (.cells (Db p).toArray 96 (0,0)):=by rw[aj];exact BE _ _
  have l4:=Ah c;have q0:w4.cell? (y wr 0)=some (J p.key.kind):=by rw[MM w4 _ _ _ _ _ c];rfl
  have q1:w4.cell? (y wr 1)=some (J p.key.num):=by rw[MM w4 _ _ _ _ _ c];rfl
  have q2:w4.cell? (y wr 2)=some (F9 p.key.Ag):=by rw[MM w4 _ _ _ _ _ c];rfl
  have q3:w4.cell? (y wr 3)=some (.string p.key.str):=by rw[MM w4 _ _ _ _ _ c];rfl
  have q4:w4.cell? (y wr 4)=some (J p.key.ref):=by rw[MM w4 _ _ _ _ _ c];rfl
  have q5:w4.cell? (y wr 5)=some (J p.val.kind):=by rw[MM w4 _ _ _ _ _ c];rfl
  have q6:w4.cell? (y wr 6)=some (J p.val.num):=by rw[MM w4 _ _ _ _ _ c];rfl
  have q7:w4.cell? (y wr 7)=some (F9 p.val.Ag):=by rw[MM w4 _ _ _ _ _ c];rfl
  have q8:w4.cell? (y wr 8)=some (.string p.val.str):=by rw[MM w4 _ _ _ _ _ c];rfl
  have q9:w4.cell? (y wr 9)=some (J p.val.ref):=by rw[MM w4 _ _ _ _ _ c];rfl
  have X:=O b3;clear aj b3 c az;have ad:Hid (C9 261 #[Q9 bk,V p.key.kind p.key.num p.key.Ag p.key.str p.key.ref,V p.val.kind p.val.num p.val.Ag p.val.str p.val.ref] w4 fun e w'=>((∃u,e=.returned u)/\∃aM a6 a7 E2 S',AD w' bk aM a6 a7 E2 S' (Av s.F j t.V (k+1)))/\KX (mM bk r0 au) bk w4 w'):=O (by
   obtain⟨p1,p2,p3,p4,p5,p6⟩:=z bb k av;have f:=z ao k hk;have cl:BH w4:=by
    have h1:Below 5 W w4:=((I.mono oa).trans (b2.mono oa)).trans (X.mono oa);exact b6.below h1 (Be _)
   have h:=VA BH Bg hN Ky Ca Mj bk (fun a b ha hb=>ha.below hb oa) r0 r1 au Ek Sk (Av s.F j t.V k) (BA (Dr s.F j k)) (t.V k) w4 cl (R.below X) (f.ls.inv.small (by rw[f.m];omega)) (by rw[f.m];omega) f.ls.inv p2 p2.1 p3 ⟨fun e=>absurd e p4,fun e=>absurd e.1 (show¬(4:Int)=2 by decide)⟩;rw[(z bz).1,(z bz).2];exact h.mono fun e w' q=>⟨q.1,q.2.mono fun b _ h=>h p6 (fun h=>by obtain⟨h1,h2⟩:=h;rw[f.live,f.n]at h2;omega) rfl⟩)
  go_wp2_with fail
  refine ad.mono ?_;rintro e w5 ⟨⟨⟨uu,rfl⟩,aM,a6,a7,E2,S2,b4⟩,a8⟩;have cm:=O b4;have cn:Hid (Below bk w3 w5):=O ((b2.trans (X.mono oa)).trans a8.CN);have cq:Hid (∀q,(Value.slice (some (G g 0)) t.nv vc).ownBlock=some q->w5.heap[q]?=w3.heap[q]?):=O (fun q e=>by
   cases e;have h4:=X.block g cj;have b5:w4.heap[g]?=some (.cells ae 96 (0,0)):=h4.trans ck;exact(a8.BB g (Ah b5) ((R.below X).kA b5 (oj (z ca)))).trans (h4.trans (bd g rfl)))
  clear b4 a8 q0 q1 q2 q3 q4 q5 q6 q7 q8 q9 ad;go_wp2;go_roundw
  case rel=>exact⟨k+1,aM,a6,a7,E2,S2,oa,oh,cm,cn,cq⟩
  case measure=>simp[intOf];omega
theorem YG:(prog.info? 1).map (fun i=>(i.zero,i.size,i.bytes))=some (some .nilFunc,1,8):=og
theorem Gc(Z:Nat->Prop)(c B0:Nat)(vN vT vS:V9)(Bk:Nat->Nat)(A:Nat->Ad)(s:AK)(fn:Nat)(cs:Array Value)(w:Y)(j:AZ Z w c B0 vN vT vS (N9) Bk A s):
  C9 201 #[Q9 c,.func (.func fn) #[] cs] w fun e w'=>(∃u,e=.returned u)/\∃g t,w.heap.size<=g/\w'.ownsRow w.heap.size 1 1 (S9 g 1 t) 1 [.func (.func fn) #[] cs]/\AZ Z w' c B0 vN vT vS (S9 g 1 t) Bk A s/\Br (Au B0 c vN vT vS w) w (Au B0 c vN vT vS w') w'/\∀k,k<w.heap.size->k≠c->w'.heap[k]?=w.heap[k]?:=by
 obtain⟨i0,l,m,n,o⟩:=P9 YG;obtain⟨c0,c1,c2,c3,cf⟩:=j.cells;have B:=j.lt;have C:Hid (∀g3 a w3,w3.ownsRow w.heap.size 1 1 (S9 g3 1 a) 1 ([]++[.func (.func fn) #[] cs])->(w.alloc (.cells #[.func (.func fn) #[] cs] 1)).grownBy w3 none->g3=w.heap.size+1->
   w3.cell? (G c 3)=some (N9)/\w3.frozen? (G c 3)=false/\c<w3.heap.size/\((w3.setCell (G c 3) (S9 g3 1 a)).ownsRow w.heap.size 1 1 (S9 g3 1 a) 1 [.func (.func fn) #[] cs]/\AZ Z (w3.setCell (G c 3) (S9 g3 1 a)) c B0 vN vT vS (S9 g3 1 a) Bk A s/\Br (Au B0 c vN vT vS w) w (Au B0 c vN vT vS (w3.setCell (G c 3) (S9 g3 1 a))) (w3.setCell (G c 3) (S9 g3 1 a))/\∀k,k<w.heap.size->k≠c->(w3.setCell (G c 3) (S9 g3 1 a)).heap[k]?=w.heap[k]?)):=O (by
  intro g3 a w3 h1 h2 h3;have i:B9 w w3:=⟨h2.os,h2.tape,h2.output,GO od h2.size,fun k hk=>(h2.block k oe od).trans (DO _ _ _ hk)⟩;obtain⟨m3,d3⟩:=j.below i;obtain⟨_,_,_,e3,v⟩:=m3.cells;obtain⟨m4,d4⟩:=m3.kO (ua:=some (G g3 0)) (un:=1) (uc:=a);refine⟨e3,v 3,m3.lt,Ae h1 (fun q e=>A0 _ _ _ _ (by cases e;show g3≠c;omega)),m4,d3.trans d4,fun k hk p=>(A0 _ _ _ _ (by exact p)).trans (i.block k hk)⟩)
 clear j c0 c1 c2
 go_enter func201,ntmps201
 go_wp2_with (at_builtin;refine Aab _ rfl _ _ 196 rfl w.heap.size 1 i0 .nilFunc 1 8 underlying196 l m n o rfl oc (N9) 0 [] rfl (IF _ _ _ _) (y w 0) 1 1 [.func (.func fn) #[] cs] rfl rfl (H8 (BE _ _)) (by simp[Value.oneCell']) oc oc oc od (w.heap.size+1) od ?_;intro g3 a w3 f h b x;obtain⟨e3,v,D,d⟩:=z C g3 a w3 f h (b.resolve_left (by simp[Value.ownBlock]));have d:=O d;have r:w.heap.size<=g3:=(oj (b.resolve_left (by simp[Value.ownBlock])));clear f h b)
 go_end0;exact⟨⟨_,rfl⟩,g3,a,r,d.1,d.2.1,d.2.2.1,d.2.2.2⟩
structure JO (w:Y) (c:Nat) (vU:V9) (t:Nat) (h:V9) (a d e f g:Nat):Prop where
 v:vU=S9 a 1 d
 u:w.ownsRow 0 1 1 (S9 a 1 d) 1 [.func (.func 240) #[] #[Q9 e,Q9 f,Q9 g]]
 k:w.heap[e]?=some (.cells #[h] 162 (0,0))
 b:w.heap[f]?=some (.cells #[Q9 c] 121 (0,0))
 n:w.heap[g]?=some (.cells #[J (t:Int)] 3 (0,0))
theorem JO.keep{a d f:Nat}(h:JO w c vU t j a l d f i)(h1:w'.heap[a]?=w.heap[a]?)(m:w'.heap[d]?=w.heap[d]?)(h2:w'.heap[f]?=w.heap[f]?)(h3:w'.heap[i]?=w.heap[i]?):JO w' c vU t j a l d f i:=
 ⟨h.v,Ae h.u (fun g e=>by cases e;exact h1),m.trans h.k,h2.trans h.b,h3.trans h.n⟩
def P5(a b c g t:Nat)(vT d:V9)(W:Y):Prop:=W.cell? (G a 0)=some (Q9 c)/\W.cell? (G b 0)=some (J (t:Int))/\W.cell? (G c 1)=some vT/\W.cell? (G g t)=some d
def Tz(a b c t:Nat)(vT:V9)(W:Y):Prop:=W.cell? (G a 0)=some (Q9 c)/\W.cell? (G b 0)=some (J (t:Int))/\W.cell? (G c 1)=some vT
theorem KY(Bk:Nat->Nat)(a:Ad)(x:Tb):∃ty v,AG Bk a x=.iface ty v:=by
 unfold AG
 split
 ·exact⟨_,_,rfl⟩
 ·exact⟨_,_,rfl⟩
theorem Il(Z:Nat->Prop)(c B0:Nat)(vN vT vS:V9)(Bk:Nat->Nat)(A:Nat->Ad)(s:AK)(t:Nat)(a':Ad)(x':Tb)(w:Y)(C:AZ Z w c B0 vN vT vS (N9) Bk A s)(ht:t<s.nt)(ax:s.nt<=100)(hr:Rd (OZ Z B0 c vN vT vS w) w a' x'):
  C9 208 #[Q9 c,J (t:Int),AG Bk a' x'] w fun e w'=>(∃u,e=.returned u)/\∃M,AZ Z w' c B0 vN vT vS M Bk (AY A t a') (BW s t x')/\Br (Au B0 c vN vT vS w) w (Au B0 c vN vT vS w') w'/\(∀k,k<w.heap.size->k≠c->vT.ownBlock≠some k->w'.heap[k]?=w.heap[k]?)/\∃l m bb bw bn,JO w' c M t (AG Bk (A t) (s.T t)) l m bb bw bn/\vT.ownBlock≠some bb:=by
 obtain⟨g,f,hv,af,ay,P,ag⟩:=C.CP ht;subst hv;obtain⟨ty,H,D⟩:=KY Bk (A t) (s.T t);obtain⟨ty',i,n⟩:=KY Bk a' x';obtain⟨W,I⟩:∃W,W=(w.alloc (.cells #[Q9 c] 121)).alloc (.cells #[J (t:Int)] 3):=⟨_,rfl⟩;have o:B9 w W:=by rw[I];exact(n9).alloc od _
 have ah:W.heap.size=w.heap.size+1+1:=by rw[I];simp
 have b0:W.heap[w.heap.size]?=some (.cells #[Q9 c] 121 (0,0)):=by
  rw[I];exact(DO _ _ _ od).trans (BE _ _)
 have b1:W.heap[w.heap.size+1]?=some (.cells #[J (t:Int)] 3 (0,0)):=by
  rw[I];have h1:=BE (w.alloc (.cells #[Q9 c] 121)) (.cells #[J (t:Int)] 3);simpa using h1
 have ai:=C.lt;have aj:c≠g:=fun e=>C.A9 C.t oc (by rw[e];rfl);obtain⟨X,L⟩:∃X,X=(W.alloc (.cells #[.iface ty H] 162)).drew:=⟨_,rfl⟩;have r:B9 w X:=by rw[L];exact(o.alloc o.size _).drew
 have b:B9 W X:=by rw[L];exact(n9).drew
 have az:X.heap.size=w.heap.size+1+1+1:=by rw[L];simp;omega
 have x2:X.heap[w.heap.size+1+1]?=some (.cells #[.iface ty H] 162 (0,0)):=by
  rw[L,<-ah];exact BE W _
 have d:P5 w.heap.size (w.heap.size+1) c g t (S9 g s.nt f) (.iface ty H) W.drew:=⟨by show W.cell? _=_;simp[World.cell?,b0],by show W.cell? _=_;simp[World.cell?,b1],(o.cell (p:=(G c 1)) ai).trans C.cells.2.1,(o.cell (p:=(G g t)) af).trans (P.trans (by rw[D]))⟩;obtain⟨hE,E⟩:=C.enter r;have x:Hid (∀w1 l m,W.heap.size<w1.heap.size->(∀k,k<X.heap.size->k≠c->w1.heap[k]?=X.heap[k]?)->X.heap.size<=l->w1.ownsRow X.heap.size 1 1 (S9 l 1 m) 1 [.func (.func 240) #[] #[Q9 (w.heap.size+1+1),Q9 w.heap.size,Q9 (w.heap.size+1)]]->
   AZ (ZB Z w.heap.size X.heap.size) w1 c B0 vN (S9 g s.nt f) vS (S9 l 1 m) Bk A s->Br (Au B0 c vN (S9 g s.nt f) vS X) X (Au B0 c vN (S9 g s.nt f) vS w1) w1->
   Tz w.heap.size (w.heap.size+1) c t (S9 g s.nt f) w1.drew/\Tz w.heap.size (w.heap.size+1) c t (S9 g s.nt f) ((w1.setCell (G g t) (.iface ty' i)).drew)/\g<w1.heap.size/\(∃u,w1.cell? (G g t)=some u)/\w1.frozen? (G g t)=false/\
   (AZ Z (w1.setCell (G g t) (.iface ty' i)).drew c B0 vN (S9 g s.nt f) vS (S9 l 1 m) Bk (AY A t a') (BW s t x')/\Br (Au B0 c vN (S9 g s.nt f) vS w) w (Au B0 c vN (S9 g s.nt f) vS (w1.setCell (G g t) (.iface ty' i)).drew) (w1.setCell (G g t) (.iface ty' i)).drew/\(∀k,k<w.heap.size->k≠c->(Value.slice (some (G g 0)) s.nt f).ownBlock≠some k->(w1.setCell (G g t) (.iface ty' i)).drew.heap[k]?=w.heap[k]?)/\
    JO (w1.setCell (G g t) (.iface ty' i)).drew c (S9 l 1 m) t (AG Bk (A t) (s.T t)) l m (w.heap.size+1+1) w.heap.size (w.heap.size+1))):=O (by
  intro w1 l m aM j Q v m1 d1;have y0:=(j _ oa oa).trans ((b.block _ oa).trans b0);have y1:=(j _ oa oa).trans ((b.block _ oa).trans b1);have y2:=(j _ oa oa).trans x2;have ak:Rd (OZ (ZB Z w.heap.size X.heap.size) B0 c vN (S9 g s.nt f) vS w1) w1 a' x':=by
   intro ao hs hk;refine hr ao (GO r.size (GO d1.size hs)) (fun k k1 k2=>?_);have R:=E.trans d1;refine(hk k (At k1 R.size) (fun e=>?_)).trans (R.block k k1 (fun e=>k2 (.inl e)));rcases e with e|e|e
   ·exact(R.own k e).elim (fun e=>k2 (.inl e)) (fun e=>oa)
   ·exact k2 (.inr e)
   ·omega
  have S:g<w1.heap.size:=At oa d1.size;have U:w1.cell? (G g t)=some (AG Bk (A t) (s.T t)):=by rw[IH m1.t t oa,KW ht]
  have V:∀q,w1.frozen? (G g q)=false:=fun q=>by obtain⟨cur,hb,_⟩:=AJ m1.t rfl;simp[World.frozen?,hb]
  obtain⟨m2,d2⟩:=m1.FM rfl ht ak;rw[n]at m2 d2;have st:∀q,q≠g->(w1.setCell (G g t) (.iface ty' i)).heap[q]?=w1.heap[q]?:=fun q hq=>A0 _ _ _ _ (by exact hq);have ad:=m1.cells.2.1;have R:=(E.trans d1).trans d2;refine⟨⟨by show w1.cell? _=_;simp[World.cell?,y0],by show w1.cell? _=_;simp[World.cell?,y1],ad⟩,⟨?_,?_,(As (a:=(G c 1)) (st c aj)).trans ad⟩,S,⟨_,U⟩,V t,(m2.leave (fun k e=>.inl e)).drew,R.Rz,fun k hk aq ar=>?_,⟨rfl,NI (Ae v (fun q e=>st q (by cases e;show l≠g;omega))) (Re _),?_,(st _ oa).trans y0,(st _ oa).trans y1⟩⟩
  ·exact(As (a:=(y w 0)) (st w.heap.size oa)).trans (by simp[World.cell?,y0])
  ·exact(As (a:=(Y9 w 0)) (st (w.heap.size+1) oa)).trans (by simp[World.cell?,y1])
  ·exact(st k (fun e=>ar (by rw[e];rfl))).trans ((j k oa aq).trans (r.block k hk))
  ·exact((st _ oa).trans y2).trans (by rw[D]))
 have HE:=O hE;have ae:P5 w.heap.size (w.heap.size+1) c g t (S9 g s.nt f) (.iface ty H) X:=⟨(b.cell (p:=(y w 0)) (by show w.heap.size<_;omega)).trans d.1,(b.cell (p:=(Y9 w 0)) (by show w.heap.size+1<_;omega)).trans d.2.1,(b.cell (p:=(G c 1)) (by show c<_;omega)).trans d.2.2.1,(b.cell (p:=(G g t)) (by show g<_;omega)).trans d.2.2.2⟩;have F:∀cs,P5 w.heap.size (w.heap.size+1) c g t (S9 g s.nt f) (.iface ty H) (W.alloc (.cells cs 162)).drew:=fun cs=>by
  have hb:B9 W (W.alloc (.cells cs 162)).drew:=(n9).drew;exact⟨(hb.cell (p:=(y w 0)) (by show w.heap.size<_;omega)).trans d.1,(hb.cell (p:=(Y9 w 0)) (by show w.heap.size+1<_;omega)).trans d.2.1,(hb.cell (p:=(G c 1)) (by show c<_;omega)).trans d.2.2.1,(hb.cell (p:=(G g t)) (by show g<_;omega)).trans d.2.2.2⟩
 have aw:W.heap.size<X.heap.size:=oa;have x0:X.cell? (y w 0)=some (Q9 c):=ae.1;have a6:w.heap.size<X.heap.size:=oa;rw[n];clear C hE E o r b x2 b0 b1 hr P ag D n
 go_enter func208,ntmps208
 go_wp2_with fail
 rw[<-I];clear I;refine Hl (P5 w.heap.size (w.heap.size+1) c g t (S9 g s.nt f) (.iface ty H)) ?_;refine tz 0 (h:=tz 1 (h:=tz 2 (h:=tz 3 (h:=tz 4 (h:=tz 5 (h:=tz 6 (h:=tz 7 (h:=?_))))))));refine ry 8 (fun K hK=>?_);go_simp;refine hK.out _ _ (F _) (fun _=>?_);clear hK K;refine ry 9 (fun K hK=>?_);go_simp;refine hK.out _ _ (F _) (fun _=>?_);clear hK K;refine Fj ?_;rw[<-L];clear L d ae F;go_wp2_with fail;refine(Gc _ c B0 _ _ _ Bk A s 240 #[Q9 (w.heap.size+1+1),Q9 w.heap.size,Q9 (w.heap.size+1)] X HE).mono ?_;rintro e w1 ⟨⟨uu,rfl⟩,l,m,Q,v,m1,d1,j⟩;obtain⟨a7,au,a8,⟨u0,bc⟩,bd,B⟩:=z x w1 l m (oj d1.size) j Q v m1 d1;have av:=O B;clear m1 d1 j v B x HE x0;go_wp2_with fail;refine Hl (Tz w.heap.size (w.heap.size+1) c t (S9 g s.nt f)) ?_;refine tz 0 (h:=tz 1 (h:=tz 2 (h:=tz 3 (h:=tz 4 (h:=tz 5 (h:=tz 6 (h:=tz 7 (h:=?_))))))));refine ry 8 (fun K hK=>?_);go_simp;refine hK.out _ _ au (fun _=>?_);clear hK K;refine Fj ?_;go_wp2_with fail;go_end0;obtain⟨f1,f2,f3,f4⟩:=z av;exact⟨⟨_,rfl⟩,_,f1,f2,f3,l,m,w.heap.size+1+1,w.heap.size,w.heap.size+1,f4,fun e=>by have e:g=w.heap.size+1+1:=Aap e;omega⟩
theorem AD.Ni{d:Dc}(h:AD w bk r0 r1 R2 E S d)(hs:w.heap.size<=w'.heap.size)(hk:∀k,bk<=k->k<w.heap.size->w'.heap[k]?=w.heap[k]?):AD w' bk r0 r1 R2 E S d:=by
 have hb:=hk bk (Be _) h.lt;have e:∀q,w'.cell? (G bk q)=w.cell? (G bk q):=fun q=>As (a:=(G bk q)) hb;have c:∀{t:TypeId} {v:V9} {n:Nat} {f:Nat->Option Addr},Rw w (bk+1) t v n f->Rw w' (bk+1) t v n f:=fun g=>Ae g (fun q hq=>hk q (oj (g.lt q hq).1) (g.lt q hq).2);refine⟨At h.lt hs,(e _).trans h.c0,(e _).trans h.c1,(e _).trans h.c2,(e _).trans h.c3,(e _).trans h.c4,(e _).trans h.c5,(e _).trans h.c6,fun q=>(GW (a:=(G bk q)) hb).trans (h.fz q),c h.log,c h.ints,h.rf,c h.slots,h.ap,fun i hi=>(h.Cr i hi).keep hs (hk _ (Aax (h.eb i hi)) (h.Cr i hi).lt),h.eb,h.inj,fun j hj=>⟨fun b=>((h.sl j hj).1 b).keep hs (hk _ (Aax (h.sg j hj oa)) (Ah ((h.sl j hj).1 b).ob)),fun b=>((h.sl j hj).2 b).keep hs (hk _ (Aax (h.sg j hj oa)) (Ah ((h.sl j hj).2 b).ob))⟩,h.sg⟩
theorem Rd.MX{X:Nat->Prop}{t:Tb}{lo hi:Nat}{c0 c1 c2:Nat}(h:DV t.d w (.slice A.la t.d.n c0) (.slice A.ia t.d.m c1) (.slice A.xa t.d.x c2) lo hi)(hn:t.nv=0)(j:∀b cs ty,w.heap[b]?=some (.cells cs ty (0,0))->(ty=96\/ty=3)->lo<=b->¬X b):Rd X w A t:=fun w' hs hk=>by
 have hl:Kz t.d.L t.d.n w' (.slice A.la t.d.n c0) lo hi:=by
  rcases h.log with h|⟨b,e,Z,g,h1,h2,h3,h4,h5,i⟩
  ·exact .inl h
  ·obtain⟨c,hc,_,_⟩:=id h4;exact .inr ⟨b,e,Z,g,h1,h2,h3,RC h4 (hk b (Ah hc) (j b _ _ hc (.inl rfl) h2)),h5,i⟩
 have a:∀{f:Nat->Int} {n:Nat} {v:V9},Hb f n w v lo hi->Hb f n w' v lo hi:=fun k=>by
  rcases k with h|⟨b,e,Z,g,h1,h2,h3,h4,h5,i⟩
  ·exact .inl h
  ·obtain⟨c,hc,_,_⟩:=id h4;exact .inr ⟨b,e,Z,g,h1,h2,h3,RC h4 (hk b (Ah hc) (j b _ _ hc (.inr rfl) h2)),h5,i⟩
 obtain⟨la,lc,ia,ic,xa,xc,e0,e1,e2,l⟩:=DV.at (⟨hl,a h.ints,a h.index,h.lB,h.lC,h.a12⟩:DV t.d w' _ _ _ lo hi);cases e0;cases e1;cases e2;exact⟨.inl hn,l⟩
theorem WD(Bk:Nat->Nat)(x:Tb)(d:Dc)(k v:Vl)(la ia xa:T9)(lc ic xc:Nat):AG Bk ⟨none,0,la,lc,ia,ic,xa,xc⟩ (Ew x d k v)=.iface 239 (.agg #[N9,.slice la (Cf hN d k v).n lc,.slice ia (Cf hN d k v).m ic,.slice xa (Cf hN d k v).x xc,J (Cf hN d k v).used,J (Cf hN d k v).live,J (Cf hN d k v).turns]):=DD rfl
def kZ(Z:Nat->Prop)(c B0:Nat)(vN vT vS:V9)(Bk:Nat->Nat)(A:Nat->Ad)(s:AK)(t:Nat)(d:Dc)(k v:Vl)(w:Y)(e:Ending)(w':Y):Prop:=
 e=.returned (Bp (if EP d k v=true then 5 else 0))/\∃a a',AZ Z w' c B0 vN vT vS a Bk (AY A t a') (BW s t (Ew (s.T t) d k v))/\Br (Au B0 c vN vT vS w) w (Au B0 c vN vT vS w') w'/\∃f g b h i,JO w' c a t (AG Bk (A t) (s.T t)) f g b h i/\vT.ownBlock≠some b
theorem Iv(Z:Nat->Prop)(c B0:Nat)(vN vT vS:V9)(Bk:Nat->Nat)(A:Nat->Ad)(s:AK)(t:Nat)(la:T9)(lc:Nat)(ia:T9)(ic:Nat)(xa:T9)(xc:Nat)(d:Dc)(k v:Vl)(w:Y)(hM:AZ Z w c B0 vN vT vS (N9) Bk A s)(ht:t<s.nt)(bq:s.nt<=100)(hT:BH w)(hD:G8 w la ia xa d)(hI:Inv Ky hN d)(hm:d.m<=4000000)(hk:Ky k)(hv:v.ok=true)(hR:MI k v)(b9:5<=B0):
  C9 234 #[Q9 c,J (t:Int),Dv la lc ia ic xa xc d,Gf k,Gf v] w fun e w'=>kZ Z c B0 vN vT vS Bk A s t d k v w e w':=by
 have br:=O hR;clear hR;obtain⟨W,hW⟩:∃W,W=((w.alloc (.cells #[.slice la d.n lc,.slice ia d.m ic,.slice xa d.x xc,J d.used,J d.live,J d.turns] 92)).alloc (.cells (ow k) 43)).alloc (.cells (ow v) 43):=⟨_,rfl⟩;have ad:B9 w W:=by rw[hW];exact((n9).alloc od _).alloc oe _
 have ca:W.heap.size=w.heap.size+1+1+1:=by rw[hW];simp
 have b0:W.heap[w.heap.size]?=some (.cells #[.slice la d.n lc,.slice ia d.m ic,.slice xa d.x xc,J d.used,J d.live,J d.turns] 92 (0,0)):=by
  rw[hW];iterate 2 (refine(DO _ _ _ (by simp;try omega)).trans ?_)
  exact BE _ _
 have b1:W.heap[w.heap.size+1]?=some (.cells (ow k) 43 (0,0)):=by
  rw[hW];refine(DO _ _ _ od).trans ?_;have h1:=BE (w.alloc (.cells #[.slice la d.n lc,.slice ia d.m ic,.slice xa d.x xc,J d.used,J d.live,J d.turns] 92)) (.cells (ow k) 43);simpa using h1
 have b2:W.heap[w.heap.size+1+1]?=some (.cells (ow v) 43 (0,0)):=by
  rw[hW];have h1:=BE ((w.alloc (.cells #[.slice la d.n lc,.slice ia d.m ic,.slice xa d.x xc,J d.used,J d.live,J d.turns] 92)).alloc (.cells (ow k) 43)) (.cells (ow v) 43);simpa using h1
 have hS:Small d:=hI.small oa;have au:=hI.sound Ca;have av:=Ij Ca hI hk hk.1 hv;have bt:=Uy (v:=v) Ca hI hk;have M:=O (Wo hI hk hv);have cb:=hM.lt;have aw:=(hM.t.lt);have cc:=hM.base;have x0:W.cell? (y w 0)=some (.slice la d.n lc):=by simp[World.cell?,b0]
 have x1:W.cell? (y w 1)=some (.slice ia d.m ic):=by simp[World.cell?,b0]
 have x2:W.cell? (y w 2)=some (.slice xa d.x xc):=by simp[World.cell?,b0]
 have x3:W.cell? (y w 3)=some (J d.used):=by simp[World.cell?,b0]
 have x4:W.cell? (y w 4)=some (J d.live):=by simp[World.cell?,b0]
 have x5:W.cell? (y w 5)=some (J d.turns):=by simp[World.cell?,b0]
 have lW:w.heap.size<W.heap.size:=oa;have HM:=O hM;have bu:=O ad;have ax:=O (And.intro b1 b2);have ay:=O (hD.below ad);have HT:=O hT;have HI:=O hI;have HS:=O hS;have az:=O au;have h:=O av;have HV:=O hv;have HK:=O hk;have bx:=O aw;clear hM ad b0 b1 b2 hD hT hI hS au av hv hk aw
 go_enter func234,ntmps234
 go_wp2_with fail
 rw[<-hW];clear hW;refine(GR la lc ia ic xa xc d _ ay HS az.d3 az.d4).mono ?_;rintro e w1 ⟨⟨bk,R0,R1,R2,E,S,rfl,aM,ae⟩,p⟩;have a6:=AD.Vv aM ae HS;have cd:=ae.gb;have z1:=p.size;obtain⟨b1,b2⟩:=z ax;have b1:=(p.block _ oa).trans b1;have b2:=(p.block _ oa).trans b2;have k0:w1.cell? (Y9 w 0)=some (J k.kind):=by simp[World.cell?,b1]
 have k1:w1.cell? (Y9 w 1)=some (J k.num):=by simp[World.cell?,b1]
 have k2:w1.cell? (Y9 w 2)=some (F9 k.Ag):=by simp[World.cell?,b1]
 have k3:w1.cell? (Y9 w 3)=some (.string k.str):=by simp[World.cell?,b1]
 have k4:w1.cell? (Y9 w 4)=some (J k.ref):=by simp[World.cell?,b1]
 have v0:w1.cell? (Z9 w 0)=some (J v.kind):=by simp[World.cell?,b2]
 have v1:w1.cell? (Z9 w 1)=some (J v.num):=by simp[World.cell?,b2]
 have v2:w1.cell? (Z9 w 2)=some (F9 v.Ag):=by simp[World.cell?,b2]
 have v3:w1.cell? (Z9 w 3)=some (.string v.str):=by simp[World.cell?,b2]
 have v4:w1.cell? (Z9 w 4)=some (J v.ref):=by simp[World.cell?,b2]
 have l1:=Ah b1;have l2:=Ah b2;have r:=O (And.intro b1 b2);have a7:=O a6;have a8:=O (bu.trans (p.mono oa));clear aM ae a6 p b1 b2 x0 x1 x2 x3 x4 x5 ay ax;go_wp2_with fail;refine(VA BH Bg hN Ky Ca Mj bk (fun a b ha hb=>ha.below hb oa) _ _ R2 E S d k v w1 (Bg _ _ HT a8) a7 HS hm HI HK HK.1 HV br).mono ?_;rintro e w2 ⟨⟨⟨uu,rfl⟩,r0,r1,bc,E2,S2,af⟩,⟨C,_⟩⟩;have P:=O af;have z2:=C.size;have bd:=O (a8.trans (C.mono oa));have F:=O (And.intro ((C.block _ oa).trans r.1) ((C.block _ oa).trans r.2));have b8:=af.lt;clear af C k0 k1 k2 k3 k4 v0 v1 v2 v3 v4 l1 l2 r a7;obtain⟨D,ag⟩:∃D,D=Cf hN d k v:=⟨_,rfl⟩;rw[<-ag]at P h bt M;have bf:=O ag;clear ag;go_wp2_with fail;refine(Rx bk r0 r1 bc E2 S2 D w2 P (h.small oa) (fun j hj=>by
  rcases h.i0.ints j hj with e|e<;>omega) (fun j hj=>by
  rcases h.i0.idx.range j hj with e|e|⟨e1,e2,_⟩
  ·exact .inl e
  ·exact .inr (.inl e)
  ·exact .inr (.inr ⟨e1,oa⟩))).mono ?_
 rintro e w3 ⟨⟨u0,u1,u2,rfl,ah⟩,l⟩;obtain⟨ua,uc,ub,ud,ue,uf,e0,e1,e2,-⟩:=ah.at;subst e0 e1 e2;have z3:=l.size;have ai:=bd.trans (l.mono oa);obtain⟨m3,d3⟩:=HM.below ai;have bz:=O m3;have b3:=O d3;have bg:Hid (Rd (OZ Z B0 c vN vT vS w3) w3 ⟨none,0,ua,uc,ub,ud,ue,uf⟩ (Ew (s.T t) d k v)):=O (by
  have aq:DV (Ew (s.T t) d k v).d w3 (.slice ua (Ew (s.T t) d k v).d.n uc) (.slice ub (Ew (s.T t) d k v).d.m ud) (.slice ue (Ew (s.T t) d k v).d.x uf) w2.heap.size w3.heap.size:=by
   show DV (Cf hN d k v) w3 (.slice ua (Cf hN d k v).n uc) (.slice ub (Cf hN d k v).m ud) (.slice ue (Cf hN d k v).x uf) _ _;rw[<-z bf];exact ah
  refine Rd.MX (A:=⟨none,0,ua,uc,ub,ud,ue,uf⟩) aq rfl (fun b cs ty hb hty cg=>?_);rintro(e|e)
  ·rcases hty with rfl|rfl
   ·exact m3.Em hb oc oc oc oc oc e
   ·exact m3.Em hb oc oc oc oc oc e
  ·have:=HM.z b e;omega)
 have H:=O (And.intro ((l.block _ oa).trans F.1) ((l.block _ oa).trans F.2));have U:=O (P.below l);have b4:=O (Bg _ _ HT ai);have b5:Hid (AG Bk ⟨none,0,ua,uc,ub,ud,ue,uf⟩ (Ew (s.T t) d k v)=.iface 239 (.agg #[N9,.slice ua D.n uc,.slice ub D.m ud,.slice ue D.x uf,J D.used,J D.live,J D.turns])):=O (by rw[WD,z bf]);have aj:=O (Il Z c B0 vN vT vS Bk A s t ⟨none,0,ua,uc,ub,ud,ue,uf⟩ (Ew (s.T t) d k v) w3 m3 ht bq bg);rw[z b5]at aj;clear ah l ai m3 d3 P bd F bg;go_wp2_with fail;refine aj.mono ?_;rintro e w4 ⟨⟨ch,rfl⟩,Q,bh,g,bj,gu,cu,bb,bw,bn,o,X⟩;have z4:=g.size;have R:∀q,w.heap.size<=q->q<w3.heap.size->w4.heap[q]?=w3.heap[q]?:=fun q h1 h2=>bj q h2 oa (fun e=>oj (bx q e).2);have ar:=O (U.Ni z4 (fun q h1 h2=>R q oa h2));have b1:=(R _ oa oa).trans H.1;have b2:=(R _ oa oa).trans H.2;have k0:w4.cell? (Y9 w 0)=some (J k.kind):=by simp[World.cell?,b1]
 have k1:w4.cell? (Y9 w 1)=some (J k.num):=by simp[World.cell?,b1]
 have k2:w4.cell? (Y9 w 2)=some (F9 k.Ag):=by simp[World.cell?,b1]
 have k3:w4.cell? (Y9 w 3)=some (.string k.str):=by simp[World.cell?,b1]
 have k4:w4.cell? (Y9 w 4)=some (J k.ref):=by simp[World.cell?,b1]
 have v0:w4.cell? (Z9 w 0)=some (J v.kind):=by simp[World.cell?,b2]
 have l1:=Ah b1;have l2:=Ah b2;have bm:BH w4:=b4.below (B:=B0) ⟨g.os,g.tape,g.output,g.size,fun q hq=>g.block q oa (fun e=>oj (bz.Ol e).1)⟩ oa;have I:Hid (C9 263 #[Q9 bk,V k.kind k.num k.Ag k.str k.ref] w4 (R9 (.pointer (CV E2 (Aw D k (hN k)))) w4)):=O (by
  obtain⟨b6,b7,hB⟩:=ar.book;exact IA BH Bg bk b6 b7 bc E2 S2 D k (hN k) (Mj k HK) w4 bm hB (h.small oa) h.i0.d3 h.i0.d4)
 have ak:Hid (∀L,B9 w4 L->∃Q a',AZ Z L c B0 vN vT vS Q Bk (AY A t a') (BW s t (Ew (s.T t) d k v))/\Br (Au B0 c vN vT vS w) w (Au B0 c vN vT vS L) L/\∃gu cu bb bw bn,JO L c Q t (AG Bk (A t) (s.T t)) gu cu bb bw bn/\vT.ownBlock≠some bb):=O (fun L f=>by
  obtain⟨m5,d5⟩:=bh.below f;refine⟨Q,_,m5,(b3.trans g).trans d5,gu,cu,bb,bw,bn,o.keep (f.block _ ?_) (f.block _ (Ah o.k)) (f.block _ (Ah o.b)) (f.block _ (Ah o.n)),X⟩;exact(o.u.lt gu rfl).2)
 clear bh g bj o X R b1 b2 bm aj U H;by_cases i:v.kind=0
 ·have dv:(v.kind !=0)=false:=by simp[i]
  have HR:Hid (EP d k v=false):=O (by rw[z M];simp[i]);clear i;go_wp2;refine E1 (v:=Bp 0) (by simp[results,results234,go_sem,Bp]) rfl ⟨by rw[z HR];rfl,ak _ (Cs _ _)⟩
 ·have dv:(v.kind !=0)=true:=by simp[i]
  by_cases hp:Aw D k (hN k)<0
  ·have HR:Hid (EP d k v=true):=O (by rw[z M];simp[i,hp]);have K:CV E2 (Aw D k (hN k))=none:=by unfold CV;rw[C3 oa]
   rw[K]at I;clear i hp K;go_wp2_with fail;refine I.mono ?_;rintro e L ⟨rfl,f⟩;have ao:=O (ak L f);clear f;go_wp2;refine E1 (v:=Bp 5) (by simp[results,results234,go_sem,Bp]) rfl ⟨by rw[z HR];rfl,ao⟩
  ·have HR:Hid (EP d k v=false):=O (by rw[z M];simp[hp]);have K:CV E2 (Aw D k (hN k))=some (G (E2 (Aw D k (hN k)).toNat) 0):=by unfold CV;rw[DD oa]
   rw[K]at I;obtain⟨eb,bp⟩:∃eb,eb=E2 (Aw D k (hN k)).toNat:=⟨_,rfl⟩;rw[<-bp]at I;clear i hp K bp;go_wp2_with fail;refine I.mono ?_;rintro e L ⟨rfl,f⟩;have ao:=O (ak L f);clear f;go_wp2;refine E1 (v:=Bp 0) (by simp[results,results234,go_sem,Bp]) rfl ⟨by rw[z HR];rfl,ao⟩
structure JP (fn:Nat) (w:Y) (c:Nat) (vU:V9) (n a d e f:Nat):Prop where
 v:vU=S9 a 1 d
 u:w.ownsRow 0 1 1 (S9 a 1 d) 1 [.func (.func fn) #[] #[Q9 e,Q9 f]]
 b:w.heap[e]?=some (.cells #[Q9 c] 121 (0,0))
 n:w.heap[f]?=some (.cells #[J (n:Int)] 3 (0,0))
theorem JP.keep{fn:Nat}{a d f:Nat}(h:JP fn w c vU n a i d f)(h1:w'.heap[a]?=w.heap[a]?)(h2:w'.heap[d]?=w.heap[d]?)(h3:w'.heap[f]?=w.heap[f]?):JP fn w' c vU n a i d f:=
 ⟨h.v,Ae h.u (fun g e=>by cases e;exact h1),h2.trans h.b,h3.trans h.n⟩
def Fu(a c g:Nat)(vN:V9)(p:Nat)(W:Y):Prop:=W.cell? (G a 0)=some (Q9 c)/\W.cell? (G c 0)=some vN/\W.cell? (G g 0)=some (Q9 p)
theorem Fu.keep(h:Fu b c g vN p w)(h1:w'.heap[b]?=w.heap[b]?)(h2:w'.heap[c]?=w.heap[c]?)(h3:w'.heap[g]?=w.heap[g]?):Fu b c g vN p w':=
 ⟨(As (a:=(G b 0)) h1).trans h.1,(As (a:=(G c 0)) h2).trans h.2.1,(As (a:=(G g 0)) h3).trans h.2.2⟩
theorem jT(Bk:Nat->Nat):AG Bk default Kq=.iface 236 (.agg #[N9,N9,N9,N9,J 0,J 0,J 0,Q9 (Bk 0)]):=by
 unfold AG;rw[C3 oc];rfl
theorem aE(Z:Nat->Prop)(c B0:Nat)(vN vT vS:V9)(Bk:Nat->Nat)(A:Nat->Ad)(s:AK)(a:Ac)(w:Y)(m:AZ Z w c B0 vN vT vS (N9) Bk A s)(b6:s.nt<=100)(bd:0<s.nf):
  C9 141 #[Q9 c,Lm a] w fun e w'=>(∃aj ak A',AZ Z w' c B0 vN aj vS ak Bk A' {s with nt:=s.nt+1,T:=AY s.T s.nt Kq}/\Br (Au B0 c vN vT vS w) w (Au B0 c vN aj vS w') w'/\
   (s.nt≠100->e=.returned (.tuple #[Dw (DJ s.nt),Bp 0]))/\(s.nt=100->e=.returned (.tuple #[Dw (Bc 0),Bp 5])/\∃D cu bw bn,JP 202 w' c ak s.nt D cu bw bn)):=by
 obtain⟨L,tc,rfl⟩:=Ay m.t;obtain⟨na,nc,rfl⟩:=Ay m.n;obtain⟨f,bf,bg,ao⟩:∃f,na=some (G f 0)/\f<w.heap.size/\w.cell? (G f 0)=some (Q9 (Bk 0)):=by
  obtain⟨hl,⟨hv,h0⟩|⟨g,cap,cur,hv,hb,af,h1,h2,h3,h4⟩⟩:=m.n
  ·omega
  ·cases hv;exact⟨g,rfl,(GC.1 af).1,by rw[IH m.n 0 oa,Ke bd]⟩
 subst bf;obtain⟨i0,bh,bj,bk,bm⟩:=P9 R8;obtain⟨W,M⟩:∃W,W=(((w.alloc (.cells #[Q9 c] 121)).alloc (.cells (Dn a) 51)).alloc (.cells Om 45)).alloc (.cells #[J (s.nt:Int)] 3):=⟨_,rfl⟩;have P:B9 w W:=by rw[M];exact(((n9).alloc od _).alloc oe _).alloc oe _
 have aq:W.heap.size=w.heap.size+1+1+1+1:=by rw[M];simp
 have b0:W.heap[w.heap.size]?=some (.cells #[Q9 c] 121 (0,0)):=by
  rw[M];iterate 3 (refine(DO _ _ _ (by simp;try omega)).trans ?_)
  exact BE _ _
 have b2:Ge W (w.heap.size+1+1):=by
  rw[M];refine(DO _ _ _ od).trans ?_;have h1:=BE ((w.alloc (.cells #[Q9 c] 121)).alloc (.cells (Dn a) 51)) (.cells Om 45);simpa using h1
 have b3:W.heap[w.heap.size+1+1+1]?=some (.cells #[J (s.nt:Int)] 3 (0,0)):=by
  rw[M];have h1:=BE (((w.alloc (.cells #[Q9 c] 121)).alloc (.cells (Dn a) 51)).alloc (.cells Om 45)) (.cells #[J (s.nt:Int)] 3);simpa using h1
 obtain⟨hE,ar⟩:=m.enter P;have b7:=m.lt;have o:=m.base;obtain⟨c0,c1,c2,c3,cf⟩:=m.cells;have au:c≠f:=fun e=>m.A9 m.n oc (by rw[e];rfl);have HE:=O hE;have av:=O ar;have aw:=O (And.intro b0 (And.intro b2 b3));have HZ:=O aq;have ax:=O (ol P bg ao);have b8:c<w.heap.size+1:=oa;have b9:c<w.heap.size+1+1:=oa;have ca:c<w.heap.size+1+1+1:=oa;clear m hE ar b0 b2 b3 c0 c2 c3 cf P aq ao
 go_enter func141,ntmps141
 go_wp2_with fail
 rw[<-M];clear M c1;refine(Gc _ c B0 _ _ _ Bk A s 202 #[Q9 w.heap.size,Q9 (w.heap.size+1+1+1)] W HE).mono ?_;rintro e w1 ⟨⟨uu,rfl⟩,D,cu,cb,Q,k,R,r⟩;have zW:=z HZ;have bz:=R.size;obtain⟨b0,b2,b3⟩:=z aw;have b0:=(r _ oa oa).trans b0;have b2:Ge w1 (w.heap.size+1+1):=(r _ oa oa).trans b2;have b3:=(r _ oa oa).trans b3;have ay:w1.cell? (G f 0)=some (Q9 (Bk 0)):=(As (a:=(G f 0)) (r f oa (fun e=>au e.symm))).trans ax;obtain⟨c0,c1,c2,c3,cf⟩:=k.cells;obtain⟨KV,az⟩:∃KV,KV=Value.iface 236 (.agg #[N9,N9,N9,N9,J 0,J 0,J 0,Q9 (Bk 0)]):=⟨_,rfl⟩;have j:B9 w1 ((w1.alloc (.cells #[KV] 162)).drew):=(n9).drew;have S:Fu w.heap.size c f (S9 f s.nf nc) (Bk 0) w1.drew:=⟨by show w1.cell? _=_;simp[World.cell?,b0],c0,ay⟩;have u:Fu w.heap.size c f (S9 f s.nf nc) (Bk 0) (w1.alloc (.cells #[KV] 162)).drew:=Fu.keep (w:=w1) S (j.block w.heap.size oa) (j.block c oa) (j.block f oa);have xX:(w1.alloc (.cells #[KV] 162)).drew.cell? (G c 1)=some (.slice L s.nt tc):=ol j (by show c<_;omega) c1;have xY:(w1.alloc (.cells #[KV] 162)).cell? (G c 1)=some (.slice L s.nt tc):=xX;have bp:=O k.t;have cc:B0<=w1.heap.size:=k.base;have HF:Hid (∀g3 b w3,w3.ownsRow B0 162 1 (S9 g3 (s.nt+1) b) (s.nt+1) (kL Bk A s s.nt++[KV])->(w1.alloc (.cells #[KV] 162)).drew.grownBy w3 (Value.ownBlock (.slice L s.nt tc))->(Value.ownBlock (.slice L s.nt tc)=some g3\/g3=(w1.alloc (.cells #[KV] 162)).drew.heap.size)->
   Fu w.heap.size c f (S9 f s.nf nc) (Bk 0) w3/\Fu w.heap.size c f (S9 f s.nf nc) (Bk 0) (w3.setCell (G c 1) (S9 g3 (s.nt+1) b))/\w3.cell? (G c 1)=some (.slice L s.nt tc)/\w3.frozen? (G c 1)=false/\c<w3.heap.size/\
   (w3.setCell (G c 1) (S9 g3 (s.nt+1) b)).heap[w.heap.size]?=some (.cells #[Q9 c] 121 (0,0))/\Ge (w3.setCell (G c 1) (S9 g3 (s.nt+1) b)) (w.heap.size+1+1)/\(w3.setCell (G c 1) (S9 g3 (s.nt+1) b)).heap[w.heap.size+1+1+1]?=some (.cells #[J (s.nt:Int)] 3 (0,0))/\(w3.setCell (G c 1) (S9 g3 (s.nt+1) b)).heap[D]?=w1.heap[D]?/\
   AZ (ZB Z w.heap.size W.heap.size) (w3.setCell (G c 1) (S9 g3 (s.nt+1) b)) c B0 (S9 f s.nf nc) (S9 g3 (s.nt+1) b) vS (S9 D 1 cu) Bk (AY A s.nt default) {s with nt:=s.nt+1,T:=AY s.T s.nt Kq}/\Br (Au B0 c (S9 f s.nf nc) (.slice L s.nt tc) vS w) w (Au B0 c (S9 f s.nf nc) (S9 g3 (s.nt+1) b) vS (w3.setCell (G c 1) (S9 g3 (s.nt+1) b))) (w3.setCell (G c 1) (S9 g3 (s.nt+1) b))):=O (by
  intro g3 b w3 h1 h2 h3;have bq:w3.ownsRow B0 162 1 (S9 g3 (s.nt+1) b) (s.nt+1) (kL Bk A s s.nt++[AG Bk default Kq]):=by rw[jT,<-az];exact h1
  obtain⟨k1,k2,k3⟩:=k.kH j h2 bq (h3.imp id (fun e=>by rw[e];exact j.size)) (Rd.empty rfl rfl rfl rfl);have i:∀(q:Nat) (cs:Array Value) (ty:TypeId),w1.heap[q]?=some (Obj.cells cs ty (0,0))->ty≠162->w3.heap[q]?=w1.heap[q]?:=fun q cs ty hq ht=>by
   have aM:=Ah hq;refine(h2.block q (At aM j.size) (fun e=>?_)).trans (j.block q aM);obtain⟨cur,hb,_⟩:=AJ k.t e.symm;rw[hb]at hq;cases hq;exact ht rfl
  have q0:=i _ _ _ b0 oc;have q2:=i _ _ _ b2 oc;have q3:=i _ _ _ b3 oc;obtain⟨b1,br,_⟩:=AJ Q rfl;have qu:=i D _ _ br oc;have qc:=i c _ _ k.BB oc;obtain⟨b4,bt,_⟩:=AJ k.n rfl;have qn:=i f _ _ bt oc;have l:Fu w.heap.size c f (S9 f s.nf nc) (Bk 0) w3:=Fu.keep (w:=w1) S q0 qc qn;have st:∀q,q≠c->(w3.setCell (G c 1) (S9 g3 (s.nt+1) b)).heap[q]?=w3.heap[q]?:=fun q hq=>A0 _ _ _ _ (by exact hq);refine⟨l,⟨(As (a:=(y w 0)) (st w.heap.size oa)).trans l.1,k2.cells.1,(As (a:=(G f 0)) (st f (fun e=>au e.symm))).trans l.2.2⟩,(As (a:=(G c 1)) qc).trans c1,(GW (a:=(G c 1)) qc).trans (cf 1),Ah k1,(st _ oa).trans (q0.trans b0),(st _ oa).trans (q2.trans b2),(st _ oa).trans (q3.trans b3),(st _ oa).trans qu,k2,(av.trans R).trans k3⟩)
 have bu:=O Q;have cd:Hid (w1.heap[D]?=w1.heap[D]?):=O rfl;clear k R r Q b0 b2 b3 c0 c2 c3 cf ay HE av aw ax j;subst az;go_wp2_with fail;refine Hl (Fu w.heap.size c f (S9 f s.nf nc) (Bk 0)) ?_;refine tz 0 (h:=tz 1 (h:=tz 2 (h:=tz 3 (h:=tz 4 (h:=tz 6 (h:=tz 7 (h:=tz 8 (h:=tz 9 (h:=tz 10 (h:=tz 11 (h:=tz 12 (h:=?_))))))))))));refine tz 13 (h:=tz 14 (h:=?_));refine AaE (rs:=[5,15]) og od ?_;refine SO rfl (fun K hK=>?armA) (SO rfl (fun K hK=>?armB) AaH)
 case' armA=>
  go_simp;refine hK.out _ _ S (fun _=>?_);clear hK K;refine ry 15 (fun K hK=>?_);go_simp;refine hK.out _ _ u (fun bx=>?_);clear hK K
 case' armB=>
  go_simp;refine hK.out _ _ u (fun bx=>?_);clear hK K;refine ry 5 (fun K hK=>?_);go_simp;refine hK.out _ _ u (fun _=>?_);clear hK K
 all_goals
  refine ry 16 (fun K hK=>?_);refine Aaa _ rfl (.tmp 21) (.tmp 31) 116 rfl B0 162 i0 .nilIface 1 16 underlying116 bh bj bk bm rfl oc (.slice L s.nt tc) s.nt (kL Bk A s s.nt) (by simp[Act.eval]) (World.ownsRow.drew (On bp _)) (y w1 0) 1 1 [(.iface 236 (.agg #[N9,N9,N9,N9,J 0,J 0,J 0,Q9 (Bk 0)]))] (by simp[Act.eval]) rfl (H8 (w:=(w1.alloc (.cells #[(.iface 236 (.agg #[N9,N9,N9,N9,J 0,J 0,J 0,Q9 (Bk 0)]))] 162)).drew) (BE w1 _)) (by simp[Value.oneCell']) oc (by unfold maxLen;omega) oa oe _ rfl ?_;intro g3 b w3 x E B b5;obtain⟨l,a6,x3,f3,cg,d0,d2,d3,U,m4,F⟩:=z HF g3 b w3 x E B;have HX:=O (And.intro d0 (And.intro d2 (And.intro d3 (And.intro U (And.intro m4 F)))));clear x E B d0 d2 d3 U m4 F;refine hK.out _ _ l (fun ag=>?_);clear hK K;refine tz 17 (h:=tz 18 (h:=tz 19 (h:=?_)));refine ry 20 (fun K hK=>?_);go_simp;refine hK.out _ _ a6 (fun _=>?_);clear hK K;refine Fj ?_;clear l a6 ag x3 f3;obtain⟨w4,a7⟩:∃w4,w4=w3.setCell (G c 1) (S9 g3 (s.nt+1) b):=⟨_,rfl⟩;rw[<-a7]at HX ⊢;clear a7;obtain⟨d0,d2,d3,U,m4,F⟩:=z HX;obtain⟨_,y1,_,_,_⟩:=m4.cells;have ch:=m4.lt;have l0:=Ah d0;have l2:=d2.lt;have l3:=Ah d3;have y0:w4.cell? (y w 0)=some (Q9 c):=by simp[World.cell?,d0]
  have y3:w4.cell? (G (w.heap.size+1+1+1) 0)=some (J (s.nt:Int)):=by simp[World.cell?,d3]
  obtain⟨w5,H,a8⟩:=Bs d2 (Bc 0);obtain⟨w6,I,bb⟩:=Bs d2 (DJ s.nt);have ah:=O H;have ai:=O I;have C:=O a8;have bc:=O bb;clear d0 d2 d3 U m4 F H I a8 bb;by_cases hf:s.nt=100
  ·have d:decide ((100:Int)<(s.nt:Int)+1)=true:=oe;have V:=O hf;clear hf;go_wp2_with (refine Ai rfl rfl _ ah ?_);obtain⟨r0,r1,r2,r3,r4,r5,r6,r7,r8,r9,X,ad⟩:=An.read C.BB;refine E1 (v:=.tuple #[Dw (Bc 0),Bp 5]) (by simp[results,results141,go_sem,r0,r1,r2,r3,r4,r5,r6,r7,r8,r9,X,ad,Bp]) rfl ?_;obtain⟨d0,d2,d3,U,m4,F⟩:=z HX;obtain⟨mm,ae⟩:=m4.Jt F o oa oa d2 C;refine⟨_,_,_,mm,ae,fun h=>absurd V h,fun _=>⟨rfl,D,cu,w.heap.size,w.heap.size+1+1+1,rfl,NI (Ae bu (fun q e=>?_)) (Re _),?_,?_⟩⟩
   ·cases e;exact(C.other _ (by show D≠w.heap.size+1+1;omega)).trans U
   ·exact(C.other _ oa).trans d0
   ·exact(C.other _ oa).trans d3
  ·have d:decide ((100:Int)<(s.nt:Int)+1)=false:=oe;have V:=O hf;clear hf;go_wp2_with (refine Ai rfl rfl _ ai ?_);obtain⟨r0,r1,r2,r3,r4,r5,r6,r7,r8,r9,X,ad⟩:=An.read bc.BB;refine E1 (v:=.tuple #[Dw (DJ s.nt),Bp 0]) (by simp[results,results141,go_sem,r0,r1,r2,r3,r4,r5,r6,r7,r8,r9,X,ad,Bp]) rfl ?_;obtain⟨d0,d2,d3,U,m4,F⟩:=z HX;obtain⟨mm,ae⟩:=m4.Jt F o oa oa d2 bc;exact⟨_,_,_,mm,ae,fun _=>rfl,fun h=>absurd h V⟩
def O6(a b c n:Nat)(W:Y):Prop:=W.cell? (G a 0)=some (Q9 c)/\W.cell? (G b 0)=some (J (n:Int))
theorem Xz(Z:Nat->Prop)(c B0:Nat)(vN vS vU:V9)(Bk:Nat->Nat)(A:Nat->Ad)(s:AK)(n g d f i:Nat)(w:Y)(j:AZ Z w c B0 vN (S9 g s.nt d) vS vU Bk A s)(hb:w.heap[f]?=some (.cells #[Q9 c] 121 (0,0)))(b:w.heap[i]?=some (.cells #[J (n:Int)] 3 (0,0)))(hn:n<=s.nt)(h1:s.nt<=200):
  C9 202 #[Q9 f,Q9 i] w fun e w'=>(∃u,e=.returned u)/\AZ Z w' c B0 vN (S9 g n d) vS vU Bk A {s with nt:=n}/\Br (Au B0 c vN (S9 g s.nt d) vS w) w (Au B0 c vN (S9 g n d) vS w') w':=by
 have B:=j.lt;obtain⟨c0,c1,c2,c3,cf⟩:=j.cells;obtain⟨r,v⟩:=j.mE rfl hn;have l:s.nt<=d:=by
  obtain⟨_,⟨m,_⟩|⟨g',cap,cur,m,_,_,h2,_⟩⟩:=j.t
  ·cases m
  ·cases m;exact h2
 have o:f≠c:=fun e=>by rw[e,j.BB]at hb;cases hb
 have p:i≠c:=fun e=>by rw[e,j.BB]at b;cases b
 have lb:=Ah hb;have D:=Ah b;have k:O6 f i c n w.drew:=⟨by show w.cell? _=_;simp[World.cell?,hb],by show w.cell? _=_;simp[World.cell?,b]⟩;have q:O6 f i c n (w.setCell (G c 1) (S9 g n d)).drew:=⟨(As (a:=(G f 0)) (A0 _ _ _ _ (by exact o))).trans k.1,(As (a:=(G i 0)) (A0 _ _ _ _ (by exact p))).trans k.2⟩;have xf:=cf 1;have C:n<=d:=GO hn l;have x:=O (And.intro r.drew v.Rz);clear j r v hb b c0 c2 c3 cf
 go_enter func202,ntmps202
 go_wp2_with fail
 refine Hl (O6 f i c n) ?_;refine tz 0 (h:=tz 1 (h:=tz 2 (h:=tz 3 (h:=tz 4 (h:=tz 6 (h:=?_))))));refine ry 5 (fun K hK=>?_);go_simp;refine hK.out _ _ k (fun _=>?_);clear hK K;refine tz 7 (h:=tz 8 (h:=tz 9 (h:=tz 10 (h:=?_))));refine ry 11 (fun K hK=>?_);go_simp;refine hK.out _ _ q (fun _=>?_);clear hK K;refine Fj ?_;go_wp2_with fail;go_end0;exact⟨⟨_,rfl⟩,x.1,x.2⟩
theorem dL(Z:Nat->Prop)(c B0:Nat)(vN vT vS vU:V9)(Bk:Nat->Nat)(A:Nat->Ad)(s:AK)(n f x p q:Nat)(w:Y)(j:AZ Z w c B0 vN vT vS vU Bk A s)(C:JP 202 w c vU n f x p q)(hn:n<=s.nt)(D:0<s.nt)(h1:s.nt<=200):
  C9 115 #[Q9 c] w fun e w'=>(∃u,e=.returned u)/\∃a b,AZ Z w' c B0 vN a vS b Bk A {s with nt:=n}/\Br (Au B0 c vN vT vS w) w (Au B0 c vN a vS w') w':=by
 obtain⟨E,hu,hb,k⟩:=C;subst E;obtain⟨g,d,r,F,H,t,v⟩:=j.CP D;subst r;have I:=j.lt;obtain⟨c0,c1,c2,c3,cf⟩:=j.cells;have u0:w.cell? (G f 0)=some (.func (.func 202) #[] #[Q9 p,Q9 q]):=by rw[IH hu 0 oa];rfl
 have M:f<w.heap.size:=(hu.lt f rfl).2;have K:=O j;have B:=O (And.intro hb k);clear j hb k hu t v c0 c2
 go_enter func115,ntmps115
 go_wp2;go_loopw [2] (fun i wr=>(i=J 0/\wr=w)\/(i=J (-1)/\∃a b,AZ Z wr c B0 vN a vS b Bk A {s with nt:=n}/\Br (Au B0 c vN (S9 g s.nt d) vS w) w (Au B0 c vN a vS wr) wr)) (fun i _=>(intOf i+1).toNat)
 case atStart=>exact .inl ⟨rfl,rfl⟩
 case round=>
  rcases hrel with⟨rfl,rfl⟩|⟨rfl,a,b,m1,d1⟩
  ·have l:Hid (∀w1,AZ Z w1 c B0 vN (S9 g n d) vS (S9 f 1 x) Bk A {s with nt:=n}/\Br (Au B0 c vN (S9 g s.nt d) vS wr) wr (Au B0 c vN (S9 g n d) vS w1) w1->∃a b,AZ Z w1 c B0 vN a vS b Bk A {s with nt:=n}/\Br (Au B0 c vN (S9 g s.nt d) vS wr) wr (Au B0 c vN a vS w1) w1):=O (fun w1 h=>⟨_,_,h⟩);go_wp2_with fail;refine(Xz Z c B0 vN vS _ Bk A s n g d p q wr K B.1 B.2 hn h1).mono ?_;rintro e w1 ⟨⟨P,rfl⟩,m⟩;have L:=O (l w1 m);clear m;go_wp2;go_roundw
   case rel=>exact .inr ⟨rfl,L⟩
   case measure=>simp[intOf]
  ·have o:=O (And.intro m1 d1);clear m1 d1;go_wp2;go_end0;exact⟨⟨_,rfl⟩,a,b,o.1,o.2⟩
theorem Xy(Z:Nat->Prop)(c B0:Nat)(vN vT vU:V9)(Bk:Nat->Nat)(A:Nat->Ad)(s:AK)(n g d f i:Nat)(w:Y)(j:AZ Z w c B0 vN vT (S9 g s.ns d) vU Bk A s)(hb:w.heap[f]?=some (.cells #[Q9 c] 121 (0,0)))(b:w.heap[i]?=some (.cells #[J (n:Int)] 3 (0,0)))(hn:n<=s.ns)(h1:s.ns<=200):
  C9 205 #[Q9 f,Q9 i] w fun e w'=>(∃u,e=.returned u)/\AZ Z w' c B0 vN vT (S9 g n d) vU Bk A {s with ns:=n}/\Br (Au B0 c vN vT (S9 g s.ns d) w) w (Au B0 c vN vT (S9 g n d) w') w':=by
 have x:=j.lt;obtain⟨c0,c2,c1,c3,cf⟩:=j.cells;obtain⟨r,t⟩:=j.mD rfl hn;have l:s.ns<=d:=by
  obtain⟨_,⟨m,_⟩|⟨g',cap,cur,m,_,_,h2,_⟩⟩:=j.si
  ·cases m
  ·cases m;exact h2
 have o:f≠c:=fun e=>by rw[e,j.BB]at hb;cases hb
 have p:i≠c:=fun e=>by rw[e,j.BB]at b;cases b
 have lb:=Ah hb;have C:=Ah b;have k:O6 f i c n w.drew:=⟨by show w.cell? _=_;simp[World.cell?,hb],by show w.cell? _=_;simp[World.cell?,b]⟩;have q:O6 f i c n (w.setCell (G c 2) (S9 g n d)).drew:=⟨(As (a:=(G f 0)) (A0 _ _ _ _ (by exact o))).trans k.1,(As (a:=(G i 0)) (A0 _ _ _ _ (by exact p))).trans k.2⟩;have xf:=cf 2;have B:n<=d:=GO hn l;have v:=O (And.intro r.drew t.Rz);clear j r t hb b c0 c2 c3 cf
 go_enter func205,ntmps205
 go_wp2_with fail
 refine Hl (O6 f i c n) ?_;refine tz 0 (h:=tz 1 (h:=tz 2 (h:=tz 3 (h:=tz 5 (h:=?_)))));refine ry 4 (fun K hK=>?_);go_simp;refine hK.out _ _ k (fun _=>?_);clear hK K;refine tz 6 (h:=tz 7 (h:=tz 8 (h:=?_)));refine ry 9 (fun K hK=>?_);go_simp;refine hK.out _ _ q (fun _=>?_);clear hK K;refine Fj ?_;go_wp2_with fail;go_end0;exact⟨⟨_,rfl⟩,v.1,v.2⟩
theorem dK(Z:Nat->Prop)(c B0:Nat)(vN vT vS vU:V9)(Bk:Nat->Nat)(A:Nat->Ad)(s:AK)(n f B p q:Nat)(w:Y)(j:AZ Z w c B0 vN vT vS vU Bk A s)(D:JP 205 w c vU n f B p q)(hn:n<=s.ns)(E:0<s.ns)(h1:s.ns<=200):
  C9 115 #[Q9 c] w fun e w'=>(∃u,e=.returned u)/\∃a b,AZ Z w' c B0 vN vT a b Bk A {s with ns:=n}/\Br (Au B0 c vN vT vS w) w (Au B0 c vN vT a w') w':=by
 obtain⟨F,hu,hb,k⟩:=D;subst F;obtain⟨g,d,r,H,I,t,v⟩:=j.F1 E;subst r;have K:=j.lt;obtain⟨c0,c2,c1,c3,cf⟩:=j.cells;have u0:w.cell? (G f 0)=some (.func (.func 205) #[] #[Q9 p,Q9 q]):=by rw[IH hu 0 oa];rfl
 have P:f<w.heap.size:=(hu.lt f rfl).2;have L:=O j;have C:=O (And.intro hb k);clear j hb k hu t v c0 c2
 go_enter func115,ntmps115
 go_wp2;go_loopw [2] (fun i wr=>(i=J 0/\wr=w)\/(i=J (-1)/\∃a b,AZ Z wr c B0 vN vT a b Bk A {s with ns:=n}/\Br (Au B0 c vN vT (S9 g s.ns d) w) w (Au B0 c vN vT a wr) wr)) (fun i _=>(intOf i+1).toNat)
 case atStart=>exact .inl ⟨rfl,rfl⟩
 case round=>
  rcases hrel with⟨rfl,rfl⟩|⟨rfl,x,b,m1,d1⟩
  ·have l:Hid (∀w1,AZ Z w1 c B0 vN vT (S9 g n d) (S9 f 1 B) Bk A {s with ns:=n}/\Br (Au B0 c vN vT (S9 g s.ns d) wr) wr (Au B0 c vN vT (S9 g n d) w1) w1->∃a b,AZ Z w1 c B0 vN vT a b Bk A {s with ns:=n}/\Br (Au B0 c vN vT (S9 g s.ns d) wr) wr (Au B0 c vN vT a w1) w1):=O (fun w1 h=>⟨_,_,h⟩);go_wp2_with fail;refine(Xy Z c B0 vN vT _ Bk A s n g d p q wr L C.1 C.2 hn h1).mono ?_;rintro e w1 ⟨⟨Q,rfl⟩,m⟩;have M:=O (l w1 m);clear m;go_wp2;go_roundw
   case rel=>exact .inr ⟨rfl,M⟩
   case measure=>simp[intOf]
  ·have o:=O (And.intro m1 d1);clear m1 d1;go_wp2;go_end0;exact⟨⟨_,rfl⟩,x,b,o.1,o.2⟩
def XR(a b d c t:Nat)(e vT:V9)(W:Y):Prop:=W.cell? (G b 0)=some (Q9 c)/\W.cell? (G d 0)=some (J (t:Int))/\W.cell? (G a 0)=some e/\W.cell? (G c 1)=some vT
theorem Tg{α:Type}(f:Nat->α)(i:Nat)(a:α):AY (AY f i a) i (f i)=f:=by
 funext j
 unfold AY;by_cases h:j=i
 ·subst h;simp
 ·simp[h]
theorem Xx(Z:Nat->Prop)(c B0:Nat)(vN vS vU:V9)(Bk:Nat->Nat)(A:Nat->Ad)(s:AK)(t:Nat)(a':Ad)(x':Tb)(g i j k l:Nat)(w:Y)(m:AZ Z w c B0 vN (S9 g s.nt i) vS vU Bk (AY A t a') (BW s t x'))(hk:w.heap[j]?=some (.cells #[AG Bk (A t) (s.T t)] 162 (0,0)))(r:j≠g)(hb:w.heap[k]?=some (.cells #[Q9 c] 121 (0,0)))(d:w.heap[l]?=some (.cells #[J (t:Int)] 3 (0,0)))(C:t<s.nt)(h1:s.nt<=200)(D:Rd (OZ Z B0 c vN (S9 g s.nt i) vS w) w (A t) (s.T t)):
  C9 240 #[Q9 j,Q9 k,Q9 l] w fun e w'=>(∃u,e=.returned u)/\AZ Z w' c B0 vN (S9 g s.nt i) vS vU Bk A s/\Br (Au B0 c vN (S9 g s.nt i) vS w) w (Au B0 c vN (S9 g s.nt i) vS w') w':=by
 have I:=m.lt;obtain⟨c0,c1,c2,c3,cf⟩:=m.cells;obtain⟨p,v⟩:=m.FM (t:=t) rfl C D;have E:AY (AY A t a') t (A t)=A:=Tg A t a';have F:BW (BW s t x') t (s.T t)=s:=by
  show{s with T:=AY (AY s.T t x') t (s.T t)}=s;rw[Tg]
 rw[E,F]at p;have b:=m.t;have L:g<w.heap.size:=(b.lt g rfl).2;have n:∃u,w.cell? (G g t)=some u:=⟨_,by rw[IH b t (by show t<s.nt*1;omega),KW (by exact C)]⟩;have M:w.frozen? (G g t)=false:=by obtain⟨cur,hb,_⟩:=AJ b rfl;simp[World.frozen?,hb]
 obtain⟨gt,n⟩:=n;obtain⟨ty,q,o⟩:=KY Bk (A t) (s.T t);rw[o]at p v hk;have x:c≠g:=fun e=>m.A9 m.t oc (by rw[e];rfl);have nb:k≠g:=fun e=>by obtain⟨cur,hc,_⟩:=AJ b rfl;rw[e,hc]at hb;cases hb
 have P:l≠g:=fun e=>by obtain⟨cur,hc,_⟩:=AJ b rfl;rw[e,hc]at d;cases d
 have lb:=Ah hb;have Q:=Ah d;have R:=Ah hk;have f:XR j k l c t (.iface ty q) (S9 g s.nt i) w.drew:=⟨by show w.cell? _=_;simp[World.cell?,hb],by show w.cell? _=_;simp[World.cell?,d],by show w.cell? _=_;simp[World.cell?,hk],c1⟩;have B:XR j k l c t (.iface ty q) (S9 g s.nt i) (w.setCell (G g t) (.iface ty q)).drew:=⟨(As (a:=(G k 0)) (A0 _ _ _ _ (by exact nb))).trans f.1,(As (a:=(G l 0)) (A0 _ _ _ _ (by exact P))).trans f.2.1,(As (a:=(G j 0)) (A0 _ _ _ _ (by exact r))).trans f.2.2.1,(As (a:=(G c 1)) (A0 _ _ _ _ (by exact x))).trans f.2.2.2⟩;have H:=O (And.intro p.drew v.Rz);clear m p v hb d hk c0 c1 c2 c3 cf D b o E F
 go_enter func240,ntmps240
 go_wp2_with fail
 refine Hl (XR j k l c t (.iface ty q) (S9 g s.nt i)) ?_;refine tz 0 (h:=tz 1 (h:=tz 2 (h:=tz 3 (h:=tz 4 (h:=tz 5 (h:=tz 6 (h:=tz 7 (h:=?_))))))));refine ry 8 (fun K hK=>?_);go_simp;refine hK.out _ _ B (fun _=>?_);clear hK K;refine Fj ?_;go_wp2_with fail;go_end0;exact⟨⟨_,rfl⟩,H.1,H.2⟩
theorem dJ(Z:Nat->Prop)(c B0:Nat)(vN vT vS vU:V9)(Bk:Nat->Nat)(A:Nat->Ad)(s:AK)(t:Nat)(a':Ad)(x':Tb)(j F k q r:Nat)(w:Y)(l:AZ Z w c B0 vN vT vS vU Bk (AY A t a') (BW s t x'))(K:JO w c vU t (AG Bk (A t) (s.T t)) j F k q r)(v:vT.ownBlock≠some k)(H:t<s.nt)(h1:s.nt<=200)(I:Rd (OZ Z B0 c vN vT vS w) w (A t) (s.T t)):
  C9 115 #[Q9 c] w fun e w'=>(∃u,e=.returned u)/\∃a b,AZ Z w' c B0 vN a vS b Bk A s/\Br (Au B0 c vN vT vS w) w (Au B0 c vN a vS w') w':=by
 obtain⟨L,hu,hk,hb,m⟩:=K;subst L;obtain⟨g,d,f,M,P,x,B⟩:=l.CP H;have f:vT=S9 g s.nt d:=f;subst f;have C:k≠g:=fun e=>v (by rw[e];rfl);have Q:=l.lt;obtain⟨c0,c1,c2,c3,cf⟩:=l.cells;have u0:w.cell? (G j 0)=some (.func (.func 240) #[] #[Q9 k,Q9 q,Q9 r]):=by rw[IH hu 0 oa];rfl
 have U:j<w.heap.size:=(hu.lt j rfl).2;have R:=O l;have D:=O (And.intro hk (And.intro hb m));have E:=O I;clear l hk hb m hu x B c0 c2 I
 go_enter func115,ntmps115
 go_wp2;go_loopw [2] (fun i wr=>(i=J 0/\wr=w)\/(i=J (-1)/\∃a b,AZ Z wr c B0 vN a vS b Bk A s/\Br (Au B0 c vN (S9 g s.nt d) vS w) w (Au B0 c vN a vS wr) wr)) (fun i _=>(intOf i+1).toNat)
 case atStart=>exact .inl ⟨rfl,rfl⟩
 case round=>
  rcases hrel with⟨rfl,rfl⟩|⟨rfl,a,b,m1,d1⟩
  ·have n:Hid (∀w1,AZ Z w1 c B0 vN (S9 g s.nt d) vS (S9 j 1 F) Bk A s/\Br (Au B0 c vN (S9 g s.nt d) vS wr) wr (Au B0 c vN (S9 g s.nt d) vS w1) w1->∃a b,AZ Z w1 c B0 vN a vS b Bk A s/\Br (Au B0 c vN (S9 g s.nt d) vS wr) wr (Au B0 c vN a vS w1) w1):=O (fun w1 h=>⟨_,_,h⟩);go_wp2_with fail;refine(Xx Z c B0 vN vS _ Bk A s t a' x' g d k q r wr R D.1 C D.2.1 D.2.2 H h1 E).mono ?_;rintro e w1 ⟨⟨V,rfl⟩,o⟩;have S:=O (n w1 o);clear o;go_wp2;go_roundw
   case rel=>exact .inr ⟨rfl,S⟩
   case measure=>simp[intOf]
  ·have p:=O (And.intro m1 d1);clear m1 d1;go_wp2;go_end0;exact⟨⟨_,rfl⟩,a,b,p.1,p.2⟩
def G9(a ab c:Nat)(k:ByteArray)(W:Y):Prop:=W.cell? (G a 0)=some (Q9 c)/\W.cell? (G ab 7)=some (.string k)
theorem G9.keep{k:ByteArray}(h:G9 b ab c k w)(h1:w'.heap[b]?=w.heap[b]?)(h2:w'.heap[ab]?=w.heap[ab]?):G9 b ab c k w':=
 ⟨(As (a:=(G b 0)) h1).trans h.1,(As (a:=(G ab 7)) h2).trans h.2⟩
theorem dH(Z:Nat->Prop)(c B0:Nat)(vN vT vS:V9)(Bk:Nat->Nat)(A:Nat->Ad)(s:AK)(a:Ac)(w:Y)(T:AZ Z w c B0 vN vT vS (N9) Bk A s)(bf:s.ns<=50):
  C9 147 #[Q9 c,Lm a] w fun e w'=>(∃U V,AZ Z w' c B0 vN vT U V Bk A {s with ns:=s.ns+1,S:=AY s.S s.ns ⟨a.k.str,-1,0,0,0⟩}/\Br (Au B0 c vN vT vS w) w (Au B0 c vN vT U w') w'/\
   (s.ns≠50->e=.returned (.tuple #[Dw (DJ s.ns),Bp 0]))/\(s.ns=50->e=.returned (.tuple #[Dw (Bc 0),Bp 5])/\∃u cu bw bn,JP 205 w' c V s.ns u cu bw bn)):=by
 obtain⟨sa,sc,rfl⟩:=Ay T.si;obtain⟨i0,aw,ax,ay,az⟩:=P9 J2;obtain⟨W,x⟩:∃W,W=(((w.alloc (.cells #[Q9 c] 121)).alloc (.cells (Dn a) 51)).alloc (.cells Om 45)).alloc (.cells #[J (s.ns:Int)] 3):=⟨_,rfl⟩;have X:B9 w W:=by rw[x];exact(((n9).alloc od _).alloc oe _).alloc oe _
 have ag:W.heap.size=w.heap.size+1+1+1+1:=by rw[x];simp
 have b0:W.heap[w.heap.size]?=some (.cells #[Q9 c] 121 (0,0)):=by
  rw[x];iterate 3 (refine(DO _ _ _ (by simp;try omega)).trans ?_)
  exact BE _ _
 have b1:Og W (w.heap.size+1) a:=by
  rw[x];iterate 2 (refine(DO _ _ _ (by simp;try omega)).trans ?_)
  have h1:=BE (w.alloc (.cells #[Q9 c] 121)) (.cells (Dn a) 51);simpa using h1
 have b2:Ge W (w.heap.size+1+1):=by
  rw[x];refine(DO _ _ _ od).trans ?_;have h1:=BE ((w.alloc (.cells #[Q9 c] 121)).alloc (.cells (Dn a) 51)) (.cells Om 45);simpa using h1
 have b3:W.heap[w.heap.size+1+1+1]?=some (.cells #[J (s.ns:Int)] 3 (0,0)):=by
  rw[x];have h1:=BE (((w.alloc (.cells #[Q9 c] 121)).alloc (.cells (Dn a) 51)).alloc (.cells Om 45)) (.cells #[J (s.ns:Int)] 3);simpa using h1
 obtain⟨hE,ah⟩:=T.enter X;have bg:=T.lt;have j:=T.base;obtain⟨c0,c1,c2,c3,cf⟩:=T.cells;have HE:=O hE;have ai:=O ah;have aj:=O (And.intro b0 (And.intro b1 (And.intro b2 b3)));have HZ:=O ag;have bh:c<w.heap.size+1:=oa;have bj:c<w.heap.size+1+1:=oa;have bk:c<w.heap.size+1+1+1:=oa;clear T hE ah b0 b1 b2 b3 c0 c1 c3 cf X ag
 go_enter func147,ntmps147
 go_wp2_with fail
 rw[<-x];clear x c2;refine(Gc _ c B0 _ _ _ Bk A s 205 #[Q9 w.heap.size,Q9 (w.heap.size+1+1+1)] W HE).mono ?_;rintro e w1 ⟨⟨uu,rfl⟩,u,cu,bm,F,i,H,l⟩;have zW:=z HZ;have bb:=H.size;obtain⟨b0,b1,b2,b3⟩:=z aj;have b0:=(l _ oa oa).trans b0;have b1:Og w1 (w.heap.size+1) a:=(l _ oa oa).trans b1;have b2:Ge w1 (w.heap.size+1+1):=(l _ oa oa).trans b2;have b3:=(l _ oa oa).trans b3;obtain⟨c0,c1,c2,c3,cf⟩:=i.cells;have g:B9 w1 ((w1.alloc (.cells #[.string a.k.str,J (-1),J 0,J 0,J 0] 103)).drew):=(n9).drew;have I:G9 w.heap.size (w.heap.size+1) c a.k.str w1.drew:=⟨by show w1.cell? _=_;simp[World.cell?,b0],by show w1.cell? _=_;exact b1.all.2.2.2.2.2.2.2.1⟩;have m:G9 w.heap.size (w.heap.size+1) c a.k.str (w1.alloc (.cells #[.string a.k.str,J (-1),J 0,J 0,J 0] 103)).drew:=G9.keep (w:=w1) I (g.block w.heap.size oa) (g.block (w.heap.size+1) oa);have xX:(w1.alloc (.cells #[.string a.k.str,J (-1),J 0,J 0,J 0] 103)).drew.cell? (G c 2)=some (.slice sa s.ns sc):=ol g (by show c<_;omega) c2;have xY:(w1.alloc (.cells #[.string a.k.str,J (-1),J 0,J 0,J 0] 103)).cell? (G c 2)=some (.slice sa s.ns sc):=xX;have aM:=O i.si;have bp:B0<=w1.heap.size:=i.base;have HF:Hid (∀g3 b w3,w3.ownsRow B0 103 5 (S9 g3 (s.ns+1) b) (s.ns+1) (Ji s.S s.ns++IZ ⟨a.k.str,-1,0,0,0⟩)->(w1.alloc (.cells #[.string a.k.str,J (-1),J 0,J 0,J 0] 103)).drew.grownBy w3 (Value.ownBlock (.slice sa s.ns sc))->(Value.ownBlock (.slice sa s.ns sc)=some g3\/g3=(w1.alloc (.cells #[.string a.k.str,J (-1),J 0,J 0,J 0] 103)).drew.heap.size)->
   G9 w.heap.size (w.heap.size+1) c a.k.str w3/\G9 w.heap.size (w.heap.size+1) c a.k.str (w3.setCell (G c 2) (S9 g3 (s.ns+1) b))/\w3.cell? (G c 2)=some (.slice sa s.ns sc)/\w3.frozen? (G c 2)=false/\c<w3.heap.size/\
   (w3.setCell (G c 2) (S9 g3 (s.ns+1) b)).heap[w.heap.size]?=some (.cells #[Q9 c] 121 (0,0))/\Ge (w3.setCell (G c 2) (S9 g3 (s.ns+1) b)) (w.heap.size+1+1)/\(w3.setCell (G c 2) (S9 g3 (s.ns+1) b)).heap[w.heap.size+1+1+1]?=some (.cells #[J (s.ns:Int)] 3 (0,0))/\(w3.setCell (G c 2) (S9 g3 (s.ns+1) b)).heap[u]?=w1.heap[u]?/\
   AZ (ZB Z w.heap.size W.heap.size) (w3.setCell (G c 2) (S9 g3 (s.ns+1) b)) c B0 vN vT (S9 g3 (s.ns+1) b) (S9 u 1 cu) Bk A {s with ns:=s.ns+1,S:=AY s.S s.ns ⟨a.k.str,-1,0,0,0⟩}/\Br (Au B0 c vN vT (.slice sa s.ns sc) w) w (Au B0 c vN vT (S9 g3 (s.ns+1) b) (w3.setCell (G c 2) (S9 g3 (s.ns+1) b))) (w3.setCell (G c 2) (S9 g3 (s.ns+1) b))):=O (by
  intro g3 b w3 h1 h2 h3;obtain⟨k1,k2,k3⟩:=i.kG g h2 h1 (h3.imp id (fun e=>by rw[e];exact g.size));have f:∀(q:Nat) (cs:Array Value) (ty:TypeId),w1.heap[q]?=some (Obj.cells cs ty (0,0))->ty≠103->w3.heap[q]?=w1.heap[q]?:=fun q cs ty hq ht=>by
   have ak:=Ah hq;refine(h2.block q (At ak g.size) (fun e=>?_)).trans (g.block q ak);obtain⟨cur,hb,_⟩:=AJ i.si e.symm;rw[hb]at hq;cases hq;exact ht rfl
  have q0:=f _ _ _ b0 oc;have q1:=f _ _ _ b1 oc;have q2:=f _ _ _ b2 oc;have q3:=f _ _ _ b3 oc;obtain⟨bc,a6,_⟩:=AJ F rfl;have qu:=f u _ _ a6 oc;have qc:=f c _ _ i.BB oc;have n:G9 w.heap.size (w.heap.size+1) c a.k.str w3:=G9.keep (w:=w1) I q0 q1;have st:∀q,q≠c->(w3.setCell (G c 2) (S9 g3 (s.ns+1) b)).heap[q]?=w3.heap[q]?:=fun q hq=>A0 _ _ _ _ (by exact hq);refine⟨n,G9.keep n (st w.heap.size oa) (st (w.heap.size+1) oa),(As (a:=(G c 2)) qc).trans c2,(GW (a:=(G c 2)) qc).trans (cf 2),Ah k1,(st _ oa).trans (q0.trans b0),(st _ oa).trans (q2.trans b2),(st _ oa).trans (q3.trans b3),(st _ oa).trans qu,k2,(ai.trans H).trans k3⟩)
 have a7:=O F;have bq:Hid (w1.heap[u]?=w1.heap[u]?):=O rfl;clear i H l F b0 b1 b2 b3 c0 c1 c3 cf HE ai aj g;go_wp2_with fail;refine Hl (G9 w.heap.size (w.heap.size+1) c a.k.str) ?_;refine tz 0 (h:=tz 1 (h:=tz 2 (h:=tz 3 (h:=tz 5 (h:=tz 6 (h:=tz 7 (h:=tz 8 (h:=?_))))))));refine AaE (rs:=[4,9]) og od ?_;refine SO rfl (fun K hK=>?armA) (SO rfl (fun K hK=>?armB) AaH)
 case' armA=>
  go_simp;refine hK.out _ _ I (fun _=>?_);clear hK K;refine ry 9 (fun K hK=>?_);go_simp;refine hK.out _ _ m (fun a8=>?_);clear hK K
 case' armB=>
  go_simp;refine hK.out _ _ m (fun a8=>?_);clear hK K;refine ry 4 (fun K hK=>?_);go_simp;refine hK.out _ _ m (fun _=>?_);clear hK K
 all_goals
  refine ry 10 (fun K hK=>?_);refine Aaa _ rfl (.tmp 19) (.tmp 24) 40 rfl B0 103 i0 (.agg #[E9,J 0,J 0,J 0,J 0]) 5 48 underlying40 aw ax ay az rfl oc (.slice sa s.ns sc) s.ns (Ji s.S s.ns) (by simp[Act.eval]) (World.ownsRow.drew (On aM _)) (y w1 0) 1 1 (IZ ⟨a.k.str,-1,0,0,0⟩) (by simp[Act.eval]) rfl (H8 (w:=(w1.alloc (.cells #[.string a.k.str,J (-1),J 0,J 0,J 0] 103)).drew) (BE w1 _)) (by simp[IZ,Value.oneCell']) oc (by unfold maxLen;omega) oa oe _ rfl ?_;intro g3 b w3 o B r bd;obtain⟨n,ao,x3,f3,br,d0,d2,d3,L,m4,C⟩:=z HF g3 b w3 o B r;have HX:=O (And.intro d0 (And.intro d2 (And.intro d3 (And.intro L (And.intro m4 C)))));clear o B r d0 d2 d3 L m4 C;refine hK.out _ _ n (fun ad=>?_);clear hK K;refine tz 11 (h:=tz 12 (h:=?_));refine ry 13 (fun K hK=>?_);go_simp;refine hK.out _ _ ao (fun _=>?_);clear hK K;refine Fj ?_;clear n ao ad x3 f3;obtain⟨w4,aq⟩:∃w4,w4=w3.setCell (G c 2) (S9 g3 (s.ns+1) b):=⟨_,rfl⟩;rw[<-aq]at HX ⊢;clear aq;obtain⟨d0,d2,d3,L,m4,C⟩:=z HX;obtain⟨_,_,y1,_,_⟩:=m4.cells;have bt:=m4.lt;have l0:=Ah d0;have l2:=d2.lt;have l3:=Ah d3;have y0:w4.cell? (y w 0)=some (Q9 c):=by simp[World.cell?,d0]
  have y3:w4.cell? (G (w.heap.size+1+1+1) 0)=some (J (s.ns:Int)):=by simp[World.cell?,d3]
  obtain⟨w5,D,ar⟩:=Bs d2 (Bc 0);obtain⟨w6,E,au⟩:=Bs d2 (DJ s.ns);have ae:=O D;have af:=O E;have t:=O ar;have av:=O au;clear d0 d2 d3 L m4 C D E ar au;by_cases hf:s.ns=50
  ·have d:decide ((50:Int)<(s.ns:Int)+1)=true:=oe;have M:=O hf;clear hf;go_wp2_with (refine Ai rfl rfl _ ae ?_);obtain⟨r0,r1,r2,r3,r4,r5,r6,r7,r8,r9,P,Q⟩:=An.read t.BB;refine E1 (v:=.tuple #[Dw (Bc 0),Bp 5]) (by simp[results,results147,go_sem,r0,r1,r2,r3,r4,r5,r6,r7,r8,r9,P,Q,Bp]) rfl ?_;obtain⟨d0,d2,d3,L,m4,C⟩:=z HX;obtain⟨mm,R⟩:=m4.Jt C j oa oa d2 t;refine⟨_,_,mm,R,fun h=>absurd M h,fun _=>⟨rfl,u,cu,w.heap.size,w.heap.size+1+1+1,rfl,NI (Ae a7 (fun q e=>?_)) (Re _),?_,?_⟩⟩
   ·cases e;exact(t.other _ (by show u≠w.heap.size+1+1;omega)).trans L
   ·exact(t.other _ oa).trans d0
   ·exact(t.other _ oa).trans d3
  ·have d:decide ((50:Int)<(s.ns:Int)+1)=false:=oe;have M:=O hf;clear hf;go_wp2_with (refine Ai rfl rfl _ af ?_);obtain⟨r0,r1,r2,r3,r4,r5,r6,r7,r8,r9,P,Q⟩:=An.read av.BB;refine E1 (v:=.tuple #[Dw (DJ s.ns),Bp 0]) (by simp[results,results147,go_sem,r0,r1,r2,r3,r4,r5,r6,r7,r8,r9,P,Q,Bp]) rfl ?_;obtain⟨d0,d2,d3,L,m4,C⟩:=z HX;obtain⟨mm,R⟩:=m4.Jt C j oa oa d2 av;exact⟨_,_,mm,R,fun _=>rfl,fun h=>absurd h M⟩
structure MJ (s s':AK):Prop where
 nf:s.nf=s'.nf
 F:s.F=s'.F
 nt:s.nt=s'.nt
 ns:s.ns=s'.ns
 T:∀i,i<s.nt->s.T i=s'.T i
 S:∀i,i<s.ns->s.S i=s'.S i
theorem MJ.refl(s:AK):MJ s s:=⟨rfl,rfl,rfl,rfl,fun _ _=>rfl,fun _ _=>rfl⟩
section
variable {Z:Nat->Prop} {w w':Y} {c B0:Nat} {vN vT vS vU:V9} {Bk:Nat->Nat} {A:Nat->Ad} {s s':AK}
theorem AZ.same(h:AZ Z w c B0 vN vT vS vU Bk A s)(e:MJ s s'):AZ Z w c B0 vN vT vS vU Bk A s':=by
 obtain⟨nf,F,nt,T,ns,S⟩:=s;obtain⟨f,F',j,T',k,S'⟩:=s';obtain⟨e1,e2,e3,b,a,d⟩:=e;simp only at e1 e2 e3 b a d;subst e1 e2 e3 b;refine⟨h.BB,h.ge,h.n,h.nd,?_,?_,h.u,h.z,fun i hi=>?_⟩
 ·have h1:=h.t;show World.ownsRow _ _ _ _ _ _ (kL Bk A ⟨nf,F,nt,T',ns,S'⟩ nt);rw[Nh (Bk':=Bk) (A':=A) (s':=⟨nf,F,nt,T,ns,S⟩) (fun i hi=>by show AG Bk (A i) (T' i)=AG Bk (A i) (T i);rw[a i hi])];exact h1
 ·have h1:=h.si;show World.ownsRow _ _ _ _ _ _ (Ji S' ns);rw[Xk (g:=S) (fun i hi=>(d i hi).symm)];exact h1
 ·have h1:=h.rd i hi;show Rd _ _ (A i) (T' i);rw[<-a i hi];exact h1
theorem Br.oz{b:V9}(a:Br (Au B0 c vN vT vS w) w (Au B0 c b d f w') w'):Br (OZ Z B0 c vN vT vS w) w (OZ Z B0 c b d f w') w':=
 ⟨a.os,a.tape,a.output,a.size,fun k h1 h2=>a.block k h1 (fun e=>h2 (.inl e)),fun k e=>e.elim (fun e=>(a.own k e).imp .inl id) (fun e=>.inl (.inr e))⟩
def Ow(Z:Nat->Prop)(w:Y)(c B0:Nat)(vN vT vS vU:V9)(a:AK):Prop:=
 ∃Bk A s1,AZ Z w c B0 vN vT vS vU Bk A s1/\
  ((vU=N9/\MJ s1 a)\/
   (∃n b d e f,JP 202 w c vU n b d e f/\n<=s1.nt/\0<s1.nt/\s1.nt<=200/\MJ {s1 with nt:=n} a)\/
   (∃n b d e f,JP 205 w c vU n b d e f/\n<=s1.ns/\0<s1.ns/\s1.ns<=200/\MJ {s1 with ns:=n} a)\/
   (∃t g a' x' b d h e f,A=AY g t a'/\s1=BW a t x'/\JO w c vU t (AG Bk (g t) (a.T t)) b d h e f/\vT.ownBlock≠some h/\t<a.nt/\a.nt<=200/\Rd (OZ Z B0 c vN vT vS w) w (g t) (a.T t)))
theorem Ow.below{g:AK}(h:Ow Z w c B0 vN vT vS vU g)(hb:B9 w w'):Ow Z w' c B0 vN vT vS vU g/\Br (Au B0 c vN vT vS w) w (Au B0 c vN vT vS w') w':=by
 obtain⟨Bk,A,s1,i,hu⟩:=h;obtain⟨m1,d1⟩:=i.below hb;refine⟨⟨Bk,A,s1,m1,?_⟩,d1⟩;rcases hu with h|⟨n,a,d,e,f,h,h2⟩|⟨n,a,d,e,f,h,h2⟩|⟨t,j,a',x',a,d,l,e,f,e1,e2,h,h3,h4,h5,m⟩
 ·exact .inl h
 ·exact .inr (.inl ⟨n,a,d,e,f,h.keep (hb.block _ (h.u.lt a rfl).2) (hb.block _ (Ah h.b)) (hb.block _ (Ah h.n)),h2⟩)
 ·exact .inr (.inr (.inl ⟨n,a,d,e,f,h.keep (hb.block _ (h.u.lt a rfl).2) (hb.block _ (Ah h.b)) (hb.block _ (Ah h.n)),h2⟩))
 ·exact .inr (.inr (.inr ⟨t,j,a',x',a,d,l,e,f,e1,e2,h.keep (hb.block _ (h.u.lt a rfl).2) (hb.block _ (Ah h.k)) (hb.block _ (Ah h.b)) (hb.block _ (Ah h.n)),h3,h4,h5,m.step d1.oz⟩))
theorem Ow.Jt{d:Y}{g i:V9}{D:AK}{v E:Nat}{x:An}(h:Ow (ZB Z w.heap.size E) w1 c B0 g i j m D)(F:Br (Au B0 c vN vT vS w) w (Au B0 c g i j w1) w1)(o:B0<=w.heap.size)(l:w.heap.size<=v)(hz:v<E)(B:Ge w1 v)(a:Bn w1 d v (Ey x).toArray 45):
  Ow Z d c B0 g i j m D/\Br (Au B0 c vN vT vS w) w (Au B0 c g i j d) d:=by
 obtain⟨Bk,A,s1,C,hu⟩:=h;obtain⟨f1,f2⟩:=C.Jt F o l hz B a;have H:=(C.box (.inr ⟨l,hz⟩) (GO o l) (C.Em B oc oc oc oc oc) ⟨a.os,a.tape,a.output,a.size⟩ a.other a.BB oc).2;have f:∀(b:Nat) (cs:Array Value) (ty:TypeId),w1.heap[b]?=some (.cells cs ty (0,0))->ty≠45->d.heap[b]?=w1.heap[b]?:=fun b cs ty hb I=>a.other b (fun e=>by
  rw[e,B]at hb;cases hb;exact I rfl)
 refine⟨⟨Bk,A,s1,f1,?_⟩,f2⟩;rcases hu with h|⟨n,p,q,r,s,h,h2⟩|⟨n,p,q,r,s,h,h2⟩|⟨t,K,a',x',p,q,L,r,s,e1,e2,h,h3,h4,h5,M⟩
 ·exact .inl h
 ·obtain⟨cur,hc,_⟩:=AJ h.u rfl;exact .inr (.inl ⟨n,p,q,r,s,h.keep (f _ _ _ hc oc) (f _ _ _ h.b oc) (f _ _ _ h.n oc),h2⟩)
 ·obtain⟨cur,hc,_⟩:=AJ h.u rfl;exact .inr (.inr (.inl ⟨n,p,q,r,s,h.keep (f _ _ _ hc oc) (f _ _ _ h.b oc) (f _ _ _ h.n oc),h2⟩))
 ·obtain⟨cur,hc,_⟩:=AJ h.u rfl;refine .inr (.inr (.inr ⟨t,K,a',x',p,q,L,r,s,e1,e2,h.keep (f _ _ _ hc oc) (f _ _ _ h.k oc) (f _ _ _ h.b oc) (f _ _ _ h.n oc),h3,h4,h5,fun w3 hs hk=>?_⟩));refine M w3 (by rw[<-a.size];exact hs) (fun k k1 k2=>(hk k (by rw[a.size];exact k1) (fun e=>k2 (e.imp (H k) .inl))).trans (a.other k (fun e=>k2 (.inr (.inr (by rw[e];exact⟨l,hz⟩))))))
end
theorem dI(c:Nat)(vN vT vS:V9)(w:Y)(hb:w.heap[c]?=some (.cells #[vN,vT,vS,N9] 198 (0,0))):
  C9 115 #[Q9 c] w fun e w'=>(∃u,e=.returned u)/\w'=w:=by
 have c3:w.cell? (G c 3)=some (N9):=by simp[World.cell?,hb]
 have a:=Ah hb;clear hb
 go_enter func115,ntmps115
 go_wp2;go_loopw [2] (fun i wr=>i=J (-1)/\wr=w) (fun i _=>0)
 case atStart=>exact⟨rfl,rfl⟩
 case round=>
  obtain⟨rfl,rfl⟩:=hrel;go_wp2;go_end0;exact⟨⟨_,rfl⟩,rfl⟩
theorem XE{l:AK}(h:Ow Z w c B0 vN vT vS vU l):
  C9 115 #[Q9 c] w fun e w'=>(∃u,e=.returned u)/\∃a d b Bk' A',AZ Z w' c B0 vN a d b Bk' A' l/\Br (Au B0 c vN vT vS w) w (Au B0 c vN a d w') w':=by
 obtain⟨Bk,A,s1,f,hu⟩:=h;rcases hu with⟨rfl,h⟩|⟨n,g,i,j,k,h,h2,h3,h4,h5⟩|⟨n,g,i,j,k,h,h2,h3,h4,h5⟩|⟨t,m,a',x',g,i,o,j,k,rfl,rfl,h,h3,h4,h5,p⟩
 ·refine(dI c vN vT vS w f.BB).mono ?_;rintro e w' ⟨hu,rfl⟩;exact⟨hu,_,_,_,_,_,f.same h,Br.refl _ _⟩
 ·refine(dL Z c B0 vN vT vS vU Bk A s1 n g i j k w f h h2 h3 h4).mono ?_;rintro e w' ⟨hu,a,b,m1,d1⟩;exact⟨hu,_,_,_,_,_,m1.same h5,d1⟩
 ·refine(dK Z c B0 vN vT vS vU Bk A s1 n g i j k w f h h2 h3 h4).mono ?_;rintro e w' ⟨hu,d,b,m1,d1⟩;exact⟨hu,_,_,_,_,_,m1.same h5,d1⟩
 ·refine(dJ Z c B0 vN vT vS vU Bk m l t a' x' g i o j k w f h h3 h4 h5 p).mono ?_;rintro e w' ⟨hu,a,b,m1,d1⟩;exact⟨hu,_,_,_,_,_,m1,d1⟩
section
def UZ(Z:Nat->Prop)(c B0:Nat)(vN vT vS:V9)(s:AK)(t:Nat)(k v:Vl)(w:Y)(e:Ending)(w':Y):Prop:=
 ∃a b d f,e=.returned (Bp (Cv s t k v))/\Br (Au B0 c vN vT vS w) w (Au B0 c a b d w') w'/\
  ((Cv s t k v=0/\∃Bk' A',AZ Z w' c B0 a b d f Bk' A' (CC s t k v))\/(Cv s t k v≠0/\Ow Z w' c B0 a b d f (CC s t k v)))
structure dT (w W:Y) (k v:Vl):Prop where
 k:W.heap[w.heap.size]?=some (.cells (ow k) 43 (0,0))
 v:W.heap[w.heap.size+1]?=some (.cells (ow v) 43 (0,0))
theorem dT.below{W':Y}(h:dT w W k v)(hb:B9 W W'):dT w W' k v:=⟨(hb.block _ (Ah h.k)).trans h.k,(hb.block _ (Ah h.v)).trans h.v⟩
theorem dT.cells(h:dT w W k v):(W.cell? (y w 0)=some (J k.kind)/\W.cell? (y w 1)=some (J k.num)/\W.cell? (y w 2)=some (F9 k.Ag)/\W.cell? (y w 3)=some (.string k.str)/\W.cell? (y w 4)=some (J k.ref))/\(W.cell? (Y9 w 0)=some (J v.kind)/\W.cell? (Y9 w 1)=some (J v.num)/\W.cell? (Y9 w 2)=some (F9 v.Ag)/\W.cell? (Y9 w 3)=some (.string v.str)/\W.cell? (Y9 w 4)=some (J v.ref)):=by
 obtain⟨h1,h2⟩:=h;exact⟨⟨by simp[World.cell?,h1],by simp[World.cell?,h1],by simp[World.cell?,h1],by simp[World.cell?,h1],by simp[World.cell?,h1]⟩,⟨by simp[World.cell?,h2],by simp[World.cell?,h2],by simp[World.cell?,h2],by simp[World.cell?,h2],by simp[World.cell?,h2]⟩⟩
theorem nP(w:Y)(k v:Vl):∃W,W=(w.alloc (.cells (ow k) 43)).alloc (.cells (ow v) 43)/\B9 w W/\dT w W k v/\W.heap.size=w.heap.size+1+1:=by
 refine⟨_,rfl,(n9).alloc od _,⟨(DO _ _ _ od).trans (BE _ _),?_⟩,od⟩;have h1:=BE (w.alloc (.cells (ow k) 43)) (.cells (ow v) 43);simpa using h1
theorem U9(v:Vl)(w:Y):(Instr.field 43 (V v.kind v.num v.Ag v.str v.ref) 0).run prog w=.ok (J v.kind) w:=og
attribute [local go_sem] U9
theorem Z0(h:v.kind=0/\(Cm s.F (s.T t) k).kind=0):Cv s t k v=0/\CC s t k v=s:=by
 have e:BN s (s.T t) k v=.no:=DD h;unfold Cv CC;rw[e];exact⟨rfl,rfl⟩
theorem ZZ(h:¬(v.kind=0/\(Cm s.F (s.T t) k).kind=0))(hx:(s.T t).shape=-1):(EP (s.T t).d k v=true->Cv s t k v=5/\CC s t k v=s)/\(EP (s.T t).d k v=false->Cv s t k v=0/\CC s t k v=BW s t (Ew (s.T t) (s.T t).d k v)):=by
 have e:BN s (s.T t) k v=if EP (s.T t).d k v=true then .full else .MX:=by
  unfold BN;rw[C3 h,C3 oa]
 refine⟨fun hf=>?_,fun hf=>?_⟩
 ·rw[DD hf]at e;unfold Cv CC;rw[e];exact⟨rfl,rfl⟩
 ·rw[C3 (by rw[hf];decide)]at e;unfold Cv CC;rw[e];exact⟨rfl,rfl⟩
section
variable {Z:Nat->Prop} {w w1 w2:Y} {c B0:Nat} {vN vT vS vU:V9} {Bk:Nat->Nat} {A:Nat->Ad} {s:AK} {t:Nat} {k v:Vl} {e:Ending}
theorem kZ.un(j:AZ Z w c B0 vN vT vS vU Bk A s)(hb:B9 w w1)(f:¬(v.kind=0/\(Cm s.F (s.T t) k).kind=0))(hx:(s.T t).shape=-1)(l:t<s.nt)(n:s.nt<=100)(h:kZ Z c B0 vN vT vS Bk A s t (s.T t).d k v w1 e w2):UZ Z c B0 vN vT vS s t k v w e w2:=by
 obtain⟨b,a,a',m,g,o,p,q,r,u,x,i⟩:=h;obtain⟨m1,d1⟩:=j.below hb;obtain⟨B,C⟩:=ZZ f hx;cases hf:EP (s.T t).d k v
 ·obtain⟨e1,e2⟩:=C hf;rw[hf]at b;exact⟨vN,vT,vS,a,by rw[b,e1];rfl,d1.trans g,.inl ⟨e1,Bk,AY A t a',by rw[e2];exact m⟩⟩
 ·obtain⟨e1,e2⟩:=B hf;rw[hf]at b;refine⟨vN,vT,vS,a,by rw[b,e1];rfl,d1.trans g,.inr ⟨by rw[e1];decide,?_⟩⟩;rw[e2];exact⟨Bk,AY A t a',_,m,.inr (.inr (.inr ⟨t,A,a',_,o,p,q,r,u,rfl,rfl,x,i,l,oa,((j.rd t l).step d1.oz).step g.oz⟩))⟩
end
theorem Z2(Z:Nat->Prop)(c B0:Nat)(vN vT vS:V9)(Bk:Nat->Nat)(A:Nat->Ad)(s:AK)(t:Nat)(k v:Vl)(w:Y)(l:AZ Z w c B0 vN vT vS (N9) Bk A s)(D:t<s.nt)(E:s.nt<=100)(P:BH w)(hx:(s.T t).shape=-1)(M:Inv Ky hN (s.T t).d)(H:VQ (s.T t).d)(hm:(s.T t).d.m<=4000000)(hk:Ky k)(hv:v.ok=true)(Q:MI k v)(R:5<=B0):
  C9 203 #[Q9 c,J (t:Int),Gf k,Gf v] w fun e w'=>UZ Z c B0 vN vT vS s t k v w e w':=by
 obtain⟨g,S,U,V,au,u,X⟩:=l.CP D;subst U;have I:AG Bk (A t) (s.T t)=.iface 239 (KD (A t) (s.T t)):=DD hx;rw[I]at u;obtain⟨W,hW,i,x,ad⟩:=nP w k v;have ae:=l.lt;have hS:Small (s.T t).d:=M.small oa;obtain⟨n,q⟩:∃n,n=Cm s.F (s.T t) k:=⟨_,rfl⟩;have r:Hid (∀w1,B9 W w1->C9 349 #[KD (A t) (s.T t),Gf k] w1 (R9 (Gf n) w1)):=O (fun w1 h1=>by
  have a:=i.trans (h1.mono oa);rw[q];exact Hh (A t) (s.T t) s.F k w1 (Bg _ _ P a) hx M H hS hk (((l.rd t D).now.2).below a))
 have af:Hid (∀w1,B9 w w1->¬(v.kind=0/\n.kind=0)->C9 234 #[Q9 c,J (t:Int),Dv (A t).la (A t).lc (A t).ia (A t).ic (A t).xa (A t).xc (s.T t).d,Gf k,Gf v] w1 fun e w'=>UZ Z c B0 vN (S9 g s.nt S) vS s t k v w e w'):=O (fun w1 h1 b=>by
  refine(Iv Z c B0 vN _ vS Bk A s t (A t).la (A t).lc (A t).ia (A t).ic (A t).xa (A t).xc (s.T t).d k v w1 (l.below h1).1 D E (Bg _ _ P h1) (((l.rd t D).now.2).below h1) M hm hk hv Q R).mono ?_;intro e w2 h2;exact kZ.un l h1 (by rw[<-q];exact b) hx D E h2)
 have ag:Hid (∀w1,B9 w w1->v.kind=0/\n.kind=0->UZ Z c B0 vN (S9 g s.nt S) vS s t k v w (.returned (Bp 0)) w1):=O (fun w1 h1 h2=>by
  obtain⟨e1,e2⟩:=Z0 (s:=s) (t:=t) (k:=k) (v:=v) (by rw[<-q];exact h2);obtain⟨m1,d1⟩:=l.below h1;exact⟨_,_,_,_,by rw[e1],d1,.inl ⟨e1,Bk,A,by rw[e2];exact m1⟩⟩)
 have x1:=ol i ae l.cells.2.1;have xg:=ol i V u;obtain⟨⟨k0,k1,k2,k3,k4⟩,⟨v0,v1,v2,v3,v4⟩⟩:=x.cells;have lc:c<W.heap.size:=oa;have lg:g<W.heap.size:=oa;have l0:w.heap.size<W.heap.size:=oa;have l1:w.heap.size+1<W.heap.size:=oa;have ah:=O x;have L:=O i;have av:=nT (KD (A t) (s.T t));have aw:=lU (KD (A t) (s.T t));clear l P M H hm hk hv hS q i x u X I hx ad
 go_enter func203,ntmps203
 go_upto_region 1 with fail
 rw[<-hW];clear hW;by_cases b:v.kind=0/\n.kind=0
 case pos=>
  have d1:(v.kind==0)=true:=by simp[b.1]
  have d2:(n.kind==0)=true:=by simp[b.2]
  have HN:=O b;clear b;refine qr W ?_;refine N (h:=N (h:=N (h:=N (h:=N (h:=N (h:=N (h:=N (h:=N (h:=N (h:=N (h:=N (h:=?_))))))))))));refine N (h:=?_);refine GS (fun K hK=>?_);go_simp;apply Exists.intro;refine And.intro (fun w' f=>?_) (hK _ ?_)
  ·go_invoke
   (try go_simp)
   refine((r _ f)).mono ?_;rintro e ai ⟨rfl,hb⟩;exact⟨rfl,oo f hb⟩
  clear hK K;refine N (h:=N (h:=N (h:=?_)));refine H7 ?_;intro w1 a;have HE:=O (ag w1 (L.trans (a.mono oa)) HN);clear a;go_wp2;refine E1 (v:=Bp 0) (by simp[results,results203,go_sem,Bp]) rfl HE
 have B:(v.kind=0/\n.kind≠0)\/v.kind≠0:=by
  by_cases h:v.kind=0
  ·exact .inl ⟨h,fun e=>b ⟨h,e⟩⟩
  ·exact .inr h
 have HN:=O b;clear b;rcases B with⟨h1,h2⟩|h1
 case' inl=>
  have d1:(v.kind==0)=true:=by simp[h1]
  have d2:(n.kind==0)=false:=by simp[h2]
  clear h1 h2;refine qr W ?_;refine N (h:=N (h:=N (h:=N (h:=N (h:=N (h:=N (h:=N (h:=N (h:=N (h:=N (h:=N (h:=?_))))))))))));refine N (h:=?_);refine GS (fun K hK=>?_);go_simp;apply Exists.intro;refine And.intro (fun w' f=>?_) (hK _ ?_)
  ·go_invoke
   (try go_simp)
   refine((r _ f)).mono ?_;rintro e ai ⟨rfl,hb⟩;exact⟨rfl,oo f hb⟩
  clear hK K;refine N (h:=N (h:=N (h:=?_)));refine H7 ?_;intro w1 a
 case' inr=>
  have d1:(v.kind==0)=false:=by simp[h1]
  clear h1
  go_quiet (fail)
  obtain⟨w1,C⟩:∃w1,w1=W.drewN nq:=⟨_,rfl⟩;have a:B9 W w1:=by rw[C];exact⟨rfl,rfl,rfl,Be _,fun _ _=>rfl⟩
  rw[<-C];clear C
 all_goals
  have x1:=ol a lc x1;have xg:=ol a lg xg;obtain⟨⟨k0,k1,k2,k3,k4⟩,⟨v0,v1,v2,v3,v4⟩⟩:=(ah.below a).cells;have z1:=a.size;have ax:c<w1.heap.size:=oa;have ay:g<w1.heap.size:=oa;have az:w.heap.size<w1.heap.size:=oa;have aM:w.heap.size+1<w1.heap.size:=oa;have aj:Hid (∀o,B9 w (w1.alloc o)):=O (fun o=>(L.trans (a.mono oa)).alloc oa _);clear a;go_wp2_with fail;refine(af _ (aj _) HN).mono ?_;intro e w3 hP;obtain⟨ak,ao,aq,ar,he,j⟩:=hP;have HP:Hid (UZ Z c B0 vN (S9 g s.nt S) vS s t k v w (.returned (Bp (Cv s t k v))) w3):=O ⟨ak,ao,aq,ar,rfl,j⟩;subst he;clear j;go_wp2;refine E1 (v:=Bp (Cv s t k v)) (by simp[results,results203,go_sem]) rfl HP
end
end Go.Proofs.YtgmlkfgfjjggnaaGreatDoor
