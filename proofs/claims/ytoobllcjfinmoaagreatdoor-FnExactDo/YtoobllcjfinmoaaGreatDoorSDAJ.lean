import Derived.Handy
import Derived.Test.YtoobllcjfinmoaaGreatDoorSDAF
set_option linter.all false
set_option maxHeartbeats 40000000
set_option maxRecDepth 100000
namespace Go.Proofs.YtoobllcjfinmoaaGreatDoor
open Go.Proofs.Tryz
open Go.RowKit
attribute [local go_sem] Ar Am C5
variable {w w' W W' w1:Y}{B a B0 c g ab b q n i p bk R2 lo hi l o:Nat}{s s':AK}{A A':Nat->Ad}{x t:Tb}{Z:Nat->Prop}{vN vT vS vU r0 r1 v j m:V9}{k:Vl}{Q:Pl}{E S:Nat->Nat}{d:Dc}{f:Nat->Vl}{h:Hs}{cs:Array Value}
section
open Go.RowKit Go.Extern
abbrev aJ:Value:=.iface 260<|.agg #[.pointer (some<|G 5 136)]
def JO(w:Y):Prop:=w.cell? (G 0 0)=some aJ
def JO.lt(h:JO w):0<w.heap.size:=by
 rcases Nat.lt_or_ge 0 w.heap.size with h1|h1
 .exact h1
 unfold JO at h;simp[World.cell?,Array.getElem?_eq_none h1]at h
def JO.below(h:JO w)(hb:Below B w w')(a:0<B):JO w':=
 (As<|hb.block _ a).trans h
def iY t w:(ReflectliteValue.unpack<|.iface 209<|.pointer<|some t).run prog w
  =.ok (.agg #[.pointer (some<|G 5 209),Q9 w.heap.size,.int .u64 150]) (w.alloc<|.cells #[.pointer (some t)] 209):=ou
def iW(a)(w):(ReflectliteValue.methodAny (ReflectliteValue.valueError "reflectlite.Value.Type" 0) (λt _ _ _=>ReflectliteType.toType t) #[.agg #[.pointer (some (G 5 209)),.pointer (some a),.int .u64 150]]).run prog w
  =.ok (.iface 260<|.agg #[.pointer (some<|G 5 209)]) w:=ou
def bL w:((ReflectliteType.abiMethod λt=>(λa:Nat=>Value.int IntKind.u8 (a:Int)) <$> Rtype.kind t) #[.pointer (some<|G 5 209)]).run prog w=.ok (.int .u8 22) w:=ou
def bK w:((ReflectliteType.abiMethod λt=>(λa:Nat=>Value.int IntKind.u8 (a:Int)) <$> Rtype.kind t) #[.pointer (some<|G 5 207)]).run prog w=.ok (.int .u8 25) w:=ou
def qR Z f v:
  ReflectliteValue.method Z f #[v]=(do match<-ReflectliteValue.parts v with|none=>Z|some (t,a,b)=>f t a b<|b%32):=rfl
def QI a w:(ReflectliteValue.parts<|.agg #[.pointer (some<|G 5 209),.pointer<|some a,.int .u64 150]).run prog w=.ok (some (209,a,150)) w:=ou
def bJ a p W(b:W.cell? a=some (.pointer<|some p)):
  (ReflectliteValue.method (ReflectliteValue.valueError "reflectlite.Value.IsNil" 0) ReflectliteValue.isNil #[.agg #[.pointer (some (G 5 209)),.pointer (some a),.int .u64 150]]).run prog W=.ok (.bool false) W:=by
 rw[qR];simp only[AaU,QI,Result.andThen];simp[ReflectliteValue.isNil,loadVar,isAgg,underlying,underlying209,b,Result.andThen]
def iT w:(ReflectliteType.method ReflectliteType.elem #[.agg #[.pointer (some<|G 5 209)]]).run prog w=.ok (.iface 260<|.agg #[.pointer (some<|G 5 207)]) w:=ou
def iU(w):(ReflectliteType.relation "Implements" ReflectliteType.implements_ #[.agg #[.pointer (some (G 5 207))],aJ]).run prog w=.ok (.bool true) w:=ou
def YI v w:(ReflectliteType.typeOf #[.iface 207 v]).run prog w=.ok (.iface 260<|.agg #[.pointer (some<|G 5 207)]) w:=ou
def YD(w):(ReflectliteType.relation "AssignableTo" ReflectliteType.assignableTo #[.agg #[.pointer (some (G 5 207))],.iface 260 (.agg #[.pointer (some (G 5 207))])]).run prog w=.ok (.bool true) w:=ou
def iX c w:(ReflectliteValue.unpack<|.iface 207<|.agg #[J c]).run prog w
  =.ok (.agg #[.pointer (some<|G 5 207),Q9 w.heap.size,.int .u64 153]) (w.alloc<|.cells #[J c] 207):=ou
def YF w:(Rtype.elem? 209).run prog w=.ok (some 207) w:=ou
def qS p w:(ReflectliteValue.mk 207 p ReflectliteValue.flagAddr).run prog w=.ok (.agg #[.pointer (some<|G 5 207),.pointer<|some p,.int .u64 409]) w:=ou
def bI a p W(b:W.cell? a=some (.pointer<|some p)):
  (ReflectliteValue.method (ReflectliteValue.valueError "reflectlite.Value.Elem" 0) ReflectliteValue.elem #[.agg #[.pointer (some (G 5 209)),.pointer (some a),.int .u64 150]]).run prog W
   =.ok (.agg #[.pointer (some<|G 5 207),.pointer<|some p,.int .u64 409]) W:=by
 rw[qR];simp only[AaU,QI,Result.andThen];simp[ReflectliteValue.elem,loadVar,isAgg,underlying,underlying209,b,Result.andThen,YF,qS]
def tB v x:ReflectliteValue.set #[v,x]=(do
  let (some (dst,a,c),some (src,b,_)):=(<-ReflectliteValue.parts v,<-ReflectliteValue.parts x)
   |unsupported (.noEntry "extern/(internal/reflectlite.Value).Set.zeroValue")
  if c/ReflectliteValue.flagAddr%2==0 then unsupported (.noEntry "extern/(internal/reflectlite.Value).Set.unaddressable")
  let val<-loadVar src b
  if<-Rtype.directlyAssignable dst src then storeVar dst a val
  else if<-Rtype.implements dst src then
   if(<-Rtype.kind src)==20 then
    match val with
    |.nilIface=>unsupported (.noEntry "extern/reflectlite: a nil value of one interface type handed on as a value of another")
    |_=>storeVar dst a val
   else storeVar dst a (.iface src val)
  else panicString ("reflectlite.Set: value of type " ++(<-Rtype.spelt src)++ " is not assignable to type " ++(<-Rtype.spelt dst))
  pure (.tuple #[])):=rfl
def YG a w:(ReflectliteValue.parts<|.agg #[.pointer (some<|G 5 207),.pointer<|some a,.int .u64 409]).run prog w=.ok (some (207,a,409)) w:=ou
def YH a w:(ReflectliteValue.parts<|.agg #[.pointer (some<|G 5 207),.pointer<|some a,.int .u64 153]).run prog w=.ok (some (207,a,153)) w:=ou
def YE w:(Rtype.directlyAssignable 207 207).run prog w=.ok true w:=ou
def iV(w:Y)c:(loadVar 207<|y w 0).run prog (w.alloc<|.cells #[J c] 207)=.ok (.agg #[J c]) (w.alloc<|.cells #[J c] 207):=by
 simp[loadVar,isAgg,underlying,underlying207,Result.andThen,go_sem]
def nL tb c old(w:Y)(hl:tb<w.heap.size)(a:w.cell? (G tb 0)=some old)(hf:w.frozen? (G tb 0)=false):
  (ReflectliteValue.set #[.agg #[.pointer (some<|G 5 207),Q9 tb,.int .u64 409],.agg #[.pointer (some<|G 5 207),Q9 w.heap.size,.int .u64 153]]).run prog (w.alloc<|.cells #[J c] 207)
   =.ok (.tuple #[]) ((w.alloc<|.cells #[J c] 207).setCell (G tb 0)<|J c):=by
 rw[tB];simp only[AaU,YG,YH,Result.andThen];simp only[ReflectliteValue.flagAddr];simp[iV,YE,Result.andThen,storeVar,Value.cells,storeCells,Addr.add];rw[run_store prog _ (G tb 0) _ _ (by rfl)];simp[Hi _ _ (G tb 0) hl,World.frozen?_alloc_old _ _ (G tb 0) (Nat.ne_of_lt hl),a,hf]
def mW t w:
  C9 109 #[.nilIface,t] w λe w'=>e=.returned (.bool false)/\w'=w:=by
 go_enter func109,ntmps109;go_wp2;go_ret;exact⟨rfl,rfl⟩
def mV c tb old{w}(e:JO w)(hl:tb<w.heap.size)(a:w.cell? (G tb 0)=some old)(b:w.frozen? (G tb 0)=false):
  C9 109 #[.iface 207 (.agg #[J c]),.iface 209 (Q9 tb)] w λg w'=>g=.returned (.bool true)/\w'=((((w.alloc<|.cells #[Q9 tb] 209).alloc<|.cells #[.pointer (some<|G 5 209),Q9 w.heap.size,.int .u64 150] 227).alloc<|.cells #[.pointer (some<|G 5 209),Q9 w.heap.size,.int .u64 150] 227).alloc<|.cells #[J c] 207).setCell (G tb 0) (J c):=by
 have u:=@run_callFunc_extern prog 145 _ (λargs=>ReflectliteValue.unpack (args.getD 0 (.tuple #[]))) func145 ou ou ou ou;have v:=@run_callFunc_extern prog 146 _ (ReflectliteValue.methodAny (ReflectliteValue.valueError "reflectlite.Value.Type" 0) (λt _ _ _=>ReflectliteType.toType t)) func146 ou ou ou ou;have x:=@run_callFunc_extern prog 147 _ (ReflectliteValue.method (ReflectliteValue.valueError "reflectlite.Value.IsNil" 0) ReflectliteValue.isNil) func147 ou ou ou ou;have h:=@run_callFunc_extern prog 261 _ (ReflectliteType.abiMethod λt=>do pure (.int .u8 (<-Rtype.kind t))) func261 ou ou ou ou;have i:=@run_callFunc_extern prog 301 _ (ReflectliteType.method ReflectliteType.elem) func301 ou ou ou ou;have j:=@run_callFunc_extern prog 302 _ (ReflectliteType.relation "Implements" ReflectliteType.implements_) func302 ou ou ou ou;have k:=@run_callFunc_extern prog 174 _ ReflectliteType.typeOf func174 ou ou ou ou;have l:=@run_callFunc_extern prog 299 _ (ReflectliteType.relation "AssignableTo" ReflectliteType.assignableTo) func299 ou ou ou ou;have m:=@run_callFunc_extern prog 175 _ (ReflectliteValue.method (ReflectliteValue.valueError "reflectlite.Value.Elem" 0) ReflectliteValue.elem) func175 ou ou ou ou;have n:=@run_callFunc_extern prog 176 _ ReflectliteValue.set func176 ou ou ou ou;have A:=YI;have a25:=YD;have v25:=iX;have f6:=iY;have f7:=iW;have o:=bL;have p:=bK;have q:=iT;have i25:=iU;obtain⟨f,r⟩:=o9 ((w.alloc (.cells #[Q9 tb] 209)).alloc (.cells #[.pointer (some (G 5 209)),Q9 w.heap.size,.int .u64 150] 227));have B:=bJ (y w 0) (G tb 0) ((w.alloc (.cells #[Q9 tb] 209)).alloc (.cells #[.pointer (some (G 5 209)),Q9 w.heap.size,.int .u64 150] 227)) oq;have d:=e.lt;have s:((w.alloc (.cells #[Q9 tb] 209)).alloc (.cells #[.pointer (some (G 5 209)),Q9 w.heap.size,.int .u64 150] 227)).cell? (G 0 0)=some aJ:=by
  rw[Hi _ _ (G 0 0) (by simp<;>omega),Hi _ _ (G 0 0) d];exact e
 have el:=bI (y w 0) (G tb 0) (((w.alloc<|.cells #[Q9 tb] 209).alloc<|.cells #[.pointer (some<|G 5 209),Q9 w.heap.size,.int .u64 150] 227).alloc<|.cells #[.pointer (some<|G 5 209),Q9 w.heap.size,.int .u64 150] 227) (by rw[Hi _ _ (y w 0) ot];simp);have st:=nL tb c old (((w.alloc<|.cells #[Q9 tb] 209).alloc<|.cells #[.pointer (some<|G 5 209),Q9 w.heap.size,.int .u64 150] 227).alloc<|.cells #[.pointer (some<|G 5 209),Q9 w.heap.size,.int .u64 150] 227) ot
  (by rw[Hi _ _ (G tb 0) ot,Hi _ _ (G tb 0) ot,Hi _ _ (G tb 0) hl];exact a)
  (by rw[World.frozen?_alloc_old _ _ (G tb 0) ot,World.frozen?_alloc_old _ _ (G tb 0) ot,World.frozen?_alloc_old _ _ (G tb 0) (Nat.ne_of_lt hl)];exact b)
 have sz:(((w.alloc<|.cells #[Q9 tb] 209).alloc<|.cells #[.pointer (some<|G 5 209),Q9 w.heap.size,.int .u64 150] 227).alloc<|.cells #[.pointer (some<|G 5 209),Q9 w.heap.size,.int .u64 150] 227).heap.size=w.heap.size+1+1+1:=oq;rw[sz]at st;go_enter func109,ntmps109;go_wp2;refine wp_loop_rounds 1 ?_;rw[rounds_succ];go_wp2;go_ret;exact⟨rfl,rfl⟩
end
def CB(c:Int):Value:=if c=0 then .nilIface else .iface 207 (.agg #[J c])
def VA c{w}(j:JO w):
  C9 61 #[CB c] w (R9 (J c) w):=by
 unfold CB;by_cases f:c=0
 .subst f;rw[C3 rfl];go_enter func61,ntmps61;go_wp2_with (go_at_call 109;refine(mW _ _).mono ?_;rintro e w1 ⟨rfl,rfl⟩);go_ret;exact⟨rfl,n9⟩
 rw[Cs f];clear f;have g:=j.lt;obtain⟨W,a⟩:=o9<|w.alloc<|.cells #[J 0] 207;have b:B9 w W:=by rw[a];exact(BE _ _).alloc (Be _) _
 have d:=j.below b g;have hl:w.heap.size<W.heap.size:=by rw[a];simp
 obtain⟨h,k⟩:W.cell? (y w 0)=some (J 0)/\W.frozen? (y w 0)=false:=by rw[a];simp[go_sem]
 have l:=O b;go_enter func61,ntmps61;go_wp2_with fail;rw[<-a];refine(mV c w.heap.size _ d hl h k).mono ?_;rintro e w1 ⟨rfl,h1⟩;have i:B9 w w1:=by
  rw[h1];refine NO (p:=y w 0) ?_ (Be _) _;exact(((l.alloc om _).alloc ot _).alloc ot _).alloc ot _
 have m:w1.cell? (y w 0)=some (J c):=by
  rw[h1];apply World.cell?_setCell_same (u:=J 0);rw[Hi _ _ (y w 0) ot,Hi _ _ (y w 0) ot,Hi _ _ (y w 0) ot,Hi _ _ (y w 0) hl];exact h
 clear h1 a h k d;go_wp2_with fail;go_ret;exact⟨rfl,i⟩
theorem vH{op}(h1:1<=op)(a:op<=9):(bt op 1!=0)=CV op/\(bt op 2!=0)=El op/\(bt op 8!=0)=(op==2||op==3||op==7):=by
 rcases(by omega:op=1\/op=2\/op=3\/op=4\/op=5\/op=6\/op=7\/op=8\/op=9)with rfl|rfl|rfl|rfl|rfl|rfl|rfl|rfl|rfl
 .rw[uN.2.1];decide
 .rw[uO.2.1];decide
 .rw[uP.2.1];decide
 .rw[uQ.2.1];decide
 .rw[uR.2.1];decide
 .rw[uS.2.1];decide
 .rw[uT.2.1];decide
 .rw[uU.2.1];decide
 rw[uV.2.1];decide
def bO c k n f s r w:(Instr.field 116 (KV c k n f s r) 0).run prog w=.ok (J c) w:=ou
theorem fC{a}(h:CA a=true)(b:a.op=7):Dg a.k=0:=by
 have h2:=(CL h).2.2.1;grind [CA,Dg]
def mY{a}(h:CA a=true)nt ns:IV a nt ns=if(bt a.op 1!=0)=true/\(nt:Int)<=a.t then 2 else if(bt a.op 2!=0)=true/\(ns:Int)<=a.site then 3 else if(bt a.op 8!=0)=true/\Dg a.k≠0 then 4 else 0:=by
 obtain⟨_,_,_,_,_,h1,b⟩:=CL h;grind [IV,vH,fC]
def Yw a(nt ns:Nat)w(H:nt<=100)(I:ns<=50):
  C9 107 #[Kz a,J nt,J ns] w (R9 (CB<|IV a nt ns) w):=by
 obtain⟨W,c,q,_⟩:=JQ w<|.cells (qf a) 51;have c0:W.cell? (y w 0)=some (J a.op):=by rw[c];simp[go_sem]
 obtain⟨c1,c2,c4,c5,c6,c7,p⟩:W.cell? (y w 1)=some (J a.t)/\W.cell? (y w 2)=some (J a.site)/\W.cell? (y w 4)=some (J a.k.kind)/\W.cell? (y w 5)=some (J a.k.num)/\W.cell? (y w 6)=some (F9 a.k.Af)/\W.cell? (y w 7)=some (.string a.k.str)/\W.cell? (y w 8)=some (J a.k.ref):=by rw[c];simp[go_sem]
 have hz:w.heap.size<W.heap.size:=by rw[c];simp
 have A:=O<|qj c0<|qj c1<|qj c2<|qj c4<|qj c5<|qj c6<|qj c7 p;have B:=O q;go_enter func107,ntmps107;go_wp2_with fail;rw[<-c];refine m9 (YV a _) λw1 d=>?_;rcases O (o8 B d),A0 hz d.size,(d.cell hz).trans A.1,O (d.block _ hz) with⟨f,m,c0,r⟩;cases hA:CA a
 .have g:Hid<|IV a nt ns=1:=O (by unfold IV;rw[C3 hA]);go_wp2_with fail;go_ret;exact⟨qg g,f⟩
 have g:=O<|mY hA nt ns;obtain⟨_,_,_,_,_,h1,S⟩:=CL hA;obtain⟨fn,L⟩:=T2 a.op om om;have M:=XE;go_wp2_with fail;refine qr w1 ?_;refine GC λK hK=>?_;go_simp;refine⟨_,λw' i=>qk i<|LP _,hK _ ?_⟩;clear hK K;refine N (h:=N (h:=?_));refine GC λK hK=>?_;go_simp;apply Exists.intro;refine qj (λw' i=>?_)<|hK _ ?_
 .rfl
 clear hK K;refine GC λK hK=>?_;go_simp;apply Exists.intro;refine qj (λw' i=>?_)<|hK _ ?_
 .rfl
 clear hK K;refine N (h:=?_);refine GS ?_;intro w2 j;rcases A0 m j.size,(j.block _ m).trans r,z A with⟨P,Dt,⟨_,c1,c2,c4,c5,c6,c7,p⟩⟩;rcases (As (a:=y w 1) Dt).trans c1,(As (a:=y w 2) Dt).trans c2,(As (a:=y w 4) Dt).trans c4,(As (a:=y w 5) Dt).trans c5,(As (a:=y w 6) Dt).trans c6,(As (a:=y w 7) Dt).trans c7,(As (a:=y w 8) Dt).trans p,O<|o8 f j,O (Ei a.k) with⟨c1,c2,c4,c5,c6,c7,p,b,s⟩;have Q:=bO;generalize C:(bt a.op 1!=0)=x1 at g;generalize D:(bt a.op 2!=0)=x2 at g;generalize E:(bt a.op 8!=0)=R at g;by_cases g1:x1=true/\(nt:Int)<=a.t
 .have e:=O<|g.trans<|C3 g1;obtain⟨rfl,g1⟩:=g1;go_wp2_with fail;go_ret;exact⟨qg e,b⟩
 have o:=O<|g.trans<|Cs g1;have u:x1=false\/(x1=true/\¬(nt:Int)<=a.t):=by
  cases x1
  .exact .inl rfl
  exact .inr ⟨rfl,λh=>g1 ⟨rfl,h⟩⟩
 by_cases g2:x2=true/\(ns:Int)<=a.site
 .have e:=O<|o.trans<|C3 g2;obtain⟨rfl,g2⟩:=g2;rcases u with rfl|⟨rfl,g1⟩;all_goals(go_wp2_with fail;go_ret;exact⟨qg e,b⟩)
 have l:=O<|o.trans<|Cs g2;have F:x2=false\/(x2=true/\¬(ns:Int)<=a.site):=by
  cases x2
  .exact .inl rfl
  exact .inr ⟨rfl,λh=>g2 ⟨rfl,h⟩⟩
 cases R
 .have e:=O<|l.trans<|Cs oq;rcases u with rfl|⟨rfl,g1⟩<;>rcases F with rfl|⟨rfl,g2⟩
  all_goals(go_wp2_with fail;go_ret;exact⟨qg e,b⟩)
 by_cases g3:Dg a.k=0
 focus
  have e:=O<|l.trans<|Cs (by simp[g3]);have d3:(Dg a.k !=0)=false:=by simp[g3]
 rotate_left
 focus
  have e:=O<|l.trans<|C3 ⟨rfl,g3⟩;have d3:(Dg a.k !=0)=true:=by simp[g3]
 all_goals
  rcases u with rfl|⟨rfl,g1⟩<;>rcases F with rfl|⟨rfl,g2⟩
  all_goals(go_wp2_with (go_at_call 135;refine m9 (F2 a.k.kind a.k.num a.k.Af a.k.str a.k.ref _) λw3 x=>?_;rw[z s]);go_ret;exact⟨qg e,o8 b x⟩)
structure Yq (w:Y) (s:AK) (B0:Nat) (Bk:Nat->Nat) (A:Ad) (x:Tb):Prop where
 nd:KA w s B0 Bk
 v:FA w A.va x.nv x.V
 d:Ea w A.la A.ia A.xa x.d
 tb:B2 w
def Yq.below{Bk}{A}(h:Yq w s B0 Bk A x)(hb:B9 w w'):Yq w' s B0 Bk A x:=⟨h.nd.below hb,h.v.below hb rfl,h.d.below hb,A1 _ _ h.tb hb⟩
def A6.sR{Bk}(h:A6 Z w c B0 vN vT vS vU Bk A s)(b:B2 w){t}(a:t<s.nt):Yq w s B0 Bk (A t)<|s.T t:=⟨h.nd,(h.rd t a).now.1,(h.rd t a).now.2,b⟩
def T6{Bk}{A}(hf:Aq s.nf s.F=0)(b:PO s x){k}(hk:Ky k):
  (AL Bk A x=.iface 194 (KC A x)/\∀w,Yq w s B0 Bk A x->C9 267 #[KC A x,GR k] w (R9 (GR<|Cg s.F x k) w))\/
  (∃p,AL Bk A x=.iface 197 (Cz p A x)/\∀w,Yq w s B0 Bk A x->C9 290 #[Cz p A x,GR k] w (R9 (GR<|Cg s.F x k) w)):=by
 rcases b.way with⟨h1,h2,h3⟩|⟨j,h1,h2,h3,h4,h5⟩
 .exact .inl ⟨C3 h1,λw a=>IE A x s.F a.tb h1 h3 b.wf b.small hk a.d⟩
 refine .inr ⟨Bk j,?_,λw a=>J6 A x j k a.nd hf h2 h1 h3 a.v⟩;rw[AL];rw[h1];rfl
theorem XF c k n f s r w:(Instr.field 116 (KV c k n f s r) 1).run prog w=.ok (V k n f s r) w:=ou
attribute [local go_sem] XF
def Iu(c g ab t:Nat)(vT a:V9)(k:Vl)(W:Y):Prop:=W.cell? (G c 1)=some vT/\W.cell? (G g t)=some a/\W.cell? (G ab 1)=some (J (t:Int))/\W.cell? (G ab 4)=some (J k.kind)/\W.cell? (G ab 5)=some (J k.num)/\W.cell? (G ab 6)=some (F9 k.Af)/\W.cell? (G ab 7)=some (.string k.str)/\W.cell? (G ab 8)=some (J k.ref)
def Iu.keep{t}{b}(h:Iu c g ab t vT b k w)(hc:w'.heap[c]?=w.heap[c]?)(d:w'.heap[g]?=w.heap[g]?)(a:w'.heap[ab]?=w.heap[ab]?):Iu c g ab t vT b k w':=by
 obtain⟨h1,h2,h3,h4,h5,e,f,i⟩:=h;exact⟨(As hc).trans h1,(As d).trans h2,(As a).trans h3,(As a).trans h4,(As a).trans h5,(As a).trans e,(As a).trans f,(As a).trans i⟩
def gL{Bk}(a:Ac)t{w}(r:A6 Z w c B0 vN vT vS vU Bk A s)(hf:Aq s.nf s.F=0)(X:PO s<|s.T t)(hT:B2 w)(et:a.t=t)(ht:t<s.nt)(ad:s.nt<=100)(hk:Ky<|DA a.k):
  C9 138 #[Q9 c,Kz a] w (R9 (.tuple #[Hk (GI<|Cg s.F (s.T t)<|DA a.k),CB 0]) w):=by
 obtain⟨g,C,hv,D,ae,u,E⟩:=r.CU ht;subst hv;obtain⟨W,hW,i,hA,hR,hz⟩:=boxes w a;have H:=r.lt;have I:=(r.sR hT ht).below i;have j:∀n,AL Bk (A t) (s.T t)=n->Iu c g w.heap.size t (S9 g s.nt C) n a.k W.drew:=λn e=>by
  obtain⟨a0,a1,a2,a3,a4,a5,a6,a7,a8,a9⟩:=hA.all;rw[et]at a1;exact⟨(i.cell (p:=G c 1) H).trans r.cells.2.1,(i.cell (p:=G g t) D).trans<|u.trans<|by rw[e],a1,a4,a5,a6,a7,a8⟩
 have L:=O j;have M:=O<|T6 (B0:=B0) (Bk:=Bk) (A:=A t) hf X hk;have af:=hz;clear r hA j hf X hT hk u E et;go_enter func138,ntmps138;go_wp2_with fail;rw[<-hW];clear hW;rcases z M with⟨d,P⟩|⟨p,d,P⟩
 case' inl=>refine Dr (Iu c g w.heap.size t (S9 g s.nt C) (.iface 194<|KC (A t)<|s.T t) a.k) ou ?_
 case' inr=>refine Dr (Iu c g w.heap.size t (S9 g s.nt C) (.iface 197<|Cz p (A t)<|s.T t) a.k) ou ?_
 all_goals
  have j:=z L _ d;have HC:=O P;clear P d;change wpAnyH _ _ _ _ _ _ _ _ (World.drew _);refine tz 0 (h:=tz 1 (h:=tz 2 (h:=tz 3 (h:=tz 4 (h:=tz 5 (h:=tz 6 (h:=tz 7 (h:=tz 8 (h:=tz 9 (h:=tz 10 (h:=tz 13 (h:=?_))))))))))));refine tz 14 (h:=?_);refine ry 11 λK hK=>?_;go_simp;refine m9 (F2 a.k.kind a.k.num a.k.Af a.k.str a.k.ref _) λw2 b=>?_;have b:B9 W w2:=AaD (BE _ _).drew b;have o:=j.keep (b.block c om) (b.block g om)<|b.block w.heap.size om;rw[Ei];obtain⟨n,d⟩:=o9<|DA a.k;obtain⟨kc,v⟩:=o9<|Dg a.k;rw[<-d]at HC ⊢;rw[<-v];have Q:=O d;clear d v;refine hK.out _ _ o λ_=>?_;clear hK K j;refine tz 12 (h:=?_);refine ry 15 λK hK=>?_;go_simp;refine(HC _<|I.below b).mono ?_;rintro e w3 ⟨rfl,f⟩;have f:=o8 b f;have x:=o.keep ((f.block c om).trans (b.block c om).symm) ((f.block g om).trans (b.block g om).symm)<|(f.block w.heap.size om).trans (b.block w.heap.size om).symm;obtain⟨R,q⟩:=o9<|Cg s.F (s.T t) n;rw[<-q];have S:=O q;clear q;obtain⟨w4,m,l⟩:=BB (hR.below f om)<|GI R;have B:=x.keep (l.other c om) (l.other g om)<|l.other w.heap.size om;have U:=O m;refine hK.out _ _ x λ_=>?_;clear hK K o m;refine tz 16 (h:=?_);refine ry 17 λK hK=>?_;refine Bd rfl rfl _ U ?_;refine hK.out _ _ B λag=>?_;clear hK K;refine tz 18 (h:=?_);refine Fj ?_;have V:=O<|l.Bw;go_wp2_with fail;refine GQ results138 underlying45 V ⟨(by rw[z S,z Q];rfl),?_⟩;exact l.below (o8 i f) om
abbrev sT:Array Value:=#[.bool false,J 0,J 0,F9 0,E9,J 0,J 0,J 0,F9 0,E9,J 0,J 0]
def sO(b:Bool)(p:Pr):List Value:=.bool b::De p
def gB w:(sizeOf 179).run prog w=.ok 12 w:=ou
def iZ b p:∀u∈sO b p,u.oneCell'=true:=by
 intro u h;simp only[sO,De,List.mem_cons,AaI,or_false]at h;rcases h with rfl|rfl|rfl|rfl|rfl|rfl|rfl|rfl|rfl|rfl|rfl|rfl<;>rfl
def PA(h:w.heap[q]?=some (.cells sT 179 (0,0)))b p:∃w',(Instr.storeAt 179 (Q9 q)<|mK b p).run prog w=.ok () w'/\Bj w w' q (sO b p).toArray 179:=
 BM (vs:=sO b p) gB h rfl rfl (iZ b p) rfl
def Lm A t n{w}(u:B2 w)(hA:Ea w A.la A.ia A.xa t.d)(v:Small t.d)(g:S4 t.d)(B:BI t.d (hD t.d)=0):C9 265 #[KC A t,J n] w<|R9 (mK (K5 t.d n).1 (K5 t.d n).2) w:=by
 obtain⟨W,C,a,_,_,c⟩:=S7 w (.cells #[.slice A.va t.nv A.vc,.slice A.la t.d.n A.lc,.slice A.ia t.d.m A.ic,.slice A.xa t.d.x A.xc,J t.d.used,J t.d.live,J t.d.turns] 194)<|.cells sT 179;rcases Ah c,O<|VO A.lc A.ic A.xc n (A1 _ _ u a) (hA.below a) v g B,O a,O c with⟨k,D,h,l⟩;clear hA u v g a c B;go_enter func265,ntmps265;go_wp2_with fail;rw[<-C];clear C;refine D.mono ?_;rintro e w1 ⟨rfl,f⟩;obtain⟨x,o⟩:=o9<|K5 t.d n;rw[<-o];have E:=O o;obtain⟨b,p⟩:=x;obtain⟨w2,i,j⟩:=PA ((f.block _ k).trans l) b p;rcases O i,O<|o8 h f,O j with⟨q,r,s⟩;clear f i D o;go_wp2_with (refine Ag rfl rfl _ q ?_);refine FD results265 underlying179 j.Bw ⟨(by rw[<-z E];rfl),?_⟩;exact s.below r om
def Yj w:(sizeOf 166).run prog w=.ok 11 w:=ou
def Fw{t}(hs:∀w,(sizeOf t).run prog w=.ok n w)(w:Y){old vs:List Value}{ty}(hl:vs.length=old.length)(hn:vs.length=n)(h1:∀v∈vs,v.oneCell'=true){v:V9}(b:v.cells=vs.toArray):
  (Instr.storeAt t (Q9 w.heap.size) v).run prog (w.alloc<|.cells old.toArray ty)=.ok () (w.alloc<|.cells vs.toArray ty):=by
 have h:=EK (P:=prog) w ty vs [] old hl h1;unfold Instr.storeAt storeVar;simp only[Aad,X9]at h;have a:∀w',(Instr.sureAddr<|Q9 w.heap.size).run prog w'=.ok (y w 0) w':=λw'=>oe;simp only[AaU];simp[a,hs,b,hn];exact h
def VP:(prog.info? 166).map (·.size)=some 11:=ou
def PB(w:Y)p:(Instr.storeAt 166 (Q9 w.heap.size)<|.agg (De p).toArray).run prog (w.alloc<|.cells qE.toArray 166)=.ok () (w.alloc<|.cells (De p).toArray 166):=
 Fw Yj w (by rfl) (by rfl) (Ff p) rfl
def Ut{p}(h:Ex w g (i*11) p):w.rangeAt g (i*11)<|De p:=by
 intro j v a;have hj:j<11:=(So.1 a).1;obtain⟨c0,c1,c2,c3,c4,c5,c6,c7,c,d,b⟩:=h;rcases j with _|_|_|_|_|_|_|_|_|_|_|j;all_goals first|(cases a;assumption)|omega
def RX(s:AK)(j:Nat)(t:Tb)(n:Int):Bool:=decide (0<=(⟨nf s.F j,Gl s j t,0⟩:Pl).G6 n)
def kB{n}(h:∀q,q<Q.n->¬n<(Q.P q).turn):decide (0<=Q.G6 n)=false/\Q.next n=⟨M8,M8,0⟩:=by
 grind [Pl.G6,Jp,Pl.next]
def kA{n}{k}(hk:k<Q.n)(h:∀q,q<k->¬n<(Q.P q).turn)(h2:n<(Q.P k).turn):decide (0<=Q.G6 n)=true/\Q.next n=Q.P k:=by
 have e:Q.G6 n=k:=by
  rw[Pl.G6];rcases KH (λj=>decide (n<(Q.P j).turn)) Q.n 0 with e|⟨j,e,h3,h4,h5,a⟩
  .have:=GZ e k (W9 _) om;simp at this;omega
  grind
 grind [Pl.next]
def Nc A t{s}{b0}{B}j n{w}(hN:KA w s b0 B)(hf:Aq s.nf s.F=0)(hj:j<s.nf)(X:t.nv=nf s.F j)(hV:FA w A.va t.nv t.V):
  C9 288 #[Cz (B j) A t,J n] w (R9 (mK (RX s j t n)<|(⟨nf s.F j,Gl s j t,0⟩:Pl).next n) w):=by
 obtain⟨W,hW,H,aj,ak,b1⟩:=S7 w (.cells #[.slice A.va t.nv A.vc,.slice A.la t.d.n A.lc,.slice A.ia t.d.m A.ic,.slice A.xa t.d.x A.xc,J t.d.used,J t.d.live,J t.d.turns,Q9 (B j)] 197)<|.cells sT 179;obtain⟨Z,M,ae,af⟩:=hN;rcases O (Jg s b0 B Z M A t j (ae.below H) af hf hj (hV.below H rfl) X),IB hf hj,o9 (nf s.F j) with⟨HC,ad,⟨m,hm⟩⟩;rw[<-hm]at HC ad;have HM:=O hm;obtain⟨P,hP⟩:=o9<|Gl s j t;rw[<-hP]at HC;have HP:=O hP;have ag:=O b1;clear ae af hf hj X hV hm hP ak b1;go_enter func288,ntmps288;go_wp2_with fail;rw[<-hW];clear hW;go_wp2_with (first|(refine Aal rfl 197 _ rfl w.heap.size rfl _ _ _ _ ay underlying197 rfl MA ?_));refine HC.mono ?_;rintro e w1 ⟨⟨v,rfl,C⟩,l⟩;obtain⟨va,vc,rfl⟩:=AE C;have l1:w.heap.size+1<w1.heap.size:=oS l.size;have ao:=O<|(l.block _ om).trans ag;have D:=H.trans<|l.mono om;clear l HC ag aj;go_wp2_with fail;go_loopw [10] (λi wr=>∃(k:Nat),k<=m/\i=J k/\B9 w1 wr/\∀q,q<k->¬n<(P q).turn) λi _=>m-(intOf i).toNat
 .exact⟨0,om,rfl,BE _ _,λq hq=>om⟩
 obtain⟨k,hk,rfl,hb,a⟩:=hrel;rcases hb.size,O<|(hb.block _ l1).trans ao,o8 D hb with⟨az,I,o⟩;have lr:w.heap.size+1<wr.heap.size:=om;by_cases K:k<m
 case neg=>
  have ah:k=m:=om;obtain⟨e1,e2⟩:=kB (Q:=⟨nf s.F j,Gl s j t,0⟩) (n:=n) (λq hq=>by
   have:=a q (by rw[ah,z HM];exact hq);rw[z HP]at this;exact this)
  have HR:=O<|qj e1 e2;obtain⟨w2,c,f⟩:=PA I false ⟨M8,M8,0⟩;have L:=O c;have R:=O f;clear hb a K e1 e2 c;subst ah;go_wp2_with (refine Ag rfl rfl _ L ?_);refine FD results288 underlying179 f.Bw ⟨(by unfold RX;rw[(z HR).1,(z HR).2];rfl),?_⟩;exact R.below o om
 obtain⟨g,cp,hv,aM,aq,_,ai,_⟩:=BP.form C om;cases hv;have S:=Ut<|(ai k K).keep λq=>hb.cell aq;obtain⟨p,hp⟩:=o9<|P k;rw[<-hp]at S;have T:=O hp;have E:=O a;clear a ai hp;go_upto_region 4 with(first|(refine wpList_load_mid rfl 166 _ rfl g (k*11) rfl (De p) _ S underlying166 rfl VP ?_)|(refine Ag rfl rfl _ (PB wr p) ?_))
 obtain⟨w4,r⟩:=o9<|wr.alloc<|.cells (De p).toArray 166;rw[<-r];have u:B9 wr w4:=by rw[r];exact(BE _ _).alloc (Be _) _
 have U:w4.heap[wr.heap.size]?=some (.cells (De p).toArray 166 (0,0)):=by rw[r];exact DD _ _
 have t10:w4.cell? (y wr 10)=some (J p.turn):=by rw[MM w4 _ _ _ _ _ U];rfl
 have ar:Hid<|w4.heap[wr.heap.size]?=some (.cells #[J p.key.kind,J p.key.num,F9 p.key.Af,.string p.key.str,J p.key.ref,J p.val.kind,J p.val.num,F9 p.val.Af,.string p.val.str,J p.val.ref,J p.turn] 166 (0,0)):=O U;rcases o8 o u,o8 hb u,O ((u.block _ lr).trans I) with⟨au,av,aw⟩;clear r u U S I o;by_cases b:n<p.turn
 .have hd:decide (n<p.turn)=true:=by simp[b]
  obtain⟨e1,e2⟩:=kA (Q:=⟨nf s.F j,Gl s j t,0⟩) (n:=n) (k:=k) (by rw[<-z HM];exact K) (λq hq=>by
   have:=z E q hq;rw[z HP]at this;exact this) (by have h:=b;rw[z T,z HP]at h;exact h)
  have e3:(⟨nf s.F j,Gl s j t,0⟩:Pl).P k=p:=by rw[z T,z HP]
  have HR:=O<|qj e1<|e2.trans e3;obtain⟨w2,c,f⟩:=PA aw true p;have L:=O c;have R:=O f;clear e1 e2 e3 c b;go_wp2_with (first|(refine Aal rfl 166 _ rfl wr.heap.size rfl _ _ _ _ ar underlying166 rfl VP ?_)|(refine Ag rfl rfl _ L ?_));refine FD results288 underlying179 f.Bw ⟨(by unfold RX;rw[(z HR).1,(z HR).2];rfl),?_⟩;exact R.below au om
 have hd:decide (n<p.turn)=false:=by simp[b]
 have ax:=O b;clear b;go_wp2;go_roundw
 .exact⟨k+1,om,ov,av,λq hq=>by
  by_cases e:q=k
  .subst e;have h:=z ax;rw[z T]at h;exact h
  exact E q om⟩
 exact ow
abbrev D0:Array Value:=#[N9,N9,N9,J 0,J 0,J 0]
def kW w:(sizeOf 103).run prog w=.ok 6 w:=ou
def UU(hb:w.heap[b]?=some (.cells D0 103 (0,0)))a0 a1 a2 n0 a c c0 c1 c2 d:∃w',(Instr.storeAt 103 (Q9 b)<|lJ (.slice a0 n0 c0) (.slice a1 a c1) (.slice a2 c c2) d).run prog w=.ok () w'/\Bj w w' b #[.slice a0 n0 c0,.slice a1 a c1,.slice a2 c c2,J d.used,J d.live,J d.turns] 103:=
 BM (old:=D0.toList) (vs:=[.slice a0 n0 c0,.slice a1 a c1,.slice a2 c c2,J d.used,J d.live,J d.turns]) kW hb rfl rfl oh rfl
def fM:Small kD:=⟨oo,oo,oo⟩
def AG.rM(h:AG w bk r0 r1 R2 E S d){q}{cs}(hq:w.heap[q]?=some (.cells cs 166 (0,0)))(hb:bk<q):¬mM bk r0 R2 q:=by
 rintro(e|e|e)
 .omega
 .obtain⟨cur,hc,_⟩:=AV h.log e;rw[hc]at hq;cases hq
 obtain⟨cur,hc,_⟩:=AV h.slots (show(Value.slice (some<|G R2 0) d.x d.x).ownBlock=some q by rw[e];rfl);rw[hc]at hq;cases hq
def Vx A t{s}{b0}{B}j{w}(hT:B2 w)(hN:KA w s b0 B)(hf:Aq s.nf s.F=0)(hj:j<s.nf)(ae:t.nv=nf s.F j)(hV:FA w A.va t.nv t.V)(ag:∀i,i<t.nv->J2 (t.V i)=true):
  C9 184 #[Cz (B j) A t] w λe w'=>(∃v0 v1 v2,e=.returned (lJ v0 v1 v2<|AA s.F j t.V t.nv)/\DV (AA s.F j t.V t.nv) w' v0 v1 v2 w.heap.size w'.heap.size)/\B9 w w':=by
 obtain⟨W,hW,ah,cd,a7,b1⟩:=S7 w (.cells #[.slice A.va t.nv A.vc,.slice A.la t.d.n A.lc,.slice A.ia t.d.m A.ic,.slice A.xa t.d.x A.xc,J t.d.used,J t.d.live,J t.d.turns,Q9 (B j)] 197)<|.cells D0 103;obtain⟨Z,M,a8,bb⟩:=hN;have HC:Hid<|∀w2,B9 W w2->C9 197 #[Cz (B j) A t] w2 λe w'=>(∃v,e=.returned v/\BP w' w2.heap.size v t.nv (Gl s j t))/\B9 w2 w':=O (λw2 h2=>by
  have l:=ah.trans (h2.mono om);rw[ae];exact Jg s b0 B Z M A t j (a8.below l) bb hf hj (hV.below l rfl) ae)
 have cb:t.nv<=12:=by rw[ae];exact IB hf hj
 have ai:Hid<|∀i,i<=t.nv->RB s.F j t.V i (AA s.F j t.V i):=O λi hi=>FQ hf hj (λq hq=>ag q om) i om;have az:Hid<|∀k,k<t.nv->AF (BL<|DK s.F j k) (BL<|DK s.F j k)=true/\Ky (BL<|DK s.F j k)/\(t.V k).ok=true/\(t.V k).kind≠0/\(∀i,i<(AA s.F j t.V k).n->((AA s.F j t.V k).L i).turn≠0->AF ((AA s.F j t.V k).L i).key (BL<|DK s.F j k)=false)/\Aw (AA s.F j t.V k) (BL<|DK s.F j k) (hN<|BL<|DK s.F j k)=-1:=O (λk hk=>by
  have hl:=(ai k om).ls;have hky:=GK<|G3 hf hj (show k<nf s.F j by omega);have hv':(t.V k).ok=true/\(t.V k).kind≠0:=by simpa[J2]using ag k hk
  refine⟨B6.refl _ hky,hky,hv'.1,hv'.2,hl.no hf hj om,?_⟩;rcases hl.inv.i0.place B6 hky with⟨q,h1,h2,h3,h4⟩|⟨h1,h2⟩
  .have:=hl.place hf hj (show k<nf s.F j by omega);omega
  exact h2)
 rcases A1 _ _ hT ah,hT.sz,O a7,O b1,o9 (Gl s j t) with⟨br,cg,bc,bt,⟨P,hP⟩⟩;rw[<-hP]at HC;have HP:=O hP;clear a8 bb hf hj ae hV hP a7 b1 ag hT;go_enter func184,ntmps184;go_wp2_with fail;rw[<-hW];clear hW;go_wp2_with fail;refine(Ii 0 0 0 (oR W) fM (Sq (K:=Ky) (hf:=hN)).i0.d3 (Sq (K:=Ky) (hf:=hN)).i0.d4).mono ?_;rintro e w2 ⟨⟨bk,R0,R1,R2,E,S,rfl,bd,aj⟩,l⟩;have ak:=AG.X1 bd aj fM;have ch:=aj.gb;rcases O ((l.block _ om).trans bc),l.size,ak.lt with⟨bf,z2,cj⟩;clear bd aj bc;go_wp2_with (first|(refine Aal rfl 197 _ rfl w.heap.size rfl _ _ _ _ bf underlying197 rfl MA ?_));refine(HC _ l).mono ?_;rintro e w3 ⟨⟨v,rfl,r⟩,H⟩;obtain⟨va,vc,rfl⟩:=AE r;have bu:=ak.below H;have aM:=ah.trans<|(l.trans<|H.mono om).mono om;rcases l.trans (H.mono om),H.size,O r.lt with⟨I,z3,bw⟩;clear H HC bf ak l;go_wp2_with fail;go_loopw [11] (λi wr=>∃(k:Nat) (r0 r1:V9) (R2:Nat) (E S:Nat->Nat),k<=t.nv/\i=J k/\AG wr bk r0 r1 R2 E S (AA s.F j t.V k)/\Below bk w3 wr/\∀q,(Value.slice va t.nv vc).ownBlock=some q->wr.heap[q]?=w3.heap[q]?) λi _=>t.nv-(intOf i).toNat
 .exact⟨0,_,_,_,_,_,om,rfl,bu,BE _ _,λ_ _=>rfl⟩
 obtain⟨k,r0,r1,bx,Ek,Sk,hk,rfl,Q,hb,C⟩:=hrel;have ck:=hb.size;by_cases ao:k<t.nv
 case neg=>
  have bg:k=t.nv:=om;have f:=z ai k hk;have hI:=f.ls.inv;have bh:=hI.small (by rw[f.m];omega);have bz:=O<|(hb.block (w.heap.size+1) om).trans<|(I.block _ om).trans bt;have b2:=aM.trans<|hb.mono om;have R:=O Q;clear hb C Q f ao;obtain⟨D,hD⟩:=o9<|AA s.F j t.V k;rw[<-hD]at R hI bh;have HD:Hid<|AA s.F j t.V t.nv=D:=O (by rw[hD,bg]);rw[bg];clear hD;go_wp2_with fail;refine(Tq R bh (λj hj=>by
   rcases hI.i0.ints j hj with e|e<;>omega) (λj hj=>by
   rcases hI.i0.idx.range j hj with e|e|⟨e1,e2,_⟩
   .exact .inl e
   .exact .inr (.inl e)
   exact .inr (.inr ⟨e1,om⟩))).mono ?_
  rintro e w6 ⟨⟨u0,u1,u2,rfl,bj⟩,aq⟩;obtain⟨ua,uc,ub,ud,ue,uf,e0,e1,e2,-⟩:=bj.at;subst e0 e1 e2;obtain⟨w7,bm,o⟩:=UU ((aq.block _ om).trans bz) ua ub ue D.n D.m D.x uc ud uf D;rcases O bm,AZ o 0 _ rfl,AZ o 1 _ rfl,AZ o 2 _ rfl,AZ o 3 _ rfl,AZ o 4 _ rfl,AZ o 5 _ rfl with⟨b3,c0,c1,c2,c3,c4,c5⟩;have b4:=b2.trans<|aq.mono om;clear aq bm;go_wp2_with (refine Ag rfl rfl _ b3 ?_);refine GO (v:=lJ (.slice ua D.n uc) (.slice ub D.m ud) (.slice ue D.x uf) D) (by simp[results,results184,go_sem,c0,c1,c2,c3,c4,c5]) rfl ⟨⟨_,_,_,qg HD,?_⟩,?_⟩
  .rw[z HD];refine DV.wide (DV.keep bj λb hb _=>o.other b om) om<|by rw[o.size];exact Be _
  exact o.below b4 om
 obtain⟨g,cp,hv,cl,cm,_,bn,_⟩:=BP.form r om;cases hv;have T:=C g rfl;obtain⟨cc,U,_⟩:=AV r rfl;have ar:=T.trans U;rcases Ah ar,Ut<|(bn k ao).keep λq=>As (a:=G g q) T,o9 (P k) with⟨b5,au,⟨p,hp⟩⟩;rw[<-hp]at au;have bp:Hid<|p.key=BL (DK s.F j k)/\p.val=t.V k:=O (by rw[hp,z HP];exact⟨rfl,rfl⟩);rcases O Q,O C,O ar,Q.lt with⟨R,a6,b6,cn⟩;clear C bn hp Q T ar U;go_upto_region 5 with(first|(refine wpList_load_mid rfl 166 _ rfl g (k*11) rfl (De p) _ au underlying166 rfl VP ?_)|(refine Ag rfl rfl _ (PB wr p) ?_))
 obtain⟨w4,af⟩:=o9<|wr.alloc<|.cells (De p).toArray 166;rw[<-af];have X:B9 wr w4:=by rw[af];exact(BE _ _).alloc (Be _) _
 have c:w4.heap[wr.heap.size]?=some (.cells (De p).toArray 166 (0,0)):=by rw[af];exact DD _ _
 have q0:w4.cell? (y wr 0)=some (J p.key.kind):=by rw[MM w4 _ _ _ _ _ c];rfl
 have q1:w4.cell? (y wr 1)=some (J p.key.num):=by rw[MM w4 _ _ _ _ _ c];rfl
 have q2:w4.cell? (y wr 2)=some (F9 p.key.Af):=by rw[MM w4 _ _ _ _ _ c];rfl
 have q3:w4.cell? (y wr 3)=some (.string p.key.str):=by rw[MM w4 _ _ _ _ _ c];rfl
 have q4:w4.cell? (y wr 4)=some (J p.key.ref):=by rw[MM w4 _ _ _ _ _ c];rfl
 have q5:w4.cell? (y wr 5)=some (J p.val.kind):=by rw[MM w4 _ _ _ _ _ c];rfl
 have q6:w4.cell? (y wr 6)=some (J p.val.num):=by rw[MM w4 _ _ _ _ _ c];rfl
 have q7:w4.cell? (y wr 7)=some (F9 p.val.Af):=by rw[MM w4 _ _ _ _ _ c];rfl
 have q8:w4.cell? (y wr 8)=some (.string p.val.str):=by rw[MM w4 _ _ _ _ _ c];rfl
 have q9:w4.cell? (y wr 9)=some (J p.val.ref):=by rw[MM w4 _ _ _ _ _ c];rfl
 clear af c au;have ad:Hid<|C9 194 #[Q9 bk,V p.key.kind p.key.num p.key.Af p.key.str p.key.ref,V p.val.kind p.val.num p.val.Af p.val.str p.val.ref] w4 λe w'=>((∃u,e=.returned u)/\∃av aw ax E2 S',AG w' bk av aw ax E2 S'<|AA s.F j t.V<|k+1)/\KX (mM bk r0 bx) bk w4 w':=O (by
  obtain⟨p1,p2,p3,p4,p5,p6⟩:=z az k ao;have f:=z ai k hk;have b7:B2 w4:=by
   have h1:Below 5 W w4:=((I.mono om).trans<|hb.mono om).trans<|X.mono om;exact br.below h1<|Be _
  have h:=Yc A1 B6 Nn (λa b ha hb=>ha.below hb om) (t.V k) b7 (R.below X) (f.ls.inv.small (by rw[f.m];omega)) (by rw[f.m];omega) f.ls.inv p2 p2.1 p3 ⟨λe=>absurd e p4,λe=>absurd e.1 (show¬(4:Int)=2 by decide)⟩;rw[(z bp).1,(z bp).2];exact h.mono λe w' q=>⟨q.1,q.2.mono λb _ h=>h p6 (λh=>by obtain⟨h1,h2⟩:=h;rw[f.live,f.n]at h2;omega) rfl⟩)
 go_wp2_with fail
 refine ad.mono ?_;rintro e w5 ⟨⟨⟨uu,rfl⟩,av,aw,ax,E2,S2,b8⟩,ay⟩;have b9:=(hb.trans<|X.mono om).trans ay.CX;have ca:Hid<|∀q,(Value.slice (some<|G g 0) t.nv vc).ownBlock=some q->w5.heap[q]?=w3.heap[q]?:=O (λq e=>by
  cases e;have h4:=X.block g b5;have bq:=h4.trans b6;exact(ay.Bw g (Ah bq) ((R.below X).rM bq (oS (z bw)))).trans (h4.trans (a6 g rfl)))
 clear ay q0 q1 q2 q3 q4 q5 q6 q7 q8 q9 ad;go_wp2;go_roundw
 .exact⟨k+1,av,aw,ax,E2,S2,om,ov,b8,b9,ca⟩
 exact ow
def PR.of(h:BW w B v n f):PR f n w v B w.heap.size:=by
 have b:=h.lt;obtain⟨hl,⟨c,d⟩|⟨g',cap,cur,c,hb,a,h1,h2,h3,h4⟩⟩:=h
 .exact .inl ⟨d,c⟩
 subst c;refine .inr ⟨g',cap,cap*5,λj=>(cur[j]?).getD undef,rfl,hb,(b g' rfl).2,⟨cur,a,h3,λi hi=>by simp[UP (show i<cur.size by omega)]⟩,om,λj hj=>?_⟩;have h5:=SZ (f:=f) (n:=n) (i:=j/5) (j:=j%5) om om;rw[show j/5*5+j%5=j by omega,<-h4,List.getElem?_take,C3 hj,Array.getElem?_toList]at h5;show(cur[j]?).getD undef=_;rw[h5];rfl
def JX.news{a:Option Addr}{f}(h:JX w a n f):n=0\/∃d,a=some d/\∀j u,(pL f n)[j]?=some u->w.cell? (d.add j)=some u:=by
 rcases h with h|⟨b,off,e,g,hc⟩
 .exact .inl h
 refine .inr ⟨_,e,λj u hu=>?_⟩;have c:((G b off):Addr).add j=(G b<|off+j):=by unfold Addr.add;split<;>simp_all
 rw[c];have hj:j<n*11:=by grind [JX,pL,DN]
 obtain⟨i,r,hi,k,e⟩:∃i r,i<n/\r<11/\j=i*11+r:=⟨j/11,j%11,om,om,om⟩;subst e;rw[L5 hi k]at hu;obtain⟨c0,c1,c2,c3,c4,c5,c6,c7,m,o,l⟩:=hc i hi;rw[<-Nat.add_assoc];rcases r with _|_|_|_|_|_|_|_|_|_|_|r;all_goals first|(cases hu;assumption)|omega
def JP.news{a:Option Addr}{f}(h:JP w a n f):n=0\/∃c,a=some c/\∀j u,(iL f n)[j]?=some u->w.cell? (c.add j)=some u:=by
 rcases h with h|⟨b,off,e,g,hc⟩
 .exact .inl h
 refine .inr ⟨_,e,λj u hu=>?_⟩;have d:((G b off):Addr).add j=(G b<|off+j):=by unfold Addr.add;split<;>simp_all
 grind [JP,iL,CK,Kk]
def cF f n:∀u∈iL f n,u.oneCell'=true:=by
 intro u hu;obtain⟨j,hj,rfl⟩:=List.getElem_of_mem hu;have a:j<n:=by rwa [CK]at hj
 have:=Kk (f:=f) a;rw[List.getElem?_eq_getElem hj]at this;rw[Aah this];rfl
def Jv(hb:Below B w W)(b:B<=W.heap.size)(a:W.grownBy w' none):Below B w w':=⟨a.os.trans hb.os,a.tape.trans hb.tape,a.output.trans hb.output,GP hb.size a.size,λk hk=>(a.block k om oq).trans<|hb.block k hk⟩
def rD:(prog.info? 103).map (·.size)=some 6:=ou
def RR{la:Option Addr}lc{ia:Option Addr}ic{xa:Option Addr}xc{d}{w}(hD:Ea w la ia xa d)(hS:Small d):
  C9 276 #[Dv la lc ia ic xa xc d] w λe w'=>(∃v0 v1 v2,e=.returned (lJ v0 v1 v2 d)/\DV d w' v0 v1 v2 w.heap.size w'.heap.size)/\B9 w w':=by
 rcases ON EF,ON Np,hS.n,hS.m,hS.x,S7 w (.cells #[.slice la d.n lc,.slice ia d.m ic,.slice xa d.x xc,J d.used,J d.live,J d.turns] 103) (.cells D0 103) with⟨⟨i0,bg,bh,bj,bk⟩,⟨j0,U,V,Z,ag⟩,hn,hm,hx,⟨W,hW,ah,ai,b0,b1⟩⟩;have bm:=O<|JX.news<|hD.log.below ah rfl;have aj:=O<|qj b0 b1;clear b0 b1 hS;go_enter func276,ntmps276;go_upto_region 2 with(at_builtin;rw[<-hW];refine CF rfl _ _ 101 rfl w.heap.size 166 i0 PZ 11 104 underlying101 bg bh bj bk rfl oo rfl la d.n lc (pL d.L d.n) rfl (DN _ _) bm (dL _ _) od om om (w.heap.size+1+1) ai ?_;intro a1 c1 w1 l h o;have f:=(h.block w.heap.size om oq).trans aj.1;have K:=(h.block (w.heap.size+1) om oq).trans aj.2;have x0:w1.cell? (y w 0)=some (.slice la d.n lc):=(by simp[World.cell?,f]);have xf:w1.frozen? (y w 0)=false:=(by simp[World.frozen?,f]);have l0:=Ah f;have ak:=O<|Jv ah om h;have ao:=O l;have Q:=O o;have j:=O<|qj f K;clear h l o f K)
 obtain⟨w2,p⟩:=o9<|w1.setCell (y w 0)<|.slice a1 d.n c1;rw[<-p];have o2:∀k,k≠w.heap.size->w2.heap[k]?=w1.heap[k]?:=λk hk=>by rw[p];exact At _ _ _ _<|by exact hk
 have e2:w2.heap[w.heap.size]?=some (.cells #[.slice a1 d.n c1,.slice ia d.m ic,.slice xa d.x xc,J d.used,J d.live,J d.turns] 103 (0,0)):=by rw[p];exact(Lo _ _ _ _ _ _ j.1).trans oq
 have f2:=(o2 (w.heap.size+1) om).trans j.2;have E:B9 w w2:=by rw[p];exact ak.setCell (Be _) _
 have ad:=Ah j.2;have R:=O<|Ab ao λq e=>o2 q<|oS<|z Q q e;have aq:∀q,(Value.slice a1 d.n c1).ownBlock=some q->w.heap.size+1<q/\q<w2.heap.size:=λq e=>⟨oS<|z Q q e,(R.lt q e).2⟩;have ar:=O<|JP.news<|hD.ints.below E rfl;have y1:w2.cell? (y w 1)=some (.slice ia d.m ic):=by simp[World.cell?,e2]
 rcases E.size,O<|qj e2 f2,O aq with⟨S,i,r⟩;clear p o2 e2 f2 ad aq x0 xf l0 j ao ak Q ai;go_upto_region 3 with(at_builtin;refine CF rfl _ _ 91 rfl w.heap.size 3 j0 (J 0) 1 8 underlying91 U V Z ag rfl oo rfl ia d.m ic (iL d.I d.m) rfl (by rw[CK,Nat.mul_one]) ar (cF _ _) od om S w2.heap.size rfl ?_;intro a3 c3 w3 s g t;have f:=(g.block w.heap.size (Ah i.1) oq).trans i.1;have K:=(g.block (w.heap.size+1) (Ah i.2) oq).trans i.2;have x0:w3.cell? (y w 1)=some (.slice ia d.m ic):=(by simp[World.cell?,f]);have xf:w3.frozen? (y w 1)=false:=(by simp[World.frozen?,f]);have l0:=Ah f;have au:=O<|Jv E S g;have av:=O s;have aw:=O<|Ab (w':=w3) R λq e=>g.block q (r q e).2 oq;have F:=O t;have j:=O<|qj f K;clear g s t f K)
 clear y1;obtain⟨w4,u⟩:=o9<|w3.setCell (y w 1)<|.slice a3 d.m c3;rw[<-u];have o4:∀k,k≠w.heap.size->w4.heap[k]?=w3.heap[k]?:=λk hk=>by rw[u];exact At _ _ _ _<|by exact hk
 have e4:w4.heap[w.heap.size]?=some (.cells #[.slice a1 d.n c1,.slice a3 d.m c3,.slice xa d.x xc,J d.used,J d.live,J d.turns] 103 (0,0)):=by rw[u];exact(Lo _ _ _ _ _ _ j.1).trans oq
 have f4:=(o4 (w.heap.size+1) om).trans j.2;have T:B9 w w4:=by rw[u];exact au.setCell (Be _) _
 have ae:=Ah i.2;have ax:=O<|Ab av λq e=>o4 q<|oS<|z F q e;have ay:=O<|Ab aw λq e=>o4 q<|oS (r q e).1;have az:∀q,(Value.slice a3 d.m c3).ownBlock=some q->w.heap.size+1<q/\q<w4.heap.size/\w2.heap.size<=q:=λq e=>⟨oS<|z F q e,(ax.lt q e).2,oS<|z F q e⟩;have M:∀q,(Value.slice a1 d.n c1).ownBlock=some q->w.heap.size+1<q/\q<w4.heap.size/\q<w2.heap.size:=λq e=>⟨(r q e).1,(ay.lt q e).2,(r q e).2⟩;have bn:=O<|JP.news<|hD.index.below T rfl;have y2:w4.cell? (y w 2)=some (.slice xa d.x xc):=by simp[World.cell?,e4]
 rcases T.size,O<|qj e4 f4,O (qj az M) with⟨aM,A,b⟩;clear u o4 e4 f4 ae az M x0 xf l0 j av aw au F R i r ar S E;go_upto_region 4 with(at_builtin;refine CF rfl _ _ 91 rfl w.heap.size 3 j0 (J 0) 1 8 underlying91 U V Z ag rfl oo rfl xa d.x xc (iL d.X d.x) rfl (by rw[CK,Nat.mul_one]) bn (cF _ _) od om aM w4.heap.size rfl ?_;intro a5 c5 w5 B c C;have f:=(c.block w.heap.size (Ah A.1) oq).trans A.1;have K:=(c.block (w.heap.size+1) (Ah A.2) oq).trans A.2;have x0:w5.cell? (y w 2)=some (.slice xa d.x xc):=(by simp[World.cell?,f]);have xf:w5.frozen? (y w 2)=false:=(by simp[World.frozen?,f]);have l0:=Ah f;have bp:=O<|Jv T aM c;have bq:=O B;have br:=O<|Ab (w':=w5) ay λq e=>c.block q (b.2 q e).2.1 oq;have bt:=O<|Ab (w':=w5) ax λq e=>c.block q (b.1 q e).2.1 oq;have H:=O C;have j:=O<|qj f K;clear c B C f K)
 clear y2;obtain⟨w6,D⟩:=o9<|w5.setCell (y w 2)<|.slice a5 d.x c5;rw[<-D];have o6:∀k,k≠w.heap.size->w6.heap[k]?=w5.heap[k]?:=λk hk=>by rw[D];exact At _ _ _ _<|by exact hk
 have e6:w6.heap[w.heap.size]?=some (.cells #[.slice a1 d.n c1,.slice a3 d.m c3,.slice a5 d.x c5,J d.used,J d.live,J d.turns] 103 (0,0)):=by rw[D];exact(Lo _ _ _ _ _ _ j.1).trans oq
 have f6:=(o6 (w.heap.size+1) om).trans j.2;have a6:B9 w w6:=by rw[D];exact bp.setCell (Be _) _
 have af:=Ah A.2;have a7:=Ab bq λq e=>o6 q<|oS<|z H q e;have a8:=Ab bt λq e=>o6 q<|oS (b.1 q e).1;have bb:=Ab br λq e=>o6 q<|oS (b.2 q e).1;obtain⟨w7,P,a⟩:=UU f6 a1 a3 a5 d.n d.m d.x c1 c3 c5 d;have bc:=Ab a7 λq e=>a.other q<|oS<|z H q e;have bd:=Ab a8 λq e=>a.other q<|oS (b.1 q e).1;have bf:=Ab bb λq e=>a.other q<|oS (b.2 q e).1;have bu:Hid<|DV d w7 (.slice a1 d.n c1) (.slice a3 d.m c3) (.slice a5 d.x c5) w.heap.size w7.heap.size:=O ⟨Lr.of bf,Iv.of bd,Iv.of bc,λq e e'=>by
   have:=(b.1 q e').2.2;have:=(b.2 q e).2.2;omega,λq e e'=>by
   have:=z H q e';have:=(b.2 q e).2.1;omega,λq e e'=>by
   have:=z H q e';have:=(b.1 q e).2.1;omega⟩
 rcases a.below a6 om,O P,O e6,AZ a 0 _ rfl,AZ a 1 _ rfl,AZ a 2 _ rfl,AZ a 3 _ rfl,AZ a 4 _ rfl,AZ a 5 _ rfl with⟨bw,bx,HX,r0,r1,r2,r3,r4,r5⟩;clear D o6 e6 f6 a6 af a7 a8 bb bc bd bf P a x0 xf l0 j;go_wp2_with (first|(refine Aal rfl 103 _ rfl w.heap.size rfl _ _ _ _ HX underlying103 rfl rD ?_)|(refine Ag rfl rfl _ bx ?_));refine GO (v:=lJ (.slice a1 d.n c1) (.slice a3 d.m c3) (.slice a5 d.x c5) d) (by simp[results,results276,go_sem,r0,r1,r2,r3,r4,r5]) rfl ⟨⟨_,_,_,rfl,bu⟩,bw⟩
structure PQ (lo hi:Nat) (w:Y) (h:Hs) (t:Tb):Prop where
 v:PR t.V t.nv w h.v lo hi
 l:Lr t.d.L t.d.n w h.l lo hi
 i:Iv t.d.I t.d.m w h.i lo hi
 x:Iv t.d.X t.d.x w h.x lo hi
 vl:∀q,h.v.ownBlock=some q->h.l.ownBlock≠some q
 vi:∀q,h.v.ownBlock=some q->h.i.ownBlock≠some q
 vx:∀q,h.v.ownBlock=some q->h.x.ownBlock≠some q
 li:∀q,h.l.ownBlock=some q->h.i.ownBlock≠some q
 lx:∀q,h.l.ownBlock=some q->h.x.ownBlock≠some q
 ix:∀q,h.i.ownBlock=some q->h.x.ownBlock≠some q
def SK(h:Hs)(t:Tb):List Value:=[J t.shape,h.v,h.l,h.i,h.x,J t.d.used,J t.d.live,J t.d.turns]
theorem PR.own(h:PR f n w v lo hi){b}(e:v.ownBlock=some b):lo<=b/\b<hi/\b<w.heap.size:=by
 rcases h with⟨_,rfl⟩|⟨b',a,Z,g,rfl,h2,h3,h4,_⟩
 .cases e
 cases e;exact⟨h2,h3,H8 h4⟩
def Iv.FC{f}(h:Iv f n w v lo hi){b}(e:v.ownBlock=some b):lo<=b/\b<hi/\b<w.heap.size:=by
 rcases h with⟨_,rfl⟩|⟨b',a,Z,g,rfl,h2,h3,h4,_⟩
 .cases e
 cases e;exact⟨h2,h3,H8 h4⟩
theorem PQ.own(H:PQ lo hi w h t){q}(e:h.own q):lo<=q/\q<hi/\q<w.heap.size:=by
 rcases e with e|e|e|e
 .exact H.v.own e
 .exact H.l.own e
 .exact H.i.FC e
 exact H.x.FC e
theorem PQ.one(H:PQ lo hi w h t):∃a1 c1 a2 c2 a3 c3 a4 c4,h=⟨.slice a1 t.nv c1,.slice a2 t.d.n c2,.slice a3 t.d.m c3,.slice a4 t.d.x c4⟩:=by
 rcases H.v.at,H.l.at,H.i.Yv,H.x.Yv with⟨⟨a1,c1,e1,_⟩,⟨a2,c2,e2,_⟩,⟨a3,c3,e3,_⟩,⟨a4,c4,a,_⟩⟩;cases h;grind
def PQ.keep(H:PQ lo hi w h t)(hk:∀q,h.own q->w'.heap[q]?=w.heap[q]?):PQ lo hi w' h t:=
 ⟨H.v.keep λb e=>hk b<|.inl e,H.l.CH λb e=>hk b<|.inr<|.inl e,H.i.CH λb e=>hk b<|.inr<|.inr<|.inl e,H.x.CH λb e=>hk b<|.inr<|.inr<|.inr e,H.vl,H.vi,H.vx,H.li,H.lx,H.ix⟩
theorem PR.wide(h:PR f n w v lo hi)(h1:a<=lo)(h2:hi<=b):PR f n w v a b:=by
 grind [PR]
theorem PQ.wide(H:PQ lo hi w h t)(h1:a<=lo)(h2:hi<=b):PQ a b w h t:=
 ⟨H.v.wide h1 h2,H.l.wide h1 h2,H.i.wide h1 h2,H.x.wide h1 h2,H.vl,H.vi,H.vx,H.li,H.lx,H.ix⟩
abbrev qJ:Array Value:=#[J 0,N9,N9,N9,N9,J 0,J 0,J 0]
def U1 w:(sizeOf 105).run prog w=.ok 8 w:=ou
def J8(a nb j:Nat)(va:T9)(n vc:Nat)(W:Y):Prop:=W.cell? (G a 7)=some (Q9 nb)/\W.cell? (G nb 0)=some (J (j:Int))/\W.cell? (G a 0)=some (.slice va n vc)
def J8.keep{nb j}{va:Option Addr}{vc}(h:J8 b nb j va n vc W)(h1:W'.heap[b]?=W.heap[b]?)(h2:W'.heap[nb]?=W.heap[nb]?):J8 b nb j va n vc W':=
 ⟨(As (a:=G b 7) h1).trans h.1,(As (a:=G nb 0) h2).trans h.2.1,(As (a:=G b 0) h1).trans h.2.2⟩
def Yr(t:Tb)(w:Y)(e:Ending)(w':Y):Prop:=(∃h,e=.returned (.agg (SK h t).toArray)/\PQ w.heap.size w'.heap.size w' h t)/\B9 w w'
def Nh A(t:Tb){s}{b0}{B}j{w}(hN:KA w s b0 B)(hj:j<s.nf)(hs:t.shape=j)(hn:t.nv<=12)(hb:bare t.d)(hV:FA w A.va t.nv t.V):
  C9 293 #[Cz (B j) A t] w λe w'=>Yr t w e w':=by
 obtain⟨i0,r,C,D,E⟩:=ON FO;obtain⟨W,hW,b,F,o0,b1⟩:=S7 w (.cells #[.slice A.va t.nv A.vc,.slice A.la t.d.n A.lc,.slice A.ia t.d.m A.ic,.slice A.xa t.d.x A.xc,J t.d.used,J t.d.live,J t.d.turns,Q9 (B j)] 197)<|.cells qJ 105;obtain⟨x0,_,_,_,_,_,_,x7⟩:=v8 o0;obtain⟨nl,n0,_⟩:=KA.cell (hN.below b) hj;have H:J8 w.heap.size (B j) j A.va t.nv A.vc W.drew:=⟨x7,n0,x0⟩;have I:t.nv=0\/∃ad,A.va=some ad/\∀j u,(MO t.V t.nv)[j]?=some u->W.cell? (ad.add j)=some u:=by
  rcases hV with h|⟨vb,off,L,M,P⟩
  .exact .inl h
  exact .inr ⟨_,L,FA.news (w:=W) λi hi=>(P i hi).keep λq=>b.cell (p:=G vb q) M⟩
 have HF:Hid (∀a3 c3 w3,w3.ownsRow w.heap.size 43 5 (.slice a3 t.nv c3) t.nv (MO t.V t.nv)->W.drew.grownBy w3 none->(∀q,(Value.slice a3 t.nv c3).ownBlock=some q->q=w.heap.size+1+1)->
   J8 w.heap.size (B j) j A.va t.nv A.vc w3/\∃w4,(Instr.storeAt 105 (Q9<|w.heap.size+1)<|.agg #[J (j:Int),.slice a3 t.nv c3,N9,N9,N9,J 0,J 0,J 0]).run prog w3=.ok () w4/\Bj w3 w4 (w.heap.size+1) #[J (j:Int),.slice a3 t.nv c3,N9,N9,N9,J 0,J 0,J 0] 105/\J8 w.heap.size (B j) j A.va t.nv A.vc w4/\
   Yr t w (.returned (.agg #[J (j:Int),.slice a3 t.nv c3,N9,N9,N9,J 0,J 0,J 0])) w4):=O (by
  intro a3 c3 w3 h1 h2 h3;have hk:∀k,k<W.heap.size->w3.heap[k]?=W.heap[k]?:=λk hk=>h2.block k hk oq;have af:W.heap.size<=w3.heap.size:=h2.size;have g:=H.keep (hk _ om)<|hk _ nl;obtain⟨d1,d2,d3,d4,d5,d6⟩:=hb;have Q:B9 w w3:=⟨h2.os.trans b.os,h2.tape.trans b.tape,h2.output.trans b.output,om,λk R=>(hk k om).trans<|b.block k R⟩;have S:=(hk _ om).trans b1;obtain⟨w4,k1,k2⟩:=BM (v:=.agg #[J (j:Int),.slice a3 t.nv c3,N9,N9,N9,J 0,J 0,J 0]) (old:=qJ.toList) (vs:=[J (j:Int),.slice a3 t.nv c3,N9,N9,N9,J 0,J 0,J 0]) U1 S rfl rfl oh rfl;have T:=Ab h1 λq e=>k2.other q<|oS<|h3 q e;have U:B j≠w.heap.size+1:=oS (KA.cell hN hj).1;refine⟨g,w4,k1,k2,g.keep (k2.other _ om)<|k2.other _ U,⟨⟨.slice a3 t.nv c3,N9,N9,N9⟩,?_,?_⟩,k2.below Q om⟩
  .show _=Ending.returned (.agg #[J t.shape,.slice a3 t.nv c3,N9,N9,N9,J t.d.used,J t.d.live,J t.d.turns]);rw[hs,d4,d5,d6]
  exact⟨PR.of T,.inl ⟨d1,rfl⟩,.inl ⟨d2,rfl⟩,.inl ⟨d3,rfl⟩,(λq _ e=>by cases e),(λq _ e=>by cases e),(λq _ e=>by cases e),(λq e=>by cases e),(λq e=>by cases e),(λq e=>by cases e)⟩)
 have X:w.heap.size<=W.heap.size:=om;go_enter func293,ntmps293;go_wp2_with fail;rw[<-hW];refine Gq (J8 w.heap.size (B j) j A.va t.nv A.vc) ?_;refine tz 0 (h:=tz 1 (h:=tz 2 (h:=tz 3 (h:=tz 4 (h:=tz 5 (h:=tz 6 (h:=tz 7 (h:=?_))))))));refine ry 8 λK hK=>?_;refine Hg _ rfl (.const N9) (.tmp 10) 100 rfl w.heap.size 43 i0 (V 0 0 0 ⟨#[]⟩ 0) 5 48 underlying100 r C D E rfl oo og A.va t.nv A.vc (MO t.V t.nv) og (Ir _ _) (z<|O I) (NH _ _) od om X (w.heap.size+1+1) F ?_;intro a3 c3 w3 c l f;obtain⟨g,w4,o,a,Z,hP⟩:=z HF a3 c3 w3 c l f;have ae:=O o;refine hK.out _ _ g λ_=>?_;clear hK K c l f o;simp only[Act.put,AaQ,AaF,AaE,Aac,AaY,AaX];refine tz 9 (h:=?_);refine ry 10 λK hK=>?_;refine Bd rfl rfl _ ae ?_;refine hK.out _ _ Z λ_=>?_;clear hK K;refine Fj ?_;rcases AZ a 0 _ rfl,AZ a 1 _ rfl,AZ a 2 _ rfl,AZ a 3 _ rfl,AZ a 4 _ rfl,AZ a 5 _ rfl,AZ a 6 _ rfl,AZ a 7 _ rfl with⟨r0,r1,r2,r3,r4,r5,r6,r7⟩;go_wp2_with fail;refine GO (v:=.agg #[J (j:Int),.slice a3 t.nv c3,N9,N9,N9,J 0,J 0,J 0]) (by simp[results,results293,go_sem,r0,r1,r2,r3,r4,r5,r6,r7]) rfl hP
def Lq A t{w}(hs:t.shape=-1)(hn:t.nv=0)(hD:Ea w A.la A.ia A.xa t.d)(k:Small t.d):
  C9 270 #[KC A t] w λe w'=>Yr t w e w':=by
 obtain⟨W,l,g,i,_,b1⟩:=S7 w (.cells #[.slice A.va t.nv A.vc,.slice A.la t.d.n A.lc,.slice A.ia t.d.m A.ic,.slice A.xa t.d.x A.xc,J t.d.used,J t.d.live,J t.d.turns] 194)<|.cells qJ 105;have o:=O<|RR A.lc A.ic A.xc (hD.below g) k;have p:Hid (∀v0 v1 v2 w3,DV t.d w3 v0 v1 v2 W.heap.size w3.heap.size->B9 W w3->∃a0 c0 a1 c1 a2 c2 w4,v0=.slice a0 t.d.n c0/\v1=.slice a1 t.d.m c1/\v2=.slice a2 t.d.x c2/\(Instr.storeAt 105 (Q9<|w.heap.size+1)<|.agg #[J (-1),N9,.slice a0 t.d.n c0,.slice a1 t.d.m c1,.slice a2 t.d.x c2,J t.d.used,J t.d.live,J t.d.turns]).run prog w3=.ok () w4/\Bj w3 w4 (w.heap.size+1) #[J (-1),N9,.slice a0 t.d.n c0,.slice a1 t.d.m c1,.slice a2 t.d.x c2,J t.d.used,J t.d.live,J t.d.turns] 105/\
   Yr t w (.returned (.agg #[J (-1),N9,.slice a0 t.d.n c0,.slice a1 t.d.m c1,.slice a2 t.d.x c2,J t.d.used,J t.d.live,J t.d.turns])) w4):=O (by
  intro v0 v1 v2 w3 c f;obtain⟨a0,c0,a1,c1,a2,c2,rfl,rfl,rfl,-⟩:=c.at;obtain⟨w4,k1,k2⟩:=BM (v:=.agg #[J (-1),N9,.slice a0 t.d.n c0,.slice a1 t.d.m c1,.slice a2 t.d.x c2,J t.d.used,J t.d.live,J t.d.turns]) (old:=qJ.toList) (vs:=[J (-1),N9,.slice a0 t.d.n c0,.slice a1 t.d.m c1,.slice a2 t.d.x c2,J t.d.used,J t.d.live,J t.d.turns]) U1 ((f.block (w.heap.size+1) om).trans b1) rfl rfl oh rfl;have a:DV t.d w4 (.slice a0 t.d.n c0) (.slice a1 t.d.m c1) (.slice a2 t.d.x c2) w.heap.size w4.heap.size:=(c.keep (λb hb _=>k2.other b om)).wide om (by rw[k2.size];exact Be _);refine⟨a0,c0,a1,c1,a2,c2,w4,rfl,rfl,rfl,k1,k2,⟨⟨N9,.slice a0 t.d.n c0,.slice a1 t.d.m c1,.slice a2 t.d.x c2⟩,?_,⟨.inl ⟨hn,rfl⟩,a.log,a.ints,a.index,(λq e=>by cases e),(λq e=>by cases e),(λq e=>by cases e),a.sM,a.sN,a.a12⟩⟩,k2.below (g.trans (f.mono om)) om⟩;show _=Ending.returned (.agg #[J t.shape,N9,.slice a0 t.d.n c0,.slice a1 t.d.m c1,.slice a2 t.d.x c2,J t.d.used,J t.d.live,J t.d.turns]);rw[hs])
 clear hD k hs hn g b1 i;go_enter func270,ntmps270;go_wp2_with fail;rw[<-l];refine o.mono ?_;rintro e w3 ⟨⟨v0,v1,v2,rfl,c⟩,f⟩;obtain⟨a0,c0,a1,c1,a2,c2,w4,rfl,rfl,rfl,h,j,r⟩:=z p v0 v1 v2 w3 c f;go_wp2_with (refine Ag rfl rfl _ (z<|O h) ?_);refine FD results270 underlying105 j.Bw r
def CJ(p:Nat)(A:Ad)(t:Tb):List Value:=[.slice A.va t.nv A.vc,.slice A.la t.d.n A.lc,.slice A.ia t.d.m A.ic,.slice A.xa t.d.x A.xc,J t.d.used,J t.d.live,J t.d.turns,Q9 p]
def Le p A t:∀u∈CJ p A t,u.oneCell'=true:=by
 intro u h;simp only[CJ,List.mem_cons,AaI,or_false]at h;rcases h with rfl|rfl|rfl|rfl|rfl|rfl|rfl|rfl<;>rfl
def NC:∀u∈EM.toList,u.oneCell'=true:=by
 intro u h;simp only[List.mem_cons,AaI,or_false]at h;rcases h with rfl|rfl|rfl|rfl|rfl|rfl|rfl|rfl<;>rfl
def SG(w:Y)p A t:(Instr.storeAt 197 (Q9 w.heap.size)<|Cz p A t).run prog (w.alloc<|.cells EM 197)=.ok () (w.alloc<|.cells (CJ p A t).toArray 197):=
 Fw (old:=EM.toList) Eu w (by rfl) (by rfl) (Le p A t) rfl
def WN(hb:w.heap[b]?=some (.cells EM 197 (0,0)))p A t:∃w',(Instr.storeAt 197 (Q9 b)<|.agg (CJ p A t).toArray).run prog w=.ok () w'/\Bj w w' b (CJ p A t).toArray 197:=
 BM (old:=EM.toList) (vs:=CJ p A t) Eu hb rfl rfl (Le p A t) rfl
def fR(hb:w.heap[b]?=some (.cells EM 197 (0,0))):∃w',(Instr.storeAt 197 (Q9 b)<|.agg EM).run prog w=.ok () w'/\Bj w w' b EM 197:=
 BM (old:=EM.toList) (vs:=EM.toList) Eu hb rfl rfl NC rfl
def EJ{A}(h:w.heap[b]?=some (.cells (CJ p A t).toArray 197 (0,0))):∀j u,(CJ p A t)[j]?=some u->w.cell? (G b j)=some u:=λj u hu=>by
 rw[MM w b j _ _ _ h];simpa using hu
def A6.bQ{b}{d f g i}{j}{m}{n}(h:A6 (ZB Z w.heap.size p) w1 c B0 d f g i j A' s')(q:BF (Az B0 c vN vT vS w) w (Az B0 c d f g w1) w1)(o:B0<=w.heap.size)(l:w.heap.size<=m)(hz:m<p)(r:w1.heap[m]?=some (.cells n 197 (0,0)))(a:Bj w1 b m cs 197):
  A6 Z b c B0 d f g i j A' s'/\BF (Az B0 c vN vT vS w) w (Az B0 c d f g b) b:=
 h.fin q o (.inr ⟨l,hz⟩) l (h.EH r oo oo oo oo oo) (λk e=>.inl e) ⟨a.os,a.tape,a.output,a.size⟩ a.other a.Bw oo
def NJ(Z:Nat->Prop)(c B0:Nat)(vN vT vS vU:V9)(Bk:Nat->Nat)(A:Nat->Ad)(s:AK)(i t:Nat)(w:Y)(e:Ending)(w':Y):Prop:=
 ∃vs:List Value,vs.length=8/\(∀u∈vs,u.oneCell'=true)/\e=.returned (.tuple #[.agg vs.toArray,J (Bh s i t)])/\(0<=Bh s i t->∃j:Nat,(s.T t).shape=j/\vs=CJ (Bk j) (A t) (s.T t))/\A6 Z w' c B0 vN vT vS vU Bk A (AY s i t)/\BF (Az B0 c vN vT vS w) w (Az B0 c vN vT vS w') w'
def Xf(b g o:Nat)(pl:Int)(p:Nat)(A:Ad)(t:Tb)(W:Y):Prop:=W.cell? (G b 0)=some (.slice A.va t.nv A.vc)/\W.cell? (G b 1)=some (.slice A.la t.d.n A.lc)/\W.cell? (G b 2)=some (.slice A.ia t.d.m A.ic)/\W.cell? (G b 3)=some (.slice A.xa t.d.x A.xc)/\W.cell? (G b 4)=some (J t.d.used)/\W.cell? (G b 5)=some (J t.d.live)/\W.cell? (G b 6)=some (J t.d.turns)/\W.cell? (G b 7)=some (Q9 p)/\W.cell? (G g<|o+2)=some (J pl)
def bR{Bk}(i t j:Nat){w}(o:A6 Z w c B0 vN vT vS vU Bk A s)(hi:i<s.ns)(ay:s.ns<=50)(ht:t<s.nt)(az:s.nt<=100)(n:(s.T t).shape=j)(hj:j<s.nf)(r:(s.S i).shape=j)(E:0<=(s.S i).BZ)(F:(s.S i).BZ<=1000000000000):
  C9 170 #[Q9 c,J i,J t] w λe w'=>NJ Z c B0 vN vT vS vU Bk A s i t w e w':=by
 obtain⟨gT,x,af,ax,_,H,_⟩:=o.CU ht;obtain⟨g,cp,B,C,aM,I,L⟩:=o.GB hi;subst af B;have M:AL Bk (A t) (s.T t)=.iface 197 (Cz (Bk j) (A t)<|s.T t):=by
  unfold AL;rw[Cs om,n];rfl
 rw[M]at H;have l:KO s i t=true:=by unfold KO;simp[n,r]
 have eI:Bh s i t=(s.S i).place:=by unfold Bh;rw[C3 l]
 have eX:DS s i t={s.S i with BZ:=D6 (s.S i).BZ}:=by unfold DS;rw[C3 l]
 obtain⟨D,P,m,ag,b0,b1⟩:=S7 w (.cells EM 197)<|.cells (CJ (Bk j) (A t)<|s.T t).toArray 197;rcases o.enter m,o.lt,o.cells with⟨⟨hE,Q⟩,a6,⟨c0,c1,c2,c3,cf⟩⟩;have R:Hid<|(Instr.storeAt 197 (Q9<|w.heap.size+1)<|Cz (Bk j) (A t)<|s.T t).run prog ((w.alloc<|.cells EM 197).alloc<|.cells EM 197)=.ok () D:=O (by
  have h:=SG (w.alloc (.cells EM 197)) (Bk j) (A t) (s.T t);rw[World.size_alloc]at h;rw[P];exact h)
 have U:Hid (∀q f,f=(D.drewN q).setCell (G g<|i*5+3) (J<|D6 (s.S i).BZ)->Xf (w.heap.size+1) g (i*5) (s.S i).place (Bk j) (A t) (s.T t) f.drew/\w.heap.size<f.heap.size/\
   ∃w3,(Instr.storeAt 197 (Q9 w.heap.size)<|.agg (CJ (Bk j) (A t)<|s.T t).toArray).run prog f.drew=.ok () w3/\Bj f.drew w3 w.heap.size (CJ (Bk j) (A t)<|s.T t).toArray 197/\Xf (w.heap.size+1) g (i*5) (s.S i).place (Bk j) (A t) (s.T t) w3/\
   A6 Z w3 c B0 vN (S9 gT s.nt x) (S9 g s.ns cp) vU Bk A (AY s i t)/\BF (Az B0 c vN (S9 gT s.nt x) (S9 g s.ns cp) w) w (Az B0 c vN (S9 gT s.nt x) (S9 g s.ns cp) w3) w3):=O (by
  intro q f hq;have ah:B9 D<|D.drewN q:=⟨rfl,rfl,rfl,Be _,λ_ _=>rfl⟩;obtain⟨m1,d1⟩:=hE.below ah;obtain⟨m2,d2⟩:=m1.Fh (j:=3) (u:=J<|D6 (s.S i).BZ) (x':=DS s i t) rfl hi om (qh eX);rw[<-hq]at m2 d2;have a7:f.heap.size=D.heap.size:=by rw[hq];simp
  have st:∀k,k≠g->f.heap[k]?=D.heap[k]?:=λk hk=>by rw[hq];exact At _ _ _ _<|by exact hk
  have V:f.drew.heap[w.heap.size]?=some (.cells EM 197 (0,0)):=(st _ om).trans b0;have W:f.drew.heap[w.heap.size+1]?=some (.cells (CJ (Bk j) (A t)<|s.T t).toArray 197 (0,0)):=(st _ om).trans b1;obtain⟨_,_,B,_,_,ai,_⟩:=m2.GB hi;cases B;have X:f.drew.cell? (G g<|i*5+2)=some (J (s.S i).place):=ai 2 _ (by
   show(GD (AX s.S i (DS s i t) i))[2]?=_;rw[Ai,eX];rfl)
  have hc:=EJ W;have hH:Xf (w.heap.size+1) g (i*5) (s.S i).place (Bk j) (A t) (s.T t) f.drew:=⟨hc 0 _ rfl,hc 1 _ rfl,hc 2 _ rfl,hc 3 _ rfl,hc 4 _ rfl,hc 5 _ rfl,hc 6 _ rfl,hc 7 _ rfl,X⟩;obtain⟨w3,k1,k2⟩:=WN V (Bk j) (A t) (s.T t);have b:=EJ ((k2.other _ om).trans W);have hd:=((Q.trans d1).trans d2).Ts;obtain⟨f1,f2⟩:=A6.bQ (m2.drew) hd o.base (Be _) om V k2;exact⟨hH,om,w3,k1,k2,⟨b 0 _ rfl,b 1 _ rfl,b 2 _ rfl,b 3 _ rfl,b 4 _ rfl,b 5 _ rfl,b 6 _ rfl,b 7 _ rfl,(As (a:=(G g (i*5+2))) (k2.other g om)).trans X⟩,f1,f2⟩)
 rcases hE.cells,(m.cell C).trans<|I 1 _ rfl,(m.cell C).trans<|I 3 _ rfl,(m.frozen (p:=G g<|i*5+3) C).trans<|L _,KA.cell hE.nd hj,EJ b1 7 _ rfl with⟨⟨_,y1,y2,_,_⟩,s1,s3,f3,⟨nl,n0,_⟩,p7⟩;rw[r]at s1;rcases O eI,O n,pQ<|Cz (Bk j) (A t)<|s.T t,O<|I8 (s.S i).BZ,O (qj E F) with⟨aj,ak,a8,ao,HH⟩;clear o hE Q m ag b0 b1 M l eI eX P L n r cf c3 c0 E F;go_enter func170,ntmps170;go_upto_region 3 with(refine Ag rfl rfl _ R ?_)
 go_wp2_with fail
 go_quiet (fail);go_wp2_with fail;refine(ao _ HH.1 HH.2).mono ?_;rintro e w2 ⟨rfl,rfl⟩;go_upto_region 5 with fail
 obtain⟨f,ad⟩:=o9<|(D.drewN nq).setCell (G g<|i*5+3)<|J<|D6 (s.S i).BZ;rw[<-ad];obtain⟨bb,l2,w3,aq,d,ar,au,av⟩:=z U nq f ad;have aw:=O aq;have ae:=O<|qj au av;refine Gq (Xf (w.heap.size+1) g (i*5) (s.S i).place (Bk j) (A t)<|s.T t) ?_;refine tz 0 (h:=tz 1 (h:=tz 2 (h:=tz 3 (h:=tz 4 (h:=?_)))));refine ry 5 λK hK=>?_;refine Bd rfl rfl _ aw ?_;refine hK.out _ _ ar λ_=>?_;clear hK K;refine tz 6 (h:=?_);refine Fj ?_;rcases AZ d 0 _ rfl,AZ d 1 _ rfl,AZ d 2 _ rfl,AZ d 3 _ rfl,AZ d 4 _ rfl,AZ d 5 _ rfl,AZ d 6 _ rfl,AZ d 7 _ rfl with⟨r0,r1,r2,r3,r4,r5,r6,r7⟩;go_wp2_with fail;refine GO (v:=.tuple #[.agg (CJ (Bk j) (A t)<|s.T t).toArray,J (s.S i).place]) (by simp[results,results170,go_sem,r0,r1,r2,r3,r4,r5,r6,r7,CJ]) rfl ⟨CJ (Bk j) (A t)<|s.T t,rfl,Le _ _ _,qg aj,λ_=>⟨j,ak,rfl⟩,ae.1,ae.2⟩
def KA.dR{b0}{B}(h:KA w s b0 B)(a:Aq s.nf s.F=0){j}(hj:j<s.nf)key:
  C9 106 #[Q9 (B j),.string key] w λe w'=>e=.returned (J<|Bc s.F j key)/\w'=w:=by
 obtain⟨Z,M,h1,h2⟩:=h;refine(Gz w b0 B Z M h1 h2 (Av a).2.1 (Av a).2.2.1 j hj key).mono ?_;rintro e w' ⟨⟨b,_⟩,rfl⟩;exact⟨b,rfl⟩
def YL{Bk}i t{w}(m:A6 Z w c B0 vN vT vS vU Bk A s)(hi:i<s.ns)(aq:s.ns<=50)(ht:t<s.nt)(ar:s.nt<=100)(n:(s.T t).shape=-1)(C:0<=(s.S i).AB)(D:(s.S i).AB<=1000000000000):
  C9 170 #[Q9 c,J i,J t] w λe w'=>NJ Z c B0 vN vT vS vU Bk A s i t w e w':=by
 obtain⟨X,o,ad,E,_,f,_⟩:=m.CU ht;obtain⟨g,cp,ae,r,au,F,H⟩:=m.GB hi;subst ad ae;have I:AL Bk (A t) (s.T t)=.iface 194 (KC (A t)<|s.T t):=C3 n;rw[I]at f;have a:KO s i t=false:=by unfold KO;simp[n]
 have eI:Bh s i t=-1:=by unfold Bh;rw[Cs (by rw[a];decide),Cs om]
 have eX:DS s i t={s.S i with AB:=D6 (s.S i).AB}:=by unfold DS;rw[Cs (by rw[a];decide),Cs om]
 obtain⟨B,K,b,af,b0,_⟩:=S7 w (.cells EM 197)<|.cells EM 197;rcases m.enter b,m.lt,m.cells with⟨⟨hE,L⟩,ag,⟨c0,c1,c2,c3,cf⟩⟩;have M:Hid<|(Instr.storeAt 197 (Q9<|w.heap.size+1)<|.agg EM).run prog ((w.alloc<|.cells EM 197).alloc<|.cells EM 197)=.ok () B:=O (by
  have h:=Fw (v:=.agg EM) (old:=EM.toList) (vs:=EM.toList) Eu (w.alloc (.cells EM 197)) (ty:=197) rfl rfl NC rfl;rw[World.size_alloc]at h;rw[K];exact h)
 have l:Hid (∀q d,d=(B.drewN q).setCell (G g<|i*5+4) (J<|D6 (s.S i).AB)->
   ∃w3,(Instr.storeAt 197 (Q9 w.heap.size)<|.agg EM).run prog d=.ok () w3/\Bj d w3 w.heap.size EM 197/\
   A6 Z w3 c B0 vN (S9 X s.nt o) (S9 g s.ns cp) vU Bk A (AY s i t)/\BF (Az B0 c vN (S9 X s.nt o) (S9 g s.ns cp) w) w (Az B0 c vN (S9 X s.nt o) (S9 g s.ns cp) w3) w3):=O (by
  intro q d hq;have ah:B9 B<|B.drewN q:=⟨rfl,rfl,rfl,Be _,λ_ _=>rfl⟩;obtain⟨m1,d1⟩:=hE.below ah;obtain⟨m2,d2⟩:=m1.Fh (j:=4) (u:=J<|D6 (s.S i).AB) (x':=DS s i t) rfl hi om (qh eX);rw[<-hq]at m2 d2;have st:∀k,k≠g->d.heap[k]?=B.heap[k]?:=λk hk=>by rw[hq];exact At _ _ _ _<|by exact hk
  have P:=(st _ om).trans b0;obtain⟨w3,k1,k2⟩:=fR P;obtain⟨f1,f2⟩:=A6.bQ m2 ((L.trans d1).trans d2) m.base (Be _) om P k2;exact⟨w3,k1,k2,f1,f2⟩)
 rcases hE.cells,(b.cell r).trans<|F 4 _ rfl,(b.frozen (p:=G g<|i*5+4) r).trans<|H _,O eI,vD<|KC (A t)<|s.T t,O<|I8 (s.S i).AB,O (qj C D) with⟨⟨_,y1,y2,_,_⟩,s4,f4,Q,ai,aj,HH⟩;clear m hE L b af b0 I a eI eX H n cf c3 c0 C D K;go_enter func170,ntmps170;go_upto_region 3 with(refine Ag rfl rfl _ M ?_)
 clear c1 c2 f F ag r E;go_wp2_with fail;go_quiet (fail);go_wp2_with fail;refine(aj _ HH.1 HH.2).mono ?_;rintro e w2 ⟨rfl,rfl⟩;go_upto_region 7 with fail
 obtain⟨d,x⟩:=o9<|(B.drewN nq).setCell (G g<|i*5+4)<|J<|D6 (s.S i).AB;rw[<-x];obtain⟨w3,R,ak,U,V⟩:=z l nq d x;have ao:=O R;have W:=O<|qj U V;clear x R U V l s4 f4 y1 y2 ai;go_wp2_with (refine Ag rfl rfl _ ao ?_);refine GQ results170 underlying197 ak.Bw ⟨EM.toList,rfl,NC,qg Q,λh=>absurd h<|by rw[z Q];decide,W.1,W.2⟩
def YK{Bk}(i t j:Nat){w}(W:A6 Z w c B0 vN vT vS vU Bk A s)(hf:Aq s.nf s.F=0)(hi:i<s.ns)(b4:s.ns<=50)(ht:t<s.nt)(b5:s.nt<=100)(o:(s.T t).shape=j)(hj:j<s.nf)(bh:(s.S i).shape≠j)(ao:0<=(s.S i).AB)(aq:(s.S i).AB<=1000000000000):
  C9 170 #[Q9 c,J i,J t] w λe w'=>NJ Z c B0 vN vT vS vU Bk A s i t w e w':=by
 obtain⟨C,l,bj,ai,_,P,_⟩:=W.CU ht;obtain⟨g,D,bk,E,b6,X,ar⟩:=W.GB hi;subst bj bk;have au:AL Bk (A t) (s.T t)=.iface 197 (Cz (Bk j) (A t)<|s.T t):=by
  unfold AL;rw[Cs om,o];rfl
 rw[au]at P;have r:KO s i t=false:=by unfold KO;rw[o];simp;omega
 obtain⟨pl,H⟩:=o9<|Bc s.F j (s.S i).key;have eI:Bh s i t=pl:=by unfold Bh;rw[Cs (by rw[r];decide),C3 om,o,H];rfl
 have eX:DS s i t=if 0<=pl then⟨(s.S i).key,(j:Int),pl,(s.S i).BZ,D6 (s.S i).AB⟩else{s.S i with AB:=D6 (s.S i).AB}:=by
  unfold DS;rw[Cs (by rw[r];decide),o,show(j:Int).toNat=j by omega,<-H];by_cases v:0<=pl
  .rw[C3 ⟨om,v⟩,C3 v]
  rw[Cs (λh=>v h.2),Cs v]
 obtain⟨Q,av,B,bm,b0,b1⟩:=S7 w (.cells EM 197)<|.cells (CJ (Bk j) (A t)<|s.T t).toArray 197;rcases W.enter B,W.lt,W.cells with⟨⟨hE,aw⟩,bn,⟨c0,c1,c2,c3,cf⟩⟩;have R:Hid<|(Instr.storeAt 197 (Q9<|w.heap.size+1)<|Cz (Bk j) (A t)<|s.T t).run prog ((w.alloc<|.cells EM 197).alloc<|.cells EM 197)=.ok () Q:=O (by
  have h:=SG (w.alloc (.cells EM 197)) (Bk j) (A t) (s.T t);rw[World.size_alloc]at h;rw[av];exact h)
 obtain⟨x1,ad⟩:∃x1:Si,x1={s.S i with AB:=D6 (s.S i).AB}:=⟨_,rfl⟩;have U:Hid (∀q b,b=(Q.drewN q).setCell (G g<|i*5+4) (J<|D6 (s.S i).AB)->
   A6 (ZB Z w.heap.size Q.heap.size) b c B0 vN (S9 C s.nt l) (S9 g s.ns D) vU Bk A {s with S:=AX s.S i x1}/\BF (Az B0 c vN (S9 C s.nt l) (S9 g s.ns D) w) w (Az B0 c vN (S9 C s.nt l) (S9 g s.ns D) b) b/\
   b.heap[w.heap.size]?=some (.cells EM 197 (0,0))/\b.heap[w.heap.size+1]?=some (.cells (CJ (Bk j) (A t) (s.T t)).toArray 197 (0,0))/\(∀q2,C9 106 #[Q9 (Bk j),.string (s.S i).key] (b.drewN q2) λe w'=>e=.returned (J pl)/\w'=b.drewN q2)):=O (by
  intro q b hq;have bp:B9 Q<|Q.drewN q:=⟨rfl,rfl,rfl,Be _,λ_ _=>rfl⟩;obtain⟨m1,d1⟩:=hE.below bp;obtain⟨m2,d2⟩:=m1.Fh (j:=4) (u:=J<|D6 (s.S i).AB) (x':=x1) rfl hi om (qh ad);rw[<-hq]at m2 d2;have st:∀k,k≠g->b.heap[k]?=Q.heap[k]?:=λk hk=>by rw[hq];exact At _ _ _ _<|by exact hk
  refine⟨m2,(aw.trans d1).trans d2,(st _ om).trans b0,(st _ om).trans b1,λq2=>?_⟩;have f:B9 b (b.drewN q2):=⟨rfl,rfl,rfl,Be _,λ_ _=>rfl⟩;have hn:KA (b.drewN q2) s B0 Bk:=(m2.below f).1.nd;rw[H];exact hn.dR hf hj _)
 have V:Hid (∀a,A6 (ZB Z w.heap.size Q.heap.size) a c B0 vN (S9 C s.nt l) (S9 g s.ns D) vU Bk A (AY s i t)->BF (Az B0 c vN (S9 C s.nt l) (S9 g s.ns D) w) w (Az B0 c vN (S9 C s.nt l) (S9 g s.ns D) a) a->a.heap[w.heap.size]?=some (.cells EM 197 (0,0))->
   ∃w3,(Instr.storeAt 197 (Q9 w.heap.size)<|.agg (CJ (Bk j) (A t)<|s.T t).toArray).run prog a=.ok () w3/\Bj a w3 w.heap.size (CJ (Bk j) (A t)<|s.T t).toArray 197/\
   NJ Z c B0 vN (S9 C s.nt l) (S9 g s.ns D) vU Bk A s i t w (.returned (.tuple #[.agg (CJ (Bk j) (A t) (s.T t)).toArray,J pl])) w3):=O (by
  intro a m3 d3 hb;obtain⟨w3,k1,k2⟩:=WN hb (Bk j) (A t) (s.T t);obtain⟨f1,f2⟩:=A6.bQ m3 d3 W.base (Be _) om hb k2;exact⟨w3,k1,k2,CJ (Bk j) (A t) (s.T t),rfl,Le _ _ _,by rw[eI],λ_=>⟨j,o,rfl⟩,f1,f2⟩)
 rcases O eX,O ad,hE.cells,(B.cell E).trans<|X 1 _ rfl,(B.cell E).trans<|X 4 _ rfl,(B.frozen (p:=G g<|i*5+4) E).trans<|ar _,KA.cell hE.nd hj,EJ b1 7 _ rfl with⟨ax,ae,⟨_,y1,y2,_,_⟩,s1,s4,f4,⟨nl,n0,_⟩,p7⟩;have d0:((j:Int)==(s.S i).shape)=false:=ot;rcases pQ (Cz (Bk j) (A t)<|s.T t),O<|I8 (s.S i).AB,O (qj ao aq) with⟨bq,ay,HH⟩;have br:g≠w.heap.size:=om;have aj:g≠w.heap.size+1:=om;clear W hE aw B bm b0 b1 au r eI eX ar o bh cf c3 c0 ao aq av ad H hf;go_enter func170,ntmps170;go_upto_region 3 with(refine Ag rfl rfl _ R ?_)
 clear c1 c2 P X bn E ai;go_wp2_with fail;go_quiet (fail);go_wp2_with fail;refine(ay _ HH.1 HH.2).mono ?_;rintro e w2 ⟨rfl,rfl⟩;go_upto_region 7 with fail
 obtain⟨b,af⟩:=o9<|(Q.drewN nq).setCell (G g<|i*5+4)<|J<|D6 (s.S i).AB;rw[<-af];obtain⟨I,az,aM,K,a6⟩:=z U nq b af;obtain⟨b7,rJ,_⟩:=KA.cell I.nd hj;obtain⟨_,_,ak,b8,_,L,ag⟩:=I.GB hi;cases ak;have b9:b.cell? (G g<|i*5)=some (.string (s.S i).key):=L 0 _ (by
  show(GD (AX s.S i x1 i))[0]?=_;rw[Ai,z ae];rfl)
 obtain⟨k1,ca⟩:∃u,b.cell? (G g<|i*5+1)=some u:=⟨_,L 1 _ rfl⟩;obtain⟨k2,Dt⟩:∃u,b.cell? (G g<|i*5+2)=some u:=⟨_,L 2 _ rfl⟩;rcases ag (i*5+1),ag<|i*5+2,EJ K 7 _ rfl,Ah K,O<|qj I az,O aM,O K,O a6 with⟨g1,g2,q7,bt,a7,a8,bb,bu⟩;clear af I az aM K a6 U s1 s4 f4 n0 p7 y1 y2 d0 bq L ag nl HH ay R;go_wp2_with fail;go_quiet (exact Calls.quiet_of_same<|bu _);by_cases v:0<=pl
 focus
  have bw:decide (0<=pl)=true:=by simp[v]
  have ah:Hid (∀q a,a=((b.drewN q).setCell (G g<|i*5+1)<|J (j:Int)).setCell (G g<|i*5+2) (J pl)->a.heap[w.heap.size+1]?=some (.cells (CJ (Bk j) (A t)<|s.T t).toArray 197 (0,0))/\∃w3,(Instr.storeAt 197 (Q9 w.heap.size)<|.agg (CJ (Bk j) (A t)<|s.T t).toArray).run prog a=.ok () w3/\Bj a w3 w.heap.size (CJ (Bk j) (A t)<|s.T t).toArray 197/\
   NJ Z c B0 vN (S9 C s.nt l) (S9 g s.ns D) vU Bk A s i t w (.returned (.tuple #[.agg (CJ (Bk j) (A t) (s.T t)).toArray,J pl])) w3):=O (by
   intro q a hq;obtain⟨m2,d2⟩:=z a7;have f:B9 b<|b.drewN q:=⟨rfl,rfl,rfl,Be _,λ_ _=>rfl⟩;obtain⟨m3,d3⟩:=m2.below f;obtain⟨m4,d4⟩:=m3.Fh (i:=i) (j:=1) (u:=J (j:Int)) (x':={x1 with shape:=(j:Int)}) rfl hi om (by
    show _=(GD (AX s.S i x1 i)).set 1 _;rw[Ai];rfl)
   obtain⟨m5,d5⟩:=m4.Fh (i:=i) (j:=2) (u:=J pl) (x':={x1 with shape:=(j:Int),place:=pl}) rfl hi om (by
    show _=(GD (AX (AX s.S i x1) i {x1 with shape:=(j:Int)} i)).set 2 _;rw[Ai];rfl)
   rw[<-hq]at m5 d5;have st:∀k,k≠g->a.heap[k]?=b.heap[k]?:=λk hk=>by
    rw[hq];exact(At _ _ _ _<|by exact hk).trans (At _ _ _ _<|by exact hk)
   have eS:AY s i t={s with S:=AX (AX (AX s.S i x1) i {x1 with shape:=(j:Int)}) i {x1 with shape:=(j:Int),place:=pl}}:=by
    unfold AY;rw[GG,GG,z ax,C3 v,z ae]
   refine⟨(st _ (λe=>aj e.symm)).trans bb,V a (by rw[eS];exact m5) (((d2.trans d3).trans d4).trans d5) ((st _ (λe=>br e.symm)).trans a8)⟩)
  clear v;go_upto_region 12 with fail
  obtain⟨a,M⟩:=o9<|((b.drewN nq).setCell (G g<|i*5+1)<|J (j:Int)).setCell (G g<|i*5+2)<|J pl
 rotate_left
 focus
  have bw:decide (0<=pl)=false:=by simp[v]
  have ah:Hid (∀q a,a=b.drewN q->a.heap[w.heap.size+1]?=some (.cells (CJ (Bk j) (A t)<|s.T t).toArray 197 (0,0))/\∃w3,(Instr.storeAt 197 (Q9 w.heap.size)<|.agg (CJ (Bk j) (A t)<|s.T t).toArray).run prog a=.ok () w3/\Bj a w3 w.heap.size (CJ (Bk j) (A t)<|s.T t).toArray 197/\
   NJ Z c B0 vN (S9 C s.nt l) (S9 g s.ns D) vU Bk A s i t w (.returned (.tuple #[.agg (CJ (Bk j) (A t) (s.T t)).toArray,J pl])) w3):=O (by
   intro q a hq;obtain⟨m2,d2⟩:=z a7;have f:B9 b a:=by rw[hq];exact⟨rfl,rfl,rfl,Be _,λ_ _=>rfl⟩
   obtain⟨m3,d3⟩:=m2.below f;have eS:AY s i t={s with S:=AX s.S i x1}:=by
    unfold AY;rw[z ax,Cs v,z ae]
   refine⟨(f.block _ bt).trans bb,V a (by rw[eS];exact m3) (d2.trans d3) ((f.block _ om).trans a8)⟩)
  clear v;go_upto_region 12 with fail
  obtain⟨a,M⟩:=o9<|b.drewN nq
 all_goals
  rw[<-M];obtain⟨bc,w3,bd,bf,bg⟩:=z ah nq a M;rcases O bd,O bf,O bg with⟨bx,bz,b2⟩;have b3:Hid<|a.heap[w.heap.size+1]?=some (.cells #[.slice (A t).va (s.T t).nv (A t).vc,.slice (A t).la (s.T t).d.n (A t).lc,.slice (A t).ia (s.T t).d.m (A t).ic,.slice (A t).xa (s.T t).d.x (A t).xc,J (s.T t).d.used,J (s.T t).d.live,J (s.T t).d.turns,Q9 (Bk j)] 197 (0,0)):=O bc;clear bd bf bg bc M ah;go_wp2_with (first|(refine Aal rfl 197 _ rfl (w.heap.size+1) rfl _ _ _ _ b3 underlying197 rfl MA ?_)|(refine Ag rfl rfl _ bx ?_));refine GQ results170 underlying197 bz.Bw b2
def Rt{Bk}i t{w}(f:A6 Z w c B0 vN vT vS vU Bk A s)(hf:Aq s.nf s.F=0)(hi:i<s.ns)(a:s.ns<=50)(g:t<s.nt)(b:s.nt<=100)(h:PO s<|s.T t)(hs:Pb s<|s.S i):
  C9 170 #[Q9 c,J i,J t] w λe w'=>NJ Z c B0 vN vT vS vU Bk A s i t w e w':=by
 obtain⟨_,h1,h2,h3,h4,_⟩:=hs;rcases h.way with⟨e,_⟩|⟨j,e,hj,_⟩
 .exact YL i t f hi a g b e h2 h4
 by_cases d:(s.S i).shape=j
 .exact bR i t j f hi a g b e hj d h1 h3
 exact YK i t j f hf hi a g b e hj d h2 h4
def sL(Z:Nat->Prop)(c B0:Nat)(vN vT vS vU:V9)(Bk:Nat->Nat)(A:Nat->Ad)(s:AK)(t:Nat)(k v:Vl)(w:Y)(e:Ending)(w':Y):Prop:=
 (e=.returned (.tuple #[.agg EM,.bool false])/\B8 s (s.T t) k v=.loose/\A6 Z w' c B0 vN vT vS vU Bk A s/\BF (Az B0 c vN vT vS w) w (Az B0 c vN vT vS w') w')\/
 (∃a B' p a' x' s',e=.returned (.tuple #[.agg (CJ p a' x').toArray,.bool true])/\AL B' a' x'=.iface 197 (.agg (CJ p a' x').toArray)/\BJ s' t x'=Ct s t k v/\B8 s (s.T t) k v≠.full/\s'.nt=s.nt/\A6 Z w' c B0 a vT vS vU B' A s'/\BF (Az B0 c vN vT vS w) w (Az B0 c a vT vS w') w'/\Rd (OZ Z B0 c a vT vS w') w' a' x')
def A6.Wk{w0:Y}{Bk}(h:A6 Z w c B0 vN vT vS vU Bk A s)(hz:∀k,Z k->k<w0.heap.size){B n a g}{f}(b:BW w B (S9 g n a) n f)(d:w0.heap.size<=g):¬OZ Z B0 c vN vT vS w g:=by
 obtain⟨cur,hb,_⟩:=AV b rfl;rintro(e|e)
 .exact h.EH hb oo oo oo oo oo e
 have:=hz g e;omega
def A6.tG{d}{f g i}{n}{p}{a}(h:A6 (ZB Z w.heap.size o) w1 c B0 f g i m n A' s')(q:B0<=w.heap.size)(j:w.heap.size<=l)(hz:l<o)(r:w1.heap[l]?=some (.cells p 197 (0,0)))(b:Bj w1 d l cs 197)(s:Rd (OZ (ZB Z w.heap.size o) B0 c f g i w1) w1 a x):Rd (OZ Z B0 c f g i d) d a x:=λw3 hs hk=>by
 have t:=(h.box (.inr ⟨j,hz⟩) (GP q j) (h.EH r oo oo oo oo oo) ⟨b.os,b.tape,b.output,b.size⟩ b.other b.Bw oo).2;refine s w3 (by rw[<-b.size];exact hs) λk k1 k2=>(hk k (by rw[b.size];exact k1) λe=>k2<|e.imp (t k) .inl).trans<|b.other k λe=>k2<|.inr<|.inr<|by rw[e];exact⟨j,hz⟩
def Ni{Bk}(t j:Nat){k}v{w}(hM:A6 Z w c B0 vN vT vS vU Bk A s)(hf:Aq s.nf s.F=0)(ht:t<s.nt)(hx:(s.T t).shape=j)(hj:j<s.nf)(ah:(s.T t).nv=nf s.F j)(av:bare (s.T t).d)(hk:Ky k)(aw:¬(v.kind=0/\(Cg s.F (s.T t) k).kind=0))(ax:∀i,i<s.nt->(s.T i).shape=-1\/∃j:Nat,(s.T i).shape=j/\j<s.nf):
  C9 182 #[Q9 c,Cz (Bk j) (A t)<|s.T t,GR k,GR v] w λe w'=>sL Z c B0 vN vT vS vU Bk A s t k v w e w':=by
 obtain⟨W,hW,ai,bu,o0,b1,b2,b3⟩:=sX w (.cells #[.slice (A t).va (s.T t).nv (A t).vc,.slice (A t).la (s.T t).d.n (A t).lc,.slice (A t).ia (s.T t).d.m (A t).ic,.slice (A t).xa (s.T t).d.x (A t).xc,J (s.T t).d.used,J (s.T t).d.live,J (s.T t).d.turns,Q9 (Bk j)] 197) (.cells (qe k) 43) (.cells (qe v) 43)<|.cells EM 197;have b0:W.heap[w.heap.size]?=some (.cells (CJ (Bk j) (A t)<|s.T t).toArray 197 (0,0)):=o0;have ad:(s.T t).nv<=12:=by rw[ah];exact IB hf hj
 rcases hM.enter ai,hM.base,hM.z,v5 b1 with⟨⟨hE,U⟩,H,ay,⟨k0,_,_,k3,_⟩⟩;have v0:W.cell? (Z9 w 0)=some (J v.kind):=by simp[World.cell?,b2]
 have x7:=EJ b0 7 _ rfl;have l0:w.heap.size<W.heap.size:=om;have l1:w.heap.size+1<W.heap.size:=om;have l2:w.heap.size+1+1<W.heap.size:=om;have bf:=((hM.rd t ht).now.1).below ai rfl;have bg:KA W s B0 Bk:=hE.nd;have az:k.kind=4->k.str.size<=4000:=λh=>by
  have h1:=hk.1;unfold Cc Vl.ok A8 at h1;simp[h]at h1;omega
 rcases O ay,O<|qj b0<|qj b1<|qj b2 b3,O<|qj hx<|qj ah av,O hf,O ax,O az with⟨bh,R,HX,HF,bj,bk⟩;have V:Hid<|∀w1,A6 (ZB Z w.heap.size W.heap.size) w1 c B0 vN vT vS vU Bk A s->BF (Az B0 c vN vT vS w) w (Az B0 c vN vT vS w1) w1->w1.heap[w.heap.size+1+1+1]?=some (.cells EM 197 (0,0))->B8 s (s.T t) k v=.loose->∃w2,(Instr.storeAt 197 (Q9<|w.heap.size+1+1+1)<|.agg EM).run prog w1=.ok () w2/\Bj w1 w2 (w.heap.size+1+1+1) EM 197/\sL Z c B0 vN vT vS vU Bk A s t k v w (.returned<|.tuple #[.agg EM,.bool false]) w2:=O (λw1 m1 d1 hb hw=>by
  obtain⟨w2,h1,h2⟩:=fR hb;obtain⟨f1,f2⟩:=A6.bQ m1 d1 H om om hb h2;exact⟨w2,h1,h2,.inl ⟨rfl,hw,f1,f2⟩⟩)
 have aM:Hid (∀w1 u B' p a' x' s',A6 (ZB Z w.heap.size W.heap.size) w1 c B0 u vT vS vU B' A s'->BF (Az B0 c vN vT vS w) w (Az B0 c u vT vS w1) w1->w1.heap[w.heap.size+1+1+1]?=some (.cells EM 197 (0,0))->Rd (OZ (ZB Z w.heap.size W.heap.size) B0 c u vT vS w1) w1 a' x'->AL B' a' x'=.iface 197 (.agg (CJ p a' x').toArray)->BJ s' t x'=Ct s t k v->B8 s (s.T t) k v≠.full->s'.nt=s.nt->
   ∃w2,(Instr.storeAt 197 (Q9 (w.heap.size+1+1+1)) (.agg (CJ p a' x').toArray)).run prog w1=.ok () w2/\Bj w1 w2 (w.heap.size+1+1+1) (CJ p a' x').toArray 197/\sL Z c B0 vN vT vS vU Bk A s t k v w (.returned (.tuple #[.agg (CJ p a' x').toArray,.bool true])) w2):=O (λw1 u B' p a' x' s' m1 d1 hb hR e1 e2 e3 e4=>by
  obtain⟨w2,h1,h2⟩:=WN hb p a' x';obtain⟨f1,f2⟩:=A6.bQ m1 d1 H om om hb h2;exact⟨w2,h1,h2,.inr ⟨u,B',p,a',x',s',rfl,e1,e2,e3,e4,f1,f2,m1.tG H om om hb h2 hR⟩⟩)
 have ae:∀(P:Way),(¬(k.kind=4/\v.kind≠0)->P=.loose)->(k.kind=4->v.kind≠0->0<=Bc s.F j k.str->P=.DK)->(k.kind=4->v.kind≠0->¬0<=Bc s.F j k.str->0<=Er s.nf s.F j k.str->P=.grow)->(k.kind=4->v.kind≠0->¬0<=Bc s.F j k.str->¬0<=Er s.nf s.F j k.str->P=.loose)->B8 s (s.T t) k v=P:=by
  intro P p1 p2 p3 p4;unfold B8;rw[Cs aw,C3 om,hx,show(j:Int).toNat=j by omega];by_cases h1:k.kind=4/\v.kind≠0
  .rw[C3 h1];by_cases h2:0<=Bc s.F j k.str
   .rw[C3 h2,p2 h1.1 h1.2 h2]
   rw[Cs h2];by_cases h3:0<=Er s.nf s.F j k.str
   .rw[C3 h3,p3 h1.1 h1.2 h2 h3]
   rw[Cs h3,p4 h1.1 h1.2 h2 h3]
  rw[Cs h1,p1 h1]
 have B:=O ae;clear hM ay b0 b1 b2 b3 hx ah av hf ax az aw ai hk ae;by_cases C:k.kind=4
 case neg=>
  have d1:(k.kind !=4)=true:=by simp[C]
  have X:=O<|B .loose (λ_=>rfl) (λh=>absurd h C) (λh=>absurd h C) λh=>absurd h C;clear C;go_enter func182,ntmps182;go_upto_region 1 with fail
  rw[<-hW];clear hW;obtain⟨w2,f,l,o⟩:=z V W hE U R.2.2.2 X;rcases O f,O l,O o with⟨I,K,L⟩;clear f l o;go_wp2_with (refine Ag rfl rfl _ I ?_);refine GQ results182 underlying197 K.Bw L
 have d1:(k.kind !=4)=false:=by simp[C]
 have af:=O C;clear C;by_cases D:v.kind=0
 case pos=>
  have d2:(v.kind==0)=true:=by simp[D]
  have X:=O<|B .loose (λ_=>rfl) (λ_ h=>absurd D h) (λ_ h=>absurd D h) λ_ h=>absurd D h;clear D;go_enter func182,ntmps182;go_upto_region 1 with fail
  rw[<-hW];clear hW;obtain⟨w2,f,l,o⟩:=z V W hE U R.2.2.2 X;rcases O f,O l,O o with⟨I,K,L⟩;clear f l o;go_wp2_with (refine Ag rfl rfl _ I ?_);refine GQ results182 underlying197 K.Bw L
 have d2:(v.kind==0)=false:=by simp[D]
 have aj:=O D;clear D;have y0:W.cell? (Z9 w 0)=some (J v.kind):=by have b:=R.2.2.1;simp[World.cell?,b]
 have y1:W.cell? (Z9 w 1)=some (J v.num):=by have b:=R.2.2.1;simp[World.cell?,b]
 have y2:W.cell? (Z9 w 2)=some (F9 v.Af):=by have b:=R.2.2.1;simp[World.cell?,b]
 have y3:W.cell? (Z9 w 3)=some (.string v.str):=by have b:=R.2.2.1;simp[World.cell?,b]
 have y4:W.cell? (Z9 w 4)=some (J v.ref):=by have b:=R.2.2.1;simp[World.cell?,b]
 obtain⟨pl,M⟩:=o9<|Bc s.F j k.str;have ak:Hid<|C9 106 #[Q9 (Bk j),.string k.str] W λe w'=>e=.returned (J pl)/\w'=W:=O (by rw[M];exact bg.dR HF hj _);have bm:Hid<|W.heap[w.heap.size]?=some (.cells #[.slice (A t).va (s.T t).nv (A t).vc,.slice (A t).la (s.T t).d.n (A t).lc,.slice (A t).ia (s.T t).d.m (A t).ic,.slice (A t).xa (s.T t).d.x (A t).xc,J (s.T t).d.used,J (s.T t).d.live,J (s.T t).d.turns,Q9 (Bk j)] 197 (0,0)):=O R.1;by_cases h0:0<=pl
 case pos=>
  have a6:decide (0<=pl)=true:=by simp[h0]
  obtain⟨i,hi⟩:∃i:Nat,pl=i:=⟨pl.toNat,om⟩;have JS:i<(s.T t).nv:=by
   rcases JK HF hj k.str with h|⟨q,h1,h2⟩
   .omega
   rw[(z HX).2.1];omega
  have X:Hid<|B8 s (s.T t) k v=.DK/\Ct s t k v=BJ s t (Gn (s.T t) i v):=O (by
   have h1:=z B .DK (λh=>absurd ⟨af,aj⟩ h) (λ_ _ _=>rfl) (λ_ _ h=>absurd (by rw[<-M];exact h0) h) (λ_ _ h=>absurd (by rw[<-M];exact h0) h);refine⟨h1,?_⟩;unfold Ct;rw[h1];show BJ s t (Gn (s.T t) (Bc s.F (s.T t).shape.toNat k.str).toNat v)=_;rw[(z HX).1,show((j:Int)).toNat=j by omega,<-M,hi];rfl)
  have bn:=O<|Vg (Bk j) (A t) (s.T t) i v bf JS ad;rw[hi]at ak a6;clear M h0 hi;go_enter func182,ntmps182;go_upto_region 1 with fail
  rw[<-hW];clear hW;go_wp2_with fail;refine ak.mono ?_;rintro e w1 ⟨rfl,rfl⟩;go_wp2_with (first|(refine Aal rfl 197 _ rfl w.heap.size rfl _ _ _ _ bm underlying197 rfl MA ?_));refine bn.mono ?_;rintro e w3 ⟨⟨g,cp,rfl,a⟩,E⟩;obtain⟨m3,d3⟩:=hE.below E;have ao:=(a.lt g rfl).1;have a7:Rd (OZ (ZB Z w.heap.size w1.heap.size) B0 c vN vT vS w3) w3 {A t with va:=some (G g 0),vc:=cp}<|Gn (s.T t) i v:=Rd.pZ (t:=Gn (s.T t) i v) a rfl (m3.Wk (w0:=w1) (λq e=>e.elim (λe=>oS<|z bh q e) λe=>e.2) a ao) HX.2.2;obtain⟨w2,f,l,o⟩:=z aM w3 vN Bk (Bk j) {A t with va:=some (G g 0),vc:=cp} (Gn (s.T t) i v) s m3 (U.trans d3) ((E.block _ om).trans R.2.2.2) a7 (by
   unfold AL;rw[Cs (by show¬(s.T t).shape=-1;rw[(z HX).1];omega)];show Value.iface _ (Cz (Bk (s.T t).shape.toNat) _ _)=_;rw[(z HX).1];rfl) X.2.symm (by rw[(z X).1];decide) rfl
  clear E m3 d3 a a7;rcases O f,O l,O o with⟨I,K,L⟩;clear f l o;go_wp2_with (refine Ag rfl rfl _ I ?_);refine GQ results182 underlying197 K.Bw L
 have a6:decide (0<=pl)=false:=by simp[h0]
 have bp:=O<|Z2 j k.str hE HF hj (bk af) bj;have a8:Hid<|Bc s.F j k.str<0:=O (by rw[<-M];omega);clear M h0;go_enter func182,ntmps182;go_upto_region 1 with fail
 rw[<-hW];clear hW;go_wp2_with fail;refine ak.mono ?_;rintro e w1 ⟨rfl,rfl⟩;go_wp2_with fail;refine bp.mono ?_;rintro e w3 (⟨hr,rfl,S,Q⟩|⟨r,hr,u,B',rfl,S,Q⟩)
 focus
  rcases O (B .loose (λh=>absurd ⟨af,aj⟩ h) (λ_ _ h=>absurd h<|oS<|z a8) (λ_ _ _ h=>by exfalso;rw[hr]at h;omega) λ_ _ _ _=>rfl),O S,O Q with⟨X,ag,aq⟩;have bq:Hid<|w3.heap[w.heap.size+1+1+1]?=some (.cells EM 197 (0,0)):=O ((Q.block _ om (λe=>by
   have hb:=R.2.2.2;exact hE.EH hb oo oo oo oo oo e)).trans R.2.2.2)
  clear S Q hr;obtain⟨w2,f,l,o⟩:=z V w3 ag (U.trans aq) bq X
 rotate_left
 focus
  have E:∀(q:Nat) (cs:Array Value) (ty:TypeId),w1.heap[q]?=some (Obj.cells cs ty (0,0))->(ty=197\/ty=43)->w3.heap[q]?=some (Obj.cells cs ty (0,0)):=λq cs ty hq ht=>(Q.block q (Ah hq) (λe=>by
   rcases ht with rfl|rfl
   .exact hE.EH hq oo oo oo oo oo e
   exact hE.EH hq oo oo oo oo oo e)).trans hq
  rcases E _ _ _ R.1 (.inl rfl),E _ _ _ R.2.2.1<|.inr rfl,E _ _ _ R.2.2.2 (.inl rfl) with⟨c0,c2,c3⟩;have br:Hid<|w3.heap[w.heap.size]?=some (.cells #[.slice (A t).va (s.T t).nv (A t).vc,.slice (A t).la (s.T t).d.n (A t).lc,.slice (A t).ia (s.T t).d.m (A t).ic,.slice (A t).xa (s.T t).d.x (A t).xc,J (s.T t).d.used,J (s.T t).d.live,J (s.T t).d.turns,Q9 (Bk j)] 197 (0,0)):=O c0;have bb:=O c3;have u0:w3.cell? (Z9 w 0)=some (J v.kind):=by simp[World.cell?,c2]
  have u1:w3.cell? (Z9 w 1)=some (J v.num):=by simp[World.cell?,c2]
  have u2:w3.cell? (Z9 w 2)=some (F9 v.Af):=by simp[World.cell?,c2]
  have u3:w3.cell? (Z9 w 3)=some (.string v.str):=by simp[World.cell?,c2]
  have u4:w3.cell? (Z9 w 4)=some (J v.ref):=by simp[World.cell?,c2]
  have X:Hid<|B8 s (s.T t) k v=.grow/\Ct s t k v=BJ {s with nf:=EU s.nf s.F j k.str,F:=ER s.nf s.F j k.str} t (IZ (s.T t) (r:Int) v):=O (by
   have h1:=z B .grow (λh=>absurd ⟨af,aj⟩ h) (λ_ _ h=>absurd h (oS (z a8))) (λ_ _ _ _=>rfl) (λ_ _ _ h=>by exfalso;rw[hr]at h;omega);refine⟨h1,?_⟩;unfold Ct;rw[h1];show{BJ s t (IZ (s.T t) (Er s.nf s.F (s.T t).shape.toNat k.str) v)with nf:=EU s.nf s.F (s.T t).shape.toNat k.str,F:=ER s.nf s.F (s.T t).shape.toNat k.str}=_;rw[(z HX).1,show((j:Int)).toNat=j by omega,hr];rfl)
  rcases O S,O Q,O<|YT (Bk j) (B' r) (A t) (s.T t) (r:Int) v ((S.rd t ht).now.1) ad HX.2.2,o9 (B' r) with⟨ag,aq,bc,⟨kb,ar⟩⟩;rw[<-ar]at bc ⊢;have bt:=O ar;clear E c0 c2 c3 S Q hr ar;go_wp2_with (first|(refine Aal rfl 197 _ rfl w.heap.size rfl _ _ _ _ br underlying197 rfl MA ?_));refine bc.mono ?_;rintro e w4 ⟨⟨g,cp,ao,rfl,a⟩,au⟩;obtain⟨m4,d4⟩:=ag.below au;have bd:Rd (OZ (ZB Z w.heap.size w1.heap.size) B0 c u vT vS w4) w4 (sS g cp)<|IZ (s.T t) (r:Int) v:=Rd.pZ (t:=IZ (s.T t) (r:Int) v) a rfl (m4.Wk (w0:=w3) (λq e=>by have:=ag.z q e;exact this) a ao) HX.2.2;obtain⟨w2,f,l,o⟩:=z aM w4 u B' kb (sS g cp) (IZ (s.T t) (r:Int) v) {s with nf:=EU s.nf s.F j k.str,F:=ER s.nf s.F j k.str} m4 ((U.trans aq).trans d4) ((au.block _<|oS<|Ah bb).trans bb) bd (by
   unfold AL;rw[Cs (by show¬(r:Int)=-1;omega),z bt];rfl) X.2.symm (by rw[(z X).1];decide) rfl
  clear au m4 d4 a bd
 all_goals
  rcases O f,O l,O o with⟨I,K,L⟩;clear f l o;go_wp2_with (refine Ag rfl rfl _ I ?_);refine GQ results182 underlying197 K.Bw L
def cK:(prog.info? 1).map (λi=>(i.zero,i.size,i.bytes))=some (some .nilFunc,1,8):=ou
def GM Z c B0 vN vT vS Bk A s(fn:Nat)cs w(j:A6 Z w c B0 vN vT vS (N9) Bk A s):
  C9 166 #[Q9 c,.func (.func fn) #[] cs] w λe w'=>(∃u,e=.returned u)/\∃g t,w.heap.size<=g/\w'.ownsRow w.heap.size 1 1 (S9 g 1 t) 1 [.func (.func fn) #[] cs]/\A6 Z w' c B0 vN vT vS (S9 g 1 t) Bk A s/\BF (Az B0 c vN vT vS w) w (Az B0 c vN vT vS w') w'/\∀k,k<w.heap.size->k≠c->w'.heap[k]?=w.heap[k]?:=by
 rcases ON cK,j.cells,j.lt with⟨⟨i0,l,m,n,o⟩,⟨c0,c1,c2,c3,cf⟩,B⟩;have C:Hid (∀g3 a w3,w3.ownsRow w.heap.size 1 1 (S9 g3 1 a) 1 ([]++[.func (.func fn) #[] cs])->(w.alloc<|.cells #[.func (.func fn) #[] cs] 1).grownBy w3 none->g3=w.heap.size+1->
   w3.cell? (G c 3)=some (N9)/\w3.frozen? (G c 3)=false/\c<w3.heap.size/\((w3.setCell (G c 3) (S9 g3 1 a)).ownsRow w.heap.size 1 1 (S9 g3 1 a) 1 [.func (.func fn) #[] cs]/\A6 Z (w3.setCell (G c 3) (S9 g3 1 a)) c B0 vN vT vS (S9 g3 1 a) Bk A s/\BF (Az B0 c vN vT vS w) w (Az B0 c vN vT vS (w3.setCell (G c 3) (S9 g3 1 a))) (w3.setCell (G c 3) (S9 g3 1 a))/\∀k,k<w.heap.size->k≠c->(w3.setCell (G c 3) (S9 g3 1 a)).heap[k]?=w.heap[k]?)):=O (by
  intro g3 a w3 h1 h2 h3;have i:B9 w w3:=⟨h2.os,h2.tape,h2.output,GP oq h2.size,λk hk=>(h2.block k ot oq).trans (DO _ _ _ hk)⟩;obtain⟨m3,d3⟩:=j.below i;obtain⟨_,_,_,e3,v⟩:=m3.cells;obtain⟨m4,d4⟩:=m3.rX (ua:=some (G g3 0)) (un:=1) (uc:=a);refine⟨e3,v 3,m3.lt,Ab h1 (λq e=>At _ _ _ _ (by cases e;show g3≠c;omega)),m4,d3.trans d4,λk hk p=>(At _ _ _ _ (by exact p)).trans (i.block k hk)⟩)
 go_enter func166,ntmps166;go_wp2_with (at_builtin;refine RC _ rfl _ _ 132 rfl w.heap.size 1 i0 .nilFunc 1 8 underlying132 l m n o rfl oo N9 0 [] rfl (NB _ _ _ _) (y w 0) 1 1 [.func (.func fn) #[] cs] rfl rfl (Is<|DD _ _) oh oo oo oo oq (w.heap.size+1) oq ?_;intro g3 a w3 f h b x;obtain⟨e3,v,D,d⟩:=z C g3 a w3 f h<|b.resolve_left (by simp[Value.ownBlock]);have d:=O d;have r:w.heap.size<=g3:=oS<|b.resolve_left (by simp[Value.ownBlock]);clear f h b);go_end0;exact⟨⟨_,rfl⟩,g3,a,r,d.1,d.2.1,d.2.2.1,d.2.2.2⟩
structure KF (w:Y) (c:Nat) (vU:V9) (t:Nat) (h:V9) (a d e f g:Nat):Prop where
 v:vU=S9 a 1 d
 u:w.ownsRow 0 1 1 (S9 a 1 d) 1 [.func (.func 187) #[] #[Q9 e,Q9 f,Q9 g]]
 k:w.heap[e]?=some (.cells #[h] 128 (0,0))
 b:w.heap[f]?=some (.cells #[Q9 c] 76 (0,0))
 n:w.heap[g]?=some (.cells #[J (t:Int)] 3 (0,0))
def KF.keep{t}{d f}(h:KF w c vU t j a l d f i)(h1:w'.heap[a]?=w.heap[a]?)(m:w'.heap[d]?=w.heap[d]?)(h2:w'.heap[f]?=w.heap[f]?)(h3:w'.heap[i]?=w.heap[i]?):KF w' c vU t j a l d f i:=
 ⟨h.v,Ab h.u (λg e=>by cases e;exact h1),m.trans h.k,h2.trans h.b,h3.trans h.n⟩
def Ry(a b c g t:Nat)(vT d:V9)(W:Y):Prop:=W.cell? (G a 0)=some (Q9 c)/\W.cell? (G b 0)=some (J (t:Int))/\W.cell? (G c 1)=some vT/\W.cell? (G g t)=some d
def Vs(a b c t:Nat)(vT:V9)(W:Y):Prop:=W.cell? (G a 0)=some (Q9 c)/\W.cell? (G b 0)=some (J (t:Int))/\W.cell? (G c 1)=some vT
def LW Bk a x:∃ty v,AL Bk a x=.iface ty v:=by
 unfold AL;split;all_goals grind [AL]
def Jc Z c B0 vN vT vS Bk A s t a' x' w(B:A6 Z w c B0 vN vT vS (N9) Bk A s)(V:t<s.nt)(au:s.nt<=100)(hr:Rd (OZ Z B0 c vN vT vS w) w a' x'):
  C9 172 #[Q9 c,J t,AL Bk a' x'] w λe w'=>(∃u,e=.returned u)/\∃E,A6 Z w' c B0 vN vT vS E Bk (AX A t a') (BJ s t x')/\BF (Az B0 c vN vT vS w) w (Az B0 c vN vT vS w') w'/\(∀k,k<w.heap.size->k≠c->vT.ownBlock≠some k->w'.heap[k]?=w.heap[k]?)/\∃j m bb bw bn,KF w' c E t (AL Bk (A t)<|s.T t) j m bb bw bn/\vT.ownBlock≠some bb:=by
 obtain⟨g,f,hv,ad,av,ae,aw⟩:=B.CU V;subst hv;rcases LW Bk (A t) (s.T t),LW Bk a' x',S7 w (.cells #[Q9 c] 76)<|.cells #[J (t:Int)] 3,B.lt with⟨⟨ty,C,F⟩,⟨ty',i,o⟩,⟨W,hW,n,af,b0,b1⟩,ag⟩;have ah:c≠g:=λe=>B.Ba B.t oo<|qh e;obtain⟨X,D⟩:=o9<|(W.alloc<|.cells #[.iface ty C] 128).drew;have r:B9 w X:=by rw[D];exact(n.alloc n.size _).drew
 have b:B9 W X:=by rw[D];exact(n9).drew
 have ax:X.heap.size=w.heap.size+1+1+1:=by rw[D];simp;omega
 have x2:X.heap[w.heap.size+1+1]?=some (.cells #[.iface ty C] 128 (0,0)):=by
  rw[D,<-af];exact DD W _
 have d:Ry w.heap.size (w.heap.size+1) c g t (S9 g s.nt f) (.iface ty C) W.drew:=⟨by show W.cell? _=_;simp[World.cell?,b0],by show W.cell? _=_;simp[World.cell?,b1],(n.cell (p:=G c 1) ag).trans B.cells.2.1,(n.cell (p:=G g t) ad).trans<|ae.trans<|by rw[F]⟩;obtain⟨hE,H⟩:=B.enter r;have I:Hid (∀w1 j m,W.heap.size<w1.heap.size->(∀k,k<X.heap.size->k≠c->w1.heap[k]?=X.heap[k]?)->X.heap.size<=j->w1.ownsRow X.heap.size 1 1 (S9 j 1 m) 1 [.func (.func 187) #[] #[Q9 (w.heap.size+1+1),Q9 w.heap.size,Q9 (w.heap.size+1)]]->
   A6 (ZB Z w.heap.size X.heap.size) w1 c B0 vN (S9 g s.nt f) vS (S9 j 1 m) Bk A s->BF (Az B0 c vN (S9 g s.nt f) vS X) X (Az B0 c vN (S9 g s.nt f) vS w1) w1->
   Vs w.heap.size (w.heap.size+1) c t (S9 g s.nt f) w1.drew/\Vs w.heap.size (w.heap.size+1) c t (S9 g s.nt f) ((w1.setCell (G g t)<|.iface ty' i).drew)/\g<w1.heap.size/\(∃u,w1.cell? (G g t)=some u)/\w1.frozen? (G g t)=false/\
   (A6 Z (w1.setCell (G g t)<|.iface ty' i).drew c B0 vN (S9 g s.nt f) vS (S9 j 1 m) Bk (AX A t a') (BJ s t x')/\BF (Az B0 c vN (S9 g s.nt f) vS w) w (Az B0 c vN (S9 g s.nt f) vS (w1.setCell (G g t)<|.iface ty' i).drew) (w1.setCell (G g t)<|.iface ty' i).drew/\(∀k,k<w.heap.size->k≠c->(Value.slice (some<|G g 0) s.nt f).ownBlock≠some k->(w1.setCell (G g t)<|.iface ty' i).drew.heap[k]?=w.heap[k]?)/\
    KF (w1.setCell (G g t) (.iface ty' i)).drew c (S9 j 1 m) t (AL Bk (A t) (s.T t)) j m (w.heap.size+1+1) w.heap.size (w.heap.size+1))):=O (by
  intro w1 j m ay l L v m1 d1;have y0:=(l _ om om).trans<|(b.block _ om).trans b0;have y1:=(l _ om om).trans<|(b.block _ om).trans b1;have y2:=(l _ om om).trans x2;have ai:Rd (OZ (ZB Z w.heap.size X.heap.size) B0 c vN (S9 g s.nt f) vS w1) w1 a' x':=by
   intro aj hs hk;refine hr aj (GP r.size<|GP d1.size hs) λk k1 k2=>?_;have hd:=H.trans d1;refine(hk k (A0 k1 hd.size) λe=>?_).trans (hd.block k k1 λe=>k2<|.inl e);rcases e with e|e|e
   .exact(hd.own k e).elim (λe=>k2<|.inl e) λe=>om
   .exact k2 (.inr e)
   omega
  have M:g<w1.heap.size:=A0 om d1.size;have P:w1.cell? (G g t)=some (AL Bk (A t)<|s.T t):=by rw[Ok m1.t t om,LV V]
  have Q:∀q,w1.frozen? (G g q)=false:=λq=>by obtain⟨cur,hb,_⟩:=AV m1.t rfl;simp[World.frozen?,hb]
  obtain⟨m2,d2⟩:=m1.Gi rfl V ai;rw[o]at m2 d2;have st:∀q,q≠g->(w1.setCell (G g t)<|.iface ty' i).heap[q]?=w1.heap[q]?:=λq hq=>At _ _ _ _ (by exact hq);have R:=m1.cells.2.1;refine⟨⟨by show w1.cell? _=_;simp[World.cell?,y0],by show w1.cell? _=_;simp[World.cell?,y1],R⟩,⟨?_,?_,(As (a:=G c 1)<|st c ah).trans R⟩,M,⟨_,P⟩,Q t,(m2.leave λk e=>.inl e).drew,((H.trans d1).trans d2).Ts,λk hk ak ao=>?_,⟨rfl,Pd (Ab v λq e=>st q<|by cases e;show j≠g;omega)<|W9 _,?_,(st _ om).trans y0,(st _ om).trans y1⟩⟩
  .exact(As (a:=y w 0)<|st w.heap.size om).trans (by simp[World.cell?,y0])
  .exact(As (a:=Y9 w 0)<|st (w.heap.size+1) om).trans (by simp[World.cell?,y1])
  .exact(st k λe=>ao<|qh e).trans ((l k om ak).trans<|r.block k hk)
  exact((st _ om).trans y2).trans (by rw[F]))
 have S:Ry w.heap.size (w.heap.size+1) c g t (S9 g s.nt f) (.iface ty C) X:=⟨(b.cell (p:=y w 0)<|by show w.heap.size<_;omega).trans d.1,(b.cell (p:=Y9 w 0)<|by show w.heap.size+1<_;omega).trans d.2.1,(b.cell (p:=G c 1)<|by show c<_;omega).trans d.2.2.1,(b.cell (p:=G g t)<|by show g<_;omega).trans d.2.2.2⟩;have x:∀cs,Ry w.heap.size (w.heap.size+1) c g t (S9 g s.nt f) (.iface ty C) (W.alloc<|.cells cs 128).drew:=λcs=>by
  have hb:B9 W (W.alloc<|.cells cs 128).drew:=(n9).drew;exact⟨(hb.cell (p:=y w 0)<|by show w.heap.size<_;omega).trans d.1,(hb.cell (p:=Y9 w 0)<|by show w.heap.size+1<_;omega).trans d.2.1,(hb.cell (p:=G c 1)<|by show c<_;omega).trans d.2.2.1,(hb.cell (p:=G g t)<|by show g<_;omega).trans d.2.2.2⟩
 have ar:W.heap.size<X.heap.size:=om;have x0:=S.1;rw[o];go_enter func172,ntmps172;go_wp2_with fail;rw[<-hW];clear hW;refine Gq (Ry w.heap.size (w.heap.size+1) c g t (S9 g s.nt f)<|.iface ty C) ?_;refine tz 0 (h:=tz 1 (h:=tz 2 (h:=tz 3 (h:=tz 4 (h:=tz 5 (h:=tz 6 (h:=tz 7 (h:=?_))))))));refine ry 8 λK hK=>?_;go_simp;refine hK.out _ _ (x _) λ_=>?_;clear hK K;refine ry 9 λK hK=>?_;go_simp;refine hK.out _ _ (x _) λ_=>?_;clear hK K;refine Fj ?_;rw[<-D];clear D d S x;go_wp2_with fail;refine(GM _ c B0 _ _ _ Bk A s 187 #[Q9 (w.heap.size+1+1),Q9 w.heap.size,Q9 (w.heap.size+1)] X hE).mono ?_;rintro e w1 ⟨⟨uu,rfl⟩,j,m,L,v,m1,d1,l⟩;obtain⟨az,aq,aM,⟨u0,a6⟩,a7,U⟩:=z I w1 j m (oS d1.size) l L v m1 d1;go_wp2_with fail;refine Gq (Vs w.heap.size (w.heap.size+1) c t<|S9 g s.nt f) ?_;refine tz 0 (h:=tz 1 (h:=tz 2 (h:=tz 3 (h:=tz 4 (h:=tz 5 (h:=tz 6 (h:=tz 7 (h:=?_))))))));refine ry 8 λK hK=>?_;go_simp;refine hK.out _ _ aq λ_=>?_;clear hK K;refine Fj ?_;go_wp2_with fail;go_end0;obtain⟨f1,f2,f3,f4⟩:=z<|O U;exact⟨⟨_,rfl⟩,_,f1,f2,f3,j,m,w.heap.size+1+1,w.heap.size,w.heap.size+1,f4,λe=>by have e:g=w.heap.size+1+1:=Aah e;omega⟩
def AG.OD(h:AG w bk r0 r1 R2 E S d)(hs:w.heap.size<=w'.heap.size)(hk:∀k,bk<=k->k<w.heap.size->w'.heap[k]?=w.heap[k]?):AG w' bk r0 r1 R2 E S d:=by
 have hb:=hk bk (Be _) h.lt;have e:∀q,w'.cell? (G bk q)=w.cell? (G bk q):=λq=>As (a:=G bk q) hb;have b:∀{t:TypeId} {v:V9} {n:Nat} {f:Nat->Option Addr},Rw w (bk+1) t v n f->Rw w' (bk+1) t v n f:=λc=>Ab c λq hq=>hk q (oS (c.lt q hq).1) (c.lt q hq).2;refine⟨A0 h.lt hs,(e _).trans h.c0,(e _).trans h.c1,(e _).trans h.c2,(e _).trans h.c3,(e _).trans h.c4,(e _).trans h.c5,(e _).trans h.c6,λq=>(ID (a:=G bk q) hb).trans<|h.fz q,b h.log,b h.ints,h.rf,b h.slots,h.ap,λi hi=>(h.Cw i hi).keep hs<|hk _ (AaM<|h.eb i hi) (h.Cw i hi).lt,h.eb,h.inj,λj hj=>⟨λhp=>((h.sl j hj).1 hp).keep hs<|hk _ (AaM<|h.sg j hj om)<|Ah ((h.sl j hj).1 hp).ob,λhp=>((h.sl j hj).2 hp).keep hs<|hk _ (AaM<|h.sg j hj om)<|Ah ((h.sl j hj).2 hp).ob⟩,h.sg⟩
def Rd.IY{X}{A}{c0 c1 c2}(h:DV t.d w (.slice A.la t.d.n c0) (.slice A.ia t.d.m c1) (.slice A.xa t.d.x c2) lo hi)(hn:t.nv=0)(j:∀b cs ty,w.heap[b]?=some (.cells cs ty (0,0))->(ty=166\/ty=3)->lo<=b->¬X b):Rd X w A t:=λw' hs hk=>by
 have hl:Lr t.d.L t.d.n w' (.slice A.la t.d.n c0) lo hi:=by
  rcases h.log with h|⟨b,e,Z,g,h1,h2,h3,h4,h5,i⟩
  .exact .inl h
  obtain⟨c,hc,_,_⟩:=id h4;exact .inr ⟨b,e,Z,g,h1,h2,h3,GW h4<|hk b (Ah hc)<|j b _ _ hc (.inl rfl) h2,h5,i⟩
 have a:∀{f:Nat->Int} {n:Nat} {v:V9},Iv f n w v lo hi->Iv f n w' v lo hi:=λk=>by
  rcases k with h|⟨b,e,Z,g,h1,h2,h3,h4,h5,i⟩
  .exact .inl h
  obtain⟨c,hc,_,_⟩:=id h4;exact .inr ⟨b,e,Z,g,h1,h2,h3,GW h4<|hk b (Ah hc)<|j b _ _ hc (.inr rfl) h2,h5,i⟩
 obtain⟨la,lc,ia,ic,xa,xc,e0,e1,e2,l⟩:=DV.at (⟨hl,a h.ints,a h.index,h.sM,h.sN,h.a12⟩:DV t.d w' _ _ _ lo hi);cases e0;cases e1;cases e2;exact⟨.inl hn,l⟩
def Y5 Bk x d k v la ia xa lc ic xc:AL Bk ⟨none,0,la,lc,ia,ic,xa,xc⟩ (Eo x d k v)=.iface 194 (.agg #[N9,.slice la (Ce hN d k v).n lc,.slice ia (Ce hN d k v).m ic,.slice xa (Ce hN d k v).x xc,J (Ce hN d k v).used,J (Ce hN d k v).live,J (Ce hN d k v).turns]):=C3 rfl
def sK(Z:Nat->Prop)(c B0:Nat)(vN vT vS:V9)(Bk:Nat->Nat)(A:Nat->Ad)(s:AK)(t:Nat)(d:Dc)(k v:Vl)(w:Y)(e:Ending)(w':Y):Prop:=
 e=.returned (CB<|if Ep d k v=true then 5 else 0)/\∃a a',A6 Z w' c B0 vN vT vS a Bk (AX A t a') (BJ s t<|Eo (s.T t) d k v)/\BF (Az B0 c vN vT vS w) w (Az B0 c vN vT vS w') w'/\∃f g b h i,KF w' c a t (AL Bk (A t)<|s.T t) f g b h i/\vT.ownBlock≠some b
def Jm{Bk}t{la:Option Addr}lc{ia:Option Addr}ic{xa:Option Addr}xc{d}{k v}{w}(hM:A6 Z w c B0 vN vT vS (N9) Bk A s)(ht:t<s.nt)(bf:s.nt<=100)(hT:B2 w)(hD:Ea w la ia xa d)(hI:Inv Ky hN d)(hm:d.m<=4000000)(hk:Ky k)(hv:v.ok=true)(hR:Mm k v)(bq:5<=B0):
  C9 183 #[Q9 c,J t,Dv la lc ia ic xa xc d,GR k,GR v] w λe w'=>sK Z c B0 vN vT vS Bk A s t d k v w e w':=by
 obtain⟨W,hW,ao,br,b0,b1,b2⟩:=gW w (.cells #[.slice la d.n lc,.slice ia d.m ic,.slice xa d.x xc,J d.used,J d.live,J d.turns] 103) (.cells (qe k) 43)<|.cells (qe v) 43;rcases hI.small om,hI.sound B6,Jb B6 hI hk hk.1 hv,Ww (v:=v) B6 hI hk,O<|YQ hI hk hv,hM.lt,(hM.t.lt),hM.base,O<|qj b1 b2,hD.below ao,O hv with⟨hS,aq,h,bg,K,bt,ar,bu,au,av,HV⟩;have bh:=O ar;clear b0 b1 b2 hD hv ar;go_enter func183,ntmps183;go_wp2_with fail;rw[<-hW];clear hW;refine(Ii lc ic xc av hS aq.d3 aq.d4).mono ?_;rintro e w1 ⟨⟨bk,R0,R1,R2,E,S,rfl,aw,X⟩,L⟩;rcases AG.X1 aw X hS,X.gb,z au with⟨ax,bx,⟨b1,b2⟩⟩;have b1:=(L.block _ om).trans b1;have b2:=(L.block _ om).trans b2;obtain⟨k0,k1,k2,k3,k4⟩:=v5 b1;obtain⟨v0,v1,v2,v3,v4⟩:=v5 b2;have p:=O<|qj b1 b2;have ay:=ao.trans<|L.mono om;clear aw X L b1 b2 av au;go_wp2_with fail;refine(Yc A1 B6 Nn (λa b ha hb=>ha.below hb om) v (A1 _ _ hT ay) ax hS hm hI hk hk.1 HV hR).mono ?_;rintro e w2 ⟨⟨⟨uu,rfl⟩,r0,r1,bz,E2,S2,r⟩,⟨M,_⟩⟩;have az:=ay.trans<|M.mono om;have C:=O<|qj ((M.block _ om).trans p.1)<|(M.block _ om).trans p.2;have bp:=r.lt;clear M k0 k1 k2 k3 k4 v0 v1 v2 v3 v4 p ax;obtain⟨D,ad⟩:=o9<|Ce hN d k v;rw[<-ad]at r h bg K;have aM:=O ad;clear ad;go_wp2_with fail;refine(Tq r (h.small om) (λj hj=>by
  rcases h.i0.ints j hj with e|e<;>omega) (λj hj=>by
  rcases h.i0.idx.range j hj with e|e|⟨e1,e2,_⟩
  .exact .inl e
  .exact .inr (.inl e)
  exact .inr (.inr ⟨e1,om⟩))).mono ?_
 rintro e w3 ⟨⟨u0,u1,u2,rfl,ae⟩,l⟩;obtain⟨ua,uc,ub,ud,ue,uf,e0,e1,e2,-⟩:=ae.at;subst e0 e1 e2;have z3:=l.size;have af:=az.trans<|l.mono om;obtain⟨m3,d3⟩:=hM.below af;have a6:Hid<|Rd (OZ Z B0 c vN vT vS w3) w3 ⟨none,0,ua,uc,ub,ud,ue,uf⟩<|Eo (s.T t) d k v:=O (by
  have aj:DV (Eo (s.T t) d k v).d w3 (.slice ua (Eo (s.T t) d k v).d.n uc) (.slice ub (Eo (s.T t) d k v).d.m ud) (.slice ue (Eo (s.T t) d k v).d.x uf) w2.heap.size w3.heap.size:=by
   show DV (Ce hN d k v) w3 (.slice ua (Ce hN d k v).n uc) (.slice ub (Ce hN d k v).m ud) (.slice ue (Ce hN d k v).x uf) _ _;rw[<-z aM];exact ae
  refine Rd.IY (A:=⟨none,0,ua,uc,ub,ud,ue,uf⟩) aj rfl (λb cs ty hb hty b3=>?_);rintro(e|e)
  .rcases hty with rfl|rfl
   .exact m3.EH hb oo oo oo oo oo e
   exact m3.EH hb oo oo oo oo oo e
  have:=hM.z b e;omega)
 rcases O (qj ((l.block _ om).trans C.1)<|(l.block _ om).trans C.2),r.below l,A1 _ _ hT af with⟨F,R,bj⟩;have bm:Hid<|AL Bk ⟨none,0,ua,uc,ub,ud,ue,uf⟩ (Eo (s.T t) d k v)=.iface 194 (.agg #[N9,.slice ua D.n uc,.slice ub D.m ud,.slice ue D.x uf,J D.used,J D.live,J D.turns]):=O (by rw[Y5,z aM]);have ag:=O<|Jc Z c B0 vN vT vS Bk A s t ⟨none,0,ua,uc,ub,ud,ue,uf⟩ (Eo (s.T t) d k v) w3 m3 ht bf a6;rw[z bm]at ag;clear ae l af az C a6 r;go_wp2_with fail;refine ag.mono ?_;rintro e w4 ⟨⟨b4,rfl⟩,P,a7,g,a8,gu,cu,bb,bw,bn,o,U⟩;have z4:=g.size;have Q:∀q,w.heap.size<=q->q<w3.heap.size->w4.heap[q]?=w3.heap[q]?:=λq h1 h2=>a8 q h2 om λe=>oS (bh q e).2;have ak:=O<|R.OD z4 λq h1 h2=>Q q om h2;have b1:=(Q _ om om).trans F.1;have b2:=(Q _ om om).trans F.2;obtain⟨k0,k1,k2,k3,k4⟩:=v5 b1;have v0:w4.cell? (Z9 w 0)=some (J v.kind):=by simp[World.cell?,b2]
 have bc:=bj.below (B:=B0) ⟨g.os,g.tape,g.output,g.size,λq hq=>g.block q om λe=>oS (m3.Pm e).1⟩ om;have H:Hid<|C9 196 #[Q9 bk,V k.kind k.num k.Af k.str k.ref] w4<|R9 (.pointer<|C2 E2<|Aw D k<|hN k) w4:=O (by
  obtain⟨b5,b6,hB⟩:=ak.book;exact Jq A1 (Nn k hk) bc hB (h.small om) h.i0.d3 h.i0.d4)
 have ah:Hid<|∀w5,B9 w4 w5->∃P a',A6 Z w5 c B0 vN vT vS P Bk (AX A t a') (BJ s t<|Eo (s.T t) d k v)/\BF (Az B0 c vN vT vS w) w (Az B0 c vN vT vS w5) w5/\∃gu cu bb bw bn,KF w5 c P t (AL Bk (A t)<|s.T t) gu cu bb bw bn/\vT.ownBlock≠some bb:=O (λw5 f=>by
  obtain⟨m5,d5⟩:=a7.below f;refine⟨P,_,m5,(d3.trans g).trans d5,gu,cu,bb,bw,bn,o.keep (f.block _ ?_) (f.block _ (Ah o.k)) (f.block _ (Ah o.b)) (f.block _ (Ah o.n)),U⟩;exact(o.u.lt gu rfl).2)
 clear a7 g a8 o U Q b1 b2 bc ag R F;by_cases i:v.kind=0
 .have dv:(v.kind !=0)=false:=by simp[i]
  have HR:Hid<|Ep d k v=false:=O (by rw[z K];simp[i]);clear i;go_wp2;refine GO (v:=CB 0) (by simp[results,results183,go_sem,CB]) rfl ⟨qg HR,ah _<|BE _ _⟩
 have dv:(v.kind !=0)=true:=by simp[i]
 by_cases hp:Aw D k (hN k)<0
 .have HR:Hid<|Ep d k v=true:=O (by rw[z K];simp[i,hp]);have I:C2 E2 (Aw D k<|hN k)=none:=by unfold C2;rw[Cs om]
  rw[I]at H;clear i hp I;go_wp2_with fail;refine H.mono ?_;rintro e w5 ⟨rfl,f⟩;have ai:=O<|ah w5 f;clear f;go_wp2;refine GO (v:=CB 5) (by simp[results,results183,go_sem,CB]) rfl ⟨qg HR,ai⟩
 have HR:Hid<|Ep d k v=false:=O (by rw[z K];simp[hp]);have I:C2 E2 (Aw D k<|hN k)=some (G (E2 (Aw D k<|hN k).toNat) 0):=by unfold C2;rw[C3 om]
 rw[I]at H;obtain⟨eb,bd⟩:=o9<|E2 (Aw D k<|hN k).toNat;rw[<-bd]at H;clear i hp I bd;go_wp2_with fail;refine H.mono ?_;rintro e w5 ⟨rfl,f⟩;have ai:=O<|ah w5 f;clear f;go_wp2;refine GO (v:=CB 0) (by simp[results,results183,go_sem,CB]) rfl ⟨qg HR,ai⟩
structure KG (fn:Nat) (w:Y) (c:Nat) (vU:V9) (n a d e f:Nat):Prop where
 v:vU=S9 a 1 d
 u:w.ownsRow 0 1 1 (S9 a 1 d) 1 [.func (.func fn) #[] #[Q9 e,Q9 f]]
 b:w.heap[e]?=some (.cells #[Q9 c] 76 (0,0))
 n:w.heap[f]?=some (.cells #[J (n:Int)] 3 (0,0))
def KG.keep{fn}{d f}(h:KG fn w c vU n a i d f)(h1:w'.heap[a]?=w.heap[a]?)(h2:w'.heap[d]?=w.heap[d]?)(h3:w'.heap[f]?=w.heap[f]?):KG fn w' c vU n a i d f:=
 ⟨h.v,Ab h.u (λg e=>by cases e;exact h1),h2.trans h.b,h3.trans h.n⟩
def Hn(a c g:Nat)(vN:V9)(p:Nat)(W:Y):Prop:=W.cell? (G a 0)=some (Q9 c)/\W.cell? (G c 0)=some vN/\W.cell? (G g 0)=some (Q9 p)
def Hn.keep(h:Hn b c g vN p w)(h1:w'.heap[b]?=w.heap[b]?)(h2:w'.heap[c]?=w.heap[c]?)(h3:w'.heap[g]?=w.heap[g]?):Hn b c g vN p w':=
 ⟨(As (a:=G b 0) h1).trans h.1,(As (a:=G c 0) h2).trans h.2.1,(As (a:=G g 0) h3).trans h.2.2⟩
def rE Bk:AL Bk default Lv=.iface 197 (.agg #[N9,N9,N9,N9,J 0,J 0,J 0,Q9 (Bk 0)]):=by
 unfold AL;rw[Cs oo];rfl
def Qu{Bk}a{w}(m:A6 Z w c B0 vN vT vS (N9) Bk A s)(br:s.nt<=100)(az:0<s.nf):
  C9 136 #[Q9 c,Kz a] w λe w'=>(∃U V A',A6 Z w' c B0 vN U vS V Bk A' {s with nt:=s.nt+1,T:=AX s.T s.nt Lv}/\BF (Az B0 c vN vT vS w) w (Az B0 c vN U vS w') w'/\
   (s.nt≠100->e=.returned (.tuple #[Hk (DI s.nt),CB 0]))/\(s.nt=100->e=.returned (.tuple #[Hk (BH 0),CB 5])/\∃C cu bw bn,KG 167 w' c V s.nt C cu bw bn)):=by
 obtain⟨ta,tc,rfl⟩:=AE m.t;obtain⟨na,nc,rfl⟩:=AE m.n;obtain⟨f,aM,a6,X⟩:∃f,na=some (G f 0)/\f<w.heap.size/\w.cell? (G f 0)=some (Q9<|Bk 0):=by
  obtain⟨hl,⟨hv,h0⟩|⟨g,cap,cur,hv,hb,ad,h1,h2,h3,h4⟩⟩:=m.n
  .omega
  cases hv;exact⟨g,rfl,(E1.1 ad).1,by rw[Ok m.n 0 om,K7 az]⟩
 subst aM;obtain⟨i0,a7,a8,bb,bc⟩:=ON TX;obtain⟨W,hW,I,ah,b0,_,o2,b3⟩:=sX w (.cells #[Q9 c] 76) (.cells (GU a) 51) (.cells aF 45)<|.cells #[J (s.nt:Int)] 3;have b2:Iw W<|w.heap.size+1+1:=o2;rcases m.enter I,m.lt,m.base,m.cells with⟨⟨hE,ai⟩,bt,o,⟨c0,c1,c2,c3,cf⟩⟩;have aj:c≠f:=λe=>m.Ba m.n oo<|qh e;rcases O (qj b0<|qj b2 b3),O ah,O ((I.cell a6).trans X) with⟨ak,HZ,ao⟩;have bu:c<w.heap.size+1:=om;have bx:c<w.heap.size+1+1:=om;clear m b0 b2 b3 c0 c2 c3 cf I ah X;go_enter func136,ntmps136;go_wp2_with fail;rw[<-hW];clear hW c1;refine(GM _ c B0 _ _ _ Bk A s 167 #[Q9 w.heap.size,Q9 (w.heap.size+1+1+1)] W hE).mono ?_;rintro e w1 ⟨⟨uu,rfl⟩,C,cu,bz,aq,k,L,r⟩;rcases z HZ,L.size,z ak with⟨zW,bk,⟨b0,b2,b3⟩⟩;have b0:=(r _ om om).trans b0;have b2:Iw w1<|w.heap.size+1+1:=(r _ om om).trans b2;have b3:=(r _ om om).trans b3;have ar:w1.cell? (G f 0)=some (Q9<|Bk 0):=(As (a:=G f 0)<|r f om λe=>aj e.symm).trans ao;obtain⟨c0,c1,c2,c3,cf⟩:=k.cells;obtain⟨KV,au⟩:=o9<|Value.iface 197<|.agg #[N9,N9,N9,N9,J 0,J 0,J 0,Q9 (Bk 0)];have j:B9 w1<|(w1.alloc<|.cells #[KV] 128).drew:=(n9).drew;have M:Hn w.heap.size c f (S9 f s.nf nc) (Bk 0) w1.drew:=⟨by show w1.cell? _=_;simp[World.cell?,b0],c0,ar⟩;have u:=Hn.keep (w:=w1) M (j.block w.heap.size om) (j.block c om)<|j.block f om;have xX:=oT j (by show c<_;omega) c1;have xY:(w1.alloc<|.cells #[KV] 128).cell? (G c 1)=some (.slice ta s.nt tc):=xX;have bd:=O k.t;have b1:=k.base;have HF:Hid (∀g3 b w3,w3.ownsRow B0 128 1 (S9 g3 (s.nt+1) b) (s.nt+1) (kL Bk A s s.nt++[KV])->(w1.alloc<|.cells #[KV] 128).drew.grownBy w3 (Value.ownBlock<|.slice ta s.nt tc)->(Value.ownBlock (.slice ta s.nt tc)=some g3\/g3=(w1.alloc<|.cells #[KV] 128).drew.heap.size)->
   Hn w.heap.size c f (S9 f s.nf nc) (Bk 0) w3/\Hn w.heap.size c f (S9 f s.nf nc) (Bk 0) (w3.setCell (G c 1)<|S9 g3 (s.nt+1) b)/\w3.cell? (G c 1)=some (.slice ta s.nt tc)/\w3.frozen? (G c 1)=false/\c<w3.heap.size/\
   (w3.setCell (G c 1)<|S9 g3 (s.nt+1) b).heap[w.heap.size]?=some (.cells #[Q9 c] 76 (0,0))/\Iw (w3.setCell (G c 1)<|S9 g3 (s.nt+1) b) (w.heap.size+1+1)/\(w3.setCell (G c 1)<|S9 g3 (s.nt+1) b).heap[w.heap.size+1+1+1]?=some (.cells #[J (s.nt:Int)] 3 (0,0))/\(w3.setCell (G c 1)<|S9 g3 (s.nt+1) b).heap[C]?=w1.heap[C]?/\
   A6 (ZB Z w.heap.size W.heap.size) (w3.setCell (G c 1) (S9 g3 (s.nt+1) b)) c B0 (S9 f s.nf nc) (S9 g3 (s.nt+1) b) vS (S9 C 1 cu) Bk (AX A s.nt default) {s with nt:=s.nt+1,T:=AX s.T s.nt Lv}/\BF (Az B0 c (S9 f s.nf nc) (.slice ta s.nt tc) vS w) w (Az B0 c (S9 f s.nf nc) (S9 g3 (s.nt+1) b) vS (w3.setCell (G c 1) (S9 g3 (s.nt+1) b))) (w3.setCell (G c 1) (S9 g3 (s.nt+1) b))):=O (by
  intro g3 b w3 h1 h2 h3;have bf:w3.ownsRow B0 128 1 (S9 g3 (s.nt+1) b) (s.nt+1)<|kL Bk A s s.nt++[AL Bk default Lv]:=by rw[rE,<-au];exact h1
  obtain⟨k1,k2,k3⟩:=k.rS j h2 bf (h3.imp id λe=>by rw[e];exact j.size)<|Rd.empty rfl rfl rfl rfl;have i:∀(q:Nat) (cs:Array Value) (ty:TypeId),w1.heap[q]?=some (Obj.cells cs ty (0,0))->ty≠128->w3.heap[q]?=w1.heap[q]?:=λq cs ty hq ht=>by
   have av:=Ah hq;refine(h2.block q (A0 av j.size) λe=>?_).trans (j.block q av);obtain⟨cur,hb,_⟩:=AV k.t e.symm;rw[hb]at hq;cases hq;exact ht rfl
  have q0:=i _ _ _ b0 oo;have q2:=i _ _ _ b2 oo;have q3:=i _ _ _ b3 oo;obtain⟨bm,bg,_⟩:=AV aq rfl;have qu:=i C _ _ bg oo;have qc:=i c _ _ k.Bw oo;obtain⟨bp,bh,_⟩:=AV k.n rfl;have qn:=i f _ _ bh oo;have l:=Hn.keep (w:=w1) M q0 qc qn;have st:∀q,q≠c->(w3.setCell (G c 1) (S9 g3 (s.nt+1) b)).heap[q]?=w3.heap[q]?:=λq hq=>At _ _ _ _ (by exact hq);refine⟨l,⟨(As (a:=(y w 0)) (st w.heap.size om)).trans l.1,k2.cells.1,(As (a:=(G f 0)) (st f (λe=>aj e.symm))).trans l.2.2⟩,(As (a:=(G c 1)) qc).trans c1,(ID (a:=(G c 1)) qc).trans (cf 1),Ah k1,(st _ om).trans (q0.trans b0),(st _ om).trans (q2.trans b2),(st _ om).trans (q3.trans b3),(st _ om).trans qu,k2,(ai.trans L).trans k3⟩)
 clear k L r b0 b2 b3 c0 c2 c3 cf ar ak ao j hE ai;subst au;go_wp2_with fail;refine Gq (Hn w.heap.size c f (S9 f s.nf nc)<|Bk 0) ?_;refine tz 0 (h:=tz 1 (h:=tz 2 (h:=tz 3 (h:=tz 4 (h:=tz 6 (h:=tz 7 (h:=tz 8 (h:=tz 9 (h:=tz 10 (h:=tz 11 (h:=tz 12 (h:=?_))))))))))));refine tz 13 (h:=tz 14 (h:=?_));refine TO (rs:=[5,15]) ou oq ?_;refine IH rfl (λK hK=>?armA) (IH rfl (λK hK=>?armB) SO)
 case' armA=>
  go_simp;refine hK.out _ _ M λ_=>?_;clear hK K;refine ry 15 λK hK=>?_;go_simp;refine hK.out _ _ u λbj=>?_;clear hK K
 case' armB=>
  go_simp;refine hK.out _ _ u λbj=>?_;clear hK K;refine ry 5 λK hK=>?_;go_simp;refine hK.out _ _ u λ_=>?_;clear hK K
 all_goals
  refine ry 16 λK hK=>?_;refine To _ rfl (.tmp 21) (.tmp 31) 71 rfl B0 128 i0 .nilIface 1 16 underlying71 a7 a8 bb bc rfl oo (.slice ta s.nt tc) s.nt (kL Bk A s s.nt) og (World.ownsRow.drew<|OR bd _) (y w1 0) 1 1 [(.iface 197 (.agg #[N9,N9,N9,N9,J 0,J 0,J 0,Q9 (Bk 0)]))] og rfl (Is (w:=(w1.alloc<|.cells #[(.iface 197<|.agg #[N9,N9,N9,N9,J 0,J 0,J 0,Q9 (Bk 0)])] 128).drew)<|DD w1 _) oh oo od om ot _ rfl ?_;intro g3 b w3 v D x bq;obtain⟨l,aw,x3,f3,b4,d0,d2,d3,P,m4,E⟩:=z HF g3 b w3 v D x;have HX:=O<|qj d0<|qj d2<|qj d3<|qj P<|qj m4 E;clear v D x d0 d2 d3 P m4 E;refine hK.out _ _ l λae=>?_;clear hK K;refine tz 17 (h:=tz 18 (h:=tz 19 (h:=?_)));refine ry 20 λK hK=>?_;go_simp;refine hK.out _ _ aw λ_=>?_;clear hK K;refine Fj ?_;clear l aw ae x3 f3;obtain⟨w4,ax⟩:=o9<|w3.setCell (G c 1)<|S9 g3 (s.nt+1) b;rw[<-ax]at HX ⊢;clear ax;obtain⟨d0,d2,d3,P,m4,E⟩:=z HX;obtain⟨_,y1,_,_,_⟩:=m4.cells;have y0:w4.cell? (y w 0)=some (Q9 c):=by simp[World.cell?,d0]
  have y3:w4.cell? (G (w.heap.size+1+1+1) 0)=some (J (s.nt:Int)):=by simp[World.cell?,d3]
  obtain⟨w5,F,B⟩:=BB d2<|BH 0;obtain⟨w6,H,ay⟩:=BB d2<|DI s.nt;have af:=O F;have ag:=O H;clear d0 d2 d3 P m4 E F H;by_cases hf:s.nt=100
  .have d:decide ((100:Int)<(s.nt:Int)+1)=true:=ot;have Q:=O hf;clear hf;go_wp2_with (refine Ag rfl rfl _ af ?_);have R:=O<|B.Bw;refine GQ results136 underlying45 R ?_;obtain⟨d0,d2,d3,P,m4,E⟩:=z HX;obtain⟨mm,S⟩:=m4.Ki E o om om d2 B;refine⟨_,_,_,mm,S,λh=>absurd Q h,λ_=>⟨rfl,C,cu,w.heap.size,w.heap.size+1+1+1,rfl,Pd (Ab aq λq e=>?_)<|W9 _,?_,?_⟩⟩
   .cases e;exact(B.other _<|by show C≠w.heap.size+1+1;omega).trans P
   .exact(B.other _ om).trans d0
   exact(B.other _ om).trans d3
  have d:decide ((100:Int)<(s.nt:Int)+1)=false:=ot;have Q:=O hf;clear hf;go_wp2_with (refine Ag rfl rfl _ ag ?_);have R:=O<|ay.Bw;refine GQ results136 underlying45 R ?_;obtain⟨d0,d2,d3,P,m4,E⟩:=z HX;obtain⟨mm,S⟩:=m4.Ki E o om om d2 ay;exact⟨_,_,_,mm,S,λ_=>rfl,λh=>absurd h Q⟩
def QC(a b c n:Nat)(W:Y):Prop:=W.cell? (G a 0)=some (Q9 c)/\W.cell? (G b 0)=some (J (n:Int))
def Z0{Bk}n g k d f{w}(i:A6 Z w c B0 vN (S9 g s.nt k) vS vU Bk A s)(hb:w.heap[d]?=some (.cells #[Q9 c] 76 (0,0)))(b:w.heap[f]?=some (.cells #[J (n)] 3 (0,0)))(hn:n<=s.nt)(h1:s.nt<=200):
  C9 167 #[Q9 d,Q9 f] w λe w'=>(∃u,e=.returned u)/\A6 Z w' c B0 vN (S9 g n k) vS vU Bk A {s with nt:=n}/\BF (Az B0 c vN (S9 g s.nt k) vS w) w (Az B0 c vN (S9 g n k) vS w') w':=by
 rcases i.lt,i.cells,i.sZ rfl hn with⟨B,⟨c0,c1,c2,c3,cf⟩,⟨r,v⟩⟩;have l:s.nt<=k:=by
  obtain⟨_,⟨m,_⟩|⟨g',cap,cur,m,_,_,h2,_⟩⟩:=i.t
  .cases m
  cases m;exact h2
 have o:d≠c:=λe=>by rw[e,i.Bw]at hb;cases hb
 have p:f≠c:=λe=>by rw[e,i.Bw]at b;cases b
 have lb:=Ah hb;have D:=Ah b;have j:QC d f c n w.drew:=⟨by show w.cell? _=_;simp[World.cell?,hb],by show w.cell? _=_;simp[World.cell?,b]⟩;have q:QC d f c n (w.setCell (G c 1)<|S9 g n k).drew:=⟨(As (a:=G d 0)<|At _ _ _ _<|by exact o).trans j.1,(As (a:=G f 0)<|At _ _ _ _<|by exact p).trans j.2⟩;rcases cf 1,GP hn l,O (qj r.drew v.Ts) with⟨xf,C,x⟩;clear i r v hb b c0 c2 c3 cf;go_enter func167,ntmps167;go_wp2_with fail;refine Gq (QC d f c n) ?_;refine tz 0 (h:=tz 1 (h:=tz 2 (h:=tz 3 (h:=tz 4 (h:=tz 6 (h:=?_))))));refine ry 5 λK hK=>?_;go_simp;refine hK.out _ _ j λ_=>?_;clear hK K;refine tz 7 (h:=tz 8 (h:=tz 9 (h:=tz 10 (h:=?_))));refine ry 11 λK hK=>?_;go_simp;refine hK.out _ _ q λ_=>?_;clear hK K;refine Fj ?_;go_wp2_with fail;go_end0;exact⟨⟨_,rfl⟩,x.1,x.2⟩
def lG{Bk}{x}(f:A6 Z w c B0 vN vT vS vU Bk A s)(C:KG 167 w c vU n o x p q)(hn:n<=s.nt)(D:0<s.nt)(h1:s.nt<=200):
  C9 62 #[Q9 c] w λe w'=>(∃u,e=.returned u)/\∃a b,A6 Z w' c B0 vN a vS b Bk A {s with nt:=n}/\BF (Az B0 c vN vT vS w) w (Az B0 c vN a vS w') w':=by
 obtain⟨E,hu,hb,j⟩:=C;subst E;obtain⟨g,d,r,F,H,t,v⟩:=f.CU D;subst r;have I:=f.lt;obtain⟨c0,c1,c2,c3,cf⟩:=f.cells;have u0:w.cell? (G o 0)=some (.func (.func 167) #[] #[Q9 p,Q9 q]):=by rw[Ok hu 0 om];rfl
 rcases (hu.lt o rfl).2,O f,O (qj hb j) with⟨M,K,B⟩;clear f hb j hu t v c0 c2;go_enter func62,ntmps62;go_wp2;go_loopw [2] (λi wr=>(i=J 0/\wr=w)\/(i=J (-1)/\∃a b,A6 Z wr c B0 vN a vS b Bk A {s with nt:=n}/\BF (Az B0 c vN (S9 g s.nt d) vS w) w (Az B0 c vN a vS wr) wr)) λi _=>(intOf i+1).toNat
 .exact .inl ⟨rfl,rfl⟩
 rcases hrel with⟨rfl,rfl⟩|⟨rfl,a,b,m1,d1⟩
 .have k:Hid<|∀w1,A6 Z w1 c B0 vN (S9 g n d) vS (S9 o 1 x) Bk A {s with nt:=n}/\BF (Az B0 c vN (S9 g s.nt d) vS wr) wr (Az B0 c vN (S9 g n d) vS w1) w1->∃a b,A6 Z w1 c B0 vN a vS b Bk A {s with nt:=n}/\BF (Az B0 c vN (S9 g s.nt d) vS wr) wr (Az B0 c vN a vS w1) w1:=O λw1 h=>⟨_,_,h⟩;go_wp2_with fail;refine(Z0 n g d p q K B.1 B.2 hn h1).mono ?_;rintro e w1 ⟨⟨P,rfl⟩,l⟩;have L:=O<|k w1 l;clear l;go_wp2;go_roundw
  .exact .inr ⟨rfl,L⟩
  simp[intOf]
 have m:=O<|qj m1 d1;clear m1 d1;go_wp2;go_end0;exact⟨⟨_,rfl⟩,a,b,m.1,m.2⟩
def ZZ{Bk}n g k d f{w}(i:A6 Z w c B0 vN vT (S9 g s.ns k) vU Bk A s)(hb:w.heap[d]?=some (.cells #[Q9 c] 76 (0,0)))(b:w.heap[f]?=some (.cells #[J (n)] 3 (0,0)))(hn:n<=s.ns)(h1:s.ns<=200):
  C9 169 #[Q9 d,Q9 f] w λe w'=>(∃u,e=.returned u)/\A6 Z w' c B0 vN vT (S9 g n k) vU Bk A {s with ns:=n}/\BF (Az B0 c vN vT (S9 g s.ns k) w) w (Az B0 c vN vT (S9 g n k) w') w':=by
 rcases i.lt,i.cells,i.sY rfl hn with⟨x,⟨c0,c2,c1,c3,cf⟩,⟨r,t⟩⟩;have l:s.ns<=k:=by
  obtain⟨_,⟨m,_⟩|⟨g',cap,cur,m,_,_,h2,_⟩⟩:=i.si
  .cases m
  cases m;exact h2
 have o:d≠c:=λe=>by rw[e,i.Bw]at hb;cases hb
 have p:f≠c:=λe=>by rw[e,i.Bw]at b;cases b
 have lb:=Ah hb;have C:=Ah b;have j:QC d f c n w.drew:=⟨by show w.cell? _=_;simp[World.cell?,hb],by show w.cell? _=_;simp[World.cell?,b]⟩;have q:QC d f c n (w.setCell (G c 2)<|S9 g n k).drew:=⟨(As (a:=G d 0)<|At _ _ _ _<|by exact o).trans j.1,(As (a:=G f 0)<|At _ _ _ _<|by exact p).trans j.2⟩;rcases cf 2,GP hn l,O (qj r.drew t.Ts) with⟨xf,B,v⟩;clear i r t hb b c0 c2 c3 cf;go_enter func169,ntmps169;go_wp2_with fail;refine Gq (QC d f c n) ?_;refine tz 0 (h:=tz 1 (h:=tz 2 (h:=tz 3 (h:=tz 5 (h:=?_)))));refine ry 4 λK hK=>?_;go_simp;refine hK.out _ _ j λ_=>?_;clear hK K;refine tz 6 (h:=tz 7 (h:=tz 8 (h:=?_)));refine ry 9 λK hK=>?_;go_simp;refine hK.out _ _ q λ_=>?_;clear hK K;refine Fj ?_;go_wp2_with fail;go_end0;exact⟨⟨_,rfl⟩,v.1,v.2⟩
def lF{Bk}(f:A6 Z w c B0 vN vT vS vU Bk A s)(D:KG 169 w c vU n o B p q)(hn:n<=s.ns)(E:0<s.ns)(h1:s.ns<=200):
  C9 62 #[Q9 c] w λe w'=>(∃u,e=.returned u)/\∃a b,A6 Z w' c B0 vN vT a b Bk A {s with ns:=n}/\BF (Az B0 c vN vT vS w) w (Az B0 c vN vT a w') w':=by
 obtain⟨F,hu,hb,j⟩:=D;subst F;obtain⟨g,d,r,H,I,t,v⟩:=f.GB E;subst r;have K:=f.lt;obtain⟨c0,c2,c1,c3,cf⟩:=f.cells;have u0:w.cell? (G o 0)=some (.func (.func 169) #[] #[Q9 p,Q9 q]):=by rw[Ok hu 0 om];rfl
 rcases (hu.lt o rfl).2,O f,O (qj hb j) with⟨P,L,C⟩;clear f hb j hu t v c0 c2;go_enter func62,ntmps62;go_wp2;go_loopw [2] (λi wr=>(i=J 0/\wr=w)\/(i=J (-1)/\∃a b,A6 Z wr c B0 vN vT a b Bk A {s with ns:=n}/\BF (Az B0 c vN vT (S9 g s.ns d) w) w (Az B0 c vN vT a wr) wr)) λi _=>(intOf i+1).toNat
 .exact .inl ⟨rfl,rfl⟩
 rcases hrel with⟨rfl,rfl⟩|⟨rfl,x,b,m1,d1⟩
 .have k:Hid<|∀w1,A6 Z w1 c B0 vN vT (S9 g n d) (S9 o 1 B) Bk A {s with ns:=n}/\BF (Az B0 c vN vT (S9 g s.ns d) wr) wr (Az B0 c vN vT (S9 g n d) w1) w1->∃a b,A6 Z w1 c B0 vN vT a b Bk A {s with ns:=n}/\BF (Az B0 c vN vT (S9 g s.ns d) wr) wr (Az B0 c vN vT a w1) w1:=O λw1 h=>⟨_,_,h⟩;go_wp2_with fail;refine(ZZ n g d p q L C.1 C.2 hn h1).mono ?_;rintro e w1 ⟨⟨Q,rfl⟩,l⟩;have M:=O<|k w1 l;clear l;go_wp2;go_roundw
  .exact .inr ⟨rfl,M⟩
  simp[intOf]
 have m:=O<|qj m1 d1;clear m1 d1;go_wp2;go_end0;exact⟨⟨_,rfl⟩,x,b,m.1,m.2⟩
def aO(a b d c t:Nat)(e vT:V9)(W:Y):Prop:=W.cell? (G b 0)=some (Q9 c)/\W.cell? (G d 0)=some (J (t:Int))/\W.cell? (G a 0)=some e/\W.cell? (G c 1)=some vT
def U9{α}f i(a:α):AX (AX f i a) i (f i)=f:=by
 grind [AX]
def ZY{Bk}A s t a' x' g f i j k{w}(m:A6 Z w c B0 vN (S9 g s.nt f) vS vU Bk (AX A t a')<|BJ s t x')(hk:w.heap[i]?=some (.cells #[AL Bk (A t) (s.T t)] 128 (0,0)))(p:i≠g)(hb:w.heap[j]?=some (.cells #[Q9 c] 76 (0,0)))(l:w.heap[k]?=some (.cells #[J (t)] 3 (0,0)))(B:t<s.nt)(h1:s.nt<=200)(E:Rd (OZ Z B0 c vN (S9 g s.nt f) vS w) w (A t)<|s.T t):
  C9 187 #[Q9 i,Q9 j,Q9 k] w λe w'=>(∃u,e=.returned u)/\A6 Z w' c B0 vN (S9 g s.nt f) vS vU Bk A s/\BF (Az B0 c vN (S9 g s.nt f) vS w) w (Az B0 c vN (S9 g s.nt f) vS w') w':=by
 rcases m.cells,m.Gi rfl B E,U9 A t a' with⟨⟨c0,c1,c2,c3,cf⟩,⟨q,C⟩,F⟩;have H:BJ (BJ s t x') t (s.T t)=s:=by
  show{s with T:=AX (AX s.T t x') t (s.T t)}=s;rw[U9]
 rw[F,H]at q;have b:=m.t;have n:∃u,w.cell? (G g t)=some u:=⟨_,by rw[Ok b t (by show t<s.nt*1;omega),LV (by exact B)]⟩;have I:w.frozen? (G g t)=false:=by obtain⟨cur,hb,_⟩:=AV b rfl;simp[World.frozen?,hb]
 obtain⟨gt,n⟩:=n;obtain⟨ty,o,r⟩:=LW Bk (A t)<|s.T t;rw[r]at q C hk;have v:c≠g:=λe=>m.Ba m.t oo<|qh e;have nb:j≠g:=λe=>by obtain⟨cur,hc,_⟩:=AV b rfl;rw[e,hc]at hb;cases hb
 have L:k≠g:=λe=>by obtain⟨cur,hc,_⟩:=AV b rfl;rw[e,hc]at l;cases l
 have d:aO i j k c t (.iface ty o) (S9 g s.nt f) w.drew:=⟨by show w.cell? _=_;simp[World.cell?,hb],by show w.cell? _=_;simp[World.cell?,l],by show w.cell? _=_;simp[World.cell?,hk],c1⟩;have x:aO i j k c t (.iface ty o) (S9 g s.nt f) (w.setCell (G g t)<|.iface ty o).drew:=⟨(As (a:=G j 0)<|At _ _ _ _<|by exact nb).trans d.1,(As (a:=G k 0)<|At _ _ _ _<|by exact L).trans d.2.1,(As (a:=G i 0)<|At _ _ _ _<|by exact p).trans d.2.2.1,(As (a:=G c 1)<|At _ _ _ _<|by exact v).trans d.2.2.2⟩;have D:=O<|qj q.drew C.Ts;go_enter func187,ntmps187;go_wp2_with fail;refine Gq (aO i j k c t (.iface ty o)<|S9 g s.nt f) ?_;refine tz 0 (h:=tz 1 (h:=tz 2 (h:=tz 3 (h:=tz 4 (h:=tz 5 (h:=tz 6 (h:=tz 7 (h:=?_))))))));refine ry 8 λK hK=>?_;go_simp;refine hK.out _ _ x λ_=>?_;clear hK K;refine Fj ?_;go_wp2_with fail;go_end0;exact⟨⟨_,rfl⟩,D.1,D.2⟩
def lE{Bk}A s{t}a' x'{m C j o p}{w}(n:A6 Z w c B0 vN vT vS vU Bk (AX A t a')<|BJ s t x')(E:KF w c vU t (AL Bk (A t)<|s.T t) m C j o p)(q:vT.ownBlock≠some j)(D:t<s.nt)(h1:s.nt<=200)(F:Rd (OZ Z B0 c vN vT vS w) w (A t)<|s.T t):
  C9 62 #[Q9 c] w λe w'=>(∃u,e=.returned u)/\∃a b,A6 Z w' c B0 vN a vS b Bk A s/\BF (Az B0 c vN vT vS w) w (Az B0 c vN a vS w') w':=by
 obtain⟨H,hu,hk,hb,r⟩:=E;subst H;obtain⟨g,d,f,I,K,L,M⟩:=n.CU D;have f:vT=S9 g s.nt d:=f;subst f;have v:j≠g:=λe=>q<|qh e;have P:=n.lt;obtain⟨c0,c1,c2,c3,cf⟩:=n.cells;have u0:w.cell? (G m 0)=some (.func (.func 187) #[] #[Q9 j,Q9 o,Q9 p]):=by rw[Ok hu 0 om];rfl
 have Q:=(hu.lt m rfl).2;have x:=O<|qj hk<|qj hb r;go_enter func62,ntmps62;go_wp2;go_loopw [2] (λi wr=>(i=J 0/\wr=w)\/(i=J (-1)/\∃a b,A6 Z wr c B0 vN a vS b Bk A s/\BF (Az B0 c vN (S9 g s.nt d) vS w) w (Az B0 c vN a vS wr) wr)) λi _=>(intOf i+1).toNat
 .exact .inl ⟨rfl,rfl⟩
 rcases hrel with⟨rfl,rfl⟩|⟨rfl,a,b,m1,d1⟩
 .have k:Hid<|∀w1,A6 Z w1 c B0 vN (S9 g s.nt d) vS (S9 m 1 C) Bk A s/\BF (Az B0 c vN (S9 g s.nt d) vS wr) wr (Az B0 c vN (S9 g s.nt d) vS w1) w1->∃a b,A6 Z w1 c B0 vN a vS b Bk A s/\BF (Az B0 c vN (S9 g s.nt d) vS wr) wr (Az B0 c vN a vS w1) w1:=O λw1 h=>⟨_,_,h⟩;go_wp2_with fail;refine(ZY A s t a' x' g d j o p n x.1 v x.2.1 x.2.2 D h1 F).mono ?_;rintro e w1 ⟨⟨R,rfl⟩,B⟩;go_wp2;go_roundw
  .exact .inr ⟨rfl,z<|O<|k w1 B⟩
  simp[intOf]
 have l:=O<|qj m1 d1;go_wp2;go_end0;exact⟨⟨_,rfl⟩,a,b,l.1,l.2⟩
def JV(a ab c:Nat)(k:ByteArray)(W:Y):Prop:=W.cell? (G a 0)=some (Q9 c)/\W.cell? (G ab 7)=some (.string k)
def JV.keep{k}(h:JV b ab c k w)(h1:w'.heap[b]?=w.heap[b]?)(h2:w'.heap[ab]?=w.heap[ab]?):JV b ab c k w':=
 ⟨(As (a:=G b 0) h1).trans h.1,(As (a:=G ab 7) h2).trans h.2⟩
def S3{Bk}a{w}(M:A6 Z w c B0 vN vT vS (N9) Bk A s)(aM:s.ns<=50):
  C9 142 #[Q9 c,Kz a] w λe w'=>(∃P Q,A6 Z w' c B0 vN vT P Q Bk A {s with ns:=s.ns+1,S:=AX s.S s.ns ⟨a.k.str,-1,0,0,0⟩}/\BF (Az B0 c vN vT vS w) w (Az B0 c vN vT P w') w'/\
   (s.ns≠50->e=.returned (.tuple #[Hk (DI s.ns),CB 0]))/\(s.ns=50->e=.returned (.tuple #[Hk (BH 0),CB 5])/\∃u cu bw bn,KG 169 w' c Q s.ns u cu bw bn)):=by
 obtain⟨sa,sc,rfl⟩:=AE M.si;obtain⟨i0,ak,ao,aq,ar⟩:=ON G5;obtain⟨W,hW,R,T,b0,o1,o2,b3⟩:=sX w (.cells #[Q9 c] 76) (.cells (GU a) 51) (.cells aF 45)<|.cells #[J (s.ns:Int)] 3;have b1:PU W (w.heap.size+1) a:=o1;have b2:Iw W<|w.heap.size+1+1:=o2;rcases M.enter R,M.lt,M.base,M.cells,O<|qj b0<|qj b1<|qj b2 b3,O T with⟨⟨hE,U⟩,a6,j,⟨c0,c1,c2,c3,cf⟩,V,HZ⟩;have a7:c<w.heap.size+1:=om;have a8:c<w.heap.size+1+1:=om;clear M b0 b1 b2 b3 c0 c1 c3 cf R T;go_enter func142,ntmps142;go_wp2_with fail;rw[<-hW];clear hW c2;refine(GM _ c B0 _ _ _ Bk A s 169 #[Q9 w.heap.size,Q9 (w.heap.size+1+1+1)] W hE).mono ?_;rintro e w1 ⟨⟨uu,rfl⟩,u,cu,bb,X,i,D,l⟩;rcases z HZ,D.size,z V with⟨zW,ax,⟨b0,b1,b2,b3⟩⟩;have b0:=(l _ om om).trans b0;have b1:PU w1 (w.heap.size+1) a:=(l _ om om).trans b1;have b2:Iw w1<|w.heap.size+1+1:=(l _ om om).trans b2;have b3:=(l _ om om).trans b3;obtain⟨c0,c1,c2,c3,cf⟩:=i.cells;have g:B9 w1<|(w1.alloc<|.cells #[.string a.k.str,J (-1),J 0,J 0,J 0] 107).drew:=(n9).drew;have E:JV w.heap.size (w.heap.size+1) c a.k.str w1.drew:=⟨by show w1.cell? _=_;simp[World.cell?,b0],by show w1.cell? _=_;exact b1.all.2.2.2.2.2.2.2.1⟩;have m:=JV.keep (w:=w1) E (g.block w.heap.size om)<|g.block (w.heap.size+1) om;rcases oT g (by show c<_;omega) c2,O i.si,i.base with⟨xX,au,bc⟩;have HF:Hid (∀g3 b w3,w3.ownsRow B0 107 5 (S9 g3 (s.ns+1) b) (s.ns+1) (Jk s.S s.ns++GD ⟨a.k.str,-1,0,0,0⟩)->(w1.alloc<|.cells #[.string a.k.str,J (-1),J 0,J 0,J 0] 107).drew.grownBy w3 (Value.ownBlock<|.slice sa s.ns sc)->(Value.ownBlock (.slice sa s.ns sc)=some g3\/g3=(w1.alloc<|.cells #[.string a.k.str,J (-1),J 0,J 0,J 0] 107).drew.heap.size)->
   JV w.heap.size (w.heap.size+1) c a.k.str w3/\JV w.heap.size (w.heap.size+1) c a.k.str (w3.setCell (G c 2)<|S9 g3 (s.ns+1) b)/\w3.cell? (G c 2)=some (.slice sa s.ns sc)/\w3.frozen? (G c 2)=false/\c<w3.heap.size/\
   (w3.setCell (G c 2)<|S9 g3 (s.ns+1) b).heap[w.heap.size]?=some (.cells #[Q9 c] 76 (0,0))/\Iw (w3.setCell (G c 2)<|S9 g3 (s.ns+1) b) (w.heap.size+1+1)/\(w3.setCell (G c 2)<|S9 g3 (s.ns+1) b).heap[w.heap.size+1+1+1]?=some (.cells #[J (s.ns:Int)] 3 (0,0))/\(w3.setCell (G c 2)<|S9 g3 (s.ns+1) b).heap[u]?=w1.heap[u]?/\
   A6 (ZB Z w.heap.size W.heap.size) (w3.setCell (G c 2) (S9 g3 (s.ns+1) b)) c B0 vN vT (S9 g3 (s.ns+1) b) (S9 u 1 cu) Bk A {s with ns:=s.ns+1,S:=AX s.S s.ns ⟨a.k.str,-1,0,0,0⟩}/\BF (Az B0 c vN vT (.slice sa s.ns sc) w) w (Az B0 c vN vT (S9 g3 (s.ns+1) b) (w3.setCell (G c 2) (S9 g3 (s.ns+1) b))) (w3.setCell (G c 2) (S9 g3 (s.ns+1) b))):=O (by
  intro g3 b w3 h1 h2 h3;obtain⟨k1,k2,k3⟩:=i.rR g h2 h1<|h3.imp id (λe=>by rw[e];exact g.size);have f:∀(q:Nat) (cs:Array Value) (ty:TypeId),w1.heap[q]?=some (Obj.cells cs ty (0,0))->ty≠107->w3.heap[q]?=w1.heap[q]?:=λq cs ty hq ht=>by
   have ag:=Ah hq;refine(h2.block q (A0 ag g.size) λe=>?_).trans (g.block q ag);obtain⟨cur,hb,_⟩:=AV i.si e.symm;rw[hb]at hq;cases hq;exact ht rfl
  have q0:=f _ _ _ b0 oo;have q1:=f _ _ _ b1 oo;have q2:=f _ _ _ b2 oo;have q3:=f _ _ _ b3 oo;obtain⟨ay,av,_⟩:=AV X rfl;have qu:=f u _ _ av oo;have qc:=f c _ _ i.Bw oo;have n:=JV.keep (w:=w1) E q0 q1;have st:∀q,q≠c->(w3.setCell (G c 2) (S9 g3 (s.ns+1) b)).heap[q]?=w3.heap[q]?:=λq hq=>At _ _ _ _ (by exact hq);refine⟨n,JV.keep n (st w.heap.size om) (st (w.heap.size+1) om),(As (a:=(G c 2)) qc).trans c2,(ID (a:=(G c 2)) qc).trans (cf 2),Ah k1,(st _ om).trans (q0.trans b0),(st _ om).trans (q2.trans b2),(st _ om).trans (q3.trans b3),(st _ om).trans qu,k2,(U.trans D).trans k3⟩)
 clear i D l b0 b1 b2 b3 c0 c1 c3 cf V g hE U;go_wp2_with fail;refine Gq (JV w.heap.size (w.heap.size+1) c a.k.str) ?_;refine tz 0 (h:=tz 1 (h:=tz 2 (h:=tz 3 (h:=tz 5 (h:=tz 6 (h:=tz 7 (h:=tz 8 (h:=?_))))))));refine TO (rs:=[4,9]) ou oq ?_;refine IH rfl (λK hK=>?armA) (IH rfl (λK hK=>?armB) SO)
 case' armA=>
  go_simp;refine hK.out _ _ E λ_=>?_;clear hK K;refine ry 9 λK hK=>?_;go_simp;refine hK.out _ _ m λaw=>?_;clear hK K
 case' armB=>
  go_simp;refine hK.out _ _ m λaw=>?_;clear hK K;refine ry 4 λK hK=>?_;go_simp;refine hK.out _ _ m λ_=>?_;clear hK K
 all_goals
  refine ry 10 λK hK=>?_;refine To _ rfl (.tmp 19) (.tmp 24) 40 rfl B0 107 i0 (.agg #[E9,J 0,J 0,J 0,J 0]) 5 48 underlying40 ak ao aq ar rfl oo (.slice sa s.ns sc) s.ns (Jk s.S s.ns) og (World.ownsRow.drew<|OR au _) (y w1 0) 1 1 (GD ⟨a.k.str,-1,0,0,0⟩) og rfl (Is (w:=(w1.alloc<|.cells #[.string a.k.str,J (-1),J 0,J 0,J 0] 107).drew)<|DD w1 _) (by simp[GD,Value.oneCell']) oo od om ot _ rfl ?_;intro g3 b w3 o v r az;obtain⟨n,ah,x3,f3,bd,d0,d2,d3,F,m4,x⟩:=z HF g3 b w3 o v r;have HX:=O<|qj d0<|qj d2<|qj d3<|qj F<|qj m4 x;clear o v r d0 d2 d3 F m4 x;refine hK.out _ _ n λad=>?_;clear hK K;refine tz 11 (h:=tz 12 (h:=?_));refine ry 13 λK hK=>?_;go_simp;refine hK.out _ _ ah λ_=>?_;clear hK K;refine Fj ?_;clear n ah ad x3 f3;obtain⟨w4,ai⟩:=o9<|w3.setCell (G c 2)<|S9 g3 (s.ns+1) b;rw[<-ai]at HX ⊢;clear ai;obtain⟨d0,d2,d3,F,m4,x⟩:=z HX;obtain⟨_,_,y1,_,_⟩:=m4.cells;have y0:w4.cell? (y w 0)=some (Q9 c):=by simp[World.cell?,d0]
  have y3:w4.cell? (G (w.heap.size+1+1+1) 0)=some (J (s.ns:Int)):=by simp[World.cell?,d3]
  obtain⟨w5,B,t⟩:=BB d2<|BH 0;obtain⟨w6,C,aj⟩:=BB d2<|DI s.ns;have ae:=O B;have af:=O C;clear d0 d2 d3 F m4 x B C;by_cases hf:s.ns=50
  .have d:decide ((50:Int)<(s.ns:Int)+1)=true:=ot;have H:=O hf;clear hf;go_wp2_with (refine Ag rfl rfl _ ae ?_);have I:=O<|t.Bw;refine GQ results142 underlying45 I ?_;obtain⟨d0,d2,d3,F,m4,x⟩:=z HX;obtain⟨mm,L⟩:=m4.Ki x j om om d2 t;refine⟨_,_,mm,L,λh=>absurd H h,λ_=>⟨rfl,u,cu,w.heap.size,w.heap.size+1+1+1,rfl,Pd (Ab X λq e=>?_)<|W9 _,?_,?_⟩⟩
   .cases e;exact(t.other _<|by show u≠w.heap.size+1+1;omega).trans F
   .exact(t.other _ om).trans d0
   exact(t.other _ om).trans d3
  have d:decide ((50:Int)<(s.ns:Int)+1)=false:=ot;have H:=O hf;clear hf;go_wp2_with (refine Ag rfl rfl _ af ?_);have I:=O<|aj.Bw;refine GQ results142 underlying45 I ?_;obtain⟨d0,d2,d3,F,m4,x⟩:=z HX;obtain⟨mm,L⟩:=m4.Ki x j om om d2 aj;exact⟨_,_,mm,L,λ_=>rfl,λh=>absurd h H⟩
structure NR (s s':AK):Prop where
 nf:s.nf=s'.nf
 F:s.F=s'.F
 nt:s.nt=s'.nt
 ns:s.ns=s'.ns
 T:∀i,i<s.nt->s.T i=s'.T i
 S:∀i,i<s.ns->s.S i=s'.S i
def NR.refl s:NR s s:=⟨rfl,rfl,rfl,rfl,λ_ _=>rfl,λ_ _=>rfl⟩
section
variable {Z:Nat->Prop} {w w':Y} {c B0:Nat} {vN vT vS vU:V9} {Bk:Nat->Nat} {A:Nat->Ad} {s s':AK}
theorem A6.same(h:A6 Z w c B0 vN vT vS vU Bk A s)(e:NR s s'):A6 Z w c B0 vN vT vS vU Bk A s':=by
 obtain⟨nf,F,nt,T,ns,S⟩:=s;obtain⟨b,F',d,T',f,S'⟩:=s';obtain⟨e1,e2,e3,a,g,j⟩:=e;simp only at e1 e2 e3 a g j;subst e1 e2 e3 a;refine⟨h.Bw,h.ge,h.n,h.nd,?_,?_,h.u,h.z,λi hi=>?_⟩
 .have h1:=h.t;grind [kL,nf,OC,AL]
 .have h1:=h.si;grind [Jk,ZI]
 have h1:=h.rd i hi;grind [Rd]
def BF.oz{b d f}(a:BF (Az B0 c vN vT vS w) w (Az B0 c b d f w') w'):BF (OZ Z B0 c vN vT vS w) w (OZ Z B0 c b d f w') w':=
 ⟨a.os,a.tape,a.output,a.size,λk h1 h2=>a.block k h1 λe=>h2<|.inl e,λk e=>e.elim (λe=>(a.own k e).imp .inl id) λe=>.inl<|.inr e⟩
def P0(Z:Nat->Prop)(w:Y)(c B0:Nat)(vN vT vS vU:V9)(a:AK):Prop:=
 ∃Bk A s1,A6 Z w c B0 vN vT vS vU Bk A s1/\
  ((vU=N9/\NR s1 a)\/
   (∃n b d e f,KG 167 w c vU n b d e f/\n<=s1.nt/\0<s1.nt/\s1.nt<=200/\NR {s1 with nt:=n} a)\/
   (∃n b d e f,KG 169 w c vU n b d e f/\n<=s1.ns/\0<s1.ns/\s1.ns<=200/\NR {s1 with ns:=n} a)\/
   (∃t g a' x' b d h e f,A=AX g t a'/\s1=BJ a t x'/\KF w c vU t (AL Bk (g t) (a.T t)) b d h e f/\vT.ownBlock≠some h/\t<a.nt/\a.nt<=200/\Rd (OZ Z B0 c vN vT vS w) w (g t) (a.T t)))
def P0.below{g}(h:P0 Z w c B0 vN vT vS vU g)(hb:B9 w w'):P0 Z w' c B0 vN vT vS vU g/\BF (Az B0 c vN vT vS w) w (Az B0 c vN vT vS w') w':=by
 obtain⟨Bk,A,s1,i,hu⟩:=h;obtain⟨m1,d1⟩:=i.below hb;refine⟨⟨Bk,A,s1,m1,?_⟩,d1⟩;rcases hu with h|⟨n,a,d,e,f,h,h2⟩|⟨n,a,d,e,f,h,h2⟩|⟨t,j,a',x',a,d,l,e,f,e1,e2,h,h3,h4,h5,m⟩
 .exact .inl h
 .exact .inr (.inl ⟨n,a,d,e,f,h.keep (hb.block _ (h.u.lt a rfl).2) (hb.block _<|Ah h.b)<|hb.block _<|Ah h.n,h2⟩)
 .exact .inr (.inr<|.inl ⟨n,a,d,e,f,h.keep (hb.block _ (h.u.lt a rfl).2) (hb.block _<|Ah h.b)<|hb.block _<|Ah h.n,h2⟩)
 exact .inr<|.inr<|.inr ⟨t,j,a',x',a,d,l,e,f,e1,e2,h.keep (hb.block _ (h.u.lt a rfl).2) (hb.block _<|Ah h.k) (hb.block _<|Ah h.b)<|hb.block _<|Ah h.n,h3,h4,h5,m.step d1.oz⟩
def P0.Ki{d}{g i}{D}{v E}{x}(h:P0 (ZB Z w.heap.size E) w1 c B0 g i j m D)(F:BF (Az B0 c vN vT vS w) w (Az B0 c g i j w1) w1)(o:B0<=w.heap.size)(l:w.heap.size<=v)(hz:v<E)(B:Iw w1 v)(a:Bj w1 d v (LL x).toArray 45):
  P0 Z d c B0 g i j m D/\BF (Az B0 c vN vT vS w) w (Az B0 c g i j d) d:=by
 obtain⟨Bk,A,s1,C,hu⟩:=h;obtain⟨f1,f2⟩:=C.Ki F o l hz B a;have H:=(C.box (.inr ⟨l,hz⟩) (GP o l) (C.EH B oo oo oo oo oo) ⟨a.os,a.tape,a.output,a.size⟩ a.other a.Bw oo).2;have f:∀(b:Nat) (cs:Array Value) (ty:TypeId),w1.heap[b]?=some (.cells cs ty (0,0))->ty≠45->d.heap[b]?=w1.heap[b]?:=λb cs ty hb I=>a.other b (λe=>by
  rw[e,B]at hb;cases hb;exact I rfl)
 refine⟨⟨Bk,A,s1,f1,?_⟩,f2⟩;rcases hu with h|⟨n,p,q,r,s,h,h2⟩|⟨n,p,q,r,s,h,h2⟩|⟨t,K,a',x',p,q,L,r,s,e1,e2,h,h3,h4,h5,M⟩
 .exact .inl h
 .obtain⟨cur,hc,_⟩:=AV h.u rfl;exact .inr<|.inl ⟨n,p,q,r,s,h.keep (f _ _ _ hc oo) (f _ _ _ h.b oo)<|f _ _ _ h.n oo,h2⟩
 .obtain⟨cur,hc,_⟩:=AV h.u rfl;exact .inr<|.inr<|.inl ⟨n,p,q,r,s,h.keep (f _ _ _ hc oo) (f _ _ _ h.b oo)<|f _ _ _ h.n oo,h2⟩
 obtain⟨cur,hc,_⟩:=AV h.u rfl;refine .inr<|.inr<|.inr ⟨t,K,a',x',p,q,L,r,s,e1,e2,h.keep (f _ _ _ hc oo) (f _ _ _ h.k oo) (f _ _ _ h.b oo)<|f _ _ _ h.n oo,h3,h4,h5,λw3 hs hk=>?_⟩;refine M w3 (by rw[<-a.size];exact hs) λk k1 k2=>(hk k (by rw[a.size];exact k1) λe=>k2<|e.imp (H k) .inl).trans<|a.other k λe=>k2<|.inr<|.inr<|by rw[e];exact⟨l,hz⟩
end
def lC c vN vT vS w(hb:w.heap[c]?=some (.cells #[vN,vT,vS,N9] 134 (0,0))):
  C9 62 #[Q9 c] w λe w'=>(∃u,e=.returned u)/\w'=w:=by
 have c3:w.cell? (G c 3)=some (N9):=by simp[World.cell?,hb]
 have a:=Ah hb;clear hb;go_enter func62,ntmps62;go_wp2;go_loopw [2] (λi wr=>i=J (-1)/\wr=w) λi _=>0
 .exact⟨rfl,rfl⟩
 obtain⟨rfl,rfl⟩:=hrel;go_wp2;go_end0;exact⟨⟨_,rfl⟩,rfl⟩
def Z3{g}(h:P0 Z w c B0 vN vT vS vU g):
  C9 62 #[Q9 c] w λe w'=>(∃u,e=.returned u)/\∃a d b i A',A6 Z w' c B0 vN a d b i A' g/\BF (Az B0 c vN vT vS w) w (Az B0 c vN a d w') w':=by
 obtain⟨Bk,A,s1,f,hu⟩:=h;rcases hu with⟨rfl,h⟩|⟨n,j,k,l,m,h,h2,h3,h4,h5⟩|⟨n,j,k,l,m,h,h2,h3,h4,h5⟩|⟨t,o,a',x',j,k,q,l,m,rfl,rfl,h,h3,h4,h5,p⟩
 .refine(lC c vN vT vS w f.Bw).mono ?_;rintro e w' ⟨hu,rfl⟩;exact⟨hu,_,_,_,_,_,f.same h,BF.refl _ _⟩
 .refine(lG f h h2 h3 h4).mono ?_;rintro e w' ⟨hu,a,b,m1,d1⟩;exact⟨hu,_,_,_,_,_,m1.same h5,d1⟩
 .refine(lF f h h2 h3 h4).mono ?_;rintro e w' ⟨hu,d,b,m1,d1⟩;exact⟨hu,_,_,_,_,_,m1.same h5,d1⟩
 refine(lE o g a' x' f h h3 h4 h5 p).mono ?_;rintro e w' ⟨hu,a,b,m1,d1⟩;exact⟨hu,_,_,_,_,_,m1,d1⟩
section
def Xn(Z:Nat->Prop)(c B0:Nat)(vN vT vS:V9)(s:AK)(t:Nat)(k v:Vl)(w:Y)(e:Ending)(w':Y):Prop:=
 ∃a b d f,e=.returned (CB<|CE s t k v)/\BF (Az B0 c vN vT vS w) w (Az B0 c a b d w') w'/\
  ((CE s t k v=0/\∃g A',A6 Z w' c B0 a b d f g A'<|Ct s t k v)\/(CE s t k v≠0/\P0 Z w' c B0 a b d f (Ct s t k v)))
structure lN (w W:Y) (k v:Vl):Prop where
 k:W.heap[w.heap.size]?=some (.cells (qe k) 43 (0,0))
 v:W.heap[w.heap.size+1]?=some (.cells (qe v) 43 (0,0))
def lN.below{v}(h:lN w W k v)(hb:B9 W W'):lN w W' k v:=⟨(hb.block _<|Ah h.k).trans h.k,(hb.block _<|Ah h.v).trans h.v⟩
def lN.cells{v}(h:lN w W k v):(W.cell? (y w 0)=some (J k.kind)/\W.cell? (y w 1)=some (J k.num)/\W.cell? (y w 2)=some (F9 k.Af)/\W.cell? (y w 3)=some (.string k.str)/\W.cell? (y w 4)=some (J k.ref))/\(W.cell? (Y9 w 0)=some (J v.kind)/\W.cell? (Y9 w 1)=some (J v.num)/\W.cell? (Y9 w 2)=some (F9 v.Af)/\W.cell? (Y9 w 3)=some (.string v.str)/\W.cell? (Y9 w 4)=some (J v.ref)):=by
 obtain⟨h1,h2⟩:=h;exact⟨⟨by simp[World.cell?,h1],by simp[World.cell?,h1],by simp[World.cell?,h1],by simp[World.cell?,h1],by simp[World.cell?,h1]⟩,⟨by simp[World.cell?,h2],by simp[World.cell?,h2],by simp[World.cell?,h2],by simp[World.cell?,h2],by simp[World.cell?,h2]⟩⟩
def vA w k v:∃W,W=(w.alloc<|.cells (qe k) 43).alloc (.cells (qe v) 43)/\B9 w W/\lN w W k v/\W.heap.size=w.heap.size+1+1:=by
 refine⟨_,rfl,(n9).alloc oq _,⟨(DO _ _ _ oq).trans<|DD _ _,?_⟩,oq⟩;have h1:=DD (w.alloc<|.cells (qe k) 43)<|.cells (qe v) 43;simpa using h1
theorem XG(v:Vl)w:(Instr.field 43 (V v.kind v.num v.Af v.str v.ref) 0).run prog w=.ok (J v.kind) w:=ou
attribute [local go_sem] XG
def gQ{t}{v}(h:v.kind=0/\(Cg s.F (s.T t) k).kind=0):CE s t k v=0/\Ct s t k v=s:=by
 grind [Cg,CE,Ct,B8]
def gP{t}{v}(h:¬(v.kind=0/\(Cg s.F (s.T t) k).kind=0))(a:(s.T t).shape=-1):(Ep (s.T t).d k v=true->CE s t k v=5/\Ct s t k v=s)/\(Ep (s.T t).d k v=false->CE s t k v=0/\Ct s t k v=BJ s t (Eo (s.T t) (s.T t).d k v)):=by
 grind [Cg,Ep,CE,Ct,BJ,Eo,B8]
section
variable {Z:Nat->Prop} {w w1 w2:Y} {c B0:Nat} {vN vT vS vU:V9} {Bk:Nat->Nat} {A:Nat->Ad} {s:AK} {t:Nat} {k v:Vl} {e:Ending}
def sK.un(j:A6 Z w c B0 vN vT vS vU Bk A s)(hb:B9 w w1)(f:¬(v.kind=0/\(Cg s.F (s.T t) k).kind=0))(n:(s.T t).shape=-1)(l:t<s.nt)(o:s.nt<=100)(h:sK Z c B0 vN vT vS Bk A s t (s.T t).d k v w1 e w2):Xn Z c B0 vN vT vS s t k v w e w2:=by
 obtain⟨b,a,a',m,g,p,q,r,u,x,B,i⟩:=h;obtain⟨m1,d1⟩:=j.below hb;obtain⟨C,D⟩:=gP f n;cases hf:Ep (s.T t).d k v
 .obtain⟨e1,e2⟩:=D hf;rw[hf]at b;exact⟨vN,vT,vS,a,by rw[b,e1];rfl,d1.trans g,.inl ⟨e1,Bk,AX A t a',by rw[e2];exact m⟩⟩
 obtain⟨e1,e2⟩:=C hf;rw[hf]at b;refine⟨vN,vT,vS,a,by rw[b,e1];rfl,d1.trans g,.inr ⟨by rw[e1];decide,?_⟩⟩;rw[e2];exact⟨Bk,AX A t a',_,m,.inr<|.inr<|.inr ⟨t,A,a',_,p,q,r,u,x,rfl,rfl,B,i,l,om,((j.rd t l).step d1.oz).step g.oz⟩⟩
end
def gU{Bk}t{k v}{w}(l:A6 Z w c B0 vN vT vS (N9) Bk A s)(B:t<s.nt)(C:s.nt<=100)(M:B2 w)(I:(s.T t).shape=-1)(L:Inv Ky hN (s.T t).d)(D:S4 (s.T t).d)(hm:(s.T t).d.m<=4000000)(hk:Ky k)(hv:v.ok=true)(P:Mm k v)(Q:5<=B0):
  C9 168 #[Q9 c,J t,GR k,GR v] w λe w'=>Xn Z c B0 vN vT vS s t k v w e w':=by
 obtain⟨g,R,S,U,aq,r,V⟩:=l.CU B;subst S;have E:AL Bk (A t) (s.T t)=.iface 194 (KC (A t)<|s.T t):=C3 I;rw[E]at r;obtain⟨W,hW,i,H,X⟩:=vA w k v;have ad:=l.lt;have hS:=L.small om;obtain⟨n,p⟩:=o9<|Cg s.F (s.T t) k;have q:Hid<|∀w1,B9 W w1->C9 267 #[KC (A t) (s.T t),GR k] w1 (R9 (GR n) w1):=O (λw1 h1=>by
  have a:=i.trans (h1.mono om);rw[p];exact IE (A t) (s.T t) s.F (A1 _ _ M a) I L D hS hk (((l.rd t B).now.2).below a))
 have ae:Hid<|∀w1,B9 w w1->¬(v.kind=0/\n.kind=0)->C9 183 #[Q9 c,J (t:Int),Dv (A t).la (A t).lc (A t).ia (A t).ic (A t).xa (A t).xc (s.T t).d,GR k,GR v] w1 λe w'=>Xn Z c B0 vN (S9 g s.nt R) vS s t k v w e w':=O (λw1 h1 b=>by
  refine(Jm t (A t).lc (A t).ic (A t).xc (l.below h1).1 B C (A1 _ _ M h1) (((l.rd t B).now.2).below h1) L hm hk hv P Q).mono ?_;intro e w2 h2;exact sK.un l h1 (by rw[<-p];exact b) I B C h2)
 have af:Hid<|∀w1,B9 w w1->v.kind=0/\n.kind=0->Xn Z c B0 vN (S9 g s.nt R) vS s t k v w (.returned<|CB 0) w1:=O (λw1 h1 h2=>by
  obtain⟨e1,e2⟩:=gQ (by rw[<-p];exact h2);obtain⟨m1,d1⟩:=l.below h1;exact⟨_,_,_,_,by rw[e1],d1,.inl ⟨e1,Bk,A,by rw[e2];exact m1⟩⟩)
 rcases (i.cell ad).trans l.cells.2.1,(i.cell U).trans r,H.cells with⟨x1,xg,⟨⟨k0,k1,k2,k3,k4⟩,⟨v0,v1,v2,v3,v4⟩⟩⟩;have lc:c<W.heap.size:=om;have lg:g<W.heap.size:=om;have l0:w.heap.size<W.heap.size:=om;have l1:w.heap.size+1<W.heap.size:=om;have ar:=vD<|KC (A t)<|s.T t;have au:=wG<|KC (A t)<|s.T t;clear l M L D hm hk hv hS p r V E I X;go_enter func168,ntmps168;go_upto_region 1 with fail
 rw[<-hW];clear hW;by_cases b:v.kind=0/\n.kind=0
 case pos=>
  have d1:(v.kind==0)=true:=by simp[b.1]
  have d2:(n.kind==0)=true:=by simp[b.2]
  have HN:=O b;clear b;refine qr W ?_;(iterate 12 refine N (h:=?_));refine N (h:=?_);refine GC λK hK=>?_;go_simp;apply Exists.intro;refine qj (λw' f=>?_)<|hK _ ?_
  .go_invoke
   (try go_simp)
   refine(q _ f).mono ?_;rintro e ag ⟨rfl,hb⟩;exact⟨rfl,o8 f hb⟩
  clear hK K;refine N (h:=N (h:=N (h:=?_)));refine GS ?_;intro w1 a;have HE:=z af w1 (i.trans<|a.mono om) HN;clear a;go_wp2;refine GO (v:=CB 0) (by simp[results,results168,go_sem,CB]) rfl HE
 have u:(v.kind=0/\n.kind≠0)\/v.kind≠0:=by
  by_cases h:v.kind=0
  .exact .inl ⟨h,λe=>b ⟨h,e⟩⟩
  exact .inr h
 have HN:=O b;clear b;rcases u with⟨h1,h2⟩|h1
 case' inl=>
  have d1:(v.kind==0)=true:=by simp[h1]
  have d2:(n.kind==0)=false:=by simp[h2]
  clear h1 h2;refine qr W ?_;(iterate 12 refine N (h:=?_));refine N (h:=?_);refine GC λK hK=>?_;go_simp;apply Exists.intro;refine qj (λw' f=>?_)<|hK _ ?_
  .go_invoke
   (try go_simp)
   refine(q _ f).mono ?_;rintro e ag ⟨rfl,hb⟩;exact⟨rfl,o8 f hb⟩
  clear hK K;refine N (h:=N (h:=N (h:=?_)));refine GS ?_;intro w1 a
 case' inr=>
  have d1:(v.kind==0)=false:=by simp[h1]
  clear h1;go_quiet (fail);obtain⟨w1,x⟩:=o9<|W.drewN nq;have a:B9 W w1:=by rw[x];exact⟨rfl,rfl,rfl,Be _,λ_ _=>rfl⟩
  rw[<-x];clear x
 all_goals
  rcases (a.cell lc).trans x1,(a.cell lg).trans xg,(H.below a).cells,a.size with⟨x1,xg,⟨⟨k0,k1,k2,k3,k4⟩,⟨v0,v1,v2,v3,v4⟩⟩,z1⟩;have av:w.heap.size<w1.heap.size:=om;have aw:w.heap.size+1<w1.heap.size:=om;have ah:Hid<|∀o,B9 w<|w1.alloc o:=O λo=>(i.trans<|a.mono om).alloc om _;clear a;go_wp2_with fail;refine(ae _ (ah _) HN).mono ?_;intro e w3 hP;obtain⟨ai,aj,ak,ao,he,j⟩:=hP;have HP:Hid<|Xn Z c B0 vN (S9 g s.nt R) vS s t k v w (.returned<|CB<|CE s t k v) w3:=O ⟨ai,aj,ak,ao,rfl,j⟩;subst he;clear j;go_wp2;refine GO (v:=CB<|CE s t k v) (by simp[results,results168,go_sem]) rfl HP
end
end Go.Proofs.YtoobllcjfinmoaaGreatDoor
