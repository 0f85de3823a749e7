import Derived.Handy
import Derived.Test.YtkpfgniijbgkoaaGreatDoorSSAH
import Derived.Test.YtkpfgniijbgkoaaGreatDoorSSAI
set_option linter.all false
set_option maxHeartbeats 40000000
set_option maxRecDepth 100000
namespace Go.Proofs.YtkpfgniijbgkoaaGreatDoor
open Go.Proofs.Tryz
open Go.RowKit
attribute [local go_sem] AB Aw CU
variable {w w' W W' w1:Y}{B a B0 c g ab b n p bk R2 lo hi j rb m l cu bw:Nat}{s s':AE}{A A':Nat->Ad}{x t:Tb}{Z:Nat->Prop}{vN vT vS vU i r0 r1 BT B1:V9}{k v:Vl}{Q:Pl}{E S:Nat->Nat}{d:Dc}{f:Nat->Vl}{h:Hs}{cs:Array Value}
section
open Go.RowKit Go.Extern
abbrev cC:Value:=.iface 222<|.agg #[.pointer (some<|G 5 119)]
def Ib(w:Y):Prop:=w.cell? (G 0 0)=some cC
def Ib.lt(h:Ib w):0<w.heap.size:=by
 rcases Nat.lt_or_ge 0 w.heap.size with h1|h1
 .exact h1
 unfold Ib at h;simp[World.cell?,Array.getElem?_eq_none h1]at h
def Ib.below(h:Ib w)(hb:Below B w w')(a:0<B):Ib w':=
 (As<|hb.block _ a).trans h
def lZ t w:(ReflectliteValue.unpack<|.iface 179<|.pointer<|some t).run prog w
  =.ok (.agg #[.pointer (some<|G 5 179),Q9 w.heap.size,.int .u64 150]) (w.alloc<|.cells #[.pointer (some t)] 179):=ou
def lX(a)(w):(ReflectliteValue.methodAny (ReflectliteValue.valueError "reflectlite.Value.Type" 0) (λt _ _ _=>ReflectliteType.toType t) #[.agg #[.pointer (some (G 5 179)),.pointer (some a),.int .u64 150]]).run prog w
  =.ok (.iface 222<|.agg #[.pointer (some<|G 5 179)]) w:=ou
def dV w:((ReflectliteType.abiMethod λt=>(λa:Nat=>Value.int IntKind.u8 (a:Int)) <$> Rtype.kind t) #[.pointer (some<|G 5 179)]).run prog w=.ok (.int .u8 22) w:=ou
def dT w:((ReflectliteType.abiMethod λt=>(λa:Nat=>Value.int IntKind.u8 (a:Int)) <$> Rtype.kind t) #[.pointer (some<|G 5 164)]).run prog w=.ok (.int .u8 25) w:=ou
def uY Z f v:
  ReflectliteValue.method Z f #[v]=(do match<-ReflectliteValue.parts v with|none=>Z|some (t,a,b)=>f t a b<|b%32):=rfl
def Rg a w:(ReflectliteValue.parts<|.agg #[.pointer (some<|G 5 179),.pointer<|some a,.int .u64 150]).run prog w=.ok (some (179,a,150)) w:=ou
def dS a p W(b:W.cell? a=some (.pointer<|some p)):
  (ReflectliteValue.method (ReflectliteValue.valueError "reflectlite.Value.IsNil" 0) ReflectliteValue.isNil #[.agg #[.pointer (some (G 5 179)),.pointer (some a),.int .u64 150]]).run prog W=.ok (.bool false) W:=by
 rw[uY];simp only[AaM,Rg,Result.andThen];simp[ReflectliteValue.isNil,loadVar,isAgg,underlying,underlying179,b,Result.andThen]
def lT w:(ReflectliteType.method ReflectliteType.elem #[.agg #[.pointer (some<|G 5 179)]]).run prog w=.ok (.iface 222<|.agg #[.pointer (some<|G 5 164)]) w:=ou
def lU(w):(ReflectliteType.relation "Implements" ReflectliteType.implements_ #[.agg #[.pointer (some (G 5 164))],cC]).run prog w=.ok (.bool true) w:=ou
def Zl v w:(ReflectliteType.typeOf #[.iface 164 v]).run prog w=.ok (.iface 222<|.agg #[.pointer (some<|G 5 164)]) w:=ou
def Zg(w):(ReflectliteType.relation "AssignableTo" ReflectliteType.assignableTo #[.agg #[.pointer (some (G 5 164))],.iface 222 (.agg #[.pointer (some (G 5 164))])]).run prog w=.ok (.bool true) w:=ou
def lY c w:(ReflectliteValue.unpack<|.iface 164<|.agg #[J c]).run prog w
  =.ok (.agg #[.pointer (some<|G 5 164),Q9 w.heap.size,.int .u64 153]) (w.alloc<|.cells #[J c] 164):=ou
def Zi w:(Rtype.elem? 179).run prog w=.ok (some 164) w:=ou
def uZ p w:(ReflectliteValue.mk 164 p ReflectliteValue.flagAddr).run prog w=.ok (.agg #[.pointer (some<|G 5 164),.pointer<|some p,.int .u64 409]) w:=ou
def dR a p W(b:W.cell? a=some (.pointer<|some p)):
  (ReflectliteValue.method (ReflectliteValue.valueError "reflectlite.Value.Elem" 0) ReflectliteValue.elem #[.agg #[.pointer (some (G 5 179)),.pointer (some a),.int .u64 150]]).run prog W
   =.ok (.agg #[.pointer (some<|G 5 164),.pointer<|some p,.int .u64 409]) W:=by
 rw[uY];simp only[AaM,Rg,Result.andThen];simp[ReflectliteValue.elem,loadVar,isAgg,underlying,underlying179,b,Result.andThen,Zi,uZ]
def xM v x:ReflectliteValue.set #[v,x]=(do
  let (some (dst,a,c),some (src,b,_)):=(<-ReflectliteValue.parts v,<-ReflectliteValue.parts x)
   |unsupported (.noEntry "extern/(internal/reflectlite.Value).Set.zeroValue")
  if c/ReflectliteValue.flagAddr%2==0 then unsupported (.noEntry "extern/(internal/reflectlite.Value).Set.unaddressable")
  let val<-loadVar src b
  if<-Rtype.directlyAssignable dst src then storeVar dst a val
  else if<-Rtype.implements dst src then
   if(<-Rtype.kind src)==20 then
    match val with
    |.nilIface=>unsupported (.noEntry "extern/reflectlite: a nil value of one interface type handed on as a value of another")
    |_=>storeVar dst a val
   else storeVar dst a (.iface src val)
  else panicString ("reflectlite.Set: value of type " ++(<-Rtype.spelt src)++ " is not assignable to type " ++(<-Rtype.spelt dst))
  pure (.tuple #[])):=rfl
def Zj a w:(ReflectliteValue.parts<|.agg #[.pointer (some<|G 5 164),.pointer<|some a,.int .u64 409]).run prog w=.ok (some (164,a,409)) w:=ou
def Zk a w:(ReflectliteValue.parts<|.agg #[.pointer (some<|G 5 164),.pointer<|some a,.int .u64 153]).run prog w=.ok (some (164,a,153)) w:=ou
def Zh w:(Rtype.directlyAssignable 164 164).run prog w=.ok true w:=ou
def lV(w:Y)c:(loadVar 164<|y w 0).run prog (w.alloc<|.cells #[J c] 164)=.ok (.agg #[J c]) (w.alloc<|.cells #[J c] 164):=by
 simp[loadVar,isAgg,underlying,underlying164,Result.andThen,go_sem]
def rI tb c old(w:Y)(hl:tb<w.heap.size)(a:w.cell? (G tb 0)=some old)(hf:w.frozen? (G tb 0)=false):
  (ReflectliteValue.set #[.agg #[.pointer (some<|G 5 164),Q9 tb,.int .u64 409],.agg #[.pointer (some<|G 5 164),Q9 w.heap.size,.int .u64 153]]).run prog (w.alloc<|.cells #[J c] 164)
   =.ok (.tuple #[]) ((w.alloc<|.cells #[J c] 164).setCell (G tb 0)<|J c):=by
 rw[xM];simp only[AaM,Zj,Zk,Result.andThen];simp only[ReflectliteValue.flagAddr];simp[lV,Zh,Result.andThen,storeVar,Value.cells,storeCells,Addr.add];rw[run_store prog _ (G tb 0) _ _ (by rfl)];simp[It _ _ (G tb 0) hl,World.frozen?_alloc_old _ _ (G tb 0) (Nat.ne_of_lt hl),a,hf]
def qP t w:
  C9 105 #[.nilIface,t] w λe w'=>e=.returned (.bool false)/\w'=w:=by
 go_enter func105,ntmps105;go_wp2;go_ret;exact⟨rfl,rfl⟩
def qO c tb old{w}(e:Ib w)(hl:tb<w.heap.size)(a:w.cell? (G tb 0)=some old)(b:w.frozen? (G tb 0)=false):
  C9 105 #[.iface 164 (.agg #[J c]),.iface 179 (Q9 tb)] w λg w'=>g=.returned (.bool true)/\w'=((((w.alloc<|.cells #[Q9 tb] 179).alloc<|.cells #[.pointer (some<|G 5 179),Q9 w.heap.size,.int .u64 150] 202).alloc<|.cells #[.pointer (some<|G 5 179),Q9 w.heap.size,.int .u64 150] 202).alloc<|.cells #[J c] 164).setCell (G tb 0) (J c):=by
 have u:=@run_callFunc_extern prog 129 _ (λargs=>ReflectliteValue.unpack (args.getD 0 (.tuple #[]))) func129 ou ou ou ou;have v:=@run_callFunc_extern prog 130 _ (ReflectliteValue.methodAny (ReflectliteValue.valueError "reflectlite.Value.Type" 0) (λt _ _ _=>ReflectliteType.toType t)) func130 ou ou ou ou;have x:=@run_callFunc_extern prog 131 _ (ReflectliteValue.method (ReflectliteValue.valueError "reflectlite.Value.IsNil" 0) ReflectliteValue.isNil) func131 ou ou ou ou;have h:=@run_callFunc_extern prog 222 _ (ReflectliteType.abiMethod λt=>do pure (.int .u8 (<-Rtype.kind t))) func222 ou ou ou ou;have i:=@run_callFunc_extern prog 262 _ (ReflectliteType.method ReflectliteType.elem) func262 ou ou ou ou;have j:=@run_callFunc_extern prog 263 _ (ReflectliteType.relation "Implements" ReflectliteType.implements_) func263 ou ou ou ou;have k:=@run_callFunc_extern prog 145 _ ReflectliteType.typeOf func145 ou ou ou ou;have l:=@run_callFunc_extern prog 260 _ (ReflectliteType.relation "AssignableTo" ReflectliteType.assignableTo) func260 ou ou ou ou;have m:=@run_callFunc_extern prog 146 _ (ReflectliteValue.method (ReflectliteValue.valueError "reflectlite.Value.Elem" 0) ReflectliteValue.elem) func146 ou ou ou ou;have n:=@run_callFunc_extern prog 147 _ ReflectliteValue.set func147 ou ou ou ou;have A:=Zl;have a25:=Zg;have v25:=lY;have f6:=lZ;have f7:=lX;have o:=dV;have p:=dT;have q:=lT;have i25:=lU;obtain⟨f,r⟩:=qa ((w.alloc (.cells #[Q9 tb] 179)).alloc (.cells #[.pointer (some (G 5 179)),Q9 w.heap.size,.int .u64 150] 202));have B:=dS (y w 0) (G tb 0) ((w.alloc (.cells #[Q9 tb] 179)).alloc (.cells #[.pointer (some (G 5 179)),Q9 w.heap.size,.int .u64 150] 202)) oq;have d:=e.lt;have s:((w.alloc (.cells #[Q9 tb] 179)).alloc (.cells #[.pointer (some (G 5 179)),Q9 w.heap.size,.int .u64 150] 202)).cell? (G 0 0)=some cC:=by
  rw[It _ _ (G 0 0) (by simp<;>omega),It _ _ (G 0 0) d];exact e
 have el:=dR (y w 0) (G tb 0) (((w.alloc<|.cells #[Q9 tb] 179).alloc<|.cells #[.pointer (some<|G 5 179),Q9 w.heap.size,.int .u64 150] 202).alloc<|.cells #[.pointer (some<|G 5 179),Q9 w.heap.size,.int .u64 150] 202) (by rw[It _ _ (y w 0) ot];simp);have st:=rI tb c old (((w.alloc<|.cells #[Q9 tb] 179).alloc<|.cells #[.pointer (some<|G 5 179),Q9 w.heap.size,.int .u64 150] 202).alloc<|.cells #[.pointer (some<|G 5 179),Q9 w.heap.size,.int .u64 150] 202) ot
  (by rw[It _ _ (G tb 0) ot,It _ _ (G tb 0) ot,It _ _ (G tb 0) hl];exact a)
  (by rw[World.frozen?_alloc_old _ _ (G tb 0) ot,World.frozen?_alloc_old _ _ (G tb 0) ot,World.frozen?_alloc_old _ _ (G tb 0) (Nat.ne_of_lt hl)];exact b)
 have sz:(((w.alloc<|.cells #[Q9 tb] 179).alloc<|.cells #[.pointer (some<|G 5 179),Q9 w.heap.size,.int .u64 150] 202).alloc<|.cells #[.pointer (some<|G 5 179),Q9 w.heap.size,.int .u64 150] 202).heap.size=w.heap.size+1+1+1:=oq;rw[sz]at st;go_enter func105,ntmps105;go_wp2;refine wp_loop_rounds 1 ?_;rw[rounds_succ];go_wp2;go_ret;exact⟨rfl,rfl⟩
end
def CP(c:Int):Value:=if c=0 then .nilIface else .iface 164 (.agg #[J c])
def Wj c{w}(j:Ib w):
  C9 63 #[CP c] w (R9 (J c) w):=by
 unfold CP;by_cases f:c=0
 .subst f;rw[DD rfl];go_enter func63,ntmps63;go_wp2_with (go_at_call 105;refine(qP _ _).mono ?_;rintro e w1 ⟨rfl,rfl⟩);go_ret;exact⟨rfl,n9⟩
 rw[C3 f];clear f;have g:=j.lt;obtain⟨W,a⟩:=qa<|w.alloc<|.cells #[J 0] 164;have b:B9 w W:=by rw[a];exact(BE _ _).alloc (Be _) _
 have d:=j.below b g;have hl:w.heap.size<W.heap.size:=by rw[a];simp
 obtain⟨h,k⟩:W.cell? (y w 0)=some (J 0)/\W.frozen? (y w 0)=false:=by rw[a];simp[go_sem]
 have l:=O b;go_enter func63,ntmps63;go_wp2_with fail;rw[<-a];refine(qO c w.heap.size _ d hl h k).mono ?_;rintro e w1 ⟨rfl,h1⟩;have i:B9 w w1:=by
  rw[h1];refine On (p:=y w 0) ?_ (Be _) _;exact(((l.alloc om _).alloc ot _).alloc ot _).alloc ot _
 have m:w1.cell? (y w 0)=some (J c):=by
  rw[h1];apply World.cell?_setCell_same (u:=J 0);rw[It _ _ (y w 0) ot,It _ _ (y w 0) ot,It _ _ (y w 0) ot,It _ _ (y w 0) hl];exact h
 clear h1 a h k d;go_wp2_with fail;go_ret;exact⟨rfl,i⟩
theorem zJ{op}(h1:1<=op)(a:op<=9):(bt op 1!=0)=Dl op/\(bt op 2!=0)=EH op/\(bt op 8!=0)=(op==2||op==3||op==7):=by
 rcases(by omega:op=1\/op=2\/op=3\/op=4\/op=5\/op=6\/op=7\/op=8\/op=9)with rfl|rfl|rfl|rfl|rfl|rfl|rfl|rfl|rfl
 .rw[yN.2.1];decide
 .rw[yO.2.1];decide
 .rw[yP.2.1];decide
 .rw[yQ.2.1];decide
 .rw[yR.2.1];decide
 .rw[yS.2.1];decide
 .rw[yT.2.1];decide
 .rw[yU.2.1];decide
 rw[yV.2.1];decide
def dY c k n f s r w:(Instr.field 133 (KV c k n f s r) 0).run prog w=.ok (J c) w:=ou
theorem iZ{a}(h:Cx a=true)(b:a.op=7):De a.k=0:=by
 have h2:=(CO h).2.2.1;grind [Cx,De]
def qR{a}(h:Cx a=true)nt ns:H7 a nt ns=if(bt a.op 1!=0)=true/\(nt:Int)<=a.t then 2 else if(bt a.op 2!=0)=true/\(ns:Int)<=a.site then 3 else if(bt a.op 8!=0)=true/\De a.k≠0 then 4 else 0:=by
 obtain⟨_,_,_,_,_,h1,b⟩:=CO h;grind [H7,zJ,iZ]
def Y7 a(nt ns:Nat)w(H:nt<=100)(I:ns<=50):
  C9 104 #[I5 a,J nt,J ns] w (R9 (CP<|H7 a nt ns) w):=by
 obtain⟨W,c,q,_⟩:=Ll w<|.cells (qj a) 34;have c0:W.cell? (y w 0)=some (J a.op):=by rw[c];simp[go_sem]
 obtain⟨c1,c2,c4,c5,c6,c7,p⟩:W.cell? (y w 1)=some (J a.t)/\W.cell? (y w 2)=some (J a.site)/\W.cell? (y w 4)=some (J a.k.kind)/\W.cell? (y w 5)=some (J a.k.num)/\W.cell? (y w 6)=some (F9 a.k.Ah)/\W.cell? (y w 7)=some (.string a.k.str)/\W.cell? (y w 8)=some (J a.k.ref):=by rw[c];simp[go_sem]
 have hz:w.heap.size<W.heap.size:=by rw[c];simp
 have A:=O<|qp c0<|qp c1<|qp c2<|qp c4<|qp c5<|qp c6<|qp c7 p;have B:=O q;go_enter func104,ntmps104;go_wp2_with fail;rw[<-c];refine m9 (Rq a _) λw1 d=>?_;rcases O (o9 B d),A0 hz d.size,(d.cell hz).trans A.1,O (d.block _ hz) with⟨f,m,c0,r⟩;cases hA:Cx a
 .have g:Hid<|H7 a nt ns=1:=O (by unfold H7;rw[DD hA]);go_wp2_with fail;go_ret;exact⟨ql g,f⟩
 have g:=O<|qR hA nt ns;obtain⟨_,_,_,_,_,h1,S⟩:=CO hA;obtain⟨fn,L⟩:=UD a.op om om;have M:=Yd;go_wp2_with fail;refine qr w1 ?_;refine GS λK hK=>?_;go_simp;refine⟨_,λw' i=>qk i<|MA _,hK _ ?_⟩;clear hK K;refine N (h:=N (h:=?_));refine GS λK hK=>?_;go_simp;apply Exists.intro;refine qp (λw' i=>?_)<|hK _ ?_
 .rfl
 clear hK K;refine GS λK hK=>?_;go_simp;apply Exists.intro;refine qp (λw' i=>?_)<|hK _ ?_
 .rfl
 clear hK K;refine N (h:=?_);refine Hz ?_;intro w2 j;rcases A0 m j.size,(j.block _ m).trans r,z A with⟨P,DM,⟨_,c1,c2,c4,c5,c6,c7,p⟩⟩;rcases (As (a:=y w 1) DM).trans c1,(As (a:=y w 2) DM).trans c2,(As (a:=y w 4) DM).trans c4,(As (a:=y w 5) DM).trans c5,(As (a:=y w 6) DM).trans c6,(As (a:=y w 7) DM).trans c7,(As (a:=y w 8) DM).trans p,O<|o9 f j,O (EF a.k) with⟨c1,c2,c4,c5,c6,c7,p,b,s⟩;have Q:=dY;generalize C:(bt a.op 1!=0)=x1 at g;generalize D:(bt a.op 2!=0)=x2 at g;generalize E:(bt a.op 8!=0)=R at g;by_cases g1:x1=true/\(nt:Int)<=a.t
 .have e:=O<|g.trans<|DD g1;obtain⟨rfl,g1⟩:=g1;go_wp2_with fail;go_ret;exact⟨ql e,b⟩
 have o:=O<|g.trans<|C3 g1;have u:x1=false\/(x1=true/\¬(nt:Int)<=a.t):=by
  cases x1
  .exact .inl rfl
  exact .inr ⟨rfl,λh=>g1 ⟨rfl,h⟩⟩
 by_cases g2:x2=true/\(ns:Int)<=a.site
 .have e:=O<|o.trans<|DD g2;obtain⟨rfl,g2⟩:=g2;rcases u with rfl|⟨rfl,g1⟩;all_goals(go_wp2_with fail;go_ret;exact⟨ql e,b⟩)
 have l:=O<|o.trans<|C3 g2;have F:x2=false\/(x2=true/\¬(ns:Int)<=a.site):=by
  cases x2
  .exact .inl rfl
  exact .inr ⟨rfl,λh=>g2 ⟨rfl,h⟩⟩
 cases R
 .have e:=O<|l.trans<|C3 oq;rcases u with rfl|⟨rfl,g1⟩<;>rcases F with rfl|⟨rfl,g2⟩
  all_goals(go_wp2_with fail;go_ret;exact⟨ql e,b⟩)
 by_cases g3:De a.k=0
 focus
  have e:=O<|l.trans<|C3 (by simp[g3]);have d3:(De a.k !=0)=false:=by simp[g3]
 rotate_left
 focus
  have e:=O<|l.trans<|DD ⟨rfl,g3⟩;have d3:(De a.k !=0)=true:=by simp[g3]
 all_goals
  rcases u with rfl|⟨rfl,g1⟩<;>rcases F with rfl|⟨rfl,g2⟩
  all_goals(go_wp2_with (go_at_call 98;refine m9 (Gd a.k.kind a.k.num a.k.Ah a.k.str a.k.ref _) λw3 x=>?_;rw[z s]);go_ret;exact⟨ql e,o9 b x⟩)
structure Y1 (w:Y) (s:AE) (B0:Nat) (Bk:Nat->Nat) (A:Ad) (x:Tb):Prop where
 nd:Lc w s B0 Bk
 v:IX w A.va x.nv x.V
 d:FJ w A.la A.ia A.xa x.d
 tb:BZ w
def Y1.below{Bk}{A}(h:Y1 w s B0 Bk A x)(hb:B9 w w'):Y1 w' s B0 Bk A x:=⟨h.nd.below hb,h.v.below hb rfl,h.d.below hb,Bb _ _ h.tb hb⟩
def Bg.xD{Bk}(h:Bg Z w c B0 vN vT vS vU Bk A s)(b:BZ w){t}(a:t<s.nt):Y1 w s B0 Bk (A t)<|s.T t:=⟨h.nd,(h.rd t a).now.1,(h.rd t a).now.2,b⟩
def UH{Bk}{A}(hf:Ar s.nf s.F=0)(b:Qo s x){k}(hk:Ky k):
  (AX Bk A x=.iface 153 (Le A x)/\∀w,Y1 w s B0 Bk A x->C9 228 #[Le A x,Ga k] w (R9 (Ga<|Cb s.F x k) w))\/
  (∃p,AX Bk A x=.iface 156 (CK p A x)/\∀w,Y1 w s B0 Bk A x->C9 251 #[CK p A x,Ga k] w (R9 (Ga<|Cb s.F x k) w)):=by
 rcases b.way with⟨h1,h2,h3⟩|⟨j,h1,h2,h3,h4,h5⟩
 .exact .inl ⟨DD h1,λw a=>I2 A x s.F a.tb h1 h3 b.wf b.small hk a.d⟩
 refine .inr ⟨Bk j,?_,λw a=>KC A x j k a.nd hf h2 h1 h3 a.v⟩;rw[AX];rw[h1];rfl
theorem Ye c k n f s r w:(Instr.field 133 (KV c k n f s r) 1).run prog w=.ok (V k n f s r) w:=ou
attribute [local go_sem] Ye
def IU(c g ab t:Nat)(vT a:V9)(k:Vl)(W:Y):Prop:=W.cell? (G c 1)=some vT/\W.cell? (G g t)=some a/\W.cell? (G ab 1)=some (J (t:Int))/\W.cell? (G ab 4)=some (J k.kind)/\W.cell? (G ab 5)=some (J k.num)/\W.cell? (G ab 6)=some (F9 k.Ah)/\W.cell? (G ab 7)=some (.string k.str)/\W.cell? (G ab 8)=some (J k.ref)
def IU.keep{t}{b}(h:IU c g ab t vT b k w)(hc:w'.heap[c]?=w.heap[c]?)(d:w'.heap[g]?=w.heap[g]?)(a:w'.heap[ab]?=w.heap[ab]?):IU c g ab t vT b k w':=by
 obtain⟨h1,h2,h3,h4,h5,e,f,i⟩:=h;exact⟨(As hc).trans h1,(As d).trans h2,(As a).trans h3,(As a).trans h4,(As a).trans h5,(As a).trans e,(As a).trans f,(As a).trans i⟩
def kG{Bk}(a:Ac)t{w}(r:Bg Z w c B0 vN vT vS vU Bk A s)(hf:Ar s.nf s.F=0)(V:Qo s<|s.T t)(X:BZ w)(et:a.t=t)(ht:t<s.nt)(ad:s.nt<=100)(hk:Ky<|CZ a.k):
  C9 52 #[Q9 c,I5 a] w (R9 (.tuple #[H9 (FL<|Cb s.F (s.T t)<|CZ a.k),CP 0]) w):=by
 obtain⟨g,cp,hv,C,ae,u,D⟩:=r.CA ht;subst hv;obtain⟨W,hW,i,hA,hR,hz⟩:=boxes w a;have E:=r.lt;have H:=(r.xD X ht).below i;have j:∀n,AX Bk (A t) (s.T t)=n->IU c g w.heap.size t (S9 g s.nt cp) n a.k W.drew:=λn e=>by
  obtain⟨a0,a1,a2,a3,a4,a5,a6,a7,a8,a9⟩:=hA.all;rw[et]at a1;exact⟨(i.cell (p:=G c 1) E).trans r.cells.2.1,(i.cell (p:=G g t) C).trans<|u.trans<|by rw[e],a1,a4,a5,a6,a7,a8⟩
 have I:=O j;have L:=O<|UH (B0:=B0) (Bk:=Bk) (A:=A t) hf V hk;have af:=hz;clear r hA j hf V X hk u D et;go_enter func52,ntmps52;go_wp2_with fail;rw[<-hW];clear hW;rcases z L with⟨d,M⟩|⟨p,d,M⟩
 case' inl=>refine DL (IU c g w.heap.size t (S9 g s.nt cp) (.iface 153<|Le (A t)<|s.T t) a.k) ou ?_
 case' inr=>refine DL (IU c g w.heap.size t (S9 g s.nt cp) (.iface 156<|CK p (A t)<|s.T t) a.k) ou ?_
 all_goals
  have j:=z I _ d;have HC:=O M;clear M d;change wpAnyH _ _ _ _ _ _ _ _ (World.drew _);refine tz 0 (h:=tz 1 (h:=tz 2 (h:=tz 3 (h:=tz 4 (h:=tz 5 (h:=tz 6 (h:=tz 7 (h:=tz 8 (h:=tz 9 (h:=tz 10 (h:=tz 13 (h:=?_))))))))))));refine tz 14 (h:=?_);refine ry 11 λK hK=>?_;go_simp;refine m9 (Gd a.k.kind a.k.num a.k.Ah a.k.str a.k.ref _) λw2 b=>?_;have b:B9 W w2:=Below.trans (BE _ _).drew b;have o:=j.keep (b.block c om) (b.block g om)<|b.block w.heap.size om;rw[EF];obtain⟨n,d⟩:=qa<|CZ a.k;obtain⟨kc,v⟩:=qa<|De a.k;rw[<-d]at HC ⊢;rw[<-v];have P:=O d;clear d v;refine hK.out _ _ o λ_=>?_;clear hK K j;refine tz 12 (h:=?_);refine ry 15 λK hK=>?_;go_simp;refine(HC _<|H.below b).mono ?_;rintro e w3 ⟨rfl,f⟩;have f:=o9 b f;have x:=o.keep ((f.block c om).trans (b.block c om).symm) ((f.block g om).trans (b.block g om).symm)<|(f.block w.heap.size om).trans (b.block w.heap.size om).symm;obtain⟨Q,q⟩:=qa<|Cb s.F (s.T t) n;rw[<-q];have R:=O q;clear q;obtain⟨w4,m,l⟩:=BL (hR.below f om)<|FL Q;have B:=x.keep (l.other c om) (l.other g om)<|l.other w.heap.size om;have S:=O m;refine hK.out _ _ x λ_=>?_;clear hK K o m;refine tz 16 (h:=?_);refine ry 17 λK hK=>?_;refine BK rfl rfl _ S ?_;refine hK.out _ _ B λag=>?_;clear hK K;refine tz 18 (h:=?_);refine FI ?_;have U:=O<|l.BH;go_wp2_with fail;refine G9 results52 underlying40 U ⟨(by rw[z R,z P];rfl),?_⟩;exact l.below (o9 i f) om
abbrev xF:Array Value:=#[.bool false,J 0,J 0,F9 0,E9,J 0,J 0,J 0,F9 0,E9,J 0,J 0]
def xB(b:Bool)(p:Pr):List Value:=.bool b::DA p
def jT w:(sizeOf 170).run prog w=.ok 12 w:=ou
def mD b p:∀u∈xB b p,u.oneCell'=true:=by
 intro u h;simp only[xB,DA,List.mem_cons,AaK,or_false]at h;rcases h with rfl|rfl|rfl|rfl|rfl|rfl|rfl|rfl|rfl|rfl|rfl|rfl<;>rfl
def P8{q}(h:w.heap[q]?=some (.cells xF 170 (0,0)))b p:∃w',(Instr.storeAt 170 (Q9 q)<|qD b p).run prog w=.ok () w'/\Bu w w' q (xB b p).toArray 170:=
 BP (vs:=xB b p) jT h rfl rfl (mD b p) rfl
def Ma A t n{w}(u:BZ w)(hA:FJ w A.la A.ia A.xa t.d)(v:Small t.d)(g:M9 t.d)(B:BI t.d (hD t.d)=0):C9 226 #[Le A t,J n] w<|R9 (qD (LM t.d n).1 (LM t.d n).2) w:=by
 obtain⟨W,C,a,_,_,c⟩:=TM w (.cells #[.slice A.va t.nv A.vc,.slice A.la t.d.n A.lc,.slice A.ia t.d.m A.ic,.slice A.xa t.d.x A.xc,J t.d.used,J t.d.live,J t.d.turns] 153)<|.cells xF 170;rcases Ai c,O<|WD A.lc A.ic A.xc n (Bb _ _ u a) (hA.below a) v g B,O a,O c with⟨k,D,h,l⟩;clear hA u v g a c B;go_enter func226,ntmps226;go_wp2_with fail;rw[<-C];clear C;refine D.mono ?_;rintro e w1 ⟨rfl,f⟩;obtain⟨x,o⟩:=qa<|LM t.d n;rw[<-o];have E:=O o;obtain⟨b,p⟩:=x;obtain⟨w2,i,j⟩:=P8 ((f.block _ k).trans l) b p;rcases O i,O<|o9 h f,O j with⟨q,r,s⟩;clear f i D o;go_wp2_with (refine Af rfl rfl _ q ?_);refine FP results226 underlying170 j.BH ⟨(by rw[<-z E];rfl),?_⟩;exact s.below r om
def YT w:(sizeOf 168).run prog w=.ok 11 w:=ou
def FG{t}(hs:∀w,(sizeOf t).run prog w=.ok n w)(w:Y){old vs:List Value}{ty}(hl:vs.length=old.length)(hn:vs.length=n)(h1:∀v∈vs,v.oneCell'=true){v:V9}(b:v.cells=vs.toArray):
  (Instr.storeAt t (Q9 w.heap.size) v).run prog (w.alloc<|.cells old.toArray ty)=.ok () (w.alloc<|.cells vs.toArray ty):=by
 have h:=Ea (P:=prog) w ty vs [] old hl h1;unfold Instr.storeAt storeVar;simp only[Wx,VC]at h;have a:∀w',(Instr.sureAddr<|Q9 w.heap.size).run prog w'=.ok (y w 0) w':=λw'=>oe;simp only[AaM];simp[a,hs,b,hn];exact h
def WG:(prog.info? 168).map (·.size)=some 11:=ou
def Qa(w:Y)p:(Instr.storeAt 168 (Q9 w.heap.size)<|.agg (DA p).toArray).run prog (w.alloc<|.cells uA.toArray 168)=.ok () (w.alloc<|.cells (DA p).toArray 168):=
 FG YT w (by rfl) (by rfl) (EZ p) rfl
def Vb{i}{p}(h:Jd w g (i*11) p):w.rangeAt g (i*11)<|DA p:=by
 intro j v a;have hj:j<11:=(SO.1 a).1;obtain⟨c0,c1,c2,c3,c4,c5,c6,c7,c,d,b⟩:=h;rcases j with _|_|_|_|_|_|_|_|_|_|_|j;all_goals first|(cases a;assumption)|omega
def SP(s:AE)(j:Nat)(t:Tb)(n:Int):Bool:=decide (0<=(⟨nf s.F j,FZ s j t,0⟩:Pl).FC n)
def nA{n}(h:∀q,q<Q.n->¬n<(Q.P q).turn):decide (0<=Q.FC n)=false/\Q.next n=⟨Cd,Cd,0⟩:=by
 grind [Pl.FC,JT,Pl.next]
def mZ{n}{k}(hk:k<Q.n)(h:∀q,q<k->¬n<(Q.P q).turn)(h2:n<(Q.P k).turn):decide (0<=Q.FC n)=true/\Q.next n=Q.P k:=by
 have e:Q.FC n=k:=by
  rw[Pl.FC];rcases Lk (λj=>decide (n<(Q.P j).turn)) Q.n 0 with e|⟨j,e,h3,h4,h5,a⟩
  .have:=Hd e k (To _) om;simp at this;omega
  grind
 grind [Pl.next]
def NQ A t{s}{b0}{B}j n{w}(hN:Lc w s b0 B)(hf:Ar s.nf s.F=0)(hj:j<s.nf)(X:t.nv=nf s.F j)(hV:IX w A.va t.nv t.V):
  C9 249 #[CK (B j) A t,J n] w (R9 (qD (SP s j t n)<|(⟨nf s.F j,FZ s j t,0⟩:Pl).next n) w):=by
 obtain⟨W,hW,H,aj,ak,b1⟩:=TM w (.cells #[.slice A.va t.nv A.vc,.slice A.la t.d.n A.lc,.slice A.ia t.d.m A.ic,.slice A.xa t.d.x A.xc,J t.d.used,J t.d.live,J t.d.turns,Q9 (B j)] 156)<|.cells xF 170;obtain⟨Z,M,ae,af⟩:=hN;rcases O (JE s b0 B Z M A t j (ae.below H) af hf hj (hV.below H rfl) X),IZ hf hj,qa (nf s.F j) with⟨HC,ad,⟨m,hm⟩⟩;rw[<-hm]at HC ad;have HM:=O hm;obtain⟨P,hP⟩:=qa<|FZ s j t;rw[<-hP]at HC;have HP:=O hP;have ag:=O b1;clear ae af hf hj X hV hm hP ak b1;go_enter func249,ntmps249;go_wp2_with fail;rw[<-hW];clear hW;go_wp2_with (first|(refine Aah rfl 156 _ rfl w.heap.size rfl _ _ _ _ ay underlying156 rfl Nl ?_));refine HC.mono ?_;rintro e w1 ⟨⟨v,rfl,C⟩,l⟩;obtain⟨va,vc,rfl⟩:=Au C;have l1:w.heap.size+1<w1.heap.size:=oT l.size;have ao:=O<|(l.block _ om).trans ag;have D:=H.trans<|l.mono om;clear l HC ag aj;go_wp2_with fail;go_loopw [10] (λi wr=>∃(k:Nat),k<=m/\i=J k/\B9 w1 wr/\∀q,q<k->¬n<(P q).turn) λi _=>m-(intOf i).toNat
 .exact⟨0,om,rfl,BE _ _,λq hq=>om⟩
 obtain⟨k,hk,rfl,hb,a⟩:=hrel;rcases hb.size,O<|(hb.block _ l1).trans ao,o9 D hb with⟨az,I,o⟩;have lr:w.heap.size+1<wr.heap.size:=om;by_cases K:k<m
 case neg=>
  have ah:k=m:=om;obtain⟨e1,e2⟩:=nA (Q:=⟨nf s.F j,FZ s j t,0⟩) (n:=n) (λq hq=>by
   have:=a q (by rw[ah,z HM];exact hq);rw[z HP]at this;exact this)
  have HR:=O<|qp e1 e2;obtain⟨w2,c,f⟩:=P8 I false ⟨Cd,Cd,0⟩;have L:=O c;have R:=O f;clear hb a K e1 e2 c;subst ah;go_wp2_with (refine Af rfl rfl _ L ?_);refine FP results249 underlying170 f.BH ⟨(by unfold SP;rw[(z HR).1,(z HR).2];rfl),?_⟩;exact R.below o om
 obtain⟨g,cp,hv,aM,aq,_,ai,_⟩:=BU.form C om;cases hv;have S:=Vb<|(ai k K).keep λq=>hb.cell aq;obtain⟨p,hp⟩:=qa<|P k;rw[<-hp]at S;have T:=O hp;have E:=O a;clear a ai hp;go_upto_region 4 with(first|(refine wpList_load_mid rfl 168 _ rfl g (k*11) rfl (DA p) _ S underlying168 rfl WG ?_)|(refine Af rfl rfl _ (Qa wr p) ?_))
 obtain⟨w4,r⟩:=qa<|wr.alloc<|.cells (DA p).toArray 168;rw[<-r];have u:B9 wr w4:=by rw[r];exact(BE _ _).alloc (Be _) _
 have U:w4.heap[wr.heap.size]?=some (.cells (DA p).toArray 168 (0,0)):=by rw[r];exact DO _ _
 have t10:w4.cell? (y wr 10)=some (J p.turn):=by rw[Hi w4 _ _ _ _ _ U];rfl
 have ar:Hid<|w4.heap[wr.heap.size]?=some (.cells #[J p.key.kind,J p.key.num,F9 p.key.Ah,.string p.key.str,J p.key.ref,J p.val.kind,J p.val.num,F9 p.val.Ah,.string p.val.str,J p.val.ref,J p.turn] 168 (0,0)):=O U;rcases o9 o u,o9 hb u,O ((u.block _ lr).trans I) with⟨au,av,aw⟩;clear r u U S I o;by_cases b:n<p.turn
 .have hd:decide (n<p.turn)=true:=by simp[b]
  obtain⟨e1,e2⟩:=mZ (Q:=⟨nf s.F j,FZ s j t,0⟩) (n:=n) (k:=k) (by rw[<-z HM];exact K) (λq hq=>by
   have:=z E q hq;rw[z HP]at this;exact this) (by have h:=b;rw[z T,z HP]at h;exact h)
  have e3:(⟨nf s.F j,FZ s j t,0⟩:Pl).P k=p:=by rw[z T,z HP]
  have HR:=O<|qp e1<|e2.trans e3;obtain⟨w2,c,f⟩:=P8 aw true p;have L:=O c;have R:=O f;clear e1 e2 e3 c b;go_wp2_with (first|(refine Aah rfl 168 _ rfl wr.heap.size rfl _ _ _ _ ar underlying168 rfl WG ?_)|(refine Af rfl rfl _ L ?_));refine FP results249 underlying170 f.BH ⟨(by unfold SP;rw[(z HR).1,(z HR).2];rfl),?_⟩;exact R.below au om
 have hd:decide (n<p.turn)=false:=by simp[b]
 have ax:=O b;clear b;go_wp2;go_roundw
 .exact⟨k+1,om,ov,av,λq hq=>by
  by_cases e:q=k
  .subst e;have h:=z ax;rw[z T]at h;exact h
  exact E q om⟩
 exact ow
abbrev D0:Array Value:=#[N9,N9,N9,J 0,J 0,J 0]
def oJ w:(sizeOf 69).run prog w=.ok 6 w:=ou
def Vv(hb:w.heap[b]?=some (.cells D0 69 (0,0)))a0 a1 a2 n0 a c c0 c1 c2 d:∃w',(Instr.storeAt 69 (Q9 b)<|oX (.slice a0 n0 c0) (.slice a1 a c1) (.slice a2 c c2) d).run prog w=.ok () w'/\Bu w w' b #[.slice a0 n0 c0,.slice a1 a c1,.slice a2 c c2,J d.used,J d.live,J d.turns] 69:=
 BP (old:=D0.toList) (vs:=[.slice a0 n0 c0,.slice a1 a c1,.slice a2 c c2,J d.used,J d.live,J d.turns]) oJ hb rfl rfl oh rfl
def jF:Small bU:=⟨oo,oo,oo⟩
def AL.wC(h:AL w bk r0 r1 R2 E S d){q}{cs}(hq:w.heap[q]?=some (.cells cs 168 (0,0)))(hb:bk<q):¬mM bk r0 R2 q:=by
 rintro(e|e|e)
 .omega
 .obtain⟨cur,hc,_⟩:=A5 h.log e;rw[hc]at hq;cases hq
 obtain⟨cur,hc,_⟩:=A5 h.slots (show(Value.slice (some<|G R2 0) d.x d.x).ownBlock=some q by rw[e];rfl);rw[hc]at hq;cases hq
def Wd A t{s}{b0}{B}j{w}(hT:BZ w)(hN:Lc w s b0 B)(hf:Ar s.nf s.F=0)(hj:j<s.nf)(ae:t.nv=nf s.F j)(hV:IX w A.va t.nv t.V)(ag:∀i,i<t.nv->Jb (t.V i)=true):
  C9 122 #[CK (B j) A t] w λe w'=>(∃v0 v1 v2,e=.returned (oX v0 v1 v2<|Az s.F j t.V t.nv)/\DV (Az s.F j t.V t.nv) w' v0 v1 v2 w.heap.size w'.heap.size)/\B9 w w':=by
 obtain⟨W,hW,ah,cd,a7,b1⟩:=TM w (.cells #[.slice A.va t.nv A.vc,.slice A.la t.d.n A.lc,.slice A.ia t.d.m A.ic,.slice A.xa t.d.x A.xc,J t.d.used,J t.d.live,J t.d.turns,Q9 (B j)] 156)<|.cells D0 69;obtain⟨Z,M,a8,bb⟩:=hN;have HC:Hid<|∀w2,B9 W w2->C9 143 #[CK (B j) A t] w2 λe w'=>(∃v,e=.returned v/\BU w' w2.heap.size v t.nv (FZ s j t))/\B9 w2 w':=O (λw2 h2=>by
  have l:=ah.trans (h2.mono om);rw[ae];exact JE s b0 B Z M A t j (a8.below l) bb hf hj (hV.below l rfl) ae)
 have cb:t.nv<=12:=by rw[ae];exact IZ hf hj
 have ai:Hid<|∀i,i<=t.nv->Sf s.F j t.V i (Az s.F j t.V i):=O λi hi=>F5 hf hj (λq hq=>ag q om) i om;have az:Hid<|∀k,k<t.nv->AH (Bz<|DU s.F j k) (Bz<|DU s.F j k)=true/\Ky (Bz<|DU s.F j k)/\(t.V k).ok=true/\(t.V k).kind≠0/\(∀i,i<(Az s.F j t.V k).n->((Az s.F j t.V k).L i).turn≠0->AH ((Az s.F j t.V k).L i).key (Bz<|DU s.F j k)=false)/\Ay (Az s.F j t.V k) (Bz<|DU s.F j k) (hN<|Bz<|DU s.F j k)=-1:=O (λk hk=>by
  have hl:=(ai k om).ls;have hky:=G4<|Hg hf hj (show k<nf s.F j by omega);have hv':(t.V k).ok=true/\(t.V k).kind≠0:=by simpa[Jb]using ag k hk
  refine⟨Cl.refl _ hky,hky,hv'.1,hv'.2,hl.no hf hj om,?_⟩;rcases hl.inv.i0.place Cl hky with⟨q,h1,h2,h3,h4⟩|⟨h1,h2⟩
  .have:=hl.place hf hj (show k<nf s.F j by omega);omega
  exact h2)
 rcases Bb _ _ hT ah,hT.sz,O a7,O b1,qa (FZ s j t) with⟨br,cg,bc,bt,⟨P,hP⟩⟩;rw[<-hP]at HC;have HP:=O hP;clear a8 bb hf hj ae hV hP a7 b1 ag hT;go_enter func122,ntmps122;go_wp2_with fail;rw[<-hW];clear hW;go_wp2_with fail;refine(Iz 0 0 0 (sL W) jF (Td (K:=Ky) (hf:=hN)).i0.d3 (Td (K:=Ky) (hf:=hN)).i0.d4).mono ?_;rintro e w2 ⟨⟨bk,R0,R1,R2,E,S,rfl,bd,aj⟩,l⟩;have ak:=AL.Yz bd aj jF;have ch:=aj.gb;rcases O ((l.block _ om).trans bc),l.size,ak.lt with⟨bf,z2,cj⟩;clear bd aj bc;go_wp2_with (first|(refine Aah rfl 156 _ rfl w.heap.size rfl _ _ _ _ bf underlying156 rfl Nl ?_));refine(HC _ l).mono ?_;rintro e w3 ⟨⟨v,rfl,r⟩,H⟩;obtain⟨va,vc,rfl⟩:=Au r;have bu:=ak.below H;have aM:=ah.trans<|(l.trans<|H.mono om).mono om;rcases l.trans (H.mono om),H.size,O r.lt with⟨I,z3,bw⟩;clear H HC bf ak l;go_wp2_with fail;go_loopw [11] (λi wr=>∃(k:Nat) (r0 r1:V9) (R2:Nat) (E S:Nat->Nat),k<=t.nv/\i=J k/\AL wr bk r0 r1 R2 E S (Az s.F j t.V k)/\Below bk w3 wr/\∀q,(Value.slice va t.nv vc).ownBlock=some q->wr.heap[q]?=w3.heap[q]?) λi _=>t.nv-(intOf i).toNat
 .exact⟨0,_,_,_,_,_,om,rfl,bu,BE _ _,λ_ _=>rfl⟩
 obtain⟨k,r0,r1,bx,Ek,Sk,hk,rfl,Q,hb,C⟩:=hrel;have ck:=hb.size;by_cases ao:k<t.nv
 case neg=>
  have bg:k=t.nv:=om;have f:=z ai k hk;have hI:=f.ls.inv;have bh:=hI.small (by rw[f.m];omega);have bz:=O<|(hb.block (w.heap.size+1) om).trans<|(I.block _ om).trans bt;have b2:=aM.trans<|hb.mono om;have R:=O Q;clear hb C Q f ao;obtain⟨D,hD⟩:=qa<|Az s.F j t.V k;rw[<-hD]at R hI bh;have HD:Hid<|Az s.F j t.V t.nv=D:=O (by rw[hD,bg]);rw[bg];clear hD;go_wp2_with fail;refine(Ud R bh (λj hj=>by
   rcases hI.i0.ints j hj with e|e<;>omega) (λj hj=>by
   rcases hI.i0.idx.range j hj with e|e|⟨e1,e2,_⟩
   .exact .inl e
   .exact .inr (.inl e)
   exact .inr (.inr ⟨e1,om⟩))).mono ?_
  rintro e w6 ⟨⟨u0,u1,u2,rfl,bj⟩,aq⟩;obtain⟨ua,uc,ub,ud,ue,uf,e0,e1,e2,-⟩:=bj.at;subst e0 e1 e2;obtain⟨w7,bm,o⟩:=Vv ((aq.block _ om).trans bz) ua ub ue D.n D.m D.x uc ud uf D;rcases O bm,A9 o 0 _ rfl,A9 o 1 _ rfl,A9 o 2 _ rfl,A9 o 3 _ rfl,A9 o 4 _ rfl,A9 o 5 _ rfl with⟨b3,c0,c1,c2,c3,c4,c5⟩;have b4:=b2.trans<|aq.mono om;clear aq bm;go_wp2_with (refine Af rfl rfl _ b3 ?_);refine Fs (v:=oX (.slice ua D.n uc) (.slice ub D.m ud) (.slice ue D.x uf) D) (by simp[results,results122,go_sem,c0,c1,c2,c3,c4,c5]) rfl ⟨⟨_,_,_,ql HD,?_⟩,?_⟩
  .rw[z HD];refine DV.wide (DV.keep bj λb hb _=>o.other b om) om<|by rw[o.size];exact Be _
  exact o.below b4 om
 obtain⟨g,cp,hv,cl,cm,_,bn,_⟩:=BU.form r om;cases hv;have T:=C g rfl;obtain⟨cc,U,_⟩:=A5 r rfl;have ar:=T.trans U;rcases Ai ar,Vb<|(bn k ao).keep λq=>As (a:=G g q) T,qa (P k) with⟨b5,au,⟨p,hp⟩⟩;rw[<-hp]at au;have bp:Hid<|p.key=Bz (DU s.F j k)/\p.val=t.V k:=O (by rw[hp,z HP];exact⟨rfl,rfl⟩);rcases O Q,O C,O ar,Q.lt with⟨R,a6,b6,cn⟩;clear C bn hp Q T ar U;go_upto_region 5 with(first|(refine wpList_load_mid rfl 168 _ rfl g (k*11) rfl (DA p) _ au underlying168 rfl WG ?_)|(refine Af rfl rfl _ (Qa wr p) ?_))
 obtain⟨w4,af⟩:=qa<|wr.alloc<|.cells (DA p).toArray 168;rw[<-af];have X:B9 wr w4:=by rw[af];exact(BE _ _).alloc (Be _) _
 have c:w4.heap[wr.heap.size]?=some (.cells (DA p).toArray 168 (0,0)):=by rw[af];exact DO _ _
 have q0:w4.cell? (y wr 0)=some (J p.key.kind):=by rw[Hi w4 _ _ _ _ _ c];rfl
 have q1:w4.cell? (y wr 1)=some (J p.key.num):=by rw[Hi w4 _ _ _ _ _ c];rfl
 have q2:w4.cell? (y wr 2)=some (F9 p.key.Ah):=by rw[Hi w4 _ _ _ _ _ c];rfl
 have q3:w4.cell? (y wr 3)=some (.string p.key.str):=by rw[Hi w4 _ _ _ _ _ c];rfl
 have q4:w4.cell? (y wr 4)=some (J p.key.ref):=by rw[Hi w4 _ _ _ _ _ c];rfl
 have q5:w4.cell? (y wr 5)=some (J p.val.kind):=by rw[Hi w4 _ _ _ _ _ c];rfl
 have q6:w4.cell? (y wr 6)=some (J p.val.num):=by rw[Hi w4 _ _ _ _ _ c];rfl
 have q7:w4.cell? (y wr 7)=some (F9 p.val.Ah):=by rw[Hi w4 _ _ _ _ _ c];rfl
 have q8:w4.cell? (y wr 8)=some (.string p.val.str):=by rw[Hi w4 _ _ _ _ _ c];rfl
 have q9:w4.cell? (y wr 9)=some (J p.val.ref):=by rw[Hi w4 _ _ _ _ _ c];rfl
 clear af c au;have ad:Hid<|C9 140 #[Q9 bk,V p.key.kind p.key.num p.key.Ah p.key.str p.key.ref,V p.val.kind p.val.num p.val.Ah p.val.str p.val.ref] w4 λe w'=>((∃u,e=.returned u)/\∃av aw ax E2 S',AL w' bk av aw ax E2 S'<|Az s.F j t.V<|k+1)/\KX (mM bk r0 bx) bk w4 w':=O (by
  obtain⟨p1,p2,p3,p4,p5,p6⟩:=z az k ao;have f:=z ai k hk;have b7:BZ w4:=by
   have h1:Below 5 W w4:=((I.mono om).trans<|hb.mono om).trans<|X.mono om;exact br.below h1<|Be _
  have h:=YK Bb Cl N3 (λa b ha hb=>ha.below hb om) (t.V k) b7 (R.below X) (f.ls.inv.small (by rw[f.m];omega)) (by rw[f.m];omega) f.ls.inv p2 p2.1 p3 ⟨λe=>absurd e p4,λe=>absurd e.1 (show¬(4:Int)=2 by decide)⟩;rw[(z bp).1,(z bp).2];exact h.mono λe w' q=>⟨q.1,q.2.mono λb _ h=>h p6 (λh=>by obtain⟨h1,h2⟩:=h;rw[f.live,f.n]at h2;omega) rfl⟩)
 go_wp2_with fail
 refine ad.mono ?_;rintro e w5 ⟨⟨⟨uu,rfl⟩,av,aw,ax,E2,S2,b8⟩,ay⟩;have b9:=(hb.trans<|X.mono om).trans ay.C7;have ca:Hid<|∀q,(Value.slice (some<|G g 0) t.nv vc).ownBlock=some q->w5.heap[q]?=w3.heap[q]?:=O (λq e=>by
  cases e;have h4:=X.block g b5;have bq:=h4.trans b6;exact(ay.BH g (Ai bq) ((R.below X).wC bq (oT (z bw)))).trans (h4.trans (a6 g rfl)))
 clear ay q0 q1 q2 q3 q4 q5 q6 q7 q8 q9 ad;go_wp2;go_roundw
 .exact⟨k+1,av,aw,ax,E2,S2,om,ov,b8,b9,ca⟩
 exact ow
def TL.of{v}(h:Cf w B v n f):TL f n w v B w.heap.size:=by
 have b:=h.lt;obtain⟨hl,⟨c,d⟩|⟨g',cap,cur,c,hb,a,h1,h2,h3,h4⟩⟩:=h
 .exact .inl ⟨d,c⟩
 subst c;refine .inr ⟨g',cap,cap*5,λj=>(cur[j]?).getD undef,rfl,hb,(b g' rfl).2,⟨cur,a,h3,λi hi=>by simp[AaP (show i<cur.size by omega)]⟩,om,λj hj=>?_⟩;have h5:=TD (f:=f) (n:=n) (i:=j/5) (j:=j%5) om om;rw[show j/5*5+j%5=j by omega,<-h4,List.getElem?_take,DD hj,Array.getElem?_toList]at h5;show(cur[j]?).getD undef=_;rw[h5];rfl
def VN.news{a:Option Addr}{f}(h:VN w a n f):n=0\/∃d,a=some d/\∀j u,(pL f n)[j]?=some u->w.cell? (d.add j)=some u:=by
 rcases h with h|⟨b,off,e,g,hc⟩
 .exact .inl h
 refine .inr ⟨_,e,λj u hu=>?_⟩;have c:((G b off):Addr).add j=(G b<|off+j):=by unfold Addr.add;split<;>simp_all
 rw[c];have hj:j<n*11:=by grind [VN,pL,C5]
 obtain⟨i,r,hi,k,e⟩:∃i r,i<n/\r<11/\j=i*11+r:=⟨j/11,j%11,om,om,om⟩;subst e;rw[MO hi k]at hu;obtain⟨c0,c1,c2,c3,c4,c5,c6,c7,m,o,l⟩:=hc i hi;rw[<-Nat.add_assoc];rcases r with _|_|_|_|_|_|_|_|_|_|_|r;all_goals first|(cases hu;assumption)|omega
def TK.news{a:Option Addr}{f}(h:TK w a n f):n=0\/∃c,a=some c/\∀j u,(iL f n)[j]?=some u->w.cell? (c.add j)=some u:=by
 rcases h with h|⟨b,off,e,g,hc⟩
 .exact .inl h
 refine .inr ⟨_,e,λj u hu=>?_⟩;have d:((G b off):Addr).add j=(G b<|off+j):=by unfold Addr.add;split<;>simp_all
 grind [TK,iL,C4,KS]
def eR f n:∀u∈iL f n,u.oneCell'=true:=by
 intro u hu;obtain⟨j,hj,rfl⟩:=List.getElem_of_mem hu;have a:j<n:=by rwa [C4]at hj
 have:=KS (f:=f) a;rw[List.getElem?_eq_getElem hj]at this;rw[Aai this];rfl
def J1(hb:Below B w W)(b:B<=W.heap.size)(a:W.grownBy w' none):Below B w w':=⟨a.os.trans hb.os,a.tape.trans hb.tape,a.output.trans hb.output,GO hb.size a.size,λk hk=>(a.block k om oq).trans<|hb.block k hk⟩
def vQ:(prog.info? 69).map (·.size)=some 6:=ou
def SD{la:Option Addr}lc{ia:Option Addr}ic{xa:Option Addr}xc{d}{w}(hD:FJ w la ia xa d)(hS:Small d):
  C9 237 #[Dv la lc ia ic xa xc d] w λe w'=>(∃v0 v1 v2,e=.returned (oX v0 v1 v2 d)/\DV d w' v0 v1 v2 w.heap.size w'.heap.size)/\B9 w w':=by
 rcases Ok EX,Ok N4,hS.n,hS.m,hS.x,TM w (.cells #[.slice la d.n lc,.slice ia d.m ic,.slice xa d.x xc,J d.used,J d.live,J d.turns] 69) (.cells D0 69) with⟨⟨i0,bg,bh,bj,bk⟩,⟨j0,U,V,Z,ag⟩,hn,hm,hx,⟨W,hW,ah,ai,b0,b1⟩⟩;have bm:=O<|VN.news<|hD.log.below ah rfl;have aj:=O<|qp b0 b1;clear b0 b1 hS;go_enter func237,ntmps237;go_upto_region 2 with(at_builtin;rw[<-hW];refine CV rfl _ _ 66 rfl w.heap.size 168 i0 PZ 11 104 underlying66 bg bh bj bk rfl oo rfl la d.n lc (pL d.L d.n) rfl (C5 _ _) bm (gH _ _) od om om (w.heap.size+1+1) ai ?_;intro a1 c1 w1 l h o;have f:=(h.block w.heap.size om oq).trans aj.1;have K:=(h.block (w.heap.size+1) om oq).trans aj.2;have x0:w1.cell? (y w 0)=some (.slice la d.n lc):=(by simp[World.cell?,f]);have xf:w1.frozen? (y w 0)=false:=(by simp[World.frozen?,f]);have l0:=Ai f;have ak:=O<|J1 ah om h;have ao:=O l;have Q:=O o;have j:=O<|qp f K;clear h l o f K)
 obtain⟨w2,p⟩:=qa<|w1.setCell (y w 0)<|.slice a1 d.n c1;rw[<-p];have o2:∀k,k≠w.heap.size->w2.heap[k]?=w1.heap[k]?:=λk hk=>by rw[p];exact At _ _ _ _<|by exact hk
 have e2:w2.heap[w.heap.size]?=some (.cells #[.slice a1 d.n c1,.slice ia d.m ic,.slice xa d.x xc,J d.used,J d.live,J d.turns] 69 (0,0)):=by rw[p];exact(IH _ _ _ _ _ _ j.1).trans oq
 have f2:=(o2 (w.heap.size+1) om).trans j.2;have E:B9 w w2:=by rw[p];exact ak.setCell (Be _) _
 have ad:=Ai j.2;have R:=O<|Ae ao λq e=>o2 q<|oT<|z Q q e;have aq:∀q,(Value.slice a1 d.n c1).ownBlock=some q->w.heap.size+1<q/\q<w2.heap.size:=λq e=>⟨oT<|z Q q e,(R.lt q e).2⟩;have ar:=O<|TK.news<|hD.ints.below E rfl;have y1:w2.cell? (y w 1)=some (.slice ia d.m ic):=by simp[World.cell?,e2]
 rcases E.size,O<|qp e2 f2,O aq with⟨S,i,r⟩;clear p o2 e2 f2 ad aq x0 xf l0 j ao ak Q ai;go_upto_region 3 with(at_builtin;refine CV rfl _ _ 67 rfl w.heap.size 3 j0 (J 0) 1 8 underlying67 U V Z ag rfl oo rfl ia d.m ic (iL d.I d.m) rfl (by rw[C4,Nat.mul_one]) ar (eR _ _) od om S w2.heap.size rfl ?_;intro a3 c3 w3 s g t;have f:=(g.block w.heap.size (Ai i.1) oq).trans i.1;have K:=(g.block (w.heap.size+1) (Ai i.2) oq).trans i.2;have x0:w3.cell? (y w 1)=some (.slice ia d.m ic):=(by simp[World.cell?,f]);have xf:w3.frozen? (y w 1)=false:=(by simp[World.frozen?,f]);have l0:=Ai f;have au:=O<|J1 E S g;have av:=O s;have aw:=O<|Ae (w':=w3) R λq e=>g.block q (r q e).2 oq;have F:=O t;have j:=O<|qp f K;clear g s t f K)
 clear y1;obtain⟨w4,u⟩:=qa<|w3.setCell (y w 1)<|.slice a3 d.m c3;rw[<-u];have o4:∀k,k≠w.heap.size->w4.heap[k]?=w3.heap[k]?:=λk hk=>by rw[u];exact At _ _ _ _<|by exact hk
 have e4:w4.heap[w.heap.size]?=some (.cells #[.slice a1 d.n c1,.slice a3 d.m c3,.slice xa d.x xc,J d.used,J d.live,J d.turns] 69 (0,0)):=by rw[u];exact(IH _ _ _ _ _ _ j.1).trans oq
 have f4:=(o4 (w.heap.size+1) om).trans j.2;have T:B9 w w4:=by rw[u];exact au.setCell (Be _) _
 have ae:=Ai i.2;have ax:=O<|Ae av λq e=>o4 q<|oT<|z F q e;have ay:=O<|Ae aw λq e=>o4 q<|oT (r q e).1;have az:∀q,(Value.slice a3 d.m c3).ownBlock=some q->w.heap.size+1<q/\q<w4.heap.size/\w2.heap.size<=q:=λq e=>⟨oT<|z F q e,(ax.lt q e).2,oT<|z F q e⟩;have M:∀q,(Value.slice a1 d.n c1).ownBlock=some q->w.heap.size+1<q/\q<w4.heap.size/\q<w2.heap.size:=λq e=>⟨(r q e).1,(ay.lt q e).2,(r q e).2⟩;have bn:=O<|TK.news<|hD.index.below T rfl;have y2:w4.cell? (y w 2)=some (.slice xa d.x xc):=by simp[World.cell?,e4]
 rcases T.size,O<|qp e4 f4,O (qp az M) with⟨aM,A,b⟩;clear u o4 e4 f4 ae az M x0 xf l0 j av aw au F R i r ar S E;go_upto_region 4 with(at_builtin;refine CV rfl _ _ 67 rfl w.heap.size 3 j0 (J 0) 1 8 underlying67 U V Z ag rfl oo rfl xa d.x xc (iL d.X d.x) rfl (by rw[C4,Nat.mul_one]) bn (eR _ _) od om aM w4.heap.size rfl ?_;intro a5 c5 w5 B c C;have f:=(c.block w.heap.size (Ai A.1) oq).trans A.1;have K:=(c.block (w.heap.size+1) (Ai A.2) oq).trans A.2;have x0:w5.cell? (y w 2)=some (.slice xa d.x xc):=(by simp[World.cell?,f]);have xf:w5.frozen? (y w 2)=false:=(by simp[World.frozen?,f]);have l0:=Ai f;have bp:=O<|J1 T aM c;have bq:=O B;have br:=O<|Ae (w':=w5) ay λq e=>c.block q (b.2 q e).2.1 oq;have bt:=O<|Ae (w':=w5) ax λq e=>c.block q (b.1 q e).2.1 oq;have H:=O C;have j:=O<|qp f K;clear c B C f K)
 clear y2;obtain⟨w6,D⟩:=qa<|w5.setCell (y w 2)<|.slice a5 d.x c5;rw[<-D];have o6:∀k,k≠w.heap.size->w6.heap[k]?=w5.heap[k]?:=λk hk=>by rw[D];exact At _ _ _ _<|by exact hk
 have e6:w6.heap[w.heap.size]?=some (.cells #[.slice a1 d.n c1,.slice a3 d.m c3,.slice a5 d.x c5,J d.used,J d.live,J d.turns] 69 (0,0)):=by rw[D];exact(IH _ _ _ _ _ _ j.1).trans oq
 have f6:=(o6 (w.heap.size+1) om).trans j.2;have a6:B9 w w6:=by rw[D];exact bp.setCell (Be _) _
 have af:=Ai A.2;have a7:=Ae bq λq e=>o6 q<|oT<|z H q e;have a8:=Ae bt λq e=>o6 q<|oT (b.1 q e).1;have bb:=Ae br λq e=>o6 q<|oT (b.2 q e).1;obtain⟨w7,P,a⟩:=Vv f6 a1 a3 a5 d.n d.m d.x c1 c3 c5 d;have bc:=Ae a7 λq e=>a.other q<|oT<|z H q e;have bd:=Ae a8 λq e=>a.other q<|oT (b.1 q e).1;have bf:=Ae bb λq e=>a.other q<|oT (b.2 q e).1;have bu:Hid<|DV d w7 (.slice a1 d.n c1) (.slice a3 d.m c3) (.slice a5 d.x c5) w.heap.size w7.heap.size:=O ⟨N1.of bf,Kk.of bd,Kk.of bc,λq e e'=>by
   have:=(b.1 q e').2.2;have:=(b.2 q e).2.2;omega,λq e e'=>by
   have:=z H q e';have:=(b.2 q e).2.1;omega,λq e e'=>by
   have:=z H q e';have:=(b.1 q e).2.1;omega⟩
 rcases a.below a6 om,O P,O e6,A9 a 0 _ rfl,A9 a 1 _ rfl,A9 a 2 _ rfl,A9 a 3 _ rfl,A9 a 4 _ rfl,A9 a 5 _ rfl with⟨bw,bx,HX,r0,r1,r2,r3,r4,r5⟩;clear D o6 e6 f6 a6 af a7 a8 bb bc bd bf P a x0 xf l0 j;go_wp2_with (first|(refine Aah rfl 69 _ rfl w.heap.size rfl _ _ _ _ HX underlying69 rfl vQ ?_)|(refine Af rfl rfl _ bx ?_));refine Fs (v:=oX (.slice a1 d.n c1) (.slice a3 d.m c3) (.slice a5 d.x c5) d) (by simp[results,results237,go_sem,r0,r1,r2,r3,r4,r5]) rfl ⟨⟨_,_,_,rfl,bu⟩,bw⟩
structure Qp (lo hi:Nat) (w:Y) (h:Hs) (t:Tb):Prop where
 v:TL t.V t.nv w h.v lo hi
 l:N1 t.d.L t.d.n w h.l lo hi
 i:Kk t.d.I t.d.m w h.i lo hi
 x:Kk t.d.X t.d.x w h.x lo hi
 vl:∀q,h.v.ownBlock=some q->h.l.ownBlock≠some q
 vi:∀q,h.v.ownBlock=some q->h.i.ownBlock≠some q
 vx:∀q,h.v.ownBlock=some q->h.x.ownBlock≠some q
 li:∀q,h.l.ownBlock=some q->h.i.ownBlock≠some q
 lx:∀q,h.l.ownBlock=some q->h.x.ownBlock≠some q
 ix:∀q,h.i.ownBlock=some q->h.x.ownBlock≠some q
theorem TL.own{v}(h:TL f n w v lo hi){b}(e:v.ownBlock=some b):lo<=b/\b<hi/\b<w.heap.size:=by
 rcases h with⟨_,rfl⟩|⟨b',cp,Z,g,rfl,h2,h3,h4,_⟩
 .cases e
 cases e;exact⟨h2,h3,RC h4⟩
def Kk.FO{f}{v}(h:Kk f n w v lo hi){b}(e:v.ownBlock=some b):lo<=b/\b<hi/\b<w.heap.size:=by
 rcases h with⟨_,rfl⟩|⟨b',cp,Z,g,rfl,h2,h3,h4,_⟩
 .cases e
 cases e;exact⟨h2,h3,RC h4⟩
theorem Qp.own(H:Qp lo hi w h t){q}(e:h.own q):lo<=q/\q<hi/\q<w.heap.size:=by
 rcases e with e|e|e|e
 .exact H.v.own e
 .exact H.l.own e
 .exact H.i.FO e
 exact H.x.FO e
theorem Qp.one(H:Qp lo hi w h t):∃a1 c1 a2 c2 a3 c3 a4 c4,h=⟨.slice a1 t.nv c1,.slice a2 t.d.n c2,.slice a3 t.d.m c3,.slice a4 t.d.x c4⟩:=by
 rcases H.v.at,H.l.at,H.i.Y6,H.x.Y6 with⟨⟨a1,c1,e1,_⟩,⟨a2,c2,e2,_⟩,⟨a3,c3,e3,_⟩,⟨a4,c4,a,_⟩⟩;cases h;grind
def Qp.keep(H:Qp lo hi w h t)(hk:∀q,h.own q->w'.heap[q]?=w.heap[q]?):Qp lo hi w' h t:=
 ⟨H.v.keep λb e=>hk b<|.inl e,H.l.LB λb e=>hk b<|.inr<|.inl e,H.i.LB λb e=>hk b<|.inr<|.inr<|.inl e,H.x.LB λb e=>hk b<|.inr<|.inr<|.inr e,H.vl,H.vi,H.vx,H.li,H.lx,H.ix⟩
theorem TL.wide{v}(h:TL f n w v lo hi)(h1:a<=lo)(h2:hi<=b):TL f n w v a b:=by
 grind [TL]
theorem Qp.wide(H:Qp lo hi w h t)(h1:a<=lo)(h2:hi<=b):Qp a b w h t:=
 ⟨H.v.wide h1 h2,H.l.wide h1 h2,H.i.wide h1 h2,H.x.wide h1 h2,H.vl,H.vi,H.vx,H.li,H.lx,H.ix⟩
abbrev uO:Array Value:=#[J 0,N9,N9,N9,N9,J 0,J 0,J 0]
def Vx w:(sizeOf 71).run prog w=.ok 8 w:=ou
def KF(a nb j:Nat)(va:T9)(n vc:Nat)(W:Y):Prop:=W.cell? (G a 7)=some (Q9 nb)/\W.cell? (G nb 0)=some (J (j:Int))/\W.cell? (G a 0)=some (.slice va n vc)
def KF.keep{nb}{va:Option Addr}{vc}(h:KF b nb j va n vc W)(h1:W'.heap[b]?=W.heap[b]?)(h2:W'.heap[nb]?=W.heap[nb]?):KF b nb j va n vc W':=
 ⟨(As (a:=G b 7) h1).trans h.1,(As (a:=G nb 0) h2).trans h.2.1,(As (a:=G b 0) h1).trans h.2.2⟩
def Y3(t:Tb)(w:Y)(e:Ending)(w':Y):Prop:=(∃h,e=.returned (.agg (IL h t).toArray)/\Qp w.heap.size w'.heap.size w' h t)/\B9 w w'
def NT A(t:Tb){s}{b0}{B}j{w}(hN:Lc w s b0 B)(hj:j<s.nf)(hs:t.shape=j)(hn:t.nv<=12)(hb:bare t.d)(hV:IX w A.va t.nv t.V):
  C9 254 #[CK (B j) A t] w λe w'=>Y3 t w e w':=by
 obtain⟨i0,r,C,D,E⟩:=Ok F3;obtain⟨W,hW,b,F,o0,b1⟩:=TM w (.cells #[.slice A.va t.nv A.vc,.slice A.la t.d.n A.lc,.slice A.ia t.d.m A.ic,.slice A.xa t.d.x A.xc,J t.d.used,J t.d.live,J t.d.turns,Q9 (B j)] 156)<|.cells uO 71;obtain⟨x0,_,_,_,_,_,_,x7⟩:=v8 o0;obtain⟨nl,n0,_⟩:=Lc.cell (hN.below b) hj;have H:KF w.heap.size (B j) j A.va t.nv A.vc W.drew:=⟨x7,n0,x0⟩;have I:t.nv=0\/∃ad,A.va=some ad/\∀j u,(Mf t.V t.nv)[j]?=some u->W.cell? (ad.add j)=some u:=by
  rcases hV with h|⟨vb,off,L,M,P⟩
  .exact .inl h
  exact .inr ⟨_,L,IX.news (w:=W) λi hi=>(P i hi).keep λq=>b.cell (p:=G vb q) M⟩
 have HF:Hid (∀a3 c3 w3,w3.ownsRow w.heap.size 32 5 (.slice a3 t.nv c3) t.nv (Mf t.V t.nv)->W.drew.grownBy w3 none->(∀q,(Value.slice a3 t.nv c3).ownBlock=some q->q=w.heap.size+1+1)->
   KF w.heap.size (B j) j A.va t.nv A.vc w3/\∃w4,(Instr.storeAt 71 (Q9<|w.heap.size+1)<|.agg #[J (j:Int),.slice a3 t.nv c3,N9,N9,N9,J 0,J 0,J 0]).run prog w3=.ok () w4/\Bu w3 w4 (w.heap.size+1) #[J (j:Int),.slice a3 t.nv c3,N9,N9,N9,J 0,J 0,J 0] 71/\KF w.heap.size (B j) j A.va t.nv A.vc w4/\
   Y3 t w (.returned (.agg #[J (j:Int),.slice a3 t.nv c3,N9,N9,N9,J 0,J 0,J 0])) w4):=O (by
  intro a3 c3 w3 h1 h2 h3;have hk:∀k,k<W.heap.size->w3.heap[k]?=W.heap[k]?:=λk hk=>h2.block k hk oq;have af:W.heap.size<=w3.heap.size:=h2.size;have g:=H.keep (hk _ om)<|hk _ nl;obtain⟨d1,d2,d3,d4,d5,d6⟩:=hb;have Q:B9 w w3:=⟨h2.os.trans b.os,h2.tape.trans b.tape,h2.output.trans b.output,om,λk R=>(hk k om).trans<|b.block k R⟩;have S:=(hk _ om).trans b1;obtain⟨w4,k1,k2⟩:=BP (v:=.agg #[J (j:Int),.slice a3 t.nv c3,N9,N9,N9,J 0,J 0,J 0]) (old:=uO.toList) (vs:=[J (j:Int),.slice a3 t.nv c3,N9,N9,N9,J 0,J 0,J 0]) Vx S rfl rfl oh rfl;have T:=Ae h1 λq e=>k2.other q<|oT<|h3 q e;have U:B j≠w.heap.size+1:=oT (Lc.cell hN hj).1;refine⟨g,w4,k1,k2,g.keep (k2.other _ om)<|k2.other _ U,⟨⟨.slice a3 t.nv c3,N9,N9,N9⟩,?_,?_⟩,k2.below Q om⟩
  .show _=Ending.returned (.agg #[J t.shape,.slice a3 t.nv c3,N9,N9,N9,J t.d.used,J t.d.live,J t.d.turns]);rw[hs,d4,d5,d6]
  exact⟨TL.of T,.inl ⟨d1,rfl⟩,.inl ⟨d2,rfl⟩,.inl ⟨d3,rfl⟩,(λq _ e=>by cases e),(λq _ e=>by cases e),(λq _ e=>by cases e),(λq e=>by cases e),(λq e=>by cases e),(λq e=>by cases e)⟩)
 have X:w.heap.size<=W.heap.size:=om;go_enter func254,ntmps254;go_wp2_with fail;rw[<-hW];refine Hx (KF w.heap.size (B j) j A.va t.nv A.vc) ?_;refine tz 0 (h:=tz 1 (h:=tz 2 (h:=tz 3 (h:=tz 4 (h:=tz 5 (h:=tz 6 (h:=tz 7 (h:=?_))))))));refine ry 8 λK hK=>?_;refine Hv _ rfl (.const N9) (.tmp 10) 65 rfl w.heap.size 32 i0 (V 0 0 0 ⟨#[]⟩ 0) 5 48 underlying65 r C D E rfl oo og A.va t.nv A.vc (Mf t.V t.nv) og (IP _ _) (z<|O I) (Ot _ _) od om X (w.heap.size+1+1) F ?_;intro a3 c3 w3 c l f;obtain⟨g,w4,o,a,Z,hP⟩:=z HF a3 c3 w3 c l f;have ae:=O o;refine hK.out _ _ g λ_=>?_;clear hK K c l f o;simp only[Act.put,AaQ,AaI,AaH,XN,AaW,AaV];refine tz 9 (h:=?_);refine ry 10 λK hK=>?_;refine BK rfl rfl _ ae ?_;refine hK.out _ _ Z λ_=>?_;clear hK K;refine FI ?_;rcases A9 a 0 _ rfl,A9 a 1 _ rfl,A9 a 2 _ rfl,A9 a 3 _ rfl,A9 a 4 _ rfl,A9 a 5 _ rfl,A9 a 6 _ rfl,A9 a 7 _ rfl with⟨r0,r1,r2,r3,r4,r5,r6,r7⟩;go_wp2_with fail;refine Fs (v:=.agg #[J (j:Int),.slice a3 t.nv c3,N9,N9,N9,J 0,J 0,J 0]) (by simp[results,results254,go_sem,r0,r1,r2,r3,r4,r5,r6,r7]) rfl hP
def Md A t{w}(hs:t.shape=-1)(hn:t.nv=0)(hD:FJ w A.la A.ia A.xa t.d)(k:Small t.d):
  C9 231 #[Le A t] w λe w'=>Y3 t w e w':=by
 obtain⟨W,l,g,i,_,b1⟩:=TM w (.cells #[.slice A.va t.nv A.vc,.slice A.la t.d.n A.lc,.slice A.ia t.d.m A.ic,.slice A.xa t.d.x A.xc,J t.d.used,J t.d.live,J t.d.turns] 153)<|.cells uO 71;have o:=O<|SD A.lc A.ic A.xc (hD.below g) k;have p:Hid (∀v0 v1 v2 w3,DV t.d w3 v0 v1 v2 W.heap.size w3.heap.size->B9 W w3->∃a0 c0 a1 c1 a2 c2 w4,v0=.slice a0 t.d.n c0/\v1=.slice a1 t.d.m c1/\v2=.slice a2 t.d.x c2/\(Instr.storeAt 71 (Q9<|w.heap.size+1)<|.agg #[J (-1),N9,.slice a0 t.d.n c0,.slice a1 t.d.m c1,.slice a2 t.d.x c2,J t.d.used,J t.d.live,J t.d.turns]).run prog w3=.ok () w4/\Bu w3 w4 (w.heap.size+1) #[J (-1),N9,.slice a0 t.d.n c0,.slice a1 t.d.m c1,.slice a2 t.d.x c2,J t.d.used,J t.d.live,J t.d.turns] 71/\
   Y3 t w (.returned (.agg #[J (-1),N9,.slice a0 t.d.n c0,.slice a1 t.d.m c1,.slice a2 t.d.x c2,J t.d.used,J t.d.live,J t.d.turns])) w4):=O (by
  intro v0 v1 v2 w3 c f;obtain⟨a0,c0,a1,c1,a2,c2,rfl,rfl,rfl,-⟩:=c.at;obtain⟨w4,k1,k2⟩:=BP (v:=.agg #[J (-1),N9,.slice a0 t.d.n c0,.slice a1 t.d.m c1,.slice a2 t.d.x c2,J t.d.used,J t.d.live,J t.d.turns]) (old:=uO.toList) (vs:=[J (-1),N9,.slice a0 t.d.n c0,.slice a1 t.d.m c1,.slice a2 t.d.x c2,J t.d.used,J t.d.live,J t.d.turns]) Vx ((f.block (w.heap.size+1) om).trans b1) rfl rfl oh rfl;have a:DV t.d w4 (.slice a0 t.d.n c0) (.slice a1 t.d.m c1) (.slice a2 t.d.x c2) w.heap.size w4.heap.size:=(c.keep (λb hb _=>k2.other b om)).wide om (by rw[k2.size];exact Be _);refine⟨a0,c0,a1,c1,a2,c2,w4,rfl,rfl,rfl,k1,k2,⟨⟨N9,.slice a0 t.d.n c0,.slice a1 t.d.m c1,.slice a2 t.d.x c2⟩,?_,⟨.inl ⟨hn,rfl⟩,a.log,a.ints,a.index,(λq e=>by cases e),(λq e=>by cases e),(λq e=>by cases e),a.wZ,a.xA,a.a12⟩⟩,k2.below (g.trans (f.mono om)) om⟩;show _=Ending.returned (.agg #[J t.shape,N9,.slice a0 t.d.n c0,.slice a1 t.d.m c1,.slice a2 t.d.x c2,J t.d.used,J t.d.live,J t.d.turns]);rw[hs])
 clear hD k hs hn g b1 i;go_enter func231,ntmps231;go_wp2_with fail;rw[<-l];refine o.mono ?_;rintro e w3 ⟨⟨v0,v1,v2,rfl,c⟩,f⟩;obtain⟨a0,c0,a1,c1,a2,c2,w4,rfl,rfl,rfl,h,j,r⟩:=z p v0 v1 v2 w3 c f;go_wp2_with (refine Af rfl rfl _ (z<|O h) ?_);refine FP results231 underlying71 j.BH r
def C2(p:Nat)(A:Ad)(t:Tb):List Value:=[.slice A.va t.nv A.vc,.slice A.la t.d.n A.lc,.slice A.ia t.d.m A.ic,.slice A.xa t.d.x A.xc,J t.d.used,J t.d.live,J t.d.turns,Q9 p]
def LZ p A t:∀u∈C2 p A t,u.oneCell'=true:=by
 intro u h;simp only[C2,List.mem_cons,AaK,or_false]at h;rcases h with rfl|rfl|rfl|rfl|rfl|rfl|rfl|rfl<;>rfl
def Oj:∀u∈Fa.toList,u.oneCell'=true:=by
 intro u h;simp only[List.mem_cons,AaK,or_false]at h;rcases h with rfl|rfl|rfl|rfl|rfl|rfl|rfl|rfl<;>rfl
def Tu(w:Y)p A t:(Instr.storeAt 156 (Q9 w.heap.size)<|CK p A t).run prog (w.alloc<|.cells Fa 156)=.ok () (w.alloc<|.cells (C2 p A t).toArray 156):=
 FG (old:=Fa.toList) EN w (by rfl) (by rfl) (LZ p A t) rfl
def Xz(hb:w.heap[b]?=some (.cells Fa 156 (0,0)))p A t:∃w',(Instr.storeAt 156 (Q9 b)<|.agg (C2 p A t).toArray).run prog w=.ok () w'/\Bu w w' b (C2 p A t).toArray 156:=
 BP (old:=Fa.toList) (vs:=C2 p A t) EN hb rfl rfl (LZ p A t) rfl
def jO(hb:w.heap[b]?=some (.cells Fa 156 (0,0))):∃w',(Instr.storeAt 156 (Q9 b)<|.agg Fa).run prog w=.ok () w'/\Bu w w' b Fa 156:=
 BP (old:=Fa.toList) (vs:=Fa.toList) EN hb rfl rfl Oj rfl
def E4{A}(h:w.heap[b]?=some (.cells (C2 p A t).toArray 156 (0,0))):∀j u,(C2 p A t)[j]?=some u->w.cell? (G b j)=some u:=λj u hu=>by
 rw[Hi w b j _ _ _ h];simpa using hu
def Bg.eB{b}{d f}{g}{j}(h:Bg (ZB Z w.heap.size m) w1 c B0 d BT B1 f g A' s')(n:BB (AD B0 c vN vT vS w) w (AD B0 c d BT B1 w1) w1)(l:B0<=w.heap.size)(i:w.heap.size<=rb)(hz:rb<m)(o:w1.heap[rb]?=some (.cells j 156 (0,0)))(a:Bu w1 b rb cs 156):
  Bg Z b c B0 d BT B1 f g A' s'/\BB (AD B0 c vN vT vS w) w (AD B0 c d BT B1 b) b:=
 h.fin n l (.inr ⟨i,hz⟩) i (h.EY o oo oo oo oo oo) (λk e=>.inl e) ⟨a.os,a.tape,a.output,a.size⟩ a.other a.BH oo
def Ow(Z:Nat->Prop)(c B0:Nat)(vN vT vS vU:V9)(Bk:Nat->Nat)(A:Nat->Ad)(s:AE)(i t:Nat)(w:Y)(e:Ending)(w':Y):Prop:=
 ∃vs:List Value,vs.length=8/\(∀u∈vs,u.oneCell'=true)/\e=.returned (.tuple #[.agg vs.toArray,J (Bd s i t)])/\(0<=Bd s i t->∃j:Nat,(s.T t).shape=j/\vs=C2 (Bk j) (A t) (s.T t))/\Bg Z w' c B0 vN vT vS vU Bk A (A7 s i t)/\BB (AD B0 c vN vT vS w) w (AD B0 c vN vT vS w') w'
def XP(b g o:Nat)(pl:Int)(p:Nat)(A:Ad)(t:Tb)(W:Y):Prop:=W.cell? (G b 0)=some (.slice A.va t.nv A.vc)/\W.cell? (G b 1)=some (.slice A.la t.d.n A.lc)/\W.cell? (G b 2)=some (.slice A.ia t.d.m A.ic)/\W.cell? (G b 3)=some (.slice A.xa t.d.x A.xc)/\W.cell? (G b 4)=some (J t.d.used)/\W.cell? (G b 5)=some (J t.d.live)/\W.cell? (G b 6)=some (J t.d.turns)/\W.cell? (G b 7)=some (Q9 p)/\W.cell? (G g<|o+2)=some (J pl)
def eC{Bk}(i t j:Nat){w}(o:Bg Z w c B0 vN vT vS vU Bk A s)(hi:i<s.ns)(ay:s.ns<=50)(ht:t<s.nt)(az:s.nt<=100)(n:(s.T t).shape=j)(hj:j<s.nf)(r:(s.S i).shape=j)(E:0<=(s.S i).BO)(F:(s.S i).BO<=1000000000000):
  C9 100 #[Q9 c,J i,J t] w λe w'=>Ow Z c B0 vN vT vS vU Bk A s i t w e w':=by
 obtain⟨gT,x,af,ax,_,H,_⟩:=o.CA ht;obtain⟨g,cp,B,C,aM,I,L⟩:=o.Ex hi;subst af B;have M:AX Bk (A t) (s.T t)=.iface 156 (CK (Bk j) (A t)<|s.T t):=by
  unfold AX;rw[C3 om,n];rfl
 rw[M]at H;have l:Lx s i t=true:=by unfold Lx;simp[n,r]
 have eI:Bd s i t=(s.S i).place:=by unfold Bd;rw[DD l]
 have eX:En s i t={s.S i with BO:=Et (s.S i).BO}:=by unfold En;rw[DD l]
 obtain⟨D,P,m,ag,b0,b1⟩:=TM w (.cells Fa 156)<|.cells (C2 (Bk j) (A t)<|s.T t).toArray 156;rcases o.enter m,o.lt,o.cells with⟨⟨hE,Q⟩,a6,⟨c0,c1,c2,c3,cf⟩⟩;have R:Hid<|(Instr.storeAt 156 (Q9<|w.heap.size+1)<|CK (Bk j) (A t)<|s.T t).run prog ((w.alloc<|.cells Fa 156).alloc<|.cells Fa 156)=.ok () D:=O (by
  have h:=Tu (w.alloc (.cells Fa 156)) (Bk j) (A t) (s.T t);rw[World.size_alloc]at h;rw[P];exact h)
 have U:Hid (∀q f,f=(D.drewN q).setCell (G g<|i*5+3) (J<|Et (s.S i).BO)->XP (w.heap.size+1) g (i*5) (s.S i).place (Bk j) (A t) (s.T t) f.drew/\w.heap.size<f.heap.size/\
   ∃w3,(Instr.storeAt 156 (Q9 w.heap.size)<|.agg (C2 (Bk j) (A t)<|s.T t).toArray).run prog f.drew=.ok () w3/\Bu f.drew w3 w.heap.size (C2 (Bk j) (A t)<|s.T t).toArray 156/\XP (w.heap.size+1) g (i*5) (s.S i).place (Bk j) (A t) (s.T t) w3/\
   Bg Z w3 c B0 vN (S9 gT s.nt x) (S9 g s.ns cp) vU Bk A (A7 s i t)/\BB (AD B0 c vN (S9 gT s.nt x) (S9 g s.ns cp) w) w (AD B0 c vN (S9 gT s.nt x) (S9 g s.ns cp) w3) w3):=O (by
  intro q f hq;have ah:B9 D<|D.drewN q:=⟨rfl,rfl,rfl,Be _,λ_ _=>rfl⟩;obtain⟨m1,d1⟩:=hE.below ah;obtain⟨m2,d2⟩:=m1.Eh (j:=3) (u:=J<|Et (s.S i).BO) (x':=En s i t) rfl hi om (qm eX);rw[<-hq]at m2 d2;have a7:f.heap.size=D.heap.size:=by rw[hq];simp
  have st:∀k,k≠g->f.heap[k]?=D.heap[k]?:=λk hk=>by rw[hq];exact At _ _ _ _<|by exact hk
  have V:f.drew.heap[w.heap.size]?=some (.cells Fa 156 (0,0)):=(st _ om).trans b0;have W:f.drew.heap[w.heap.size+1]?=some (.cells (C2 (Bk j) (A t)<|s.T t).toArray 156 (0,0)):=(st _ om).trans b1;obtain⟨_,_,B,_,_,ai,_⟩:=m2.Ex hi;cases B;have X:f.drew.cell? (G g<|i*5+2)=some (J (s.S i).place):=ai 2 _ (by
   show(Hr (AM s.S i (En s i t) i))[2]?=_;rw[Aj,eX];rfl)
  have hc:=E4 W;have hH:XP (w.heap.size+1) g (i*5) (s.S i).place (Bk j) (A t) (s.T t) f.drew:=⟨hc 0 _ rfl,hc 1 _ rfl,hc 2 _ rfl,hc 3 _ rfl,hc 4 _ rfl,hc 5 _ rfl,hc 6 _ rfl,hc 7 _ rfl,X⟩;obtain⟨w3,k1,k2⟩:=Xz V (Bk j) (A t) (s.T t);have b:=E4 ((k2.other _ om).trans W);have hd:=((Q.trans d1).trans d2).Uf;obtain⟨f1,f2⟩:=Bg.eB (m2.drew) hd o.base (Be _) om V k2;exact⟨hH,om,w3,k1,k2,⟨b 0 _ rfl,b 1 _ rfl,b 2 _ rfl,b 3 _ rfl,b 4 _ rfl,b 5 _ rfl,b 6 _ rfl,b 7 _ rfl,(As (a:=(G g (i*5+2))) (k2.other g om)).trans X⟩,f1,f2⟩)
 rcases hE.cells,(m.cell C).trans<|I 1 _ rfl,(m.cell C).trans<|I 3 _ rfl,(m.frozen (p:=G g<|i*5+3) C).trans<|L _,Lc.cell hE.nd hj,E4 b1 7 _ rfl with⟨⟨_,y1,y2,_,_⟩,s1,s3,f3,⟨nl,n0,_⟩,p7⟩;rw[r]at s1;rcases O eI,O n,yK<|CK (Bk j) (A t)<|s.T t,O<|Jv (s.S i).BO,O (qp E F) with⟨aj,ak,a8,ao,HH⟩;clear o hE Q m ag b0 b1 M l eI eX P L n r cf c3 c0 E F;go_enter func100,ntmps100;go_upto_region 3 with(refine Af rfl rfl _ R ?_)
 go_wp2_with fail
 go_quiet (fail);go_wp2_with fail;refine(ao _ HH.1 HH.2).mono ?_;rintro e w2 ⟨rfl,rfl⟩;go_upto_region 5 with fail
 obtain⟨f,ad⟩:=qa<|(D.drewN nq).setCell (G g<|i*5+3)<|J<|Et (s.S i).BO;rw[<-ad];obtain⟨bb,l2,w3,aq,d,ar,au,av⟩:=z U nq f ad;have aw:=O aq;have ae:=O<|qp au av;refine Hx (XP (w.heap.size+1) g (i*5) (s.S i).place (Bk j) (A t)<|s.T t) ?_;refine tz 0 (h:=tz 1 (h:=tz 2 (h:=tz 3 (h:=tz 4 (h:=?_)))));refine ry 5 λK hK=>?_;refine BK rfl rfl _ aw ?_;refine hK.out _ _ ar λ_=>?_;clear hK K;refine tz 6 (h:=?_);refine FI ?_;rcases A9 d 0 _ rfl,A9 d 1 _ rfl,A9 d 2 _ rfl,A9 d 3 _ rfl,A9 d 4 _ rfl,A9 d 5 _ rfl,A9 d 6 _ rfl,A9 d 7 _ rfl with⟨r0,r1,r2,r3,r4,r5,r6,r7⟩;go_wp2_with fail;refine Fs (v:=.tuple #[.agg (C2 (Bk j) (A t)<|s.T t).toArray,J (s.S i).place]) (by simp[results,results100,go_sem,r0,r1,r2,r3,r4,r5,r6,r7,C2]) rfl ⟨C2 (Bk j) (A t)<|s.T t,rfl,LZ _ _ _,ql aj,λ_=>⟨j,ak,rfl⟩,ae.1,ae.2⟩
def Lc.gP{b0}{B}(h:Lc w s b0 B)(a:Ar s.nf s.F=0){j}(hj:j<s.nf)key:
  C9 88 #[Q9 (B j),.string key] w λe w'=>e=.returned (J<|Bj s.F j key)/\w'=w:=by
 obtain⟨Z,M,h1,h2⟩:=h;refine(GN w b0 B Z M h1 h2 (Av a).2.1 (Av a).2.2.1 j hj key).mono ?_;rintro e w' ⟨⟨b,_⟩,rfl⟩;exact⟨b,rfl⟩
def Zo{Bk}i t{w}(m:Bg Z w c B0 vN vT vS vU Bk A s)(hi:i<s.ns)(aq:s.ns<=50)(ht:t<s.nt)(ar:s.nt<=100)(n:(s.T t).shape=-1)(C:0<=(s.S i).misses)(D:(s.S i).misses<=1000000000000):
  C9 100 #[Q9 c,J i,J t] w λe w'=>Ow Z c B0 vN vT vS vU Bk A s i t w e w':=by
 obtain⟨X,o,ad,E,_,f,_⟩:=m.CA ht;obtain⟨g,cp,ae,r,au,F,H⟩:=m.Ex hi;subst ad ae;have I:AX Bk (A t) (s.T t)=.iface 153 (Le (A t)<|s.T t):=DD n;rw[I]at f;have a:Lx s i t=false:=by unfold Lx;simp[n]
 have eI:Bd s i t=-1:=by unfold Bd;rw[C3 (by rw[a];decide),C3 om]
 have eX:En s i t={s.S i with misses:=Et (s.S i).misses}:=by unfold En;rw[C3 (by rw[a];decide),C3 om]
 obtain⟨B,K,b,af,b0,_⟩:=TM w (.cells Fa 156)<|.cells Fa 156;rcases m.enter b,m.lt,m.cells with⟨⟨hE,L⟩,ag,⟨c0,c1,c2,c3,cf⟩⟩;have M:Hid<|(Instr.storeAt 156 (Q9<|w.heap.size+1)<|.agg Fa).run prog ((w.alloc<|.cells Fa 156).alloc<|.cells Fa 156)=.ok () B:=O (by
  have h:=FG (v:=.agg Fa) (old:=Fa.toList) (vs:=Fa.toList) EN (w.alloc (.cells Fa 156)) (ty:=156) rfl rfl Oj rfl;rw[World.size_alloc]at h;rw[K];exact h)
 have l:Hid (∀q d,d=(B.drewN q).setCell (G g<|i*5+4) (J<|Et (s.S i).misses)->
   ∃w3,(Instr.storeAt 156 (Q9 w.heap.size)<|.agg Fa).run prog d=.ok () w3/\Bu d w3 w.heap.size Fa 156/\
   Bg Z w3 c B0 vN (S9 X s.nt o) (S9 g s.ns cp) vU Bk A (A7 s i t)/\BB (AD B0 c vN (S9 X s.nt o) (S9 g s.ns cp) w) w (AD B0 c vN (S9 X s.nt o) (S9 g s.ns cp) w3) w3):=O (by
  intro q d hq;have ah:B9 B<|B.drewN q:=⟨rfl,rfl,rfl,Be _,λ_ _=>rfl⟩;obtain⟨m1,d1⟩:=hE.below ah;obtain⟨m2,d2⟩:=m1.Eh (j:=4) (u:=J<|Et (s.S i).misses) (x':=En s i t) rfl hi om (qm eX);rw[<-hq]at m2 d2;have st:∀k,k≠g->d.heap[k]?=B.heap[k]?:=λk hk=>by rw[hq];exact At _ _ _ _<|by exact hk
  have P:=(st _ om).trans b0;obtain⟨w3,k1,k2⟩:=jO P;obtain⟨f1,f2⟩:=Bg.eB m2 ((L.trans d1).trans d2) m.base (Be _) om P k2;exact⟨w3,k1,k2,f1,f2⟩)
 rcases hE.cells,(b.cell r).trans<|F 4 _ rfl,(b.frozen (p:=G g<|i*5+4) r).trans<|H _,O eI,zE<|Le (A t)<|s.T t,O<|Jv (s.S i).misses,O (qp C D) with⟨⟨_,y1,y2,_,_⟩,s4,f4,Q,ai,aj,HH⟩;clear m hE L b af b0 I a eI eX H n cf c3 c0 C D K;go_enter func100,ntmps100;go_upto_region 3 with(refine Af rfl rfl _ M ?_)
 clear c1 c2 f F ag r E;go_wp2_with fail;go_quiet (fail);go_wp2_with fail;refine(aj _ HH.1 HH.2).mono ?_;rintro e w2 ⟨rfl,rfl⟩;go_upto_region 7 with fail
 obtain⟨d,x⟩:=qa<|(B.drewN nq).setCell (G g<|i*5+4)<|J<|Et (s.S i).misses;rw[<-x];obtain⟨w3,R,ak,U,V⟩:=z l nq d x;have ao:=O R;have W:=O<|qp U V;clear x R U V l s4 f4 y1 y2 ai;go_wp2_with (refine Af rfl rfl _ ao ?_);refine G9 results100 underlying156 ak.BH ⟨Fa.toList,rfl,Oj,ql Q,λh=>absurd h<|by rw[z Q];decide,W.1,W.2⟩
def Zn{Bk}(i t j:Nat){w}(V:Bg Z w c B0 vN vT vS vU Bk A s)(hf:Ar s.nf s.F=0)(hi:i<s.ns)(b3:s.ns<=50)(ht:t<s.nt)(b4:s.nt<=100)(o:(s.T t).shape=j)(hj:j<s.nf)(bg:(s.S i).shape≠j)(ak:0<=(s.S i).misses)(ao:(s.S i).misses<=1000000000000):
  C9 100 #[Q9 c,J i,J t] w λe w'=>Ow Z c B0 vN vT vS vU Bk A s i t w e w':=by
 obtain⟨C,l,bh,ah,_,M,_⟩:=V.CA ht;obtain⟨g,cp,bj,D,b5,W,aq⟩:=V.Ex hi;subst bh bj;have ar:AX Bk (A t) (s.T t)=.iface 156 (CK (Bk j) (A t)<|s.T t):=by
  unfold AX;rw[C3 om,o];rfl
 rw[ar]at M;have r:Lx s i t=false:=by unfold Lx;rw[o];simp;omega
 obtain⟨pl,E⟩:=qa<|Bj s.F j (s.S i).key;have eI:Bd s i t=pl:=by unfold Bd;rw[C3 (by rw[r];decide),DD om,o,E];rfl
 have eX:En s i t=if 0<=pl then⟨(s.S i).key,(j:Int),pl,(s.S i).BO,Et (s.S i).misses⟩else{s.S i with misses:=Et (s.S i).misses}:=by
  unfold En;rw[C3 (by rw[r];decide),o,show(j:Int).toNat=j by omega,<-E];by_cases v:0<=pl
  .rw[DD ⟨om,v⟩,DD v]
  rw[C3 (λh=>v h.2),C3 v]
 obtain⟨P,au,B,bk,b0,b1⟩:=TM w (.cells Fa 156)<|.cells (C2 (Bk j) (A t)<|s.T t).toArray 156;rcases V.enter B,V.lt,V.cells with⟨⟨hE,av⟩,bm,⟨c0,c1,c2,c3,cf⟩⟩;have Q:Hid<|(Instr.storeAt 156 (Q9<|w.heap.size+1)<|CK (Bk j) (A t)<|s.T t).run prog ((w.alloc<|.cells Fa 156).alloc<|.cells Fa 156)=.ok () P:=O (by
  have h:=Tu (w.alloc (.cells Fa 156)) (Bk j) (A t) (s.T t);rw[World.size_alloc]at h;rw[au];exact h)
 obtain⟨x1,X⟩:∃x1:Si,x1={s.S i with misses:=Et (s.S i).misses}:=⟨_,rfl⟩;have R:Hid (∀q b,b=(P.drewN q).setCell (G g<|i*5+4) (J<|Et (s.S i).misses)->
   Bg (ZB Z w.heap.size P.heap.size) b c B0 vN (S9 C s.nt l) (S9 g s.ns cp) vU Bk A {s with S:=AM s.S i x1}/\BB (AD B0 c vN (S9 C s.nt l) (S9 g s.ns cp) w) w (AD B0 c vN (S9 C s.nt l) (S9 g s.ns cp) b) b/\
   b.heap[w.heap.size]?=some (.cells Fa 156 (0,0))/\b.heap[w.heap.size+1]?=some (.cells (C2 (Bk j) (A t) (s.T t)).toArray 156 (0,0))/\(∀q2,C9 88 #[Q9 (Bk j),.string (s.S i).key] (b.drewN q2) λe w'=>e=.returned (J pl)/\w'=b.drewN q2)):=O (by
  intro q b hq;have bn:B9 P<|P.drewN q:=⟨rfl,rfl,rfl,Be _,λ_ _=>rfl⟩;obtain⟨m1,d1⟩:=hE.below bn;obtain⟨m2,d2⟩:=m1.Eh (j:=4) (u:=J<|Et (s.S i).misses) (x':=x1) rfl hi om (qm X);rw[<-hq]at m2 d2;have st:∀k,k≠g->b.heap[k]?=P.heap[k]?:=λk hk=>by rw[hq];exact At _ _ _ _<|by exact hk
  refine⟨m2,(av.trans d1).trans d2,(st _ om).trans b0,(st _ om).trans b1,λq2=>?_⟩;have f:B9 b (b.drewN q2):=⟨rfl,rfl,rfl,Be _,λ_ _=>rfl⟩;have hn:Lc (b.drewN q2) s B0 Bk:=(m2.below f).1.nd;rw[E];exact hn.gP hf hj _)
 have U:Hid (∀a,Bg (ZB Z w.heap.size P.heap.size) a c B0 vN (S9 C s.nt l) (S9 g s.ns cp) vU Bk A (A7 s i t)->BB (AD B0 c vN (S9 C s.nt l) (S9 g s.ns cp) w) w (AD B0 c vN (S9 C s.nt l) (S9 g s.ns cp) a) a->a.heap[w.heap.size]?=some (.cells Fa 156 (0,0))->
   ∃w3,(Instr.storeAt 156 (Q9 w.heap.size)<|.agg (C2 (Bk j) (A t)<|s.T t).toArray).run prog a=.ok () w3/\Bu a w3 w.heap.size (C2 (Bk j) (A t)<|s.T t).toArray 156/\
   Ow Z c B0 vN (S9 C s.nt l) (S9 g s.ns cp) vU Bk A s i t w (.returned (.tuple #[.agg (C2 (Bk j) (A t) (s.T t)).toArray,J pl])) w3):=O (by
  intro a m3 d3 hb;obtain⟨w3,k1,k2⟩:=Xz hb (Bk j) (A t) (s.T t);obtain⟨f1,f2⟩:=Bg.eB m3 d3 V.base (Be _) om hb k2;exact⟨w3,k1,k2,C2 (Bk j) (A t) (s.T t),rfl,LZ _ _ _,by rw[eI],λ_=>⟨j,o,rfl⟩,f1,f2⟩)
 rcases O eX,O X,hE.cells,(B.cell D).trans<|W 1 _ rfl,(B.cell D).trans<|W 4 _ rfl,(B.frozen (p:=G g<|i*5+4) D).trans<|aq _,Lc.cell hE.nd hj,E4 b1 7 _ rfl with⟨aw,ad,⟨_,y1,y2,_,_⟩,s1,s4,f4,⟨nl,n0,_⟩,p7⟩;have d0:((j:Int)==(s.S i).shape)=false:=ot;rcases yK (CK (Bk j) (A t)<|s.T t),O<|Jv (s.S i).misses,O (qp ak ao) with⟨bp,ax,HH⟩;have bq:g≠w.heap.size:=om;have ai:g≠w.heap.size+1:=om;clear V hE av B bk b0 b1 ar r eI eX aq o bg cf c3 c0 ak ao au X E hf;go_enter func100,ntmps100;go_upto_region 3 with(refine Af rfl rfl _ Q ?_)
 clear c1 c2 M W bm D ah;go_wp2_with fail;go_quiet (fail);go_wp2_with fail;refine(ax _ HH.1 HH.2).mono ?_;rintro e w2 ⟨rfl,rfl⟩;go_upto_region 7 with fail
 obtain⟨b,ae⟩:=qa<|(P.drewN nq).setCell (G g<|i*5+4)<|J<|Et (s.S i).misses;rw[<-ae];obtain⟨H,ay,az,I,aM⟩:=z R nq b ae;obtain⟨b6,b7,_⟩:=Lc.cell H.nd hj;obtain⟨_,_,aj,b8,_,K,af⟩:=H.Ex hi;cases aj;have b9:b.cell? (G g<|i*5)=some (.string (s.S i).key):=K 0 _ (by
  show(Hr (AM s.S i x1 i))[0]?=_;rw[Aj,z ad];rfl)
 obtain⟨k1,ca⟩:∃u,b.cell? (G g<|i*5+1)=some u:=⟨_,K 1 _ rfl⟩;obtain⟨k2,DM⟩:∃u,b.cell? (G g<|i*5+2)=some u:=⟨_,K 2 _ rfl⟩;rcases af (i*5+1),af<|i*5+2,E4 I 7 _ rfl,Ai I,O<|qp H ay,O az,O I,O aM with⟨g1,g2,q7,br,a6,a7,a8,bt⟩;clear ae H ay az I aM R s1 s4 f4 n0 p7 y1 y2 d0 bp K af nl HH ax Q;go_wp2_with fail;go_quiet (exact Calls.quiet_of_same<|bt _);by_cases v:0<=pl
 focus
  have bu:decide (0<=pl)=true:=by simp[v]
  have ag:Hid (∀q a,a=((b.drewN q).setCell (G g<|i*5+1)<|J (j:Int)).setCell (G g<|i*5+2) (J pl)->a.heap[w.heap.size+1]?=some (.cells (C2 (Bk j) (A t)<|s.T t).toArray 156 (0,0))/\∃w3,(Instr.storeAt 156 (Q9 w.heap.size)<|.agg (C2 (Bk j) (A t)<|s.T t).toArray).run prog a=.ok () w3/\Bu a w3 w.heap.size (C2 (Bk j) (A t)<|s.T t).toArray 156/\
   Ow Z c B0 vN (S9 C s.nt l) (S9 g s.ns cp) vU Bk A s i t w (.returned (.tuple #[.agg (C2 (Bk j) (A t) (s.T t)).toArray,J pl])) w3):=O (by
   intro q a hq;obtain⟨m2,d2⟩:=z a6;have f:B9 b<|b.drewN q:=⟨rfl,rfl,rfl,Be _,λ_ _=>rfl⟩;obtain⟨m3,d3⟩:=m2.below f;obtain⟨m4,d4⟩:=m3.Eh (i:=i) (j:=1) (u:=J (j:Int)) (x':={x1 with shape:=(j:Int)}) rfl hi om (by
    show _=(Hr (AM s.S i x1 i)).set 1 _;rw[Aj];rfl)
   obtain⟨m5,d5⟩:=m4.Eh (i:=i) (j:=2) (u:=J pl) (x':={x1 with shape:=(j:Int),place:=pl}) rfl hi om (by
    show _=(Hr (AM (AM s.S i x1) i {x1 with shape:=(j:Int)} i)).set 2 _;rw[Aj];rfl)
   rw[<-hq]at m5 d5;have st:∀k,k≠g->a.heap[k]?=b.heap[k]?:=λk hk=>by
    rw[hq];exact(At _ _ _ _<|by exact hk).trans (At _ _ _ _<|by exact hk)
   have eS:A7 s i t={s with S:=AM (AM (AM s.S i x1) i {x1 with shape:=(j:Int)}) i {x1 with shape:=(j:Int),place:=pl}}:=by
    unfold A7;rw[GU,GU,z aw,DD v,z ad]
   refine⟨(st _ (λe=>ai e.symm)).trans a8,U a (by rw[eS];exact m5) (((d2.trans d3).trans d4).trans d5) ((st _ (λe=>bq e.symm)).trans a7)⟩)
  clear v;go_upto_region 12 with fail
  obtain⟨a,L⟩:=qa<|((b.drewN nq).setCell (G g<|i*5+1)<|J (j:Int)).setCell (G g<|i*5+2)<|J pl
 rotate_left
 focus
  have bu:decide (0<=pl)=false:=by simp[v]
  have ag:Hid (∀q a,a=b.drewN q->a.heap[w.heap.size+1]?=some (.cells (C2 (Bk j) (A t)<|s.T t).toArray 156 (0,0))/\∃w3,(Instr.storeAt 156 (Q9 w.heap.size)<|.agg (C2 (Bk j) (A t)<|s.T t).toArray).run prog a=.ok () w3/\Bu a w3 w.heap.size (C2 (Bk j) (A t)<|s.T t).toArray 156/\
   Ow Z c B0 vN (S9 C s.nt l) (S9 g s.ns cp) vU Bk A s i t w (.returned (.tuple #[.agg (C2 (Bk j) (A t) (s.T t)).toArray,J pl])) w3):=O (by
   intro q a hq;obtain⟨m2,d2⟩:=z a6;have f:B9 b a:=by rw[hq];exact⟨rfl,rfl,rfl,Be _,λ_ _=>rfl⟩
   obtain⟨m3,d3⟩:=m2.below f;have eS:A7 s i t={s with S:=AM s.S i x1}:=by
    unfold A7;rw[z aw,C3 v,z ad]
   refine⟨(f.block _ br).trans a8,U a (by rw[eS];exact m3) (d2.trans d3) ((f.block _ om).trans a7)⟩)
  clear v;go_upto_region 12 with fail
  obtain⟨a,L⟩:=qa<|b.drewN nq
 all_goals
  rw[<-L];obtain⟨bb,w3,bc,bd,bf⟩:=z ag nq a L;rcases O bc,O bd,O bf with⟨bw,bx,bz⟩;have b2:Hid<|a.heap[w.heap.size+1]?=some (.cells #[.slice (A t).va (s.T t).nv (A t).vc,.slice (A t).la (s.T t).d.n (A t).lc,.slice (A t).ia (s.T t).d.m (A t).ic,.slice (A t).xa (s.T t).d.x (A t).xc,J (s.T t).d.used,J (s.T t).d.live,J (s.T t).d.turns,Q9 (Bk j)] 156 (0,0)):=O bb;clear bc bd bf bb L ag;go_wp2_with (first|(refine Aah rfl 156 _ rfl (w.heap.size+1) rfl _ _ _ _ b2 underlying156 rfl Nl ?_)|(refine Af rfl rfl _ bw ?_));refine G9 results100 underlying156 bx.BH bz
def R5{Bk}i t{w}(f:Bg Z w c B0 vN vT vS vU Bk A s)(hf:Ar s.nf s.F=0)(hi:i<s.ns)(a:s.ns<=50)(g:t<s.nt)(b:s.nt<=100)(h:Qo s<|s.T t)(hs:Ob s<|s.S i):
  C9 100 #[Q9 c,J i,J t] w λe w'=>Ow Z c B0 vN vT vS vU Bk A s i t w e w':=by
 obtain⟨_,h1,h2,h3,h4,_⟩:=hs;rcases h.way with⟨e,_⟩|⟨j,e,hj,_⟩
 .exact Zo i t f hi a g b e h2 h4
 by_cases d:(s.S i).shape=j
 .exact eC i t j f hi a g b e hj d h1 h3
 exact Zn i t j f hf hi a g b e hj d h2 h4
def wY(Z:Nat->Prop)(c B0:Nat)(vN vT vS vU:V9)(Bk:Nat->Nat)(A:Nat->Ad)(s:AE)(t:Nat)(k v:Vl)(w:Y)(e:Ending)(w':Y):Prop:=
 (e=.returned (.tuple #[.agg Fa,.bool false])/\BX s (s.T t) k v=.loose/\Bg Z w' c B0 vN vT vS vU Bk A s/\BB (AD B0 c vN vT vS w) w (AD B0 c vN vT vS w') w')\/
 (∃a B' p a' x' s',e=.returned (.tuple #[.agg (C2 p a' x').toArray,.bool true])/\AX B' a' x'=.iface 156 (.agg (C2 p a' x').toArray)/\Bm s' t x'=Ci s t k v/\BX s (s.T t) k v≠.full/\s'.nt=s.nt/\Bg Z w' c B0 a vT vS vU B' A s'/\BB (AD B0 c vN vT vS w) w (AD B0 c a vT vS w') w'/\Rd (OZ Z B0 c a vT vS w') w' a' x')
def Bg.Xc{w0:Y}{Bk}(h:Bg Z w c B0 vN vT vS vU Bk A s)(hz:∀k,Z k->k<w0.heap.size){B n cp g}{f}(a:Cf w B (S9 g n cp) n f)(b:w0.heap.size<=g):¬OZ Z B0 c vN vT vS w g:=by
 obtain⟨cur,hb,_⟩:=A5 a rfl;rintro(e|e)
 .exact h.EY hb oo oo oo oo oo e
 have:=hz g e;omega
def Bg.xQ{d}{f}{j}{m}{a}(h:Bg (ZB Z w.heap.size l) w1 c B0 f BT B1 i j A' s')(n:B0<=w.heap.size)(g:w.heap.size<=rb)(hz:rb<l)(o:w1.heap[rb]?=some (.cells m 156 (0,0)))(b:Bu w1 d rb cs 156)(p:Rd (OZ (ZB Z w.heap.size l) B0 c f BT B1 w1) w1 a x):Rd (OZ Z B0 c f BT B1 d) d a x:=λw3 hs hk=>by
 have q:=(h.box (.inr ⟨g,hz⟩) (GO n g) (h.EY o oo oo oo oo oo) ⟨b.os,b.tape,b.output,b.size⟩ b.other b.BH oo).2;refine p w3 (by rw[<-b.size];exact hs) λk k1 k2=>(hk k (by rw[b.size];exact k1) λe=>k2<|e.imp (q k) .inl).trans<|b.other k λe=>k2<|.inr<|.inr<|by rw[e];exact⟨g,hz⟩
def NV{Bk}(t j:Nat){k}v{w}(hM:Bg Z w c B0 vN vT vS vU Bk A s)(hf:Ar s.nf s.F=0)(ht:t<s.nt)(hx:(s.T t).shape=j)(hj:j<s.nf)(ah:(s.T t).nv=nf s.F j)(av:bare (s.T t).d)(hk:Ky k)(aw:¬(v.kind=0/\(Cb s.F (s.T t) k).kind=0))(ax:∀i,i<s.nt->(s.T i).shape=-1\/∃j:Nat,(s.T i).shape=j/\j<s.nf):
  C9 120 #[Q9 c,CK (Bk j) (A t)<|s.T t,Ga k,Ga v] w λe w'=>wY Z c B0 vN vT vS vU Bk A s t k v w e w':=by
 obtain⟨W,hW,ai,bu,o0,b1,b2,b3⟩:=kT w (.cells #[.slice (A t).va (s.T t).nv (A t).vc,.slice (A t).la (s.T t).d.n (A t).lc,.slice (A t).ia (s.T t).d.m (A t).ic,.slice (A t).xa (s.T t).d.x (A t).xc,J (s.T t).d.used,J (s.T t).d.live,J (s.T t).d.turns,Q9 (Bk j)] 156) (.cells (qi k) 32) (.cells (qi v) 32)<|.cells Fa 156;have b0:W.heap[w.heap.size]?=some (.cells (C2 (Bk j) (A t)<|s.T t).toArray 156 (0,0)):=o0;have ad:(s.T t).nv<=12:=by rw[ah];exact IZ hf hj
 rcases hM.enter ai,hM.base,hM.z,v5 b1 with⟨⟨hE,U⟩,H,ay,⟨k0,_,_,k3,_⟩⟩;have v0:W.cell? (Z9 w 0)=some (J v.kind):=by simp[World.cell?,b2]
 have x7:=E4 b0 7 _ rfl;have l0:w.heap.size<W.heap.size:=om;have l1:w.heap.size+1<W.heap.size:=om;have l2:w.heap.size+1+1<W.heap.size:=om;have bf:=((hM.rd t ht).now.1).below ai rfl;have bg:Lc W s B0 Bk:=hE.nd;have az:k.kind=4->k.str.size<=4000:=λh=>by
  have h1:=hk.1;unfold Ch Vl.ok Bf at h1;simp[h]at h1;omega
 rcases O ay,O<|qp b0<|qp b1<|qp b2 b3,O<|qp hx<|qp ah av,O hf,O ax,O az with⟨bh,R,HX,HF,bj,bk⟩;have V:Hid<|∀w1,Bg (ZB Z w.heap.size W.heap.size) w1 c B0 vN vT vS vU Bk A s->BB (AD B0 c vN vT vS w) w (AD B0 c vN vT vS w1) w1->w1.heap[w.heap.size+1+1+1]?=some (.cells Fa 156 (0,0))->BX s (s.T t) k v=.loose->∃w2,(Instr.storeAt 156 (Q9<|w.heap.size+1+1+1)<|.agg Fa).run prog w1=.ok () w2/\Bu w1 w2 (w.heap.size+1+1+1) Fa 156/\wY Z c B0 vN vT vS vU Bk A s t k v w (.returned<|.tuple #[.agg Fa,.bool false]) w2:=O (λw1 m1 d1 hb hw=>by
  obtain⟨w2,h1,h2⟩:=jO hb;obtain⟨f1,f2⟩:=Bg.eB m1 d1 H om om hb h2;exact⟨w2,h1,h2,.inl ⟨rfl,hw,f1,f2⟩⟩)
 have aM:Hid (∀w1 u B' p a' x' s',Bg (ZB Z w.heap.size W.heap.size) w1 c B0 u vT vS vU B' A s'->BB (AD B0 c vN vT vS w) w (AD B0 c u vT vS w1) w1->w1.heap[w.heap.size+1+1+1]?=some (.cells Fa 156 (0,0))->Rd (OZ (ZB Z w.heap.size W.heap.size) B0 c u vT vS w1) w1 a' x'->AX B' a' x'=.iface 156 (.agg (C2 p a' x').toArray)->Bm s' t x'=Ci s t k v->BX s (s.T t) k v≠.full->s'.nt=s.nt->
   ∃w2,(Instr.storeAt 156 (Q9 (w.heap.size+1+1+1)) (.agg (C2 p a' x').toArray)).run prog w1=.ok () w2/\Bu w1 w2 (w.heap.size+1+1+1) (C2 p a' x').toArray 156/\wY Z c B0 vN vT vS vU Bk A s t k v w (.returned (.tuple #[.agg (C2 p a' x').toArray,.bool true])) w2):=O (λw1 u B' p a' x' s' m1 d1 hb hR e1 e2 e3 e4=>by
  obtain⟨w2,h1,h2⟩:=Xz hb p a' x';obtain⟨f1,f2⟩:=Bg.eB m1 d1 H om om hb h2;exact⟨w2,h1,h2,.inr ⟨u,B',p,a',x',s',rfl,e1,e2,e3,e4,f1,f2,m1.xQ H om om hb h2 hR⟩⟩)
 have ae:∀(P:Way),(¬(k.kind=4/\v.kind≠0)->P=.loose)->(k.kind=4->v.kind≠0->0<=Bj s.F j k.str->P=.DU)->(k.kind=4->v.kind≠0->¬0<=Bj s.F j k.str->0<=Es s.nf s.F j k.str->P=.grow)->(k.kind=4->v.kind≠0->¬0<=Bj s.F j k.str->¬0<=Es s.nf s.F j k.str->P=.loose)->BX s (s.T t) k v=P:=by
  intro P p1 p2 p3 p4;unfold BX;rw[C3 aw,DD om,hx,show(j:Int).toNat=j by omega];by_cases h1:k.kind=4/\v.kind≠0
  .rw[DD h1];by_cases h2:0<=Bj s.F j k.str
   .rw[DD h2,p2 h1.1 h1.2 h2]
   rw[C3 h2];by_cases h3:0<=Es s.nf s.F j k.str
   .rw[DD h3,p3 h1.1 h1.2 h2 h3]
   rw[C3 h3,p4 h1.1 h1.2 h2 h3]
  rw[C3 h1,p1 h1]
 have B:=O ae;clear hM ay b0 b1 b2 b3 hx ah av hf ax az aw ai hk ae;by_cases C:k.kind=4
 case neg=>
  have d1:(k.kind !=4)=true:=by simp[C]
  have X:=O<|B .loose (λ_=>rfl) (λh=>absurd h C) (λh=>absurd h C) λh=>absurd h C;clear C;go_enter func120,ntmps120;go_upto_region 1 with fail
  rw[<-hW];clear hW;obtain⟨w2,f,l,o⟩:=z V W hE U R.2.2.2 X;rcases O f,O l,O o with⟨I,K,L⟩;clear f l o;go_wp2_with (refine Af rfl rfl _ I ?_);refine G9 results120 underlying156 K.BH L
 have d1:(k.kind !=4)=false:=by simp[C]
 have af:=O C;clear C;by_cases D:v.kind=0
 case pos=>
  have d2:(v.kind==0)=true:=by simp[D]
  have X:=O<|B .loose (λ_=>rfl) (λ_ h=>absurd D h) (λ_ h=>absurd D h) λ_ h=>absurd D h;clear D;go_enter func120,ntmps120;go_upto_region 1 with fail
  rw[<-hW];clear hW;obtain⟨w2,f,l,o⟩:=z V W hE U R.2.2.2 X;rcases O f,O l,O o with⟨I,K,L⟩;clear f l o;go_wp2_with (refine Af rfl rfl _ I ?_);refine G9 results120 underlying156 K.BH L
 have d2:(v.kind==0)=false:=by simp[D]
 have aj:=O D;clear D;have y0:W.cell? (Z9 w 0)=some (J v.kind):=by have b:=R.2.2.1;simp[World.cell?,b]
 have y1:W.cell? (Z9 w 1)=some (J v.num):=by have b:=R.2.2.1;simp[World.cell?,b]
 have y2:W.cell? (Z9 w 2)=some (F9 v.Ah):=by have b:=R.2.2.1;simp[World.cell?,b]
 have y3:W.cell? (Z9 w 3)=some (.string v.str):=by have b:=R.2.2.1;simp[World.cell?,b]
 have y4:W.cell? (Z9 w 4)=some (J v.ref):=by have b:=R.2.2.1;simp[World.cell?,b]
 obtain⟨pl,M⟩:=qa<|Bj s.F j k.str;have ak:Hid<|C9 88 #[Q9 (Bk j),.string k.str] W λe w'=>e=.returned (J pl)/\w'=W:=O (by rw[M];exact bg.gP HF hj _);have bm:Hid<|W.heap[w.heap.size]?=some (.cells #[.slice (A t).va (s.T t).nv (A t).vc,.slice (A t).la (s.T t).d.n (A t).lc,.slice (A t).ia (s.T t).d.m (A t).ic,.slice (A t).xa (s.T t).d.x (A t).xc,J (s.T t).d.used,J (s.T t).d.live,J (s.T t).d.turns,Q9 (Bk j)] 156 (0,0)):=O R.1;by_cases h0:0<=pl
 case pos=>
  have a6:decide (0<=pl)=true:=by simp[h0]
  obtain⟨i,hi⟩:∃i:Nat,pl=i:=⟨pl.toNat,om⟩;have Ko:i<(s.T t).nv:=by
   rcases Kc HF hj k.str with h|⟨q,h1,h2⟩
   .omega
   rw[(z HX).2.1];omega
  have X:Hid<|BX s (s.T t) k v=.DU/\Ci s t k v=Bm s t (E7 (s.T t) i v):=O (by
   have h1:=z B .DU (λh=>absurd ⟨af,aj⟩ h) (λ_ _ _=>rfl) (λ_ _ h=>absurd (by rw[<-M];exact h0) h) (λ_ _ h=>absurd (by rw[<-M];exact h0) h);refine⟨h1,?_⟩;unfold Ci;rw[h1];show Bm s t (E7 (s.T t) (Bj s.F (s.T t).shape.toNat k.str).toNat v)=_;rw[(z HX).1,show((j:Int)).toNat=j by omega,<-M,hi];rfl)
  have bn:=O<|VJ (Bk j) (A t) (s.T t) i v bf Ko ad;rw[hi]at ak a6;clear M h0 hi;go_enter func120,ntmps120;go_upto_region 1 with fail
  rw[<-hW];clear hW;go_wp2_with fail;refine ak.mono ?_;rintro e w1 ⟨rfl,rfl⟩;go_wp2_with (first|(refine Aah rfl 156 _ rfl w.heap.size rfl _ _ _ _ bm underlying156 rfl Nl ?_));refine bn.mono ?_;rintro e w3 ⟨⟨g,cp,rfl,a⟩,E⟩;obtain⟨m3,d3⟩:=hE.below E;have ao:=(a.lt g rfl).1;have a7:Rd (OZ (ZB Z w.heap.size w1.heap.size) B0 c vN vT vS w3) w3 {A t with va:=some (G g 0),vc:=cp}<|E7 (s.T t) i v:=Rd.tR (t:=E7 (s.T t) i v) a rfl (m3.Xc (w0:=w1) (λq e=>e.elim (λe=>oT<|z bh q e) λe=>e.2) a ao) HX.2.2;obtain⟨w2,f,l,o⟩:=z aM w3 vN Bk (Bk j) {A t with va:=some (G g 0),vc:=cp} (E7 (s.T t) i v) s m3 (U.trans d3) ((E.block _ om).trans R.2.2.2) a7 (by
   unfold AX;rw[C3 (by show¬(s.T t).shape=-1;rw[(z HX).1];omega)];show Value.iface _ (CK (Bk (s.T t).shape.toNat) _ _)=_;rw[(z HX).1];rfl) X.2.symm (by rw[(z X).1];decide) rfl
  clear E m3 d3 a a7;rcases O f,O l,O o with⟨I,K,L⟩;clear f l o;go_wp2_with (refine Af rfl rfl _ I ?_);refine G9 results120 underlying156 K.BH L
 have a6:decide (0<=pl)=false:=by simp[h0]
 have bp:=O<|bI j k.str hE HF hj (bk af) bj;have a8:Hid<|Bj s.F j k.str<0:=O (by rw[<-M];omega);clear M h0;go_enter func120,ntmps120;go_upto_region 1 with fail
 rw[<-hW];clear hW;go_wp2_with fail;refine ak.mono ?_;rintro e w1 ⟨rfl,rfl⟩;go_wp2_with fail;refine bp.mono ?_;rintro e w3 (⟨hr,rfl,S,Q⟩|⟨r,hr,u,B',rfl,S,Q⟩)
 focus
  rcases O (B .loose (λh=>absurd ⟨af,aj⟩ h) (λ_ _ h=>absurd h<|oT<|z a8) (λ_ _ _ h=>by exfalso;rw[hr]at h;omega) λ_ _ _ _=>rfl),O S,O Q with⟨X,ag,aq⟩;have bq:Hid<|w3.heap[w.heap.size+1+1+1]?=some (.cells Fa 156 (0,0)):=O ((Q.block _ om (λe=>by
   have hb:=R.2.2.2;exact hE.EY hb oo oo oo oo oo e)).trans R.2.2.2)
  clear S Q hr;obtain⟨w2,f,l,o⟩:=z V w3 ag (U.trans aq) bq X
 rotate_left
 focus
  have E:∀(q:Nat) (cs:Array Value) (ty:TypeId),w1.heap[q]?=some (Obj.cells cs ty (0,0))->(ty=156\/ty=32)->w3.heap[q]?=some (Obj.cells cs ty (0,0)):=λq cs ty hq ht=>(Q.block q (Ai hq) (λe=>by
   rcases ht with rfl|rfl
   .exact hE.EY hq oo oo oo oo oo e
   exact hE.EY hq oo oo oo oo oo e)).trans hq
  rcases E _ _ _ R.1 (.inl rfl),E _ _ _ R.2.2.1<|.inr rfl,E _ _ _ R.2.2.2 (.inl rfl) with⟨c0,c2,c3⟩;have br:Hid<|w3.heap[w.heap.size]?=some (.cells #[.slice (A t).va (s.T t).nv (A t).vc,.slice (A t).la (s.T t).d.n (A t).lc,.slice (A t).ia (s.T t).d.m (A t).ic,.slice (A t).xa (s.T t).d.x (A t).xc,J (s.T t).d.used,J (s.T t).d.live,J (s.T t).d.turns,Q9 (Bk j)] 156 (0,0)):=O c0;have bb:=O c3;have u0:w3.cell? (Z9 w 0)=some (J v.kind):=by simp[World.cell?,c2]
  have u1:w3.cell? (Z9 w 1)=some (J v.num):=by simp[World.cell?,c2]
  have u2:w3.cell? (Z9 w 2)=some (F9 v.Ah):=by simp[World.cell?,c2]
  have u3:w3.cell? (Z9 w 3)=some (.string v.str):=by simp[World.cell?,c2]
  have u4:w3.cell? (Z9 w 4)=some (J v.ref):=by simp[World.cell?,c2]
  have X:Hid<|BX s (s.T t) k v=.grow/\Ci s t k v=Bm {s with nf:=Fc s.nf s.F j k.str,F:=Fb s.nf s.F j k.str} t (GH (s.T t) (r:Int) v):=O (by
   have h1:=z B .grow (λh=>absurd ⟨af,aj⟩ h) (λ_ _ h=>absurd h (oT (z a8))) (λ_ _ _ _=>rfl) (λ_ _ _ h=>by exfalso;rw[hr]at h;omega);refine⟨h1,?_⟩;unfold Ci;rw[h1];show{Bm s t (GH (s.T t) (Es s.nf s.F (s.T t).shape.toNat k.str) v)with nf:=Fc s.nf s.F (s.T t).shape.toNat k.str,F:=Fb s.nf s.F (s.T t).shape.toNat k.str}=_;rw[(z HX).1,show((j:Int)).toNat=j by omega,hr];rfl)
  rcases O S,O Q,O<|Zz (Bk j) (B' r) (A t) (s.T t) (r:Int) v ((S.rd t ht).now.1) ad HX.2.2,qa (B' r) with⟨ag,aq,bc,⟨kb,ar⟩⟩;rw[<-ar]at bc ⊢;have bt:=O ar;clear E c0 c2 c3 S Q hr ar;go_wp2_with (first|(refine Aah rfl 156 _ rfl w.heap.size rfl _ _ _ _ br underlying156 rfl Nl ?_));refine bc.mono ?_;rintro e w4 ⟨⟨g,cp,ao,rfl,a⟩,au⟩;obtain⟨m4,d4⟩:=ag.below au;have bd:Rd (OZ (ZB Z w.heap.size w1.heap.size) B0 c u vT vS w4) w4 (xE g cp)<|GH (s.T t) (r:Int) v:=Rd.tR (t:=GH (s.T t) (r:Int) v) a rfl (m4.Xc (w0:=w3) (λq e=>by have:=ag.z q e;exact this) a ao) HX.2.2;obtain⟨w2,f,l,o⟩:=z aM w4 u B' kb (xE g cp) (GH (s.T t) (r:Int) v) {s with nf:=Fc s.nf s.F j k.str,F:=Fb s.nf s.F j k.str} m4 ((U.trans aq).trans d4) ((au.block _<|oT<|Ai bb).trans bb) bd (by
   unfold AX;rw[C3 (by show¬(r:Int)=-1;omega),z bt];rfl) X.2.symm (by rw[(z X).1];decide) rfl
  clear au m4 d4 a bd
 all_goals
  rcases O f,O l,O o with⟨I,K,L⟩;clear f l o;go_wp2_with (refine Af rfl rfl _ I ?_);refine G9 results120 underlying156 K.BH L
def fB:(prog.info? 1).map (λi=>(i.zero,i.size,i.bytes))=some (some .nilFunc,1,8):=ou
def G7 Z c B0 vN vT vS Bk A s(fn:Nat)cs w(j:Bg Z w c B0 vN vT vS (N9) Bk A s):
  C9 95 #[Q9 c,.func (.func fn) #[] cs] w λe w'=>(∃u,e=.returned u)/\∃g cp,w.heap.size<=g/\w'.ownsRow w.heap.size 1 1 (S9 g 1 cp) 1 [.func (.func fn) #[] cs]/\Bg Z w' c B0 vN vT vS (S9 g 1 cp) Bk A s/\BB (AD B0 c vN vT vS w) w (AD B0 c vN vT vS w') w'/\∀k,k<w.heap.size->k≠c->w'.heap[k]?=w.heap[k]?:=by
 rcases Ok fB,j.cells,j.lt with⟨⟨i0,l,m,n,o⟩,⟨c0,c1,c2,c3,cf⟩,x⟩;have B:Hid (∀g3 a w3,w3.ownsRow w.heap.size 1 1 (S9 g3 1 a) 1 ([]++[.func (.func fn) #[] cs])->(w.alloc<|.cells #[.func (.func fn) #[] cs] 1).grownBy w3 none->g3=w.heap.size+1->
   w3.cell? (G c 3)=some (N9)/\w3.frozen? (G c 3)=false/\c<w3.heap.size/\((w3.setCell (G c 3) (S9 g3 1 a)).ownsRow w.heap.size 1 1 (S9 g3 1 a) 1 [.func (.func fn) #[] cs]/\Bg Z (w3.setCell (G c 3) (S9 g3 1 a)) c B0 vN vT vS (S9 g3 1 a) Bk A s/\BB (AD B0 c vN vT vS w) w (AD B0 c vN vT vS (w3.setCell (G c 3) (S9 g3 1 a))) (w3.setCell (G c 3) (S9 g3 1 a))/\∀k,k<w.heap.size->k≠c->(w3.setCell (G c 3) (S9 g3 1 a)).heap[k]?=w.heap[k]?)):=O (by
  intro g3 a w3 h1 h2 h3;have i:B9 w w3:=⟨h2.os,h2.tape,h2.output,GO oq h2.size,λk hk=>(h2.block k ot oq).trans (E1 _ _ _ hk)⟩;obtain⟨m3,d3⟩:=j.below i;obtain⟨_,_,_,e3,t⟩:=m3.cells;obtain⟨m4,d4⟩:=m3.wM (ua:=some (G g3 0)) (un:=1) (uc:=a);refine⟨e3,t 3,m3.lt,Ae h1 (λq e=>At _ _ _ _ (by cases e;show g3≠c;omega)),m4,d3.trans d4,λk hk p=>(At _ _ _ _ (by exact p)).trans (i.block k hk)⟩)
 go_enter func95,ntmps95;go_wp2_with (at_builtin;refine ON _ rfl _ _ 115 rfl w.heap.size 1 i0 .nilFunc 1 8 underlying115 l m n o rfl oo N9 0 [] rfl (IF _ _ _ _) (y w 0) 1 1 [.func (.func fn) #[] cs] rfl rfl (Is<|DO _ _) oh oo oo oo oq (w.heap.size+1) oq ?_;intro g3 a w3 f h b v;obtain⟨e3,t,C,d⟩:=z B g3 a w3 f h<|b.resolve_left (by simp[Value.ownBlock]);have d:=O d;have r:w.heap.size<=g3:=oT<|b.resolve_left (by simp[Value.ownBlock]);clear f h b);go_end0;exact⟨⟨_,rfl⟩,g3,a,r,d.1,d.2.1,d.2.2.1,d.2.2.2⟩
structure Li (w:Y) (c:Nat) (vU:V9) (t:Nat) (f:V9) (a cu d bw e:Nat):Prop where
 v:vU=S9 a 1 cu
 u:w.ownsRow 0 1 1 (S9 a 1 cu) 1 [.func (.func 128) #[] #[Q9 d,Q9 bw,Q9 e]]
 k:w.heap[d]?=some (.cells #[f] 103 (0,0))
 b:w.heap[bw]?=some (.cells #[Q9 c] 83 (0,0))
 n:w.heap[e]?=some (.cells #[J (t:Int)] 3 (0,0))
def Li.keep{t}{d f}(h:Li w c vU t i a cu d bw f)(h1:w'.heap[a]?=w.heap[a]?)(j:w'.heap[d]?=w.heap[d]?)(h2:w'.heap[bw]?=w.heap[bw]?)(h3:w'.heap[f]?=w.heap[f]?):Li w' c vU t i a cu d bw f:=
 ⟨h.v,Ae h.u (λg e=>by cases e;exact h1),j.trans h.k,h2.trans h.b,h3.trans h.n⟩
def Sb(bw a c g t:Nat)(vT b:V9)(W:Y):Prop:=W.cell? (G bw 0)=some (Q9 c)/\W.cell? (G a 0)=some (J (t:Int))/\W.cell? (G c 1)=some vT/\W.cell? (G g t)=some b
def V6(bw a c t:Nat)(vT:V9)(W:Y):Prop:=W.cell? (G bw 0)=some (Q9 c)/\W.cell? (G a 0)=some (J (t:Int))/\W.cell? (G c 1)=some vT
def MF Bk a x:∃ty v,AX Bk a x=.iface ty v:=by
 unfold AX;split;all_goals grind [AX]
def JA Z c B0 vN vT vS Bk A s t a' x' w(v:Bg Z w c B0 vN vT vS (N9) Bk A s)(S:t<s.nt)(aq:s.nt<=100)(hr:Rd (OZ Z B0 c vN vT vS w) w a' x'):
  C9 102 #[Q9 c,J t,AX Bk a' x'] w λe w'=>(∃u,e=.returned u)/\∃C,Bg Z w' c B0 vN vT vS C Bk (AM A t a') (Bm s t x')/\BB (AD B0 c vN vT vS w) w (AD B0 c vN vT vS w') w'/\(∀k,k<w.heap.size->k≠c->vT.ownBlock≠some k->w'.heap[k]?=w.heap[k]?)/\∃i cu bb bw bn,Li w' c C t (AX Bk (A t)<|s.T t) i cu bb bw bn/\vT.ownBlock≠some bb:=by
 obtain⟨g,cp,hv,U,ar,V,au⟩:=v.CA S;subst hv;rcases MF Bk (A t) (s.T t),MF Bk a' x',TM w (.cells #[Q9 c] 83)<|.cells #[J (t:Int)] 3,v.lt with⟨⟨ty,x,D⟩,⟨ty',f,m⟩,⟨W,hW,l,ad,b0,b1⟩,ae⟩;have af:c≠g:=λe=>v.Bc v.t oo<|qm e;obtain⟨X,B⟩:=qa<|(W.alloc<|.cells #[.iface ty x] 103).drew;have n:B9 w X:=by rw[B];exact(l.alloc l.size _).drew
 have b:B9 W X:=by rw[B];exact(n9).drew
 have av:X.heap.size=w.heap.size+1+1+1:=by rw[B];simp;omega
 have x2:X.heap[w.heap.size+1+1]?=some (.cells #[.iface ty x] 103 (0,0)):=by
  rw[B,<-ad];exact DO W _
 have d:Sb w.heap.size (w.heap.size+1) c g t (S9 g s.nt cp) (.iface ty x) W.drew:=⟨by show W.cell? _=_;simp[World.cell?,b0],by show W.cell? _=_;simp[World.cell?,b1],(l.cell (p:=G c 1) ae).trans v.cells.2.1,(l.cell (p:=G g t) U).trans<|V.trans<|by rw[D]⟩;obtain⟨hE,E⟩:=v.enter n;have F:Hid (∀w1 i cu,W.heap.size<w1.heap.size->(∀k,k<X.heap.size->k≠c->w1.heap[k]?=X.heap[k]?)->X.heap.size<=i->w1.ownsRow X.heap.size 1 1 (S9 i 1 cu) 1 [.func (.func 128) #[] #[Q9 (w.heap.size+1+1),Q9 w.heap.size,Q9 (w.heap.size+1)]]->
   Bg (ZB Z w.heap.size X.heap.size) w1 c B0 vN (S9 g s.nt cp) vS (S9 i 1 cu) Bk A s->BB (AD B0 c vN (S9 g s.nt cp) vS X) X (AD B0 c vN (S9 g s.nt cp) vS w1) w1->
   V6 w.heap.size (w.heap.size+1) c t (S9 g s.nt cp) w1.drew/\V6 w.heap.size (w.heap.size+1) c t (S9 g s.nt cp) ((w1.setCell (G g t)<|.iface ty' f).drew)/\g<w1.heap.size/\(∃u,w1.cell? (G g t)=some u)/\w1.frozen? (G g t)=false/\
   (Bg Z (w1.setCell (G g t)<|.iface ty' f).drew c B0 vN (S9 g s.nt cp) vS (S9 i 1 cu) Bk (AM A t a') (Bm s t x')/\BB (AD B0 c vN (S9 g s.nt cp) vS w) w (AD B0 c vN (S9 g s.nt cp) vS (w1.setCell (G g t)<|.iface ty' f).drew) (w1.setCell (G g t)<|.iface ty' f).drew/\(∀k,k<w.heap.size->k≠c->(Value.slice (some<|G g 0) s.nt cp).ownBlock≠some k->(w1.setCell (G g t)<|.iface ty' f).drew.heap[k]?=w.heap[k]?)/\
    Li (w1.setCell (G g t) (.iface ty' f)).drew c (S9 i 1 cu) t (AX Bk (A t) (s.T t)) i cu (w.heap.size+1+1) w.heap.size (w.heap.size+1))):=O (by
  intro w1 i cu aw j H o m1 d1;have y0:=(j _ om om).trans<|(b.block _ om).trans b0;have y1:=(j _ om om).trans<|(b.block _ om).trans b1;have y2:=(j _ om om).trans x2;have ag:Rd (OZ (ZB Z w.heap.size X.heap.size) B0 c vN (S9 g s.nt cp) vS w1) w1 a' x':=by
   intro ah hs hk;refine hr ah (GO n.size<|GO d1.size hs) λk k1 k2=>?_;have hd:=E.trans d1;refine(hk k (A0 k1 hd.size) λe=>?_).trans (hd.block k k1 λe=>k2<|.inl e);rcases e with e|e|e
   .exact(hd.own k e).elim (λe=>k2<|.inl e) λe=>om
   .exact k2 (.inr e)
   omega
  have I:g<w1.heap.size:=A0 om d1.size;have L:w1.cell? (G g t)=some (AX Bk (A t)<|s.T t):=by rw[Lo m1.t t om,ME S]
  have M:∀q,w1.frozen? (G g q)=false:=λq=>by obtain⟨cur,hb,_⟩:=A5 m1.t rfl;simp[World.frozen?,hb]
  obtain⟨m2,d2⟩:=m1.Gs rfl S ag;rw[m]at m2 d2;have st:∀q,q≠g->(w1.setCell (G g t)<|.iface ty' f).heap[q]?=w1.heap[q]?:=λq hq=>At _ _ _ _ (by exact hq);have P:=m1.cells.2.1;refine⟨⟨by show w1.cell? _=_;simp[World.cell?,y0],by show w1.cell? _=_;simp[World.cell?,y1],P⟩,⟨?_,?_,(As (a:=G c 1)<|st c af).trans P⟩,I,⟨_,L⟩,M t,(m2.leave λk e=>.inl e).drew,((E.trans d1).trans d2).Uf,λk hk ai aj=>?_,⟨rfl,PM (Ae o λq e=>st q<|by cases e;show i≠g;omega)<|To _,?_,(st _ om).trans y0,(st _ om).trans y1⟩⟩
  .exact(As (a:=y w 0)<|st w.heap.size om).trans (by simp[World.cell?,y0])
  .exact(As (a:=Y9 w 0)<|st (w.heap.size+1) om).trans (by simp[World.cell?,y1])
  .exact(st k λe=>aj<|qm e).trans ((j k om ai).trans<|n.block k hk)
  exact((st _ om).trans y2).trans (by rw[D]))
 have Q:Sb w.heap.size (w.heap.size+1) c g t (S9 g s.nt cp) (.iface ty x) X:=⟨(b.cell (p:=y w 0)<|by show w.heap.size<_;omega).trans d.1,(b.cell (p:=Y9 w 0)<|by show w.heap.size+1<_;omega).trans d.2.1,(b.cell (p:=G c 1)<|by show c<_;omega).trans d.2.2.1,(b.cell (p:=G g t)<|by show g<_;omega).trans d.2.2.2⟩;have r:∀cs,Sb w.heap.size (w.heap.size+1) c g t (S9 g s.nt cp) (.iface ty x) (W.alloc<|.cells cs 103).drew:=λcs=>by
  have hb:B9 W (W.alloc<|.cells cs 103).drew:=(n9).drew;exact⟨(hb.cell (p:=y w 0)<|by show w.heap.size<_;omega).trans d.1,(hb.cell (p:=Y9 w 0)<|by show w.heap.size+1<_;omega).trans d.2.1,(hb.cell (p:=G c 1)<|by show c<_;omega).trans d.2.2.1,(hb.cell (p:=G g t)<|by show g<_;omega).trans d.2.2.2⟩
 have ao:W.heap.size<X.heap.size:=om;have x0:=Q.1;rw[m];go_enter func102,ntmps102;go_wp2_with fail;rw[<-hW];clear hW;refine Hx (Sb w.heap.size (w.heap.size+1) c g t (S9 g s.nt cp)<|.iface ty x) ?_;refine tz 0 (h:=tz 1 (h:=tz 2 (h:=tz 3 (h:=tz 4 (h:=tz 5 (h:=tz 6 (h:=tz 7 (h:=?_))))))));refine ry 8 λK hK=>?_;go_simp;refine hK.out _ _ (r _) λ_=>?_;clear hK K;refine ry 9 λK hK=>?_;go_simp;refine hK.out _ _ (r _) λ_=>?_;clear hK K;refine FI ?_;rw[<-B];clear B d Q r;go_wp2_with fail;refine(G7 _ c B0 _ _ _ Bk A s 128 #[Q9 (w.heap.size+1+1),Q9 w.heap.size,Q9 (w.heap.size+1)] X hE).mono ?_;rintro e w1 ⟨⟨uu,rfl⟩,i,cu,H,o,m1,d1,j⟩;obtain⟨ax,ak,ay,⟨u0,az⟩,aM,R⟩:=z F w1 i cu (oT d1.size) j H o m1 d1;go_wp2_with fail;refine Hx (V6 w.heap.size (w.heap.size+1) c t<|S9 g s.nt cp) ?_;refine tz 0 (h:=tz 1 (h:=tz 2 (h:=tz 3 (h:=tz 4 (h:=tz 5 (h:=tz 6 (h:=tz 7 (h:=?_))))))));refine ry 8 λK hK=>?_;go_simp;refine hK.out _ _ ak λ_=>?_;clear hK K;refine FI ?_;go_wp2_with fail;go_end0;obtain⟨f1,f2,f3,f4⟩:=z<|O R;exact⟨⟨_,rfl⟩,_,f1,f2,f3,i,cu,w.heap.size+1+1,w.heap.size,w.heap.size+1,f4,λe=>by have e:g=w.heap.size+1+1:=Aai e;omega⟩
def AL.Po(h:AL w bk r0 r1 R2 E S d)(hs:w.heap.size<=w'.heap.size)(hk:∀k,bk<=k->k<w.heap.size->w'.heap[k]?=w.heap[k]?):AL w' bk r0 r1 R2 E S d:=by
 have hb:=hk bk (Be _) h.lt;have e:∀q,w'.cell? (G bk q)=w.cell? (G bk q):=λq=>As (a:=G bk q) hb;have b:∀{t:TypeId} {v:V9} {n:Nat} {f:Nat->Option Addr},Rw w (bk+1) t v n f->Rw w' (bk+1) t v n f:=λc=>Ae c λq hq=>hk q (oT (c.lt q hq).1) (c.lt q hq).2;refine⟨A0 h.lt hs,(e _).trans h.c0,(e _).trans h.c1,(e _).trans h.c2,(e _).trans h.c3,(e _).trans h.c4,(e _).trans h.c5,(e _).trans h.c6,λq=>(GW (a:=G bk q) hb).trans<|h.fz q,b h.log,b h.ints,h.rf,b h.slots,h.ap,λi hi=>(h.CH i hi).keep hs<|hk _ (Aaa<|h.eb i hi) (h.CH i hi).lt,h.eb,h.inj,λj hj=>⟨λhp=>((h.sl j hj).1 hp).keep hs<|hk _ (Aaa<|h.sg j hj om)<|Ai ((h.sl j hj).1 hp).ob,λhp=>((h.sl j hj).2 hp).keep hs<|hk _ (Aaa<|h.sg j hj om)<|Ai ((h.sl j hj).2 hp).ob⟩,h.sg⟩
def Rd.Km{X}{A}{c0 c1 c2}(h:DV t.d w (.slice A.la t.d.n c0) (.slice A.ia t.d.m c1) (.slice A.xa t.d.x c2) lo hi)(hn:t.nv=0)(i:∀b cs ty,w.heap[b]?=some (.cells cs ty (0,0))->(ty=168\/ty=3)->lo<=b->¬X b):Rd X w A t:=λw' hs hk=>by
 have hl:N1 t.d.L t.d.n w' (.slice A.la t.d.n c0) lo hi:=by
  rcases h.log with h|⟨b,cp,Z,g,h1,h2,h3,h4,h5,e⟩
  .exact .inl h
  obtain⟨c,hc,_,_⟩:=id h4;exact .inr ⟨b,cp,Z,g,h1,h2,h3,TO h4<|hk b (Ai hc)<|i b _ _ hc (.inl rfl) h2,h5,e⟩
 have a:∀{f:Nat->Int} {n:Nat} {v:V9},Kk f n w v lo hi->Kk f n w' v lo hi:=λj=>by
  rcases j with h|⟨b,cp,Z,g,h1,h2,h3,h4,h5,e⟩
  .exact .inl h
  obtain⟨c,hc,_,_⟩:=id h4;exact .inr ⟨b,cp,Z,g,h1,h2,h3,TO h4<|hk b (Ai hc)<|i b _ _ hc (.inr rfl) h2,h5,e⟩
 obtain⟨la,lc,ia,ic,xa,xc,e0,e1,e2,k⟩:=DV.at (⟨hl,a h.ints,a h.index,h.wZ,h.xA,h.a12⟩:DV t.d w' _ _ _ lo hi);cases e0;cases e1;cases e2;exact⟨.inl hn,k⟩
def ZO Bk x d k v la ia xa lc ic xc:AX Bk ⟨none,0,la,lc,ia,ic,xa,xc⟩ (DT x d k v)=.iface 153 (.agg #[N9,.slice la (Ca hN d k v).n lc,.slice ia (Ca hN d k v).m ic,.slice xa (Ca hN d k v).x xc,J (Ca hN d k v).used,J (Ca hN d k v).live,J (Ca hN d k v).turns]):=DD rfl
def wX(Z:Nat->Prop)(c B0:Nat)(vN vT vS:V9)(Bk:Nat->Nat)(A:Nat->Ad)(s:AE)(t:Nat)(d:Dc)(k v:Vl)(w:Y)(e:Ending)(w':Y):Prop:=
 e=.returned (CP<|if D6 d k v=true then 5 else 0)/\∃a a',Bg Z w' c B0 vN vT vS a Bk (AM A t a') (Bm s t<|DT (s.T t) d k v)/\BB (AD B0 c vN vT vS w) w (AD B0 c vN vT vS w') w'/\∃f cu b bw g,Li w' c a t (AX Bk (A t)<|s.T t) f cu b bw g/\vT.ownBlock≠some b
def JQ{Bk}t{la:Option Addr}lc{ia:Option Addr}ic{xa:Option Addr}xc{d}{k v}{w}(hM:Bg Z w c B0 vN vT vS (N9) Bk A s)(ht:t<s.nt)(bf:s.nt<=100)(hT:BZ w)(hD:FJ w la ia xa d)(hI:Inv Ky hN d)(hm:d.m<=4000000)(hk:Ky k)(hv:v.ok=true)(hR:M5 k v)(bq:5<=B0):
  C9 121 #[Q9 c,J t,Dv la lc ia ic xa xc d,Ga k,Ga v] w λe w'=>wX Z c B0 vN vT vS Bk A s t d k v w e w':=by
 obtain⟨W,hW,ao,br,b0,b1,b2⟩:=kS w (.cells #[.slice la d.n lc,.slice ia d.m ic,.slice xa d.x xc,J d.used,J d.live,J d.turns] 69) (.cells (qi k) 32)<|.cells (qi v) 32;rcases hI.small om,hI.sound Cl,Jz Cl hI hk hk.1 hv,Xo (v:=v) Cl hI hk,O<|Zv hI hk hv,hM.lt,(hM.t.lt),hM.base,O<|qp b1 b2,hD.below ao,O hv with⟨hS,aq,h,bg,K,bt,ar,bu,au,av,HV⟩;have bh:=O ar;clear b0 b1 b2 hD hv ar;go_enter func121,ntmps121;go_wp2_with fail;rw[<-hW];clear hW;refine(Iz lc ic xc av hS aq.d3 aq.d4).mono ?_;rintro e w1 ⟨⟨bk,R0,R1,R2,E,S,rfl,aw,X⟩,L⟩;rcases AL.Yz aw X hS,X.gb,z au with⟨ax,bx,⟨b1,b2⟩⟩;have b1:=(L.block _ om).trans b1;have b2:=(L.block _ om).trans b2;obtain⟨k0,k1,k2,k3,k4⟩:=v5 b1;obtain⟨v0,v1,v2,v3,v4⟩:=v5 b2;have p:=O<|qp b1 b2;have ay:=ao.trans<|L.mono om;clear aw X L b1 b2 av au;go_wp2_with fail;refine(YK Bb Cl N3 (λa b ha hb=>ha.below hb om) v (Bb _ _ hT ay) ax hS hm hI hk hk.1 HV hR).mono ?_;rintro e w2 ⟨⟨⟨uu,rfl⟩,r0,r1,bz,E2,S2,r⟩,⟨M,_⟩⟩;have az:=ay.trans<|M.mono om;have C:=O<|qp ((M.block _ om).trans p.1)<|(M.block _ om).trans p.2;have bp:=r.lt;clear M k0 k1 k2 k3 k4 v0 v1 v2 v3 v4 p ax;obtain⟨D,ad⟩:=qa<|Ca hN d k v;rw[<-ad]at r h bg K;have aM:=O ad;clear ad;go_wp2_with fail;refine(Ud r (h.small om) (λj hj=>by
  rcases h.i0.ints j hj with e|e<;>omega) (λj hj=>by
  rcases h.i0.idx.range j hj with e|e|⟨e1,e2,_⟩
  .exact .inl e
  .exact .inr (.inl e)
  exact .inr (.inr ⟨e1,om⟩))).mono ?_
 rintro e w3 ⟨⟨u0,u1,u2,rfl,ae⟩,l⟩;obtain⟨ua,uc,ub,ud,ue,uf,e0,e1,e2,-⟩:=ae.at;subst e0 e1 e2;have z3:=l.size;have af:=az.trans<|l.mono om;obtain⟨m3,d3⟩:=hM.below af;have a6:Hid<|Rd (OZ Z B0 c vN vT vS w3) w3 ⟨none,0,ua,uc,ub,ud,ue,uf⟩<|DT (s.T t) d k v:=O (by
  have aj:DV (DT (s.T t) d k v).d w3 (.slice ua (DT (s.T t) d k v).d.n uc) (.slice ub (DT (s.T t) d k v).d.m ud) (.slice ue (DT (s.T t) d k v).d.x uf) w2.heap.size w3.heap.size:=by
   show DV (Ca hN d k v) w3 (.slice ua (Ca hN d k v).n uc) (.slice ub (Ca hN d k v).m ud) (.slice ue (Ca hN d k v).x uf) _ _;rw[<-z aM];exact ae
  refine Rd.Km (A:=⟨none,0,ua,uc,ub,ud,ue,uf⟩) aj rfl (λb cs ty hb hty b3=>?_);rintro(e|e)
  .rcases hty with rfl|rfl
   .exact m3.EY hb oo oo oo oo oo e
   exact m3.EY hb oo oo oo oo oo e
  have:=hM.z b e;omega)
 rcases O (qp ((l.block _ om).trans C.1)<|(l.block _ om).trans C.2),r.below l,Bb _ _ hT af with⟨F,R,bj⟩;have bm:Hid<|AX Bk ⟨none,0,ua,uc,ub,ud,ue,uf⟩ (DT (s.T t) d k v)=.iface 153 (.agg #[N9,.slice ua D.n uc,.slice ub D.m ud,.slice ue D.x uf,J D.used,J D.live,J D.turns]):=O (by rw[ZO,z aM]);have ag:=O<|JA Z c B0 vN vT vS Bk A s t ⟨none,0,ua,uc,ub,ud,ue,uf⟩ (DT (s.T t) d k v) w3 m3 ht bf a6;rw[z bm]at ag;clear ae l af az C a6 r;go_wp2_with fail;refine ag.mono ?_;rintro e w4 ⟨⟨b4,rfl⟩,P,a7,g,a8,gu,cu,bb,bw,bn,o,U⟩;have z4:=g.size;have Q:∀q,w.heap.size<=q->q<w3.heap.size->w4.heap[q]?=w3.heap[q]?:=λq h1 h2=>a8 q h2 om λe=>oT (bh q e).2;have ak:=O<|R.Po z4 λq h1 h2=>Q q om h2;have b1:=(Q _ om om).trans F.1;have b2:=(Q _ om om).trans F.2;obtain⟨k0,k1,k2,k3,k4⟩:=v5 b1;have v0:w4.cell? (Z9 w 0)=some (J v.kind):=by simp[World.cell?,b2]
 have bc:=bj.below (B:=B0) ⟨g.os,g.tape,g.output,g.size,λq hq=>g.block q om λe=>oT (m3.IC e).1⟩ om;have H:Hid<|C9 142 #[Q9 bk,V k.kind k.num k.Ah k.str k.ref] w4<|R9 (.pointer<|Dr E2<|Ay D k<|hN k) w4:=O (by
  obtain⟨b5,b6,hB⟩:=ak.book;exact JU Bb (N3 k hk) bc hB (h.small om) h.i0.d3 h.i0.d4)
 have ah:Hid<|∀w5,B9 w4 w5->∃P a',Bg Z w5 c B0 vN vT vS P Bk (AM A t a') (Bm s t<|DT (s.T t) d k v)/\BB (AD B0 c vN vT vS w) w (AD B0 c vN vT vS w5) w5/\∃gu cu bb bw bn,Li w5 c P t (AX Bk (A t)<|s.T t) gu cu bb bw bn/\vT.ownBlock≠some bb:=O (λw5 f=>by
  obtain⟨m5,d5⟩:=a7.below f;refine⟨P,_,m5,(d3.trans g).trans d5,gu,cu,bb,bw,bn,o.keep (f.block _ ?_) (f.block _ (Ai o.k)) (f.block _ (Ai o.b)) (f.block _ (Ai o.n)),U⟩;exact(o.u.lt gu rfl).2)
 clear a7 g a8 o U Q b1 b2 bc ag R F;by_cases i:v.kind=0
 .have dv:(v.kind !=0)=false:=by simp[i]
  have HR:Hid<|D6 d k v=false:=O (by rw[z K];simp[i]);clear i;go_wp2;refine Fs (v:=CP 0) (by simp[results,results121,go_sem,CP]) rfl ⟨ql HR,ah _<|BE _ _⟩
 have dv:(v.kind !=0)=true:=by simp[i]
 by_cases hp:Ay D k (hN k)<0
 .have HR:Hid<|D6 d k v=true:=O (by rw[z K];simp[i,hp]);have I:Dr E2 (Ay D k<|hN k)=none:=by unfold Dr;rw[C3 om]
  rw[I]at H;clear i hp I;go_wp2_with fail;refine H.mono ?_;rintro e w5 ⟨rfl,f⟩;have ai:=O<|ah w5 f;clear f;go_wp2;refine Fs (v:=CP 5) (by simp[results,results121,go_sem,CP]) rfl ⟨ql HR,ai⟩
 have HR:Hid<|D6 d k v=false:=O (by rw[z K];simp[hp]);have I:Dr E2 (Ay D k<|hN k)=some (G (E2 (Ay D k<|hN k).toNat) 0):=by unfold Dr;rw[DD om]
 rw[I]at H;obtain⟨eb,bd⟩:=qa<|E2 (Ay D k<|hN k).toNat;rw[<-bd]at H;clear i hp I bd;go_wp2_with fail;refine H.mono ?_;rintro e w5 ⟨rfl,f⟩;have ai:=O<|ah w5 f;clear f;go_wp2;refine Fs (v:=CP 0) (by simp[results,results121,go_sem,CP]) rfl ⟨ql HR,ai⟩
structure Lj (fn:Nat) (w:Y) (c:Nat) (vU:V9) (n a cu bw d:Nat):Prop where
 v:vU=S9 a 1 cu
 u:w.ownsRow 0 1 1 (S9 a 1 cu) 1 [.func (.func fn) #[] #[Q9 bw,Q9 d]]
 b:w.heap[bw]?=some (.cells #[Q9 c] 83 (0,0))
 n:w.heap[d]?=some (.cells #[J (n:Int)] 3 (0,0))
def Lj.keep{fn}{d}(h:Lj fn w c vU n a cu bw d)(h1:w'.heap[a]?=w.heap[a]?)(h2:w'.heap[bw]?=w.heap[bw]?)(h3:w'.heap[d]?=w.heap[d]?):Lj fn w' c vU n a cu bw d:=
 ⟨h.v,Ae h.u (λg e=>by cases e;exact h1),h2.trans h.b,h3.trans h.n⟩
def Ie(bw c g:Nat)(vN:V9)(p:Nat)(W:Y):Prop:=W.cell? (G bw 0)=some (Q9 c)/\W.cell? (G c 0)=some vN/\W.cell? (G g 0)=some (Q9 p)
def Ie.keep(h:Ie bw c g vN p w)(h1:w'.heap[bw]?=w.heap[bw]?)(h2:w'.heap[c]?=w.heap[c]?)(h3:w'.heap[g]?=w.heap[g]?):Ie bw c g vN p w':=
 ⟨(As (a:=G bw 0) h1).trans h.1,(As (a:=G c 0) h2).trans h.2.1,(As (a:=G g 0) h3).trans h.2.2⟩
def vR Bk:AX Bk default Ja=.iface 156 (.agg #[N9,N9,N9,N9,J 0,J 0,J 0,Q9 (Bk 0)]):=by
 unfold AX;rw[C3 oo];rfl
def QV{Bk}a{w}(m:Bg Z w c B0 vN vT vS (N9) Bk A s)(bq:s.nt<=100)(ay:0<s.nf):
  C9 50 #[Q9 c,I5 a] w λe w'=>(∃BT U A',Bg Z w' c B0 vN BT vS U Bk A' {s with nt:=s.nt+1,T:=AM s.T s.nt Ja}/\BB (AD B0 c vN vT vS w) w (AD B0 c vN BT vS w') w'/\
   (s.nt≠100->e=.returned (.tuple #[H9 (Dx s.nt),CP 0]))/\(s.nt=100->e=.returned (.tuple #[H9 (BD 0),CP 5])/\∃C cu bw bn,Lj 96 w' c U s.nt C cu bw bn)):=by
 obtain⟨ta,tc,rfl⟩:=Au m.t;obtain⟨na,nc,rfl⟩:=Au m.n;obtain⟨f,az,aM,V⟩:∃f,na=some (G f 0)/\f<w.heap.size/\w.cell? (G f 0)=some (Q9<|Bk 0):=by
  obtain⟨hl,⟨hv,h0⟩|⟨g,cap,cur,hv,hb,X,h1,h2,h3,h4⟩⟩:=m.n
  .omega
  cases hv;exact⟨g,rfl,(GC.1 X).1,by rw[Lo m.n 0 om,LO ay]⟩
 subst az;obtain⟨i0,a6,a7,a8,bb⟩:=Ok Uy;obtain⟨W,hW,I,ag,b0,_,o2,b3⟩:=kT w (.cells #[Q9 c] 83) (.cells (Bn a) 34) (.cells bY 40)<|.cells #[J (s.nt:Int)] 3;have b2:IV W<|w.heap.size+1+1:=o2;rcases m.enter I,m.lt,m.base,m.cells with⟨⟨hE,ah⟩,br,o,⟨c0,c1,c2,c3,cf⟩⟩;have ai:c≠f:=λe=>m.Bc m.n oo<|qm e;rcases O (qp b0<|qp b2 b3),O ag,O ((I.cell aM).trans V) with⟨aj,HZ,ak⟩;have bt:c<w.heap.size+1:=om;have bu:c<w.heap.size+1+1:=om;clear m b0 b2 b3 c0 c2 c3 cf I ag V;go_enter func50,ntmps50;go_wp2_with fail;rw[<-hW];clear hW c1;refine(G7 _ c B0 _ _ _ Bk A s 96 #[Q9 w.heap.size,Q9 (w.heap.size+1+1+1)] W hE).mono ?_;rintro e w1 ⟨⟨uu,rfl⟩,C,cu,bx,ao,k,L,r⟩;rcases z HZ,L.size,z aj with⟨zW,bj,⟨b0,b2,b3⟩⟩;have b0:=(r _ om om).trans b0;have b2:IV w1<|w.heap.size+1+1:=(r _ om om).trans b2;have b3:=(r _ om om).trans b3;have aq:w1.cell? (G f 0)=some (Q9<|Bk 0):=(As (a:=G f 0)<|r f om λe=>ai e.symm).trans ak;obtain⟨c0,c1,c2,c3,cf⟩:=k.cells;obtain⟨KV,ar⟩:=qa<|Value.iface 156<|.agg #[N9,N9,N9,N9,J 0,J 0,J 0,Q9 (Bk 0)];have j:B9 w1<|(w1.alloc<|.cells #[KV] 103).drew:=(n9).drew;have M:Ie w.heap.size c f (S9 f s.nf nc) (Bk 0) w1.drew:=⟨by show w1.cell? _=_;simp[World.cell?,b0],c0,aq⟩;have u:=Ie.keep (w:=w1) M (j.block w.heap.size om) (j.block c om)<|j.block f om;have xX:=o7 j (by show c<_;omega) c1;have xY:(w1.alloc<|.cells #[KV] 103).cell? (G c 1)=some (.slice ta s.nt tc):=xX;have bc:=O k.t;have bz:=k.base;have HF:Hid (∀g3 b w3,w3.ownsRow B0 103 1 (S9 g3 (s.nt+1) b) (s.nt+1) (kL Bk A s s.nt++[KV])->(w1.alloc<|.cells #[KV] 103).drew.grownBy w3 (Value.ownBlock<|.slice ta s.nt tc)->(Value.ownBlock (.slice ta s.nt tc)=some g3\/g3=(w1.alloc<|.cells #[KV] 103).drew.heap.size)->
   Ie w.heap.size c f (S9 f s.nf nc) (Bk 0) w3/\Ie w.heap.size c f (S9 f s.nf nc) (Bk 0) (w3.setCell (G c 1)<|S9 g3 (s.nt+1) b)/\w3.cell? (G c 1)=some (.slice ta s.nt tc)/\w3.frozen? (G c 1)=false/\c<w3.heap.size/\
   (w3.setCell (G c 1)<|S9 g3 (s.nt+1) b).heap[w.heap.size]?=some (.cells #[Q9 c] 83 (0,0))/\IV (w3.setCell (G c 1)<|S9 g3 (s.nt+1) b) (w.heap.size+1+1)/\(w3.setCell (G c 1)<|S9 g3 (s.nt+1) b).heap[w.heap.size+1+1+1]?=some (.cells #[J (s.nt:Int)] 3 (0,0))/\(w3.setCell (G c 1)<|S9 g3 (s.nt+1) b).heap[C]?=w1.heap[C]?/\
   Bg (ZB Z w.heap.size W.heap.size) (w3.setCell (G c 1) (S9 g3 (s.nt+1) b)) c B0 (S9 f s.nf nc) (S9 g3 (s.nt+1) b) vS (S9 C 1 cu) Bk (AM A s.nt default) {s with nt:=s.nt+1,T:=AM s.T s.nt Ja}/\BB (AD B0 c (S9 f s.nf nc) (.slice ta s.nt tc) vS w) w (AD B0 c (S9 f s.nf nc) (S9 g3 (s.nt+1) b) vS (w3.setCell (G c 1) (S9 g3 (s.nt+1) b))) (w3.setCell (G c 1) (S9 g3 (s.nt+1) b))):=O (by
  intro g3 b w3 h1 h2 h3;have bd:w3.ownsRow B0 103 1 (S9 g3 (s.nt+1) b) (s.nt+1)<|kL Bk A s s.nt++[AX Bk default Ja]:=by rw[vR,<-ar];exact h1
  obtain⟨k1,k2,k3⟩:=k.wH j h2 bd (h3.imp id λe=>by rw[e];exact j.size)<|Rd.empty rfl rfl rfl rfl;have i:∀(q:Nat) (cs:Array Value) (ty:TypeId),w1.heap[q]?=some (Obj.cells cs ty (0,0))->ty≠103->w3.heap[q]?=w1.heap[q]?:=λq cs ty hq ht=>by
   have au:=Ai hq;refine(h2.block q (A0 au j.size) λe=>?_).trans (j.block q au);obtain⟨cur,hb,_⟩:=A5 k.t e.symm;rw[hb]at hq;cases hq;exact ht rfl
  have q0:=i _ _ _ b0 oo;have q2:=i _ _ _ b2 oo;have q3:=i _ _ _ b3 oo;obtain⟨bk,bf,_⟩:=A5 ao rfl;have qu:=i C _ _ bf oo;have qc:=i c _ _ k.BH oo;obtain⟨bm,bg,_⟩:=A5 k.n rfl;have qn:=i f _ _ bg oo;have l:=Ie.keep (w:=w1) M q0 qc qn;have st:∀q,q≠c->(w3.setCell (G c 1) (S9 g3 (s.nt+1) b)).heap[q]?=w3.heap[q]?:=λq hq=>At _ _ _ _ (by exact hq);refine⟨l,⟨(As (a:=(y w 0)) (st w.heap.size om)).trans l.1,k2.cells.1,(As (a:=(G f 0)) (st f (λe=>ai e.symm))).trans l.2.2⟩,(As (a:=(G c 1)) qc).trans c1,(GW (a:=(G c 1)) qc).trans (cf 1),Ai k1,(st _ om).trans (q0.trans b0),(st _ om).trans (q2.trans b2),(st _ om).trans (q3.trans b3),(st _ om).trans qu,k2,(ah.trans L).trans k3⟩)
 clear k L r b0 b2 b3 c0 c2 c3 cf aq aj ak j hE ah;subst ar;go_wp2_with fail;refine Hx (Ie w.heap.size c f (S9 f s.nf nc)<|Bk 0) ?_;refine tz 0 (h:=tz 1 (h:=tz 2 (h:=tz 3 (h:=tz 4 (h:=tz 6 (h:=tz 7 (h:=tz 8 (h:=tz 9 (h:=tz 10 (h:=tz 11 (h:=tz 12 (h:=?_))))))))))));refine tz 13 (h:=tz 14 (h:=?_));refine Aaz (rs:=[5,15]) ou oq ?_;refine OK rfl (λK hK=>?armA) (OK rfl (λK hK=>?armB) Aay)
 case' armA=>
  go_simp;refine hK.out _ _ M λ_=>?_;clear hK K;refine ry 15 λK hK=>?_;go_simp;refine hK.out _ _ u λbh=>?_;clear hK K
 case' armB=>
  go_simp;refine hK.out _ _ u λbh=>?_;clear hK K;refine ry 5 λK hK=>?_;go_simp;refine hK.out _ _ u λ_=>?_;clear hK K
 all_goals
  refine ry 16 λK hK=>?_;refine Re _ rfl (.tmp 21) (.tmp 31) 59 rfl B0 103 i0 .nilIface 1 16 underlying59 a6 a7 a8 bb rfl oo (.slice ta s.nt tc) s.nt (kL Bk A s s.nt) og (World.ownsRow.drew<|NX bc _) (y w1 0) 1 1 [(.iface 156 (.agg #[N9,N9,N9,N9,J 0,J 0,J 0,Q9 (Bk 0)]))] og rfl (Is (w:=(w1.alloc<|.cells #[(.iface 156<|.agg #[N9,N9,N9,N9,J 0,J 0,J 0,Q9 (Bk 0)])] 103).drew)<|DO w1 _) oh oo od om ot _ rfl ?_;intro g3 b w3 v D x bp;obtain⟨l,av,x3,f3,b1,d0,d2,d3,P,m4,E⟩:=z HF g3 b w3 v D x;have HX:=O<|qp d0<|qp d2<|qp d3<|qp P<|qp m4 E;clear v D x d0 d2 d3 P m4 E;refine hK.out _ _ l λad=>?_;clear hK K;refine tz 17 (h:=tz 18 (h:=tz 19 (h:=?_)));refine ry 20 λK hK=>?_;go_simp;refine hK.out _ _ av λ_=>?_;clear hK K;refine FI ?_;clear l av ad x3 f3;obtain⟨w4,aw⟩:=qa<|w3.setCell (G c 1)<|S9 g3 (s.nt+1) b;rw[<-aw]at HX ⊢;clear aw;obtain⟨d0,d2,d3,P,m4,E⟩:=z HX;obtain⟨_,y1,_,_,_⟩:=m4.cells;have y0:w4.cell? (y w 0)=some (Q9 c):=by simp[World.cell?,d0]
  have y3:w4.cell? (G (w.heap.size+1+1+1) 0)=some (J (s.nt:Int)):=by simp[World.cell?,d3]
  obtain⟨w5,F,B⟩:=BL d2<|BD 0;obtain⟨w6,H,ax⟩:=BL d2<|Dx s.nt;have ae:=O F;have af:=O H;clear d0 d2 d3 P m4 E F H;by_cases hf:s.nt=100
  .have d:decide ((100:Int)<(s.nt:Int)+1)=true:=ot;have Q:=O hf;clear hf;go_wp2_with (refine Af rfl rfl _ ae ?_);have R:=O<|B.BH;refine G9 results50 underlying40 R ?_;obtain⟨d0,d2,d3,P,m4,E⟩:=z HX;obtain⟨mm,S⟩:=m4.KQ E o om om d2 B;refine⟨_,_,_,mm,S,λh=>absurd Q h,λ_=>⟨rfl,C,cu,w.heap.size,w.heap.size+1+1+1,rfl,PM (Ae ao λq e=>?_)<|To _,?_,?_⟩⟩
   .cases e;exact(B.other _<|by show C≠w.heap.size+1+1;omega).trans P
   .exact(B.other _ om).trans d0
   exact(B.other _ om).trans d3
  have d:decide ((100:Int)<(s.nt:Int)+1)=false:=ot;have Q:=O hf;clear hf;go_wp2_with (refine Af rfl rfl _ af ?_);have R:=O<|ax.BH;refine G9 results50 underlying40 R ?_;obtain⟨d0,d2,d3,P,m4,E⟩:=z HX;obtain⟨mm,S⟩:=m4.KQ E o om om d2 ax;exact⟨_,_,_,mm,S,λ_=>rfl,λh=>absurd h Q⟩
def Q5(bw a c n:Nat)(W:Y):Prop:=W.cell? (G bw 0)=some (Q9 c)/\W.cell? (G a 0)=some (J (n:Int))
def bF{Bk}n g cp bw d{w}(f:Bg Z w c B0 vN (S9 g s.nt cp) vS vU Bk A s)(hb:w.heap[bw]?=some (.cells #[Q9 c] 83 (0,0)))(b:w.heap[d]?=some (.cells #[J (n)] 3 (0,0)))(hn:n<=s.nt)(h1:s.nt<=200):
  C9 96 #[Q9 bw,Q9 d] w λe w'=>(∃u,e=.returned u)/\Bg Z w' c B0 vN (S9 g n cp) vS vU Bk A {s with nt:=n}/\BB (AD B0 c vN (S9 g s.nt cp) vS w) w (AD B0 c vN (S9 g n cp) vS w') w':=by
 rcases f.lt,f.cells,f.xL rfl hn with⟨v,⟨c0,c1,c2,c3,cf⟩,⟨p,q⟩⟩;have j:s.nt<=cp:=by
  obtain⟨_,⟨k,_⟩|⟨g',cap,cur,k,_,_,h2,_⟩⟩:=f.t
  .cases k
  cases k;exact h2
 have l:bw≠c:=λe=>by rw[e,f.BH]at hb;cases hb
 have m:d≠c:=λe=>by rw[e,f.BH]at b;cases b
 have lb:=Ai hb;have B:=Ai b;have i:Q5 bw d c n w.drew:=⟨by show w.cell? _=_;simp[World.cell?,hb],by show w.cell? _=_;simp[World.cell?,b]⟩;have o:Q5 bw d c n (w.setCell (G c 1)<|S9 g n cp).drew:=⟨(As (a:=G bw 0)<|At _ _ _ _<|by exact l).trans i.1,(As (a:=G d 0)<|At _ _ _ _<|by exact m).trans i.2⟩;rcases cf 1,GO hn j,O (qp p.drew q.Uf) with⟨xf,x,r⟩;clear f p q hb b c0 c2 c3 cf;go_enter func96,ntmps96;go_wp2_with fail;refine Hx (Q5 bw d c n) ?_;refine tz 0 (h:=tz 1 (h:=tz 2 (h:=tz 3 (h:=tz 4 (h:=tz 6 (h:=?_))))));refine ry 5 λK hK=>?_;go_simp;refine hK.out _ _ i λ_=>?_;clear hK K;refine tz 7 (h:=tz 8 (h:=tz 9 (h:=tz 10 (h:=?_))));refine ry 11 λK hK=>?_;go_simp;refine hK.out _ _ o λ_=>?_;clear hK K;refine FI ?_;go_wp2_with fail;go_end0;exact⟨⟨_,rfl⟩,r.1,r.2⟩
def oU{Bk}(b:Bg Z w c B0 vN vT vS vU Bk A s)(t:Lj 96 w c vU n l cu bw m)(hn:n<=s.nt)(v:0<s.nt)(h1:s.nt<=200):
  C9 64 #[Q9 c] w λe w'=>(∃u,e=.returned u)/\∃BT a,Bg Z w' c B0 vN BT vS a Bk A {s with nt:=n}/\BB (AD B0 c vN vT vS w) w (AD B0 c vN BT vS w') w':=by
 obtain⟨x,hu,hb,d⟩:=t;subst x;obtain⟨g,cp,o,B,C,p,q⟩:=b.CA v;subst o;have D:=b.lt;obtain⟨c0,c1,c2,c3,cf⟩:=b.cells;have u0:w.cell? (G l 0)=some (.func (.func 96) #[] #[Q9 bw,Q9 m]):=by rw[Lo hu 0 om];rfl
 rcases (hu.lt l rfl).2,O b,O (qp hb d) with⟨H,E,r⟩;clear b hb d hu p q c0 c2;go_enter func64,ntmps64;go_wp2;go_loopw [2] (λi wr=>(i=J 0/\wr=w)\/(i=J (-1)/\∃BT a,Bg Z wr c B0 vN BT vS a Bk A {s with nt:=n}/\BB (AD B0 c vN (S9 g s.nt cp) vS w) w (AD B0 c vN BT vS wr) wr)) λi _=>(intOf i+1).toNat
 .exact .inl ⟨rfl,rfl⟩
 rcases hrel with⟨rfl,rfl⟩|⟨rfl,BT,a,m1,d1⟩
 .have f:Hid<|∀w1,Bg Z w1 c B0 vN (S9 g n cp) vS (S9 l 1 cu) Bk A {s with nt:=n}/\BB (AD B0 c vN (S9 g s.nt cp) vS wr) wr (AD B0 c vN (S9 g n cp) vS w1) w1->∃BT a,Bg Z w1 c B0 vN BT vS a Bk A {s with nt:=n}/\BB (AD B0 c vN (S9 g s.nt cp) vS wr) wr (AD B0 c vN BT vS w1) w1:=O λw1 h=>⟨_,_,h⟩;go_wp2_with fail;refine(bF n g cp bw m E r.1 r.2 hn h1).mono ?_;rintro e w1 ⟨⟨I,rfl⟩,j⟩;have F:=O<|f w1 j;clear j;go_wp2;go_roundw
  .exact .inr ⟨rfl,F⟩
  simp[intOf]
 have k:=O<|qp m1 d1;clear m1 d1;go_wp2;go_end0;exact⟨⟨_,rfl⟩,BT,a,k.1,k.2⟩
def bE{Bk}n g cp bw d{w}(f:Bg Z w c B0 vN vT (S9 g s.ns cp) vU Bk A s)(hb:w.heap[bw]?=some (.cells #[Q9 c] 83 (0,0)))(b:w.heap[d]?=some (.cells #[J (n)] 3 (0,0)))(hn:n<=s.ns)(h1:s.ns<=200):
  C9 99 #[Q9 bw,Q9 d] w λe w'=>(∃u,e=.returned u)/\Bg Z w' c B0 vN vT (S9 g n cp) vU Bk A {s with ns:=n}/\BB (AD B0 c vN vT (S9 g s.ns cp) w) w (AD B0 c vN vT (S9 g n cp) w') w':=by
 rcases f.lt,f.cells,f.xK rfl hn with⟨t,⟨c0,c2,c1,c3,cf⟩,⟨p,q⟩⟩;have j:s.ns<=cp:=by
  obtain⟨_,⟨k,_⟩|⟨g',cap,cur,k,_,_,h2,_⟩⟩:=f.si
  .cases k
  cases k;exact h2
 have l:bw≠c:=λe=>by rw[e,f.BH]at hb;cases hb
 have m:d≠c:=λe=>by rw[e,f.BH]at b;cases b
 have lb:=Ai hb;have x:=Ai b;have i:Q5 bw d c n w.drew:=⟨by show w.cell? _=_;simp[World.cell?,hb],by show w.cell? _=_;simp[World.cell?,b]⟩;have o:Q5 bw d c n (w.setCell (G c 2)<|S9 g n cp).drew:=⟨(As (a:=G bw 0)<|At _ _ _ _<|by exact l).trans i.1,(As (a:=G d 0)<|At _ _ _ _<|by exact m).trans i.2⟩;rcases cf 2,GO hn j,O (qp p.drew q.Uf) with⟨xf,v,r⟩;clear f p q hb b c0 c2 c3 cf;go_enter func99,ntmps99;go_wp2_with fail;refine Hx (Q5 bw d c n) ?_;refine tz 0 (h:=tz 1 (h:=tz 2 (h:=tz 3 (h:=tz 5 (h:=?_)))));refine ry 4 λK hK=>?_;go_simp;refine hK.out _ _ i λ_=>?_;clear hK K;refine tz 6 (h:=tz 7 (h:=tz 8 (h:=?_)));refine ry 9 λK hK=>?_;go_simp;refine hK.out _ _ o λ_=>?_;clear hK K;refine FI ?_;go_wp2_with fail;go_end0;exact⟨⟨_,rfl⟩,r.1,r.2⟩
def oR{Bk}(b:Bg Z w c B0 vN vT vS vU Bk A s)(t:Lj 99 w c vU n l cu bw m)(hn:n<=s.ns)(v:0<s.ns)(h1:s.ns<=200):
  C9 64 #[Q9 c] w λe w'=>(∃u,e=.returned u)/\∃B1 a,Bg Z w' c B0 vN vT B1 a Bk A {s with ns:=n}/\BB (AD B0 c vN vT vS w) w (AD B0 c vN vT B1 w') w':=by
 obtain⟨x,hu,hb,d⟩:=t;subst x;obtain⟨g,cp,o,B,C,p,q⟩:=b.Ex v;subst o;have D:=b.lt;obtain⟨c0,c2,c1,c3,cf⟩:=b.cells;have u0:w.cell? (G l 0)=some (.func (.func 99) #[] #[Q9 bw,Q9 m]):=by rw[Lo hu 0 om];rfl
 rcases (hu.lt l rfl).2,O b,O (qp hb d) with⟨H,E,r⟩;clear b hb d hu p q c0 c2;go_enter func64,ntmps64;go_wp2;go_loopw [2] (λi wr=>(i=J 0/\wr=w)\/(i=J (-1)/\∃B1 a,Bg Z wr c B0 vN vT B1 a Bk A {s with ns:=n}/\BB (AD B0 c vN vT (S9 g s.ns cp) w) w (AD B0 c vN vT B1 wr) wr)) λi _=>(intOf i+1).toNat
 .exact .inl ⟨rfl,rfl⟩
 rcases hrel with⟨rfl,rfl⟩|⟨rfl,BT,a,m1,d1⟩
 .have f:Hid<|∀w1,Bg Z w1 c B0 vN vT (S9 g n cp) (S9 l 1 cu) Bk A {s with ns:=n}/\BB (AD B0 c vN vT (S9 g s.ns cp) wr) wr (AD B0 c vN vT (S9 g n cp) w1) w1->∃B1 a,Bg Z w1 c B0 vN vT B1 a Bk A {s with ns:=n}/\BB (AD B0 c vN vT (S9 g s.ns cp) wr) wr (AD B0 c vN vT B1 w1) w1:=O λw1 h=>⟨_,_,h⟩;go_wp2_with fail;refine(bE n g cp bw m E r.1 r.2 hn h1).mono ?_;rintro e w1 ⟨⟨I,rfl⟩,j⟩;have F:=O<|f w1 j;clear j;go_wp2;go_roundw
  .exact .inr ⟨rfl,F⟩
  simp[intOf]
 have k:=O<|qp m1 d1;clear m1 d1;go_wp2;go_end0;exact⟨⟨_,rfl⟩,BT,a,k.1,k.2⟩
def cH(a bw b c t:Nat)(d vT:V9)(W:Y):Prop:=W.cell? (G bw 0)=some (Q9 c)/\W.cell? (G b 0)=some (J (t:Int))/\W.cell? (G a 0)=some d/\W.cell? (G c 1)=some vT
def VB{α}f i(a:α):AM (AM f i a) i (f i)=f:=by
 grind [AM]
def bD{Bk}A s t a' x' g cp f bw i{w}(k:Bg Z w c B0 vN (S9 g s.nt cp) vS vU Bk (AM A t a')<|Bm s t x')(hk:w.heap[f]?=some (.cells #[AX Bk (A t) (s.T t)] 103 (0,0)))(n:f≠g)(hb:w.heap[bw]?=some (.cells #[Q9 c] 83 (0,0)))(j:w.heap[i]?=some (.cells #[J (t)] 3 (0,0)))(v:t<s.nt)(h1:s.nt<=200)(C:Rd (OZ Z B0 c vN (S9 g s.nt cp) vS w) w (A t)<|s.T t):
  C9 128 #[Q9 f,Q9 bw,Q9 i] w λe w'=>(∃u,e=.returned u)/\Bg Z w' c B0 vN (S9 g s.nt cp) vS vU Bk A s/\BB (AD B0 c vN (S9 g s.nt cp) vS w) w (AD B0 c vN (S9 g s.nt cp) vS w') w':=by
 rcases k.cells,k.Gs rfl v C,VB A t a' with⟨⟨c0,c1,c2,c3,cf⟩,⟨o,x⟩,D⟩;have E:Bm (Bm s t x') t (s.T t)=s:=by
  show{s with T:=AM (AM s.T t x') t (s.T t)}=s;rw[VB]
 rw[D,E]at o;have b:=k.t;have l:∃u,w.cell? (G g t)=some u:=⟨_,by rw[Lo b t (by show t<s.nt*1;omega),ME (by exact v)]⟩;have F:w.frozen? (G g t)=false:=by obtain⟨cur,hb,_⟩:=A5 b rfl;simp[World.frozen?,hb]
 obtain⟨gt,l⟩:=l;obtain⟨ty,m,p⟩:=MF Bk (A t)<|s.T t;rw[p]at o x hk;have q:c≠g:=λe=>k.Bc k.t oo<|qm e;have nb:bw≠g:=λe=>by obtain⟨cur,hc,_⟩:=A5 b rfl;rw[e,hc]at hb;cases hb
 have H:i≠g:=λe=>by obtain⟨cur,hc,_⟩:=A5 b rfl;rw[e,hc]at j;cases j
 have d:cH f bw i c t (.iface ty m) (S9 g s.nt cp) w.drew:=⟨by show w.cell? _=_;simp[World.cell?,hb],by show w.cell? _=_;simp[World.cell?,j],by show w.cell? _=_;simp[World.cell?,hk],c1⟩;have r:cH f bw i c t (.iface ty m) (S9 g s.nt cp) (w.setCell (G g t)<|.iface ty m).drew:=⟨(As (a:=G bw 0)<|At _ _ _ _<|by exact nb).trans d.1,(As (a:=G i 0)<|At _ _ _ _<|by exact H).trans d.2.1,(As (a:=G f 0)<|At _ _ _ _<|by exact n).trans d.2.2.1,(As (a:=G c 1)<|At _ _ _ _<|by exact q).trans d.2.2.2⟩;have B:=O<|qp o.drew x.Uf;go_enter func128,ntmps128;go_wp2_with fail;refine Hx (cH f bw i c t (.iface ty m)<|S9 g s.nt cp) ?_;refine tz 0 (h:=tz 1 (h:=tz 2 (h:=tz 3 (h:=tz 4 (h:=tz 5 (h:=tz 6 (h:=tz 7 (h:=?_))))))));refine ry 8 λK hK=>?_;go_simp;refine hK.out _ _ r λ_=>?_;clear hK K;refine FI ?_;go_wp2_with fail;go_end0;exact⟨⟨_,rfl⟩,B.1,B.2⟩
def oQ{Bk}A s{t}a' x'{k cu d bw m}{w}(l:Bg Z w c B0 vN vT vS vU Bk (AM A t a')<|Bm s t x')(x:Li w c vU t (AX Bk (A t)<|s.T t) k cu d bw m)(n:vT.ownBlock≠some d)(v:t<s.nt)(h1:s.nt<=200)(B:Rd (OZ Z B0 c vN vT vS w) w (A t)<|s.T t):
  C9 64 #[Q9 c] w λe w'=>(∃u,e=.returned u)/\∃BT a,Bg Z w' c B0 vN BT vS a Bk A s/\BB (AD B0 c vN vT vS w) w (AD B0 c vN BT vS w') w':=by
 obtain⟨C,hu,hk,hb,o⟩:=x;subst C;obtain⟨g,cp,b,D,E,F,H⟩:=l.CA v;have b:vT=S9 g s.nt cp:=b;subst b;have p:d≠g:=λe=>n<|qm e;have I:=l.lt;obtain⟨c0,c1,c2,c3,cf⟩:=l.cells;have u0:w.cell? (G k 0)=some (.func (.func 128) #[] #[Q9 d,Q9 bw,Q9 m]):=by rw[Lo hu 0 om];rfl
 have K:=(hu.lt k rfl).2;have q:=O<|qp hk<|qp hb o;go_enter func64,ntmps64;go_wp2;go_loopw [2] (λi wr=>(i=J 0/\wr=w)\/(i=J (-1)/\∃BT a,Bg Z wr c B0 vN BT vS a Bk A s/\BB (AD B0 c vN (S9 g s.nt cp) vS w) w (AD B0 c vN BT vS wr) wr)) λi _=>(intOf i+1).toNat
 .exact .inl ⟨rfl,rfl⟩
 rcases hrel with⟨rfl,rfl⟩|⟨rfl,BT,a,m1,d1⟩
 .have f:Hid<|∀w1,Bg Z w1 c B0 vN (S9 g s.nt cp) vS (S9 k 1 cu) Bk A s/\BB (AD B0 c vN (S9 g s.nt cp) vS wr) wr (AD B0 c vN (S9 g s.nt cp) vS w1) w1->∃BT a,Bg Z w1 c B0 vN BT vS a Bk A s/\BB (AD B0 c vN (S9 g s.nt cp) vS wr) wr (AD B0 c vN BT vS w1) w1:=O λw1 h=>⟨_,_,h⟩;go_wp2_with fail;refine(bD A s t a' x' g cp d bw m l q.1 p q.2.1 q.2.2 v h1 B).mono ?_;rintro e w1 ⟨⟨L,rfl⟩,r⟩;go_wp2;go_roundw
  .exact .inr ⟨rfl,z<|O<|f w1 r⟩
  simp[intOf]
 have j:=O<|qp m1 d1;go_wp2;go_end0;exact⟨⟨_,rfl⟩,BT,a,j.1,j.2⟩
def Kq(bw ab c:Nat)(k:ByteArray)(W:Y):Prop:=W.cell? (G bw 0)=some (Q9 c)/\W.cell? (G ab 7)=some (.string k)
def Kq.keep{k}(h:Kq bw ab c k w)(h1:w'.heap[bw]?=w.heap[bw]?)(h2:w'.heap[ab]?=w.heap[ab]?):Kq bw ab c k w':=
 ⟨(As (a:=G bw 0) h1).trans h.1,(As (a:=G ab 7) h2).trans h.2⟩
def TE{Bk}a{w}(M:Bg Z w c B0 vN vT vS (N9) Bk A s)(az:s.ns<=50):
  C9 56 #[Q9 c,I5 a] w λe w'=>(∃B1 P,Bg Z w' c B0 vN vT B1 P Bk A {s with ns:=s.ns+1,S:=AM s.S s.ns ⟨a.k.str,-1,0,0,0⟩}/\BB (AD B0 c vN vT vS w) w (AD B0 c vN vT B1 w') w'/\
   (s.ns≠50->e=.returned (.tuple #[H9 (Dx s.ns),CP 0]))/\(s.ns=50->e=.returned (.tuple #[H9 (BD 0),CP 5])/\∃u cu bw bn,Lj 99 w' c P s.ns u cu bw bn)):=by
 obtain⟨sa,sc,rfl⟩:=Au M.si;obtain⟨i0,aj,ak,ao,aq⟩:=Ok Jo;obtain⟨W,hW,Q,R,b0,o1,o2,b3⟩:=kT w (.cells #[Q9 c] 83) (.cells (Bn a) 34) (.cells bY 40)<|.cells #[J (s.ns:Int)] 3;have b1:Qs W (w.heap.size+1) a:=o1;have b2:IV W<|w.heap.size+1+1:=o2;rcases M.enter Q,M.lt,M.base,M.cells,O<|qp b0<|qp b1<|qp b2 b3,O R with⟨⟨hE,T⟩,aM,j,⟨c0,c1,c2,c3,cf⟩,U,HZ⟩;have a6:c<w.heap.size+1:=om;have a7:c<w.heap.size+1+1:=om;clear M b0 b1 b2 b3 c0 c1 c3 cf Q R;go_enter func56,ntmps56;go_wp2_with fail;rw[<-hW];clear hW c2;refine(G7 _ c B0 _ _ _ Bk A s 99 #[Q9 w.heap.size,Q9 (w.heap.size+1+1+1)] W hE).mono ?_;rintro e w1 ⟨⟨uu,rfl⟩,u,cu,a8,V,i,D,l⟩;rcases z HZ,D.size,z U with⟨zW,aw,⟨b0,b1,b2,b3⟩⟩;have b0:=(l _ om om).trans b0;have b1:Qs w1 (w.heap.size+1) a:=(l _ om om).trans b1;have b2:IV w1<|w.heap.size+1+1:=(l _ om om).trans b2;have b3:=(l _ om om).trans b3;obtain⟨c0,c1,c2,c3,cf⟩:=i.cells;have g:B9 w1<|(w1.alloc<|.cells #[.string a.k.str,J (-1),J 0,J 0,J 0] 57).drew:=(n9).drew;have E:Kq w.heap.size (w.heap.size+1) c a.k.str w1.drew:=⟨by show w1.cell? _=_;simp[World.cell?,b0],by show w1.cell? _=_;exact b1.all.2.2.2.2.2.2.2.1⟩;have m:=Kq.keep (w:=w1) E (g.block w.heap.size om)<|g.block (w.heap.size+1) om;rcases o7 g (by show c<_;omega) c2,O i.si,i.base with⟨xX,ar,bb⟩;have HF:Hid (∀g3 b w3,w3.ownsRow B0 57 5 (S9 g3 (s.ns+1) b) (s.ns+1) (JI s.S s.ns++Hr ⟨a.k.str,-1,0,0,0⟩)->(w1.alloc<|.cells #[.string a.k.str,J (-1),J 0,J 0,J 0] 57).drew.grownBy w3 (Value.ownBlock<|.slice sa s.ns sc)->(Value.ownBlock (.slice sa s.ns sc)=some g3\/g3=(w1.alloc<|.cells #[.string a.k.str,J (-1),J 0,J 0,J 0] 57).drew.heap.size)->
   Kq w.heap.size (w.heap.size+1) c a.k.str w3/\Kq w.heap.size (w.heap.size+1) c a.k.str (w3.setCell (G c 2)<|S9 g3 (s.ns+1) b)/\w3.cell? (G c 2)=some (.slice sa s.ns sc)/\w3.frozen? (G c 2)=false/\c<w3.heap.size/\
   (w3.setCell (G c 2)<|S9 g3 (s.ns+1) b).heap[w.heap.size]?=some (.cells #[Q9 c] 83 (0,0))/\IV (w3.setCell (G c 2)<|S9 g3 (s.ns+1) b) (w.heap.size+1+1)/\(w3.setCell (G c 2)<|S9 g3 (s.ns+1) b).heap[w.heap.size+1+1+1]?=some (.cells #[J (s.ns:Int)] 3 (0,0))/\(w3.setCell (G c 2)<|S9 g3 (s.ns+1) b).heap[u]?=w1.heap[u]?/\
   Bg (ZB Z w.heap.size W.heap.size) (w3.setCell (G c 2) (S9 g3 (s.ns+1) b)) c B0 vN vT (S9 g3 (s.ns+1) b) (S9 u 1 cu) Bk A {s with ns:=s.ns+1,S:=AM s.S s.ns ⟨a.k.str,-1,0,0,0⟩}/\BB (AD B0 c vN vT (.slice sa s.ns sc) w) w (AD B0 c vN vT (S9 g3 (s.ns+1) b) (w3.setCell (G c 2) (S9 g3 (s.ns+1) b))) (w3.setCell (G c 2) (S9 g3 (s.ns+1) b))):=O (by
  intro g3 b w3 h1 h2 h3;obtain⟨k1,k2,k3⟩:=i.wG g h2 h1<|h3.imp id (λe=>by rw[e];exact g.size);have f:∀(q:Nat) (cs:Array Value) (ty:TypeId),w1.heap[q]?=some (Obj.cells cs ty (0,0))->ty≠57->w3.heap[q]?=w1.heap[q]?:=λq cs ty hq ht=>by
   have X:=Ai hq;refine(h2.block q (A0 X g.size) λe=>?_).trans (g.block q X);obtain⟨cur,hb,_⟩:=A5 i.si e.symm;rw[hb]at hq;cases hq;exact ht rfl
  have q0:=f _ _ _ b0 oo;have q1:=f _ _ _ b1 oo;have q2:=f _ _ _ b2 oo;have q3:=f _ _ _ b3 oo;obtain⟨ax,au,_⟩:=A5 V rfl;have qu:=f u _ _ au oo;have qc:=f c _ _ i.BH oo;have n:=Kq.keep (w:=w1) E q0 q1;have st:∀q,q≠c->(w3.setCell (G c 2) (S9 g3 (s.ns+1) b)).heap[q]?=w3.heap[q]?:=λq hq=>At _ _ _ _ (by exact hq);refine⟨n,Kq.keep n (st w.heap.size om) (st (w.heap.size+1) om),(As (a:=(G c 2)) qc).trans c2,(GW (a:=(G c 2)) qc).trans (cf 2),Ai k1,(st _ om).trans (q0.trans b0),(st _ om).trans (q2.trans b2),(st _ om).trans (q3.trans b3),(st _ om).trans qu,k2,(T.trans D).trans k3⟩)
 clear i D l b0 b1 b2 b3 c0 c1 c3 cf U g hE T;go_wp2_with fail;refine Hx (Kq w.heap.size (w.heap.size+1) c a.k.str) ?_;refine tz 0 (h:=tz 1 (h:=tz 2 (h:=tz 3 (h:=tz 5 (h:=tz 6 (h:=tz 7 (h:=tz 8 (h:=?_))))))));refine Aaz (rs:=[4,9]) ou oq ?_;refine OK rfl (λK hK=>?armA) (OK rfl (λK hK=>?armB) Aay)
 case' armA=>
  go_simp;refine hK.out _ _ E λ_=>?_;clear hK K;refine ry 9 λK hK=>?_;go_simp;refine hK.out _ _ m λav=>?_;clear hK K
 case' armB=>
  go_simp;refine hK.out _ _ m λav=>?_;clear hK K;refine ry 4 λK hK=>?_;go_simp;refine hK.out _ _ m λ_=>?_;clear hK K
 all_goals
  refine ry 10 λK hK=>?_;refine Re _ rfl (.tmp 19) (.tmp 24) 27 rfl B0 57 i0 (.agg #[E9,J 0,J 0,J 0,J 0]) 5 48 underlying27 aj ak ao aq rfl oo (.slice sa s.ns sc) s.ns (JI s.S s.ns) og (World.ownsRow.drew<|NX ar _) (y w1 0) 1 1 (Hr ⟨a.k.str,-1,0,0,0⟩) og rfl (Is (w:=(w1.alloc<|.cells #[.string a.k.str,J (-1),J 0,J 0,J 0] 57).drew)<|DO w1 _) (by simp[Hr,Value.oneCell']) oo od om ot _ rfl ?_;intro g3 b w3 o v r ay;obtain⟨n,ag,x3,f3,bc,d0,d2,d3,F,m4,x⟩:=z HF g3 b w3 o v r;have HX:=O<|qp d0<|qp d2<|qp d3<|qp F<|qp m4 x;clear o v r d0 d2 d3 F m4 x;refine hK.out _ _ n λad=>?_;clear hK K;refine tz 11 (h:=tz 12 (h:=?_));refine ry 13 λK hK=>?_;go_simp;refine hK.out _ _ ag λ_=>?_;clear hK K;refine FI ?_;clear n ag ad x3 f3;obtain⟨w4,ah⟩:=qa<|w3.setCell (G c 2)<|S9 g3 (s.ns+1) b;rw[<-ah]at HX ⊢;clear ah;obtain⟨d0,d2,d3,F,m4,x⟩:=z HX;obtain⟨_,_,y1,_,_⟩:=m4.cells;have y0:w4.cell? (y w 0)=some (Q9 c):=by simp[World.cell?,d0]
  have y3:w4.cell? (G (w.heap.size+1+1+1) 0)=some (J (s.ns:Int)):=by simp[World.cell?,d3]
  obtain⟨w5,B,t⟩:=BL d2<|BD 0;obtain⟨w6,C,ai⟩:=BL d2<|Dx s.ns;have ae:=O B;have af:=O C;clear d0 d2 d3 F m4 x B C;by_cases hf:s.ns=50
  .have d:decide ((50:Int)<(s.ns:Int)+1)=true:=ot;have H:=O hf;clear hf;go_wp2_with (refine Af rfl rfl _ ae ?_);have I:=O<|t.BH;refine G9 results56 underlying40 I ?_;obtain⟨d0,d2,d3,F,m4,x⟩:=z HX;obtain⟨mm,L⟩:=m4.KQ x j om om d2 t;refine⟨_,_,mm,L,λh=>absurd H h,λ_=>⟨rfl,u,cu,w.heap.size,w.heap.size+1+1+1,rfl,PM (Ae V λq e=>?_)<|To _,?_,?_⟩⟩
   .cases e;exact(t.other _<|by show u≠w.heap.size+1+1;omega).trans F
   .exact(t.other _ om).trans d0
   exact(t.other _ om).trans d3
  have d:decide ((50:Int)<(s.ns:Int)+1)=false:=ot;have H:=O hf;clear hf;go_wp2_with (refine Af rfl rfl _ af ?_);have I:=O<|ai.BH;refine G9 results56 underlying40 I ?_;obtain⟨d0,d2,d3,F,m4,x⟩:=z HX;obtain⟨mm,L⟩:=m4.KQ x j om om d2 ai;exact⟨_,_,mm,L,λ_=>rfl,λh=>absurd h H⟩
structure OE (s s':AE):Prop where
 nf:s.nf=s'.nf
 F:s.F=s'.F
 nt:s.nt=s'.nt
 ns:s.ns=s'.ns
 T:∀i,i<s.nt->s.T i=s'.T i
 S:∀i,i<s.ns->s.S i=s'.S i
def OE.refl s:OE s s:=⟨rfl,rfl,rfl,rfl,λ_ _=>rfl,λ_ _=>rfl⟩
section
variable {Z:Nat->Prop} {w w':Y} {c B0:Nat} {vN vT vS vU:V9} {Bk:Nat->Nat} {A:Nat->Ad} {s s':AE}
theorem Bg.same(h:Bg Z w c B0 vN vT vS vU Bk A s)(e:OE s s'):Bg Z w c B0 vN vT vS vU Bk A s':=by
 obtain⟨nf,F,nt,T,ns,S⟩:=s;obtain⟨b,F',d,T',f,S'⟩:=s';obtain⟨e1,e2,e3,a,g,j⟩:=e;simp only at e1 e2 e3 a g j;subst e1 e2 e3 a;refine⟨h.BH,h.ge,h.n,h.nd,?_,?_,h.u,h.z,λi hi=>?_⟩
 .have h1:=h.t;grind [kL,nf,Pn,AX]
 .have h1:=h.si;grind [JI,aO]
 have h1:=h.rd i hi;grind [Rd]
def BB.oz{b}(a:BB (AD B0 c vN vT vS w) w (AD B0 c b BT B1 w') w'):BB (OZ Z B0 c vN vT vS w) w (OZ Z B0 c b BT B1 w') w':=
 ⟨a.os,a.tape,a.output,a.size,λk h1 h2=>a.block k h1 λe=>h2<|.inl e,λk e=>e.elim (λe=>(a.own k e).imp .inl id) λe=>.inl<|.inr e⟩
def Qv(Z:Nat->Prop)(w:Y)(c B0:Nat)(vN vT vS vU:V9)(a:AE):Prop:=
 ∃Bk A s1,Bg Z w c B0 vN vT vS vU Bk A s1/\
  ((vU=N9/\OE s1 a)\/
   (∃n b cu bw d,Lj 96 w c vU n b cu bw d/\n<=s1.nt/\0<s1.nt/\s1.nt<=200/\OE {s1 with nt:=n} a)\/
   (∃n b cu bw d,Lj 99 w c vU n b cu bw d/\n<=s1.ns/\0<s1.ns/\s1.ns<=200/\OE {s1 with ns:=n} a)\/
   (∃t e a' x' b cu f bw d,A=AM e t a'/\s1=Bm a t x'/\Li w c vU t (AX Bk (e t) (a.T t)) b cu f bw d/\vT.ownBlock≠some f/\t<a.nt/\a.nt<=200/\Rd (OZ Z B0 c vN vT vS w) w (e t) (a.T t)))
def Qv.below{e}(h:Qv Z w c B0 vN vT vS vU e)(hb:B9 w w'):Qv Z w' c B0 vN vT vS vU e/\BB (AD B0 c vN vT vS w) w (AD B0 c vN vT vS w') w':=by
 obtain⟨Bk,A,s1,f,hu⟩:=h;obtain⟨m1,d1⟩:=f.below hb;refine⟨⟨Bk,A,s1,m1,?_⟩,d1⟩;rcases hu with h|⟨n,a,cu,bw,d,h,h2⟩|⟨n,a,cu,bw,d,h,h2⟩|⟨t,g,a',x',a,cu,i,bw,d,e1,e2,h,h3,h4,h5,j⟩
 .exact .inl h
 .exact .inr (.inl ⟨n,a,cu,bw,d,h.keep (hb.block _ (h.u.lt a rfl).2) (hb.block _<|Ai h.b)<|hb.block _<|Ai h.n,h2⟩)
 .exact .inr (.inr<|.inl ⟨n,a,cu,bw,d,h.keep (hb.block _ (h.u.lt a rfl).2) (hb.block _<|Ai h.b)<|hb.block _<|Ai h.n,h2⟩)
 exact .inr<|.inr<|.inr ⟨t,g,a',x',a,cu,i,bw,d,e1,e2,h.keep (hb.block _ (h.u.lt a rfl).2) (hb.block _<|Ai h.k) (hb.block _<|Ai h.b)<|hb.block _<|Ai h.n,h3,h4,h5,j.step d1.oz⟩
def Qv.KQ{d}{g j}{r}{s}{x}(h:Qv (ZB Z w.heap.size s) w1 c B0 g BT B1 j r)(v:BB (AD B0 c vN vT vS w) w (AD B0 c g BT B1 w1) w1)(l:B0<=w.heap.size)(i:w.heap.size<=rb)(hz:rb<s)(p:IV w1 rb)(a:Bu w1 d rb (Mx x).toArray 40):
  Qv Z d c B0 g BT B1 j r/\BB (AD B0 c vN vT vS w) w (AD B0 c g BT B1 d) d:=by
 obtain⟨Bk,A,s1,q,hu⟩:=h;obtain⟨f1,f2⟩:=q.KQ v l i hz p a;have B:=(q.box (.inr ⟨i,hz⟩) (GO l i) (q.EY p oo oo oo oo oo) ⟨a.os,a.tape,a.output,a.size⟩ a.other a.BH oo).2;have f:∀(b:Nat) (cs:Array Value) (ty:TypeId),w1.heap[b]?=some (.cells cs ty (0,0))->ty≠40->d.heap[b]?=w1.heap[b]?:=λb cs ty hb C=>a.other b (λe=>by
  rw[e,p]at hb;cases hb;exact C rfl)
 refine⟨⟨Bk,A,s1,f1,?_⟩,f2⟩;rcases hu with h|⟨n,m,cu,bw,o,h,h2⟩|⟨n,m,cu,bw,o,h,h2⟩|⟨t,D,a',x',m,cu,E,bw,o,e1,e2,h,h3,h4,h5,F⟩
 .exact .inl h
 .obtain⟨cur,hc,_⟩:=A5 h.u rfl;exact .inr<|.inl ⟨n,m,cu,bw,o,h.keep (f _ _ _ hc oo) (f _ _ _ h.b oo)<|f _ _ _ h.n oo,h2⟩
 .obtain⟨cur,hc,_⟩:=A5 h.u rfl;exact .inr<|.inr<|.inl ⟨n,m,cu,bw,o,h.keep (f _ _ _ hc oo) (f _ _ _ h.b oo)<|f _ _ _ h.n oo,h2⟩
 obtain⟨cur,hc,_⟩:=A5 h.u rfl;refine .inr<|.inr<|.inr ⟨t,D,a',x',m,cu,E,bw,o,e1,e2,h.keep (f _ _ _ hc oo) (f _ _ _ h.k oo) (f _ _ _ h.b oo)<|f _ _ _ h.n oo,h3,h4,h5,λw3 hs hk=>?_⟩;refine F w3 (by rw[<-a.size];exact hs) λk k1 k2=>(hk k (by rw[a.size];exact k1) λe=>k2<|e.imp (B k) .inl).trans<|a.other k λe=>k2<|.inr<|.inr<|by rw[e];exact⟨i,hz⟩
end
def oP c vN vT vS w(hb:w.heap[c]?=some (.cells #[vN,vT,vS,N9] 117 (0,0))):
  C9 64 #[Q9 c] w λe w'=>(∃u,e=.returned u)/\w'=w:=by
 have c3:w.cell? (G c 3)=some (N9):=by simp[World.cell?,hb]
 have a:=Ai hb;clear hb;go_enter func64,ntmps64;go_wp2;go_loopw [2] (λi wr=>i=J (-1)/\wr=w) λi _=>0
 .exact⟨rfl,rfl⟩
 obtain⟨rfl,rfl⟩:=hrel;go_wp2;go_end0;exact⟨⟨_,rfl⟩,rfl⟩
def bK{d}(h:Qv Z w c B0 vN vT vS vU d):
  C9 64 #[Q9 c] w λe w'=>(∃u,e=.returned u)/\∃BT B1 a f A',Bg Z w' c B0 vN BT B1 a f A' d/\BB (AD B0 c vN vT vS w) w (AD B0 c vN BT B1 w') w':=by
 obtain⟨Bk,A,s1,b,hu⟩:=h;rcases hu with⟨rfl,h⟩|⟨n,g,cu,bw,i,h,h2,h3,h4,h5⟩|⟨n,g,cu,bw,i,h,h2,h3,h4,h5⟩|⟨t,j,a',x',g,cu,l,bw,i,rfl,rfl,h,h3,h4,h5,k⟩
 .refine(oP c vN vT vS w b.BH).mono ?_;rintro e w' ⟨hu,rfl⟩;exact⟨hu,_,_,_,_,_,b.same h,BB.refl _ _⟩
 .refine(oU b h h2 h3 h4).mono ?_;rintro e w' ⟨hu,BT,a,m1,d1⟩;exact⟨hu,_,_,_,_,_,m1.same h5,d1⟩
 .refine(oR b h h2 h3 h4).mono ?_;rintro e w' ⟨hu,B1,a,m1,d1⟩;exact⟨hu,_,_,_,_,_,m1.same h5,d1⟩
 refine(oQ j d a' x' b h h3 h4 h5 k).mono ?_;rintro e w' ⟨hu,BT,a,m1,d1⟩;exact⟨hu,_,_,_,_,_,m1,d1⟩
section
def XV(Z:Nat->Prop)(c B0:Nat)(vN vT vS:V9)(s:AE)(t:Nat)(k v:Vl)(w:Y)(e:Ending)(w':Y):Prop:=
 ∃a BT B1 b,e=.returned (CP<|Ct s t k v)/\BB (AD B0 c vN vT vS w) w (AD B0 c a BT B1 w') w'/\
  ((Ct s t k v=0/\∃d A',Bg Z w' c B0 a BT B1 b d A'<|Ci s t k v)\/(Ct s t k v≠0/\Qv Z w' c B0 a BT B1 b (Ci s t k v)))
structure pB (w W:Y) (k v:Vl):Prop where
 k:W.heap[w.heap.size]?=some (.cells (qi k) 32 (0,0))
 v:W.heap[w.heap.size+1]?=some (.cells (qi v) 32 (0,0))
def pB.below(h:pB w W k v)(hb:B9 W W'):pB w W' k v:=⟨(hb.block _<|Ai h.k).trans h.k,(hb.block _<|Ai h.v).trans h.v⟩
def pB.cells(h:pB w W k v):(W.cell? (y w 0)=some (J k.kind)/\W.cell? (y w 1)=some (J k.num)/\W.cell? (y w 2)=some (F9 k.Ah)/\W.cell? (y w 3)=some (.string k.str)/\W.cell? (y w 4)=some (J k.ref))/\(W.cell? (Y9 w 0)=some (J v.kind)/\W.cell? (Y9 w 1)=some (J v.num)/\W.cell? (Y9 w 2)=some (F9 v.Ah)/\W.cell? (Y9 w 3)=some (.string v.str)/\W.cell? (Y9 w 4)=some (J v.ref)):=by
 obtain⟨h1,h2⟩:=h;simp[World.cell?,h1,h2]
def zA w k v:∃W,W=(w.alloc<|.cells (qi k) 32).alloc (.cells (qi v) 32)/\B9 w W/\pB w W k v/\W.heap.size=w.heap.size+1+1:=by
 refine⟨_,rfl,(n9).alloc oq _,⟨(E1 _ _ _ oq).trans<|DO _ _,?_⟩,oq⟩;have h1:=DO (w.alloc<|.cells (qi k) 32)<|.cells (qi v) 32;simpa using h1
theorem Yf(v:Vl)w:(Instr.field 32 (V v.kind v.num v.Ah v.str v.ref) 0).run prog w=.ok (J v.kind) w:=ou
attribute [local go_sem] Yf
def kK{t}(h:v.kind=0/\(Cb s.F (s.T t) k).kind=0):Ct s t k v=0/\Ci s t k v=s:=by
 grind [Cb,Ct,Ci,BX]
def kJ{t}(h:¬(v.kind=0/\(Cb s.F (s.T t) k).kind=0))(a:(s.T t).shape=-1):(D6 (s.T t).d k v=true->Ct s t k v=5/\Ci s t k v=s)/\(D6 (s.T t).d k v=false->Ct s t k v=0/\Ci s t k v=Bm s t (DT (s.T t) (s.T t).d k v)):=by
 grind [Cb,D6,Ct,Ci,Bm,DT,BX]
section
variable {Z:Nat->Prop} {w w1 w2:Y} {c B0:Nat} {vN vT vS vU:V9} {Bk:Nat->Nat} {A:Nat->Ad} {s:AE} {t:Nat} {k v:Vl} {e:Ending}
def wX.un(j:Bg Z w c B0 vN vT vS vU Bk A s)(hb:B9 w w1)(f:¬(v.kind=0/\(Cb s.F (s.T t) k).kind=0))(n:(s.T t).shape=-1)(l:t<s.nt)(o:s.nt<=100)(h:wX Z c B0 vN vT vS Bk A s t (s.T t).d k v w1 e w2):XV Z c B0 vN vT vS s t k v w e w2:=by
 obtain⟨b,a,a',m,g,p,cu,q,bw,r,u,i⟩:=h;obtain⟨m1,d1⟩:=j.below hb;obtain⟨x,B⟩:=kJ f n;cases hf:D6 (s.T t).d k v
 .obtain⟨e1,e2⟩:=B hf;rw[hf]at b;exact⟨vN,vT,vS,a,by rw[b,e1];rfl,d1.trans g,.inl ⟨e1,Bk,AM A t a',by rw[e2];exact m⟩⟩
 obtain⟨e1,e2⟩:=x hf;rw[hf]at b;refine⟨vN,vT,vS,a,by rw[b,e1];rfl,d1.trans g,.inr ⟨by rw[e1];decide,?_⟩⟩;rw[e2];exact⟨Bk,AM A t a',_,m,.inr<|.inr<|.inr ⟨t,A,a',_,p,cu,q,bw,r,rfl,rfl,u,i,l,om,((j.rd t l).step d1.oz).step g.oz⟩⟩
end
def kN{Bk}t{k v}{w}(l:Bg Z w c B0 vN vT vS (N9) Bk A s)(B:t<s.nt)(C:s.nt<=100)(M:BZ w)(I:(s.T t).shape=-1)(L:Inv Ky hN (s.T t).d)(D:M9 (s.T t).d)(hm:(s.T t).d.m<=4000000)(hk:Ky k)(hv:v.ok=true)(P:M5 k v)(Q:5<=B0):
  C9 97 #[Q9 c,J t,Ga k,Ga v] w λe w'=>XV Z c B0 vN vT vS s t k v w e w':=by
 obtain⟨g,cp,R,S,aj,r,U⟩:=l.CA B;subst R;have E:AX Bk (A t) (s.T t)=.iface 153 (Le (A t)<|s.T t):=DD I;rw[E]at r;obtain⟨W,hW,i,H,V⟩:=zA w k v;have X:=l.lt;have hS:=L.small om;obtain⟨n,p⟩:=qa<|Cb s.F (s.T t) k;have q:Hid<|∀w1,B9 W w1->C9 228 #[Le (A t) (s.T t),Ga k] w1 (R9 (Ga n) w1):=O (λw1 h1=>by
  have a:=i.trans (h1.mono om);rw[p];exact I2 (A t) (s.T t) s.F (Bb _ _ M a) I L D hS hk (((l.rd t B).now.2).below a))
 have ad:Hid<|∀w1,B9 w w1->¬(v.kind=0/\n.kind=0)->C9 121 #[Q9 c,J (t:Int),Dv (A t).la (A t).lc (A t).ia (A t).ic (A t).xa (A t).xc (s.T t).d,Ga k,Ga v] w1 λe w'=>XV Z c B0 vN (S9 g s.nt cp) vS s t k v w e w':=O (λw1 h1 b=>by
  refine(JQ t (A t).lc (A t).ic (A t).xc (l.below h1).1 B C (Bb _ _ M h1) (((l.rd t B).now.2).below h1) L hm hk hv P Q).mono ?_;intro e w2 h2;exact wX.un l h1 (by rw[<-p];exact b) I B C h2)
 have ae:Hid<|∀w1,B9 w w1->v.kind=0/\n.kind=0->XV Z c B0 vN (S9 g s.nt cp) vS s t k v w (.returned<|CP 0) w1:=O (λw1 h1 h2=>by
  obtain⟨e1,e2⟩:=kK (by rw[<-p];exact h2);obtain⟨m1,d1⟩:=l.below h1;exact⟨_,_,_,_,by rw[e1],d1,.inl ⟨e1,Bk,A,by rw[e2];exact m1⟩⟩)
 rcases (i.cell X).trans l.cells.2.1,(i.cell S).trans r,H.cells with⟨x1,xg,⟨⟨k0,k1,k2,k3,k4⟩,⟨v0,v1,v2,v3,v4⟩⟩⟩;have lc:c<W.heap.size:=om;have lg:g<W.heap.size:=om;have l0:w.heap.size<W.heap.size:=om;have l1:w.heap.size+1<W.heap.size:=om;have ak:=zE<|Le (A t)<|s.T t;have ao:=zZ<|Le (A t)<|s.T t;clear l M L D hm hk hv hS p r U E I V;go_enter func97,ntmps97;go_upto_region 1 with fail
 rw[<-hW];clear hW;by_cases b:v.kind=0/\n.kind=0
 case pos=>
  have d1:(v.kind==0)=true:=by simp[b.1]
  have d2:(n.kind==0)=true:=by simp[b.2]
  have HN:=O b;clear b;refine qr W ?_;(iterate 12 refine N (h:=?_));refine N (h:=?_);refine GS λK hK=>?_;go_simp;apply Exists.intro;refine qp (λw' f=>?_)<|hK _ ?_
  .go_invoke
   (try go_simp)
   refine(q _ f).mono ?_;rintro e af ⟨rfl,hb⟩;exact⟨rfl,o9 f hb⟩
  clear hK K;refine N (h:=N (h:=N (h:=?_)));refine Hz ?_;intro w1 a;have HE:=z ae w1 (i.trans<|a.mono om) HN;clear a;go_wp2;refine Fs (v:=CP 0) (by simp[results,results97,go_sem,CP]) rfl HE
 have u:(v.kind=0/\n.kind≠0)\/v.kind≠0:=by
  by_cases h:v.kind=0
  .exact .inl ⟨h,λe=>b ⟨h,e⟩⟩
  exact .inr h
 have HN:=O b;clear b;rcases u with⟨h1,h2⟩|h1
 case' inl=>
  have d1:(v.kind==0)=true:=by simp[h1]
  have d2:(n.kind==0)=false:=by simp[h2]
  clear h1 h2;refine qr W ?_;(iterate 12 refine N (h:=?_));refine N (h:=?_);refine GS λK hK=>?_;go_simp;apply Exists.intro;refine qp (λw' f=>?_)<|hK _ ?_
  .go_invoke
   (try go_simp)
   refine(q _ f).mono ?_;rintro e af ⟨rfl,hb⟩;exact⟨rfl,o9 f hb⟩
  clear hK K;refine N (h:=N (h:=N (h:=?_)));refine Hz ?_;intro w1 a
 case' inr=>
  have d1:(v.kind==0)=false:=by simp[h1]
  clear h1;go_quiet (fail);obtain⟨w1,x⟩:=qa<|W.drewN nq;have a:B9 W w1:=by rw[x];exact⟨rfl,rfl,rfl,Be _,λ_ _=>rfl⟩
  rw[<-x];clear x
 all_goals
  rcases (a.cell lc).trans x1,(a.cell lg).trans xg,(H.below a).cells,a.size with⟨x1,xg,⟨⟨k0,k1,k2,k3,k4⟩,⟨v0,v1,v2,v3,v4⟩⟩,z1⟩;have aq:w.heap.size<w1.heap.size:=om;have ar:w.heap.size+1<w1.heap.size:=om;have ag:Hid<|∀o,B9 w<|w1.alloc o:=O λo=>(i.trans<|a.mono om).alloc om _;clear a;go_wp2_with fail;refine(ad _ (ag _) HN).mono ?_;intro e w3 hP;obtain⟨ah,BT,B1,ai,he,j⟩:=hP;have HP:Hid<|XV Z c B0 vN (S9 g s.nt cp) vS s t k v w (.returned<|CP<|Ct s t k v) w3:=O ⟨ah,BT,B1,ai,rfl,j⟩;subst he;clear j;go_wp2;refine Fs (v:=CP<|Ct s t k v) (by simp[results,results97,go_sem]) rfl HP
end
section
attribute [local go_sem] Yf
def Ik(kb vb rb p:Nat)(k v:Vl)(A:Ad)(t:Tb)(W:Y):Prop:=
 W.cell? (G kb 0)=some (J k.kind)/\W.cell? (G kb 1)=some (J k.num)/\W.cell? (G kb 2)=some (F9 k.Ah)/\W.cell? (G kb 3)=some (.string k.str)/\W.cell? (G kb 4)=some (J k.ref)/\
 W.cell? (G vb 0)=some (J v.kind)/\W.cell? (G vb 1)=some (J v.num)/\W.cell? (G vb 2)=some (F9 v.Ah)/\W.cell? (G vb 3)=some (.string v.str)/\W.cell? (G vb 4)=some (J v.ref)/\
 W.cell? (G rb 0)=some (.slice A.va t.nv A.vc)/\W.cell? (G rb 1)=some (.slice A.la t.d.n A.lc)/\W.cell? (G rb 2)=some (.slice A.ia t.d.m A.ic)/\W.cell? (G rb 3)=some (.slice A.xa t.d.x A.xc)/\W.cell? (G rb 4)=some (J t.d.used)/\W.cell? (G rb 5)=some (J t.d.live)/\W.cell? (G rb 6)=some (J t.d.turns)/\W.cell? (G rb 7)=some (Q9 p)
def Ik.keep{kb vb}{A}(h:Ik kb vb rb p k v A t W)(h1:W'.heap[kb]?=W.heap[kb]?)(h2:W'.heap[vb]?=W.heap[vb]?)(h3:W'.heap[rb]?=W.heap[rb]?):Ik kb vb rb p k v A t W':=by
 have e1:∀q,W'.cell? (G kb q)=W.cell? (G kb q):=λq=>As (a:=G kb q) h1;have e2:∀q,W'.cell? (G vb q)=W.cell? (G vb q):=λq=>As (a:=G vb q) h2;have e3:∀q,W'.cell? (G rb q)=W.cell? (G rb q):=λq=>As (a:=G rb q) h3;grind [Ik]
def Ik.of{A}(h:pB w W k v)(a:W.heap[rb]?=some (.cells (C2 p A t).toArray 156 (0,0))):Ik w.heap.size (w.heap.size+1) rb p k v A t W:=by
 obtain⟨⟨k0,k1,k2,k3,k4⟩,⟨v0,v1,v2,v3,v4⟩⟩:=h.cells;have hc:=E4 a;exact⟨k0,k1,k2,k3,k4,v0,v1,v2,v3,v4,hc 0 _ rfl,hc 1 _ rfl,hc 2 _ rfl,hc 3 _ rfl,hc 4 _ rfl,hc 5 _ rfl,hc 6 _ rfl,hc 7 _ rfl⟩
section
variable {Z:Nat->Prop} {w w1 w2:Y} {c B0:Nat} {vN vT vS vU:V9} {Bk:Nat->Nat} {A:Nat->Ad} {s:AE} {t:Nat} {k v:Vl} {e:Ending}
def BB.boxes{b}(d:BB (AD B0 c vN vT vS w1) w1 (AD B0 c b BT B1 w2) w2)(a:Bg Z w1 c B0 vN vT vS vU Bk A s){q:Nat}{cs}{ty}(hq:w1.heap[q]?=some (Obj.cells cs ty (0,0)))(f:ty=156\/ty=32\/ty=40\/ty=34):w2.heap[q]?=w1.heap[q]?:=
 d.block q (Ai hq) (λe=>by
  rcases f with rfl|rfl|rfl|rfl
  .exact a.EY hq oo oo oo oo oo e
  .exact a.EY hq oo oo oo oo oo e
  .exact a.EY hq oo oo oo oo oo e
  exact a.EY hq oo oo oo oo oo e)
def bN(h:BX s (s.T t) k v=.loose){j:Nat}(a:(s.T t).shape=j):Ct s t k v=0/\Ci s t k v=Bm s t (DT (s.T t) (Az s.F j (s.T t).V (s.T t).nv) k v):=by
 grind [BX,Ct,Ci,Bm,DT,Az]
def QK{F}{V}(h:Sf F j V n d)(hn:n<=12):D6 d k v=false:=by
 unfold D6;rw[h.live,h.turns,decide_eq_false (p:=(n:Int)=500) om,decide_eq_false (p:=(n:Int)=1000000000000) om];simp
end
def kM{Bk}(t j:Nat){k v}{w}(P:Bg Z w c B0 vN vT vS (N9) Bk A s)(hf:Ar s.nf s.F=0)(ht:t<s.nt)(b1:s.nt<=100)(hT:BZ w)(hx:(s.T t).shape=j)(hj:j<s.nf)(Q:(s.T t).nv=nf s.F j)(bd:bare (s.T t).d)(ar:∀i,i<(s.T t).nv->Jb ((s.T t).V i)=true)(hk:Ky k)(hv:v.ok=true)(b2:M5 k v)(b3:5<=B0)(bf:∀i,i<s.nt->(s.T i).shape=-1\/∃j:Nat,(s.T i).shape=j/\j<s.nf):
  C9 97 #[Q9 c,J t,Ga k,Ga v] w λe w'=>XV Z c B0 vN vT vS s t k v w e w':=by
 obtain⟨g,cp,b4,b5,cm,au,b6⟩:=P.CA ht;subst b4;have bg:AX Bk (A t) (s.T t)=.iface 156 (CK (Bk j) (A t)<|s.T t):=by
  unfold AX;rw[C3 om,hx];rfl
 rw[bg]at au;obtain⟨W,hW,R,bh,b7⟩:=zA w k v;have b8:=P.lt;have a8:(s.T t).nv<=12:=by rw[Q];exact IZ hf hj
 obtain⟨gv,ak⟩:=qa<|Cb s.F (s.T t) k;have ae:Hid<|∀w1,B9 W w1->C9 251 #[CK (Bk j) (A t) (s.T t),Ga k] w1 (R9 (Ga gv) w1):=O (λw1 h1=>by
  have a:=R.trans (h1.mono om);rw[ak];exact KC (A t) (s.T t) j k (Lc.below P.nd a) hf hj hx Q (((P.rd t ht).now.1).below a rfl))
 have b9:Hid<|∀w1,B9 w w1->v.kind=0/\gv.kind=0->XV Z c B0 vN (S9 g s.nt cp) vS s t k v w (.returned<|CP 0) w1:=O (λw1 h1 h2=>by
  obtain⟨e1,e2⟩:=kK (by rw[<-ak];exact h2);obtain⟨m1,d1⟩:=P.below h1;exact⟨_,_,_,_,by rw[e1],d1,.inl ⟨e1,Bk,A,by rw[e2];exact m1⟩⟩)
 have ca:Hid<|∀w1,B9 w w1->¬(v.kind=0/\gv.kind=0)->C9 120 #[Q9 c,CK (Bk j) (A t)<|s.T t,Ga k,Ga v] w1 λe w'=>wY Z c B0 vN (S9 g s.nt cp) vS N9 Bk A s t k v w1 e w':=O λw1 h1 f=>NV t j v (P.below h1).1 hf ht hx hj Q bd hk (by rw[<-ak];exact f) bf;have HY:Hid (∀w1 w3 w4 l B' p a' x' s',B9 w w1->AX B' a' x'=.iface 156 (.agg (C2 p a' x').toArray)->Bm s' t x'=Ci s t k v->BX s (s.T t) k v≠.full->s'.nt=s.nt->Bg Z w3 c B0 l (S9 g s.nt cp) vS N9 B' A s'->BB (AD B0 c vN (S9 g s.nt cp) vS w1) w1 (AD B0 c l (S9 g s.nt cp) vS w3) w3->Rd (OZ Z B0 c l (S9 g s.nt cp) vS w3) w3 a' x'->B9 w3 w4->
   C9 102 #[Q9 c,J (t:Int),.iface 156 (.agg (C2 p a' x').toArray)] w4 λe w'=>(∃u,e=.returned u)/\XV Z c B0 vN (S9 g s.nt cp) vS s t k v w (.returned (CP 0)) w'):=O (λw1 w3 w4 l B' p a' x' s' h1 e1 e2 e3 e4 m3 d3 hR h4=>by
  obtain⟨m4,d4⟩:=m3.below h4;obtain⟨_,d1⟩:=P.below h1;have hc:Ct s t k v=0:=by unfold Ct;rw[C3 e3]
  rw[<-e1];refine(JA Z c B0 l _ vS B' A s' t a' x' w4 m4 om om (hR.step d4.oz)).mono ?_;rintro e w5 ⟨hu,av,m5,d5,_⟩;exact⟨hu,l,_,vS,av,by rw[hc],((d1.trans d3).trans d4).trans d5,.inl ⟨hc,B',AM A t a',by rw[<-e2];exact m5⟩⟩)
 have ao:=F5 hf hj (λq hq=>ar q om) (s.T t).nv om;have bj:Hid<|∀w4,B9 w w4\/(∃w3,Bg Z w3 c B0 vN (S9 g s.nt cp) vS N9 Bk A s/\BZ w3/\B9 w3 w4)->C9 122 #[CK (Bk j) (A t) (s.T t)] w4 λe w'=>(∃v0 v1 v2,e=.returned (oX v0 v1 v2<|Az s.F j (s.T t).V (s.T t).nv)/\DV (Az s.F j (s.T t).V (s.T t).nv) w' v0 v1 v2 w4.heap.size w'.heap.size)/\B9 w4 w':=O (λw4 h4=>by
  have hq:=h4.elim (λh=>⟨w,P,hT,h⟩) id;obtain⟨w3,m3,M,hb⟩:=hq;exact Wd (A t) (s.T t) j (Bb _ _ M hb) (Lc.below m3.nd hb) hf hj Q (((m3.rd t ht).now.1).below hb rfl) ar)
 have bk:Hid (∀w1 w3 w5 u0 c0 u1 c1 u2 c2,B9 w w1->BX s (s.T t) k v=.loose->Bg Z w3 c B0 vN (S9 g s.nt cp) vS N9 Bk A s->BZ w3->BB (AD B0 c vN (S9 g s.nt cp) vS w1) w1 (AD B0 c vN (S9 g s.nt cp) vS w3) w3->B9 w3 w5->FJ w5 u0 u1 u2 (Az s.F j (s.T t).V (s.T t).nv)->
   C9 121 #[Q9 c,J (t:Int),Dv u0 c0 u1 c1 u2 c2 (Az s.F j (s.T t).V (s.T t).nv),Ga k,Ga v] w5 λe w'=>e=.returned (CP 0)/\XV Z c B0 vN (S9 g s.nt cp) vS s t k v w (.returned (CP 0)) w'/\∀(q:Nat) (cs:Array Value) (ty:TypeId),w5.heap[q]?=some (Obj.cells cs ty (0,0))->(ty=156\/ty=32\/ty=40\/ty=34)->w'.heap[q]?=w5.heap[q]?):=O (λw1 w3 w5 u0 c0 u1 c1 u2 c2 h1 hw m3 M d3 h5 hD=>by
  rcases m3.below h5,P.below h1,bN hw hx with⟨⟨m5,d5⟩,⟨_,d1⟩,⟨e1,e2⟩⟩;refine(JQ t c0 c1 c2 m5 ht b1 (Bb _ _ M h5) hD ao.ls.inv (by rw[ao.m];omega) hk hv b2 b3).mono ?_;rintro e w6 ⟨he,av,a',m6,d6,_⟩;rw[QK ao a8]at he;refine⟨he,⟨vN,_,vS,av,by rw[e1],((d1.trans d3).trans d5).trans d6,.inl ⟨e1,Bk,AM A t a',by rw[e2];exact m6⟩⟩,λq cs ty hq hty=>d6.boxes m5 hq hty⟩)
 rcases (R.cell b8).trans P.cells.2.1,(R.cell b5).trans au,bh.cells with⟨x1,xg,⟨⟨k0,k1,k2,k3,k4⟩,⟨v0,v1,v2,v3,v4⟩⟩⟩;have lc:c<W.heap.size:=om;have lg:g<W.heap.size:=om;have l0:w.heap.size<W.heap.size:=om;have l1:w.heap.size+1<W.heap.size:=om;rcases P.base,yK<|CK (Bk j) (A t)<|s.T t,qa (Az s.F j (s.T t).V (s.T t).nv) with⟨b0,cn,⟨D,hD⟩⟩;rw[<-hD]at bj bk;clear hk hv ak au b6 bg hx b7 hf Q bd ar bf ao hD;go_enter func97,ntmps97;go_upto_region 1 with fail
 rw[<-hW];clear hW;by_cases f:v.kind=0/\gv.kind=0
 case pos=>
  have d1:(v.kind==0)=true:=by simp[f.1]
  have d2:(gv.kind==0)=true:=by simp[f.2]
  have HN:=O f;clear f;refine qr W ?_;(iterate 12 refine N (h:=?_));refine N (h:=?_);refine GS λK hK=>?_;go_simp;apply Exists.intro;refine qp (λw' C=>?_)<|hK _ ?_
  .go_invoke
   (try go_simp)
   refine(ae _ C).mono ?_;rintro e cb ⟨rfl,hb⟩;exact⟨rfl,o9 C hb⟩
  clear hK K;refine N (h:=N (h:=N (h:=?_)));refine Hz ?_;intro w1 a;have HE:=z b9 w1 (R.trans<|a.mono om) HN;clear a;go_wp2;refine Fs (v:=CP 0) (by simp[results,results97,go_sem,CP]) rfl HE
 have aj:(v.kind=0/\gv.kind≠0)\/v.kind≠0:=by
  by_cases h:v.kind=0
  .exact .inl ⟨h,λe=>f ⟨h,e⟩⟩
  exact .inr h
 have HN:=O f;clear f;rcases aj with⟨h1,h2⟩|h1
 case' inl=>
  have d1:(v.kind==0)=true:=by simp[h1]
  have d2:(gv.kind==0)=false:=by simp[h2]
  clear h1 h2;refine qr W ?_;(iterate 12 refine N (h:=?_));refine N (h:=?_);refine GS λK hK=>?_;go_simp;apply Exists.intro;refine qp (λw' C=>?_)<|hK _ ?_
  .go_invoke
   (try go_simp)
   refine(ae _ C).mono ?_;rintro e cb ⟨rfl,hb⟩;exact⟨rfl,o9 C hb⟩
  clear hK K;refine N (h:=N (h:=N (h:=?_)));refine Hz ?_;intro w1 a
 case' inr=>
  have d1:(v.kind==0)=false:=by simp[h1]
  clear h1;go_quiet (fail);obtain⟨w1,aw⟩:=qa<|W.drewN nq;have a:B9 W w1:=by rw[aw];exact⟨rfl,rfl,rfl,Be _,λ_ _=>rfl⟩
  rw[<-aw];clear aw
 all_goals
  rcases (a.cell lc).trans x1,(a.cell lg).trans xg,a.size with⟨x1,xg,z1⟩;have cq:w.heap.size<w1.heap.size:=om;have cr:w.heap.size+1<w1.heap.size:=om;obtain⟨W2,bm,ax,_,o0⟩:=Ll w1<|.cells #[.slice (A t).va (s.T t).nv (A t).vc,.slice (A t).la (s.T t).d.n (A t).lc,.slice (A t).ia (s.T t).d.m (A t).ic,.slice (A t).xa (s.T t).d.x (A t).xc,J (s.T t).d.used,J (s.T t).d.live,J (s.T t).d.turns,Q9 (Bk j)] 156;have ay:W2.heap[w1.heap.size]?=some (.cells (C2 (Bk j) (A t)<|s.T t).toArray 156 (0,0)):=o0;have o:=(R.trans<|a.mono om).trans<|ax.mono om;have S:=(bh.below a).below ax;rcases O S,O ay,S.cells with⟨L,bn,⟨⟨k0,k1,k2,k3,k4⟩,⟨v0,v1,v2,v3,v4⟩⟩⟩;have cc:Hid<|W2.heap[w1.heap.size]?=some (.cells #[.slice (A t).va (s.T t).nv (A t).vc,.slice (A t).la (s.T t).d.n (A t).lc,.slice (A t).ia (s.T t).d.m (A t).ic,.slice (A t).xa (s.T t).d.x (A t).xc,J (s.T t).d.used,J (s.T t).d.live,J (s.T t).d.turns,Q9 (Bk j)] 156 (0,0)):=O ay;have bb:Hid<|(Instr.storeAt 156 (Q9 w1.heap.size)<|CK (Bk j) (A t)<|s.T t).run prog (w1.alloc<|.cells Fa 156)=.ok () W2:=O (by rw[bm];exact Tu w1 (Bk j) (A t)<|s.T t);clear a ax ay S bm;go_upto_region 6 with(refine Af rfl rfl _ bb ?_)
  clear x1 xg;go_wp2_with (first|(refine Aah rfl 156 _ rfl w1.heap.size rfl _ _ _ _ cc underlying156 rfl Nl ?_));refine(ca W2 o HN).mono ?_;rintro e w3 (⟨rfl,af,m3,d3⟩|⟨l,B',p,a',x',s',rfl,e1,e2,e3,e4,m3,d3,hR⟩)
  focus
   have U:=(P.below o).1;have ag:pB w w3 k v:=⟨(d3.boxes U L.k<|.inr<|.inl rfl).trans L.k,(d3.boxes U L.v<|.inr<|.inl rfl).trans L.v⟩;have az:=(d3.boxes U bn<|.inl rfl).trans bn;rcases (Bb _ _ hT o).below (B:=B0) ⟨d3.os,d3.tape,d3.output,d3.size,λq hq=>d3.block q om λe=>oT (U.IC e).1⟩ om,O m3,O d3 with⟨M,bp,cd⟩;rcases O M,O af,Ll w3 (.cells Fa 156) with⟨bq,cg,⟨X,E,H,_⟩⟩;have r:=ag.below H;have I:=(H.block _<|Ai az).trans az;have br:Ik w.heap.size (w.heap.size+1) w1.heap.size (Bk j) k v (A t) (s.T t) X.drew:=Ik.of (W:=X) r I;have ad:Hid<|(Instr.storeAt 156 (Q9 w3.heap.size)<|.agg Fa).run prog (w3.alloc<|.cells Fa 156)=.ok () X:=O (by
    rw[E];exact FG (t:=156) (v:=.agg Fa) (old:=Fa.toList) (vs:=Fa.toList) EN w3 (ty:=156) rfl rfl Oj rfl)
   rcases O H,O r,O I,Ai r.k,Ai r.v,Ai I with⟨aM,ah,ch,bt,bu,bw⟩;clear m3 d3 M af U ag az H r I E k0 k1 k2 k3 k4 v0 v1 v2 v3 v4;go_upto_region 10 with(refine Af rfl rfl _ ad ?_)
   refine Hx (Ik w.heap.size (w.heap.size+1) w1.heap.size (Bk j) k v (A t)<|s.T t) ?_;refine tz 0 (h:=tz 1 (h:=tz 2 (h:=tz 4 (h:=tz 5 (h:=?_)))));refine ry 3 λK hK=>?_;go_simp;have ai:=aM.drew;refine(bj _<|.inr ⟨w3,bp,bq,ai⟩).mono ?_;rintro e w5 ⟨⟨u0,u1,u2,rfl,bx⟩,b⟩;have b:B9 X w5:=Below.trans (BE _ _).drew b;obtain⟨ua,uc,ub,ud,ue,uf,q0,q1,q2,bz⟩:=bx.at;subst q0 q1 q2;rcases br.keep (b.block _ bt) (b.block _ bu) (b.block _ bw),O<|bk W2 w3 w5 ua uc ub ud ue uf o cg bp bq cd (o9 aM b) bz,O (qp ((b.block _ bt).trans ah.k)<|qp ((b.block _ bu).trans ah.v)<|(b.block _ bw).trans ch) with⟨a6,bc,a7⟩;refine hK.out _ _ a6 λ_=>?_;clear hK K br bx bz b ai;refine ry 6 λK hK=>?_;go_simp;refine bc.mono ?_;rintro e w6 ⟨rfl,hP,aq⟩;have cj:=a6.keep (aq _ _ _ a7.1<|.inr<|.inl rfl) (aq _ _ _ a7.2.1<|.inr<|.inl rfl)<|aq _ _ _ a7.2.2<|.inl rfl;have HP:=O hP;refine hK.out _ _ cj λ_=>?_;clear hK K a6 hP aq;refine tz 7 (h:=?_);refine FI ?_;go_wp2_with fail
  rotate_left
  focus
   obtain⟨X,E⟩:=qa<|w3.alloc<|.cells (C2 p a' x').toArray 156;have H:B9 w3 X:=by rw[E];exact(BE _ _).alloc (Be _) _
   have I:X.heap[w3.heap.size]?=some (.cells (C2 p a' x').toArray 156 (0,0)):=by rw[E];exact DO _ _
   have ad:Hid<|(Instr.storeAt 156 (Q9 w3.heap.size)<|.agg (C2 p a' x').toArray).run prog (w3.alloc<|.cells Fa 156)=.ok () X:=O (by
    rw[E];exact Tu w3 p a' x')
   have ck:=O<|HY W2 w3 X l B' p a' x' s' o e1 e2 e3 e4 m3 d3 hR H;have cl:=O I;clear m3 d3 e1 e2 e3 e4 hR H I E k0 k1 k2 k3 k4 v0 v1 v2 v3 v4;go_upto_region 8 with(refine Af rfl rfl _ ad ?_)
   go_wp2_with (first|(refine Aah rfl 156 _ rfl w3.heap.size rfl _ _ _ _ cl underlying156 rfl Nl ?_))
   refine ck.mono ?_;rintro e w5 ⟨⟨uu,rfl⟩,hP⟩;have HP:=O hP;clear hP;go_wp2
  all_goals
   refine Fs (v:=CP 0) (by simp[results,results97,go_sem,CP]) rfl HP
def Qj{Bk}t k v{w}(l:Bg Z w c B0 vN vT vS (N9) Bk A s)(a:Kl s)(g:t<s.nt)(n:BZ w)(hk:Ky k)(o:v.ok=true)(b:M5 k v)(d:5<=B0):
  C9 97 #[Q9 c,J t,Ga k,Ga v] w λe w'=>XV Z c B0 vN vT vS s t k v w e w':=by
 have h:=a.t t g;rcases h.way with⟨h1,h2,h3⟩|⟨j,h1,h2,h3,h4,h5⟩
 .exact kN t l g a.nt n h1 h3 h.wf h.m hk o b d
 exact kM t j l a.f g a.nt n h1 h2 h3 h4 (λi hi=>(h5 i hi).1) hk o b d (λi hi=>by
  rcases(a.t i hi).way with⟨e,_⟩|⟨q,e,hq,_⟩
  .exact .inl e
  exact .inr ⟨q,e,hq⟩)
end
end Go.Proofs.YtkpfgniijbgkoaaGreatDoor
