import Derived.Test.YtoobllcjfinmoaaGreatDoorSDAL
import Derived.Test.YtoobllcjfinmoaaGreatDoorCards
import Derived.Test.YtoobllcjfinmoaaGreatDoorTie
set_option linter.all false
set_option maxHeartbeats 40000000
set_option maxRecDepth 100000
namespace Go.Proofs.YtoobllcjfinmoaaGreatDoor
open Go.Proofs.Tryz
section
open Go.ChangeShapes Go.WideShapes Go.ChangeAt Go.RowKit Go.Deep
theorem vK:Fa prog 33 3 31:=
 ⟨⟨_,_,_,_,_,_,underlying33,rfl,rfl,rfl,rfl,rfl,rfl,rfl,rfl,rfl,rfl,rfl,rfl⟩,by kernel_rfl,by kernel_rfl,by kernel_rfl,underlying3⟩
instance:Inhabited Ac:=⟨⟨0,0,0,0,default,default⟩⟩
theorem Zj{H}{enc}{w:Y}{base}{spare}{held}{r}{b0}{v:V9}{d:DataW H}{p:List MemPlace}(b:Value.okWide prog w r b0 33 v)(h:DataW.Trod enc prog w base spare held 33 v d p):∃a,v=Kz a/\Wf a.k/\Wf a.v:=by
 obtain⟨cs,rfl,c⟩:=okWide_struct underlying33 b;obtain⟨fuel,hf⟩:=h;obtain⟨a,e,h1,h2⟩:=Zs vK uW hf;refine⟨a,?_,h1,h2⟩;have e':cs.toList=(Kz a).cells.toList:=e;rw[show cs=(Kz a).cells from Array.toList_inj.1 e'];rfl
namespace bG
theorem et:prog.globalNamed "errors.errorType" =some 0:=by kernel_rfl
theorem rt:(prog.cutTypes.find? (·.1== "internal/reflectlite.rtype")).map (·.2)=some 260:=by kernel_rfl
theorem oW:((List.range 375).filter λt=>prog.rowNamed t [101,114,114,111,114])=[136]:=by kernel_rfl
theorem size:prog.types.size=375:=by kernel_rfl
theorem tC{W:Y}(h:laidMetH prog Rows.fnExactDoRow.laid W):JO W:=by
 have h1:=laidMetH.filter (λx=>x.1== "errors.errorType") h;have e:(Rows.fnExactDoRow.laid.filter λx=>x.1== "errors.errorType")=[("errors.errorType",Rows.laid_errors_errorType)]:=by kernel_rfl
 rw[e]at h1;have h':laidMet prog [] W/\handlesMet prog [("errors.errorType",Rows.laid_errors_errorType)] W:=h1;obtain⟨name,u,ty,e1,e2,e3,c,a⟩:=h'.2 _ (List.mem_singleton.2 rfl);have en:=(Aah e1).symm;subst en;obtain rfl:=Aah (rt.symm.trans e2);have b:ty∈(List.range 375).filter λt=>prog.rowNamed t [101,114,114,111,114]:=List.mem_filter.2 ⟨List.mem_range.2 (by simp_all),c⟩;rw[oW]at b;obtain rfl:=List.mem_singleton.1 b;have d:typeHandle prog 136=.pointer (some (G 5 136)):=by kernel_rfl
 rw[d]at a;show W.cell? (G 0 0)=some aJ;simpa using World.var?_cell et a 0
abbrev D0:Value:=.agg #[N9,N9,N9]
abbrev D1:Value:=.agg #[J 0,J 0,J 0,J 0,J 0,J 0,F9 0,E9,J 0,J 0,J 0,F9 0,E9,J 0]
def Mj(w:Y):World:={Vf w with heap:=(Vf w).heap.modify 0 (Gi #[aJ])}
theorem jP:(Rows.fnExactDoRow.laid.filter λx=>x.1 != "errors.errorType")=ME:=by kernel_rfl
theorem tabs{W:Y}(h:laidMetH prog Rows.fnExactDoRow.laid W):B2 W:=by
 have h1:=laidMetH.filter (λx=>x.1 != "errors.errorType") h;rw[jP]at h1;exact kY h1
theorem cV os:laidMetH prog Rows.fnExactDoRow.laid ((Mj<|World.holding prog os ⟨#[],#[],[]⟩).forCall (λ_ _=>0) ⟨#[],#[D0,D1],[]⟩).memory:=
 laidMetH_of_parts (laidMet_of_run' 8 (by kernel_rfl)<|by kernel_rfl) (by kernel_rfl)
theorem reads os{H}(enc:TypeId×Value->H):∃places,DataW.whole enc prog ((Mj<|World.holding prog os ⟨#[],#[],[]⟩).forCall (λ_ _=>0) ⟨#[],#[D0,D1],[]⟩).memory f3.params.toList Rows.fnExactDoSpec.vars false #[D0,D1].toList 8=some ([.agg [.agg [.nil],.nil,.nil],.agg [.lit (.int .i64 0),.lit (.int .i64 0),.lit (.int .i64 0),.lit (.int .i64 0),.agg [.lit (.int .i64 0),.lit (.int .i64 0),.lit (.float .f64 0),.lit (.string []),.lit (.int .i64 0)],.agg [.lit (.int .i64 0),.lit (.int .i64 0),.lit (.float .f64 0),.lit (.string []),.lit (.int .i64 0)]]],[],places):=
 ⟨[],by kernel_rfl⟩
theorem contract(H)(enc)(W)(base)(args)(ds gs:List<|DataW H)(before)
  (hval:∀(j:Nat) t v,f3.params[j]?=some t->args[j]?=some v->Value.okWide prog W .any base t v)
  (u:DataW.Whole enc prog f3.params.toList Rows.fnExactDoSpec.vars false W args.toList ds gs before) (w:laidMetH prog Rows.fnExactDoRow.laid W):
  C9 3 args W λe W'=>∃v,e=.returned v/\Rows.fnExactDoSpec.post enc prog f3 false true false false W args v W':=by
 have d:=u;obtain⟨p,q,b,B,rfl,C,D⟩:=u;have hA:=b;rw[params3]at hA hval;obtain⟨v0,E,d0,vJ,F,P,f,rfl,rfl,A,r0⟩:=trodAll_cons hA;obtain⟨v1,I,d1,K,p1,Q,c,rfl,rfl,h1,r1⟩:=trodAll_cons r0;obtain⟨rfl,rfl,rfl⟩:=trodAll_nil r1;obtain rfl:args=#[v0,v1]:=by grind
 obtain⟨rfl,rfl⟩:=trodVars_none B;have k0:=A;have g:∀x∈F,x.block<W.heap.size:=by obtain⟨m,i⟩:=k0;exact DataW.trod_lt m _ _ _ i
 have k1:=h1;have k:∀x∈p1,x.block<W.heap.size:=by obtain⟨m,i⟩:=k1;exact DataW.trod_lt m _ _ _ i
 obtain⟨R,L,ta,tc,sa,sc,s,rfl,hD,l,n⟩:=Wm (hval 0 28 v0 rfl rfl) A;obtain⟨a,rfl,o,r⟩:=Zj (hval 1 33 v1 rfl rfl) h1;clear b;refine(oJ L tc sc a hD l n o r (tabs w)<|tC w).mono λe W' ⟨M,CX⟩=>?_;subst M;exact⟨_,rfl,_,_,_,[],_,[],d,trodAll_mk1<|shut_bool underlying4 _,trodAll_cons_mk (Below.trod laidOut (by kernel_rfl) (of_decide_eq_true<|by kernel_rfl) k0 CX g)<|trodAll_cons_mk (Below.trod laidOut (by kernel_rfl) (of_decide_eq_true<|by kernel_rfl) k1 CX k) trodAll_mk0,rfl,CX.frame _,λh=>by cases h⟩
theorem lifted os(started:os.Started)H(enc:TypeId×Value->H)F:
  ReturnsInHanded {} checked os 3 .any ((OpenSpec.ofChange Rows.fnExactDoSpec).preRow enc prog f3 Rows.fnExactDoRow.domain false Rows.fnExactDoRow.laid) (((OpenSpec.ofChange Rows.fnExactDoSpec).at F).post enc prog f3 false true false false):=by
 obtain⟨places,a⟩:=reads os enc;refine returnsInHanded_of_row (C:=checked) (s:=OpenSpec.ofChange Rows.fnExactDoSpec) own started (by kernel_rfl) func3
  (witness_row_at (enc:=enc) (C:=checked) false (Mj<|World.holding prog os ⟨#[],#[],[]⟩) #[D0,D1] rfl (by kernel_rfl) (by kernel_rfl) (by kernel_rfl)
   (OpenSpec.preRow_of_cond 8 a (by kernel_rfl) (λk hk=>by cases hk) (by kernel_rfl) (cV os))) ?_
 intro W base args ds gs before hval b _ _ _ c _ _;exact contract H enc W base args ds gs before hval b c
theorem closed:joinedFacts Tryz.pinned.checked.prog 3 f3 (OpenSpec.ofChange Rows.fnExactDoSpec).bare Rows.fnExactDoRow=true:=by
 unfold joinedFacts;simp only[AaJ];repeat' apply And.intro
 all_goals(as_aux_lemma=>kernel_rfl)
theorem said:Rows.FnExactDoSaid:=
 OpenClaim.holds_of_cond 3 f3 rfl rfl rfl rfl rfl rfl rfl ⟨rfl,rfl,rfl,rfl,rfl⟩ rfl rfl rfl rfl rfl (by kernel_rfl) func3 closed
  (of_decide_eq_true<|by kernel_rfl) (by decide)
  (λos started H enc _ F=>by rw[OpenClaim.pre_eq_preRow];exact lifted os started H enc F)
theorem plain(f)(fn)(hf:Tryz.pinned.checked.prog.funcNamed "loop.example/shuttle/laws.FnExactDo" =some f)(a:Tryz.pinned.checked.prog.funcs[f]?=some fn):
  true=Tryz.pinned.checked.prog.looks []/\∀(j:Nat) t,fn.params[j]?=some t->Tryz.pinned.checked.prog.wantsStandIn t=false:=by
 obtain rfl:f=3:=Aah ((show prog.funcNamed "loop.example/shuttle/laws.FnExactDo" =some 3 by kernel_rfl).symm.trans hf) |>.symm;obtain rfl:fn=f3:=(Aah (func3.symm.trans a)).symm;refine⟨by kernel_rfl,λj t b=>?_⟩;rw[params3]at b;have c:t=28\/t=33:=by grind
 rcases c with rfl|rfl
 .exact(show prog.wantsStandIn 28=false by kernel_rfl)
 exact(show prog.wantsStandIn 33=false by kernel_rfl)
end bG
theorem do_holds:Rows.FnExactDoCardSaid:=
 Claim7.holds_tied_plain_at .later [] _ _ _ _ bG.said (λ_ h=>by cases h) (by kernel_rfl) (λ_ h=>by cases h) fnExactDo_row_tie rfl ⟨rfl,rfl⟩ (by kernel_rfl) rfl bG.plain (by kernel_rfl)
#print axioms do_holds
end
end Go.Proofs.YtoobllcjfinmoaaGreatDoor
