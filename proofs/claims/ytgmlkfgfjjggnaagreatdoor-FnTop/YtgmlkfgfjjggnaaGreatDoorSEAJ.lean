import Derived.Test.YtgmlkfgfjjggnaaGreatDoorSEAI
import Derived.Test.YtgmlkfgfjjggnaaGreatDoorCards
import Derived.Test.YtgmlkfgfjjggnaaGreatDoorTie
set_option linter.all false
set_option maxHeartbeats 40000000
set_option maxRecDepth 100000
namespace Go.Proofs.YtgmlkfgfjjggnaaGreatDoor
open Go.Proofs.Tryz
section
open Go.ChangeShapes Go.WideShapes Go.ChangeAt Go.RowKit
namespace SM
theorem et:prog.globalNamed "errors.errorType" =some 0:=by kernel_rfl
theorem rt:(prog.cutTypes.find? (·.1== "internal/reflectlite.rtype")).map (·.2)=some 341:=by kernel_rfl
theorem cS:((List.range 424).filter fun t=>prog.rowNamed t [101,114,114,111,114])=[200]:=by kernel_rfl
theorem size:prog.types.size=424:=by kernel_rfl
theorem iZ{W:Y}(h:laidMetH prog Rows.fnTopRow.laid W):Gc W:=by
 have h1:=laidMetH.filter (fun x=>x.1== "errors.errorType") h;have e:(Rows.fnTopRow.laid.filter fun x=>x.1== "errors.errorType")=[("errors.errorType",Rows.laid_errors_errorType)]:=by kernel_rfl
 rw[e]at h1;have h':laidMet prog [] W/\handlesMet prog [("errors.errorType",Rows.laid_errors_errorType)] W:=h1;obtain⟨name,u,ty,e1,e2,e3,c,a⟩:=h'.2 _ (MM.2 rfl);have en:name=[101,114,114,111,114]:=(Aaj e1).symm;subst en;obtain rfl:=Aaj (rt.symm.trans e2);have b:ty∈(List.range 424).filter fun t=>prog.rowNamed t [101,114,114,111,114]:=List.mem_filter.2 ⟨AaR.2 (by rw[<-size];exact e3),c⟩
 rw[cS]at b;obtain rfl:=MM.1 b;have d:typeHandle prog 200=.pointer (some (G 5 200)):=by kernel_rfl
 rw[d]at a;show W.cell? (G 0 0)=some VU;simpa using World.var?_cell et a 0
abbrev S0:Value:=N9
theorem fB(a:T9)(len cap:Nat)(w:Y)(h:(1048576:Int)<len):
  C9 6 #[.slice a len cap] w (R9 (.bool true) w):=by
 go_enter func6,ntmps6
 go_wp2_with fail
 go_ret;exact⟨rfl,DD _ _⟩
theorem all(a:T9)(len cap:Nat)(w:Y)(c:A8 w)(d:Gc w)(b:len<=1048576->Dh w w.heap.size a len):
  C9 6 #[.slice a len cap] w (R9 (.bool true) w):=by
 by_cases h:len<=1048576
 ·exact Zi a len cap w c d (b h) (by omega)
 ·exact fB a len cap w (by omega)
def KF(w:Y):World:={Rk w with heap:=(Rk w).heap.modify 0 (Jm #[VU])}
theorem Xj(os:Os):laidMetH prog Rows.fnTopRow.laid ((KF (World.holding prog os ⟨#[],#[],[]⟩)).forCall (fun _ _=>0) ⟨#[],#[S0],[]⟩).memory:=
 laidMetH_of_parts (laidMet_of_run' 8 (by kernel_rfl) (by kernel_rfl)) (by kernel_rfl)
theorem reads(os:Os){H:Type}(enc:TypeId×Value->H):∃places,DataW.whole enc prog ((KF (World.holding prog os ⟨#[],#[],[]⟩)).forCall (fun _ _=>0) ⟨#[],#[S0],[]⟩).memory f6.params.toList Rows.fnTopSpec.vars false #[S0].toList 8=some ([.nil],[],places):=
 ⟨[],by kernel_rfl⟩
theorem Zh:(Rows.fnTopRow.laid.filter fun x=>x.1 != "errors.errorType")=K5:=by kernel_rfl
theorem tabs{W:Y}(h:laidMetH prog Rows.fnTopRow.laid W):A8 W:=by
 have h1:=laidMetH.filter (fun x=>x.1 != "errors.errorType") h;rw[Zh]at h1;exact ZS h1
theorem contract(H:Type)(enc:TypeId×Value->H)(W:Y)(base:Nat)(args:Array Value)(ds gs:List (DataW H))(before:List MemPlace)
  (hval:∀(j:Nat) t v,f6.params[j]?=some t->args[j]?=some v->Value.okWide prog W .any base t v)
  (D:DataW.Whole enc prog f6.params.toList Rows.fnTopSpec.vars false W args.toList ds gs before) (E:laidMetH prog Rows.fnTopRow.laid W):
  C9 6 args W fun e W'=>∃v,e=.returned v/\Rows.fnTopSpec.post enc prog f6 false true false false W args v W':=by
 have s:=D;obtain⟨p,q,dM,K,rfl,L,M⟩:=D;have hA:DataW.TrodAll enc prog W 0 (fun _=>true) true f6.params.toList args.toList ds p:=dM;rw[params6]at hA hval;obtain⟨v0,P,d0,bQ,Q,U,u,rfl,rfl,F,r0⟩:=trodAll_cons hA;obtain⟨rfl,rfl,rfl⟩:=trodAll_nil r0;obtain rfl:args=#[v0]:=by cases args;simp_all
 obtain⟨rfl,rfl⟩:=trodVars_none K;have k0:=F;have w:∀x∈Q,x.block<W.heap.size:=by obtain⟨m,I⟩:=k0;exact DataW.trod_lt m _ _ _ I
 obtain⟨a0,a,k,rfl⟩:=okWide_slice underlying71 (hval 0 71 v0 rfl rfl);have d:a<=1048576->Dh W W.heap.size a0 a:=by
  intro R;refine⟨by omega,?_⟩;obtain⟨fuel,hf⟩:=F;rcases open_ints underlying71 underlying5 (by kernel_rfl) hf with⟨hcs,_⟩|⟨x,l,c,n,hcs,_,hl,I,hz,_,f,A⟩
  ·simp[Value.cells]at hcs;obtain⟨rfl,rfl,rfl⟩:=hcs;exact .inl rfl
  ·simp[Value.cells]at hcs;obtain⟨rfl,rfl,rfl⟩:=hcs;by_cases B:a=0
   ·exact .inl B
   ·right;have S:a<=n.length:=by rw[hz];split<;>omega
    have o:∀i,i<a->W.cell? (x.add i)=some (.int .u8 (n.getD i 0)):=fun i hi=>f i (by omega)
    obtain⟨b,off,spot⟩:=x;have r:=o 0 (by omega);have g:spot=none:=by simpa[Addr.add]using World.cell?_spot r
    subst g;refine⟨b,off,rfl,?_,fun i hi=>?_⟩
    ·have:=Hi _ _ r;simpa[Addr.add]using this
    ·have e:Addr.add (G b off) i=(G b (off+i)):=by by_cases h:i=0<;>simp[Addr.add,h]
     refine⟨n.getD i 0,by rw[<-e];exact o i hi,?_⟩;have C:n.getD i 0∈n:=by
      rw[Aab,List.getElem?_eq_getElem (by omega)];exact List.getElem_mem _
     have:=A _ C;simp only[Lit.wf,OR,AaJ]at this;have e1:IntKind.u8.min=0:=by decide
     have e2:IntKind.u8.max=255:=by decide
     rw[e1,e2]at this;omega
 clear dM;refine(all a0 a k W (tabs E) (iZ E) d).mono fun e W' ⟨T,CH⟩=>?_
 subst T;exact⟨_,rfl,_,_,_,[],_,[],s,trodAll_mk1 (shut_bool underlying4 _),(trodAll_cons_mk (Below.trod laidOut (by kernel_rfl) (of_decide_eq_true (by kernel_rfl)) k0 CH w) trodAll_mk0),rfl,CH.frame _,fun h=>by cases h⟩
theorem lifted(os:Os)(started:os.Started)(H:Type)(enc:TypeId×Value->H)(F:Go.Stop.Interp):
  ReturnsInHanded {} checked os 6 .any ((OpenSpec.ofChange Rows.fnTopSpec).preRow enc prog f6 Rows.fnTopRow.domain false Rows.fnTopRow.laid) (((OpenSpec.ofChange Rows.fnTopSpec).at F).post enc prog f6 false true false false):=by
 obtain⟨places,hx⟩:=reads os enc;refine returnsInHanded_of_row (C:=checked) (s:=OpenSpec.ofChange Rows.fnTopSpec) own started (by kernel_rfl) func6
  (witness_row_at (enc:=enc) (C:=checked) false (KF (World.holding prog os ⟨#[],#[],[]⟩)) #[S0] rfl (by kernel_rfl) (by kernel_rfl) (by kernel_rfl)
   (OpenSpec.preRow_of_cond 8 hx (by kernel_rfl) (fun k hk=>by cases hk) (by kernel_rfl) (Xj os))) ?_
 intro W base args ds gs before hval a _ _ _ b _ _;exact contract H enc W base args ds gs before hval a b
theorem closed:joinedFacts Tryz.pinned.checked.prog 6 f6 (OpenSpec.ofChange Rows.fnTopSpec).bare Rows.fnTopRow=true:=by
 unfold joinedFacts;simp only[OR];repeat' apply And.intro
 all_goals(as_aux_lemma=>kernel_rfl)
theorem said:Rows.FnTopSaid:=
 OpenClaim.holds_of_cond 6 f6 rfl rfl rfl rfl rfl rfl rfl ⟨rfl,rfl,rfl,rfl,rfl⟩ rfl rfl rfl rfl rfl (by kernel_rfl) func6 closed
  (of_decide_eq_true (by kernel_rfl)) (by unfold Func.isWrapper;first|(rw[C3 (by decide +kernel)];kernel_rfl)|(rw[Cs (by decide +kernel)];exact⟨rfl,rfl⟩))
  (fun os started H enc _ F=>by rw[OpenClaim.pre_eq_preRow];exact lifted os started H enc F)
theorem plain(f:FuncId)(fn:Func)(hf:Tryz.pinned.checked.prog.funcNamed "loop.example/shuttle/laws.FnTop" =some f)(a:Tryz.pinned.checked.prog.funcs[f]?=some fn):
  true=Tryz.pinned.checked.prog.looks []/\∀(j:Nat) t,fn.params[j]?=some t->Tryz.pinned.checked.prog.wantsStandIn t=false:=by
 obtain rfl:f=6:=Aaj ((show prog.funcNamed "loop.example/shuttle/laws.FnTop" =some 6 by kernel_rfl).symm.trans hf) |>.symm;obtain rfl:fn=f6:=(Aaj (func6.symm.trans a)).symm;refine⟨by kernel_rfl,fun j t b=>?_⟩;rw[params6]at b;have c:t=71:=by simpa using Array.mem_of_getElem? b
 subst c;exact(show prog.wantsStandIn 71=false by kernel_rfl)
end SM
theorem top_holds:Rows.FnTopCardSaid:=
 Claim7.holds_tied_plain_at .later [] _ _ _ _ SM.said (fun _ h=>by cases h) (by kernel_rfl) (fun _ h=>by cases h) fnTop_row_tie rfl ⟨rfl,rfl⟩ (by kernel_rfl) rfl SM.plain (by kernel_rfl)
#print axioms top_holds
end
end Go.Proofs.YtgmlkfgfjjggnaaGreatDoor
