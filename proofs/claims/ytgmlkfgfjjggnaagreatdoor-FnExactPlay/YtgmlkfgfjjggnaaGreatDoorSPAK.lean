import Derived.Test.YtgmlkfgfjjggnaaGreatDoorSPAJ
import Derived.Test.YtgmlkfgfjjggnaaGreatDoorCards
import Derived.Test.YtgmlkfgfjjggnaaGreatDoorTie
set_option linter.all false
set_option maxHeartbeats 40000000
set_option maxRecDepth 100000
namespace Go.Proofs.YtgmlkfgfjjggnaaGreatDoor
open Go.Proofs.Tryz
section
open Go.ChangeShapes Go.WideShapes Go.ChangeAt Go.RowKit Go.Deep
theorem nZ:Fa prog 33 3 31:=
 ⟨⟨_,_,_,_,_,_,underlying33,rfl,rfl,rfl,rfl,rfl,rfl,rfl,rfl,rfl,rfl,rfl,rfl⟩,by kernel_rfl,by kernel_rfl,by kernel_rfl,underlying3⟩
instance:Inhabited Ac:=⟨⟨0,0,0,0,default,default⟩⟩
section
variable {H:Type} {enc:TypeId×Value->H} {P:Program} {w:Y} {base:Nat} {spare:Nat->Bool} {held:Bool}
theorem Xd{o t ti p tn q ts:TypeId}(F:Fa P t ti p)(Z:Fs P p ti tn q ts)(r:P.underlying o=some (.slice t)){fuel:Nat}{cs:List Value}{x:DataW H×List MemPlace}(h:DataW.trod enc P w base spare held fuel o cs=some x):
  ∃a n cap f,cs=[.slice a n cap]/\n<=maxLen/\eQ w a n f/\∀i,i<n->Wf (f i).k/\Wf (f i).v:=by
 rcases open_slice r h with⟨rfl,_⟩|⟨a,len,cap,m,n,D,Pl,rfl,hb,hl,E,l,rfl,hx⟩
 ·exact⟨none,0,0,fun _=>⟨0,0,0,0,default,default⟩,rfl,by unfold maxLen;omega,.inl rfl,fun i hi=>oa⟩
 have A:len<=m:=by rw[l];split<;>omega
 have each:∀i,i<len->∃s:Ac,(∀j u,(U0 s)[j]?=some u->w.cell? (a.add (i*14+j))=some u)/\Wf s.k/\Wf s.v:=by
  intro i hi;obtain⟨B,h1,h2⟩:=hx i oa;rw[F.ct]at h1;obtain⟨s,rfl,w0,w1⟩:=Xc F Z h2;obtain⟨_,_,c⟩:=World.cells?_some h1;refine⟨s,fun j u hu=>?_,w0,w1⟩;have hj:j<14:=(It.1 hu).1;have e:=c j oa;rw[add_add]at e;rw[e];exact hu
 obtain⟨f,hf⟩:=choose_lt each;refine⟨some a,len,cap,f,rfl,oa,?_,fun i hi=>(hf i hi).2⟩;by_cases C:len=0
 ·exact .inl C
 ·right;obtain⟨b,off,spot⟩:=a;have g:=(hf 0 oa).1 0 _ rfl;have d:spot=none:=by simpa[Addr.add]using World.cell?_spot g
  subst d;refine⟨b,off,rfl,?_,fun i hi j u hu=>?_⟩
  ·have:=ID _ _ g;simpa[Addr.add]using this
  ·have:=(hf i hi).1 j u hu;rw[add_plain]at this;rw[Nat.add_assoc];exact this
end
namespace QY
theorem et:prog.globalNamed "errors.errorType" =some 0:=by kernel_rfl
theorem rt:(prog.cutTypes.find? (·.1== "internal/reflectlite.rtype")).map (·.2)=some 341:=by kernel_rfl
theorem gQ:((List.range 424).filter fun t=>prog.rowNamed t [101,114,114,111,114])=[200]:=by kernel_rfl
theorem size:prog.types.size=424:=by kernel_rfl
theorem mH{W:Y}(h:laidMetH prog Rows.fnExactPlayRow.laid W):Gg W:=by
 have h1:=laidMetH.filter (fun x=>x.1== "errors.errorType") h;have e:(Rows.fnExactPlayRow.laid.filter fun x=>x.1== "errors.errorType")=[("errors.errorType",Rows.laid_errors_errorType)]:=by kernel_rfl
 rw[e]at h1;have h':laidMet prog [] W/\handlesMet prog [("errors.errorType",Rows.laid_errors_errorType)] W:=h1;obtain⟨name,u,ty,e1,e2,e3,c,a⟩:=h'.2 _ (List.mem_singleton.2 rfl);have en:name=[101,114,114,111,114]:=(Aap e1).symm;subst en;obtain rfl:=Aap (rt.symm.trans e2);have b:ty∈(List.range 424).filter fun t=>prog.rowNamed t [101,114,114,111,114]:=List.mem_filter.2 ⟨List.mem_range.2 (by rw[<-size];exact e3),c⟩;rw[gQ]at b;obtain rfl:=List.mem_singleton.1 b;have d:typeHandle prog 200=.pointer (some (G 5 200)):=by kernel_rfl
 rw[d]at a;show W.cell? (G 0 0)=some XM;simpa using World.var?_cell et a 0
abbrev D0:Value:=N9
def Ll(w:Y):World:={Tl w with heap:=(Tl w).heap.modify 0 (FM #[XM])}
theorem bU:(Rows.fnExactPlayRow.laid.filter fun x=>x.1 != "errors.errorType")=LH:=by kernel_rfl
theorem tabs{W:Y}(h:laidMetH prog Rows.fnExactPlayRow.laid W):BH W:=by
 have h1:=laidMetH.filter (fun x=>x.1 != "errors.errorType") h;rw[bU]at h1;exact dE h1
theorem YP(os:Os):laidMetH prog Rows.fnExactPlayRow.laid ((Ll (World.holding prog os ⟨#[],#[],[]⟩)).forCall (fun _ _=>0) ⟨#[],#[D0],[]⟩).memory:=
 laidMetH_of_parts (laidMet_of_run' 8 (by kernel_rfl) (by kernel_rfl)) (by kernel_rfl)
theorem reads(os:Os){H:Type}(enc:TypeId×Value->H):∃places,DataW.whole enc prog ((Ll (World.holding prog os ⟨#[],#[],[]⟩)).forCall (fun _ _=>0) ⟨#[],#[D0],[]⟩).memory f4.params.toList Rows.fnExactPlaySpec.vars false #[D0].toList 8=some ([.nil],[],places):=
 ⟨[],by kernel_rfl⟩
theorem contract(H:Type)(enc:TypeId×Value->H)(W:Y)(base:Nat)(args:Array Value)(ds gs:List (DataW H))(before:List MemPlace)
  (hval:∀(j:Nat) t v,f4.params[j]?=some t->args[j]?=some v->Value.okWide prog W .any base t v)
  (o:DataW.Whole enc prog f4.params.toList Rows.fnExactPlaySpec.vars false W args.toList ds gs before) (r:laidMetH prog Rows.fnExactPlayRow.laid W):
  C9 4 args W fun e W'=>∃v,e=.returned v/\Rows.fnExactPlaySpec.post enc prog f4 false true false false W args v W':=by
 have g:=o;obtain⟨p,q,b,u,rfl,w,A⟩:=o;have hA:DataW.TrodAll enc prog W 0 (fun _=>true) true f4.params.toList args.toList ds p:=b;rw[params4]at hA hval;obtain⟨v0,B,d0,nY,C,F,i,rfl,rfl,s,r0⟩:=trodAll_cons hA;obtain⟨rfl,rfl,rfl⟩:=trodAll_nil r0;obtain rfl:args=#[v0]:=by cases args;simp_all
 obtain⟨rfl,rfl⟩:=trodVars_none u;have k0:=s;have k:∀x∈C,x.block<W.heap.size:=by obtain⟨m,D⟩:=k0;exact DataW.trod_lt m _ _ _ D
 obtain⟨a0,c,d,rfl⟩:=okWide_slice underlying58 (hval 0 58 v0 rfl rfl);obtain⟨fuel,hf⟩:=s;obtain⟨a,n,cap,f,hcs,hn,l,hk⟩:=Xd nZ oA underlying58 hf;simp[Value.cells]at hcs;obtain⟨rfl,rfl,rfl⟩:=hcs;clear b;refine(YQ a0 c d f W l hn hk (tabs r) (mH r)).mono fun e W' ⟨E,CN⟩=>?_;subst E;exact⟨_,rfl,_,_,_,[],_,[],g,trodAll_mk1 (shut_bool underlying4 _),(trodAll_cons_mk (Below.trod laidOut (by kernel_rfl) (of_decide_eq_true (by kernel_rfl)) k0 CN k) trodAll_mk0),rfl,CN.frame _,fun h=>by cases h⟩
theorem lifted(os:Os)(started:os.Started)(H:Type)(enc:TypeId×Value->H)(F:Go.Stop.Interp):
  ReturnsInHanded {} checked os 4 .any ((OpenSpec.ofChange Rows.fnExactPlaySpec).preRow enc prog f4 Rows.fnExactPlayRow.domain false Rows.fnExactPlayRow.laid) (((OpenSpec.ofChange Rows.fnExactPlaySpec).at F).post enc prog f4 false true false false):=by
 obtain⟨places,hx⟩:=reads os enc;refine returnsInHanded_of_row (C:=checked) (s:=OpenSpec.ofChange Rows.fnExactPlaySpec) own started (by kernel_rfl) func4
  (witness_row_at (enc:=enc) (C:=checked) false (Ll (World.holding prog os ⟨#[],#[],[]⟩)) #[D0] rfl (by kernel_rfl) (by kernel_rfl) (by kernel_rfl)
   (OpenSpec.preRow_of_cond 8 hx (by kernel_rfl) (fun k hk=>by cases hk) (by kernel_rfl) (YP os))) ?_
 intro W base args ds gs before hval a _ _ _ b _ _;exact contract H enc W base args ds gs before hval a b
theorem closed:joinedFacts Tryz.pinned.checked.prog 4 f4 (OpenSpec.ofChange Rows.fnExactPlaySpec).bare Rows.fnExactPlayRow=true:=by
 unfold joinedFacts;simp only[To];repeat' apply And.intro
 all_goals(as_aux_lemma=>kernel_rfl)
theorem said:Rows.FnExactPlaySaid:=
 OpenClaim.holds_of_cond 4 f4 rfl rfl rfl rfl rfl rfl rfl ⟨rfl,rfl,rfl,rfl,rfl⟩ rfl rfl rfl rfl rfl (by kernel_rfl) func4 closed
  (of_decide_eq_true (by kernel_rfl)) (by unfold Func.isWrapper;first|(rw[DD (by decide +kernel)];kernel_rfl)|(rw[C3 (by decide +kernel)];exact⟨rfl,rfl⟩))
  (fun os started H enc _ F=>by rw[OpenClaim.pre_eq_preRow];exact lifted os started H enc F)
theorem plain(f:FuncId)(fn:Func)(hf:Tryz.pinned.checked.prog.funcNamed "loop.example/shuttle/laws.FnExactPlay" =some f)(a:Tryz.pinned.checked.prog.funcs[f]?=some fn):
  true=Tryz.pinned.checked.prog.looks []/\∀(j:Nat) t,fn.params[j]?=some t->Tryz.pinned.checked.prog.wantsStandIn t=false:=by
 obtain rfl:f=4:=Aap ((show prog.funcNamed "loop.example/shuttle/laws.FnExactPlay" =some 4 by kernel_rfl).symm.trans hf) |>.symm;obtain rfl:fn=f4:=(Aap (func4.symm.trans a)).symm;refine⟨by kernel_rfl,fun j t b=>?_⟩;rw[params4]at b;obtain rfl:t=58:=by simpa using Array.mem_of_getElem? b
 exact(show prog.wantsStandIn 58=false by kernel_rfl)
end QY
theorem play_holds:Rows.FnExactPlayCardSaid:=
 Claim7.holds_tied_plain_at .later [] _ _ _ _ QY.said (fun _ h=>by cases h) (by kernel_rfl) (fun _ h=>by cases h) fnExactPlay_row_tie rfl ⟨rfl,rfl⟩ (by kernel_rfl) rfl QY.plain (by kernel_rfl)
#print axioms play_holds
end
end Go.Proofs.YtgmlkfgfjjggnaaGreatDoor
