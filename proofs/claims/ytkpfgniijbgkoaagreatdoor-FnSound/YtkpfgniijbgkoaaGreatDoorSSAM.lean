import Derived.Test.YtkpfgniijbgkoaaGreatDoorSSAL
import Derived.Test.YtkpfgniijbgkoaaGreatDoorCards
import Derived.Test.YtkpfgniijbgkoaaGreatDoorTie
set_option linter.all false
set_option maxHeartbeats 40000000
set_option maxRecDepth 100000
namespace Go.Proofs.YtkpfgniijbgkoaaGreatDoor
open Go.Proofs.Tryz
section
open Go.ChangeShapes Go.WideShapes Go.ChangeAt Go.RowKit
namespace P7
theorem et:prog.globalNamed "errors.errorType" =some 0:=by kernel_rfl
theorem rt:(prog.cutTypes.find? (·.1== "internal/reflectlite.rtype")).map (·.2)=some 222:=by kernel_rfl
theorem sP:((List.range 323).filter λt=>prog.rowNamed t [101,114,114,111,114])=[119]:=by kernel_rfl
theorem size:prog.types.size=323:=by kernel_rfl
theorem xO{W:Y}(h:laidMetH prog Rows.fnSoundRow.laid W):Ib W:=by
 have h1:=laidMetH.filter (λx=>x.1== "errors.errorType") h;have e:(Rows.fnSoundRow.laid.filter λx=>x.1== "errors.errorType")=[("errors.errorType",Rows.laid_errors_errorType)]:=by kernel_rfl
 rw[e]at h1;have h':laidMet prog [] W/\handlesMet prog [("errors.errorType",Rows.laid_errors_errorType)] W:=h1;obtain⟨name,u,ty,e1,e2,e3,c,a⟩:=h'.2 _ (List.mem_singleton.2 rfl);have en:name=[101,114,114,111,114]:=(Aai e1).symm;subst en;obtain rfl:=Aai (rt.symm.trans e2);have b:ty∈(List.range 323).filter λt=>prog.rowNamed t [101,114,114,111,114]:=List.mem_filter.2 ⟨List.mem_range.2 (by rw[<-size];exact e3),c⟩;rw[sP]at b;obtain rfl:=List.mem_singleton.1 b;have hh:typeHandle prog 119=.pointer (some (G 5 119)):=by kernel_rfl
 rw[hh]at a;show W.cell? (G 0 0)=some cC;simpa using World.var?_cell et a 0
abbrev S0:Value:=N9
theorem vD(a:T9)(len cap:Nat)(w:Y)(h:(1048576:Int)<len):
  C9 3 #[.slice a len cap] w (R9 (.bool true) w):=by
 go_enter func3,ntmps3;go_wp2_with fail;go_ret;exact⟨rfl,BE _ _⟩
theorem lN{a:Option Addr}{len}cap{w}(h:VW w w.heap.size a len):∃C,QZ ⟨a,len,cap,C⟩ w w.heap.size:=by
 obtain⟨h1,h2⟩:=h;rcases h2 with h2|⟨k,off,e,hk,hc⟩
 .exact⟨λ_=>0,h1,.inl h2⟩
 .refine⟨λi=>if h:i<len then(hc i h).choose else 0,h1,.inr ⟨k,off,e,hk,λi hi=>?_⟩⟩;have:=(hc i hi).choose_spec;simp only[dif_pos hi];exact this
theorem all(a)(len cap)(w)(c:BZ w)(d:Ib w)(b:len<=1048576->VW w w.heap.size a len):
  C9 3 #[.slice a len cap] w (R9 (.bool true) w):=by
 by_cases h:len<=1048576
 .obtain⟨C,e⟩:=lN cap<|b h;exact ZW (K:=⟨a,len,cap,C⟩) w e (by show(len:Int)<=1048576;omega) c d
 .exact vD a len cap w om
def M3(w:Y):World:={VI w with heap:=(VI w).heap.modify 0 (Gs #[cC])}
theorem fO os:laidMetH prog Rows.fnSoundRow.laid ((M3<|World.holding prog os ⟨#[],#[],[]⟩).forCall (λ_ _=>0) ⟨#[],#[S0],[]⟩).memory:=
 laidMetH_of_parts (laidMet_of_run' 8 (by kernel_rfl)<|by kernel_rfl) (by kernel_rfl)
theorem reads os{H}(enc:TypeId×Value->H):∃places,DataW.whole enc prog ((M3<|World.holding prog os ⟨#[],#[],[]⟩).forCall (λ_ _=>0) ⟨#[],#[S0],[]⟩).memory f3.params.toList Rows.fnSoundSpec.vars false #[S0].toList 8=some ([.nil],[],places):=
 ⟨[],by kernel_rfl⟩
theorem mT:(Rows.fnSoundRow.laid.filter λx=>x.1 != "errors.errorType")=Nr:=by kernel_rfl
theorem tabs{W:Y}(h:laidMetH prog Rows.fnSoundRow.laid W):BZ W:=by
 have h1:=laidMetH.filter (λx=>x.1 != "errors.errorType") h;rw[mT]at h1;exact oL h1
theorem contract(H)(enc)(W:Y)(base)(args)(ds gs:List<|DataW H)(before)
  (hval:∀(j:Nat) t v,f3.params[j]?=some t->args[j]?=some v->Value.okWide prog W .any base t v)
  (E:DataW.Whole enc prog f3.params.toList Rows.fnSoundSpec.vars false W args.toList ds gs before) (F:laidMetH prog Rows.fnSoundRow.laid W):
  C9 3 args W λe W'=>∃v,e=.returned v/\Rows.fnSoundSpec.post enc prog f3 false true false false W args v W':=by
 have u:=E;obtain⟨p,q,k,L,rfl,M,P⟩:=E;have hA:DataW.TrodAll enc prog W 0 (λ_=>true) true f3.params.toList args.toList ds p:=k;rw[params3]at hA hval;obtain⟨v0,Q,d0,zK,R,V,w,rfl,rfl,I,r0⟩:=trodAll_cons hA;obtain⟨rfl,rfl,rfl⟩:=trodAll_nil r0;obtain rfl:args=#[v0]:=by cases args;simp_all
 obtain⟨rfl,rfl⟩:=trodVars_none L;have k0:=I;have A:∀x∈R,x.block<W.heap.size:=by obtain⟨m,K⟩:=k0;exact DataW.trod_lt m _ _ _ K
 obtain⟨a0,a,n,rfl⟩:=okWide_slice underlying22<|hval 0 22 v0 rfl rfl;have d:a<=1048576->VW W W.heap.size a0 a:=by
  intro S;refine⟨om,?_⟩;obtain⟨fuel,hf⟩:=I;rcases open_ints underlying22 underlying5 (by kernel_rfl) hf with⟨hcs,_⟩|⟨x,l,c,o,hcs,_,hl,K,hz,_,f,B⟩
  .simp[Value.cells]at hcs;obtain⟨rfl,rfl,rfl⟩:=hcs;exact .inl rfl
  .simp[Value.cells]at hcs;obtain⟨rfl,rfl,rfl⟩:=hcs;by_cases C:a=0
   .exact .inl C
   .right;have T:a<=o.length:=by rw[hz];split<;>omega
    have r:∀i,i<a->W.cell? (x.add i)=some (.int .u8<|o.getD i 0):=λi hi=>f i om;obtain⟨b,off,spot⟩:=x;have s:=r 0 om;have g:spot=none:=by simpa[Addr.add]using World.cell?_spot s
    subst g;refine⟨b,off,rfl,?_,λi hi=>?_⟩
    .have:=I9 _ _ s;simpa[Addr.add]using this
    .have e:Addr.add (G b off) i=(G b<|off+i):=by by_cases h:i=0<;>simp[Addr.add,h]
     refine⟨o.getD i 0,by rw[<-e];exact r i hi,?_⟩;have D:o.getD i 0∈o:=by
      rw[List.getD_eq_getElem?_getD,List.getElem?_eq_getElem om];exact List.getElem_mem _
     have:=B _ D;simp only[Lit.wf,AaC,decide_eq_true_eq]at this;have e1:IntKind.u8.min=0:=by decide
     have e2:IntKind.u8.max=255:=by decide
     rw[e1,e2]at this;omega
 clear k;refine(all a0 a n W (tabs F) (xO F) d).mono λe W' ⟨U,C7⟩=>?_;subst U;exact⟨_,rfl,_,_,_,[],_,[],u,trodAll_mk1<|shut_bool underlying4 _,trodAll_cons_mk (Below.trod laidOut (by kernel_rfl) (of_decide_eq_true<|by kernel_rfl) k0 C7 A) trodAll_mk0,rfl,C7.frame _,λh=>by cases h⟩
theorem lifted(os)(started:os.Started)(H)(enc:TypeId×Value->H)(F):
  ReturnsInHanded {} checked os 3 .any ((OpenSpec.ofChange Rows.fnSoundSpec).preRow enc prog f3 Rows.fnSoundRow.domain false Rows.fnSoundRow.laid) (((OpenSpec.ofChange Rows.fnSoundSpec).at F).post enc prog f3 false true false false):=by
 obtain⟨places,a⟩:=reads os enc;refine returnsInHanded_of_row (C:=checked) (s:=OpenSpec.ofChange Rows.fnSoundSpec) own started (by kernel_rfl) func3
  (witness_row_at (enc:=enc) (C:=checked) false (M3<|World.holding prog os ⟨#[],#[],[]⟩) #[S0] rfl (by kernel_rfl) (by kernel_rfl) (by kernel_rfl)
   (OpenSpec.preRow_of_cond 8 a (by kernel_rfl) (λk hk=>by cases hk) (by kernel_rfl) (fO os))) ?_
 intro W base args ds gs before hval b _ _ _ c _ _;exact contract H enc W base args ds gs before hval b c
theorem closed:joinedFacts Tryz.pinned.checked.prog 3 f3 (OpenSpec.ofChange Rows.fnSoundSpec).bare Rows.fnSoundRow=true:=by
 unfold joinedFacts;simp only[AaC];repeat' apply And.intro
 all_goals(as_aux_lemma=>kernel_rfl)
theorem said:Rows.FnSoundSaid:=
 OpenClaim.holds_of_cond 3 f3 rfl rfl rfl rfl rfl rfl rfl ⟨rfl,rfl,rfl,rfl,rfl⟩ rfl rfl rfl rfl rfl (by kernel_rfl) func3 closed
  (of_decide_eq_true<|by kernel_rfl) (by unfold Func.isWrapper;first|(rw[DD (by decide +kernel)];kernel_rfl)|(rw[C3 (by decide +kernel)];exact⟨rfl,rfl⟩))
  (λos started H enc _ F=>by rw[OpenClaim.pre_eq_preRow];exact lifted os started H enc F)
theorem plain(f)(fn)(hf:Tryz.pinned.checked.prog.funcNamed "loop.example/shuttle/laws.FnSound" =some f)(a:Tryz.pinned.checked.prog.funcs[f]?=some fn):
  true=Tryz.pinned.checked.prog.looks []/\∀(j:Nat) t,fn.params[j]?=some t->Tryz.pinned.checked.prog.wantsStandIn t=false:=by
 obtain rfl:f=3:=Aai ((show prog.funcNamed "loop.example/shuttle/laws.FnSound" =some 3 by kernel_rfl).symm.trans hf) |>.symm;obtain rfl:fn=f3:=(Aai (func3.symm.trans a)).symm;refine⟨by kernel_rfl,λj t b=>?_⟩;rw[params3]at b;have c:t=22:=by simpa using Array.mem_of_getElem? b
 subst c;exact(show prog.wantsStandIn 22=false by kernel_rfl)
end P7
theorem sound_holds:Rows.FnSoundCardSaid:=
 Claim7.holds_tied_plain_at .later [] _ _ _ _ P7.said (λ_ h=>by cases h) (by kernel_rfl) (λ_ h=>by cases h) fnSound_row_tie rfl ⟨rfl,rfl⟩ (by kernel_rfl) rfl P7.plain (by kernel_rfl)
#print axioms sound_holds
end
end Go.Proofs.YtkpfgniijbgkoaaGreatDoor
