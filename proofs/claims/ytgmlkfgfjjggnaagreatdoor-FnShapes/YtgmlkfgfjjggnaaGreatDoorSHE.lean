import Derived.Test.YtgmlkfgfjjggnaaGreatDoorSAA
import Derived.Test.YtgmlkfgfjjggnaaGreatDoorSAB
import Derived.Test.YtgmlkfgfjjggnaaGreatDoorSAC
import Derived.Test.YtgmlkfgfjjggnaaGreatDoorSAD
import Derived.Test.YtgmlkfgfjjggnaaGreatDoorSAE
import Derived.Test.YtgmlkfgfjjggnaaGreatDoorSAF
import Derived.Test.YtgmlkfgfjjggnaaGreatDoorSAG
import Derived.Test.YtgmlkfgfjjggnaaGreatDoorSAH
import Derived.Test.YtgmlkfgfjjggnaaGreatDoorSAI
import Derived.Test.YtgmlkfgfjjggnaaGreatDoorSAJ
import Derived.Test.YtgmlkfgfjjggnaaGreatDoorSAK
import Derived.Test.YtgmlkfgfjjggnaaGreatDoorSAL
import Derived.Test.YtgmlkfgfjjggnaaGreatDoorSAM
import Derived.Test.YtgmlkfgfjjggnaaGreatDoorSAN
import Derived.Test.YtgmlkfgfjjggnaaGreatDoorSAO
import Derived.Test.YtgmlkfgfjjggnaaGreatDoorSAP
import Derived.Test.YtgmlkfgfjjggnaaGreatDoorSAQ
import Derived.Test.YtgmlkfgfjjggnaaGreatDoorSAR
import Derived.Test.YtgmlkfgfjjggnaaGreatDoorSAS
import Derived.Test.YtgmlkfgfjjggnaaGreatDoorSAT
import Derived.Test.YtgmlkfgfjjggnaaGreatDoorSAU
import Derived.Test.YtgmlkfgfjjggnaaGreatDoorSAV
import Derived.Test.YtgmlkfgfjjggnaaGreatDoorSAW
import Derived.Test.YtgmlkfgfjjggnaaGreatDoorSAX
import Derived.Test.YtgmlkfgfjjggnaaGreatDoorSAY
import Derived.Test.YtgmlkfgfjjggnaaGreatDoorSAZ
import Derived.Test.YtgmlkfgfjjggnaaGreatDoorSBA
import Derived.Test.YtgmlkfgfjjggnaaGreatDoorSBB
import Derived.Test.YtgmlkfgfjjggnaaGreatDoorSBC
import Derived.Test.YtgmlkfgfjjggnaaGreatDoorSBD
import Derived.Test.YtgmlkfgfjjggnaaGreatDoorSBE
import Derived.Test.YtgmlkfgfjjggnaaGreatDoorSBF
import Derived.Test.YtgmlkfgfjjggnaaGreatDoorSBG
import Derived.Test.YtgmlkfgfjjggnaaGreatDoorSBH
import Derived.Test.YtgmlkfgfjjggnaaGreatDoorSBI
import Derived.Test.YtgmlkfgfjjggnaaGreatDoorSBJ
import Derived.Test.YtgmlkfgfjjggnaaGreatDoorSBK
import Derived.Test.YtgmlkfgfjjggnaaGreatDoorSBL
import Derived.Test.YtgmlkfgfjjggnaaGreatDoorSHA
import Derived.Test.YtgmlkfgfjjggnaaGreatDoorRows
import Derived.Test.YtgmlkfgfjjggnaaGreatDoorSHD
import Derived.LaidSub
import Derived.LaidHandle
import Derived.OpenShut
import Derived.Test.YtgmlkfgfjjggnaaGreatDoorCards
import Derived.Test.YtgmlkfgfjjggnaaGreatDoorTie
set_option linter.unusedVariables false
set_option linter.unusedSimpArgs false
set_option maxHeartbeats 40000000
set_option maxRecDepth 100000
namespace Go.Proofs.YtgmlkfgfjjggnaaGreatDoor
section
open Go.ChangeShapes Go.WideShapes Go.ChangeAt Go.RowKit
namespace shapesLaw
theorem et:Tryz.prog.globalNamed "errors.errorType" =some 0:=by kernel_rfl
theorem rt:(Tryz.prog.cutTypes.find? (·.1== "internal/reflectlite.rtype")).map (·.2)=some 341:=by kernel_rfl
theorem oneRow:((List.range 424).filter fun t=>Tryz.prog.rowNamed t [101,114,114,111,114])=[200]:=by kernel_rfl
theorem size:Tryz.prog.types.size=424:=by kernel_rfl
theorem errG{W:World}(h:laidMetH Tryz.prog Rows.fnShapesRow.laid W):ErrG W:=by
 have h1:=laidMetH.filter (fun x=>x.1== "errors.errorType") h
 have e:(Rows.fnShapesRow.laid.filter fun x=>x.1== "errors.errorType")=[("errors.errorType",Rows.laid_errors_errorType)]:=by kernel_rfl
 rw[e]at h1
 have h':laidMet Tryz.prog [] W/\handlesMet Tryz.prog [("errors.errorType",Rows.laid_errors_errorType)] W:=h1
 obtain⟨name,u,ty,e1,e2,e3,e4,e5⟩:=h'.2 _ (List.mem_singleton.2 rfl)
 have en:name=[101,114,114,111,114]:=(Option.some.inj e1).symm
 subst en
 obtain rfl:=Option.some.inj (rt.symm.trans e2)
 have hm:ty∈(List.range 424).filter fun t=>Tryz.prog.rowNamed t [101,114,114,111,114]:=List.mem_filter.2 ⟨List.mem_range.2 (by rw[<-size];exact e3),e4⟩
 rw[oneRow]at hm
 obtain rfl:=List.mem_singleton.1 hm
 have hh:typeHandle Tryz.prog 200=.pointer (some ⟨5,200,none⟩):=by kernel_rfl
 rw[hh]at e5
 show W.cell? ⟨0,0,none⟩=some ErrT
 simpa using World.var?_cell et e5 0
abbrev S0:Value:=.slice none 0 0
theorem great(a:Option Addr)(len cap:Nat)(w:World)(h:(1048576:Int)<len):
  Calls Tryz.prog 7 #[.slice a len cap] w fun e w'=>e=.returned (.bool true)/\Below w.heap.size w w':=by
 go_enter Tryz.func7,Tryz.ntmps7
 go_wp2_with fail
 go_ret
 exact⟨rfl,Below.refl _ _⟩
theorem all(a:Option Addr)(len cap:Nat)(w:World)(hT:Tabs w)(hE:ErrG w)(hcode:len<=1048576->CodeAt w w.heap.size a len):
  Calls Tryz.prog 7 #[.slice a len cap] w fun e w'=>e=.returned (.bool true)/\Below w.heap.size w w':=by
 by_cases h:len<=1048576
 ·exact law_shapes a len cap w hT hE (hcode h) (by omega)
 ·exact great a len cap w (by omega)
def withTabsE(w:World):World:={withTabs w with heap:=(withTabs w).heap.modify 0 (setTab #[ErrT])}
theorem laid_met(os:Os):laidMetH Tryz.prog Rows.fnShapesRow.laid ((withTabsE (World.holding Tryz.prog os ⟨#[],#[],[]⟩)).forCall (fun _ _=>0) ⟨#[],#[S0],[]⟩).memory:=
 laidMetH_of_parts (laidMet_of_run' 8 (by kernel_rfl) (by kernel_rfl)) (by kernel_rfl)
theorem reads(os:Os){H:Type}(enc:TypeId×Value->H):∃places,DataW.whole enc Tryz.prog ((withTabsE (World.holding Tryz.prog os ⟨#[],#[],[]⟩)).forCall (fun _ _=>0) ⟨#[],#[S0],[]⟩).memory Tryz.f7.params.toList Rows.fnShapesSpec.vars false #[S0].toList 8=some ([.nil],[],places):=
 ⟨[],by kernel_rfl⟩
theorem laid_is:(Rows.fnShapesRow.laid.filter fun x=>x.1 != "errors.errorType")=laid3:=by kernel_rfl
theorem tabs{W:World}(h:laidMetH Tryz.prog Rows.fnShapesRow.laid W):Tabs W:=by
 have h1:=laidMetH.filter (fun x=>x.1 != "errors.errorType") h
 rw[laid_is]at h1;exact tabs_of h1
theorem contract(H:Type)(enc:TypeId×Value->H)(W:World)(base:Nat)(args:Array Value)(ds gs:List (DataW H))(before:List MemPlace)
  (hval:∀(j:Nat) t v,Tryz.f7.params[j]?=some t->args[j]?=some v->Value.okWide Tryz.prog W .any base t v)
  (hW:DataW.Whole enc Tryz.prog Tryz.f7.params.toList Rows.fnShapesSpec.vars false W args.toList ds gs before) (hL:laidMetH Tryz.prog Rows.fnShapesRow.laid W):
  Calls Tryz.prog 7 args W fun e W'=>∃v,e=.returned v/\Rows.fnShapesSpec.post enc Tryz.prog Tryz.f7 false true false false W args v W':=by
 have hW':=hW
 obtain⟨p,q,hA0,hV,rfl,hfz,hnd⟩:=hW
 have hA:DataW.TrodAll enc Tryz.prog W 0 (fun _=>true) true Tryz.f7.params.toList args.toList ds p:=hA0
 rw[Tryz.params7]at hA hval
 obtain⟨v0,vs0,d0,ds0,p0,q0,hargs,rfl,rfl,h0,r0⟩:=trodAll_cons hA
 obtain⟨rfl,rfl,rfl⟩:=trodAll_nil r0
 obtain rfl:args=#[v0]:=by cases args;simp_all
 obtain⟨rfl,rfl⟩:=trodVars_none hV
 have k0:=h0
 have lt0:∀x∈p0,x.block<W.heap.size:=by obtain⟨m,hm⟩:=k0;exact DataW.trod_lt m _ _ _ hm
 obtain⟨a0,len0,cap0,rfl⟩:=okWide_slice Tryz.underlying71 (hval 0 71 v0 rfl rfl)
 have hcode:len0<=1048576->CodeAt W W.heap.size a0 len0:=by
  intro hle
  refine⟨by omega,?_⟩
  obtain⟨fuel,hf⟩:=h0
  rcases open_ints Tryz.underlying71 Tryz.underlying5 (by kernel_rfl) hf with⟨hcs,_⟩|⟨x,l,c,zs,hcs,_,hl,hm,hz,_,hcell,hwz⟩
  ·simp[Value.cells]at hcs
   obtain⟨rfl,rfl,rfl⟩:=hcs
   exact .inl rfl
  ·simp[Value.cells]at hcs
   obtain⟨rfl,rfl,rfl⟩:=hcs
   by_cases hl0:len0=0
   ·exact .inl hl0
   ·right
    have hzl:len0<=zs.length:=by rw[hz];split<;>omega
    have hlz:∀i,i<len0->W.cell? (x.add i)=some (.int .u8 (zs.getD i 0)):=fun i hi=>hcell i (by omega)
    obtain⟨b,off,spot⟩:=x
    have h00:=hlz 0 (by omega)
    have hspot:spot=none:=by simpa[Addr.add]using World.cell?_spot h00
    subst hspot
    refine⟨b,off,rfl,?_,fun i hi=>?_⟩
    ·have:=World.block_lt_of_cell? _ _ h00
     simpa[Addr.add]using this
    ·have e:Addr.add ⟨b,off,none⟩ i=⟨b,off+i,none⟩:=by by_cases h:i=0<;>simp[Addr.add,h]
     refine⟨zs.getD i 0,by rw[<-e];exact hlz i hi,?_⟩
     have hm':zs.getD i 0∈zs:=by
      rw[List.getD_eq_getElem?_getD,List.getElem?_eq_getElem (by omega)]
      exact List.getElem_mem _
     have:=hwz _ hm'
     simp only[Lit.wf,Bool.and_eq_true,decide_eq_true_eq]at this
     have e1:IntKind.u8.min=0:=by decide
     have e2:IntKind.u8.max=255:=by decide
     rw[e1,e2]at this
     omega
 clear hA0
 refine(all a0 len0 cap0 W (tabs hL) (errG hL) hcode).mono fun e W' ⟨he,bel⟩=>?_
 subst he
 exact⟨_,rfl,_,_,_,[],_,[],hW',trodAll_mk1 (shut_bool Tryz.underlying4 _),(trodAll_cons_mk (Below.trod laidOut (by kernel_rfl) (of_decide_eq_true (by kernel_rfl)) k0 bel lt0) trodAll_mk0),rfl,bel.frame _,fun h=>by cases h⟩
theorem lifted(os:Os)(started:os.Started)(H:Type)(enc:TypeId×Value->H)(F:Go.Stop.Interp):
  ReturnsInHanded {} Tryz.checked os 7 .any ((OpenSpec.ofChange Rows.fnShapesSpec).preRow enc Tryz.prog Tryz.f7 Rows.fnShapesRow.domain false Rows.fnShapesRow.laid) (((OpenSpec.ofChange Rows.fnShapesSpec).at F).post enc Tryz.prog Tryz.f7 false true false false):=by
 obtain⟨places,hx⟩:=reads os enc
 refine returnsInHanded_of_row (C:=Tryz.checked) (s:=OpenSpec.ofChange Rows.fnShapesSpec) own started (by kernel_rfl) Tryz.func7
  (witness_row_at (enc:=enc) (C:=Tryz.checked) false (withTabsE (World.holding Tryz.prog os ⟨#[],#[],[]⟩)) #[S0] rfl (by kernel_rfl) (by kernel_rfl) (by kernel_rfl)
   (OpenSpec.preRow_of_cond 8 hx (by kernel_rfl) (fun k hk=>by cases hk) (by kernel_rfl) (laid_met os))) ?_
 intro W base args ds gs before hval hW _ _ _ hL _ _
 exact contract H enc W base args ds gs before hval hW hL
theorem closed:joinedFacts Tryz.pinned.checked.prog 7 Tryz.f7 (OpenSpec.ofChange Rows.fnShapesSpec).bare Rows.fnShapesRow=true:=by
 unfold joinedFacts
 simp only[Bool.and_eq_true]
 repeat' apply And.intro
 all_goals(as_aux_lemma=>kernel_rfl)
theorem said:Rows.FnShapesSaid:=
 OpenClaim.holds_of_cond 7 Tryz.f7 rfl rfl rfl rfl rfl rfl rfl ⟨rfl,rfl,rfl,rfl,rfl⟩ rfl rfl rfl rfl rfl (by kernel_rfl) Tryz.func7 closed
  (of_decide_eq_true (by kernel_rfl)) (by unfold Func.isWrapper;first|(rw[if_pos (by decide +kernel)];kernel_rfl)|(rw[if_neg (by decide +kernel)];exact⟨rfl,rfl⟩))
  (fun os started H enc _ F=>by rw[OpenClaim.pre_eq_preRow];exact lifted os started H enc F)
theorem plain(f:FuncId)(fn:Func)(hf:Tryz.pinned.checked.prog.funcNamed "loop.example/shuttle/laws.FnShapes" =some f)(hfn:Tryz.pinned.checked.prog.funcs[f]?=some fn):
  true=Tryz.pinned.checked.prog.looks []/\∀(j:Nat) t,fn.params[j]?=some t->Tryz.pinned.checked.prog.wantsStandIn t=false:=by
 obtain rfl:f=7:=Option.some.inj ((show Tryz.prog.funcNamed "loop.example/shuttle/laws.FnShapes" =some 7 by kernel_rfl).symm.trans hf) |>.symm
 obtain rfl:fn=Tryz.f7:=(Option.some.inj (Tryz.func7.symm.trans hfn)).symm
 refine⟨by kernel_rfl,fun j t ht=>?_⟩
 rw[Tryz.params7]at ht
 have hm:t=71:=by simpa using Array.mem_of_getElem? ht
 subst hm
 exact(show Tryz.prog.wantsStandIn 71=false by kernel_rfl)
end shapesLaw
theorem shapes_holds:Rows.FnShapesCardSaid:=
 Claim7.holds_tied_plain_at .later [] _ _ _ _ shapesLaw.said (fun _ h=>by cases h) (by kernel_rfl) (fun _ h=>by cases h) fnShapes_row_tie rfl ⟨rfl,rfl⟩ (by kernel_rfl) rfl shapesLaw.plain (by kernel_rfl)
#print axioms shapes_holds
end
end Go.Proofs.YtgmlkfgfjjggnaaGreatDoor
