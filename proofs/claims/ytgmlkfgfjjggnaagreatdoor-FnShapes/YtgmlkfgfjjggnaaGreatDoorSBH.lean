import Derived.Test.YtgmlkfgfjjggnaaGreatDoorSAR
import Derived.Test.YtgmlkfgfjjggnaaGreatDoorSBG
import Derived.Test.YtgmlkfgfjjggnaaGreatDoorSAO
import Derived.Test.YtgmlkfgfjjggnaaGreatDoorSAP
import Derived.Test.YtgmlkfgfjjggnaaGreatDoorSBF
set_option linter.unusedVariables false
set_option linter.unusedSimpArgs false
set_option maxHeartbeats 40000000
set_option maxRecDepth 100000
namespace Go.Proofs.YtgmlkfgfjjggnaaGreatDoor
section
open Go.RowKit
attribute [local go_sem] run_store_float run_equalIn_float run_store_func
section
variable {Z:Nat->Prop} {w w2 w3:World} {c B0:Nat} {vN vT vS:Value} {Bk:Nat->Nat} {A:Nat->Ad} {s s':Sto} {x0:An} {e:Ending}
theorem Deed.fin{rb z1:Nat}(hd0:Dst (OwnW B0 c vN vT vS w) w (OwnW B0 c vN vT vS w2) w2)(h:Deed (ZB Z w.heap.size z1) c B0 vN vT vS s' x0 w2 e w3)(hcw:B0<=w.heap.size)(hwb:w.heap.size<=rb)(hz:rb<z1)(hr:RBx w3 rb):
  ∃x cd,e=.returned (.tuple #[AnV x,errV cd])/\∀w4,Stored w3 w4 rb (anL x).toArray 45->Deed Z c B0 vN vT vS s' x0 w (.returned (.tuple #[AnV x,errV cd])) w4:=by
 obtain⟨x,cd,vN',vT',vS',vU',he,hd,h⟩:=h
 refine⟨x,cd,he,fun w4 hst=>?_⟩
 rcases h with⟨e1,e2,Bk',A',m3⟩|⟨e1,e2,u3⟩
 ·obtain⟨f1,f2⟩:=m3.finA (hd0.trans hd) hcw hwb hz hr hst
  exact⟨x,cd,vN',vT',vS',vU',rfl,f2,.inl ⟨e1,e2,Bk',A',f1⟩⟩
 ·obtain⟨f1,f2⟩:=u3.finA (hd0.trans hd) hcw hwb hz hr hst
  exact⟨x,cd,vN',vT',vS',vU',rfl,f2,.inr ⟨e1,e2,f1⟩⟩
theorem Deed.dst{s':Sto}(h:Deed Z c B0 vN vT vS s' x0 w2 e w3):∃vN' vT' vS',Dst (OwnW B0 c vN vT vS w2) w2 (OwnW B0 c vN' vT' vS' w3) w3:=by
 obtain⟨x,cd,vN',vT',vS',vU',he,hd,h⟩:=h
 exact⟨_,_,_,hd⟩
end
def DeedOf(a:Ac):Prop:=∀(Z:Nat->Prop) (c B0:Nat) (vN vT vS:Value) (Bk:Nat->Nat) (A:Nat->Ad) (s:Sto) (w:World),WkM Z w c B0 vN vT vS (.slice none 0 0) Bk A s->SGd s->Tabs w->chk a s.nt s.ns=0->Wf a.k->5<=B0->
  ∃F:Nat,(∀w,(Instr.index 149 deedsV (.int .i64 a.op)).run Tryz.prog w=.ok (.agg #[.int .i64 (nmI a.op),.func (.func F) #[] #[]]) w)/\(∀args w,(callFunc F args).run Tryz.prog w=.ok (.enter F args) w)/\∀w2,Below w.heap.size w w2->Calls Tryz.prog F #[.pointer (some ⟨c,0,none⟩),AcV a] w2 fun e w3=>Deed Z c B0 vN vT vS (stepC s a) (ansS s a) w2 e w3
theorem deed_1{a:Ac}(h:a.op=1):DeedOf a:=by
 intro Z c B0 vN vT vS Bk A s w hM hG hT hc hwk hB0
 obtain⟨c1,c2,c3,c4⟩:=chk_ok hc
 obtain⟨r1,r2,rk,rv,r5,r6,r7⟩:=actB_rng c1
 have hM2:∀w2,Below w.heap.size w w2->WkM Z w2 c B0 vN vT vS (.slice none 0 0) Bk A s:=fun w2 h=>(hM.below h).1
 have hT2:∀w2,Below w.heap.size w w2->Tabs w2:=fun w2 h=>lastsT _ _ hT h
 have htab:tabB a.op=true->∃t:Nat,a.t=t/\t<s.nt/\a.t.toNat=t:=fun h=>⟨a.t.toNat,by omega,by have:=c2 h;omega,rfl⟩
 have hsit:sitB a.op=true->∃i:Nat,a.site=i/\i<s.ns/\a.site.toNat=i:=fun h=>⟨a.site.toNat,by omega,by have:=c3 h;omega,rfl⟩
 refine⟨141,by rw[h];exact fun w=>by kernel_rfl,fun args w=>by kernel_rfl,fun w2 h2=>?_⟩
 have hS:stepC s a=if s.nt=100 then s else{s with nt:=s.nt+1,T:=up1 s.T s.nt tb0}:=by unfold stepC;rw[if_pos h]
 have hN:ansS s a=if s.nt=100 then ansC 5 else ansN s.nt:=by unfold ansS;rw[if_pos h]
 obtain⟨f1,_⟩:=forestOk_zero hG.f
 refine(wAddTable_any Z c B0 vN vT vS Bk A s a w2 (hM2 w2 h2) hG.nt (by have:=f1.1;omega)).mono ?_
 rintro e w3 ⟨vT',vU',A',m3,d3,e1,e2⟩
 by_cases hn:s.nt=100
 ·obtain⟨e3,gu,cu,bw,bn,hU⟩:=e2 hn
  rw[hS,hN,if_pos hn,if_pos hn]
  refine⟨ansC 0,5,vN,vT',vS,vU',e3,d3,.inr ⟨by decide,rfl,Bk,A',_,m3,.inr (.inl ⟨s.nt,gu,cu,bw,bn,hU,Nat.le_succ _,Nat.succ_pos _,by show s.nt+1<=200;omega,⟨rfl,rfl,rfl,rfl,fun i hi=>?_,fun _ _=>rfl⟩⟩)⟩⟩
  exact up1_other _ _ (by have hi:i<s.nt:=hi;omega)
 ·rw[hS,hN,if_neg hn,if_neg hn]
  exact⟨ansN s.nt,0,vN,vT',vS,vU',e1 hn,d3,.inl ⟨rfl,rfl,Bk,A',m3⟩⟩
theorem deed_2{a:Ac}(h:a.op=2)(hRR:RareC (kval a.k) a.v):DeedOf a:=by
 intro Z c B0 vN vT vS Bk A s w hM hG hT hc hwk hB0
 obtain⟨c1,c2,c3,c4⟩:=chk_ok hc
 obtain⟨r1,r2,rk,rv,r5,r6,r7⟩:=actB_rng c1
 have hM2:∀w2,Below w.heap.size w w2->WkM Z w2 c B0 vN vT vS (.slice none 0 0) Bk A s:=fun w2 h=>(hM.below h).1
 have hT2:∀w2,Below w.heap.size w w2->Tabs w2:=fun w2 h=>lastsT _ _ hT h
 have htab:tabB a.op=true->∃t:Nat,a.t=t/\t<s.nt/\a.t.toNat=t:=fun h=>⟨a.t.toNat,by omega,by have:=c2 h;omega,rfl⟩
 have hsit:sitB a.op=true->∃i:Nat,a.site=i/\i<s.ns/\a.site.toNat=i:=fun h=>⟨a.site.toNat,by omega,by have:=c3 h;omega,rfl⟩
 refine⟨142,by rw[h];exact fun w=>by kernel_rfl,fun args w=>by kernel_rfl,fun w2 h2=>?_⟩
 obtain⟨t,et,ht,en⟩:=htab (by simp[tabB,h])
 have hS:stepC s a=putS s t (kval a.k) a.v:=by unfold stepC;rw[if_neg (by omega),if_neg (by omega),if_pos h,en]
 have hN:ansS s a=ansC (putC s t (kval a.k) a.v):=by unfold ansS;rw[if_neg (by omega),if_neg (by omega),if_pos h,en]
 rw[hS,hN]
 exact wPut_any Z c B0 vN vT vS Bk A s a t w2 (hM2 w2 h2) hG (hT2 w2 h2) et ht (ky_kval hwk (c4 (.inl h))) rv hRR hB0
theorem deed_7{a:Ac}(h:a.op=7):DeedOf a:=by
 intro Z c B0 vN vT vS Bk A s w hM hG hT hc hwk hB0
 obtain⟨c1,c2,c3,c4⟩:=chk_ok hc
 obtain⟨r1,r2,rk,rv,r5,r6,r7⟩:=actB_rng c1
 have hM2:∀w2,Below w.heap.size w w2->WkM Z w2 c B0 vN vT vS (.slice none 0 0) Bk A s:=fun w2 h=>(hM.below h).1
 have hT2:∀w2,Below w.heap.size w w2->Tabs w2:=fun w2 h=>lastsT _ _ hT h
 have htab:tabB a.op=true->∃t:Nat,a.t=t/\t<s.nt/\a.t.toNat=t:=fun h=>⟨a.t.toNat,by omega,by have:=c2 h;omega,rfl⟩
 have hsit:sitB a.op=true->∃i:Nat,a.site=i/\i<s.ns/\a.site.toNat=i:=fun h=>⟨a.site.toNat,by omega,by have:=c3 h;omega,rfl⟩
 refine⟨147,by rw[h];exact fun w=>by kernel_rfl,fun args w=>by kernel_rfl,fun w2 h2=>?_⟩
 have hS:stepC s a=if s.ns=50 then s else{s with ns:=s.ns+1,S:=up1 s.S s.ns ⟨a.k.str,-1,0,0,0⟩}:=by unfold stepC;rw[if_neg (by omega),if_pos h]
 have hN:ansS s a=if s.ns=50 then ansC 5 else ansN s.ns:=by unfold ansS;rw[if_neg (by omega),if_pos h]
 refine(wAddSite_any Z c B0 vN vT vS Bk A s a w2 (hM2 w2 h2) hG.ns).mono ?_
 rintro e w3 ⟨vS',vU',m3,d3,e1,e2⟩
 by_cases hn:s.ns=50
 ·obtain⟨e3,gu,cu,bw,bn,hU⟩:=e2 hn
  rw[hS,hN,if_pos hn,if_pos hn]
  refine⟨ansC 0,5,vN,vT,vS',vU',e3,d3,.inr ⟨by decide,rfl,Bk,A,_,m3,.inr (.inr (.inl ⟨s.ns,gu,cu,bw,bn,hU,Nat.le_succ _,Nat.succ_pos _,by show s.ns+1<=200;omega,⟨rfl,rfl,rfl,rfl,fun _ _=>rfl,fun i hi=>?_⟩⟩))⟩⟩
  exact up1_other _ _ (by have hi:i<s.ns:=hi;omega)
 ·rw[hS,hN,if_neg hn,if_neg hn]
  exact⟨ansN s.ns,0,vN,vT,vS',vU',e1 hn,d3,.inl ⟨rfl,rfl,Bk,A,m3⟩⟩
theorem deed_8{a:Ac}(h:a.op=8):DeedOf a:=by
 intro Z c B0 vN vT vS Bk A s w hM hG hT hc hwk hB0
 obtain⟨c1,c2,c3,c4⟩:=chk_ok hc
 obtain⟨r1,r2,rk,rv,r5,r6,r7⟩:=actB_rng c1
 have hM2:∀w2,Below w.heap.size w w2->WkM Z w2 c B0 vN vT vS (.slice none 0 0) Bk A s:=fun w2 h=>(hM.below h).1
 have hT2:∀w2,Below w.heap.size w w2->Tabs w2:=fun w2 h=>lastsT _ _ hT h
 have htab:tabB a.op=true->∃t:Nat,a.t=t/\t<s.nt/\a.t.toNat=t:=fun h=>⟨a.t.toNat,by omega,by have:=c2 h;omega,rfl⟩
 have hsit:sitB a.op=true->∃i:Nat,a.site=i/\i<s.ns/\a.site.toNat=i:=fun h=>⟨a.site.toNat,by omega,by have:=c3 h;omega,rfl⟩
 refine⟨148,by rw[h];exact fun w=>by kernel_rfl,fun args w=>by kernel_rfl,fun w2 h2=>?_⟩
 obtain⟨t,et,ht,en⟩:=htab (by simp[tabB,h])
 obtain⟨i,ei,hi,ein⟩:=hsit (by simp[sitB,h])
 have hS:stepC s a=findS s i t:=by unfold stepC;rw[if_neg (by omega),if_neg (by omega),if_neg (by omega),if_pos h,en,ein]
 have hN:ansS s a=ansV (if 0<=findI s i t then(s.T t).V (findI s i t).toNat else tget s.F (s.T t) (strV (s.S i).key)):=by unfold ansS;rw[if_neg (by omega),if_neg (by omega),if_neg (by omega),if_neg (by omega),if_neg (by omega),if_pos h,en,ein]
 rw[hS,hN]
 exact wGetField_any Z c B0 vN vT vS _ Bk A s a t i w2 (hM2 w2 h2) hG (hT2 w2 h2) et ht ei hi hB0
theorem deed_few{a:Ac}(h:a.op=1\/(a.op=2/\a.v.kind≠0/\¬((kval a.k).kind=2/\0<(kval a.k).num))\/a.op=7\/a.op=8):DeedOf a:=h.elim deed_1 (fun h=>h.elim (fun h=>deed_2 h.1 ⟨fun e=>absurd e h.2.1,fun e=>absurd e h.2.2⟩) (fun h=>h.elim deed_7 deed_8))
def HeldTr(ab:Nat)(a:Ac)(W:World):Prop:=W.cell? ⟨ab,0,none⟩=some (.int .i64 a.op)/\W.cell? ⟨ab,1,none⟩=some (.int .i64 a.t)/\W.cell? ⟨ab,2,none⟩=some (.int .i64 a.site)/\W.cell? ⟨ab,3,none⟩=some (.int .i64 a.n)/\W.cell? ⟨ab,4,none⟩=some (.int .i64 a.k.kind)/\W.cell? ⟨ab,5,none⟩=some (.int .i64 a.k.num)/\W.cell? ⟨ab,6,none⟩=some (.float .f64 a.k.flt)/\W.cell? ⟨ab,7,none⟩=some (.string a.k.str)/\W.cell? ⟨ab,8,none⟩=some (.int .i64 a.k.ref)/\W.cell? ⟨ab,9,none⟩=some (.int .i64 a.v.kind)/\W.cell? ⟨ab,10,none⟩=some (.int .i64 a.v.num)/\W.cell? ⟨ab,11,none⟩=some (.float .f64 a.v.flt)/\W.cell? ⟨ab,12,none⟩=some (.string a.v.str)/\W.cell? ⟨ab,13,none⟩=some (.int .i64 a.v.ref)
theorem HeldTr.of{ab:Nat}{a:Ac}{W:World}(h:ABx W ab a):HeldTr ab a W:=by
 obtain⟨a0,a1,a2,a3,a4,a5,a6,a7,a8,a9,a10,a11,a12,a13⟩:=h.all
 exact⟨a0,a1,a2,a3,a4,a5,a6,a7,a8,a9,a10,a11,a12,a13⟩
theorem fd_deed1(x:Int)(fn:Value)(w:World):(Instr.field 148 (.agg #[.int .i64 x,fn]) 1).run Tryz.prog w=.ok fn w:=by kernel_rfl
attribute [local go_sem] fd_deed1
theorem wTry_any(Z:Nat->Prop)(c B0:Nat)(vN vT vS:Value)(Bk:Nat->Nat)(A:Nat->Ad)(s:Sto)(a:Ac)(w:World)(hM:WkM Z w c B0 vN vT vS (.slice none 0 0) Bk A s)(hG:SGd s)(hT:Tabs w)(hwk:Wf a.k)(hB0:5<=B0)(hD:DeedOf a):
  Calls Tryz.prog 113 #[.pointer (some ⟨c,0,none⟩),AcV a] w fun e w'=>Deed Z c B0 vN vT vS (stepS s a) (ansD s a) w e w':=by
 have HDD:=uy hD
 clear hD
 obtain⟨ta,tc,rfl⟩:=own_slice hM.t
 obtain⟨sa,sc,rfl⟩:=own_slice hM.si
 have hnt:=hG.nt
 have hns:=hG.ns
 obtain⟨W,hW,hb0,hA,hR,hz⟩:=boxes w a
 have hcl:=hM.lt
 have hbase:=hM.base
 obtain⟨hE,hDE⟩:=hM.enter hb0
 obtain⟨_,c1,c2,_,_⟩:=hE.cells
 obtain⟨a0,a1,a2,a3,a4,a5,a6,a7,a8,a9,a10,a11,a12,a13⟩:=hA.all
 have zaW:w.heap.size<W.heap.size:=by omega
 have hcW:c<W.heap.size:=by omega
 have HT:=uy (lastsT _ _ hT hb0)
 have HB:=uy hb0
 have HA:=uy hA
 have HQ:=uy hR
 have HG:=uy hG
 have HE:=uy hE
 have HDE:=uy hDE
 clear hM hb0 hA hR hG hT hE hDE
 go_enter Tryz.func113,Tryz.ntmps113
 go_wp2_with fail
 rw[<-hW]
 clear hW
 refine wp_region_quiet (C:=fun w'=>Below W.heap.size W w') (by kernel_rfl) (by kernel_rfl) ((Below.refl _ _).drew) ?_
 show wpQuiet _ _ _ _ [_,_,_,_,_,_,_,_,_,_,_,_,_,_] _
 (refine wpQuiet_step (fun K hK=>?_);go_simp;refine Exists.intro ?_ (And.intro (fun w' hw'=>?_) (hK _ ?_));rotate_left;obtain⟨hc',hf'⟩:=bcell hw';go_simp;first|rfl|exact⟨rfl,rfl⟩|exact⟨rfl⟩;clear hK K)
 iterate 4 (refine wpQuiet_step (fun K hK=>?_);go_simp;refine⟨_,fun w' hw'=>rfl,hK _ ?_⟩;clear hK K)
 (refine wpQuiet_step (fun K hK=>?_);go_simp;refine Exists.intro ?_ (And.intro (fun w' hw'=>?_) (hK _ ?_));rotate_left;obtain⟨hc',hf'⟩:=bcell hw';go_simp;first|rfl|exact⟨rfl,rfl⟩|exact⟨rfl⟩;clear hK K)
 iterate 4 (refine wpQuiet_step (fun K hK=>?_);go_simp;refine⟨_,fun w' hw'=>rfl,hK _ ?_⟩;clear hK K)
 (refine wpQuiet_step (fun K hK=>?_);go_simp;refine Exists.intro ?_ (And.intro (fun w' hw'=>?_) (hK _ ?_));rotate_left;obtain⟨hc',hf'⟩:=bcell hw';go_simp;first|rfl|exact⟨rfl,rfl⟩|exact⟨rfl⟩;clear hK K)
 (refine wpQuiet_step (fun K hK=>?_);go_simp;refine⟨_,fun w' hw'=>rfl,hK _ ?_⟩;clear hK K)
 refine wpQuiet_step (fun K hK=>?_)
 go_simp
 apply Exists.intro
 refine And.intro (fun w' hw'=>?_) (hK _ ?_)
 ·refine(check_any a s.nt s.ns _ hnt hns).mono ?_
  rintro e w'' ⟨rfl,hb⟩
  exact⟨rfl,hw'.trans (hb.mono hw'.size)⟩
 clear hK K
 (refine wpQuiet_step (fun K hK=>?_);go_simp;refine⟨_,fun w' hw'=>rfl,hK _ ?_⟩;clear hK K)
 refine wpQuiet_nil ?_
 intro w1 hb1
 have HX:=uy hb1
 have z1:=hb1.size
 clear hb1 a0 a1 a2 a3 a4 a5 a6 a7 a8 a9 a10 a11 a12 a13 c1 c2 hcW zaW
 by_cases hc:chk a s.nt s.ns=0
 case neg=>
  have HRES:Hid (stepS s a=s/\ansD s a=ansC (chk a s.nt s.ns)):=uy (by unfold stepS ansD;rw[if_neg hc,if_neg hc];exact⟨rfl,rfl⟩)
  have HC:=uy hc
  clear hc
  rw[errV_ne (uh HC)]
  obtain⟨cd,hcd⟩:∃cd,cd=chk a s.nt s.ns:=⟨_,rfl⟩
  rw[<-hcd]at HC HRES ⊢
  clear hcd
  have hr1:RBx w1 (w.heap.size+1):=(uh HQ).below (uh HX) (by omega)
  obtain⟨w4,hst4,hS4⟩:=st_ansW hr1 (ansC 0)
  obtain⟨m1,d1⟩:=(uh HE).below (uh HX)
  have hu:Undn (ZB Z w.heap.size W.heap.size) w1 c B0 vN (.slice ta s.nt tc) (.slice sa s.ns sc) (.slice none 0 0) s:=⟨Bk,A,s,m1,.inl ⟨rfl,SameS.refl s⟩⟩
  obtain⟨f1,f2⟩:=hu.finA ((uh HDE).trans d1) hbase (by omega) (by omega) hr1 hS4
  have HFN:Hid (Deed Z c B0 vN (.slice ta s.nt tc) (.slice sa s.ns sc) s (ansC cd) w (.returned (.tuple #[AnV (ansC 0),.iface 267 (.agg #[.int .i64 cd])])) w4):=uy ⟨ansC 0,cd,_,_,_,_,by rw[errV_ne (uh HC)],f2,.inr ⟨uh HC,rfl,f1⟩⟩
  have HST:=uy hst4
  obtain⟨r0,r1,r2,r3,r4,r5,r6,r7,r8,r9,r10,r11⟩:=An.read hS4.blk
  clear hr1 hst4 hS4 m1 d1 hu f1 f2
  go_wp2_with (refine wpList_store rfl rfl _ (uh HST) ?_)
  refine bodyPost_ret (v:=.tuple #[AnV (ansC 0),.iface 267 (.agg #[.int .i64 cd])]) (by simp[results,Tryz.results113,go_sem,r0,r1,r2,r3,r4,r5,r6,r7,r8,r9,r10,r11]) rfl ?_
  rw[(uh HRES).1,(uh HRES).2]
  exact uh HFN
 have HRES:Hid (stepS s a=stepC s a/\ansD s a=ansS s a):=uy (by unfold stepS ansD;rw[if_pos hc,if_pos hc];exact⟨rfl,rfl⟩)
 obtain⟨m1,d1⟩:=(uh HE).below (uh HX)
 obtain⟨F,hix,hcf,hdeed⟩:=(uh HDD) _ c B0 vN _ _ Bk A s w1 m1 (uh HG) (lastsT _ _ (uh HT) (uh HX)) hc hwk hB0
 have hA1:ABx w1 w.heap.size a:=(uh HA).below (uh HX) (by omega)
 have hR1:RBx w1 (w.heap.size+1):=(uh HQ).below (uh HX) (by omega)
 have hS0:HeldTr w.heap.size a w1.drew:=HeldTr.of (W:=w1) hA1
 have HA1:=uy hA1
 have HR1:=uy hR1
 have HM1:=uy m1
 have HD1:=uy ((uh HDE).trans d1)
 have HDD:=uy hdeed
 rw[hc]
 clear hc m1 d1 hA1 hR1 hdeed
 have e0:errV 0=.nilIface:=rfl
 rw[e0]
 clear e0
 go_wp2_with fail
 refine wpN_held (HeldTr w.heap.size a) (by kernel_rfl) ?_
 change wpAnyH _ _ _ _ _ _ _ _ (World.drew _)
 refine tq 1 (v:=?_) ?_ ?_;rotate_left;intro w' ⟨s0,s1,s2,s3,s4,s5,s6,s7,s8,s9,s10,s11,s12,s13⟩;go_simp;try with_reducible rfl
 simp only[Act.put,sA,sB,sC]
 refine tq 2 (v:=?_) ?_ ?_;rotate_left;intro w' ⟨s0,s1,s2,s3,s4,s5,s6,s7,s8,s9,s10,s11,s12,s13⟩;go_simp;try with_reducible rfl
 simp only[Act.put,sA,sB,sC]
 refine tq 5 (v:=?_) ?_ ?_;rotate_left;intro w' ⟨s0,s1,s2,s3,s4,s5,s6,s7,s8,s9,s10,s11,s12,s13⟩;go_simp;try with_reducible rfl
 simp only[Act.put,sA,sB,sC]
 refine tq 6 (v:=?_) ?_ ?_;rotate_left;intro w' ⟨s0,s1,s2,s3,s4,s5,s6,s7,s8,s9,s10,s11,s12,s13⟩;go_simp;try with_reducible rfl
 simp only[Act.put,sA,sB,sC]
 refine wpAnyH_ready (rs:=[0]) (by kernel_rfl) (by simp) ?_
 refine AllReadyH.cons rfl (fun K hK=>?_) AllReadyH.nil
 go_simp
 refine(deeds_any _).mono ?_
 rintro e w2 ⟨rfl,hb2⟩
 have hb2:Below w1.heap.size w1 w2:=Below.trans (Below.refl _ _).drew hb2
 have hA2:ABx w2 w.heap.size a:=(uh HA1).below hb2 (by omega)
 have hR2:RBx w2 (w.heap.size+1):=(uh HR1).below hb2 (by omega)
 have hS2:HeldTr w.heap.size a w2:=HeldTr.of hA2
 obtain⟨m2,d2⟩:=(uh HM1).below hb2
 have HM2:=uy m2
 have HD2:=uy ((uh HD1).trans d2)
 have HA2:=uy hA2
 have HR2:=uy hR2
 have HDC:=uy (uh HDD w2 hb2)
 refine hK.out _ _ hS2 (fun _=>?_)
 clear hK K hS0 hb2 m2 d2 hA2 hR2
 refine tq 3 (v:=?_) ?_ ?_;rotate_left;intro w' ⟨s0,s1,s2,s3,s4,s5,s6,s7,s8,s9,s10,s11,s12,s13⟩;go_simp;try with_reducible rfl
 (try simp only[Act.put]);(try simp only[List.setIfInBounds_toArray]);(try simp only[List.set_cons_succ]);try simp only[List.set_cons_zero]
 refine tq 4 (v:=?_) ?_ ?_;rotate_left;intro w' ⟨s0,s1,s2,s3,s4,s5,s6,s7,s8,s9,s10,s11,s12,s13⟩;go_simp;try with_reducible rfl
 (try simp only[Act.put]);(try simp only[List.setIfInBounds_toArray]);(try simp only[List.set_cons_succ]);try simp only[List.set_cons_zero]
 refine wpAnyH_ready (rs:=[7]) (by kernel_rfl) (by simp) ?_
 refine AllReadyH.cons rfl (fun K hK=>?_) AllReadyH.nil
 go_simp
 refine(uh HDC).mono ?_
 intro e w3 hD
 obtain⟨_,_,_,hd⟩:=hD.dst
 have hA3:ABx w3 w.heap.size a:=(hd.boxes (uh HM2) (uh HA2) (.inr (.inr (.inr rfl)))).trans (uh HA2)
 have hR3:RBx w3 (w.heap.size+1):=(hd.boxes (uh HM2) (uh HR2) (.inr (.inr (.inl rfl)))).trans (uh HR2)
 have hS3:HeldTr w.heap.size a w3:=HeldTr.of hA3
 obtain⟨x,cd,rfl,hfin⟩:=Deed.fin (uh HD2) hD hbase (by omega) (by omega) hR3
 obtain⟨w4,hst4,hS4⟩:=st_ansW hR3 x
 have HFN:=uy (hfin w4 hS4)
 have hS5':HeldTr w.heap.size a w4:=HeldTr.of (W:=w4) ((hS4.other _ (by omega)).trans hA3)
 have HST:=uy hst4
 have HS4:=uy hS4
 refine hK.out _ _ hS3 (fun _=>?_)
 clear hK K hS2 hD hd hA3 hR3 hfin hst4 hS4
 refine tq 8 (v:=?_) ?_ ?_;rotate_left;intro w' ⟨s0,s1,s2,s3,s4,s5,s6,s7,s8,s9,s10,s11,s12,s13⟩;go_simp;try with_reducible rfl
 (try simp only[Act.put]);(try simp only[List.setIfInBounds_toArray]);(try simp only[List.set_cons_succ]);try simp only[List.set_cons_zero]
 refine tq 9 (v:=?_) ?_ ?_;rotate_left;intro w' ⟨s0,s1,s2,s3,s4,s5,s6,s7,s8,s9,s10,s11,s12,s13⟩;go_simp;try with_reducible rfl
 (try simp only[Act.put]);(try simp only[List.setIfInBounds_toArray]);(try simp only[List.set_cons_succ]);try simp only[List.set_cons_zero]
 refine wpAnyH_ready (rs:=[10]) (by kernel_rfl) (by simp) ?_
 refine AllReadyH.cons rfl (fun K hK=>?_) AllReadyH.nil
 refine step_store rfl rfl _ (uh HST) ?_
 refine hK.out _ _ hS5' (fun _=>?_)
 clear hK K
 refine tq 11 (v:=?_) ?_ ?_;rotate_left;intro w' ⟨s0,s1,s2,s3,s4,s5,s6,s7,s8,s9,s10,s11,s12,s13⟩;go_simp;try with_reducible rfl
 (try simp only[Act.put]);(try simp only[List.setIfInBounds_toArray]);(try simp only[List.set_cons_succ]);try simp only[List.set_cons_zero]
 refine wpAnyH_done (by kernel_rfl) ?_ _
 refine QN.normal ?_
 obtain⟨r0,r1,r2,r3,r4,r5,r6,r7,r8,r9,r10,r11⟩:=An.read (uh HS4).blk
 go_wp2_with fail
 refine bodyPost_ret (v:=.tuple #[AnV x,errV cd]) (by simp[results,Tryz.results113,go_sem,r0,r1,r2,r3,r4,r5,r6,r7,r8,r9,r10,r11]) rfl ?_
 rw[(uh HRES).1,(uh HRES).2]
 exact uh HFN
end
section
open Go.RowKit
attribute [local go_sem] run_store_float run_equalIn_float
def ds0:Ds:=⟨0,fun _=>default,0,fun _=>⟨#[]⟩⟩
def anR(g:Nat->An):Nat->List Value
 |0=>[]
 |k+1=>anR g k++anL (g k)
theorem anR_length(g:Nat->An)(n:Nat):(anR g n).length=n*12:=by
 induction n with
 |zero=>rfl
 |succ n ih=>simp[anR,ih,anL];omega
theorem anR_get{g:Nat->An}{n i j:Nat}(hi:i<n)(hj:j<12):(anR g n)[i*12+j]?=(anL (g i))[j]?:=by
 induction n with
 |zero=>omega
 |succ n ih=>
  show(anR g n++anL (g n))[i*12+j]?=_
  by_cases h:i<n
  ·rw[List.getElem?_append_left (by rw[anR_length];omega),ih h]
  ·have:i=n:=by omega
   subst this
   rw[List.getElem?_append_right (by rw[anR_length];omega),anR_length,show i*12+j-i*12=j by omega]
def AcAt(w:World)(v:Value)(n:Nat)(f:Nat->Ac):Prop:=
 ∃b cp,v=.slice (some ⟨b,0,none⟩) n cp/\b<w.heap.size/\∀i,i<n->∀j u,(ActBx (f i)).toList[j]?=some u->w.cell? ⟨b,i*14+j,none⟩=some u
def anO(x:An):Value:=AnV x
theorem sz_ans(w:World):(sizeOf 45).run Tryz.prog w=.ok 12 w:=by kernel_rfl
theorem anL_one(x:An):∀u∈anL x,u.oneCell'=true:=by
 intro u h
 simp only[anL,List.mem_cons,List.not_mem_nil,or_false]at h
 rcases h with rfl|rfl|rfl|rfl|rfl|rfl|rfl|rfl|rfl|rfl|rfl|rfl<;>rfl
theorem st_ans(w:World)(x:An):(Instr.storeAt 45 (.pointer (some ⟨w.heap.size,0,none⟩)) (anO x)).run Tryz.prog (w.alloc (.cells An0 45))=.ok () (w.alloc (.cells (anL x).toArray 45)):=by
 have h:=storeCells_new (P:=Tryz.prog) w 45 (anL x) [] An0.toList rfl (anL_one x)
 have hs:=sz_ans
 unfold Instr.storeAt storeVar
 simp only[List.nil_append,List.length_nil]at h
 have hc:(anO x).cells.toList=anL x:=rfl
 have hn:(anO x).cells.size=12:=rfl
 simp only[Sem.run_bind]
 have hsa:∀w',(Instr.sureAddr (.pointer (some ⟨w.heap.size,0,none⟩))).run Tryz.prog w'=.ok ⟨w.heap.size,0,none⟩ w':=fun w'=>by simp[go_sem]
 simp[hsa,hs,hc,hn]
 exact h
end
section
open Go.RowKit
attribute [local go_sem] run_store_float run_equalIn_float
theorem ErrG.dst{O O':Nat->Prop}{w w':World}(h:ErrG w)(hd:Dst O w O' w')(hO:¬O 0):ErrG w':=
 (World.cell?_of_block (hd.block _ h.lt hO)).trans h
end
section
open Go.RowKit
attribute [local go_sem] run_store_float run_equalIn_float run_store_func
def ActP(Z:Nat->Prop)(c B0:Nat)(vN vT vS:Value)(s':Sto)(x:An)(w:World)(e:Ending)(w':World):Prop:=
 e=.returned (AnV x)/\∃vN' vT' vS' vU' Bk' A',WkM Z w' c B0 vN' vT' vS' vU' Bk' A' s'/\Dst (OwnW B0 c vN vT vS w) w (OwnW B0 c vN' vT' vS' w') w'
theorem wAct_any(Z:Nat->Prop)(c B0:Nat)(vN vT vS vU:Value)(Bk:Nat->Nat)(A:Nat->Ad)(s:Sto)(a:Ac)(w:World)(hM:WkM Z w c B0 vN vT vS vU Bk A s)(hG:SGd s)(hT:Tabs w)(hwk:Wf a.k)(hB0:5<=B0)(hEG:ErrG w)(hEB:0<B0)(hD:DeedOf a):
  Calls Tryz.prog 57 #[.pointer (some ⟨c,0,none⟩),AcV a] w fun e w'=>ActP Z c B0 vN vT vS (stepS s a) (ansD s a) w e w':=by
 obtain⟨W,hW,hb0,hA,hR,hz⟩:=boxes w a
 have hcl:=hM.lt
 have hbase:=hM.base
 obtain⟨hE,hDE⟩:=hM.enter hb0
 obtain⟨_,_,_,c3,cf⟩:=hE.cells
 have f3:=cf 3
 obtain⟨mU,dU⟩:=hE.setU (ua:=none) (un:=0) (uc:=0)
 obtain⟨W1,hW1⟩:∃W1,W1=W.setCell ⟨c,3,none⟩ (.slice none 0 0):=⟨_,rfl⟩
 rw[<-hW1]at mU dU
 have hblk:∀k,k≠c->W1.heap[k]?=W.heap[k]?:=fun k hk=>by rw[hW1];exact Deep.blk_setCell_other _ _ _ _ (by exact hk)
 have hA1:ABx W1 w.heap.size a:=(hblk _ (by omega)).trans hA
 have hR1:RBx W1 (w.heap.size+1):=(hblk _ (by omega)).trans hR
 have hT1:Tabs W1:=by
  have h0:Tabs W:=lastsT _ _ hT hb0
  exact h0.below (B:=B0) ⟨dU.os,dU.tape,dU.output,dU.size,fun q hq=>dU.block q (by omega) (fun e=>by have:=(hE.rng e).1;omega)⟩ (by omega)
 have hE1:ErrG W1:=(World.cell?_of_block (a:=⟨0,0,none⟩) (hblk 0 (by have:=hM.ge;omega))).trans (hEG.below hb0 hEG.lt)
 have hgc:∃u,W.cell? ⟨c,3,none⟩=some u:=⟨_,c3⟩
 obtain⟨a0,a1,a2,a3,a4,a5,a6,a7,a8,a9,a10,a11,a12,a13⟩:=hA1.all
 have HTR:=uy (wTry_any _ c B0 vN vT vS Bk A s a W1 mU hG hT1 hwk hB0 hD)
 clear hD
 have HM1:=uy mU
 have HD1:=uy (hDE.trans dU)
 have HA1:=uy hA1
 have HR1:=uy hR1
 have HE1:=uy hE1
 have HW1:=uy hW1
 have z0:W1.heap.size=W.heap.size:=by rw[hW1];simp
 have zc:c<W.heap.size:=by omega
 have zw1:w.heap.size<W1.heap.size:=by omega
 have zw2:w.heap.size+1<W1.heap.size:=by omega
 have zz:W.heap.size<=W1.heap.size:=by omega
 clear hM hG hT hEG hb0 hA hR hE hDE mU dU hblk hA1 hR1 hT1 hE1 cf z0 hgc hW1
 go_enter Tryz.func57,Tryz.ntmps57
 go_upto_region 1 with fail
 rw[<-hW]
 clear hW
 go_upto_region 2 with fail
 rw[<-uh HW1]
 clear HW1 c3 f3
 go_wp2_with fail
 refine(uh HTR).mono ?_
 rintro e w1 ⟨x,cd,vN',vT',vS',vU',rfl,hd,hrest⟩
 have hR2:RBx w1 (w.heap.size+1):=(hd.boxes (uh HM1) (uh HR1) (.inr (.inr (.inl rfl)))).trans (uh HR1)
 have HR2:=uy hR2
 have HD2:=uy ((uh HD1).trans hd)
 have HRS:=uy hrest
 have z1:W1.heap.size<=w1.heap.size:=hd.size
 have HE2:Hid (ErrG w1):=uy ((uh HE1).dst hd (fun h=>by have:=((uh HM1).rng h).1;omega))
 clear hd hR2 hrest a0 a1 a2 a3 a4 a5 a6 a7 a8 a9 a10 a11 a12 a13
 rw[show AnV x=anO x from rfl]
 have HF:Hid (∀w4,w4=w1.alloc (.cells (anL x).toArray 45)->Below w1.heap.size w1 w4/\w4.heap[w1.heap.size]?=some (.cells (anL x).toArray 45 (0,0))):=uy (fun w4 h=>by
  exact⟨by rw[h];exact(Below.refl _ _).alloc (Nat.le_refl _) _,by rw[h];exact Deep.blk_alloc_new _ _⟩)
 go_upto_region 3 with(refine wpList_store rfl rfl _ (st_ans w1 x) ?_)
 generalize hw4:w1.alloc (.cells (anL x).toArray 45)=w4
 obtain⟨hb4,hx4⟩:=uh HF _ hw4.symm
 have HX4:=uy hx4
 have HB4:=uy hb4
 have z4:=hb4.size
 clear hw4 hb4 hx4 HF
 go_wp2_with fail
 refine(codeOf_any cd _ ((uh HE2).below (uh HB4) (by have:=(uh HE2).lt;exact this))).mono ?_
 rintro e w5 ⟨rfl,hb5⟩
 have HX5:Hid (w5.heap[w1.heap.size]?=some (.cells (anL x).toArray 45 (0,0))):=uy ((hb5.block _ (blk_lt (uh HX4))).trans (uh HX4))
 have HB5:=uy ((uh HB4).trans (hb5.mono z4))
 have z5:w1.heap.size<w5.heap.size:=Nat.lt_of_lt_of_le (blk_lt (uh HX4)) hb5.size
 have hr5:RBx w5 (w.heap.size+1):=(uh HR2).below (uh HB5) (by omega)
 have HR5:=uy hr5
 clear hb5 HX4 HB4 hr5
 rcases uh HRS with⟨h0,hx,Bk',A',m3⟩|⟨h0,hx,u3⟩
 ·have d0:(cd !=0)=false:=by simp[h0]
  have d1:(cd==0)=true:=by simp[h0]
  obtain⟨m5,dd5⟩:=m3.below (uh HB5)
  obtain⟨w6,hst6,hS6⟩:=st_ansW (uh HR5) x
  obtain⟨f1,f2⟩:=m5.finA ((uh HD2).trans dd5) hbase (by omega) (by omega) (uh HR5) hS6
  have HFN:Hid (ActP Z c B0 vN vT vS (stepS s a) (ansD s a) w (.returned (AnV x)) w6):=uy ⟨by rw[hx],_,_,_,_,_,_,f1,f2⟩
  have HST:=uy hst6
  obtain⟨r0,r1,r2,r3,r4,r5,r6,r7,r8,r9,r10,r11⟩:=An.read hS6.blk
  have HX6:Hid (w5.heap[w1.heap.size]?=some (.cells #[.int .i64 x.code,.int .i64 x.num,.int .i64 x.key.kind,.int .i64 x.key.num,.float .f64 x.key.flt,.string x.key.str,.int .i64 x.key.ref,.int .i64 x.val.kind,.int .i64 x.val.num,.float .f64 x.val.flt,.string x.val.str,.int .i64 x.val.ref] 45 (0,0))):=uy (uh HX5)
  clear h0 hx m3 m5 dd5 hst6 hS6 f1 f2
  go_wp2_with (first|(refine wpList_load_row rfl 45 _ rfl w1.heap.size rfl _ _ _ _ (uh HX6) Tryz.underlying45 rfl (by kernel_rfl) ?_)|(refine wpList_store rfl rfl _ (uh HST) ?_))
  refine bodyPost_ret (v:=AnV x) (by simp[results,Tryz.results57,go_sem,r0,r1,r2,r3,r4,r5,r6,r7,r8,r9,r10,r11]) rfl (uh HFN)
 ·have d0:(cd !=0)=true:=by simp[h0]
  have d1:(cd==0)=false:=by simp[h0]
  obtain⟨u5,dd5⟩:=u3.below (uh HB5)
  have HUN:=uy (wUndo_any u5)
  have HAX:=uy hx
  have HDD:=uy ((uh HD2).trans dd5)
  have HU5:=uy u5
  clear h0 hx u3 u5 dd5
  go_wp2_with fail
  refine(uh HUN).mono ?_
  rintro e w6 ⟨⟨uu,rfl⟩,vT2,vS2,vU2,Bk2,A2,m6,d6⟩
  obtain⟨_,_,_,mu,_⟩:=uh HU5
  have hr6:RBx w6 (w.heap.size+1):=(d6.boxes mu (uh HR5) (.inr (.inr (.inl rfl)))).trans (uh HR5)
  obtain⟨w7,hst7,hS7⟩:=st_ansW hr6 (ansC cd)
  obtain⟨f1,f2⟩:=m6.finA ((uh HDD).trans d6) hbase (by omega) (by omega) hr6 hS7
  have HFN:Hid (ActP Z c B0 vN vT vS (stepS s a) (ansD s a) w (.returned (AnV (ansC cd))) w7):=uy ⟨by rw[uh HAX],_,_,_,_,_,_,f1,f2⟩
  have HST:=uy hst7
  obtain⟨r0,r1,r2,r3,r4,r5,r6,r7,r8,r9,r10,r11⟩:=An.read hS7.blk
  clear m6 d6 mu hr6 hst7 hS7 f1 f2
  go_wp2_with (refine wpList_store rfl rfl _ (uh HST) ?_)
  refine bodyPost_ret (v:=AnV (ansC cd)) (by simp[results,Tryz.results57,go_sem,r0,r1,r2,r3,r4,r5,r6,r7,r8,r9,r10,r11]) rfl (uh HFN)
end
section
open Go.RowKit
attribute [local go_sem] run_store_float run_equalIn_float run_store_func
noncomputable def aftS(s0:Sto)(f:Nat->Ac):Nat->Sto
 |0=>s0
 |q+1=>stepS (aftS s0 f q) (f q)
noncomputable def ansQ(s0:Sto)(f:Nat->Ac)(q:Nat):An:=ansD (aftS s0 f q) (f q)
theorem step_good0{M:Nat}{s:Sto}(hG:SGm M s)(h0:s.nt=0)(a:Ac)(hwk:Wf a.k)(hwv:Wf a.v):SGm M (stepS s a):=by
 have h:=step_good hG a hwk hwv
 refine⟨h.f,h.nt,h.ns,fun i hi=>⟨(h.t i hi).way,(h.t i hi).wf,?_⟩,h.si⟩
 unfold stepS at hi ⊢
 split at hi
 ·rename_i hc
  rw[if_pos hc]
  obtain⟨c1,c2,c3,c4⟩:=chk_ok hc
  obtain⟨r1,r2,r6,r7,r5,_,_⟩:=actB_rng c1
  have ht:tabB a.op=true->False:=fun e=>by have:=c2 e;omega
  unfold stepC at hi ⊢
  split at hi
  ·rename_i h1
   rw[if_pos h1]
   rw[if_neg (by omega)]at hi ⊢
   have hi:i<s.nt+1:=hi
   show(up1 s.T s.nt tb0 i).d.m<=M
   rw[show i=s.nt by omega,up1_self]
   exact Nat.zero_le _
  ·rename_i h1
   rw[if_neg h1]
   split at hi
   ·rename_i h7
    rw[if_neg (by have:=hG.ns;intro e;rw[if_pos e]at hi;omega)]at hi
    have hi:i<s.nt:=hi
    omega
   ·rename_i h7
    by_cases h2:a.op=2
    ·exact(ht (by rw[h2];rfl)).elim
    ·rw[if_neg h2]at hi
     by_cases h8:a.op=8
     ·exact(ht (by rw[h8];rfl)).elim
     ·rw[if_neg h8]at hi
      by_cases h9:a.op=9
      ·exact(ht (by rw[h9];rfl)).elim
      ·rw[if_neg h9]at hi
       omega
 ·omega
theorem aftS_good{s0:Sto}(h0:SGm 0 s0)(hn0:s0.nt=0){f:Nat->Ac}{n:Nat}(hwf:∀i,i<n->Wf (f i).k/\Wf (f i).v):∀q,q<=n->SGm (4002*(q-1)) (aftS s0 f q)
 |0,_=>h0
 |1,h=>step_good0 h0 hn0 _ (hwf 0 h).1 (hwf 0 h).2
 |q+2,h=>by
  have h1:=step_good (aftS_good h0 hn0 hwf (q+1) (by omega)) (f (q+1)) (hwf (q+1) h).1 (hwf (q+1) h).2
  exact h1.mono (by simp;omega)
theorem aftS_gd{s0:Sto}(h0:SGm 0 s0)(hn0:s0.nt=0){f:Nat->Ac}{n:Nat}(hwf:∀i,i<n->Wf (f i).k/\Wf (f i).v)(hn:n<=1000){q:Nat}(hq:q<=n):SGd (aftS s0 f q):=
 (aftS_good h0 hn0 hwf q hq).mono (by omega)
theorem WkM.rowZ{Z:Nat->Prop}{w w':World}{c B0:Nat}{vN vT vS vU:Value}{Bk:Nat->Nat}{A:Nat->Ad}{s:Sto}(h:WkM Z w c B0 vN vT vS vU Bk A s){b:Nat}{cs:Array Value}{ty:TypeId}(hb:Z b)(hge:B0<=b)(hn:¬OwnW B0 c vN vT vS w b)(hg:w.grownBy w' (some b))(hc:w'.heap[b]?=some (.cells cs ty (0,0)))(ht:ty≠208):
  WkM Z w' c B0 vN vT vS vU Bk A s/\¬OwnW B0 c vN vT vS w' b/\∀k,OwnW B0 c vN vT vS w' k->OwnW B0 c vN vT vS w k\/w.heap.size<=k:=by
 have hk:∀k,k<w.heap.size->k≠b->w'.heap[k]?=w.heap[k]?:=fun k h1 h2=>hg.block k h1 (fun e=>h2 (by cases e;rfl))
 have hnb:¬Nodal 208 w' b:=by
  rintro(⟨x,hx⟩|⟨es,x,hx⟩)
  ·rw[hc]at hx;cases hx;exact ht rfl
  ·rw[hc]at hx;cases hx
 have ho:∀k,OwnW B0 c vN vT vS w' k->OwnW B0 c vN vT vS w k\/w.heap.size<=k:=fun k e=>by
  rcases e with e|e|e|e|⟨e1,e2⟩
  ·exact .inl (.inl e)
  ·exact .inl (.inr (.inl e))
  ·exact .inl (.inr (.inr (.inl e)))
  ·exact .inl (.inr (.inr (.inr (.inl e))))
  ·by_cases hkb:k=b
   ·subst hkb;exact absurd e2 hnb
   ·by_cases hkl:k<w.heap.size
    ·refine .inl (.inr (.inr (.inr (.inr ⟨e1,?_⟩))))
     unfold Nodal at*
     rw[hk k hkl hkb]at e2
     exact e2
    ·exact .inr (by omega)
 have hbl:=h.z b hb
 have hw:∀k,OwnW B0 c vN vT vS w k->w'.heap[k]?=w.heap[k]?:=fun k e=>hk k (h.rng e).2 (fun e'=>hn (e'▸e))
 obtain⟨N,M,hN,hid⟩:=h.nd
 refine⟨⟨(hw c (.inl rfl)).trans h.blk,h.ge,own_keep h.n (fun g e=>hw g (.inr (.inl e))),⟨N,M,hN.keep (fun b' hn'=>?_),hid⟩,own_keep h.t (fun g e=>hw g (.inr (.inr (.inl e)))),own_keep h.si (fun g e=>hw g (.inr (.inr (.inr (.inl e))))),h.u,fun k e=>Nat.lt_of_lt_of_le (h.z k e) hg.size,fun i hi w'' hs hk'=>?_⟩,fun e=>(ho b e).elim hn (fun e=>by omega),ho⟩
 ·by_cases hbb:b'=b
  ·subst hbb
   exact absurd (.inr (.inr (.inr (.inr ⟨hge,hn'⟩)))) hn
  ·exact hk b' (nodal_lt hn') hbb
 ·exact h.rd i hi w'' (Nat.le_trans hg.size hs) (fun k k1 k2=>(hk' k (Nat.lt_of_lt_of_le k1 hg.size) (fun e=>k2 (e.elim (fun e=>(ho k e).elim .inl (fun e=>by omega)) .inr))).trans (hk k k1 (fun e=>k2 (.inr (e▸hb)))))
structure PlRel (w:World) (B c rb n:Nat) (s0:Sto) (f:Nat->Ac) (q:Nat) (wr:World):Prop where
 wk:∃vN vT vS vU Bk A,WkM (fun k=>k=rb) wr c B vN vT vS vU Bk A (aftS s0 f q)/\¬OwnW B c vN vT vS wr rb
 row:wr.ownsRow B 45 12 (.slice (some ⟨rb,0,none⟩) q n) q (anR (ansQ s0 f) q)
 below:Below B w wr
theorem PlRel.step{w:World}{B c rb n:Nat}{s0:Sto}{f:Nat->Ac}{q:Nat}{wr w3 w4 w5:World}(hrow:w4.ownsRow B 45 12 (.slice (some ⟨rb,0,none⟩) q n) q (anR (ansQ s0 f) q))
  {vN vT vS vU:Value} {Bk:Nat->Nat} {A:Nat->Ad} (hM:WkM (fun k=>k=rb) w4 c B vN vT vS vU Bk A (aftS s0 f (q+1))) (hn:¬OwnW B c vN vT vS w4 rb) (hb:Below B w w4)
  (h5:w4.grownBy w5 (some rb)) (hown:w5.ownsRow B 45 12 (.slice (some ⟨rb,0,none⟩) (q+1) n) (q+1) (anR (ansQ s0 f) q++anL (ansQ s0 f q))):PlRel w B c rb n s0 f (q+1) w5:=by
 have hr:=hrow.lt rb rfl
 obtain⟨cur,hc,_⟩:=own_blk hown (q:=rb) rfl
 obtain⟨m1,m2,_⟩:=hM.rowZ rfl hr.1 hn h5 hc (by decide)
 exact⟨⟨_,_,_,_,_,_,m1,m2⟩,hown,⟨h5.os.trans hb.os,h5.tape.trans hb.tape,h5.output.trans hb.output,Nat.le_trans hb.size h5.size,fun k hk=>(h5.block k (by have:=hb.size;have:=hM.base;omega) (fun e=>by cases e;omega)).trans (hb.block k hk)⟩⟩
abbrev actW(c:Nat):Value:=.func (.func 57) #[.pointer (some ⟨c,0,none⟩)] #[]
end
end Go.Proofs.YtgmlkfgfjjggnaaGreatDoor
