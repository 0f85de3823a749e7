import Derived.BigRegion
import Derived.Test.YtgmlkfgfjjggnaaGreatDoorSAB
set_option linter.unusedVariables false
set_option linter.unusedSimpArgs false
set_option maxHeartbeats 40000000
set_option maxRecDepth 100000
namespace Go.Proofs.YtgmlkfgfjjggnaaGreatDoor
section
open Go.RowKit
attribute [local go_sem] run_store_float run_equalIn_float
theorem run_store_func{P:Program}{w:World}{a:Addr}{m:Mode}(f:Fn)(x y:Array Value):(store a (.func f x y) m).run P w=stored P w a (.func f x y) m:=run_store P w a _ m rfl
attribute [local go_sem] run_store_func
structure Fil (R:Nat) (u w:World):Prop where
 os:w.os=u.os
 tape:w.tape=u.tape
 output:w.output=u.output
 size:u.heap.size<=w.heap.size
 block:∀q,q<u.heap.size->q≠R->w.heap[q]?=u.heap[q]?
theorem Fil.refl(R:Nat)(u:World):Fil R u u:=⟨rfl,rfl,rfl,Nat.le_refl _,fun _ _ _=>rfl⟩
theorem Fil.trans{R:Nat}{a b c:World}(h:Fil R a b)(h':Fil R b c):Fil R a c:=⟨h'.os.trans h.os,h'.tape.trans h.tape,h'.output.trans h.output,Nat.le_trans h.size h'.size,fun q hq hr=>(h'.block q (Nat.lt_of_lt_of_le hq h.size) hr).trans (h.block q hq hr)⟩
theorem Fil.alloc{R:Nat}{a b:World}(h:Fil R a b)(o:Obj):Fil R a (b.alloc o):=⟨h.os,h.tape,h.output,by simp;have:=h.size;omega,fun q hq hr=>(Deep.blk_alloc_lt _ _ _ (Nat.lt_of_lt_of_le hq h.size)).trans (h.block q hq hr)⟩
theorem Fil.setCell{R:Nat}{a b:World}(h:Fil R a b)(o:Nat)(v:Value):Fil R a (b.setCell ⟨R,o,none⟩ v):=⟨h.os,h.tape,h.output,by simpa using h.size,fun q hq hr=>(Deep.blk_setCell_other _ _ _ _ (by exact hr)).trans (h.block q hq hr)⟩
theorem Fil.drew{R:Nat}{a b:World}(h:Fil R a b):Fil R a b.drew:=⟨h.os,h.tape,h.output,h.size,h.block⟩
theorem Fil.cell{R:Nat}{a b:World}(h:Fil R a b){q o:Nat}(hq:q<a.heap.size)(hr:q≠R):b.cell? ⟨q,o,none⟩=a.cell? ⟨q,o,none⟩:=World.cell?_of_block (h.block q hq hr)
theorem Fil.frozen{R:Nat}{a b:World}(h:Fil R a b){q o:Nat}(hq:q<a.heap.size)(hr:q≠R):b.frozen? ⟨q,o,none⟩=a.frozen? ⟨q,o,none⟩:=World.frozen?_of_block (h.block q hq hr)
theorem Fil.below{R B:Nat}{a b:World}(h:Fil R a b)(hB:B<=a.heap.size)(hR:B<=R):Below B a b:=⟨h.os,h.tape,h.output,h.size,fun k hk=>h.block k (by omega) (by omega)⟩
abbrev entA(p:Pr)(i:Nat):Array Value:=#[.int .i64 p.key.kind,.int .i64 p.key.num,.float .f64 p.key.flt,.string p.key.str,.int .i64 p.key.ref,.int .i64 p.val.kind,.int .i64 p.val.num,.float .f64 p.val.flt,.string p.val.str,.int .i64 p.val.ref,.int .i64 p.turn,.int .i64 (i:Int)]
abbrev sltA(v:Vl)(e:Nat):Array Value:=#[.int .i64 v.kind,.int .i64 v.num,.float .f64 v.flt,.string v.str,.int .i64 v.ref,.pointer (some ⟨e,0,none⟩),.bool false]
abbrev goneA:Array Value:=#[.int .i64 0,.int .i64 0,.float .f64 0,.string ⟨#[]⟩,.int .i64 0,.pointer none,.bool true]
structure ECell (w:World) (b:Nat) (p:Pr) (i:Nat):Prop where
 lt:b<w.heap.size
 k0:w.cell? ⟨b,0,none⟩=some (.int .i64 p.key.kind)
 k1:w.cell? ⟨b,1,none⟩=some (.int .i64 p.key.num)
 k2:w.cell? ⟨b,2,none⟩=some (.float .f64 p.key.flt)
 k3:w.cell? ⟨b,3,none⟩=some (.string p.key.str)
 k4:w.cell? ⟨b,4,none⟩=some (.int .i64 p.key.ref)
 v0:w.cell? ⟨b,5,none⟩=some (.int .i64 p.val.kind)
 v1:w.cell? ⟨b,6,none⟩=some (.int .i64 p.val.num)
 v2:w.cell? ⟨b,7,none⟩=some (.float .f64 p.val.flt)
 v3:w.cell? ⟨b,8,none⟩=some (.string p.val.str)
 v4:w.cell? ⟨b,9,none⟩=some (.int .i64 p.val.ref)
 tn:w.cell? ⟨b,10,none⟩=some (.int .i64 p.turn)
 pl:w.cell? ⟨b,11,none⟩=some (.int .i64 (i:Int))
 ob:w.heap[b]?=some (.cells (entA p i) 294 (0,0))
theorem ECell.keep{w w':World}{b:Nat}{p:Pr}{i:Nat}(h:ECell w b p i)(hs:w.heap.size<=w'.heap.size)(e:w'.heap[b]?=w.heap[b]?):ECell w' b p i:=by
 have e':∀o,w'.cell? ⟨b,o,none⟩=w.cell? ⟨b,o,none⟩:=fun o=>World.cell?_of_block e
 exact⟨Nat.lt_of_lt_of_le h.lt hs,(e' _).trans h.k0,(e' _).trans h.k1,(e' _).trans h.k2,(e' _).trans h.k3,(e' _).trans h.k4,(e' _).trans h.v0,(e' _).trans h.v1,(e' _).trans h.v2,(e' _).trans h.v3,(e' _).trans h.v4,(e' _).trans h.tn,(e' _).trans h.pl,e.trans h.ob⟩
theorem ECell.drew{w:World}{b:Nat}{p:Pr}{i:Nat}(h:ECell w b p i):ECell w.drew b p i:=h.keep (Nat.le_refl _) rfl
structure SCell (w:World) (b:Nat) (v:Vl) (e:Nat):Prop where
 lt:b<w.heap.size
 k0:w.cell? ⟨b,0,none⟩=some (.int .i64 v.kind)
 k1:w.cell? ⟨b,1,none⟩=some (.int .i64 v.num)
 k2:w.cell? ⟨b,2,none⟩=some (.float .f64 v.flt)
 k3:w.cell? ⟨b,3,none⟩=some (.string v.str)
 k4:w.cell? ⟨b,4,none⟩=some (.int .i64 v.ref)
 pt:w.cell? ⟨b,5,none⟩=some (.pointer (some ⟨e,0,none⟩))
 gn:w.cell? ⟨b,6,none⟩=some (.bool false)
 ob:w.heap[b]?=some (.cells (sltA v e) 333 (0,0))
theorem SCell.keep{w w':World}{b:Nat}{v:Vl}{i:Nat}(h:SCell w b v i)(hs:w.heap.size<=w'.heap.size)(e:w'.heap[b]?=w.heap[b]?):SCell w' b v i:=by
 have e':∀o,w'.cell? ⟨b,o,none⟩=w.cell? ⟨b,o,none⟩:=fun o=>World.cell?_of_block e
 exact⟨Nat.lt_of_lt_of_le h.lt hs,(e' _).trans h.k0,(e' _).trans h.k1,(e' _).trans h.k2,(e' _).trans h.k3,(e' _).trans h.k4,(e' _).trans h.pt,(e' _).trans h.gn,e.trans h.ob⟩
def entP(E:Nat->Nat)(p:Int):Option Addr:=if 0<p then some ⟨E (p-1).toNat,0,none⟩else none
def sltP(S:Nat->Nat)(j:Nat)(p:Int):Option Addr:=if p=0 then none else some ⟨S j,0,none⟩
structure GCell (w:World) (b:Nat):Prop where
 lt:b<w.heap.size
 gn:w.cell? ⟨b,6,none⟩=some (.bool true)
 ob:w.heap[b]?=some (.cells goneA 333 (0,0))
theorem GCell.keep{w w':World}{b:Nat}(h:GCell w b)(hs:w.heap.size<=w'.heap.size)(e:w'.heap[b]?=w.heap[b]?):GCell w' b:=
 ⟨Nat.lt_of_lt_of_le h.lt hs,(World.cell?_of_block (a:=⟨b,6,none⟩) e).trans h.gn,e.trans h.ob⟩
def SlotIs(w:World)(E S:Nat->Nat)(d:Dc)(j:Nat):Prop:=
 (0<d.X j->SCell w (S j) (d.at (d.X j)).key (E (d.X j-1).toNat))/\(d.X j<0->GCell w (S j))
abbrev hashF:Value:=.func (.func 247) #[] #[]
structure Book (w:World) (bk R0 R1 R2:Nat) (E S:Nat->Nat) (d:Dc):Prop where
 lt:bk<w.heap.size
 c0:∃a k,w.cell? ⟨bk,0,none⟩=some (.slice a d.n k)/\(0<d.n->a=some ⟨R0,0,none⟩)
 c1:∃k,w.cell? ⟨bk,1,none⟩=some (.slice (some ⟨R1,0,none⟩) d.m k)
 c2:w.cell? ⟨bk,2,none⟩=some hashF
 c3:w.cell? ⟨bk,3,none⟩=some (.slice (some ⟨R2,0,none⟩) d.x d.x)
 c4:w.cell? ⟨bk,4,none⟩=some (.int .i64 d.used)
 c5:w.cell? ⟨bk,5,none⟩=some (.int .i64 d.live)
 c6:w.cell? ⟨bk,6,none⟩=some (.int .i64 d.turns)
 r0:∀i,i<d.n->w.cell? ⟨R0,i,none⟩=some (.pointer (some ⟨E i,0,none⟩))
 ent:∀i,i<d.n->ECell w (E i) (d.L i) i
 inj:∀i j,i<d.n->j<d.n->E i=E j->i=j
 r1:∀i,i<d.m->w.cell? ⟨R1,i,none⟩=some (.pointer (entP E (d.I i)))
 r2:∀j,j<d.x->w.cell? ⟨R2,j,none⟩=some (.pointer (sltP S j (d.X j)))
 sl:∀j,j<d.x->SlotIs w E S d j
 l0:R0<w.heap.size
 l1:R1<w.heap.size
 l2:R2<w.heap.size
theorem Book.below{w w':World}{bk R0 R1 R2:Nat}{E S:Nat->Nat}{d:Dc}(h:Book w bk R0 R1 R2 E S d)(hb:Below w.heap.size w w'):Book w' bk R0 R1 R2 E S d:=by
 have e:∀q o,q<w.heap.size->w'.cell? ⟨q,o,none⟩=w.cell? ⟨q,o,none⟩:=fun q o hq=>hb.cell (p:=⟨q,o,none⟩) hq
 refine⟨Nat.lt_of_lt_of_le h.lt hb.size,by obtain⟨a,k,h1,h2⟩:=h.c0;exact⟨a,k,(e _ _ h.lt).trans h1,h2⟩,by obtain⟨k,h1⟩:=h.c1;exact⟨k,(e _ _ h.lt).trans h1⟩,(e _ _ h.lt).trans h.c2,(e _ _ h.lt).trans h.c3,(e _ _ h.lt).trans h.c4,(e _ _ h.lt).trans h.c5,(e _ _ h.lt).trans h.c6,fun i hi=>(e _ _ h.l0).trans (h.r0 i hi),fun i hi=>(h.ent i hi).keep hb.size (hb.block _ (h.ent i hi).lt),h.inj,fun i hi=>(e _ _ h.l1).trans (h.r1 i hi),fun i hi=>(e _ _ h.l2).trans (h.r2 i hi),fun j hj=>⟨fun hp=>((h.sl j hj).1 hp).keep hb.size (hb.block _ ((h.sl j hj).1 hp).lt),fun hp=>((h.sl j hj).2 hp).keep hb.size (hb.block _ ((h.sl j hj).2 hp).lt)⟩,Nat.lt_of_lt_of_le h.l0 hb.size,Nat.lt_of_lt_of_le h.l1 hb.size,Nat.lt_of_lt_of_le h.l2 hb.size⟩
theorem infoEnt:(Tryz.prog.info? 292).map (fun i=>(i.zero,i.size,i.bytes))=some (some (.pointer none),1,8):=by kernel_rfl
theorem infoSlot:(Tryz.prog.info? 331).map (fun i=>(i.zero,i.size,i.bytes))=some (some (.pointer none),1,8):=by kernel_rfl
theorem make_ptrs{tS tE:TypeId}(hu:Tryz.prog.underlying tS=some (.slice tE))(hi:(Tryz.prog.info? tE).map (fun i=>(i.zero,i.size,i.bytes))=some (some (.pointer none),1,8))(n:Nat)(hn:n<=4194304)(w:World):
  (Instr.makeSlice tS (.int .i64 (n:Int)) (.int .i64 (n:Int))).run Tryz.prog w=.ok (.slice (some ⟨w.heap.size,0,none⟩) n n) (w.alloc (.cells (madeCells (Value.pointer none).cells n) tE)):=by
 obtain⟨i,hi,hz,hs,hb⟩:=info_parts hi
 have:=run_make (P:=Tryz.prog) w tS tE i _ hu hi hz .i64 .i64 n n (by omega) (Int.le_refl _) (by rw[hb];omega) (by omega)
 simp only[Int.toNat_natCast,hs,Nat.mul_one]at this
 exact this
theorem made_nils(w:World)(n:Nat)(tE:TypeId):(w.alloc (.cells (madeCells (Value.pointer none).cells n) tE)).rowIs w.heap.size tE n (fun _=>.pointer none):=by
 have h:=World.rowIs_alloc w (madeCells (Value.pointer none).cells n) tE (fun _=>.pointer none) (fun i hi=>by
  rw[size_madeCells]at hi
  unfold madeCells
  simp[Value.cells,hi,Nat.mod_one])
 rw[size_madeCells]at h
 exact h
def Ptrs(w:World)(R n:Nat)(tE:TypeId)(f:Nat->Option Addr):Prop:=∃g,w.rowIs R tE n g/\∀i,i<n->g i=.pointer (f i)
theorem Ptrs.cell{w:World}{R n:Nat}{tE:TypeId}{f:Nat->Option Addr}(h:Ptrs w R n tE f){i:Nat}(hi:i<n):w.cell? ⟨R,i,none⟩=some (.pointer (f i)):=by
 obtain⟨g,hr,hg⟩:=h
 rw[hr.cell hi,hg i hi]
theorem Ptrs.frozen{w:World}{R n:Nat}{tE:TypeId}{f:Nat->Option Addr}(h:Ptrs w R n tE f)(i:Nat):w.frozen? ⟨R,i,none⟩=false:=by
 obtain⟨g,hr,hg⟩:=h
 exact hr.frozen i
theorem Ptrs.keep{w w':World}{R n:Nat}{tE:TypeId}{f:Nat->Option Addr}(h:Ptrs w R n tE f)(e:w'.heap[R]?=w.heap[R]?):Ptrs w' R n tE f:=by
 obtain⟨g,hr,hg⟩:=h
 exact⟨g,hr.of_block e,hg⟩
theorem Ptrs.set{w:World}{R n q:Nat}{tE:TypeId}{f:Nat->Option Addr}(h:Ptrs w R n tE f)(p:Option Addr):Ptrs (w.setCell ⟨R,q,none⟩ (.pointer p)) R n tE (fun i=>if i=q then p else f i):=by
 obtain⟨g,hr,hg⟩:=h
 refine⟨_,hr.set q _,fun i hi=>?_⟩
 by_cases e:i=q
 ·subst e;simp
 ·simp only[e,if_false];exact hg i hi
theorem Ptrs.congr{w:World}{R n:Nat}{tE:TypeId}{f f':Nat->Option Addr}(h:Ptrs w R n tE f)(e:∀i,i<n->f' i=f i):Ptrs w R n tE f':=by
 obtain⟨g,hr,hg⟩:=h
 exact⟨g,hr,fun i hi=>by rw[e i hi];exact hg i hi⟩
theorem entry_new(w:World)(p:Pr)(k:Nat):ECell (w.alloc (.cells (entA p k) 294)) w.heap.size p k:=
 ⟨by simp,by simp[go_sem],by simp[go_sem],by simp[go_sem],by simp[go_sem],by simp[go_sem],by simp[go_sem],by simp[go_sem],by simp[go_sem],by simp[go_sem],by simp[go_sem],by simp[go_sem],by simp[go_sem],Deep.blk_alloc_new _ _⟩
structure Bk (w v:World) (xa:Option Addr) (xc:Nat) (d:Dc) (E:Nat->Nat) (s1 s2 s3 s4:Value):Prop where
 below:Below w.heap.size w v
 sz:w.heap.size+3<=v.heap.size
 a2:v.cell? ⟨w.heap.size,2,none⟩=some (.slice xa d.x xc)
 a3:v.cell? ⟨w.heap.size,3,none⟩=some (.int .i64 d.used)
 b0:v.cell? ⟨w.heap.size+1,0,none⟩=some (.slice (some ⟨w.heap.size+1+1,0,none⟩) d.n d.n)
 b1:v.cell? ⟨w.heap.size+1,1,none⟩=some s1
 b2:v.cell? ⟨w.heap.size+1,2,none⟩=some s2
 b3:v.cell? ⟨w.heap.size+1,3,none⟩=some s3
 b4:v.cell? ⟨w.heap.size+1,4,none⟩=some s4
 b5:v.cell? ⟨w.heap.size+1,5,none⟩=some (.int .i64 d.live)
 b6:v.cell? ⟨w.heap.size+1,6,none⟩=some (.int .i64 d.turns)
 fz:∀o,v.frozen? ⟨w.heap.size+1,o,none⟩=false
 ptr:Ptrs v (w.heap.size+1+1) d.n 292 (fun i=>some ⟨E i,0,none⟩)
 ent:∀i,i<d.n->ECell v (E i) (d.L i) i/\w.heap.size+3<=E i
theorem Bk.fil{w v v':World}{xa:Option Addr}{xc R:Nat}{d:Dc}{E:Nat->Nat}{s1 s2 s3 s4:Value}(h:Bk w v xa xc d E s1 s2 s3 s4)(hF:Fil R v v')(hR:w.heap.size+3<=R)(hE:∀i,i<d.n->E i≠R):Bk w v' xa xc d E s1 s2 s3 s4:=by
 have hz:=h.sz
 have e0:∀o,v'.cell? ⟨w.heap.size,o,none⟩=v.cell? ⟨w.heap.size,o,none⟩:=fun o=>hF.cell (by omega) (by omega)
 have e1:∀o,v'.cell? ⟨w.heap.size+1,o,none⟩=v.cell? ⟨w.heap.size+1,o,none⟩:=fun o=>hF.cell (by omega) (by omega)
 exact⟨h.below.trans (hF.below (by omega) (by omega)),Nat.le_trans h.sz hF.size,(e0 _).trans h.a2,(e0 _).trans h.a3,(e1 _).trans h.b0,(e1 _).trans h.b1,(e1 _).trans h.b2,(e1 _).trans h.b3,(e1 _).trans h.b4,(e1 _).trans h.b5,(e1 _).trans h.b6,fun o=>(hF.frozen (by omega) (by omega)).trans (h.fz o),h.ptr.keep (hF.block _ (by omega) (by omega)),fun i hi=>⟨(h.ent i hi).1.keep hF.size (hF.block _ (h.ent i hi).1.lt (hE i hi)),(h.ent i hi).2⟩⟩
theorem Bk.alloc{w v:World}{xa:Option Addr}{xc:Nat}{d:Dc}{E:Nat->Nat}{s1 s2 s3 s4:Value}(h:Bk w v xa xc d E s1 s2 s3 s4)(o:Obj):Bk w (v.alloc o) xa xc d E s1 s2 s3 s4:=
 h.fil (R:=v.heap.size) ((Fil.refl _ _).alloc o) h.sz (fun i hi=>Nat.ne_of_lt (h.ent i hi).1.lt)
theorem Bk.of_set{w v:World}{xa:Option Addr}{xc o:Nat}{d:Dc}{E:Nat->Nat}{u s1 s2 s3 s4 s1' s2' s3' s4':Value}(h:Bk w v xa xc d E s1 s2 s3 s4)
  (g0:o≠0) (g5:o≠5) (g6:o≠6)
  (g1:(v.setCell ⟨w.heap.size+1,o,none⟩ u).cell? ⟨w.heap.size+1,1,none⟩=some s1') (g2:(v.setCell ⟨w.heap.size+1,o,none⟩ u).cell? ⟨w.heap.size+1,2,none⟩=some s2') (g3:(v.setCell ⟨w.heap.size+1,o,none⟩ u).cell? ⟨w.heap.size+1,3,none⟩=some s3') (g4:(v.setCell ⟨w.heap.size+1,o,none⟩ u).cell? ⟨w.heap.size+1,4,none⟩=some s4'):Bk w (v.setCell ⟨w.heap.size+1,o,none⟩ u) xa xc d E s1' s2' s3' s4':=by
 have hz:=h.sz
 refine⟨h.below.setCell (by show _<=w.heap.size+1;omega) _,by simpa using h.sz,(cell_set_block (by omega)).trans h.a2,(cell_set_block (by omega)).trans h.a3,(cell_set_other g0).trans h.b0,g1,g2,g3,g4,(cell_set_other g5).trans h.b5,(cell_set_other g6).trans h.b6,fun q=>by rw[World.frozen?_setCell];exact h.fz q,h.ptr.keep (Deep.blk_setCell_other _ _ _ _ (by show w.heap.size+1+1≠w.heap.size+1;omega)),fun i hi=>⟨(h.ent i hi).1.keep (by simp) (Deep.blk_setCell_other _ _ _ _ (by show E i≠w.heap.size+1;have:=(h.ent i hi).2;omega)),(h.ent i hi).2⟩⟩
theorem Bk.set1{w v:World}{xa:Option Addr}{xc:Nat}{d:Dc}{E:Nat->Nat}{s1 s2 s3 s4:Value}(h:Bk w v xa xc d E s1 s2 s3 s4)(u:Value):Bk w (v.setCell ⟨w.heap.size+1,1,none⟩ u) xa xc d E u s2 s3 s4:=
 h.of_set (by decide) (by decide) (by decide) (World.cell?_setCell_same' _ _ _ (by rw[h.b1];rfl)) ((cell_set_other (by decide)).trans h.b2) ((cell_set_other (by decide)).trans h.b3) ((cell_set_other (by decide)).trans h.b4)
theorem Bk.set2{w v:World}{xa:Option Addr}{xc:Nat}{d:Dc}{E:Nat->Nat}{s1 s2 s3 s4:Value}(h:Bk w v xa xc d E s1 s2 s3 s4)(u:Value):Bk w (v.setCell ⟨w.heap.size+1,2,none⟩ u) xa xc d E s1 u s3 s4:=
 h.of_set (by decide) (by decide) (by decide) ((cell_set_other (by decide)).trans h.b1) (World.cell?_setCell_same' _ _ _ (by rw[h.b2];rfl)) ((cell_set_other (by decide)).trans h.b3) ((cell_set_other (by decide)).trans h.b4)
theorem Bk.set3{w v:World}{xa:Option Addr}{xc:Nat}{d:Dc}{E:Nat->Nat}{s1 s2 s3 s4:Value}(h:Bk w v xa xc d E s1 s2 s3 s4)(u:Value):Bk w (v.setCell ⟨w.heap.size+1,3,none⟩ u) xa xc d E s1 s2 u s4:=
 h.of_set (by decide) (by decide) (by decide) ((cell_set_other (by decide)).trans h.b1) ((cell_set_other (by decide)).trans h.b2) (World.cell?_setCell_same' _ _ _ (by rw[h.b3];rfl)) ((cell_set_other (by decide)).trans h.b4)
theorem Bk.set4{w v:World}{xa:Option Addr}{xc:Nat}{d:Dc}{E:Nat->Nat}{s1 s2 s3 s4:Value}(h:Bk w v xa xc d E s1 s2 s3 s4)(u:Value):Bk w (v.setCell ⟨w.heap.size+1,4,none⟩ u) xa xc d E s1 s2 s3 u:=
 h.of_set (by decide) (by decide) (by decide) ((cell_set_other (by decide)).trans h.b1) ((cell_set_other (by decide)).trans h.b2) ((cell_set_other (by decide)).trans h.b3) (World.cell?_setCell_same' _ _ _ (by rw[h.b4];rfl))
theorem Ptrs.fresh(w:World)(n:Nat)(tE:TypeId):Ptrs (w.alloc (.cells (madeCells #[.pointer none] n) tE)) w.heap.size n tE (fun _=>none):=by
 have:=made_nils w n tE
 exact⟨_,by simpa[Value.cells]using this,fun i hi=>rfl⟩
theorem slot_new(w:World)(v:Vl)(e:Nat):SCell (w.alloc (.cells (sltA v e) 333)) w.heap.size v e:=
 ⟨by simp,by simp[go_sem],by simp[go_sem],by simp[go_sem],by simp[go_sem],by simp[go_sem],by simp[go_sem],by simp[go_sem],Deep.blk_alloc_new _ _⟩
structure Strong (w:World) (B bk R0 R1 R2:Nat) (E S:Nat->Nat) (d:Dc):Prop where
 e0:w.cell? ⟨bk,0,none⟩=some (.slice (some ⟨R0,0,none⟩) d.n d.n)
 e1:w.cell? ⟨bk,1,none⟩=some (.slice (some ⟨R1,0,none⟩) d.m d.m)
 fz:∀o,w.frozen? ⟨bk,o,none⟩=false
 o0:Ptrs w R0 d.n 292 (fun i=>some ⟨E i,0,none⟩)
 o1:Ptrs w R1 d.m 292 (fun i=>entP E (d.I i))
 o2:Ptrs w R2 d.x 331 (fun j=>sltP S j (d.X j))
 r01:R0≠R1
 gb:B<=bk
 g0:bk<R0
 g1:bk<R1
 g2:bk<R2
 gE:∀i,i<d.n->bk<E i
 gS:∀j,j<d.x->d.X j≠0->R2<S j
theorem openBook_own(la:Option Addr)(lc:Nat)(ia:Option Addr)(ic:Nat)(xa:Option Addr)(xc:Nat)(d:Dc)(w:World)(hD:DAt w la ia xa d)(hS:Small d)(h3:D3 d)(h4:D4 d):
  Calls Tryz.prog 213 #[Dv la lc ia ic xa xc d] w fun e w'=>(∃bk R0 R1 R2 E S,e=.returned (.pointer (some ⟨bk,0,none⟩))/\Book w' bk R0 R1 R2 E S d/\Strong w' w.heap.size bk R0 R1 R2 E S d)/\Below w.heap.size w w':=by
 have hn:=hS.n
 have hm:=hS.m
 have hx:=hS.x
 have HD:=uy hD
 have H3:=uy h3
 have H4:=uy h4
 clear hD hS h3 h4
 have mk1:=make_ptrs Tryz.underlying324 infoEnt d.n hn
 go_enter Tryz.func213,Tryz.ntmps213
 go_wp2_with fail
 obtain⟨u1,hu1⟩:∃u1,u1=(((w.alloc (.cells #[.slice la d.n lc,.slice ia d.m ic,.slice xa d.x xc,.int .i64 d.used,.int .i64 d.live,.int .i64 d.turns] 92)).alloc (.cells #[.slice (some ⟨w.heap.size+1+1,0,none⟩) d.n d.n,.slice none 0 0,.nilFunc,.slice none 0 0,.int .i64 0,.int .i64 d.live,.int .i64 d.turns] 330)).alloc (.cells (madeCells #[.pointer none] d.n) 292)):=⟨_,rfl⟩
 rw[<-hu1]
 have zu1:u1.heap.size=w.heap.size+3:=by rw[hu1];simp
 have HBu1:Hid (Below w.heap.size w u1):=uy (by rw[hu1];exact(((Below.refl _ _).alloc (Nat.le_refl _) _).alloc (by simp) _).alloc (by simp;omega) _)
 have HP1:Hid (Ptrs u1 (w.heap.size+1+1) d.n 292 (fun _=>none)):=uy (by
  rw[hu1]
  have:=made_nils ((w.alloc (.cells #[.slice la d.n lc,.slice ia d.m ic,.slice xa d.x xc,.int .i64 d.used,.int .i64 d.live,.int .i64 d.turns] 92)).alloc (.cells #[.slice (some ⟨w.heap.size+1+1,0,none⟩) d.n d.n,.slice none 0 0,.nilFunc,.slice none 0 0,.int .i64 0,.int .i64 d.live,.int .i64 d.turns] 330)) d.n 292
  exact⟨_,by simpa[Value.cells]using this,fun i hi=>rfl⟩)
 have a1:u1.cell? ⟨w.heap.size,1,none⟩=some (.slice ia d.m ic):=by rw[hu1];simp[go_sem]
 have a2:u1.cell? ⟨w.heap.size,2,none⟩=some (.slice xa d.x xc):=by rw[hu1];simp[go_sem]
 have a3:u1.cell? ⟨w.heap.size,3,none⟩=some (.int .i64 d.used):=by rw[hu1];simp[go_sem]
 have b0:u1.cell? ⟨w.heap.size+1,0,none⟩=some (.slice (some ⟨w.heap.size+1+1,0,none⟩) d.n d.n):=by rw[hu1];simp[go_sem]
 have b1:u1.cell? ⟨w.heap.size+1,1,none⟩=some (.slice none 0 0):=by rw[hu1];simp[go_sem]
 have b2:u1.cell? ⟨w.heap.size+1,2,none⟩=some .nilFunc:=by rw[hu1];simp[go_sem]
 have b3:u1.cell? ⟨w.heap.size+1,3,none⟩=some (.slice none 0 0):=by rw[hu1];simp[go_sem]
 have b4:u1.cell? ⟨w.heap.size+1,4,none⟩=some (.int .i64 0):=by rw[hu1];simp[go_sem]
 have b5:u1.cell? ⟨w.heap.size+1,5,none⟩=some (.int .i64 d.live):=by rw[hu1];simp[go_sem]
 have b6:u1.cell? ⟨w.heap.size+1,6,none⟩=some (.int .i64 d.turns):=by rw[hu1];simp[go_sem]
 have f1:∀o,u1.frozen? ⟨w.heap.size+1,o,none⟩=false:=by intro o;rw[hu1];simp[go_sem]
 clear hu1 mk1
 go_loopw [26] (fun i wr=>∃(k:Nat) (E:Nat->Nat),k<=d.n/\i=.int .i64 k/\Fil (w.heap.size+1+1) u1 wr/\Ptrs wr (w.heap.size+1+1) d.n 292 (fun i=>if i<k then some ⟨E i,0,none⟩else none)/\(∀i,i<k->ECell wr (E i) (d.L i) i/\w.heap.size+3<=E i)/\∀i j,i<k->j<k->E i=E j->i=j) (fun i _=>d.n-(intOf i).toNat)
 case atStart=>exact⟨0,fun _=>0,by omega,rfl,Fil.refl _ _,(uh HP1).congr (fun i hi=>if_neg (by omega)),fun i hi=>by omega,fun i j hi=>by omega⟩
 case round=>
  clear HP1
  obtain⟨k,E,hk,rfl,hF,hP,hE,hinj⟩:=hrel
  by_cases hkn:k<d.n
  ·obtain⟨b,off,rfl,hbl,hcs⟩:=(uh HD).log.resolve_left (by omega)
   have hwr:Below w.heap.size w wr:=(uh HBu1).trans (hF.below (by omega) (by omega))
   obtain⟨e0,e1,e2,e3,e4,e5,e6,e7,e8,e9,e10⟩:=(hcs k hkn).keep (fun q=>hwr.cell (p:=⟨b,q,none⟩) hbl)
   have hzr:=hF.size
   have HF:=uy hF
   have HP:=uy hP
   have HE:=uy hE
   have HI:=uy hinj
   have HWR:=uy hwr
   have r0:=hP.cell hkn
   have r1:=hP.frozen k
   have p0:=(hF.cell (o:=0) (q:=w.heap.size+1) (by omega) (by omega)).trans b0
   clear hcs hF hP hE hinj hwr
   go_wp2_with fail
   obtain⟨W,hW⟩:∃W,W=wr.alloc (.cells #[.int .i64 (d.L k).key.kind,.int .i64 (d.L k).key.num,.float .f64 (d.L k).key.flt,.string (d.L k).key.str,.int .i64 (d.L k).key.ref,.int .i64 (d.L k).val.kind,.int .i64 (d.L k).val.num,.float .f64 (d.L k).val.flt,.string (d.L k).val.str,.int .i64 (d.L k).val.ref,.int .i64 (d.L k).turn] 96):=⟨_,rfl⟩
   rw[<-hW]
   have y0:W.cell? ⟨wr.heap.size,0,none⟩=some (.int .i64 (d.L k).key.kind):=by rw[hW];simp[go_sem]
   have y1:W.cell? ⟨wr.heap.size,1,none⟩=some (.int .i64 (d.L k).key.num):=by rw[hW];simp[go_sem]
   have y2:W.cell? ⟨wr.heap.size,2,none⟩=some (.float .f64 (d.L k).key.flt):=by rw[hW];simp[go_sem]
   have y3:W.cell? ⟨wr.heap.size,3,none⟩=some (.string (d.L k).key.str):=by rw[hW];simp[go_sem]
   have y4:W.cell? ⟨wr.heap.size,4,none⟩=some (.int .i64 (d.L k).key.ref):=by rw[hW];simp[go_sem]
   have y5:W.cell? ⟨wr.heap.size,5,none⟩=some (.int .i64 (d.L k).val.kind):=by rw[hW];simp[go_sem]
   have y6:W.cell? ⟨wr.heap.size,6,none⟩=some (.int .i64 (d.L k).val.num):=by rw[hW];simp[go_sem]
   have y7:W.cell? ⟨wr.heap.size,7,none⟩=some (.float .f64 (d.L k).val.flt):=by rw[hW];simp[go_sem]
   have y8:W.cell? ⟨wr.heap.size,8,none⟩=some (.string (d.L k).val.str):=by rw[hW];simp[go_sem]
   have y9:W.cell? ⟨wr.heap.size,9,none⟩=some (.int .i64 (d.L k).val.ref):=by rw[hW];simp[go_sem]
   have y10:W.cell? ⟨wr.heap.size,10,none⟩=some (.int .i64 (d.L k).turn):=by rw[hW];simp[go_sem]
   have hzW:W.heap.size=wr.heap.size+1:=by rw[hW];simp
   have hFW:Fil (w.heap.size+1+1) wr W:=by rw[hW];exact(Fil.refl _ _).alloc _
   have q0:=(hFW.cell (o:=0) (q:=w.heap.size+1) (by omega) (by omega)).trans p0
   have hblk:W.heap[w.heap.size+1+1]?=wr.heap[w.heap.size+1+1]?:=by rw[hW];exact Deep.blk_alloc_lt _ _ _ (by omega)
   have HPW:=uy ((uh HP).keep hblk)
   have s0:=((uh HPW).cell hkn)
   have s1:=((uh HPW).frozen k)
   have HFW:=uy hFW
   have HZW:=uy hzW
   have hz1:w.heap.size+1<W.heap.size:=by omega
   have hz2:w.heap.size+1+1<W.heap.size:=by omega
   have hz3:wr.heap.size<W.heap.size:=by omega
   clear hW hFW hzW hblk e0 e1 e2 e3 e4 e5 e6 e7 e8 e9 e10 r0 r1 p0
   obtain⟨W2,hW2⟩:∃W2,W2=((W.setCell ⟨w.heap.size+1+1,k,none⟩ (.pointer (some ⟨W.heap.size,0,none⟩))).alloc (.cells #[.int .i64 (d.L k).key.kind,.int .i64 (d.L k).key.num,.float .f64 (d.L k).key.flt,.string (d.L k).key.str,.int .i64 (d.L k).key.ref,.int .i64 (d.L k).val.kind,.int .i64 (d.L k).val.num,.float .f64 (d.L k).val.flt,.string (d.L k).val.str,.int .i64 (d.L k).val.ref,.int .i64 (d.L k).turn,.int .i64 (k:Int)] 294)).drew:=⟨_,rfl⟩
   have hF2:Fil (w.heap.size+1+1) wr W2:=by rw[hW2];exact(((uh HFW).setCell _ _).alloc _).drew
   have hP2:Ptrs W2 (w.heap.size+1+1) d.n 292 (fun i=>if i<k+1 then some ⟨(fun i=>if i=k then W.heap.size else E i) i,0,none⟩else none):=by
    refine(((uh HPW).set (q:=k) (some ⟨W.heap.size,0,none⟩)).keep (w':=W2) ?_).congr (fun i hi=>?_)
    ·rw[hW2];exact Deep.blk_alloc_lt _ _ _ (by simpa using hz2)
    ·by_cases e:i=k
     ·subst e;simp
     ·simp only[e,if_false]
      by_cases e2:i<k
      ·rw[if_pos (by omega),if_pos e2]
      ·rw[if_neg (by omega),if_neg e2]
   have hE2:∀i,i<k+1->ECell W2 ((fun i=>if i=k then W.heap.size else E i) i) (d.L i) i/\w.heap.size+3<=(fun i=>if i=k then W.heap.size else E i) i:=by
    intro i hi
    by_cases e:i=k
    ·subst e
     simp only[if_true]
     refine⟨?_,by omega⟩
     have:=entry_new (W.setCell ⟨w.heap.size+1+1,i,none⟩ (.pointer (some ⟨W.heap.size,0,none⟩))) (d.L i) i
     rw[hW2]
     refine ECell.drew ?_
     simpa using this
    ·simp only[e,if_false]
     obtain⟨h1,h2⟩:=uh HE i (by omega)
     exact⟨h1.keep hF2.size (hF2.block _ h1.lt (by omega)),h2⟩
   have hI2:∀i j,i<k+1->j<k+1->(fun i=>if i=k then W.heap.size else E i) i=(fun i=>if i=k then W.heap.size else E i) j->i=j:=by
    intro i j hi hj he
    have hzW:=uh HZW
    by_cases e:i=k
    ·by_cases e2:j=k
     ·omega
     ·simp only[e,e2,if_true,if_false]at he
      have:=(uh HE j (by omega)).1.lt
      omega
    ·by_cases e2:j=k
     ·simp only[e,e2,if_true,if_false]at he
      have:=(uh HE i (by omega)).1.lt
      omega
     ·simp only[e,e2,if_false]at he
      exact uh HI i j (by omega) (by omega) he
   have HN:=uy (⟨(uh HF).trans hF2,hP2,hE2,hI2⟩:Fil (w.heap.size+1+1) u1 W2/\_/\_/\_)
   clear hF2 hP2 hE2 hI2
   go_region
   rw[<-hW2]
   clear hW2
   go_wp2
   go_roundw
   case rel=>exact⟨k+1,_,by omega,by go_num,(uh HN).1,(uh HN).2.1,(uh HN).2.2.1,(uh HN).2.2.2⟩
   case measure=>simp[intOf];omega
  have hkn':k=d.n:=by omega
  subst hkn'
  have hP':Ptrs wr (w.heap.size+1+1) d.n 292 (fun i=>some ⟨E i,0,none⟩):=hP.congr (fun i hi=>(if_pos hi).symm)
  have hz1:=hF.size
  have HBv:Hid (Below w.heap.size w wr):=uy ((uh HBu1).trans (hF.below (by omega) (by omega)))
  have ca1:=(hF.cell (o:=1) (q:=w.heap.size) (by omega) (by omega)).trans a1
  have ca2:=(hF.cell (o:=2) (q:=w.heap.size) (by omega) (by omega)).trans a2
  have ca3:=(hF.cell (o:=3) (q:=w.heap.size) (by omega) (by omega)).trans a3
  have cb0:=(hF.cell (o:=0) (q:=w.heap.size+1) (by omega) (by omega)).trans b0
  have cb1:=(hF.cell (o:=1) (q:=w.heap.size+1) (by omega) (by omega)).trans b1
  have cb2:=(hF.cell (o:=2) (q:=w.heap.size+1) (by omega) (by omega)).trans b2
  have cb3:=(hF.cell (o:=3) (q:=w.heap.size+1) (by omega) (by omega)).trans b3
  have cb4:=(hF.cell (o:=4) (q:=w.heap.size+1) (by omega) (by omega)).trans b4
  have cb5:=(hF.cell (o:=5) (q:=w.heap.size+1) (by omega) (by omega)).trans b5
  have cb6:=(hF.cell (o:=6) (q:=w.heap.size+1) (by omega) (by omega)).trans b6
  have cf:∀o,wr.frozen? ⟨w.heap.size+1,o,none⟩=false:=fun o=>(hF.frozen (o:=o) (q:=w.heap.size+1) (by omega) (by omega)).trans (f1 o)
  have hzv:w.heap.size+3<=wr.heap.size:=by omega
  obtain⟨v1,hv1⟩:∃v,v=wr:=⟨_,rfl⟩
  rw[<-hv1]at HBv ca1 ca2 ca3 cb0 cb1 cb2 cb3 cb4 cb5 cb6 cf hzv hP' hE ⊢
  have HI:=uy hinj
  have mk2:=make_ptrs Tryz.underlying324 infoEnt d.m hm
  have hy0:w.heap.size<v1.heap.size:=by omega
  have hy1:w.heap.size+1<v1.heap.size:=by omega
  have hy2:w.heap.size+1≠v1.heap.size:=by omega
  have HK0:Hid (Bk w v1 xa xc d E (.slice none 0 0) .nilFunc (.slice none 0 0) (.int .i64 0)):=uy ⟨uh HBv,hzv,ca2,ca3,cb0,cb1,cb2,cb3,cb4,cb5,cb6,cf,hP',hE⟩
  clear hv1 hP hP' hE hinj hF hz1 hk hkn a1 a2 a3 b0 b1 b2 b3 b4 b5 b6 f1 HBu1 zu1 HBv
  go_wp2_with fail
  clear mk2
  obtain⟨u2,hu2⟩:∃u2,u2=((v1.setCell ⟨w.heap.size+1,1,none⟩ (.slice (some ⟨v1.heap.size,0,none⟩) d.m d.m)).alloc (.cells (madeCells #[.pointer none] d.m) 292)):=⟨_,rfl⟩
  rw[<-hu2]
  have HK:Hid (Bk w u2 xa xc d E (.slice (some ⟨v1.heap.size,0,none⟩) d.m d.m) .nilFunc (.slice none 0 0) (.int .i64 0)):=uy (by rw[hu2];exact((uh HK0).set1 _).alloc _)
  have HQ:Hid (Ptrs u2 v1.heap.size d.m 292 (fun _=>none)):=uy (by rw[hu2];have:=Ptrs.fresh (v1.setCell ⟨w.heap.size+1,1,none⟩ (.slice (some ⟨v1.heap.size,0,none⟩) d.m d.m)) d.m 292;simpa using this)
  have hER:∀i,i<d.n->E i<v1.heap.size:=fun i hi=>((uh HK0).ent i hi).1.lt
  have HER:=uy hER
  obtain⟨R1,hR1⟩:∃R1,R1=v1.heap.size:=⟨_,rfl⟩
  have hzu:u2.heap.size=R1+1:=by rw[hu2,hR1];simp
  rw[<-hR1]at HK HQ HER hzv ⊢
  clear hu2 hER HK0 cf ca1 ca2 ca3 cb0 cb1 cb2 cb3 cb4 cb5 cb6 hy0 hy1 hy2 hR1
  go_loopw [52] (fun i wr=>∃k:Nat,k<=d.m/\i=.int .i64 k/\Fil R1 u2 wr/\Ptrs wr R1 d.m 292 (fun i=>if i<k then entP E (d.I i)else none)) (fun i _=>d.m-(intOf i).toNat)
  case atStart=>exact⟨0,by omega,rfl,Fil.refl _ _,(uh HQ).congr (fun i hi=>if_neg (by omega))⟩
  case round=>
   clear HQ
   obtain⟨k,hk,rfl,hF,hP⟩:=hrel
   have hK:Bk w wr xa xc d E (.slice (some ⟨R1,0,none⟩) d.m d.m) .nilFunc (.slice none 0 0) (.int .i64 0):=(uh HK).fil hF hzv (fun i hi=>Nat.ne_of_lt (uh HER i hi))
   by_cases hkn:k<d.m
   ·obtain⟨b,off,rfl,hbl,hcs⟩:=(uh HD).ints.resolve_left (by omega)
    have e0:=(hK.below.cell (p:=⟨b,off+k,none⟩) hbl).trans (hcs k hkn)
    have HF:=uy hF
    have HP:=uy hP
    have hzw:=hF.size
    rcases(uh H3).1 k hkn with hz|hz
    ·have HN:Hid (Ptrs wr R1 d.m 292 (fun i=>if i<k+1 then entP E (d.I i)else none)):=uy (hP.congr (fun i hi=>by
      by_cases e:i=k
      ·subst e;simp[entP,hz]
      ·by_cases e2:i<k
       ·rw[if_pos (by omega),if_pos e2]
       ·rw[if_neg (by omega),if_neg e2]))
     rw[hz]at e0
     clear hcs hF hP hK hz
     go_wp2
     go_roundw
     case rel=>exact⟨k+1,by omega,by go_num,uh HF,uh HN⟩
     case measure=>simp[intOf];omega
    ·obtain⟨q,hq⟩:∃q:Nat,d.I k=(q:Int)+1:=⟨(d.I k-1).toNat,by omega⟩
     have hqn:q<d.n:=by omega
     have c0:=hK.b0
     have c1:=hK.b1
     have p0:=hK.ptr.cell hqn
     have r0:=hP.cell hkn
     have r1:=hP.frozen k
     have hen:entP E (d.I k)=some ⟨E q,0,none⟩:=by unfold entP;rw[if_pos (by omega),hq];congr 3;omega
     have HN:Hid (Ptrs (wr.setCell ⟨R1,k,none⟩ (.pointer (some ⟨E q,0,none⟩))).drew R1 d.m 292 (fun i=>if i<k+1 then entP E (d.I i)else none)):=uy ((hP.set (q:=k) (some ⟨E q,0,none⟩)).congr (fun i hi=>by
      by_cases e:i=k
      ·subst e;simp[hen]
      ·simp only[e,if_false]
       by_cases e2:i<k
       ·rw[if_pos (by omega),if_pos e2]
       ·rw[if_neg (by omega),if_neg e2]))
     have hwq:IntKind.i64.wrap (q:Int)=q:=by rw[IntKind.wrap_i64];omega
     have hk0:w.heap.size+1<wr.heap.size:=by omega
     have hk1:w.heap.size+1+1<wr.heap.size:=by omega
     have hk2:R1<wr.heap.size:=by omega
     rw[hq]at e0
     clear hcs hF hP hK hz hq hen
     go_wp2_with fail
     go_region
     go_wp2
     go_roundw
     case rel=>exact⟨k+1,by omega,by go_num,((uh HF).setCell _ _).drew,uh HN⟩
     case measure=>simp[intOf];omega
   have hkn':k=d.m:=by omega
   subst hkn'
   have HQ:Hid (Ptrs wr R1 d.m 292 (fun i=>entP E (d.I i))):=uy (hP.congr (fun i hi=>(if_pos hi).symm))
   have hzw:=hF.size
   have ca2:=hK.a2
   have ca3:=hK.a3
   have cb2:=hK.b2
   have cb3:=hK.b3
   have cb4:=hK.b4
   have cf:=hK.fz
   have HK2:=uy hK
   obtain⟨v2,hv2⟩:∃v,v=wr:=⟨_,rfl⟩
   rw[<-hv2]at HQ ca2 ca3 cb2 cb3 cb4 cf HK2 hzw ⊢
   have mk3:=make_ptrs Tryz.underlying326 infoSlot d.x hx
   have hy0:w.heap.size<v2.heap.size:=by omega
   have hy1:w.heap.size+1<v2.heap.size:=by omega
   have hRl:R1<v2.heap.size:=by omega
   clear hP hF hK hk hkn hv2 HK
   go_wp2_with fail
   clear mk3
   obtain⟨u3,hu3⟩:∃u3,u3=(((((v2.setCell ⟨w.heap.size+1,2,none⟩ hashF).setCell ⟨w.heap.size+1,3,none⟩ (.slice none 0 0)).setCell ⟨w.heap.size+1,4,none⟩ (.int .i64 d.used)).setCell ⟨w.heap.size+1,3,none⟩ (.slice (some ⟨v2.heap.size,0,none⟩) d.x d.x)).alloc (.cells (madeCells #[.pointer none] d.x) 331)):=⟨_,rfl⟩
   rw[<-hu3]
   have HK:Hid (Bk w u3 xa xc d E (.slice (some ⟨R1,0,none⟩) d.m d.m) hashF (.slice (some ⟨v2.heap.size,0,none⟩) d.x d.x) (.int .i64 d.used)):=uy (by rw[hu3];exact(((((uh HK2).set2 _).set3 _).set4 _).set3 _).alloc _)
   have HS0:Hid (Ptrs u3 v2.heap.size d.x 331 (fun _=>none)):=uy (by rw[hu3];have:=Ptrs.fresh ((((v2.setCell ⟨w.heap.size+1,2,none⟩ hashF).setCell ⟨w.heap.size+1,3,none⟩ (.slice none 0 0)).setCell ⟨w.heap.size+1,4,none⟩ (.int .i64 d.used)).setCell ⟨w.heap.size+1,3,none⟩ (.slice (some ⟨v2.heap.size,0,none⟩) d.x d.x)) d.x 331;simpa using this)
   have HQ3:Hid (Ptrs u3 R1 d.m 292 (fun i=>entP E (d.I i))):=uy ((uh HQ).keep (by
    rw[hu3]
    refine(Deep.blk_alloc_lt _ _ _ (by simpa using hRl)).trans ?_
    exact(Deep.blk_setCell_other _ _ _ _ (by show R1≠w.heap.size+1;omega)).trans ((Deep.blk_setCell_other _ _ _ _ (by show R1≠w.heap.size+1;omega)).trans ((Deep.blk_setCell_other _ _ _ _ (by show R1≠w.heap.size+1;omega)).trans (Deep.blk_setCell_other _ _ _ _ (by show R1≠w.heap.size+1;omega))))))
   have HER2:Hid (∀i,i<d.n->E i<v2.heap.size):=uy (fun i hi=>((uh HK2).ent i hi).1.lt)
   obtain⟨R2,hR2⟩:∃R2,R2=v2.heap.size:=⟨_,rfl⟩
   have hzu3:u3.heap.size=R2+1:=by rw[hu3,hR2];simp
   rw[<-hR2]at HK HS0 HER2 hRl hzw ⊢
   clear hu3 HK2 HQ HER cf ca2 ca3 cb2 cb3 cb4 hy0 hy1 hR2
   have hR12:R1≠R2:=by omega
   have hN3:w.heap.size+3<=R2:=by omega
   go_loopw [91] (fun i wr=>∃(k:Nat) (S:Nat->Nat),k<=d.x/\i=.int .i64 k/\Fil R2 u3 wr/\Ptrs wr R2 d.x 331 (fun j=>if j<k then sltP S j (d.X j)else none)/\∀j,j<k->SlotIs wr E S d j/\(d.X j≠0->R2<S j)) (fun i _=>d.x-(intOf i).toNat)
   case atStart=>exact⟨0,fun _=>0,by omega,rfl,Fil.refl _ _,(uh HS0).congr (fun i hi=>if_neg (by omega)),fun j hj=>by omega⟩
   case round=>
    clear HS0
    obtain⟨k,S,hk,rfl,hF,hP,hSl⟩:=hrel
    have hK:Bk w wr xa xc d E (.slice (some ⟨R1,0,none⟩) d.m d.m) hashF (.slice (some ⟨R2,0,none⟩) d.x d.x) (.int .i64 d.used):=(uh HK).fil hF hN3 (fun i hi=>Nat.ne_of_lt (uh HER2 i hi))
    have hzw:=hF.size
    by_cases hkn:k<d.x
    ·obtain⟨b,off,rfl,hbl,hcs⟩:=(uh HD).index.resolve_left (by omega)
     have e0:=(hK.below.cell (p:=⟨b,off+k,none⟩) hbl).trans (hcs k hkn)
     have HF:=uy hF
     have HP:=uy hP
     have HSL:=uy hSl
     have hk0:w.heap.size+1<wr.heap.size:=by omega
     have hk1:w.heap.size+1+1<wr.heap.size:=by omega
     have hk2:R2<wr.heap.size:=by omega
     have c0:=hK.b0
     have c3:=hK.b3
     have r0:=hP.cell hkn
     have r1:=hP.frozen k
     by_cases p0:d.X k=0
     ·have HN:Hid (Ptrs wr R2 d.x 331 (fun j=>if j<k+1 then sltP S j (d.X j)else none)):=uy (hP.congr (fun j hj=>by
       by_cases e:j=k
       ·subst e;simp[sltP,p0]
       ·by_cases e2:j<k
        ·rw[if_pos (by omega),if_pos e2]
        ·rw[if_neg (by omega),if_neg e2]))
      have HN2:Hid (∀j,j<k+1->SlotIs wr E S d j/\(d.X j≠0->R2<S j)):=uy (fun j hj=>by
       by_cases e:j=k
       ·subst e;exact⟨⟨fun h=>by omega,fun h=>by omega⟩,fun h=>absurd p0 h⟩
       ·exact hSl j (by omega))
      rw[p0]at e0
      clear hcs hF hP hK hSl p0
      go_wp2
      go_roundw
      case rel=>exact⟨k+1,S,by omega,by go_num,uh HF,uh HN,uh HN2⟩
      case measure=>simp[intOf];omega
     have hPn:∀(W':World) (sb:Nat),W'.heap[R2]?=(wr.setCell ⟨R2,k,none⟩ (.pointer (some ⟨sb,0,none⟩))).heap[R2]?->Ptrs W' R2 d.x 331 (fun j=>if j<k+1 then sltP (fun i=>if i=k then sb else S i) j (d.X j)else none):=by
      intro W' sb hblk
      refine((hP.set (q:=k) (some ⟨sb,0,none⟩)).keep hblk).congr (fun j hj=>?_)
      by_cases e:j=k
      ·subst e;simp[sltP,p0]
      ·simp only[e,if_false,sltP]
       by_cases e2:j<k
       ·rw[if_pos (by omega),if_pos e2]
       ·rw[if_neg (by omega),if_neg e2]
     have HPN:=uy hPn
     rcases(uh H4).2.1 k hkn with hs|hs|hs
     ·exact absurd hs p0
     ·obtain⟨W2,hW2⟩:∃W2,W2=(wr.setCell ⟨R2,k,none⟩ (.pointer (some ⟨wr.heap.size,0,none⟩))).alloc (.cells #[.int .i64 0,.int .i64 0,.float .f64 0,.string ⟨#[]⟩,.int .i64 0,.pointer none,.bool true] 333):=⟨_,rfl⟩
      have hF2:Fil R2 wr W2:=by rw[hW2];exact((Fil.refl _ _).setCell _ _).alloc _
      have HN:Hid (Fil R2 u3 W2/\Ptrs W2 R2 d.x 331 (fun j=>if j<k+1 then sltP (fun i=>if i=k then wr.heap.size else S i) j (d.X j)else none)/\∀j,j<k+1->SlotIs W2 E (fun i=>if i=k then wr.heap.size else S i) d j/\(d.X j≠0->R2<(fun i=>if i=k then wr.heap.size else S i) j)):=uy ⟨hF.trans hF2,hPn W2 _ (by rw[hW2];exact Deep.blk_alloc_lt _ _ _ (by simpa using hk2)),fun j hj=>by
       by_cases e:j=k
       ·subst e
        simp only[if_true]
        refine⟨⟨fun h=>by omega,fun _=>?_⟩,fun _=>hk2⟩
        simp only[if_true]
        rw[hW2]
        exact⟨by simp,by simp[go_sem],by have hg:=Deep.blk_alloc_new (wr.setCell ⟨R2,j,none⟩ (.pointer (some ⟨wr.heap.size,0,none⟩))) (.cells goneA 333);simpa using hg⟩
       ·obtain⟨⟨h1,h2⟩,h3⟩:=hSl j (by omega)
        refine⟨⟨fun h=>?_,fun h=>?_⟩,fun h=>?_⟩
        ·simp only[e,if_false]
         have:=h3 (by omega)
         exact(h1 h).keep hF2.size (hF2.block _ (h1 h).lt (by omega))
        ·simp only[e,if_false]
         have:=h3 (by omega)
         exact(h2 h).keep hF2.size (hF2.block _ (h2 h).lt (by omega))
        ·simp only[e,if_false];exact h3 h⟩
      rw[hs]at e0
      clear hcs hF hP hK hSl p0 hs hPn hF2
      go_wp2_with fail
      rw[<-hW2]
      clear hW2
      go_roundw
      case rel=>exact⟨k+1,_,by omega,by go_num,(uh HN).1,(uh HN).2.1,(uh HN).2.2⟩
      case measure=>simp[intOf];omega
     ·obtain⟨q,hq⟩:∃q:Nat,d.X k=(q:Int)+1:=⟨(d.X k-1).toNat,by omega⟩
      have hqn:q<d.n:=by omega
      have p1:=hK.ptr.cell hqn
      obtain⟨hlt,g0,g1,g2,g3,g4,_,_,_,_,_,_,_⟩:=(hK.ent q hqn).1
      have hq1:(d.X k-1).toNat=q:=by omega
      obtain⟨W2,hW2⟩:∃W2,W2=((wr.setCell ⟨R2,k,none⟩ (.pointer (some ⟨wr.heap.size,0,none⟩))).alloc (.cells #[.int .i64 (d.L q).key.kind,.int .i64 (d.L q).key.num,.float .f64 (d.L q).key.flt,.string (d.L q).key.str,.int .i64 (d.L q).key.ref,.pointer (some ⟨E q,0,none⟩),.bool false] 333)).drew:=⟨_,rfl⟩
      have hF2:Fil R2 wr W2:=by rw[hW2];exact(((Fil.refl _ _).setCell _ _).alloc _).drew
      have HN:Hid (Fil R2 u3 W2/\Ptrs W2 R2 d.x 331 (fun j=>if j<k+1 then sltP (fun i=>if i=k then wr.heap.size else S i) j (d.X j)else none)/\∀j,j<k+1->SlotIs W2 E (fun i=>if i=k then wr.heap.size else S i) d j/\(d.X j≠0->R2<(fun i=>if i=k then wr.heap.size else S i) j)):=uy ⟨hF.trans hF2,hPn W2 _ (by rw[hW2];exact Deep.blk_alloc_lt _ _ _ (by simpa using hk2)),fun j hj=>by
       by_cases e:j=k
       ·subst e
        refine⟨⟨fun _=>?_,fun h=>by omega⟩,fun _=>by simpa using hk2⟩
        simp only[if_true]
        rw[hW2]
        have hn:=slot_new (wr.setCell ⟨R2,j,none⟩ (.pointer (some ⟨wr.heap.size,0,none⟩))) (d.L q).key (E q)
        have hn':SCell ((wr.setCell ⟨R2,j,none⟩ (.pointer (some ⟨wr.heap.size,0,none⟩))).alloc (.cells #[.int .i64 (d.L q).key.kind,.int .i64 (d.L q).key.num,.float .f64 (d.L q).key.flt,.string (d.L q).key.str,.int .i64 (d.L q).key.ref,.pointer (some ⟨E q,0,none⟩),.bool false] 333)) wr.heap.size (d.L q).key (E q):=by simpa using hn
        show SCell _ _ (d.L (d.X j-1).toNat).key (E (d.X j-1).toNat)
        rw[hq1]
        exact hn'.keep (Nat.le_refl _) rfl
       ·obtain⟨⟨h1,h2⟩,h3⟩:=hSl j (by omega)
        refine⟨⟨fun h=>?_,fun h=>?_⟩,fun h=>?_⟩
        ·simp only[e,if_false]
         have:=h3 (by omega)
         exact(h1 h).keep hF2.size (hF2.block _ (h1 h).lt (by omega))
        ·simp only[e,if_false]
         have:=h3 (by omega)
         exact(h2 h).keep hF2.size (hF2.block _ (h2 h).lt (by omega))
        ·simp only[e,if_false];exact h3 h⟩
      have hwq:IntKind.i64.wrap (q:Int)=q:=by rw[IntKind.wrap_i64];omega
      rw[hq]at e0
      clear hcs hF hP hK hSl p0 hs hPn hF2 hq hq1
      go_wp2_with fail
      go_region
      rw[<-hW2]
      clear hW2
      go_wp2
      go_roundw
      case rel=>exact⟨k+1,_,by omega,by go_num,(uh HN).1,(uh HN).2.1,(uh HN).2.2⟩
      case measure=>simp[intOf];omega
    have hkn':k=d.x:=by omega
    subst hkn'
    have hP':Ptrs wr R2 d.x 331 (fun j=>sltP S j (d.X j)):=hP.congr (fun i hi=>(if_pos hi).symm)
    have hQ:Ptrs wr R1 d.m 292 (fun i=>entP E (d.I i)):=(uh HQ3).keep (hF.block _ (by omega) hR12)
    have HALL:Hid ((Book wr (w.heap.size+1) (w.heap.size+1+1) R1 R2 E S d/\Strong wr w.heap.size (w.heap.size+1) (w.heap.size+1+1) R1 R2 E S d)/\Below w.heap.size w wr):=uy ⟨⟨⟨by omega,⟨_,_,hK.b0,fun _=>rfl⟩,⟨_,hK.b1⟩,hK.b2,hK.b3,hK.b4,hK.b5,hK.b6,fun i hi=>hK.ptr.cell hi,fun i hi=>(hK.ent i hi).1,uh HI,fun i hi=>hQ.cell hi,fun i hi=>hP'.cell hi,fun j hj=>(hSl j hj).1,by omega,by omega,by omega⟩,⟨hK.b0,hK.b1,hK.fz,hK.ptr,hQ,hP',by omega,by omega,by omega,by omega,by omega,fun i hi=>by have:=(hK.ent i hi).2;omega,fun j hj h0=>(hSl j hj).2 h0⟩⟩,hK.below⟩
    clear hP hP' hF hK hSl hk hkn hQ
    go_wp2
    go_ret
    exact⟨⟨_,_,_,_,_,_,rfl,(uh HALL).1⟩,(uh HALL).2⟩
theorem openBook_any(la:Option Addr)(lc:Nat)(ia:Option Addr)(ic:Nat)(xa:Option Addr)(xc:Nat)(d:Dc)(w:World)(hD:DAt w la ia xa d)(hS:Small d)(h3:D3 d)(h4:D4 d):
  Calls Tryz.prog 213 #[Dv la lc ia ic xa xc d] w fun e w'=>(∃bk R0 R1 R2 E S,e=.returned (.pointer (some ⟨bk,0,none⟩))/\Book w' bk R0 R1 R2 E S d)/\Below w.heap.size w w':=
 (openBook_own la lc ia ic xa xc d w hD hS h3 h4).mono fun e w' h=>by
  obtain⟨⟨bk,R0,R1,R2,E,S,h1,h2,_⟩,h3⟩:=h
  exact⟨⟨bk,R0,R1,R2,E,S,h1,h2⟩,h3⟩
end
end Go.Proofs.YtgmlkfgfjjggnaaGreatDoor
