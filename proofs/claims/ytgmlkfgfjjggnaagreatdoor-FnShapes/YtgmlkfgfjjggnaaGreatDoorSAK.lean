import Derived.Test.YtgmlkfgfjjggnaaGreatDoorSAJ
import Derived.Deep.RegionLaw
import Derived.Deep.AppendLies
import Derived.Test.YtgmlkfgfjjggnaaGreatDoorSAD
import Derived.ProofKit
import Derived.OpenShut
import Derived.Deep.Slices
import Derived.ChangeSame
import Derived.Test.YtgmlkfgfjjggnaaGreatDoorSAI
import Derived.Below
import Derived.ShutString
import Derived.ChangeOld
import Derived.Test.YtgmlkfgfjjggnaaGreatDoorSAB
import Derived.Test.YtgmlkfgfjjggnaaGreatDoorSAC
import Derived.Handy
set_option linter.unusedVariables false
set_option linter.unusedSimpArgs false
set_option maxHeartbeats 40000000
set_option maxRecDepth 100000
namespace Go.Proofs.YtgmlkfgfjjggnaaGreatDoor
section
open Go.RowKit
open Go.Maps (Keyed)
theorem wf64{x:Int}(h0:-1000000<=x)(h1:x<=1000000):(Lit.int .i64 x).wf=true:=WalkArith.wf_i64 (by omega)
theorem Nodes.lt{P:Program}{K Tn:TypeId}{w:World}{f:Nat->Shp}{b0 k:Nat}{B N:Nat->Nat}{M:Nat->Option Nat}(h:Nodes P K Tn w f b0 k B N M){i:Nat}(hi:i<k):B i<w.heap.size:=by
 rw[<-h.blk i hi]
 exact(h.node (N i) (Nat.lt_of_le_of_lt (h.le i hi) hi) (h.own i hi)).lt
theorem Grown.of_below{Tn b0:Nat}{w w':World}(h:Below w.heap.size w w'):Grown Tn b0 w w':=⟨h.os,h.tape,h.output,h.size,fun b hb _=>h.block b hb⟩
theorem Grown.of_grownBy{Tn b0:Nat}{w w':World}{x:Nat}(h:w.grownBy w' (some x))(hx:b0<=x)(hn:Nodal Tn w x):Grown Tn b0 w w':=
 ⟨h.os,h.tape,h.output,h.size,fun b hb hc=>h.block b hb (fun e=>by
  cases e
  rcases hc with hc|hc
  ·omega
  ·exact hc hn)⟩
theorem fresh_no{P:Program}{K Tn:TypeId}{w:World}{f:Nat->Shp}{b0 k:Nat}{B N:Nat->Nat}{M:Nat->Option Nat}(h:Nodes P K Tn w f b0 k B N M)(h2:Rule2 f)(hk3:Ok3 f k)
  (hno:∀j,0<j->j<k->N j=j->N (shPar f j)=N (shPar f k)->f j≠f k):∀j,j<k->f j≠f k:=by
 intro j hj e
 have e1:f (N j)=f k:=(h.same j hj).trans e
 have hlt:N j<k:=Nat.lt_of_le_of_lt (h.le j hj) hj
 have h0:0<N j:=by
  rcases Nat.eq_zero_or_pos (N j)with e0|e0
  ·have:=h2.1
   rw[e0]at e1
   rw[e1]at this
   have:=hk3.1
   omega
  ·exact e0
 exact hno (N j) h0 hlt (h.own j hj) (by unfold shPar;rw[e1]) e1
open Classical in
theorem intern_any(w:World)(f:Nat->Shp)(b0 k:Nat)(B N:Nat->Nat)(M:Nat->Option Nat)(h:NodesP w f b0 k B N M)(hk:k<=200)(h2:Rule2 f)(h3:∀i,1<=i->i<=k->Ok3 f i):
  Calls Tryz.prog 223 #[.pointer (some ⟨B (shPar f k),0,none⟩),ShV (f k),.int .i64 k] w fun e w'=>∃r B' N' M',e=.returned (.pointer (some ⟨r,0,none⟩))/\NodesP w' f b0 (k+1) B' N' M'/\B' k=r/\(∀i,i<k->B' i=B i)/\GrownP b0 w w':=by
 have hk0:=h.pos
 have hk3:=h3 k hk0 (Nat.le_refl _)
 obtain⟨p0,p1,cc,c12,ks⟩:=h3 k hk0 (Nat.le_refl _)
 have hp:shPar f k<k:=by unfold shPar;omega
 have hpp:∀i,0<i->i<k->shPar f i<i:=fun i h0 hi=>by
  obtain⟨a,b,_⟩:=h3 i h0 (by omega)
  unfold shPar;omega
 have hcb:=count_bound (k:=k) h2 (fun j h1 h4=>h3 j h1 (by omega)) (shPar f k) hp
 have w1:(Lit.int .i64 (f k).parent).wf=true:=wf64 (by omega) (by omega)
 have w2:(f k).key.size<=maxLen:=by unfold maxLen;omega
 have w3:(Lit.int .i64 (f k).count).wf=true:=wf64 (by unfold shPar at hcb;omega) (by omega)
 obtain⟨a,ha⟩:∃a,a=N (shPar f k):=⟨_,rfl⟩
 have hak:a<k:=by rw[ha];exact Nat.lt_of_le_of_lt (h.le _ hp) hp
 have hNa:N a=a:=by rw[ha];exact h.own _ hp
 have hB:B (shPar f k)=B a:=by rw[ha];exact(h.blk _ hp).symm
 have hrow:=h.node a hak hNa
 have hb0:∀x,w.heap.size<=x->b0<=x:=fun x hx=>Nat.le_trans (h.base 0 hk0) (Nat.le_trans (Nat.le_of_lt (h.lt hk0)) hx)
 have nod:∀i,i<k->N i=i->Nodal 208 w (B i):=fun i hi hn=>by obtain⟨c,hb,_⟩:=h.node i hi hn;exact .inl ⟨c,hb⟩
 cases hM:M a with
 |none=>
  rw[hM]at hrow
  rw[hB]
  refine(intern_first w (B a) (f k) k (f a) _ a hrow w1 w2 w3).mono ?_
  rintro e w' ⟨r,mm,rfl,hr,hmm,rn,ra,hm,hg⟩
  have hno:=fresh_no h h2 hk3 (fun j h0 hj hn hp2 _=>h.bare a hak hNa hM j h0 hj hn (by rw[hp2,ha]))
  refine⟨r,_,_,_,rfl,h.fresh hp hpp hno (g:=fun _=>.pointer none) ha ra (fun i hi hn hne=>hg.block _ (h.lt hi) (fun e=>?_)) (fun i m hi hn hne hm=>?_) (by rw[hB];exact rn) (hb0 r hr) (fun i hi e=>?_) (hb0 mm hmm) (fun v=>.inr ⟨rfl,fun j h0 hj hn hp2=>absurd hp2 (h.bare a hak hNa hM j h0 hj hn)⟩) (hm.mono (by omega)),by simp,fun i hi=>by simp;omega,Grown.of_grownBy hg (h.base a hak) (nod a hak hNa)⟩
  ·exact hne (h.apart i a hi hak hn hNa (Option.some.inj e))
  ·obtain⟨g,hgm,_⟩:=h.kids i m hi hn hm
   obtain⟨es,c,hbm⟩:=hgm.isMap
   have hml:m<w.heap.size:=(Array.getElem?_eq_some_iff.1 hbm).1
   refine⟨hg.block m hml (fun e=>?_),by omega⟩
   cases e
   obtain⟨c,hb,_⟩:=hrow
   rw[hb]at hbm
   cases hbm
  ·have:=h.lt hi;omega
 |some m=>
  rw[hM]at hrow
  obtain⟨g,hgm,hK⟩:=h.kids a m hak hNa hM
  obtain⟨es,c,hbm⟩:=hgm.isMap
  have hml:m<w.heap.size:=(Array.getElem?_eq_some_iff.1 hbm).1
  rw[hB]
  rcases hK (ShV (f k))with⟨j,j0,jk,jn,jp,jv,jg⟩|⟨jg,jno⟩
  ·refine(intern_found w (B j) (B a) j m g k (f k) k (f a) _ a hrow hgm jg w1 w2 w3).mono ?_
   rintro e w' ⟨rfl,hb⟩
   have hbe:∀b,Nodal 208 w b->w'.heap[b]?=w.heap[b]?:=fun b hb'=>hb.block b (by
    rcases hb' with⟨c,hc⟩|⟨es,c,hc⟩
    ·exact(Array.getElem?_eq_some_iff.1 hc).1
    ·exact(Array.getElem?_eq_some_iff.1 hc).1)
   exact⟨B j,_,_,_,rfl,(h.keep hbe).found jk hp jn (ShV_inj jv).symm hpp,by simp,fun i hi=>by simp;omega,Grown.of_below hb⟩
  ·refine(intern_more w (B a) m g k (f k) k (f a) _ a (by omega) hrow hgm jg w1 w2 w3).mono ?_
   rintro e w' ⟨r,rfl,hr,rn,hm,hg⟩
   have hno:=fresh_no h h2 hk3 (fun j h0 hj hn hp2 e=>jno j h0 hj hn (by rw[hp2,ha]) (by rw[e]))
   have hma:∀i,i<k->N i=i->B i≠m:=fun i hi hn e=>by
    obtain⟨c,hb,_⟩:=h.node i hi hn
    rw[e,hbm]at hb
    cases hb
   refine⟨r,_,_,_,rfl,h.fresh hp hpp hno (g:=g) (mm:=m) ha (hrow.of_block (hg.block _ (h.lt hak) (fun e=>hma a hak hNa (Option.some.inj e)))) (fun i hi hn hne=>hg.block _ (h.lt hi) (fun e=>hma i hi hn (Option.some.inj e))) (fun i m' hi hn hne hm'=>?_) (by rw[hB];exact rn) (hb0 r hr) (fun i hi e=>?_) (h.mbase a m hak hNa hM) hK hm,by simp,fun i hi=>by simp;omega,Grown.of_grownBy hg (h.mbase a m hak hNa hM) (.inr ⟨es,c,hbm⟩)⟩
   ·obtain⟨g',hgm',_⟩:=h.kids i m' hi hn hm'
    obtain⟨es',c',hbm'⟩:=hgm'.isMap
    have hne':m'≠m:=fun e=>hne (h.mapart i a m hi hak hn hNa (by rw[hm',e]) hM)
    exact⟨hg.block m' (Array.getElem?_eq_some_iff.1 hbm').1 (fun e=>hne' (Option.some.inj e)),hne'⟩
   ·have:=h.lt hi;omega
end
section
open Go.RowKit
open Go.Maps (Keyed)
theorem rootShape_any(w:World):Calls Tryz.prog 127 #[] w fun e w'=>e=.returned (Sh (-1) ⟨#[]⟩ 0)/\Below w.heap.size w w':=by
 go_enter Tryz.func127,Tryz.ntmps127
 go_wp2
 exact bodyPost_ret (v:=Sh (-1) ⟨#[]⟩ 0) (by simp[results,Tryz.results127,go_sem]) rfl ⟨rfl,(Below.refl _ _).alloc (Nat.le_refl _) _⟩
def ptrs(B:Nat->Nat)(n:Nat):List Value:=(List.range n).map fun i=>.pointer (some ⟨B i,0,none⟩)
theorem ptrs_get{B:Nat->Nat}{n i:Nat}(h:i<n):(ptrs B n)[i]?=some (.pointer (some ⟨B i,0,none⟩)):=by simp[ptrs,h]
theorem ptrs_snoc{B B':Nat->Nat}{n r:Nat}(h:∀i,i<n->B' i=B i)(hr:B' n=r):ptrs B n++[.pointer (some ⟨r,0,none⟩)]=ptrs B' (n+1):=by
 unfold ptrs
 rw[List.range_succ,List.map_append]
 congr 1
 ·exact List.map_congr_left fun i hi=>by rw[h i (List.mem_range.1 hi)]
 ·simp[hr]
theorem root_key{f:Nat->Shp}(h2:Rule2 f):f 0=⟨-1,⟨#[]⟩,0⟩:=by
 obtain⟨a,b,c⟩:=h2
 cases hf:f 0 with
 |mk p k cc=>
  rw[hf]at a b c
  have a:p=-1:=a
  have c:cc=0:=c
  have b:k.toList=[]:=b
  subst a;subst c
  have:k=⟨#[]⟩:=WideShapes.bytes_inj (by rw[<-ByteArray.toList_eq,b])
  rw[this]
theorem Nodes.root{P:Program}{K Tn:TypeId}{w:World}{f:Nat->Shp}{b0 r:Nat}(hr:b0<=r)(hrow:w.rowIs r Tn 6 (nodeCell 0 (f 0) none none)):Nodes P K Tn w f b0 1 (fun _=>r) (fun _=>0) (fun _=>none) where
 pos:=by omega
 n0:=rfl
 le:=fun i hi=>by omega
 own:=fun i hi=>rfl
 same:=fun i hi=>by rw[show i=0 by omega]
 one:=fun i j hi hj _=>rfl
 blk:=fun i hi=>rfl
 base:=fun i hi=>hr
 node:=fun i hi hn=>by
  rw[show i=0 by omega]
  exact hrow
 apart:=fun i j hi hj _ _ _=>by omega
 mbase:=fun i m _ _ h=>by cases h
 mapart:=fun i j m _ _ _ _ h=>by cases h
 bare:=fun i hi _ _ j h0 hj=>by omega
 kids:=fun i m _ _ h=>by cases h
theorem own_grown{Tn e b0 base g n cp:Nat}{w w':World}{xs:List Value}(h:w.ownsRow base e 1 (.slice (some ⟨g,0,none⟩) n cp) n xs)(hG:Grown Tn b0 w w')(he:e≠Tn):w'.ownsRow base e 1 (.slice (some ⟨g,0,none⟩) n cp) n xs:=by
 obtain⟨hl,⟨hv,_⟩|⟨g',cap,cur,hv,hb,hblk,h1,h2,h3,h4⟩⟩:=h
 ·cases hv
 ·cases hv
  refine⟨hl,.inr ⟨g,cp,cur,rfl,hb,?_,h1,h2,h3,h4⟩⟩
  rw[hG.block g (Array.getElem?_eq_some_iff.1 hblk).1 (.inr ?_)]
  ·exact hblk
  ·rintro(⟨c,hc⟩|⟨es,c,hc⟩)
   ·rw[hblk]at hc;cases hc;exact he rfl
   ·rw[hblk]at hc;cases hc
theorem own_far{Tn e base g n cp:Nat}{w:World}{xs:List Value}(h:w.ownsRow base e 1 (.slice (some ⟨g,0,none⟩) n cp) n xs)(he:e≠Tn):¬Nodal Tn w g:=by
 obtain⟨hl,⟨hv,_⟩|⟨g',cap,cur,hv,hb,hblk,h1,h2,h3,h4⟩⟩:=h
 ·cases hv
 ·cases hv
  rintro(⟨c,hc⟩|⟨es,c,hc⟩)
  ·rw[hblk]at hc;cases hc;exact he rfl
  ·rw[hblk]at hc;cases hc
theorem Grown.below{Tn b0:Nat}{w w':World}(h:Grown Tn b0 w w')(hb:b0<=w.heap.size):Below b0 w w':=⟨h.os,h.tape,h.output,h.size,fun k hk=>h.block k (by omega) (.inl hk)⟩
theorem infoPtr:(Tryz.prog.info? 163).map (fun i=>(i.zero,i.size,i.bytes))=some (some (.pointer none),1,8):=by kernel_rfl
theorem plant_any(b n cap:Nat)(f:Nat->Shp)(w:World)(hA:ShRow w b n f)(h1:Rule1 n)(h2:Rule2 f)(h3:Rule3 n f):
  Calls Tryz.prog 176 #[.agg #[.slice (some ⟨b,0,none⟩) n cap]] w fun e w'=>(∃g cp B N M,e=.returned (.slice (some ⟨g,0,none⟩) n cp)/\NodesP w' f w.heap.size n B N M/\(g<w'.heap.size/\w'.ownsRow w.heap.size 163 1 (.slice (some ⟨g,0,none⟩) n cp) n (ptrs B n))/\∀i,i<n->w'.cell? ⟨g,i,none⟩=some (.pointer (some ⟨B i,0,none⟩)))/\Below w.heap.size w w':=by
 have hl:=hA.lt
 have hn0:0<n:=by have:=h1.1;omega
 have hn2:n<=200:=h1.2
 have HA:=uy hA
 have H2:=uy h2
 have H3:=uy h3
 have hrk:=root_key h2
 clear hA h1 h2 h3
 obtain⟨i0,hi,hz0,hz1,hz2⟩:=info_parts infoPtr
 have hb0:Below w.heap.size w (w.alloc (.cells #[.slice (some ⟨b,0,none⟩) n cap] 38)):=(Below.refl _ _).alloc (Nat.le_refl _) _
 go_enter Tryz.func176,Tryz.ntmps176
 go_wp2_with fail
 refine(rootShape_any _).mono ?_
 rintro e w1 ⟨rfl,hb1⟩
 obtain⟨hc1,hf1⟩:=bcell hb1
 have hz1:=hb1.size
 simp at hz1
 have HB1:=uy (hb0.trans (hb1.mono hb0.size))
 have y1:w.heap.size<w1.heap.size:=by omega
 have a1:w1.cell? ⟨w.heap.size,0,none⟩=some (.slice (some ⟨b,0,none⟩) n cap):=by rw[hc1 _ _ (by simp)];simp[go_sem]
 clear hb1 hc1 hf1 hz1 hb0
 go_wp2
 clear a1
 go_loopw [3,13] (fun v i wr=>∃(k L g cp:Nat) (B N:Nat->Nat) (M:Nat->Option Nat),k<=n/\i=.int .i64 k/\v=.slice (some ⟨g,0,none⟩) L cp/\1<=L/\(L=k\/(k=0/\L=1))/\wr.ownsRow w.heap.size 163 1 (.slice (some ⟨g,0,none⟩) L cp) L (ptrs B L)/\NodesP wr f w.heap.size L B N M/\Below w.heap.size w wr) (fun _ i _=>n-(intOf i).toNat)
 case atStart=>
  have hr:=row6 w1 0 (f 0) none
  have hrow:(w1.alloc (.cells #[.int .i64 0,.int .i64 (-1),.string ⟨#[]⟩,.int .i64 0,.pointer none,.map none] 208)).rowIs w1.heap.size 208 6 (nodeCell 0 (f 0) none none):=by rw[hrk]at hr ⊢;exact hr
  have hb:=(((uh HB1).alloc (uh HB1).size (.cells #[.int .i64 0,.int .i64 (-1),.string ⟨#[]⟩,.int .i64 0,.pointer none,.map none] 208)).alloc (by simp;omega) (.cells #[.pointer (some ⟨w1.heap.size,0,none⟩)] 163))
  have ho:=World.ownsRow_lit (base:=w.heap.size) (e:=163) (size:=1) (w1.alloc (.cells #[.int .i64 0,.int .i64 (-1),.string ⟨#[]⟩,.int .i64 0,.pointer none,.map none] 208)) #[.pointer (some ⟨w1.heap.size,0,none⟩)] 1 (by simp;omega) (by unfold maxLen;omega) rfl
  refine⟨0,1,w1.heap.size+1,1,fun _=>w1.heap.size,fun _=>0,fun _=>none,by omega,rfl,rfl,by omega,.inr ⟨rfl,rfl⟩,?_,Nodes.root (by omega) (hrow.alloc _),hb⟩
  simpa[ptrs]using ho
 case round=>
  obtain⟨k,L,g,cp,B,N,M,hk,rfl,rfl,hL1,hL,hown,hN,hb⟩:=hrel
  have c0:k<n->wr.cell? ⟨b,k*3,none⟩=some (.int .i64 (f k).parent):=fun h=>(((uh HA).below hb hl).cells h).1
  have c1:k<n->wr.cell? ⟨b,k*3+1,none⟩=some (.string (f k).key):=fun h=>(((uh HA).below hb hl).cells h).2.1
  have c2:k<n->wr.cell? ⟨b,k*3+2,none⟩=some (.int .i64 (f k).count):=fun h=>(((uh HA).below hb hl).cells h).2.2
  have HB:=uy hb
  have HO:=uy hown
  have HN:=uy hN
  clear hb hown hN
  go_wp2
  ·have hkn:k<n:=by assumption
   have hk0:0<k:=by assumption
   have hLk:L=k:=by omega
   subst hLk
   have p0:=(uh H3 L hk0 hkn).1
   have p1:=(uh H3 L hk0 hkn).2.1
   obtain⟨p,hp⟩:∃p:Nat,(f L).parent=p:=⟨(f L).parent.toNat,by omega⟩
   have hpL:p<L:=by omega
   rw[hp]
   obtain⟨W,hW⟩:∃W,W=wr.alloc (.cells #[.int .i64 p,.string (f L).key,.int .i64 (f L).count] 205):=⟨_,rfl⟩
   rw[<-hW]
   have x0:W.cell? ⟨wr.heap.size,0,none⟩=some (.int .i64 p):=by rw[hW];simp[go_sem]
   have x1:W.cell? ⟨wr.heap.size,1,none⟩=some (.string (f L).key):=by rw[hW];simp[go_sem]
   have x2:W.cell? ⟨wr.heap.size,2,none⟩=some (.int .i64 (f L).count):=by rw[hW];simp[go_sem]
   have hzW:W.heap.size=wr.heap.size+1:=by rw[hW];simp
   have hbW:Below w.heap.size w W:=by rw[hW];exact(uh HB).alloc (uh HB).size _
   have hownW:W.drew.ownsRow w.heap.size 163 1 (.slice (some ⟨g,0,none⟩) L cp) L (ptrs B L):=by rw[hW];exact((uh HO).alloc _).drew
   have xp:W.cell? ⟨g,p,none⟩=some (.pointer (some ⟨B p,0,none⟩)):=(hownW.cellAt p (by omega)).trans (ptrs_get hpL)
   have hNW:NodesP W.drew f w.heap.size L B N M:=(uh HN).keep (fun b hb=>by
    show W.heap[b]?=_
    rw[hW]
    exact Deep.blk_alloc_lt _ _ _ (by
     rcases hb with⟨c,hc⟩|⟨es,c,hc⟩
     ·exact(Array.getElem?_eq_some_iff.1 hc).1
     ·exact(Array.getElem?_eq_some_iff.1 hc).1))
   have hC:=intern_any W.drew f w.heap.size L B N M hNW (by omega) (uh H2) (fun i h1 h4=>uh H3 i h1 (by omega))
   rw[show shPar f L=p by unfold shPar;rw[hp];rfl,show ShV (f L)=.agg #[.int .i64 p,.string (f L).key,.int .i64 (f L).count] by unfold ShV;rw[hp]]at hC
   have HC:=uy hC
   have HOW:=uy hownW
   have HBW:=uy hbW
   have HP:=uy hp
   clear hC hownW hbW hNW hW HN HO HB c0 c1 c2 p0 p1 hp
   go_region_law (first
    |(go_simp;refine(uh HC).mono ?_;rintro e w2 ⟨r,B',N',M',rfl,hN2,hBr,hBe,hG2⟩;have HN2:=uy hN2;have HBr:=uy hBr;have HBe:=uy hBe;have HG2:=uy hG2;have HO2:=uy ((own_grown (uh HOW) hG2 (by decide)).alloc (.cells #[.pointer (some ⟨r,0,none⟩)] 163));have hws:w.heap.size<=w2.heap.size:=Nat.le_trans (uh HBW).size hG2.size;clear hN2 hBr hBe hG2)
    |(refine step_append_lies _ rfl (.tmp 20) (.tmp 29) 115 rfl w.heap.size 163 i0 (.pointer none) 1 8 Tryz.underlying115 hi hz0 hz1 hz2 rfl (by decide) (.slice (some ⟨g,0,none⟩) L cp) L (ptrs B L) (by simp[Act.eval]) (uh HO2) ⟨w2.heap.size,0,none⟩ 1 1 [.pointer (some ⟨r,0,none⟩)] (by simp[Act.eval]) rfl (World.news_of_block (Deep.blk_alloc_new _ _)) (by simp[Value.oneCell']) (by decide) (by unfold maxLen;omega) (by omega) (by simp;omega) _ rfl ?_;intro g3 cp3 w3 hown3 hgr3 hloc3 hlt3))
   all_goals
    have hfar:=own_far (uh HO2) (show 163≠208 by decide)
    have hbg:w.heap.size<=g:=((uh HO2).lt g rfl).1
    have hN3:NodesP w3 f w.heap.size (L+1) B' N' M':=((uh HN2).keep (w':=w3) (fun b hb=>by
     have hbl:b<w2.heap.size:=by
      rcases hb with⟨c,hc⟩|⟨es,c,hc⟩
      ·exact(Array.getElem?_eq_some_iff.1 hc).1
      ·exact(Array.getElem?_eq_some_iff.1 hc).1
     have hbe:=Deep.blk_alloc_lt w2 (.cells #[.pointer (some ⟨r,0,none⟩)] 163) b hbl
     rw[<-hbe]
     refine hgr3.block b (by simp;omega) (fun e=>hfar ?_)
     have e:b=g:=Option.some.inj e
     rw[<-e]
     rcases hb with⟨c,hc⟩|⟨es,c,hc⟩
     ·exact .inl ⟨c,hbe.trans hc⟩
     ·exact .inr ⟨es,c,hbe.trans hc⟩))
    have hb2:Below w.heap.size w w2:=(uh HBW).trans (by
     have:=(uh HG2).below (uh HBW).size
     exact⟨this.os,this.tape,this.output,this.size,this.block⟩)
    have hb3:Below w.heap.size w w3:=hb2.trans ⟨hgr3.os,hgr3.tape,hgr3.output,Nat.le_trans (by simp) hgr3.size,fun k hk=>by
     rw[hgr3.block k (by simp;omega) (fun e=>by have e:k=g:=Option.some.inj e;omega)]
     exact Deep.blk_alloc_lt _ _ _ (by omega)⟩
    rw[ptrs_snoc (uh HBe) (uh HBr)]at hown3
    have HN3:=uy hN3
    have HB3:=uy hb3
    have HO3:=uy hown3
    clear hN3 hb2 hb3 hown3 hgr3 hfar HO2 HN2 HG2 HBe HBr HC HOW HBW x0 x1 x2 xp
    go_wp2
    go_roundw
    case rel=>exact⟨L+1,L+1,g3,cp3,B',N',M',by omega,by go_num,rfl,by omega,.inl rfl,uh HO3,uh HN3,uh HB3⟩
    case measure=>simp[intOf];omega
  ·have hk0:k=0:=by omega
   subst hk0
   have hL1':L=1:=by omega
   subst hL1'
   go_roundw
   case rel=>
    refine⟨1,1,g,cp,B,N,M,by omega,by go_num,rfl,by omega,.inl rfl,(uh HO).alloc _,(uh HN).keep (fun b hb=>Deep.blk_alloc_lt _ _ _ ?_),(uh HB).alloc (uh HB).size _⟩
    rcases hb with⟨c,hc⟩|⟨es,c,hc⟩
    ·exact(Array.getElem?_eq_some_iff.1 hc).1
    ·exact(Array.getElem?_eq_some_iff.1 hc).1
   case measure=>simp[intOf];omega
  ·have hLn:L=n:=by omega
   subst hLn
   go_ret
   exact⟨⟨g,cp,B,N,M,rfl,uh HN,⟨((uh HO).lt g rfl).2,uh HO⟩,fun i hi=>((uh HO).cellAt i (by omega)).trans (ptrs_get hi)⟩,uh HB⟩
end
section
open Go.RowKit
open Go.Maps (Keyed)
def Plc(f:Nat->Shp)(i:Nat)(key:ByteArray)(r:Int):Prop:=
 (∃t,(∀s,s<=t->0<anc f i s)/\(f (anc f i t)).key.toList=key.toList/\(∀s,s<t->(f (anc f i s)).key.toList≠key.toList)/\r=(f (anc f i t)).count-1)\/
 (r=-1/\∀t,(∀s,s<=t->0<anc f i s)->(f (anc f i t)).key.toList≠key.toList)
theorem Plc.unique{f:Nat->Shp}{i:Nat}{key:ByteArray}{r r':Int}(h:Plc f i key r)(h':Plc f i key r'):r=r':=by
 rcases h with⟨t,a1,a2,a3,a4⟩|⟨a1,a2⟩
 ·rcases h' with⟨u,b1,b2,b3,b4⟩|⟨b1,b2⟩
  ·have:t=u:=by
    rcases Nat.lt_trichotomy t u with e|e|e
    ·exact absurd a2 (b3 t e)
    ·exact e
    ·exact absurd b2 (a3 u e)
   subst this
   rw[a4,b4]
  ·exact absurd a2 (b2 t a1)
 ·rcases h' with⟨u,b1,b2,b3,b4⟩|⟨b1,b2⟩
  ·exact absurd b2 (a2 u b1)
  ·rw[a1,b1]
open Classical in
noncomputable def plcI(f:Nat->Shp)(i:Nat)(key:ByteArray):Int:=if h:∃r,Plc f i key r then h.choose else 0
theorem Plc.eq{f:Nat->Shp}{i:Nat}{key:ByteArray}{r:Int}(h:Plc f i key r):plcI f i key=r:=by
 have h1:∃r,Plc f i key r:=⟨r,h⟩
 unfold plcI
 rw[dif_pos h1]
 exact h1.choose_spec.unique h
def numAt(v:Value)(w:World):Nat:=
 match v with
 |.pointer (some a)=>(match w.cell? a with|some (.int _ n)=>n.toNat|_=>0)
 |_=>0
theorem numAt_eq{w:World}{a:Addr}{n:Nat}(h:w.cell? a=some (.int .i64 n)):numAt (.pointer (some a)) w=n:=by
 unfold numAt
 simp[h]
theorem node_cells{w:World}{f:Nat->Shp}{b0 n:Nat}{B N:Nat->Nat}{M:Nat->Option Nat}(h:NodesP w f b0 n B N M)(hid:∀i,i<n->N i=i){j:Nat}(hj:j<n):
  w.cell? ⟨B j,0,none⟩=some (.int .i64 j)/\w.cell? ⟨B j,2,none⟩=some (.string (f j).key)/\w.cell? ⟨B j,3,none⟩=some (.int .i64 (f j).count)/\w.cell? ⟨B j,4,none⟩=some (.pointer (parOf f B j))/\w.cell? ⟨B j,5,none⟩=some (.map (M j)):=by
 have hr:=h.node j hj (hid j hj)
 exact⟨hr.cell (i:=0) (by omega),hr.cell (i:=2) (by omega),hr.cell (i:=3) (by omega),hr.cell (i:=4) (by omega),hr.cell (i:=5) (by omega)⟩
theorem placeOf_any(w:World)(f:Nat->Shp)(b0 n:Nat)(B N:Nat->Nat)(M:Nat->Option Nat)(h:NodesP w f b0 n B N M)(hid:∀i,i<n->N i=i)(h2:Rule2 f)(h3:Rule3 n f)(i:Nat)(hi:i<n)(key:ByteArray):
  Calls Tryz.prog 181 #[.pointer (some ⟨B i,0,none⟩),.string key] w fun e w'=>(e=.returned (.int .i64 (plcI f i key))/\Plc f i key (plcI f i key))/\w'=w:=by
 have HC:Hid (∀j,j<n->w.cell? ⟨B j,0,none⟩=some (.int .i64 j)/\w.cell? ⟨B j,2,none⟩=some (.string (f j).key)/\w.cell? ⟨B j,3,none⟩=some (.int .i64 (f j).count)/\w.cell? ⟨B j,4,none⟩=some (.pointer (parOf f B j))/\w.cell? ⟨B j,5,none⟩=some (.map (M j))):=uy (fun j hj=>node_cells h hid hj)
 have H2:=uy h2
 have H3:=uy h3
 clear h h2 h3
 go_enter Tryz.func181,Tryz.ntmps181
 go_wp2
 go_loopw [5] (fun v wr=>∃(t j:Nat),v=.pointer (some ⟨B j,0,none⟩)/\j=anc f i t/\j<n/\wr=w/\∀s,s<t->0<anc f i s/\(f (anc f i s)).key.toList≠key.toList) (fun v wr=>numAt v wr)
 case atStart=>exact⟨0,i,rfl,rfl,hi,rfl,fun s hs=>by omega⟩
 case round=>
  obtain⟨t,j,rfl,hj,hjn,rfl,hall⟩:=hrel
  obtain⟨c0,c2,c3,c4,_⟩:=uh HC j hjn
  have HJ:=uy hj
  have HALL:=uy hall
  clear hj hall
  by_cases hj0:j=0
  ·subst hj0
   rw[show parOf f B 0=none by unfold parOf;rw[if_pos rfl]]at c4
   go_wp2
   go_ret
   have hP:Plc f i key (-1):=by
    refine .inr ⟨rfl,fun u hu e=>?_⟩
    by_cases hut:u<t
    ·exact(uh HALL u hut).2 e
    ·have:=hu t (by omega)
     rw[<-uh HJ]at this
     omega
   rw[hP.eq]
   exact⟨⟨rfl,hP⟩,rfl⟩
  ·rw[show parOf f B j=some ⟨B (shPar f j),0,none⟩ by unfold parOf;rw[if_neg hj0]]at c4
   have hj1:0<j:=by omega
   obtain⟨cp1,cp2⟩:=count_pos (uh H2) (uh H3) hjn hj1
   have q0:=(uh H3 j hj1 hjn).1
   have q1:=(uh H3 j hj1 hjn).2.1
   have hst:∀s,s<=t->0<anc f i s:=fun s hs=>by
    by_cases e:s=t
    ·rw[e,<-uh HJ];exact hj1
    ·exact(uh HALL s (by omega)).1
   have hnx:anc f i (t+1)=shPar f j:=by show(f (anc f i t)).parent.toNat=_;rw[<-uh HJ]
   have hm:numAt (.pointer (some ⟨B (shPar f j),0,none⟩)) wr=shPar f j:=numAt_eq (uh HC (shPar f j) (by unfold shPar;omega)).1
   have hm':numAt (.pointer (some ⟨B j,0,none⟩)) wr=j:=numAt_eq c0
   have hsp:shPar f j<j:=by unfold shPar;omega
   have HST:=uy hst
   have HNX:=uy hnx
   have HM:=uy (And.intro hm hm')
   have HQ:=uy (And.intro cp1 cp2)
   clear hst hnx hm hm' q0 q1 cp1 cp2
   by_cases hK:(f j).key.toList=key.toList
   ·have hd:((f j).key.toList==key.toList)=true:=by simp[hK]
    have HK:=uy hK
    have cp1:=(uh HQ).1
    have cp2:=(uh HQ).2
    clear hK
    go_wp2
    go_ret
    have hP:Plc f i key ((f j).count-1):=.inl ⟨t,uh HST,by rw[<-uh HJ];exact uh HK,fun s hs=>(uh HALL s hs).2,by rw[<-uh HJ]⟩
    rw[hP.eq]
    exact⟨⟨rfl,hP⟩,rfl⟩
   ·have hd:((f j).key.toList==key.toList)=false:=by simp[hK]
    have HK:=uy hK
    clear hK
    go_wp2
    go_roundw
    case rel=>
     refine⟨t+1,shPar f j,rfl,(uh HNX).symm,by omega,trivial,fun s hs=>?_⟩
     by_cases e:s=t
     ·rw[e];exact⟨uh HST t (Nat.le_refl _),by rw[<-uh HJ];exact uh HK⟩
     ·exact uh HALL s (by omega)
    case measure=>rw[(uh HM).1,(uh HM).2];exact hsp
theorem hasTwins_any(w:World)(f:Nat->Shp)(b0 n g cp:Nat)(B N:Nat->Nat)(M:Nat->Option Nat)(h:NodesP w f b0 n B N M)(hp:∀i,i<n->w.cell? ⟨g,i,none⟩=some (.pointer (some ⟨B i,0,none⟩)))(hn:n<=200):
  Calls Tryz.prog 177 #[.slice (some ⟨g,0,none⟩) n cp] w fun e w'=>(∃r:Bool,e=.returned (.bool r)/\(r=false↔∀i,i<n->N i=i))/\w'=w:=by
 have HC:Hid (∀i,i<n->w.cell? ⟨B i,0,none⟩=some (.int .i64 (N i))):=uy (fun i hi=>by
  rw[<-h.blk i hi]
  exact(h.node (N i) (Nat.lt_of_le_of_lt (h.le i hi) hi) (h.own i hi)).cell (i:=0) (by omega))
 have HP:=uy hp
 clear h hp
 go_enter Tryz.func177,Tryz.ntmps177
 go_wp2
 go_loopw [7] (fun i wr=>∃k:Nat,k<=n/\i=.int .i64 k/\wr=w/\∀j,j<k->N j=j) (fun i _=>n-(intOf i).toNat)
 case atStart=>exact⟨0,by omega,rfl,rfl,fun j hj=>by omega⟩
 case round=>
  obtain⟨k,hk,rfl,hw,hall⟩:=hrel
  subst hw
  have c0:k<n->wr.cell? ⟨g,k,none⟩=some (.pointer (some ⟨B k,0,none⟩)):=fun h=>uh HP k h
  have c1:k<n->wr.cell? ⟨B k,0,none⟩=some (.int .i64 (N k)):=fun h=>uh HC k h
  have HALL:=uy hall
  clear hall
  go_wp2
  ·have hkn:k<n:=by assumption
   have hne:N k≠k:=by
    intro e
    have h':((N k:Int)!=(k:Int))=true:=by assumption
    rw[e]at h'
    simp at h'
   go_ret
   exact⟨⟨true,rfl,⟨fun h=>(by cases h),fun h=>absurd (h k hkn) hne⟩⟩,rfl⟩
  ·have he:N k=k:=by
    have h':((N k:Int)!=(k:Int))=false:=by assumption
    simp at h'
    omega
   go_roundw
   case rel=>
    refine⟨k+1,by omega,by go_num,trivial,fun j hj=>?_⟩
    by_cases e:j=k
    ·rw[e];exact he
    ·exact uh HALL j (by omega)
   case measure=>simp[intOf];omega
  ·go_ret
   exact⟨⟨false,rfl,⟨fun _ i hi=>uh HALL i (by omega),fun _=>rfl⟩⟩,rfl⟩
def Repeats(n:Nat)(f:Nat->Shp):Prop:=∃i,0<i/\i<n/\0<=plcI f (shPar f i) (f i).key
theorem repeatsField_any(w:World)(f:Nat->Shp)(b0 n g cp:Nat)(B N:Nat->Nat)(M:Nat->Option Nat)(h:NodesP w f b0 n B N M)(hid:∀i,i<n->N i=i)(h2:Rule2 f)(h3:Rule3 n f)(hp:∀i,i<n->w.cell? ⟨g,i,none⟩=some (.pointer (some ⟨B i,0,none⟩)))(hn:n<=200):
  Calls Tryz.prog 178 #[.slice (some ⟨g,0,none⟩) n cp] w fun e w'=>(∃r:Bool,e=.returned (.bool r)/\(r=true↔Repeats n f))/\Below w.heap.size w w':=by
 have HH:=uy h
 have HI:=uy hid
 have H2:=uy h2
 have H3:=uy h3
 have HP:=uy hp
 clear h hp hid h2 h3
 go_enter Tryz.func178,Tryz.ntmps178
 go_wp2
 go_loopw [7] (fun i wr=>∃(k q:Nat),k<=n/\i=.int .i64 k/\wr=w.drewN q/\∀j,0<j->j<k->plcI f (shPar f j) (f j).key<0) (fun i _=>n-(intOf i).toNat)
 case atStart=>exact⟨0,0,by omega,rfl,rfl,fun j h0 hj=>by omega⟩
 case round=>
  obtain⟨k,q,hk,rfl,hw,hall⟩:=hrel
  have hNq:NodesP wr f b0 n B N M:=(uh HH).keep (fun b _=>by rw[hw];rfl)
  have c0:k<n->wr.cell? ⟨g,k,none⟩=some (.pointer (some ⟨B k,0,none⟩)):=fun h=>by rw[hw];exact uh HP k h
  have HW:=uy hw
  have HNQ:=uy hNq
  have HALL:=uy hall
  clear hall hw hNq
  go_wp2
  ·have hkn:k<n:=by assumption
   obtain⟨_,c2,_,c4,_⟩:=node_cells (uh HNQ) (uh HI) hkn
   clear c0
   by_cases hk0:k=0
   ·subst hk0
    rw[show parOf f B 0=none by unfold parOf;rw[if_pos rfl]]at c4
    go_quiet (fail)
    go_wp2
    go_roundw
    case rel=>exact⟨1,q+nq,by omega,rfl,by rw[uh HW,World.drewN_drewN],fun j h0 h1=>by omega⟩
    case measure=>simp[intOf];omega
   ·rw[show parOf f B k=some ⟨B (shPar f k),0,none⟩ by unfold parOf;rw[if_neg hk0]]at c4
    have hk1:0<k:=by omega
    have hs:shPar f k<n:=by have:=(uh H3 k hk1 hkn).2.1;unfold shPar;omega
    have HQ:Hid (∀q,Calls Tryz.prog 181 #[.pointer (some ⟨B (shPar f k),0,none⟩),.string (f k).key] (wr.drewN q) fun e w'=>e=.returned (.int .i64 (plcI f (shPar f k) (f k).key))/\w'=wr.drewN q):=
     uy (fun q=>(placeOf_any (wr.drewN q) f b0 n B N M ((uh HNQ).keep (fun b _=>rfl)) (uh HI) (uh H2) (uh H3) (shPar f k) hs (f k).key).mono (fun e w' h=>⟨h.1.1,h.2⟩))
    go_quiet (first|(go_at_call 181;exact Calls.quiet_of_same (uh HQ _)))
    by_cases hr:0<=plcI f (shPar f k) (f k).key
    ·go_wp2
     go_ret
     exact⟨⟨true,rfl,⟨fun _=>⟨k,hk1,hkn,hr⟩,fun _=>rfl⟩⟩,by rw[uh HW];exact below_drewN (below_drewN (Below.refl _ _) _) _⟩
    ·go_wp2
     go_roundw
     case rel=>
      refine⟨k+1,q+nq,by omega,by go_num,by rw[uh HW,World.drewN_drewN],fun j h0 h1=>?_⟩
      by_cases e:j=k
      ·rw[e];omega
      ·exact uh HALL j h0 (by omega)
     case measure=>simp[intOf];omega
  ·go_ret
   refine⟨⟨false,rfl,⟨fun h=>(by cases h),?_⟩⟩,?_⟩
   ·rintro⟨i,h0,h1,h2⟩
    have:=uh HALL i h0 (by omega)
    omega
   ·rw[uh HW];exact below_drewN (Below.refl _ _) _
end
section
open Go.RowKit
open Go.Maps (Keyed)
def Tells(e:Ending)(p:Prop):Prop:=∃r:Bool,e=.returned (.bool r)/\(r=true↔p)
theorem Tells.no{p:Prop}(h:¬p):Tells (.returned (.bool false)) p:=⟨false,rfl,⟨fun e=>(by cases e),fun e=>absurd e h⟩⟩
theorem Tells.yes{p:Prop}(h:p):Tells (.returned (.bool true)) p:=⟨true,rfl,⟨fun _=>h,fun _=>rfl⟩⟩
theorem shapesFit_any(b n cap:Nat)(f:Nat->Shp)(w:World)(hA:ShRow w b n f)(hn:n<=200)(h2:Rule2 f):
  Calls Tryz.prog 175 #[.agg #[.slice (some ⟨b,0,none⟩) n cap]] w fun e w'=>Tells e (Rule3 n f)/\Below w.heap.size w w':=by
 have hl:=hA.lt
 have HA:=uy hA
 have H2:=uy h2
 clear hA h2
 go_enter Tryz.func175,Tryz.ntmps175
 go_wp2
 go_loopw [8] (fun i wr=>∃k:Nat,k<=n/\i=.int .i64 k/\Below w.heap.size w wr/\wr.cell? ⟨w.heap.size,0,none⟩=some (.slice (some ⟨b,0,none⟩) n cap)/\w.heap.size<wr.heap.size/\∀j,1<=j->j<k->Ok3 f j) (fun i _=>n-(intOf i).toNat)
 case atStart=>exact⟨0,by omega,rfl,(Below.refl _ _).alloc (Nat.le_refl _) _,by simp[go_sem],by simp,fun j h1 h2=>by omega⟩
 case round=>
  obtain⟨k,hk,rfl,hb,hbox,hsz,hall⟩:=hrel
  have c0:k<n->wr.cell? ⟨b,k*3,none⟩=some (.int .i64 (f k).parent):=fun h=>(((uh HA).below hb hl).cells h).1
  have c1:k<n->wr.cell? ⟨b,k*3+1,none⟩=some (.string (f k).key):=fun h=>(((uh HA).below hb hl).cells h).2.1
  have c2:k<n->wr.cell? ⟨b,k*3+2,none⟩=some (.int .i64 (f k).count):=fun h=>(((uh HA).below hb hl).cells h).2.2
  have HB:=uy hb
  have HALL:=uy hall
  clear hb hall
  by_cases hkn:k<n
  case neg=>
   go_wp2
   go_ret
   exact⟨.yes (fun i h1 h2=>uh HALL i h1 (by omega)),uh HB⟩
  by_cases hk0:k=0
  ·subst hk0
   go_wp2
   go_roundw
   case rel=>exact⟨1,by omega,by go_num,(uh HB).alloc (by omega) _,by simp[go_sem,hbox,hsz],by simp;omega,fun j h1 h2=>by omega⟩
   case measure=>simp[intOf];omega
  have hk1:((k:Int)==0)=false:=by simp;omega
  by_cases hA:(f k).parent<0
  ·have hd:decide ((f k).parent<0)=true:=by simp[hA]
   have HN:Hid (¬Rule3 n f):=uy (fun h=>by have:=(h k (by omega) hkn).1;omega)
   go_wp2
   go_ret
   exact⟨.no (uh HN),(uh HB).alloc (by omega) _⟩
  have hd:decide ((f k).parent<0)=false:=by simp[hA]
  by_cases hB:(k:Int)<=(f k).parent
  ·have hd2:decide ((k:Int)<=(f k).parent)=true:=by simp[hB]
   have HN:Hid (¬Rule3 n f):=uy (fun h=>by have:=(h k (by omega) hkn).2.1;omega)
   go_wp2
   go_ret
   exact⟨.no (uh HN),(uh HB).alloc (by omega) _⟩
  have hd2:decide ((k:Int)<=(f k).parent)=false:=by simp;omega
  by_cases hE:(4000:Int)<(f k).key.size
  ·have hdE:decide ((4000:Int)<(f k).key.size)=true:=by simp[hE]
   have HN:Hid (¬Rule3 n f):=uy (fun h=>by have:=(h k (by omega) hkn).2.2.2.2;omega)
   go_wp2
   go_ret
   exact⟨.no (uh HN),(uh HB).alloc (by omega) _⟩
  have hdE:decide ((4000:Int)<(f k).key.size)=false:=by simp;omega
  obtain⟨p,hp⟩:∃p:Nat,(f k).parent=p:=⟨(f k).parent.toNat,by omega⟩
  have hpk:p<k:=by omega
  have hpn:p<n:=by omega
  obtain⟨hp0,hp1⟩:=count_bound (uh H2) (uh HALL) p hpk
  have e2:wr.cell? ⟨b,p*3+2,none⟩=some (.int .i64 (f p).count):=(((uh HA).below (uh HB) hl).cells hpn).2.2
  rw[hp]at hA hB hd hd2 c0
  have HP:=uy hp
  have hbw:b<wr.heap.size:=Nat.lt_of_lt_of_le hl (uh HB).size
  have d0:=c0 hkn
  have d1:=c1 hkn
  have d2:=c2 hkn
  clear hp c0 c1 c2
  have hw:IntKind.i64.wrap ((f p).count+1)=(f p).count+1:=by rw[IntKind.wrap_i64];omega
  by_cases hD:12<(f k).count
  ·have HN:Hid (¬Rule3 n f):=uy (fun h=>by have:=(h k (by omega) hkn).2.2.2.1;omega)
   have hdD:decide (12<(f k).count)=true:=by simp[hD]
   go_wp2
   go_quiet (fail)
   go_wp2
   go_ret
   exact⟨.no (uh HN),below_drewN ((uh HB).alloc (by omega) _) _⟩
  have hdD:decide (12<(f k).count)=false:=by simp;omega
  by_cases hC:(f k).count=(f p).count+1
  case neg=>
   have HN:Hid (¬Rule3 n f):=uy (fun h=>by have:=(h k (by omega) hkn).2.2.1;rw[uh HP]at this;exact hC this)
   go_wp2
   go_quiet (fail)
   go_wp2
   go_ret
   exact⟨.no (uh HN),below_drewN ((uh HB).alloc (by omega) _) _⟩
  have hdC:((f k).count !=(f p).count+1)=false:=by simp[hC]
  have HO:Hid (Ok3 f k):=uy ⟨by rw[uh HP];omega,by rw[uh HP];omega,by rw[uh HP];exact hC,by omega,by omega⟩
  have HC:=uy hC
  clear hC
  go_wp2
  go_quiet (fail)
  go_wp2
  go_roundw
  case rel=>
   refine⟨k+1,by omega,by go_num,below_drewN ((uh HB).alloc (by omega) _) _,by simp[go_sem,hbox,hsz],by simp;omega,fun j h1 h2=>?_⟩
   by_cases e:j=k
   ·rw[e];exact uh HO
   ·exact uh HALL j h1 (by omega)
  case measure=>simp[intOf];omega
end
section
open Go.RowKit
open Go.Maps (Keyed)
theorem exists_min{p:Nat->Prop}(h:∃t,p t):∃t,p t/\∀s,s<t->¬p s:=by
 obtain⟨t,ht⟩:=h
 induction t using Nat.strongRecOn with
 |ind t ih=>
  by_cases hs:∃s,s<t/\p s
  ·obtain⟨s,hst,hs⟩:=hs
   exact ih s hst hs
  ·exact⟨t,ht,fun s hst hps=>hs ⟨s,hst,hps⟩⟩
theorem plc_holds(f:Nat->Shp)(i:Nat)(key:ByteArray):Plc f i key (plcI f i key):=by
 by_cases h:∃t,(∀s,s<=t->0<anc f i s)/\(f (anc f i t)).key.toList=key.toList
 ·obtain⟨t,⟨h1,h2⟩,h3⟩:=exists_min h
  have hp:Plc f i key ((f (anc f i t)).count-1):=.inl ⟨t,h1,h2,fun s hs e=>h3 s hs ⟨fun u hu=>h1 u (by omega),e⟩,rfl⟩
  rw[hp.eq];exact hp
 ·have hp:Plc f i key (-1):=.inr ⟨rfl,fun t ht e=>h ⟨t,ht,e⟩⟩
  rw[hp.eq];exact hp
theorem anc_lt{n:Nat}{f:Nat->Shp}(h3:Rule3 n f){i:Nat}(hi:i<n):∀t,(∀s,s<t->0<anc f i s)->anc f i t<=i:=by
 intro t
 induction t with
 |zero=>intro _;exact Nat.le_refl _
 |succ t ih=>
  intro h
  have h1:=ih (fun s hs=>h s (by omega))
  have h0:=h t (by omega)
  have:=(h3 (anc f i t) h0 (by omega)).2.1
  show(f (anc f i t)).parent.toNat<=i
  omega
theorem plc_pos{n:Nat}{f:Nat->Shp}(h2:Rule2 f)(h3:Rule3 n f){i:Nat}(hi:i<n)(key:ByteArray):0<=plcI f i key↔∃t,(∀s,s<=t->0<anc f i s)/\(f (anc f i t)).key.toList=key.toList:=by
 have hp:=plc_holds f i key
 constructor
 ·intro h
  rcases hp with⟨t,a,b,_⟩|⟨a,_⟩
  ·exact⟨t,a,b⟩
  ·omega
 ·rintro⟨t,a,b⟩
  rcases hp with⟨u,a',_,_,d⟩|⟨_,c⟩
  ·have:=anc_lt h3 hi u (fun s hs=>a' s (by omega))
   have:=(count_pos h2 h3 (show anc f i u<n by omega) (a' u (Nat.le_refl _))).1
   omega
  ·exact absurd b (c t a)
theorem up_anc{n:Nat}{f:Nat->Shp}(h3:Rule3 n f){i:Nat}(h1:1<=i)(hi:i<n):∀t,(∀s,s<t->0<anc f (shPar f i) s)->upI f i t=anc f (shPar f i) t:=by
 intro t
 induction t with
 |zero=>
  intro _
  have:=(h3 i h1 hi).1
  show(f i).parent=((f i).parent.toNat:Int)
  omega
 |succ t ih=>
  intro h
  have e:=ih (fun s hs=>h s (by omega))
  have hp:shPar f i<n:=by have:=(h3 i h1 hi).2.1;unfold shPar;omega
  have hl:=anc_lt h3 hp t (fun s hs=>h s (by omega))
  have:=(h3 (anc f (shPar f i) t) (h t (by omega)) (by omega)).1
  show(f (upI f i t).toNat).parent=((f (anc f (shPar f i) t)).parent.toNat:Int)
  rw[e,Int.toNat_natCast]
  omega
theorem up_pos{n:Nat}{f:Nat->Shp}(h3:Rule3 n f){i:Nat}(h1:1<=i)(hi:i<n)(t:Nat):(∀s,s<=t->0<upI f i s)↔∀s,s<=t->0<anc f (shPar f i) s:=by
 constructor
 ·intro h s
  induction s using Nat.strongRecOn with
  |ind s ih=>
   intro hs
   have:=up_anc h3 h1 hi s (fun u hu=>ih u hu (by omega))
   have:=h s hs
   omega
 ·intro h s hs
  rw[up_anc h3 h1 hi s (fun u hu=>h u (by omega))]
  have:=h s hs
  omega
theorem repeats_iff{n:Nat}{f:Nat->Shp}(h2:Rule2 f)(h3:Rule3 n f):Repeats n f↔¬Rule5 n f:=by
 have hpn:∀i,0<i->i<n->shPar f i<n:=fun i h0 hi=>by have:=(h3 i h0 hi).2.1;unfold shPar;omega
 constructor
 ·rintro⟨i,h0,hi,hp⟩ h5
  obtain⟨t,a,b⟩:=(plc_pos h2 h3 (hpn i h0 hi) _).1 hp
  refine h5 i t h0 hi ((up_pos h3 h0 hi t).2 a) ?_
  rw[up_anc h3 h0 hi t (fun s hs=>a s (by omega)),Int.toNat_natCast]
  exact b
 ·intro h5
  by_cases h:Repeats n f
  ·exact h
  ·refine absurd (fun i t h0 hi hu e=>h ⟨i,h0,hi,(plc_pos h2 h3 (hpn i h0 hi) _).2 ⟨t,(up_pos h3 h0 hi t).1 hu,?_⟩⟩) h5
   have a:=(up_pos h3 h0 hi t).1 hu
   rw[up_anc h3 h0 hi t (fun s hs=>a s (by omega)),Int.toNat_natCast]at e
   exact e
theorem twins_iff{P:Program}{K Tn:TypeId}{w:World}{f:Nat->Shp}{b0 n:Nat}{B N:Nat->Nat}{M:Nat->Option Nat}(h:Nodes P K Tn w f b0 n B N M)(h2:Rule2 f)(h3:Rule3 n f):(∀i,i<n->N i=i)↔Rule4 n f:=by
 constructor
 ·intro hid i k h1 hki hi ht
  have hi3:=h3 i (by omega) hi
  have hk3:=h3 k h1 (by omega)
  have e:f k=f i:=by
   obtain⟨e1,e2⟩:=ht
   have ek:(f k).key=(f i).key:=WideShapes.bytes_inj (by rw[<-ByteArray.toList_eq,<-ByteArray.toList_eq];exact e2)
   have ec:(f k).count=(f i).count:=by rw[hk3.2.2.1,hi3.2.2.1,e1]
   cases hk:f k
   cases hi':f i
   rw[hk,hi']at e1 ek ec
   simp at e1 ek ec
   rw[e1,ek,ec]
  have:=h.one k i (by omega) hi e
  rw[hid k (by omega),hid i hi]at this
  omega
 ·intro h4 i hi
  by_cases e:N i=i
  ·exact e
  ·have hlt:N i<i:=by have:=h.le i hi;omega
   have hs:=h.same i hi
   have h0:1<=N i:=by
    rcases Nat.eq_zero_or_pos (N i)with e0|e0
    ·rw[e0]at hs
     have:=h2.1
     rw[hs]at this
     have:=(h3 i (by omega) hi).1
     omega
    ·exact e0
   exact absurd ⟨by rw[hs],by rw[hs]⟩ (h4 i (N i) h0 hlt hi)
theorem Nodes.rebase{P:Program}{K Tn:TypeId}{w:World}{f:Nat->Shp}{b0 b1 n:Nat}{B N:Nat->Nat}{M:Nat->Option Nat}(h:Nodes P K Tn w f b0 n B N M)(hb:b1<=b0):Nodes P K Tn w f b1 n B N M:=
 {h with base:=fun i hi=>Nat.le_trans hb (h.base i hi),mbase:=fun i m hi hn hm=>Nat.le_trans hb (h.mbase i m hi hn hm)}
theorem Nodal.lt{Tn:TypeId}{w:World}{b:Nat}(h:Nodal Tn w b):b<w.heap.size:=by
 rcases h with⟨c,hc⟩|⟨es,c,hc⟩
 ·exact(Array.getElem?_eq_some_iff.1 hc).1
 ·exact(Array.getElem?_eq_some_iff.1 hc).1
theorem Nodes.below{P:Program}{K Tn:TypeId}{w w':World}{f:Nat->Shp}{b0 n:Nat}{B N:Nat->Nat}{M:Nat->Option Nat}(h:Nodes P K Tn w f b0 n B N M)(hb:Below w.heap.size w w'):Nodes P K Tn w' f b0 n B N M:=
 h.keep fun b hn=>hb.block b hn.lt
theorem own_lo{w:World}{base base' e size:Nat}{v:Value}{n:Nat}{xs:List Value}(h:w.ownsRow base e size v n xs)(hb:base'<=base):w.ownsRow base' e size v n xs:=by
 obtain⟨hl,⟨hv,h0⟩|⟨g',cap,cur,hv,hbs,hblk,h1,h2,h3,h4⟩⟩:=h
 ·exact⟨hl,.inl ⟨hv,h0⟩⟩
 ·exact⟨hl,.inr ⟨g',cap,cur,hv,Nat.le_trans hb hbs,hblk,h1,h2,h3,h4⟩⟩
theorem own_belowG{w w':World}{base e size:Nat}{v:Value}{n:Nat}{xs:List Value}(h:w.ownsRow base e size v n xs)(hb:Below w.heap.size w w'):w'.ownsRow base e size v n xs:=by
 obtain⟨hl,⟨hv,h0⟩|⟨g',cap,cur,hv,hbs,hblk,h1,h2,h3,h4⟩⟩:=h
 ·exact⟨hl,.inl ⟨hv,h0⟩⟩
 ·refine⟨hl,.inr ⟨g',cap,cur,hv,hbs,?_,h1,h2,h3,h4⟩⟩
  rw[hb.block g' (Array.getElem?_eq_some_iff.1 hblk).1]
  exact hblk
def Judged(w0:World)(n:Nat)(f:Nat->Shp)(e:Ending)(w:World):Prop:=
 (∃r:Int,e=.returned (.tuple #[.slice none 0 0,.int .i64 r])/\r=forestOk n f/\r≠0)\/
 (∃g cp B N M,e=.returned (.tuple #[.slice (some ⟨g,0,none⟩) n cp,.int .i64 0])/\forestOk n f=0/\NodesP w f w0.heap.size n B N M/\(∀i,i<n->N i=i)/\(g<w.heap.size/\w.ownsRow w0.heap.size 163 1 (.slice (some ⟨g,0,none⟩) n cp) n (ptrs B n))/\∀i,i<n->w.cell? ⟨g,i,none⟩=some (.pointer (some ⟨B i,0,none⟩)))
theorem neqShape(p q:Int)(k l:ByteArray)(c d:Int)(w:World):(binOp .neq 205 (Sh p k c) (Sh q l d)).run Tryz.prog w=.ok (.bool (!(p==q&&(k.toList==l.toList&&c==d)))) w:=by
 go_simp
 by_cases h1:p=q<;>by_cases h2:k.toList=l.toList<;>by_cases h3:c=d<;>simp[h1,h2,h3]
theorem Tells.cases{e:Ending}{p:Prop}(h:Tells e p):(e=.returned (.bool true)/\p)\/(e=.returned (.bool false)/\¬p):=by
 obtain⟨r,rfl,hr⟩:=h
 cases r
 ·exact .inr ⟨rfl,fun h=>by have:=hr.2 h;cases this⟩
 ·exact .inl ⟨rfl,hr.1 rfl⟩
theorem judge_any(b n cap:Nat)(f:Nat->Shp)(w:World)(hA:ShRow w b n f)(hn:n<=1048576):
  Calls Tryz.prog 110 #[.agg #[.slice (some ⟨b,0,none⟩) n cap]] w fun e w'=>Judged w n f e w'/\Below w.heap.size w w':=by
 have hl:=hA.lt
 have HA:=uy hA
 have c0':0<n->w.cell? ⟨b,0,none⟩=some (.int .i64 (f 0).parent):=fun h=>by simpa using (hA.cells h).1
 have c1':0<n->w.cell? ⟨b,1,none⟩=some (.string (f 0).key):=fun h=>by simpa using (hA.cells h).2.1
 have c2':0<n->w.cell? ⟨b,2,none⟩=some (.int .i64 (f 0).count):=fun h=>by simpa using (hA.cells h).2.2
 clear hA
 by_cases h1:Rule1 n
 case neg=>
  have HR:=uy (forestOk1 (f:=f) h1)
  by_cases h0:n=0
  ·subst h0
   clear h1 c0' c1' c2'
   go_enter Tryz.func110,Tryz.ntmps110
   go_wp2
   go_ret2
   exact⟨.inl ⟨1,by simp,(uh HR).symm,by omega⟩,(Below.refl _ _).alloc (Nat.le_refl _) _⟩
  ·have h2:200<n:=by unfold Rule1 at h1;omega
   clear h1 c0' c1' c2'
   go_enter Tryz.func110,Tryz.ntmps110
   go_wp2
   go_ret2
   exact⟨.inl ⟨1,by simp,(uh HR).symm,by omega⟩,(Below.refl _ _).alloc (Nat.le_refl _) _⟩
 have h1':0<n:=by unfold Rule1 at h1;omega
 have c0:=c0' h1'
 have c1:=c1' h1'
 have c2:=c2' h1'
 have h3:(n:Int)<=200:=by unfold Rule1 at h1;omega
 have H1:=uy h1
 clear h1 c0' c1' c2'
 have HB0:=uy ((Below.refl w.heap.size w).alloc (Nat.le_refl _) (.cells #[.slice (some ⟨b,0,none⟩) n cap] 38))
 go_enter Tryz.func110,Tryz.ntmps110
 go_wp2
 obtain⟨W,hW⟩:∃W,W=w.alloc (.cells #[.slice (some ⟨b,0,none⟩) n cap] 38):=⟨_,rfl⟩
 rw[<-hW]
 have x0:W.cell? ⟨w.heap.size,0,none⟩=some (.slice (some ⟨b,0,none⟩) n cap):=by rw[hW];simp[go_sem]
 have d0:W.cell? ⟨b,0,none⟩=some (.int .i64 (f 0).parent):=by rw[hW,World.cell?_alloc_lt _ _ _ hl];exact c0
 have d1:W.cell? ⟨b,1,none⟩=some (.string (f 0).key):=by rw[hW,World.cell?_alloc_lt _ _ _ hl];exact c1
 have d2:W.cell? ⟨b,2,none⟩=some (.int .i64 (f 0).count):=by rw[hW,World.cell?_alloc_lt _ _ _ hl];exact c2
 have hzW:W.heap.size=w.heap.size+1:=by rw[hW];simp
 have hbW:b<W.heap.size:=by omega
 have hxW:w.heap.size<W.heap.size:=by omega
 rw[<-hW]at HB0
 clear hW c0 c1 c2 hzW
 refine wp_region_quiet (C:=fun w'=>Below W.heap.size W w') (by kernel_rfl) (by kernel_rfl) ((Below.refl _ _).drew) ?_
 show wpQuiet _ _ _ _ [_,_,_,_,_,_] _
 (refine wpQuiet_step (fun K hK=>?_);go_simp;refine⟨_,fun w' hw'=>rfl,hK _ ?_⟩;clear hK K)
 (refine wpQuiet_step (fun K hK=>?_);go_simp;refine Exists.intro ?_ (And.intro (fun w' hw'=>?_) (hK _ ?_));rotate_left;obtain⟨hc',hf'⟩:=bcell hw';go_simp;first|rfl|exact⟨rfl,rfl⟩|exact⟨rfl⟩;clear hK K)
 (refine wpQuiet_step (fun K hK=>?_);go_simp;refine⟨_,fun w' hw'=>rfl,hK _ ?_⟩;clear hK K)
 (refine wpQuiet_step (fun K hK=>?_);go_simp;refine Exists.intro ?_ (And.intro (fun w' hw'=>?_) (hK _ ?_));rotate_left;obtain⟨hc',hf'⟩:=bcell hw';go_simp;first|rfl|exact⟨rfl,rfl⟩|exact⟨rfl⟩;clear hK K)
 refine wpQuiet_step (fun K hK=>?_)
 go_simp
 apply Exists.intro
 refine And.intro (fun w' hw'=>?_) (hK _ ?_)
 ·refine(rootShape_any _).mono ?_
  rintro e w'' ⟨rfl,hb⟩
  exact⟨rfl,hw'.trans (hb.mono hw'.size)⟩
 clear hK K
 refine wpQuiet_step (fun K hK=>?_)
 by_cases h2:Rule2 f
 case neg=>
  have hneq:∀w:World,(binOp .neq 205 (Sh (f 0).parent (f 0).key (f 0).count) (Sh (-1) ⟨#[]⟩ 0)).run Tryz.prog w=.ok (.bool true) w:=fun w=>by
   rw[neqShape]
   have:((f 0).parent==-1&&((f 0).key.toList==(⟨#[]⟩:ByteArray).toList&&(f 0).count==0))=false:=by
    cases hb:((f 0).parent==-1&&((f 0).key.toList==(⟨#[]⟩:ByteArray).toList&&(f 0).count==0))with
    |false=>rfl
    |true=>simp at hb;exact absurd ⟨hb.1,by simpa using hb.2.1,hb.2.2⟩ h2
   rw[this]
   rfl
  go_simp
  refine⟨_,fun w' hw'=>rfl,hK _ ?_⟩
  clear hK K
  refine wpQuiet_nil ?_
  intro w2 hw2
  have HN:=uy (forestOk2 (uh H1) h2)
  have HB2:=uy ((uh HB0).trans (hw2.mono (uh HB0).size))
  clear hw2 hneq h2
  go_wp2
  go_ret2
  exact⟨.inl ⟨2,by simp,(uh HN).symm,by omega⟩,uh HB2⟩
 have hneq:∀w:World,(binOp .neq 205 (Sh (f 0).parent (f 0).key (f 0).count) (Sh (-1) ⟨#[]⟩ 0)).run Tryz.prog w=.ok (.bool false) w:=fun w=>by
  rw[neqShape,root_key h2]
  simp
 go_simp
 refine⟨_,fun w' hw'=>rfl,hK _ ?_⟩
 clear hK K
 refine wpQuiet_nil ?_
 intro w2 hw2
 have HB2:=uy ((uh HB0).trans (hw2.mono (uh HB0).size))
 have y2:w2.cell? ⟨w.heap.size,0,none⟩=some (.slice (some ⟨b,0,none⟩) n cap):=(hw2.cell (by exact hxW)).trans x0
 have z2:w.heap.size<w2.heap.size:=Nat.lt_of_lt_of_le hxW hw2.size
 have H2:=uy h2
 clear hw2 hneq h2 x0 d0 d1 d2 hbW hxW HB0
 go_wp2_with fail
 refine(shapesFit_any b n cap f _ ((uh HA).below (uh HB2) hl) (by omega) (uh H2)).mono ?_
 rintro e w3 ⟨ht,hb3⟩
 have y3:w3.cell? ⟨w.heap.size,0,none⟩=some (.slice (some ⟨b,0,none⟩) n cap):=(hb3.cell (by exact z2)).trans y2
 have z3:w.heap.size<w3.heap.size:=Nat.lt_of_lt_of_le z2 hb3.size
 have HB3:=uy ((uh HB2).trans (hb3.mono (uh HB2).size))
 clear hb3 y2 z2
 rcases ht.cases with⟨rfl,h3'⟩|⟨rfl,h3'⟩
 case inr=>
  have HN:=uy (forestOk3 (uh H1) (uh H2) h3')
  clear h3' ht
  go_wp2
  go_ret2
  exact⟨.inl ⟨3,by simp,(uh HN).symm,by omega⟩,uh HB3⟩
 have H3:=uy h3'
 clear h3' ht
 go_wp2_with fail
 refine(plant_any b n cap f _ ((uh HA).below (uh HB3) hl) (uh H1) (uh H2) (uh H3)).mono ?_
 rintro e w4 ⟨⟨g,cp,B,N,M,rfl,hN,⟨hg,hgo⟩,hp⟩,hb4⟩
 have HGO:=uy hgo
 clear hgo
 have HB4:=uy ((uh HB3).trans (hb4.mono (uh HB3).size))
 have HNN:=uy hN
 have HP:=uy hp
 have HZ:=uy (Nat.le_of_lt z3)
 clear hb4 hN hp y3
 go_wp2_with fail
 refine(hasTwins_any _ f _ n g cp B N M (uh HNN) (uh HP) (by omega)).mono ?_
 rintro e w5 ⟨⟨r,rfl,hr⟩,rfl⟩
 cases r
 case true=>
  have h4:¬Rule4 n f:=fun h4=>by
   have:=hr.2 ((twins_iff (uh HNN) (uh H2) (uh H3)).2 h4)
   cases this
  have HN:=uy (forestOk4 (uh H1) (uh H2) (uh H3) h4)
  clear h4 hr
  go_wp2
  go_ret2
  exact⟨.inl ⟨4,by simp,(uh HN).symm,by omega⟩,uh HB4⟩
 have hid:=hr.1 rfl
 have H4:=uy ((twins_iff (uh HNN) (uh H2) (uh H3)).1 hid)
 have HI:=uy hid
 clear hr hid
 go_wp2_with fail
 refine(repeatsField_any _ f _ n g cp B N M (uh HNN) (uh HI) (uh H2) (uh H3) (uh HP) (by omega)).mono ?_
 rintro e w6 ⟨⟨r,rfl,hr⟩,hb6⟩
 have HB6:=uy hb6
 clear hb6
 cases r
 case true=>
  have HN:=uy (forestOk5 (uh H1) (uh H2) (uh H3) (uh H4) ((repeats_iff (uh H2) (uh H3)).1 (hr.1 rfl)))
  clear hr
  go_wp2
  go_ret2
  exact⟨.inl ⟨5,by simp,(uh HN).symm,by omega⟩,(uh HB4).trans ((uh HB6).mono (uh HB4).size)⟩
 have h5:Rule5 n f:=Classical.byContradiction fun h5=>by
  have:=hr.2 ((repeats_iff (uh H2) (uh H3)).2 h5)
  cases this
 have HN:=uy (forestOk0 (uh H1) (uh H2) (uh H3) (uh H4) h5)
 clear hr h5
 go_wp2
 go_ret2
 refine⟨.inr ⟨g,cp,B,N,M,by simp,uh HN,?_,uh HI,⟨Nat.lt_of_lt_of_le hg (uh HB6).size,own_lo (own_belowG (uh HGO) (uh HB6)) (uh HZ)⟩,fun i hi=>((uh HB6).cell (by exact hg)).trans (uh HP i hi)⟩,(uh HB4).trans ((uh HB6).mono (uh HB4).size)⟩
 exact((uh HNN).below (uh HB6)).rebase (uh HZ)
end
section
open Go.RowKit
open Go.Maps (Keyed)
theorem fields_any(w:World)(f:Nat->Shp)(b0 n:Nat)(B N:Nat->Nat)(M:Nat->Option Nat)(h:NodesP w f b0 n B N M)(hid:∀i,i<n->N i=i)(h2:Rule2 f)(h3:Rule3 n f)(i:Nat)(hi:i<n):
  Calls Tryz.prog 94 #[.pointer (some ⟨B i,0,none⟩)] w fun e w'=>(∃m,e=.returned (.slice (some ⟨m,0,none⟩) (nf f i) (nf f i))/\w.heap.size<=m/\StRow w' m (nf f i) (fld f i))/\Below w.heap.size w w':=by
 obtain⟨hc0,hc1⟩:=count_bound (k:=n) h2 (fun j h1 h2=>h3 j h1 h2) i hi
 obtain⟨c,hc⟩:∃c:Nat,(f i).count=c:=⟨(f i).count.toNat,by omega⟩
 have hnf:nf f i=c:=by unfold nf;omega
 have hc12:c<=12:=by omega
 have hmk:=run_make_row' (P:=Tryz.prog) 99 9 (.string ⟨#[]⟩) 16 Tryz.underlying99 infoStr rfl .i64 .i64 c (by omega) (by omega)
 obtain⟨_,_,a3,_,_⟩:=node_cells h hid hi
 rw[hc]at a3
 have hlB:∀j,j<n->B j<w.heap.size:=fun j hj=>h.lt hj
 have HL:=uy hlB
 have HH:=uy h
 have HI:=uy hid
 have H2:=uy h2
 have H3:=uy h3
 have HN:=uy hnf
 clear h hid h2 h3 hc hnf hlB hc0 hc1
 go_enter Tryz.func94,Tryz.ntmps94
 go_wp2
 clear a3 hmk
 go_loopw [4] (fun v wr=>∃(t j:Nat) (g:Nat->Value),t<=c/\v=.pointer (some ⟨B j,0,none⟩)/\j=anc f i t/\j<n/\Below w.heap.size w wr/\wr.rowIs w.heap.size 9 c g/\∀j,c-t<=j->j<c->g j=.string (fld f i j)) (fun v wr=>numAt v wr)
 case atStart=>exact⟨0,i,fun _=>.string ⟨#[]⟩,by omega,rfl,rfl,hi,(Below.refl _ _).alloc (Nat.le_refl _) _,World.rowIs_made w (.string ⟨#[]⟩) c 9,fun j h1 h2=>by omega⟩
 case round=>
  obtain⟨t,p,g,ht,rfl,hp,hpn,hb,hrow,hall⟩:=hrel
  obtain⟨han,hac⟩:=anc_bound (uh H2) (uh H3) hi t (by rw[uh HN];exact ht)
  rw[uh HN,<-hp]at hac
  have HP:=uy hp
  clear hp han
  obtain⟨c0,c2,c3,c4,_⟩:=node_cells ((uh HH).below hb) (uh HI) hpn
  have hq:∀j,j<n->wr.cell? ⟨B j,0,none⟩=some (.int .i64 j):=fun j hj=>(node_cells ((uh HH).below hb) (uh HI) hj).1
  have hBw:B p<wr.heap.size:=Nat.lt_of_lt_of_le (uh HL p hpn) hb.size
  have hBne:B p≠w.heap.size:=Nat.ne_of_lt (uh HL p hpn)
  have HQ:=uy hq
  clear hq
  by_cases hp0:p=0
  ·subst hp0
   rw[show parOf f B 0=none by unfold parOf;rw[if_pos rfl]]at c4
   have hct:c=t:=by have:=(uh H2).2.2;omega
   subst hct
   have HB:=uy hb
   have HR:=uy hrow
   have HALL:=uy hall
   clear hb hrow hall
   go_wp2
   go_ret
   refine⟨⟨w.heap.size,by rw[uh HN];rfl,Nat.le_refl _,?_⟩,uh HB⟩
   rw[uh HN]
   exact(uh HR).congr fun j hj=>uh HALL j (by omega) hj
  ·rw[show parOf f B p=some ⟨B (shPar f p),0,none⟩ by unfold parOf;rw[if_neg hp0]]at c4
   have hpp:0<p:=by omega
   have hq1:=(uh H3 p hpp hpn).1
   have hq2:=(uh H3 p hpp hpn).2.1
   have hct:t<c:=by have:=(count_pos (uh H2) (uh H3) hpn hpp).1;omega
   obtain⟨r,hr⟩:∃r:Nat,r+1=c-t:=⟨c-t-1,by omega⟩
   have er:(f p).count=(r:Int)+1:=by omega
   rw[er]at c3
   have hrc:r<c:=by omega
   have d0:=hrow.cell hrc
   have d1:=hrow.frozen r
   have hrl:=hrow.lt
   have HF:Hid (fld f i r=(f p).key):=uy (by unfold fld;rw[uh HN,show c-1-r=t by omega,<-uh HP])
   have hnx:anc f i (t+1)=shPar f p:=by show(f (anc f i t)).parent.toNat=_;rw[<-uh HP]
   have hsp:shPar f p<p:=by unfold shPar;omega
   have HNX:=uy hnx
   have HB:=uy hb
   have HR:=uy hrow
   have HALL:=uy hall
   have HE:=uy er
   clear hb hrow hall er hac hq1 hq2 hnx
   go_wp2
   go_region
   go_wp2
   go_roundw
   case rel=>
    refine⟨t+1,shPar f p,_,by omega,rfl,(uh HNX).symm,by omega,((uh HB).setCell (by exact Nat.le_refl _) _).drew,((uh HR).set r _).drew,fun j h1 h2=>?_⟩
    by_cases e:j=r
    ·subst e;simp[uh HF]
    ·simp only[e,if_false];exact uh HALL j (by omega) h2
   case measure=>
    have hs:shPar f p<n:=by omega
    have hne:B (shPar f p)≠w.heap.size:=Nat.ne_of_lt (uh HL _ hs)
    rw[numAt_eq c0,numAt_eq (n:=shPar f p)]
    ·exact hsp
    ·exact(World.cell?_of_block (Deep.blk_setCell_other _ _ _ _ hne)).trans (uh HQ _ hs)
end
section
open Go.RowKit
theorem anc_add(f:Nat->Shp)(i t:Nat):∀s,anc f (anc f i t) s=anc f i (t+s)
 |0=>rfl
 |s+1=>by
  show(f (anc f (anc f i t) s)).parent.toNat=_
  rw[anc_add f i t s]
  rfl
theorem anc_pos{n:Nat}{f:Nat->Shp}(h2:Rule2 f)(h3:Rule3 n f){i:Nat}(hi:i<n){t:Nat}(ht:t<nf f i):0<anc f i t:=by
 have:=(anc_bound h2 h3 hi t (by omega)).2
 rcases Nat.eq_zero_or_pos (anc f i t)with e|e
 ·rw[e,h2.2.2]at this;omega
 ·exact e
theorem anc_ends{n:Nat}{f:Nat->Shp}(h2:Rule2 f)(h3:Rule3 n f){i:Nat}(hi:i<n){t:Nat}(ht:∀s,s<=t->0<anc f i s):t<nf f i:=by
 by_cases h:t<nf f i
 ·exact h
 ·obtain⟨a,b⟩:=anc_bound h2 h3 hi (nf f i) (Nat.le_refl _)
  have:=(count_pos h2 h3 a (ht (nf f i) (by omega))).1
  omega
theorem anc_apart{n:Nat}{f:Nat->Shp}(h2:Rule2 f)(h3:Rule3 n f)(h5:Rule5 n f){i:Nat}(hi:i<n){t u:Nat}(htu:t<u)(hu:u<nf f i):(f (anc f i t)).key.toList≠(f (anc f i u)).key.toList:=by
 intro e
 have h0:=anc_pos h2 h3 hi (show t<nf f i by omega)
 have ha:=(anc_bound h2 h3 hi t (by omega)).1
 have hs:shPar f (anc f i t)=anc f i (t+1):=rfl
 have hsn:shPar f (anc f i t)<n:=by have:=(h3 _ h0 ha).2.1;unfold shPar;omega
 refine(repeats_iff h2 h3).1 ⟨anc f i t,h0,ha,?_⟩ h5
 refine(plc_pos h2 h3 hsn _).2 ⟨u-t-1,fun s hs'=>?_,?_⟩
 ·rw[hs,anc_add];exact anc_pos h2 h3 hi (by omega)
 ·rw[hs,anc_add,show t+1+(u-t-1)=u by omega];exact e.symm
theorem plc_at{n:Nat}{f:Nat->Shp}(h2:Rule2 f)(h3:Rule3 n f)(h5:Rule5 n f){i:Nat}(hi:i<n)(key:ByteArray){j:Nat}(hj:j<nf f i)(e:(fld f i j).toList=key.toList):plcI f i key=j:=by
 have hp:=plc_holds f i key
 have hpos:∀s,s<=nf f i-1-j->0<anc f i s:=fun s hs=>anc_pos h2 h3 hi (by omega)
 have e':(f (anc f i (nf f i-1-j))).key.toList=key.toList:=e
 rcases hp with⟨t,a,b,_,d⟩|⟨_,c⟩
 ·have ht:=anc_ends h2 h3 hi a
  have:t=nf f i-1-j:=by
   rcases Nat.lt_trichotomy t (nf f i-1-j)with h|h|h
   ·exact absurd (b.trans e'.symm) (anc_apart h2 h3 h5 hi h (by omega))
   ·exact h
   ·exact absurd (e'.trans b.symm) (anc_apart h2 h3 h5 hi h ht)
  have hc:=(anc_bound h2 h3 hi t (by omega)).2
  rw[d,hc]
  omega
 ·exact absurd e' (c _ hpos)
theorem plc_none{n:Nat}{f:Nat->Shp}(h2:Rule2 f)(h3:Rule3 n f){i:Nat}(hi:i<n)(key:ByteArray)(hno:∀j,j<nf f i->(fld f i j).toList≠key.toList):plcI f i key=-1:=by
 have hp:=plc_holds f i key
 rcases hp with⟨t,a,b,_,d⟩|⟨c,_⟩
 ·have ht:=anc_ends h2 h3 hi a
  refine absurd ?_ (hno (nf f i-1-t) (by omega))
  show(f (anc f i (nf f i-1-(nf f i-1-t)))).key.toList=_
  rw[show nf f i-1-(nf f i-1-t)=t by omega]
  exact b
 ·exact c
end
section
open Go.RowKit
attribute [local go_sem] run_store_float run_equalIn_float
def bare(d:Dc):Prop:=d.n=0/\d.m=0/\d.x=0/\d.used=0/\d.live=0/\d.turns=0
def okV(v:Vl):Bool:=v.ok&&v.kind !=0
def okS(s:Sto)(x:Si):Prop:=x.key.size<=4000/\0<=x.hits/\0<=x.misses/\x.hits<=1000000000000/\x.misses<=1000000000000/\((x.shape=-1/\x.place=0)\/(0<=x.shape/\x.shape<s.nf/\0<=x.place/\plcI s.F x.shape.toNat x.key=x.place))
end
section
open Go.RowKit
attribute [local go_sem] run_store_float run_equalIn_float
abbrev HdV(va:Option Addr)(vc:Nat)(la:Option Addr)(lc:Nat)(ia:Option Addr)(ic:Nat)(xa:Option Addr)(xc:Nat)(t:Tb):Value:=.agg #[.slice va t.nv vc,.slice la t.d.n lc,.slice ia t.d.m ic,.slice xa t.d.x xc,.int .i64 t.d.used,.int .i64 t.d.live,.int .i64 t.d.turns]
abbrev ShdV(p:Nat)(va:Option Addr)(vc:Nat)(la:Option Addr)(lc:Nat)(ia:Option Addr)(ic:Nat)(xa:Option Addr)(xc:Nat)(t:Tb):Value:=.agg #[.slice va t.nv vc,.slice la t.d.n lc,.slice ia t.d.m ic,.slice xa t.d.x xc,.int .i64 t.d.used,.int .i64 t.d.live,.int .i64 t.d.turns,.pointer (some ⟨p,0,none⟩)]
end
section
open Go.ChangeShapes Go.WideShapes Go.ChangeAt Go.RowKit Go.Deep
structure Ad where
 va:Option Addr
 vc:Nat
 la:Option Addr
 lc:Nat
 ia:Option Addr
 ic:Nat
 xa:Option Addr
 xc:Nat
def vlL(v:Vl):List Value:=[.int .i64 v.kind,.int .i64 v.num,.float .f64 v.flt,.string v.str,.int .i64 v.ref]
def siL(s:Si):List Value:=[.string s.key,.int .i64 s.shape,.int .i64 s.place,.int .i64 s.hits,.int .i64 s.misses]
theorem VCell.of{w:World}{b o:Nat}{p:Vl}(h:∀j u,(vlL p)[j]?=some u->w.cell? ⟨b,o+j,none⟩=some u):VCell w b o p:=
 ⟨h 0 _ rfl,h 1 _ rfl,h 2 _ rfl,h 3 _ rfl,h 4 _ rfl⟩
section
variable {H:Type} {enc:TypeId×Value->H} {P:Program} {w:World} {base:Nat} {spare:Nat->Bool} {held:Bool}
end
end
section
open Go.RowKit
attribute [local go_sem] run_store_float run_equalIn_float
structure Nd (w:World) (s:Sto) (b0 g:Nat) (B N:Nat->Nat) (M:Nat->Option Nat):Prop where
 ns:NodesP w s.F b0 s.nf B N M
 id:∀i,i<s.nf->N i=i
 lt:g<w.heap.size
 cel:∀i,i<s.nf->w.cell? ⟨g,i,none⟩=some (.pointer (some ⟨B i,0,none⟩))
abbrev HdA(A:Ad)(t:Tb):Value:=HdV A.va A.vc A.la A.lc A.ia A.ic A.xa A.xc t
abbrev ShdA(p:Nat)(A:Ad)(t:Tb):Value:=ShdV p A.va A.vc A.la A.lc A.ia A.ic A.xa A.xc t
end
section
open Go.RowKit
attribute [local go_sem] run_store_float run_equalIn_float
def lvF(d:Dc)(j:Nat):Pr:=d.L ((livL d d.n).getD j 0)
def lvN(d:Dc):Nat:=(livL d d.n).length
theorem lvF_at{d:Dc}{k:Nat}(hk:k<d.n)(h:(d.L k).turn≠0):lvF d (livL d k).length=d.L k:=by
 unfold lvF
 obtain⟨r,hr⟩:=livL_prefix (d:=d) (k:=k+1) (n:=d.n) (by omega)
 rw[livL_live h]at hr
 rw[<-hr]
 simp[List.getD]
end
section
open Go.RowKit
def mark(k:Nat):ByteArray:=⟨(109::Lib.decDigits k).toArray⟩
end
section
open Go.RowKit
attribute [local go_sem] run_store_float run_equalIn_float
def pcell(f:Nat->Pr)(j:Nat):Value:=((prL (f (j/11)))[j%11]?).getD undef
theorem pcell_at(f:Nat->Pr)(k i:Nat)(hi:i<11):pcell f (k*11+i)=((prL (f k))[i]?).getD undef:=by
 unfold pcell
 rw[show(k*11+i)/11=k by omega,show(k*11+i)%11=i by omega]
theorem pcells{w:World}{b N n:Nat}{g:Nat->Value}{f:Nat->Pr}(h:w.rowIs b 96 N g)(hN:n*11<=N)(hg:∀j,j<n*11->g j=pcell f j){i:Nat}(hi:i<n):PCell w b (i*11) (f i):=by
 have e:∀j,j<11->w.cell? ⟨b,i*11+j,none⟩=some (((prL (f i))[j]?).getD undef):=fun j hj=>by
  rw[h.cell (i:=i*11+j) (by omega),hg _ (by omega),pcell_at f i j hj]
 exact⟨e 0 (by omega),e 1 (by omega),e 2 (by omega),e 3 (by omega),e 4 (by omega),e 5 (by omega),e 6 (by omega),e 7 (by omega),e 8 (by omega),e 9 (by omega),e 10 (by omega)⟩
end
section
open Go.RowKit
attribute [local go_sem] run_store_float run_equalIn_float
def PrV(f:Nat->Pr)(n:Nat)(w:World)(v:Value)(lo hi:Nat):Prop:=
 (n=0/\v=.slice none 0 0)\/∃b cp N g,v=.slice (some ⟨b,0,none⟩) n cp/\lo<=b/\b<hi/\w.rowIs b 96 N g/\n*11<=N/\∀j,j<n*11->g j=pcell f j
theorem PrV.keep{f:Nat->Pr}{n:Nat}{w w':World}{v:Value}{lo hi:Nat}(h:PrV f n w v lo hi)(hk:∀b,lo<=b->b<hi->w'.heap[b]?=w.heap[b]?):PrV f n w' v lo hi:=by
 rcases h with h|⟨b,cp,N,g,h1,h2,h3,h4,h5,h6⟩
 ·exact .inl h
 ·exact .inr ⟨b,cp,N,g,h1,h2,h3,World.rowIs.of_block h4 (hk b h2 h3),h5,h6⟩
theorem PrV.of{f:Nat->Pr}{n B:Nat}{w:World}{v:Value}(h:POwn w B v n f):PrV f n w v B w.heap.size:=by
 have hlt:=h.lt
 obtain⟨hl,⟨hv,h0⟩|⟨g',cap,cur,hv,hb,hblk,h1,h2,h3,h4⟩⟩:=h
 ·exact .inl ⟨h0,hv⟩
 ·subst hv
  refine .inr ⟨g',cap,cap*11,fun j=>(cur[j]?).getD undef,rfl,hb,(hlt g' rfl).2,⟨cur,hblk,h3,fun i hi=>by simp[Array.getElem?_eq_getElem (show i<cur.size by omega)]⟩,by omega,fun j hj=>?_⟩
  have h5:=pL_get (f:=f) (n:=n) (i:=j/11) (j:=j%11) (by omega) (by omega)
  rw[show j/11*11+j%11=j by omega,<-h4,List.getElem?_take,if_pos hj,Array.getElem?_toList]at h5
  show(cur[j]?).getD undef=_
  rw[h5]
  rfl
theorem PrV.at{f:Nat->Pr}{n:Nat}{w:World}{v:Value}{lo hi:Nat}(h:PrV f n w v lo hi):∃a cp,v=.slice a n cp/\PAt w a n f:=by
 rcases h with⟨h0,rfl⟩|⟨b,cp,N,g,h1,h2,h3,h4,h5,h6⟩
 ·subst h0;exact⟨_,_,rfl,.inl rfl⟩
 ·exact⟨_,_,h1,.inr ⟨b,0,rfl,World.rowIs.lt h4,fun i hi=>by rw[Nat.zero_add];exact pcells h4 h5 h6 hi⟩⟩
end
section
open Go.RowKit
attribute [local go_sem] run_store_float run_equalIn_float
theorem infoValue:(Tryz.prog.info? 43).map (fun i=>(i.zero,i.size,i.bytes))=some (some (V 0 0 0 ⟨#[]⟩ 0),5,48):=by kernel_rfl
theorem infoSite:(Tryz.prog.info? 103).map (fun i=>(i.zero,i.size,i.bytes))=some (some (.agg #[.string ⟨#[]⟩,.int .i64 0,.int .i64 0,.int .i64 0,.int .i64 0]),5,48):=by kernel_rfl
theorem infoTable:(Tryz.prog.info? 94).map (fun i=>(i.zero,i.size,i.bytes))=some (some (.agg #[.int .i64 0,.slice none 0 0,.slice none 0 0,.slice none 0 0,.slice none 0 0,.int .i64 0,.int .i64 0,.int .i64 0]),8,128):=by kernel_rfl
end
section
open Go.RowKit
attribute [local go_sem] run_store_float run_equalIn_float
theorem heap_lt{w w':World}{b:Nat}(e:w'.heap[b]?=w.heap[b]?)(hl:b<w.heap.size):b<w'.heap.size:=by
 rcases Nat.lt_or_ge b w'.heap.size with h|h
 ·exact h
 ·rw[Array.getElem?_eq_none h,Array.getElem?_eq_getElem hl]at e
  cases e
end
section
open Go.RowKit
attribute [local go_sem] run_store_float run_equalIn_float
def kindV(B:Nat->Nat)(A:Ad)(t:Tb):Value:=if t.shape=-1 then .iface 239 (HdA A t)else .iface 236 (ShdA (B t.shape.toNat) A t)
def kL(B:Nat->Nat)(A:Nat->Ad)(s:Sto)(k:Nat):List Value:=(List.range k).map fun i=>kindV B (A i) (s.T i)
theorem kL_snoc(B:Nat->Nat)(A:Nat->Ad)(s:Sto)(k:Nat):kL B A s k++[kindV B (A k) (s.T k)]=kL B A s (k+1):=by
 unfold kL;rw[List.range_succ,List.map_append];rfl
theorem kL_get{B:Nat->Nat}{A:Nat->Ad}{s:Sto}{k i:Nat}(h:i<k):(kL B A s k)[i]?=some (kindV B (A i) (s.T i)):=by simp[kL,h]
theorem infoKept:(Tryz.prog.info? 162).map (fun i=>(i.zero,i.size,i.bytes))=some (some .nilIface,1,16):=by kernel_rfl
theorem own_belowK{w w':World}{base e size:Nat}{v:Value}{n:Nat}{xs:List Value}(h:w.ownsRow base e size v n xs)(hb:Below w.heap.size w w'):w'.ownsRow base e size v n xs:=by
 obtain⟨hl,⟨hv,h0⟩|⟨g',cap,cur,hv,hbs,hblk,h1,h2,h3,h4⟩⟩:=h
 ·exact⟨hl,.inl ⟨hv,h0⟩⟩
 ·refine⟨hl,.inr ⟨g',cap,cur,hv,hbs,?_,h1,h2,h3,h4⟩⟩
  rw[hb.block g' (Array.getElem?_eq_some_iff.1 hblk).1]
  exact hblk
theorem Nd.keepFrom{w w':World}{s:Sto}{b0 g:Nat}{B N:Nat->Nat}{M:Nat->Option Nat}(h:Nd w s b0 g B N M)(hk:∀b,b0<=b->b<w.heap.size->w'.heap[b]?=w.heap[b]?)(hg:w'.heap[g]?=w.heap[g]?):Nd w' s b0 g B N M:=
 ⟨{h.ns with
  node:=fun i hi hn=>(h.ns.node i hi hn).of_block (hk _ (h.ns.base i hi) (World.rowIs.lt (h.ns.node i hi hn)))
  kids:=fun i m hi hn hm=>by
   obtain⟨g,hg,hK⟩:=h.ns.kids i m hi hn hm
   obtain⟨es,c,hc⟩:=hg.isMap
   exact⟨g,hg.block (hk _ (h.ns.mbase i m hi hn hm) (Array.getElem?_eq_some_iff.1 hc).1),hK⟩},h.id,heap_lt hg h.lt,fun i hi=>(World.cell?_of_block hg).trans (h.cel i hi)⟩
theorem Nd.rebase{w:World}{s:Sto}{b0 b1 g:Nat}{B N:Nat->Nat}{M:Nat->Option Nat}(h:Nd w s b0 g B N M)(hb:b1<=b0):Nd w s b1 g B N M:=⟨h.ns.rebase hb,h.id,h.lt,h.cel⟩
end
end Go.Proofs.YtgmlkfgfjjggnaaGreatDoor
