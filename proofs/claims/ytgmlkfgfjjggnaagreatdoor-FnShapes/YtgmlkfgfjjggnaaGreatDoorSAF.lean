import Derived.Test.YtgmlkfgfjjggnaaGreatDoorSAC
import Derived.LaidEqlPtr
import Derived.Test.YtgmlkfgfjjggnaaGreatDoorSAE
set_option linter.unusedVariables false
set_option linter.unusedSimpArgs false
set_option maxHeartbeats 40000000
set_option maxRecDepth 100000
namespace Go.Proofs.YtgmlkfgfjjggnaaGreatDoor
section
open Go.RowKit
attribute [local go_sem] run_store_float run_equalIn_float
theorem idx0(a b:Option Addr)(n m c c':Nat)(w:World):(Instr.index 369 (.agg #[.slice a n c,.slice b m c']) (.int .i64 0)).run Tryz.prog w=.ok (.slice a n c) w:=by kernel_rfl
theorem idx1(a b:Option Addr)(n m c c':Nat)(w:World):(Instr.index 369 (.agg #[.slice a n c,.slice b m c']) (.int .i64 1)).run Tryz.prog w=.ok (.slice b m c') w:=by kernel_rfl
theorem timesNamed_any(la:Option Addr)(lc:Nat)(ia:Option Addr)(ic:Nat)(xa:Option Addr)(xc:Nat)(d:Dc)(w:World)(hD:DAt w la ia xa d)(hS:Small d)(h3:D3 d)(h4:D4 d):
  Calls Tryz.prog 269 #[Dv la lc ia ic xa xc d] w fun e w'=>(∃s,e=.returned (.slice (some ⟨s,0,none⟩) d.n d.n)/\Counts w' s d.n (fun j=>cnt d.I j d.m+cnt d.X j d.x))/\Below w.heap.size w w':=by
 have hn:=hS.n
 have hm:=hS.m
 have hx:=hS.x
 have hmk:=make_ints d.n hn
 have hi0:=idx0 ia xa d.m d.x ic xc
 have hi1:=idx1 ia xa d.m d.x ic xc
 have HD:=uy hD
 have H3:=uy h3
 have H4:=uy h4
 clear hD hS h3 h4
 go_enter Tryz.func269,Tryz.ntmps269
 go_wp2
 obtain⟨u,hu⟩:∃u,u=((w.alloc (.cells #[.slice la d.n lc,.slice ia d.m ic,.slice xa d.x xc,.int .i64 d.used,.int .i64 d.live,.int .i64 d.turns] 322)).alloc (.cells (madeCells #[.int .i64 0] d.n) 3)):=⟨_,rfl⟩
 rw[<-hu]
 have HBu:Hid (Below w.heap.size w u):=uy (by rw[hu];exact((Below.refl _ _).alloc (Nat.le_refl _) _).alloc (by simp) _)
 have HC0:Hid (Counts u (w.heap.size+1) d.n (fun j=>0)):=uy (by
  rw[hu]
  have:=made_zeros (w.alloc (.cells #[.slice la d.n lc,.slice ia d.m ic,.slice xa d.x xc,.int .i64 d.used,.int .i64 d.live,.int .i64 d.turns] 322)) d.n
  exact⟨_,by simpa[Value.cells]using this,fun j hj=>rfl⟩)
 clear hu hmk
 go_loopw [20] (fun i wr=>(i=.int .i64 0/\Counts wr (w.heap.size+1) d.n (fun j=>0)/\Below w.heap.size w wr)\/(i=.int .i64 1/\Counts wr (w.heap.size+1) d.n (fun j=>cnt d.I j d.m)/\Below w.heap.size w wr)\/(i=.int .i64 2/\Counts wr (w.heap.size+1) d.n (fun j=>cnt d.I j d.m+cnt d.X j d.x)/\Below w.heap.size w wr)) (fun i _=>2-(intOf i).toNat)
 case atStart=>exact .inl ⟨rfl,uh HC0,uh HBu⟩
 case round=>
  clear HC0 HBu
  rcases hrel with⟨rfl,hct,hb⟩|⟨rfl,hct,hb⟩|⟨rfl,hct,hb⟩
  ·have HC:=uy hct
   have HB:=uy hb
   clear hct hb
   go_wp2
   go_loopw [25] (fun i wr=>∃k:Nat,k<=d.m/\i=.int .i64 k/\Counts wr (w.heap.size+1) d.n (fun j=>cnt d.I j k)/\Below w.heap.size w wr) (fun i _=>d.m-(intOf i).toNat)
   case atStart=>exact⟨0,by omega,rfl,uh HC,uh HB⟩
   case round=>
    clear HC HB
    obtain⟨k,hk,rfl,hct,hb⟩:=hrel
    by_cases hkn:k<d.m
    ·obtain⟨b,off,rfl,hbl,hcs⟩:=(uh HD).ints.resolve_left (by omega)
     have e0:=(hb.cell (p:=⟨b,off+k,none⟩) hbl).trans (hcs k hkn)
     have hsl:=hct.lt
     have HB:=uy hb
     rcases(uh H3).1 k hkn with hz|hz
     ·have HC:Hid (Counts wr (w.heap.size+1) d.n (fun j=>cnt d.I j (k+1))):=uy (hct.congr (fun j hj=>by show(if _ then _ else _)=_;rw[if_neg (by omega)]))
      rw[hz]at e0
      clear hcs hb hct hz
      go_wp2
      go_roundw
      case rel=>exact⟨k+1,by omega,by go_num,uh HC,uh HB⟩
      case measure=>simp[intOf];omega
     ·obtain⟨q,hq⟩:∃q:Nat,d.I k=(q:Int)+1:=⟨(d.I k-1).toNat,by omega⟩
      have hqn:q<d.n:=by omega
      have r0:=hct.cell hqn
      have r1:=hct.frozen q
      have hcl:=cnt_le d.I q k
      have HC:Hid (Counts (wr.setCell ⟨w.heap.size+1,q,none⟩ (.int .i64 ((cnt d.I q k:Int)+1))) (w.heap.size+1) d.n (fun j=>cnt d.I j (k+1))):=uy (hct.bump.congr (fun j hj=>by
       show(if d.I k=(j:Int)+1 then _ else _)=(if j=q then _ else _)
       by_cases e:j=q
       ·subst e;rw[if_pos hq,if_pos rfl]
       ·rw[if_neg (by omega),if_neg e]))
      rw[hq]at e0
      clear hcs hb hct hz hq
      go_wp2
      go_roundw
      case rel=>exact⟨k+1,by omega,by go_num,uh HC,(uh HB).setCell (by show w.heap.size<=w.heap.size+1;omega) _⟩
      case measure=>simp[intOf];omega
    have hkn':k=d.m:=by omega
    subst hkn'
    have HC:=uy hct
    have HB:=uy hb
    clear hct hb hk hkn
    go_wp2
    go_roundw
    case rel=>exact .inr (.inl ⟨rfl,uh HC,uh HB⟩)
    case measure=>simp[intOf]
  ·have HC:=uy hct
   have HB:=uy hb
   clear hct hb
   go_wp2
   go_loopw [25] (fun i wr=>∃k:Nat,k<=d.x/\i=.int .i64 k/\Counts wr (w.heap.size+1) d.n (fun j=>cnt d.I j d.m+cnt d.X j k)/\Below w.heap.size w wr) (fun i _=>d.x-(intOf i).toNat)
   case atStart=>exact⟨0,by omega,rfl,uh HC,uh HB⟩
   case round=>
    clear HC HB
    obtain⟨k,hk,rfl,hct,hb⟩:=hrel
    by_cases hkn:k<d.x
    ·obtain⟨b,off,rfl,hbl,hcs⟩:=(uh HD).index.resolve_left (by omega)
     have e0:=(hb.cell (p:=⟨b,off+k,none⟩) hbl).trans (hcs k hkn)
     have hsl:=hct.lt
     have HB:=uy hb
     by_cases hz:0<d.X k
     case neg=>
      have HC:Hid (Counts wr (w.heap.size+1) d.n (fun j=>cnt d.I j d.m+cnt d.X j (k+1))):=uy (hct.congr (fun j hj=>by show _+(if _ then _ else _)=_;rw[if_neg (by omega)]))
      have hz':decide (0<d.X k)=false:=by simp;omega
      clear hcs hb hct
      go_wp2
      go_roundw
      case rel=>exact⟨k+1,by omega,by go_num,uh HC,uh HB⟩
      case measure=>simp[intOf];omega
     ·obtain⟨q,hq⟩:∃q:Nat,d.X k=(q:Int)+1:=⟨(d.X k-1).toNat,by omega⟩
      have hqn:q<d.n:=by rcases(uh H4).2.1 k hkn with hh|hh|hh<;>omega
      have r0:=hct.cell hqn
      have r1:=hct.frozen q
      have hcl:=cnt_le d.I q d.m
      have hcl2:=cnt_le d.X q k
      have HC:Hid (Counts (wr.setCell ⟨w.heap.size+1,q,none⟩ (.int .i64 (((cnt d.I q d.m+cnt d.X q k:Nat):Int)+1))) (w.heap.size+1) d.n (fun j=>cnt d.I j d.m+cnt d.X j (k+1))):=uy (hct.bump.congr (fun j hj=>by
       show _+(if d.X k=(j:Int)+1 then _ else _)=(if j=q then _ else _)
       by_cases e:j=q
       ·subst e;rw[if_pos hq,if_pos rfl];omega
       ·rw[if_neg (by omega),if_neg e]))
      generalize hcc:cnt d.I q d.m+cnt d.X q k=cc at r0 HC
      have hcb:cc<=8388608:=by omega
      rw[hq]at e0
      clear hcs hb hct hz hq hcc hcl hcl2
      go_wp2
      go_roundw
      case rel=>exact⟨k+1,by omega,by go_num,uh HC,(uh HB).setCell (by show w.heap.size<=w.heap.size+1;omega) _⟩
      case measure=>simp[intOf];omega
    have hkn':k=d.x:=by omega
    subst hkn'
    have HC:=uy hct
    have HB:=uy hb
    clear hct hb hk hkn
    go_wp2
    go_roundw
    case rel=>exact .inr (.inr ⟨rfl,uh HC,uh HB⟩)
    case measure=>simp[intOf]
  ·have HC:=uy hct
   have HB:=uy hb
   clear hct hb
   go_wp2
   go_ret
   exact⟨⟨_,rfl,uh HC⟩,uh HB⟩
theorem nextInt_any(bk R0 R1 R2:Nat)(E S:Nat->Nat)(d:Dc)(w:World)(hB:Book w bk R0 R1 R2 E S d)(hS:Small d):
  Calls Tryz.prog 270 #[.pointer (some ⟨bk,0,none⟩)] w fun e w'=>e=.returned (V 2 ((d.m:Int)+1) 0 ⟨#[]⟩ 0)/\Below w.heap.size w w':=by
 have hm:=hS.m
 obtain⟨k1,c1⟩:=hB.c1
 have hlt:=hB.lt
 clear hB hS
 go_enter Tryz.func270,Tryz.ntmps270
 go_wp2_with (go_at_call 238;refine(intValue_any ((d.m:Int)+1) _).mono ?_;rintro e w1 ⟨rfl,hb1⟩;obtain⟨hc1,hf1⟩:=bcell hb1;have hz1:=hb1.size;simp at hz1)
 refine bodyPost_ret (v:=V 2 ((d.m:Int)+1) 0 ⟨#[]⟩ 0) (by simp[results,Tryz.results270,go_sem,hc1]) rfl ⟨rfl,?_⟩
 have hb2:Below w.heap.size w w1:=((Below.refl _ _).alloc (Nat.le_refl _) _).trans (hb1.mono (by simp))
 exact(((((hb2.setCell (p:=⟨w.heap.size,0,none⟩) (Nat.le_refl _) _).setCell (p:=⟨w.heap.size,1,none⟩) (Nat.le_refl _) _).setCell (p:=⟨w.heap.size,2,none⟩) (Nat.le_refl _) _).setCell (p:=⟨w.heap.size,3,none⟩) (Nat.le_refl _) _).setCell (p:=⟨w.heap.size,4,none⟩) (Nat.le_refl _) _)
end
section
open Go.RowKit Go.Shelf
attribute [local go_sem] run_store_float run_equalIn_float Oper.semAt_some
theorem infoEntry:(Tryz.prog.info? 294).map (fun i=>i.size)=some 12:=by kernel_rfl
theorem neq_ent{w:World}{bk R0 R1 R2:Nat}{E S:Nat->Nat}{d:Dc}(hB:Book w bk R0 R1 R2 E S d){p:Int}(h1:-1<=p)(h2:p<d.n){i:Nat}(hi:i<d.n):
  (binOp .neq 292 (.pointer (placeP E p)) (.pointer (some ⟨E i,0,none⟩))).run Tryz.prog w=.ok (.bool (decide (p≠i))) w:=by
 have hp:Tryz.prog.underlying 292=some (.pointer 294):=Tryz.underlying292
 obtain⟨j,hj,hs⟩:=Option.map_eq_some_iff.1 infoEntry
 unfold placeP
 by_cases h:0<=p
 ·rw[if_pos h]
  by_cases e:p=i
  ·subst e
   have hh:∀k:Nat,(Op.equalIn (k+1) 292 (.pointer (some ⟨E i,0,none⟩)) (.pointer (some ⟨E i,0,none⟩))).run Tryz.prog w=.ok true w:=fun k=>by
    simp[Op.equalIn,run_underlying hp,sizeOf,typeInfo,hj,run_sameAddr_same]
   simp only[Int.toNat_natCast,binOp]
   simp[Op.equal,Op.maxDepth,hh 9999]
  ·have o1:=(hB.ent p.toNat (by omega)).ob
   have o2:=(hB.ent i hi).ob
   have hne:(⟨E p.toNat,0,none⟩:Addr)≠⟨E i,0,none⟩:=fun he=>by
    have:=hB.inj p.toNat i (by omega) hi (by simpa using he)
    omega
   have hh:∀k:Nat,(Op.equalIn (k+1) 292 (.pointer (some ⟨E p.toNat,0,none⟩)) (.pointer (some ⟨E i,0,none⟩))).run Tryz.prog w=.ok false w:=fun k=>by
    simp[Op.equalIn,run_underlying hp,sizeOf,typeInfo,hj,hs,run_sameAddr_other w hne o1 o2]
   simp only[binOp]
   simp[Op.equal,Op.maxDepth,hh 9999,e]
 ·rw[if_neg h]
  have e:p≠i:=by omega
  have hh:∀k:Nat,(Op.equalIn (k+1) 292 (.pointer none) (.pointer (some ⟨E i,0,none⟩))).run Tryz.prog w=.ok false w:=fun k=>by
   simp[Op.equalIn,run_underlying hp,sizeOf,typeInfo]
  simp only[binOp]
  simp[Op.equal,Op.maxDepth,hh 9999,e]
theorem allAreFound_any(T:World->Prop)(hTl:Lasts T)(la:Option Addr)(lc:Nat)(ia:Option Addr)(ic:Nat)(xa:Option Addr)(xc:Nat)(d:Dc)(H:Nat->Nat)(w:World)(hT:T w)(hD:DAt w la ia xa d)(hS:Small d)(h2:D2 d)(h3:D3 d)(h4:D4 d)(hH:∀i,i<d.n->(d.L i).turn≠0->HsI T (d.L i).key (H i)):
  Calls Tryz.prog 246 #[Dv la lc ia ic xa xc d] w fun e w'=>e=.returned (.bool (tells (D5 d H)))/\Below w.heap.size w w':=by
 have hm:=hS.m
 have hb0:Below w.heap.size w ((w.alloc (.cells #[.slice la d.n lc,.slice ia d.m ic,.slice xa d.x xc,.int .i64 d.used,.int .i64 d.live,.int .i64 d.turns] 322)).alloc (.cells #[.bool false] 4)):=((Below.refl _ _).alloc (Nat.le_refl _) _).alloc (by simp) _
 have HB0:=uy hb0
 clear hb0
 refine(callsIn_wide (n:=20)).1 ?_
 refine callsIn_of_wp_marks Tryz.func246 rfl trivial ?_ rfl
 simp only[Tryz.ntmps246,List.size_toArray,List.length_cons,List.length_nil,Nat.reduceAdd,Nat.reduceSub,Array.replicate_succ,Array.replicate_zero,List.push_toArray,List.append_toArray,List.nil_append,List.cons_append]
 have HTl:=uy hTl
 have HT:=uy hT
 have HD:=uy hD
 have HS:=uy hS
 have H2:=uy h2
 have H3:=uy h3
 have H4:=uy h4
 have HH:=uy hH
 clear hTl hT hD hS h2 h3 h4 hH
 gi_wp2_with fail
 refine⟨trivial,?_⟩
 refine(callsIn_wide.2 (openBook_any la lc ia ic xa xc d _ ((uh HD).below (uh HB0)) (uh HS) (uh H3) (uh H4))).mono ?_
 rintro e w1 ⟨⟨bk,R0,R1,R2,E,S,rfl,hBk⟩,hb1⟩
 obtain⟨hc1,hf1⟩:=bcell hb1
 have hz1:w.heap.size+2<=w1.heap.size:=by have:=hb1.size;simp at this;omega
 have y0:w.heap.size<w1.heap.size:=by omega
 have y1:w.heap.size+1<w1.heap.size:=by omega
 have a0:w1.cell? ⟨w.heap.size,0,none⟩=some (.slice la d.n lc):=by rw[hc1 _ _ (by simp;omega)];simp[go_sem]
 have a1:w1.cell? ⟨w.heap.size,1,none⟩=some (.slice ia d.m ic):=by rw[hc1 _ _ (by simp;omega)];simp[go_sem]
 have a2:w1.cell? ⟨w.heap.size,2,none⟩=some (.slice xa d.x xc):=by rw[hc1 _ _ (by simp;omega)];simp[go_sem]
 have a3:w1.cell? ⟨w.heap.size,3,none⟩=some (.int .i64 d.used):=by rw[hc1 _ _ (by simp;omega)];simp[go_sem]
 have a4:w1.cell? ⟨w.heap.size,4,none⟩=some (.int .i64 d.live):=by rw[hc1 _ _ (by simp;omega)];simp[go_sem]
 have a5:w1.cell? ⟨w.heap.size,5,none⟩=some (.int .i64 d.turns):=by rw[hc1 _ _ (by simp;omega)];simp[go_sem]
 have b0:w1.cell? ⟨w.heap.size+1,0,none⟩=some (.bool false):=by rw[hc1 _ _ (by simp)];simp[go_sem]
 have b1:w1.frozen? ⟨w.heap.size+1,0,none⟩=false:=by rw[hf1 _ _ (by simp)];simp[go_sem]
 have HB1:=uy ((uh HB0).trans (hb1.mono (uh HB0).size))
 have HBk:=uy hBk
 clear hb1 hc1 hf1 hBk
 gi_wp2_with fail
 refine⟨trivial,?_⟩
 refine(callsIn_wide.2 (timesNamed_any la lc ia ic xa xc d _ ((uh HD).below ((uh HB1).alloc (by omega) _)) (uh HS) (uh H3) (uh H4))).mono ?_
 rintro e w2 ⟨⟨st,rfl,hct⟩,hb2⟩
 have hz2:w1.heap.size<w2.heap.size:=by have:=hb2.size;simp at this;omega
 have HX2:=uy (((Below.refl w1.heap.size w1).alloc (Nat.le_refl _) _).trans (hb2.mono (by simp)))
 have m2:w2.cell? ⟨w1.heap.size,0,none⟩=some (.pointer (some ⟨bk,0,none⟩)):=by rw[(bcell hb2).1 _ _ (by simp)];simp[go_sem]
 have HC2:=uy hct
 clear hct hb2 a0 a1 a2 a3 a4 a5
 gi_wp2_with fail
 refine⟨trivial,?_⟩
 refine(callsIn_wide.2 (nextInt_any bk R0 R1 R2 E S d _ ((uh HBk).below ((uh HX2).alloc (by omega) _)) (uh HS))).mono ?_
 rintro e w3 ⟨rfl,hb3⟩
 have hz3:w2.heap.size<w3.heap.size:=by have:=hb3.size;simp at this;omega
 have hz3':w1.heap.size<w3.heap.size:=by omega
 have HX3:=uy (((Below.refl w2.heap.size w2).alloc (Nat.le_refl _) _).trans (hb3.mono (by simp)))
 have m3:w3.cell? ⟨w1.heap.size,0,none⟩=some (.pointer (some ⟨bk,0,none⟩)):=((uh HX3).cell (p:=⟨w1.heap.size,0,none⟩) hz2).trans m2
 have s3:w3.cell? ⟨w2.heap.size,0,none⟩=some (.slice (some ⟨st,0,none⟩) d.n d.n):=by rw[(bcell hb3).1 _ _ (by simp)];simp[go_sem]
 clear hb3 m2
 gi_wp2_with fail
 refine⟨trivial,?_⟩
 refine(callsIn_wide.2 (living_any bk _)).mono ?_
 rintro e w4 ⟨rfl,rfl⟩
 gi_wp2_with fail
 obtain⟨u,hu⟩:∃u,u=(w3.alloc (.cells #[.int .i64 2,.int .i64 ((d.m:Int)+1),.float .f64 0,.string ⟨#[]⟩,.int .i64 0] 43)).alloc (.cells #[.pointer (some ⟨bk,0,none⟩)] 289):=⟨_,rfl⟩
 rw[<-hu]
 have zu:u.heap.size=w3.heap.size+2:=by rw[hu];simp
 have b3u:Below w3.heap.size w3 u:=by rw[hu];exact((Below.refl _ _).alloc (Nat.le_refl _) _).alloc (by simp) _
 have n0:u.cell? ⟨w3.heap.size,0,none⟩=some (.int .i64 2):=by rw[hu];simp[go_sem]
 have n1:u.cell? ⟨w3.heap.size,1,none⟩=some (.int .i64 ((d.m:Int)+1)):=by rw[hu];simp[go_sem]
 have n2:u.cell? ⟨w3.heap.size,2,none⟩=some (.float .f64 0):=by rw[hu];simp[go_sem]
 have n3:u.cell? ⟨w3.heap.size,3,none⟩=some (.string ⟨#[]⟩):=by rw[hu];simp[go_sem]
 have n4:u.cell? ⟨w3.heap.size,4,none⟩=some (.int .i64 0):=by rw[hu];simp[go_sem]
 have mb0:u.cell? ⟨w3.heap.size+1,0,none⟩=some (.pointer (some ⟨bk,0,none⟩)):=by rw[hu];simp[go_sem]
 clear hu
 have b2u:Below w2.heap.size w2 u:=(uh HX3).trans (b3u.mono (by omega))
 have b1u:Below w1.heap.size w1 u:=(uh HX2).trans (b2u.mono (by omega))
 have bwu:Below w.heap.size w u:=(uh HB1).trans (b1u.mono (by omega))
 have mu:=(b3u.cell (p:=⟨w1.heap.size,0,none⟩) hz3').trans m3
 have su:=(b3u.cell (p:=⟨w2.heap.size,0,none⟩) hz3).trans s3
 have ru:=(b1u.cell (p:=⟨w.heap.size+1,0,none⟩) y1).trans b0
 have fu:=(b1u.frozen (p:=⟨w.heap.size+1,0,none⟩) y1).trans b1
 have hBu:=(uh HBk).below b1u
 have hCu:Counts u st d.n (fun j=>cnt d.I j d.m+cnt d.X j d.x):=(uh HC2).below b2u
 have hz1u:w1.heap.size<u.heap.size:=by omega
 have hz2u:w2.heap.size<u.heap.size:=by omega
 have hz3u:w3.heap.size<u.heap.size:=by omega
 have hNu:w.heap.size+1<u.heap.size:=by omega
 clear b2u b1u b3u m3 s3 b0 b1 HBk HC2 HX2 HX3 HB1 HB0 HD hz1 y0 y1 hz2 hz3 hz3'
 generalize w1.heap.size=M1 at*
 generalize w2.heap.size=M2 at*
 refine wpIn_rangeFunc_ownF rfl (by decide) (gf:=248) (lb:=#[.pointer (some ⟨w3.heap.size+1,0,none⟩)]) rfl trivial (enters_of Tryz.func248 (by kernel_rfl) rfl)
  (living_stops 19 (by decide) bk R0 R1 R2 (w3.heap.size+1) u.heap.size E S d u hBu (uh HS) hBu.l0 (fun i hi=>(hBu.ent i hi).lt) mb0) belowK_t (belowK_b (Nat.le_refl _)) (Below.refl _ _) (fun _=>rfl)
  (fun pre W=>(∀y∈pre,ok5 d H y.1)/\Below u.heap.size u W)
  (fun c pre W=>(c=.ret/\(∃y∈pre,¬ok5 d H y.1)/\W.cell? ⟨w.heap.size+1,0,none⟩=some (.bool false))/\Below w.heap.size w W)
  (OwnFrom.and (ownFrom_pure _ (fun pre:List (Liv d)=>∀y∈pre,ok5 d H y.1)) (ownFrom_below (Nat.le_refl _) (Nat.le_refl _)))
  (fun c=>OwnFrom.and (Own.from (fun s A B row hs hg hr=>⟨hs.1,hs.2.1,cell_kept hs.2.2 hg hr⟩) _) (ownFrom_below (Nat.le_refl _) (by omega)))
  ⟨by simp,Below.refl _ _⟩
  ?a1 ?assign ?body ?done ?stop
 case assign=>
  intro l x W K hK
  gi_wp2
  exact hK
 case body=>
  rintro l pre ⟨i,hi,ht⟩ W ⟨hp,hBW⟩ _
  have hBk:=hBu.below hBW
  have m0:=(hBW.cell (p:=⟨M1,0,none⟩) hz1u).trans mu
  have s0:=(hBW.cell (p:=⟨M2,0,none⟩) hz2u).trans su
  have g0:=(hBW.cell (p:=⟨w3.heap.size,0,none⟩) hz3u).trans n0
  have g1:=(hBW.cell (p:=⟨w3.heap.size,1,none⟩) hz3u).trans n1
  have g2:=(hBW.cell (p:=⟨w3.heap.size,2,none⟩) hz3u).trans n2
  have g3:=(hBW.cell (p:=⟨w3.heap.size,3,none⟩) hz3u).trans n3
  have g4:=(hBW.cell (p:=⟨w3.heap.size,4,none⟩) hz3u).trans n4
  have hCW:=hCu.below hBW
  have r0:=hCW.cell hi
  have hst:=hCW.lt
  obtain⟨hel,k0,k1,k2,k3,k4,_,_,_,_,_,_,pl⟩:=hBk.ent i hi
  have hM1:M1<W.heap.size:=Nat.lt_of_lt_of_le hz1u hBW.size
  have hM2:M2<W.heap.size:=Nat.lt_of_lt_of_le hz2u hBW.size
  have hM3:w3.heap.size<W.heap.size:=Nat.lt_of_lt_of_le hz3u hBW.size
  have hNW:w.heap.size+1<W.heap.size:=Nat.lt_of_lt_of_le hNu hBW.size
  have hcr:=(hBW.cell (p:=⟨w.heap.size+1,0,none⟩) hNu).trans ru
  have hfr:=(hBW.frozen (p:=⟨w.heap.size+1,0,none⟩) hNu).trans fu
  have hnn:=(uh HS).n
  have HBk:=uy hBk
  have HTW:=uy (uh HTl _ _ (uh HT) (bwu.trans (hBW.mono (by omega))))
  have HHi:=uy (uh HH i hi ht)
  have hkey:=((uh H2).pos hi ht).2
  clear hBk hCW mu su n0 n1 n2 n3 n4 mb0
  by_cases hc1:cnt d.I i d.m+cnt d.X i d.x=1
  case neg=>
   have HNO:Hid (¬ok5 d H i):=uy (fun h=>hc1 (h ht).1)
   have hc1':(((cnt d.I i d.m+cnt d.X i d.x:Nat):Int)!=1)=true:=by simp;omega
   generalize cnt d.I i d.m+cnt d.X i d.x=cc at r0 hc1' hc1
   clear hc1
   gi_wp2
   refine wpIn_region_quiet (C:=fun w'=>Below W.heap.size W w') (by kernel_rfl) (by kernel_rfl) (by kernel_rfl) ((Below.refl _ _).drew) ?_
   show wpQuiet _ _ _ _ [_,_,_,_,_,_,_,_,_,_,_,_,_,_,_,_,_,_,_,_,_,_,_,_,_,_,_,_] _
   (refine wpQuiet_step (fun K hK=>?_);go_simp;refine Exists.intro ?_ (And.intro (fun w' hw'=>?_) (hK _ ?_));rotate_left;obtain⟨hc',hf'⟩:=bcell hw';go_simp;first|rfl|exact⟨rfl,rfl⟩|exact⟨rfl⟩;clear hK K)
   iterate 3 (refine wpQuiet_step (fun K hK=>?_);go_simp;refine⟨_,fun w' hw'=>rfl,hK _ ?_⟩;clear hK K)
   (refine wpQuiet_step (fun K hK=>?_);go_simp;refine Exists.intro ?_ (And.intro (fun w' hw'=>?_) (hK _ ?_));rotate_left;obtain⟨hc',hf'⟩:=bcell hw';go_simp;first|rfl|exact⟨rfl,rfl⟩|exact⟨rfl⟩;clear hK K)
   (refine wpQuiet_step (fun K hK=>?_);go_simp;refine⟨_,fun w' hw'=>rfl,hK _ ?_⟩;clear hK K)
   (refine wpQuiet_step (fun K hK=>?_);go_simp;refine Exists.intro ?_ (And.intro (fun w' hw'=>?_) (hK _ ?_));rotate_left;obtain⟨hc',hf'⟩:=bcell hw';go_simp;first|rfl|exact⟨rfl,rfl⟩|exact⟨rfl⟩;clear hK K)
   iterate 2 (refine wpQuiet_step (fun K hK=>?_);go_simp;refine⟨_,fun w' hw'=>rfl,hK _ ?_⟩;clear hK K)
   go_big_quiet_step (fail)
   go_big_quiet_step (fail)
   go_big_quiet_step (fail)
   go_big_quiet_step (fail)
   go_big_quiet_step (fail)
   go_big_quiet_step (fail)
   go_big_quiet_step (fail)
   go_big_quiet_step (fail)
   go_big_quiet_step (fail)
   iterate 2 (refine wpQuiet_step (fun K hK=>?_);go_simp;refine⟨_,fun w' hw'=>rfl,hK _ ?_⟩;clear hK K)
   go_big_quiet_step (fail)
   go_big_quiet_step (fail)
   go_big_quiet_step (fail)
   go_big_quiet_step (fail)
   go_big_quiet_step (fail)
   go_big_quiet_step (fail)
   go_big_quiet_step (fail)
   (refine wpQuiet_step (fun K hK=>?_);go_simp;refine⟨_,fun w' hw'=>rfl,hK _ ?_⟩;clear hK K)
   refine wpQuiet_nil ?_
   intro w5 hw5
   have HK:=uy (keeps_of_below hw5)
   have HB5:=uy (bwu.trans ((hBW.trans (hw5.mono hBW.size)).mono (by omega)))
   have v0:=(hw5.cell (p:=⟨w.heap.size+1,0,none⟩) hNW).trans hcr
   have v1:=(hw5.frozen (p:=⟨w.heap.size+1,0,none⟩) hNW).trans hfr
   clear hw5
   gi_wp2
   exact⟨(uh HK).trans (KeepsOthers.setCell _ _ _),⟨rfl,⟨⟨i,hi,ht⟩,by simp,uh HNO⟩,World.cell?_setCell_same' _ _ _ (by rw[v0];rfl)⟩,(uh HB5).setCell (p:=⟨w.heap.size+1,0,none⟩) (by show w.heap.size<=w.heap.size+1;omega) _⟩
  have HC1:=uy hc1
  rw[hc1]at r0
  have hc1':(((1:Nat):Int)!=1)=false:=rfl
  obtain⟨hp1,hp2⟩:=place_range (uh H3) (uh H4) (d.L i).key (H i)
  have hcall:=fun W' hT' hB'=>bfind_any T (uh HTl) bk R0 R1 R2 E S d (d.L i).key (H i) (uh HHi) W' hT' hB' (uh HS) (uh H3) (uh H4)
  have HOK:Hid (ok5 d H i↔placeI d (d.L i).key (H i)=(i:Int)/\¬((d.L i).key.kind=2/\(d.L i).key.num=(d.m:Int)+1)):=uy ⟨fun h=>(h ht).2,fun h _=>⟨hc1,h⟩⟩
  generalize placeI d (d.L i).key (H i)=pl0 at hp1 hp2 hcall HOK
  have HCALL:=uy hcall
  clear hcall hc1
  by_cases hpp:pl0=(i:Int)
  case neg=>
   have HNO:Hid (¬ok5 d H i):=uy (fun h=>hpp ((uh HOK).1 h).1)
   gi_wp2
   refine wpIn_region_quiet (C:=fun w'=>Below W.heap.size W w') (by kernel_rfl) (by kernel_rfl) (by kernel_rfl) ((Below.refl _ _).drew) ?_
   show wpQuiet _ _ _ _ [_,_,_,_,_,_,_,_,_,_,_,_,_,_,_,_,_,_,_,_,_,_,_,_,_,_,_,_] _
   (refine wpQuiet_step (fun K hK=>?_);go_simp;refine Exists.intro ?_ (And.intro (fun w' hw'=>?_) (hK _ ?_));rotate_left;obtain⟨hc',hf'⟩:=bcell hw';go_simp;first|rfl|exact⟨rfl,rfl⟩|exact⟨rfl⟩;clear hK K)
   iterate 3 (refine wpQuiet_step (fun K hK=>?_);go_simp;refine⟨_,fun w' hw'=>rfl,hK _ ?_⟩;clear hK K)
   (refine wpQuiet_step (fun K hK=>?_);go_simp;refine Exists.intro ?_ (And.intro (fun w' hw'=>?_) (hK _ ?_));rotate_left;obtain⟨hc',hf'⟩:=bcell hw';go_simp;first|rfl|exact⟨rfl,rfl⟩|exact⟨rfl⟩;clear hK K)
   (refine wpQuiet_step (fun K hK=>?_);go_simp;refine⟨_,fun w' hw'=>rfl,hK _ ?_⟩;clear hK K)
   (refine wpQuiet_step (fun K hK=>?_);go_simp;refine Exists.intro ?_ (And.intro (fun w' hw'=>?_) (hK _ ?_));rotate_left;obtain⟨hc',hf'⟩:=bcell hw';go_simp;first|rfl|exact⟨rfl,rfl⟩|exact⟨rfl⟩;clear hK K)
   iterate 2 (refine wpQuiet_step (fun K hK=>?_);go_simp;refine⟨_,fun w' hw'=>rfl,hK _ ?_⟩;clear hK K)
   (refine wpQuiet_step (fun K hK=>?_);go_simp;refine Exists.intro ?_ (And.intro (fun w' hw'=>?_) (hK _ ?_));rotate_left;obtain⟨hc',hf'⟩:=bcell hw';go_simp;first|rfl|exact⟨rfl,rfl⟩|exact⟨rfl⟩;clear hK K)
   iterate 4 (refine wpQuiet_step (fun K hK=>?_);go_simp;refine⟨_,fun w' hw'=>rfl,hK _ ?_⟩;clear hK K)
   (refine wpQuiet_step (fun K hK=>?_);go_simp;refine Exists.intro ?_ (And.intro (fun w' hw'=>?_) (hK _ ?_));rotate_left;obtain⟨hc',hf'⟩:=bcell hw';go_simp;first|rfl|exact⟨rfl,rfl⟩|exact⟨rfl⟩;clear hK K)
   refine wpQuiet_step (fun K hK=>?_)
   go_simp
   apply Exists.intro
   refine And.intro (fun w' hw'=>?_) (hK _ ?_)
   ·refine(((uh HCALL) _ (uh HTl _ _ (uh HTW) hw') ((uh HBk).below hw'))).mono ?_
    rintro e w'' ⟨rfl,hb⟩
    exact⟨rfl,hw'.trans (hb.mono hw'.size)⟩
   clear hK K
   (refine wpQuiet_step (fun K hK=>?_);go_simp;refine⟨_,fun w' hw'=>rfl,hK _ ?_⟩;clear hK K)
   refine wpQuiet_step (fun K hK=>?_)
   go_simp
   refine⟨.bool true,fun w' hw'=>?_,hK _ ?_⟩
   ·rw[neq_ent ((uh HBk).below hw') hp1 hp2 hi]
    simp[hpp]
   clear hK K
   iterate 2 (refine wpQuiet_step (fun K hK=>?_);go_simp;refine⟨_,fun w' hw'=>rfl,hK _ ?_⟩;clear hK K)
   go_big_quiet_step (fail)
   go_big_quiet_step (fail)
   go_big_quiet_step (fail)
   go_big_quiet_step (fail)
   go_big_quiet_step (fail)
   go_big_quiet_step (fail)
   go_big_quiet_step (fail)
   (refine wpQuiet_step (fun K hK=>?_);go_simp;refine⟨_,fun w' hw'=>rfl,hK _ ?_⟩;clear hK K)
   refine wpQuiet_nil ?_
   intro w5 hw5
   have HK:=uy (keeps_of_below hw5)
   have HB5:=uy (bwu.trans ((hBW.trans (hw5.mono hBW.size)).mono (by omega)))
   have v0:=(hw5.cell (p:=⟨w.heap.size+1,0,none⟩) hNW).trans hcr
   have v1:=(hw5.frozen (p:=⟨w.heap.size+1,0,none⟩) hNW).trans hfr
   clear hw5
   gi_wp2
   exact⟨(uh HK).trans (KeepsOthers.setCell _ _ _),⟨rfl,⟨⟨i,hi,ht⟩,by simp,uh HNO⟩,World.cell?_setCell_same' _ _ _ (by rw[v0];rfl)⟩,(uh HB5).setCell (p:=⟨w.heap.size+1,0,none⟩) (by show w.heap.size<=w.heap.size+1;omega) _⟩
  subst hpp
  by_cases hnx:(d.L i).key.kind=2/\(d.L i).key.num=(d.m:Int)+1
  ·have HNO:Hid (¬ok5 d H i):=uy (fun h=>((uh HOK).1 h).2 hnx)
   have HNX:=uy hnx
   have HF:=uy (int_key hkey hnx.1)
   clear hnx hkey
   gi_wp2
   refine wpIn_region_quiet (C:=fun w'=>Below W.heap.size W w') (by kernel_rfl) (by kernel_rfl) (by kernel_rfl) ((Below.refl _ _).drew) ?_
   show wpQuiet _ _ _ _ [_,_,_,_,_,_,_,_,_,_,_,_,_,_,_,_,_,_,_,_,_,_,_,_,_,_,_,_] _
   (refine wpQuiet_step (fun K hK=>?_);go_simp;refine Exists.intro ?_ (And.intro (fun w' hw'=>?_) (hK _ ?_));rotate_left;obtain⟨hc',hf'⟩:=bcell hw';go_simp;first|rfl|exact⟨rfl,rfl⟩|exact⟨rfl⟩;clear hK K)
   iterate 3 (refine wpQuiet_step (fun K hK=>?_);go_simp;refine⟨_,fun w' hw'=>rfl,hK _ ?_⟩;clear hK K)
   (refine wpQuiet_step (fun K hK=>?_);go_simp;refine Exists.intro ?_ (And.intro (fun w' hw'=>?_) (hK _ ?_));rotate_left;obtain⟨hc',hf'⟩:=bcell hw';go_simp;first|rfl|exact⟨rfl,rfl⟩|exact⟨rfl⟩;clear hK K)
   (refine wpQuiet_step (fun K hK=>?_);go_simp;refine⟨_,fun w' hw'=>rfl,hK _ ?_⟩;clear hK K)
   (refine wpQuiet_step (fun K hK=>?_);go_simp;refine Exists.intro ?_ (And.intro (fun w' hw'=>?_) (hK _ ?_));rotate_left;obtain⟨hc',hf'⟩:=bcell hw';go_simp;first|rfl|exact⟨rfl,rfl⟩|exact⟨rfl⟩;clear hK K)
   iterate 2 (refine wpQuiet_step (fun K hK=>?_);go_simp;refine⟨_,fun w' hw'=>rfl,hK _ ?_⟩;clear hK K)
   (refine wpQuiet_step (fun K hK=>?_);go_simp;refine Exists.intro ?_ (And.intro (fun w' hw'=>?_) (hK _ ?_));rotate_left;obtain⟨hc',hf'⟩:=bcell hw';go_simp;first|rfl|exact⟨rfl,rfl⟩|exact⟨rfl⟩;clear hK K)
   iterate 4 (refine wpQuiet_step (fun K hK=>?_);go_simp;refine⟨_,fun w' hw'=>rfl,hK _ ?_⟩;clear hK K)
   (refine wpQuiet_step (fun K hK=>?_);go_simp;refine Exists.intro ?_ (And.intro (fun w' hw'=>?_) (hK _ ?_));rotate_left;obtain⟨hc',hf'⟩:=bcell hw';go_simp;first|rfl|exact⟨rfl,rfl⟩|exact⟨rfl⟩;clear hK K)
   refine wpQuiet_step (fun K hK=>?_)
   go_simp
   apply Exists.intro
   refine And.intro (fun w' hw'=>?_) (hK _ ?_)
   ·refine(((uh HCALL) _ (uh HTl _ _ (uh HTW) hw') ((uh HBk).below hw'))).mono ?_
    rintro e w'' ⟨rfl,hb⟩
    exact⟨rfl,hw'.trans (hb.mono hw'.size)⟩
   clear hK K
   (refine wpQuiet_step (fun K hK=>?_);go_simp;refine⟨_,fun w' hw'=>rfl,hK _ ?_⟩;clear hK K)
   refine wpQuiet_step (fun K hK=>?_)
   go_simp
   refine⟨.bool false,fun w' hw'=>?_,hK _ ?_⟩
   ·rw[neq_ent ((uh HBk).below hw') hp1 hp2 hi]
    simp
   clear hK K
   iterate 6 (refine wpQuiet_step (fun K hK=>?_);go_simp;refine⟨_,fun w' hw'=>rfl,hK _ ?_⟩;clear hK K)
   iterate 2 (refine wpQuiet_step (fun K hK=>?_);go_simp;refine Exists.intro ?_ (And.intro (fun w' hw'=>?_) (hK _ ?_));rotate_left;obtain⟨hc',hf'⟩:=bcell hw';go_simp;first|rfl|exact⟨rfl,rfl⟩|exact⟨rfl⟩;clear hK K)
   refine wpQuiet_step (fun K hK=>?_)
   go_simp
   refine⟨.bool true,fun w' hw'=>?_,hK _ ?_⟩
   ·obtain⟨x1,x2⟩:=uh HNX
    obtain⟨x3,x4,x5⟩:=uh HF
    have x3':FloatKind.f64.format.order (d.L i).key.flt 0=some Ordering.eq:=by simpa using x3
    have x4':(d.L i).key.str.toList=[]:=List.isEmpty_iff.1 x4
    simp only[x1,x2,x5,x3',x4',if_true]
    exact⟨trivial,trivial⟩
   clear hK K
   (refine wpQuiet_step (fun K hK=>?_);go_simp;refine⟨_,fun w' hw'=>rfl,hK _ ?_⟩;clear hK K)
   refine wpQuiet_nil ?_
   intro w5 hw5
   have HK:=uy (keeps_of_below hw5)
   have HB5:=uy (bwu.trans ((hBW.trans (hw5.mono hBW.size)).mono (by omega)))
   have v0:=(hw5.cell (p:=⟨w.heap.size+1,0,none⟩) hNW).trans hcr
   have v1:=(hw5.frozen (p:=⟨w.heap.size+1,0,none⟩) hNW).trans hfr
   clear hw5
   gi_wp2
   exact⟨(uh HK).trans (KeepsOthers.setCell _ _ _),⟨rfl,⟨⟨i,hi,ht⟩,by simp,uh HNO⟩,World.cell?_setCell_same' _ _ _ (by rw[v0];rfl)⟩,(uh HB5).setCell (p:=⟨w.heap.size+1,0,none⟩) (by show w.heap.size<=w.heap.size+1;omega) _⟩
  ·have HO:Hid (ok5 d H i):=uy ((uh HOK).2 ⟨rfl,hnx⟩)
   have HP:=uy hp
   have HNX:=uy hnx
   clear hp hnx
   gi_wp2
   refine wpIn_region_quiet (C:=fun w'=>Below W.heap.size W w') (by kernel_rfl) (by kernel_rfl) (by kernel_rfl) ((Below.refl _ _).drew) ?_
   show wpQuiet _ _ _ _ [_,_,_,_,_,_,_,_,_,_,_,_,_,_,_,_,_,_,_,_,_,_,_,_,_,_,_,_] _
   (refine wpQuiet_step (fun K hK=>?_);go_simp;refine Exists.intro ?_ (And.intro (fun w' hw'=>?_) (hK _ ?_));rotate_left;obtain⟨hc',hf'⟩:=bcell hw';go_simp;first|rfl|exact⟨rfl,rfl⟩|exact⟨rfl⟩;clear hK K)
   iterate 3 (refine wpQuiet_step (fun K hK=>?_);go_simp;refine⟨_,fun w' hw'=>rfl,hK _ ?_⟩;clear hK K)
   (refine wpQuiet_step (fun K hK=>?_);go_simp;refine Exists.intro ?_ (And.intro (fun w' hw'=>?_) (hK _ ?_));rotate_left;obtain⟨hc',hf'⟩:=bcell hw';go_simp;first|rfl|exact⟨rfl,rfl⟩|exact⟨rfl⟩;clear hK K)
   (refine wpQuiet_step (fun K hK=>?_);go_simp;refine⟨_,fun w' hw'=>rfl,hK _ ?_⟩;clear hK K)
   (refine wpQuiet_step (fun K hK=>?_);go_simp;refine Exists.intro ?_ (And.intro (fun w' hw'=>?_) (hK _ ?_));rotate_left;obtain⟨hc',hf'⟩:=bcell hw';go_simp;first|rfl|exact⟨rfl,rfl⟩|exact⟨rfl⟩;clear hK K)
   iterate 2 (refine wpQuiet_step (fun K hK=>?_);go_simp;refine⟨_,fun w' hw'=>rfl,hK _ ?_⟩;clear hK K)
   (refine wpQuiet_step (fun K hK=>?_);go_simp;refine Exists.intro ?_ (And.intro (fun w' hw'=>?_) (hK _ ?_));rotate_left;obtain⟨hc',hf'⟩:=bcell hw';go_simp;first|rfl|exact⟨rfl,rfl⟩|exact⟨rfl⟩;clear hK K)
   iterate 4 (refine wpQuiet_step (fun K hK=>?_);go_simp;refine⟨_,fun w' hw'=>rfl,hK _ ?_⟩;clear hK K)
   (refine wpQuiet_step (fun K hK=>?_);go_simp;refine Exists.intro ?_ (And.intro (fun w' hw'=>?_) (hK _ ?_));rotate_left;obtain⟨hc',hf'⟩:=bcell hw';go_simp;first|rfl|exact⟨rfl,rfl⟩|exact⟨rfl⟩;clear hK K)
   refine wpQuiet_step (fun K hK=>?_)
   go_simp
   apply Exists.intro
   refine And.intro (fun w' hw'=>?_) (hK _ ?_)
   ·refine(((uh HCALL) _ (uh HTl _ _ (uh HTW) hw') ((uh HBk).below hw'))).mono ?_
    rintro e w'' ⟨rfl,hb⟩
    exact⟨rfl,hw'.trans (hb.mono hw'.size)⟩
   clear hK K
   (refine wpQuiet_step (fun K hK=>?_);go_simp;refine⟨_,fun w' hw'=>rfl,hK _ ?_⟩;clear hK K)
   refine wpQuiet_step (fun K hK=>?_)
   go_simp
   refine⟨.bool false,fun w' hw'=>?_,hK _ ?_⟩
   ·rw[neq_ent ((uh HBk).below hw') hp1 hp2 hi]
    simp
   clear hK K
   iterate 6 (refine wpQuiet_step (fun K hK=>?_);go_simp;refine⟨_,fun w' hw'=>rfl,hK _ ?_⟩;clear hK K)
   iterate 2 (refine wpQuiet_step (fun K hK=>?_);go_simp;refine Exists.intro ?_ (And.intro (fun w' hw'=>?_) (hK _ ?_));rotate_left;obtain⟨hc',hf'⟩:=bcell hw';go_simp;first|rfl|exact⟨rfl,rfl⟩|exact⟨rfl⟩;clear hK K)
   refine wpQuiet_step (fun K hK=>?_)
   go_simp
   refine⟨.bool false,fun w' hw'=>?_,hK _ ?_⟩
   ·have hno:=uh HNX
    by_cases q1:(d.L i).key.kind=2
    ·have q2:¬(d.L i).key.num=(d.m:Int)+1:=fun h=>hno ⟨q1,h⟩
     simp only[q1,q2,if_true,if_false]
     exact⟨trivial,trivial⟩
    ·simp only[q1,if_false]
     exact⟨trivial,trivial⟩
   clear hK K
   (refine wpQuiet_step (fun K hK=>?_);go_simp;refine⟨_,fun w' hw'=>rfl,hK _ ?_⟩;clear hK K)
   refine wpQuiet_nil ?_
   intro w5 hw5
   have HK:=uy (keeps_of_below hw5)
   have HB5:=uy hw5
   clear hw5
   gi_wp2
   exact⟨uh HK,(uh HB5).mono hBW.size,fun y hy=>(List.mem_append.1 hy).elim (uh HP y) (fun e=>by simp at e;subst e;exact uh HO),hBW.trans ((uh HB5).mono hBW.size)⟩
 case done=>
  rintro D ys W hD hlv ⟨hp,hBW⟩ hK
  have HR:Hid (tells (D5 d H)=true):=uy (tells_yes (fun i hi ht=>by
   have hm:i∈ys.map (·.1):=by rw[show ys.map (·.1)=livL d d.n from hlv];exact mem_livL.2 ⟨hi,ht⟩
   obtain⟨y,hy,rfl⟩:=List.mem_map.1 hm
   exact hp y hy ht))
  have hcr:=(hBW.cell (p:=⟨w.heap.size+1,0,none⟩) hNu).trans ru
  have hfr:=(hBW.frozen (p:=⟨w.heap.size+1,0,none⟩) hNu).trans fu
  clear hlv hp
  gi_wp2
  have hK':=(KeepsOthers.setCell W ⟨w.heap.size+1,0,none⟩ (.bool true)).same D _ hK rfl
  refine⟨by simp,.inl ⟨_,_,rfl,run_takeDeferred hK',?_⟩⟩
  have hc5:=cell_kept (World.cell?_setCell_same' W ⟨w.heap.size+1,0,none⟩ (.bool true) (by rw[hcr];rfl)) (grownBy_putObj' _ D (.deferred none)) (fun r e=>by cases e;exact⟨_,hK',rfl⟩)
  refine⟨.bool true,?_,by rw[uh HR],((bwu.trans (hBW.mono (by omega))).setCell (p:=⟨w.heap.size+1,0,none⟩) (by show w.heap.size<=w.heap.size+1;omega) _).trans (belowK_b (w:=w) (Nat.le_refl _) _ D _ _ (by omega) hK' rfl rfl)⟩
  simp[results,Tryz.f246,go_sem,hc5]
 case stop=>
  rintro D c pre W hD hpre ⟨⟨rfl,⟨y,hy,hno⟩,hcr⟩,hBW⟩ hK
  have HR:Hid (tells (D5 d H)=false):=uy (not_D5 y.2.1 hno)
  clear hpre hno hy
  gi_wp2
  refine⟨by simp,.inl ⟨_,_,rfl,run_takeDeferred hK,?_⟩⟩
  have hc5:=cell_kept hcr (grownBy_putObj' _ D (.deferred none)) (fun r e=>by cases e;exact⟨_,hK,rfl⟩)
  refine⟨.bool false,?_,by rw[uh HR],hBW.trans (belowK_b (w:=w) (Nat.le_refl _) W D _ _ (by omega) hK rfl rfl)⟩
  simp[results,Tryz.f246,go_sem,hc5]
end
end Go.Proofs.YtgmlkfgfjjggnaaGreatDoor
