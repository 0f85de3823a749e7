import Derived.Test.YtgmlkfgfjjggnaaGreatDoorSAB
import Derived.Test.YtgmlkfgfjjggnaaGreatDoorSAD
set_option linter.unusedVariables false
set_option linter.unusedSimpArgs false
set_option maxHeartbeats 40000000
set_option maxRecDepth 100000
namespace Go.Proofs.YtgmlkfgfjjggnaaGreatDoor
section
open Go.RowKit
attribute [local go_sem] run_store_float run_equalIn_float
def livingK(d:Dc)(x:Int):Prop:=1<=x/\x<=d.n/\(d.at x).turn≠0
theorem isLiving_any(la:Option Addr)(lc:Nat)(ia:Option Addr)(ic:Nat)(xa:Option Addr)(xc:Nat)(d:Dc)(x:Int)(w:World)(hD:DAt w la ia xa d)(hS:Small d):
  Calls Tryz.prog 266 #[Dv la lc ia ic xa xc d,.int .i64 x] w fun e w'=>e=.returned (.bool (tells (livingK d x)))/\Below w.heap.size w w':=by
 have hn:=hS.n
 by_cases h1:1<=x
 case neg=>
  have HT:=uy (tells_no (p:=livingK d x) (fun h=>h1 h.1))
  have h1':decide (1<=x)=false:=by simp[h1]
  clear h1 hD hS
  go_enter Tryz.func266,Tryz.ntmps266
  go_wp2
  go_ret
  exact⟨by rw[uh HT];rfl,(Below.refl _ _).alloc (Nat.le_refl _) _⟩
 by_cases h2:x<=(d.n:Int)
 case neg=>
  have HT:=uy (tells_no (p:=livingK d x) (fun h=>h2 h.2.1))
  clear hD hS
  go_enter Tryz.func266,Tryz.ntmps266
  go_wp2
  go_ret
  exact⟨by rw[uh HT];rfl,(Below.refl _ _).alloc (Nat.le_refl _) _⟩
 obtain⟨q,hq⟩:∃q:Nat,x=(q:Int)+1:=⟨(x-1).toNat,by omega⟩
 subst hq
 have hqn:q<d.n:=by omega
 obtain⟨b,off,rfl,hbl,hcs⟩:=hD.log.resolve_left (by omega)
 have e0:=(hcs q hqn).tn
 have hA:d.at ((q:Int)+1)=d.L q:=by unfold Dc.at;congr 1;omega
 by_cases ht:(d.L q).turn=0
 ·have HT:=uy (tells_no (p:=livingK d ((q:Int)+1)) (fun h=>h.2.2 (by rw[hA];exact ht)))
  rw[ht]at e0
  clear hD hS hcs hA ht
  go_enter Tryz.func266,Tryz.ntmps266
  go_wp2
  go_ret
  exact⟨by rw[uh HT];rfl,(Below.refl _ _).alloc (Nat.le_refl _) _⟩
 ·have HT:=uy (tells_yes (p:=livingK d ((q:Int)+1)) ⟨h1,h2,by rw[hA];exact ht⟩)
  have ht':((d.L q).turn !=0)=true:=by simp[ht]
  clear hD hS hcs hA ht
  go_enter Tryz.func266,Tryz.ntmps266
  go_wp2
  go_ret
  exact⟨by rw[uh HT];simp,(Below.refl _ _).alloc (Nat.le_refl _) _⟩
theorem hasPlace_any(v:Vl)(m:Nat)(w:World)(hm:m<=4194304):
  Calls Tryz.prog 268 #[V v.kind v.num v.flt v.str v.ref,.int .i64 (m:Int)] w fun e w'=>e=.returned (.bool (tells (smallK m v)))/\Below w.heap.size w w':=by
 by_cases h1:v.kind=2
 case neg=>
  have HT:=uy (tells_no (p:=smallK m v) (fun h=>h1 h.1))
  have h1':(v.kind==2)=false:=by simp[h1]
  clear h1
  go_enter Tryz.func268,Tryz.ntmps268
  go_wp2
  go_ret
  exact⟨by rw[uh HT];rfl,(Below.refl _ _).alloc (Nat.le_refl _) _⟩
 have h1':(v.kind==2)=true:=by simp[h1]
 by_cases h2:1<=v.num
 case neg=>
  have HT:=uy (tells_no (p:=smallK m v) (fun h=>h2 h.2.1))
  have h2':decide (1<=v.num)=false:=by simp[h2]
  clear h1 h2
  go_enter Tryz.func268,Tryz.ntmps268
  go_wp2
  go_ret
  exact⟨by rw[uh HT];rfl,(Below.refl _ _).alloc (Nat.le_refl _) _⟩
 have h2':decide (1<=v.num)=true:=by simp[h2]
 by_cases h3:v.num<=(m:Int)
 ·have HT:=uy (tells_yes (p:=smallK m v) ⟨h1,h2,h3⟩)
  have h3':decide (v.num<=(m:Int))=true:=by simp[h3]
  clear h1
  go_enter Tryz.func268,Tryz.ntmps268
  go_wp2
  go_ret
  exact⟨by rw[uh HT];simp,(Below.refl _ _).alloc (Nat.le_refl _) _⟩
 ·have HT:=uy (tells_no (p:=smallK m v) (fun h=>h3 h.2.2))
  have h3':decide (v.num<=(m:Int))=false:=by simp[h3]
  clear h1
  go_enter Tryz.func268,Tryz.ntmps268
  go_wp2
  go_ret
  exact⟨by rw[uh HT];simp,(Below.refl _ _).alloc (Nat.le_refl _) _⟩
theorem int_key{v:Vl}(h:keyB v=true)(hk:v.kind=2):(FloatKind.f64.format.order v.flt 0==some .eq)=true/\v.str.toList.isEmpty=true/\v.ref=0:=by
 have hv:v.ok=true:=by unfold keyB at h;simp only[Bool.and_eq_true]at h;exact h.1.1
 unfold Vl.ok validB at hv
 simp only[hk]at hv
 simp[fz]at hv
 exact⟨by simp[hv],by simp[hv],hv.2⟩
theorem intsHold_any(la:Option Addr)(lc:Nat)(ia:Option Addr)(ic:Nat)(xa:Option Addr)(xc:Nat)(d:Dc)(w:World)(hD:DAt w la ia xa d)(hS:Small d)(h2:D2 d):
  Calls Tryz.prog 244 #[Dv la lc ia ic xa xc d] w fun e w'=>e=.returned (.bool (tells (D3 d)))/\Below w.heap.size w w':=by
 have hn:=hS.n
 have hm:=hS.m
 have HD:=uy hD
 have HS:=uy hS
 have H2:=uy h2
 clear hD hS h2
 go_enter Tryz.func244,Tryz.ntmps244
 go_wp2
 go_loopw [10] (fun i wr=>∃(k:Nat),k<=d.m/\i=.int .i64 k/\(∀j,j<k->okInt d j)/\w.heap.size<wr.heap.size/\wr.cell? ⟨w.heap.size,0,none⟩=some (.slice la d.n lc)/\wr.cell? ⟨w.heap.size,1,none⟩=some (.slice ia d.m ic)/\wr.cell? ⟨w.heap.size,2,none⟩=some (.slice xa d.x xc)/\wr.cell? ⟨w.heap.size,3,none⟩=some (.int .i64 d.used)/\wr.cell? ⟨w.heap.size,4,none⟩=some (.int .i64 d.live)/\wr.cell? ⟨w.heap.size,5,none⟩=some (.int .i64 d.turns)/\Below w.heap.size w wr) (fun i _=>d.m-(intOf i).toNat)
 case atStart=>exact⟨0,by omega,rfl,fun j hj=>by omega,by simp,by simp[go_sem],by simp[go_sem],by simp[go_sem],by simp[go_sem],by simp[go_sem],by simp[go_sem],(Below.refl _ _).alloc (Nat.le_refl _) _⟩
 case round=>
  obtain⟨k,hk,rfl,hall,hwz,c0,c1,c2,c3,c4,c5,hb⟩:=hrel
  have HALL:=uy hall
  clear hall
  by_cases hkn:k<d.m
  case neg=>
   have hkn':k=d.m:=by omega
   subst hkn'
   by_cases h0:d.m=0
   ·have HT:=uy (tells_yes (p:=D3 d) ⟨uh HALL,.inl h0⟩)
    have h0':((d.m:Int)==0)=true:=by simp[h0]
    have HB:=uy hb
    clear hb h0
    go_wp2
    go_ret
    exact⟨by rw[uh HT];rfl,uh HB⟩
   have h0':((d.m:Int)==0)=false:=by simp;omega
   obtain⟨q,hq⟩:∃q,d.m=q+1:=⟨d.m-1,by omega⟩
   obtain⟨b,off,rfl,hbl,hcs⟩:=(uh HD).ints.resolve_left h0
   have e0:=(hb.cell (p:=⟨b,off+q,none⟩) hbl).trans (hcs q (by omega))
   have hq1:IntKind.i64.wrap ((d.m:Int)-1)=(q:Int):=by rw[IntKind.wrap_i64];omega
   have hqm:q<d.m:=by omega
   have HB:=uy hb
   clear hcs hb
   have hpos:0<d.I q↔d.I q≠0:=by
    rcases uh HALL q hqm with h|h
    ·omega
    ·omega
   by_cases hp:d.I q=0
   ·have HT:=uy (tells_no (p:=D3 d) (fun h=>by
     rcases h.2 with h|h
     ·exact h0 h
     ·rw[hq]at h;exact(hpos.1 h) hp))
    have hd:(d.I q !=0)=false:=by simp[hp]
    have HQ:=uy hq
    clear hp hq h0 hpos
    go_wp2
    go_ret
    exact⟨by rw[uh HT];simp,uh HB⟩
   ·have HT:=uy (tells_yes (p:=D3 d) ⟨uh HALL,.inr (by rw[hq];exact hpos.2 hp)⟩)
    have hd:(d.I q !=0)=true:=by simp[hp]
    have HQ:=uy hq
    clear hp hq h0 hpos
    go_wp2
    go_ret
    exact⟨by rw[uh HT];simp,uh HB⟩
  obtain⟨b,off,hia,hbl,hcs⟩:=(uh HD).ints.resolve_left (by omega)
  subst hia
  have e0:=(hb.cell (p:=⟨b,off+k,none⟩) hbl).trans (hcs k hkn)
  have HB:=uy hb
  have HDr:=uy ((uh HD).below hb)
  have hbsz:=hb.size
  clear hcs hb
  by_cases h0:d.I k=0
  ·have HO:Hid (okInt d k):=uy (.inl h0)
   rw[h0]at e0
   clear h0
   go_wp2
   go_roundw
   case rel=>exact⟨k+1,by omega,by go_num,fun j hj=>(by by_cases e:j=k;exact e▸uh HO;exact uh HALL j (by omega)),hwz,c0,c1,c2,c3,c4,c5,uh HB⟩
   case measure=>simp[intOf];omega
  have h0':(d.I k==0)=false:=by simp[h0]
  by_cases hl:livingK d (d.I k)
  case neg=>
   have HT:=uy (not_D3 hkn (fun h=>by rcases h with h|h;exact h0 h;exact hl ⟨by omega,h.2.1,h.2.2.1⟩))
   have HL:=uy (tells_no hl)
   clear hl h0
   go_wp2_with fail
   refine wp_region_quiet (C:=fun w'=>Below wr.heap.size wr w') (by kernel_rfl) (by kernel_rfl) ((Below.refl _ _).drew) ?_
   show wpQuiet _ _ _ _ [_,_,_,_,_,_,_,_,_,_,_,_,_,_,_,_,_,_] _
   (refine wpQuiet_step (fun K hK=>?_);go_simp;refine Exists.intro ?_ (And.intro (fun w' hw'=>?_) (hK _ ?_));rotate_left;obtain⟨hc',hf'⟩:=bcell hw';go_simp;first|rfl|exact⟨rfl,rfl⟩|exact⟨rfl⟩;clear hK K)
   (refine wpQuiet_step (fun K hK=>?_);go_simp;refine⟨_,fun w' hw'=>rfl,hK _ ?_⟩;clear hK K)
   refine wpQuiet_step (fun K hK=>?_)
   go_simp
   apply Exists.intro
   refine And.intro (fun w' hw'=>?_) (hK _ ?_)
   ·refine(((uh HL)▸isLiving_any la lc (some ⟨b,off,none⟩) ic xa xc d (d.I k) _ ((uh HDr).below hw') (uh HS))).mono ?_
    rintro e w'' ⟨rfl,hb⟩
    exact⟨rfl,hw'.trans (hb.mono hw'.size)⟩
   clear hK K
   iterate 2 (refine wpQuiet_step (fun K hK=>?_);go_simp;refine⟨_,fun w' hw'=>rfl,hK _ ?_⟩;clear hK K)
   go_big_quiet_step (fail)
   go_big_quiet_step (fail)
   go_big_quiet_step (fail)
   go_big_quiet_step (fail)
   go_big_quiet_step (fail)
   go_big_quiet_step (fail)
   go_big_quiet_step (fail)
   go_big_quiet_step (fail)
   go_big_quiet_step (fail)
   go_big_quiet_step (fail)
   go_big_quiet_step (fail)
   go_big_quiet_step (fail)
   (refine wpQuiet_step (fun K hK=>?_);go_simp;refine⟨_,fun w' hw'=>rfl,hK _ ?_⟩;clear hK K)
   refine wpQuiet_nil ?_
   intro w2 hw2
   have HB2:=uy ((uh HB).trans (hw2.mono hbsz))
   clear hw2
   go_wp2
   go_ret
   exact⟨by rw[uh HT];rfl,uh HB2⟩
  have HL:=uy (tells_yes hl)
  obtain⟨q,hq⟩:∃q:Nat,d.I k=(q:Int)+1:=⟨(d.I k-1).toNat,by have:=hl.1;omega⟩
  have hqn:q<d.n:=by have:=hl.2.1;omega
  have hA:d.at (d.I k)=d.L q:=by unfold Dc.at;rw[hq];congr 1;omega
  have htq:(d.L q).turn≠0:=hA▸hl.2.2
  have hkey:=((uh H2).pos hqn htq).2
  obtain⟨lb,lo,hla,hll,hls⟩:=(uh HD).log.resolve_left (by omega)
  subst hla
  obtain⟨e1,e2,e3,e4,e5,_,_,_,_,_,_⟩:=(hls q hqn).keep (fun q=>(uh HB).cell (p:=⟨lb,q,none⟩) hll)
  have hlw:lb<wr.heap.size:=Nat.lt_of_lt_of_le hll hbsz
  have HOI:Hid (okInt d k↔(d.L q).key.kind=2/\(d.L q).key.num=(k:Int)+1):=uy ⟨fun h=>by
    rcases h with h|h
    ·omega
    ·rw[hA]at h;exact h.2.2.2,fun h=>.inr ⟨by omega,by omega,by rw[hA];exact htq,by rw[hA];exact h.1,by rw[hA];exact h.2⟩⟩
  rw[hq]at e0 h0' HL
  have hwq:IntKind.i64.wrap (q:Int)=q:=by rw[IntKind.wrap_i64];omega
  have hwk:IntKind.i64.wrap ((k:Int)+1)=(k:Int)+1:=by rw[IntKind.wrap_i64];omega
  have HQ:=uy hq
  have HKEY:=uy hkey
  have HTQ:=uy htq
  clear hls hl h0 hq hA hkey htq
  by_cases hk2:(d.L q).key.kind=2/\(d.L q).key.num=(k:Int)+1
  ·obtain⟨k1,k2⟩:=hk2
   have HO:Hid (okInt d k):=uy ((uh HOI).2 ⟨k1,k2⟩)
   obtain⟨f1,f2,f3⟩:=int_key (uh HKEY) k1
   rw[k1]at e1
   rw[k2]at e2
   rw[f3]at e5
   clear k1 k2 f3
   go_wp2_with fail
   refine wp_region_quiet (C:=fun w'=>Below wr.heap.size wr w') (by kernel_rfl) (by kernel_rfl) ((Below.refl _ _).drew) ?_
   show wpQuiet _ _ _ _ [_,_,_,_,_,_,_,_,_,_,_,_,_,_,_,_,_,_] _
   (refine wpQuiet_step (fun K hK=>?_);go_simp;refine Exists.intro ?_ (And.intro (fun w' hw'=>?_) (hK _ ?_));rotate_left;obtain⟨hc',hf'⟩:=bcell hw';go_simp;first|rfl|exact⟨rfl,rfl⟩|exact⟨rfl⟩;clear hK K)
   (refine wpQuiet_step (fun K hK=>?_);go_simp;refine⟨_,fun w' hw'=>rfl,hK _ ?_⟩;clear hK K)
   refine wpQuiet_step (fun K hK=>?_)
   go_simp
   apply Exists.intro
   refine And.intro (fun w' hw'=>?_) (hK _ ?_)
   ·refine(((uh HL)▸isLiving_any (some ⟨lb,lo,none⟩) lc (some ⟨b,off,none⟩) ic xa xc d ((q:Int)+1) _ ((uh HDr).below hw') (uh HS))).mono ?_
    rintro e w'' ⟨rfl,hb⟩
    exact⟨rfl,hw'.trans (hb.mono hw'.size)⟩
   clear hK K
   iterate 4 (refine wpQuiet_step (fun K hK=>?_);go_simp;refine⟨_,fun w' hw'=>rfl,hK _ ?_⟩;clear hK K)
   (refine wpQuiet_step (fun K hK=>?_);go_simp;refine Exists.intro ?_ (And.intro (fun w' hw'=>?_) (hK _ ?_));rotate_left;obtain⟨hc',hf'⟩:=bcell hw';go_simp;first|rfl|exact⟨rfl,rfl⟩|exact⟨rfl⟩;clear hK K)
   iterate 4 (refine wpQuiet_step (fun K hK=>?_);go_simp;refine⟨_,fun w' hw'=>rfl,hK _ ?_⟩;clear hK K)
   (refine wpQuiet_step (fun K hK=>?_);go_simp;refine Exists.intro ?_ (And.intro (fun w' hw'=>?_) (hK _ ?_));rotate_left;obtain⟨hc',hf'⟩:=bcell hw';go_simp;first|rfl|exact⟨rfl,rfl⟩|exact⟨rfl⟩;clear hK K)
   iterate 2 (refine wpQuiet_step (fun K hK=>?_);go_simp;refine⟨_,fun w' hw'=>rfl,hK _ ?_⟩;clear hK K)
   refine wpQuiet_step (fun K hK=>?_)
   go_simp
   apply Exists.intro
   refine And.intro (fun w' hw'=>?_) (hK _ ?_)
   ·refine(intValue_any ((k:Int)+1) _).mono ?_
    rintro e w'' ⟨rfl,hb⟩
    exact⟨rfl,hw'.trans (hb.mono hw'.size)⟩
   clear hK K
   iterate 2 (refine wpQuiet_step (fun K hK=>?_);go_simp;refine⟨_,fun w' hw'=>rfl,hK _ ?_⟩;clear hK K)
   refine wpQuiet_nil ?_
   intro w2 hw2
   have HB2:=uy ((uh HB).trans (hw2.mono hbsz))
   have hsz2:w.heap.size<w2.heap.size:=Nat.lt_of_lt_of_le hwz hw2.size
   have g0:=(hw2.cell (p:=⟨w.heap.size,0,none⟩) hwz).trans c0
   have g1:=(hw2.cell (p:=⟨w.heap.size,1,none⟩) hwz).trans c1
   have g2:=(hw2.cell (p:=⟨w.heap.size,2,none⟩) hwz).trans c2
   have g3:=(hw2.cell (p:=⟨w.heap.size,3,none⟩) hwz).trans c3
   have g4:=(hw2.cell (p:=⟨w.heap.size,4,none⟩) hwz).trans c4
   have g5:=(hw2.cell (p:=⟨w.heap.size,5,none⟩) hwz).trans c5
   clear hw2 c0 c1 c2 c3 c4 c5
   go_wp2
   go_roundw
   case rel=>exact⟨k+1,by omega,by go_num,fun j hj=>(by by_cases e:j=k;exact e▸uh HO;exact uh HALL j (by omega)),hsz2,g0,g1,g2,g3,g4,g5,uh HB2⟩
   case measure=>simp[intOf];omega
  ·have HT:=uy (not_D3 hkn (fun h=>hk2 ((uh HOI).1 h)))
   by_cases k1:(d.L q).key.kind=2
   ·obtain⟨f1,f2,f3⟩:=int_key (uh HKEY) k1
    have k2:((d.L q).key.num==(k:Int)+1)=false:=by simp;exact fun h=>hk2 ⟨k1,h⟩
    rw[k1]at e1
    rw[f3]at e5
    clear k1 hk2 f3
    go_wp2_with fail
    refine wp_region_quiet (C:=fun w'=>Below wr.heap.size wr w') (by kernel_rfl) (by kernel_rfl) ((Below.refl _ _).drew) ?_
    show wpQuiet _ _ _ _ [_,_,_,_,_,_,_,_,_,_,_,_,_,_,_,_,_,_] _
    (refine wpQuiet_step (fun K hK=>?_);go_simp;refine Exists.intro ?_ (And.intro (fun w' hw'=>?_) (hK _ ?_));rotate_left;obtain⟨hc',hf'⟩:=bcell hw';go_simp;first|rfl|exact⟨rfl,rfl⟩|exact⟨rfl⟩;clear hK K)
    (refine wpQuiet_step (fun K hK=>?_);go_simp;refine⟨_,fun w' hw'=>rfl,hK _ ?_⟩;clear hK K)
    refine wpQuiet_step (fun K hK=>?_)
    go_simp
    apply Exists.intro
    refine And.intro (fun w' hw'=>?_) (hK _ ?_)
    ·refine(((uh HL)▸isLiving_any (some ⟨lb,lo,none⟩) lc (some ⟨b,off,none⟩) ic xa xc d ((q:Int)+1) _ ((uh HDr).below hw') (uh HS))).mono ?_
     rintro e w'' ⟨rfl,hb⟩
     exact⟨rfl,hw'.trans (hb.mono hw'.size)⟩
    clear hK K
    iterate 4 (refine wpQuiet_step (fun K hK=>?_);go_simp;refine⟨_,fun w' hw'=>rfl,hK _ ?_⟩;clear hK K)
    (refine wpQuiet_step (fun K hK=>?_);go_simp;refine Exists.intro ?_ (And.intro (fun w' hw'=>?_) (hK _ ?_));rotate_left;obtain⟨hc',hf'⟩:=bcell hw';go_simp;first|rfl|exact⟨rfl,rfl⟩|exact⟨rfl⟩;clear hK K)
    iterate 4 (refine wpQuiet_step (fun K hK=>?_);go_simp;refine⟨_,fun w' hw'=>rfl,hK _ ?_⟩;clear hK K)
    (refine wpQuiet_step (fun K hK=>?_);go_simp;refine Exists.intro ?_ (And.intro (fun w' hw'=>?_) (hK _ ?_));rotate_left;obtain⟨hc',hf'⟩:=bcell hw';go_simp;first|rfl|exact⟨rfl,rfl⟩|exact⟨rfl⟩;clear hK K)
    iterate 2 (refine wpQuiet_step (fun K hK=>?_);go_simp;refine⟨_,fun w' hw'=>rfl,hK _ ?_⟩;clear hK K)
    refine wpQuiet_step (fun K hK=>?_)
    go_simp
    apply Exists.intro
    refine And.intro (fun w' hw'=>?_) (hK _ ?_)
    ·refine(intValue_any ((k:Int)+1) _).mono ?_
     rintro e w'' ⟨rfl,hb⟩
     exact⟨rfl,hw'.trans (hb.mono hw'.size)⟩
    clear hK K
    iterate 2 (refine wpQuiet_step (fun K hK=>?_);go_simp;refine⟨_,fun w' hw'=>rfl,hK _ ?_⟩;clear hK K)
    refine wpQuiet_nil ?_
    intro w2 hw2
    have HB2:=uy ((uh HB).trans (hw2.mono hbsz))
    clear hw2
    go_wp2
    go_ret
    exact⟨by rw[uh HT];rfl,uh HB2⟩
   ·have k1':((d.L q).key.kind==2)=false:=by simp[k1]
    clear k1 hk2
    go_wp2_with fail
    refine wp_region_quiet (C:=fun w'=>Below wr.heap.size wr w') (by kernel_rfl) (by kernel_rfl) ((Below.refl _ _).drew) ?_
    show wpQuiet _ _ _ _ [_,_,_,_,_,_,_,_,_,_,_,_,_,_,_,_,_,_] _
    (refine wpQuiet_step (fun K hK=>?_);go_simp;refine Exists.intro ?_ (And.intro (fun w' hw'=>?_) (hK _ ?_));rotate_left;obtain⟨hc',hf'⟩:=bcell hw';go_simp;first|rfl|exact⟨rfl,rfl⟩|exact⟨rfl⟩;clear hK K)
    (refine wpQuiet_step (fun K hK=>?_);go_simp;refine⟨_,fun w' hw'=>rfl,hK _ ?_⟩;clear hK K)
    refine wpQuiet_step (fun K hK=>?_)
    go_simp
    apply Exists.intro
    refine And.intro (fun w' hw'=>?_) (hK _ ?_)
    ·refine(((uh HL)▸isLiving_any (some ⟨lb,lo,none⟩) lc (some ⟨b,off,none⟩) ic xa xc d ((q:Int)+1) _ ((uh HDr).below hw') (uh HS))).mono ?_
     rintro e w'' ⟨rfl,hb⟩
     exact⟨rfl,hw'.trans (hb.mono hw'.size)⟩
    clear hK K
    iterate 4 (refine wpQuiet_step (fun K hK=>?_);go_simp;refine⟨_,fun w' hw'=>rfl,hK _ ?_⟩;clear hK K)
    (refine wpQuiet_step (fun K hK=>?_);go_simp;refine Exists.intro ?_ (And.intro (fun w' hw'=>?_) (hK _ ?_));rotate_left;obtain⟨hc',hf'⟩:=bcell hw';go_simp;first|rfl|exact⟨rfl,rfl⟩|exact⟨rfl⟩;clear hK K)
    iterate 4 (refine wpQuiet_step (fun K hK=>?_);go_simp;refine⟨_,fun w' hw'=>rfl,hK _ ?_⟩;clear hK K)
    (refine wpQuiet_step (fun K hK=>?_);go_simp;refine Exists.intro ?_ (And.intro (fun w' hw'=>?_) (hK _ ?_));rotate_left;obtain⟨hc',hf'⟩:=bcell hw';go_simp;first|rfl|exact⟨rfl,rfl⟩|exact⟨rfl⟩;clear hK K)
    iterate 2 (refine wpQuiet_step (fun K hK=>?_);go_simp;refine⟨_,fun w' hw'=>rfl,hK _ ?_⟩;clear hK K)
    refine wpQuiet_step (fun K hK=>?_)
    go_simp
    apply Exists.intro
    refine And.intro (fun w' hw'=>?_) (hK _ ?_)
    ·refine(intValue_any ((k:Int)+1) _).mono ?_
     rintro e w'' ⟨rfl,hb⟩
     exact⟨rfl,hw'.trans (hb.mono hw'.size)⟩
    clear hK K
    iterate 2 (refine wpQuiet_step (fun K hK=>?_);go_simp;refine⟨_,fun w' hw'=>rfl,hK _ ?_⟩;clear hK K)
    refine wpQuiet_nil ?_
    intro w2 hw2
    have HB2:=uy ((uh HB).trans (hw2.mono hbsz))
    clear hw2
    go_wp2
    go_ret
    exact⟨by rw[uh HT];rfl,uh HB2⟩
end
section
open Go.RowKit Go.Shelf
attribute [local go_sem] run_store_float run_equalIn_float Oper.semAt_some
def placeP(E:Nat->Nat)(p:Int):Option Addr:=if 0<=p then some ⟨E p.toNat,0,none⟩else none
theorem place_range{d:Dc}(h3:D3 d)(h4:D4 d)(v:Vl)(h:Nat):-1<=placeI d v h/\placeI d v h<d.n:=by
 unfold placeI
 by_cases hs:smallK d.m v
 ·rw[if_pos hs]
  have:=hs.2.1
  have:=hs.2.2
  rcases h3.1 (v.num-1).toNat (by omega)with hh|hh<;>omega
 ·rw[if_neg hs]
  cases e:slotOf d v h with
  |none=>exact⟨by show(-1:Int)<=-1;omega,by show(-1:Int)<_;omega⟩
  |some s=>
   obtain⟨h1,h2⟩:=slotOf_lt e
   show -1<=d.X s-1/\d.X s-1<d.n
   rcases h4.2.1 s h1 with hh|hh|hh<;>omega
theorem bfind_any(T:World->Prop)(hTl:Lasts T)(bk R0 R1 R2:Nat)(E S:Nat->Nat)(d:Dc)(v:Vl)(h:Nat)(hh:HsI T v h)(w:World)(hT:T w)(hB:Book w bk R0 R1 R2 E S d)(hS:Small d)(h3:D3 d)(h4:D4 d):
  Calls Tryz.prog 263 #[.pointer (some ⟨bk,0,none⟩),V v.kind v.num v.flt v.str v.ref] w fun e w'=>e=.returned (.pointer (placeP E (placeI d v h)))/\Below w.heap.size w w':=by
 have hm:=hS.m
 have hx:=hS.x
 have hn:=hS.n
 obtain⟨W,hW⟩:∃W,W=w.alloc (.cells #[.int .i64 v.kind,.int .i64 v.num,.float .f64 v.flt,.string v.str,.int .i64 v.ref] 43):=⟨_,rfl⟩
 have hb0:Below w.heap.size w W:=by rw[hW];exact(Below.refl _ _).alloc (Nat.le_refl _) _
 have hBk:=hB.below hb0
 obtain⟨k1,c1⟩:=hBk.c1
 have lb:=hBk.lt
 have l1:=hBk.l1
 have hzW:w.heap.size<W.heap.size:=by rw[hW];simp
 have q0:W.cell? ⟨w.heap.size,0,none⟩=some (.int .i64 v.kind):=by rw[hW];simp[go_sem]
 have q1:W.cell? ⟨w.heap.size,1,none⟩=some (.int .i64 v.num):=by rw[hW];simp[go_sem]
 have q2:W.cell? ⟨w.heap.size,2,none⟩=some (.float .f64 v.flt):=by rw[hW];simp[go_sem]
 have q3:W.cell? ⟨w.heap.size,3,none⟩=some (.string v.str):=by rw[hW];simp[go_sem]
 have q4:W.cell? ⟨w.heap.size,4,none⟩=some (.int .i64 v.ref):=by rw[hW];simp[go_sem]
 have HB0:=uy hb0
 have HBk:=uy hBk
 have HT:=uy (hTl _ _ hT hb0)
 have HTl:=uy hTl
 have HH:=uy hh
 have HS:=uy hS
 have H3:=uy h3
 have H4:=uy h4
 clear hb0 hBk hT hh hS h3 h4 hB hTl
 go_enter Tryz.func263,Tryz.ntmps263
 go_wp2_with fail
 rw[<-hW]
 clear hW
 by_cases hs:smallK d.m v
 ·have HSM:=uy (tells_yes hs)
  obtain⟨k1,k2,k3⟩:=hs
  obtain⟨q,hq⟩:∃q:Nat,v.num=(q:Int)+1:=⟨(v.num-1).toNat,by omega⟩
  have hqm:q<d.m:=by omega
  have HR:Hid (placeI d v h=d.I q-1):=uy (by unfold placeI;rw[if_pos ⟨k1,k2,k3⟩,hq];congr 2;omega)
  have p0:=(uh HBk).r1 q hqm
  have hI:entP E (d.I q)=placeP E (d.I q-1):=by
   unfold entP placeP
   by_cases e:0<d.I q
   ·rw[if_pos e,if_pos (by omega)]
   ·rw[if_neg e,if_neg (by omega)]
  rw[hI]at p0
  have hwq:IntKind.i64.wrap (q:Int)=q:=by rw[IntKind.wrap_i64];omega
  have HQ:=uy hq
  clear k1 k2 k3 hI hq
  refine wp_region_quiet (C:=fun w'=>Below W.heap.size W w') (by kernel_rfl) (by kernel_rfl) ((Below.refl _ _).drew) ?_
  show wpQuiet _ _ _ _ [_,_,_,_,_,_,_] _
  (refine wpQuiet_step (fun K hK=>?_);go_simp;refine Exists.intro ?_ (And.intro (fun w' hw'=>?_) (hK _ ?_));rotate_left;obtain⟨hc',hf'⟩:=bcell hw';go_simp;first|rfl|exact⟨rfl,rfl⟩|exact⟨rfl⟩;clear hK K)
  iterate 3 (refine wpQuiet_step (fun K hK=>?_);go_simp;refine⟨_,fun w' hw'=>rfl,hK _ ?_⟩;clear hK K)
  (refine wpQuiet_step (fun K hK=>?_);go_simp;refine Exists.intro ?_ (And.intro (fun w' hw'=>?_) (hK _ ?_));rotate_left;obtain⟨hc',hf'⟩:=bcell hw';go_simp;first|rfl|exact⟨rfl,rfl⟩|exact⟨rfl⟩;clear hK K)
  (refine wpQuiet_step (fun K hK=>?_);go_simp;refine⟨_,fun w' hw'=>rfl,hK _ ?_⟩;clear hK K)
  refine wpQuiet_step (fun K hK=>?_)
  go_simp
  apply Exists.intro
  refine And.intro (fun w' hw'=>?_) (hK _ ?_)
  ·refine(((uh HSM)▸hasPlace_any v d.m _ hm)).mono ?_
   rintro e w'' ⟨rfl,hb⟩
   exact⟨rfl,hw'.trans (hb.mono hw'.size)⟩
  clear hK K
  refine wpQuiet_nil ?_
  intro w2 hw2
  have c1':=(hw2.cell (p:=⟨bk,1,none⟩) lb).trans c1
  have p0':=(hw2.cell (p:=⟨R1,q,none⟩) l1).trans p0
  have q1':=(hw2.cell (p:=⟨w.heap.size,1,none⟩) hzW).trans q1
  rw[uh HQ]at q1'
  have lb':=Nat.lt_of_lt_of_le lb hw2.size
  have l1':=Nat.lt_of_lt_of_le l1 hw2.size
  have hz2:=Nat.lt_of_lt_of_le hzW hw2.size
  have HB2:=uy ((uh HB0).trans (hw2.mono (uh HB0).size))
  clear hw2 c1 p0 q0 q1 q2 q3 q4
  go_wp2_with fail
  go_quiet (fail)
  go_wp2
  go_ret
  exact⟨by rw[uh HR];rfl,below_drewN' (uh HB2) _⟩
 ·have HSM:=uy (tells_no hs)
  have HR:Hid (placeI d v h=slotP d (slotOf d v h)):=uy (by unfold placeI;rw[if_neg hs])
  clear hs
  refine wp_region_quiet (C:=fun w'=>Below W.heap.size W w') (by kernel_rfl) (by kernel_rfl) ((Below.refl _ _).drew) ?_
  show wpQuiet _ _ _ _ [_,_,_,_,_,_,_] _
  (refine wpQuiet_step (fun K hK=>?_);go_simp;refine Exists.intro ?_ (And.intro (fun w' hw'=>?_) (hK _ ?_));rotate_left;obtain⟨hc',hf'⟩:=bcell hw';go_simp;first|rfl|exact⟨rfl,rfl⟩|exact⟨rfl⟩;clear hK K)
  iterate 3 (refine wpQuiet_step (fun K hK=>?_);go_simp;refine⟨_,fun w' hw'=>rfl,hK _ ?_⟩;clear hK K)
  (refine wpQuiet_step (fun K hK=>?_);go_simp;refine Exists.intro ?_ (And.intro (fun w' hw'=>?_) (hK _ ?_));rotate_left;obtain⟨hc',hf'⟩:=bcell hw';go_simp;first|rfl|exact⟨rfl,rfl⟩|exact⟨rfl⟩;clear hK K)
  (refine wpQuiet_step (fun K hK=>?_);go_simp;refine⟨_,fun w' hw'=>rfl,hK _ ?_⟩;clear hK K)
  refine wpQuiet_step (fun K hK=>?_)
  go_simp
  apply Exists.intro
  refine And.intro (fun w' hw'=>?_) (hK _ ?_)
  ·refine(((uh HSM)▸hasPlace_any v d.m _ hm)).mono ?_
   rintro e w'' ⟨rfl,hb⟩
   exact⟨rfl,hw'.trans (hb.mono hw'.size)⟩
  clear hK K
  refine wpQuiet_nil ?_
  intro w2 hw2
  have q0':=(hw2.cell (p:=⟨w.heap.size,0,none⟩) hzW).trans q0
  have q1':=(hw2.cell (p:=⟨w.heap.size,1,none⟩) hzW).trans q1
  have q2':=(hw2.cell (p:=⟨w.heap.size,2,none⟩) hzW).trans q2
  have q3':=(hw2.cell (p:=⟨w.heap.size,3,none⟩) hzW).trans q3
  have q4':=(hw2.cell (p:=⟨w.heap.size,4,none⟩) hzW).trans q4
  have hz2:=Nat.lt_of_lt_of_le hzW hw2.size
  have lb':=Nat.lt_of_lt_of_le lb hw2.size
  have HB2:=uy ((uh HB0).trans (hw2.mono (uh HB0).size))
  have HBk2:=uy ((uh HBk).below hw2)
  have HT2:=uy (uh HTl _ _ (uh HT) hw2)
  clear hw2 q0 q1 q2 q3 q4 c1
  go_wp2_with fail
  refine wp_region_quiet (C:=fun w'=>Below w2.heap.size w2 w') (by kernel_rfl) (by kernel_rfl) ((Below.refl _ _).drew) ?_
  show wpQuiet _ _ _ _ [_,_,_,_,_,_] _
  iterate 3 (refine wpQuiet_step (fun K hK=>?_);go_simp;refine⟨_,fun w' hw'=>rfl,hK _ ?_⟩;clear hK K)
  (refine wpQuiet_step (fun K hK=>?_);go_simp;refine Exists.intro ?_ (And.intro (fun w' hw'=>?_) (hK _ ?_));rotate_left;obtain⟨hc',hf'⟩:=bcell hw';go_simp;first|rfl|exact⟨rfl,rfl⟩|exact⟨rfl⟩;clear hK K)
  refine wpQuiet_step (fun K hK=>?_)
  go_simp
  apply Exists.intro
  refine And.intro (fun w' hw'=>?_) (hK _ ?_)
  ·refine((find_any T (uh HTl) bk R0 R1 R2 E S d v h (uh HH) _ (uh HTl _ _ (uh HT2) hw') ((uh HBk2).below hw') (uh HS) (uh H4))).mono ?_
   rintro e w'' ⟨rfl,hb⟩
   exact⟨rfl,hw'.trans (hb.mono hw'.size)⟩
  clear hK K
  (refine wpQuiet_step (fun K hK=>?_);go_simp;refine⟨_,fun w' hw'=>rfl,hK _ ?_⟩;clear hK K)
  refine wpQuiet_nil ?_
  intro w3 hw3
  have HB3:=uy ((uh HB2).trans (hw3.mono (uh HB2).size))
  have hBk3:=(uh HBk2).below hw3
  have c3:=hBk3.c3
  have lb3:=hBk3.lt
  have HBk3:=uy hBk3
  clear hw3 hBk3 q0' q1' q2' q3' q4' lb'
  cases hsl:slotOf d v h with
  |none=>
   have HR':Hid (placeP E (placeI d v h)=none):=uy (by rw[uh HR,hsl];rfl)
   simp only[slotI]
   go_wp2
   go_ret
   exact⟨by rw[uh HR'];rfl,uh HB3⟩
  |some s=>
   obtain⟨hsx,hsp⟩:=slotOf_lt hsl
   have hsc:=((uh HBk3).sl s hsx).1 hsp
   have p0:=(uh HBk3).r2 s hsx
   rw[show sltP S s (d.X s)=some ⟨S s,0,none⟩from if_neg (by omega)]at p0
   have p1:=hsc.pt
   have ls:=hsc.lt
   have HR':Hid (placeP E (placeI d v h)=some ⟨E (d.X s-1).toNat,0,none⟩):=uy (by
    rw[uh HR,hsl]
    show(if 0<=d.X s-1 then _ else _)=_
    rw[if_pos (by omega)]
    rfl)
   simp only[slotI]
   obtain⟨q,hq⟩:∃q,q=(d.X s-1).toNat:=⟨_,rfl⟩
   rw[<-hq]at p1 HR'
   clear hsl hsp hsc hq
   go_wp2
   go_ret
   exact⟨by rw[uh HR'];rfl,uh HB3⟩
end
section
open Go.RowKit Go.Shelf
attribute [local go_sem] run_store_float run_equalIn_float Oper.semAt_some
abbrev Liv(d:Dc):Type:={i:Nat//i<d.n/\(d.L i).turn≠0}
def livL(d:Dc)(k:Nat):List Nat:=(List.range k).filter (fun i=>(d.L i).turn !=0)
def LvAll(d:Dc)(xs:List (Liv d)):Prop:=xs.map (·.1)=livL d d.n
def LvPre(d:Dc)(xs:List (Liv d)):Prop:=xs.map (·.1)<+:livL d d.n
def LvTo(d:Dc)(k:Nat)(xs:List (Liv d)):Prop:=xs.map (·.1)=livL d k
theorem livL_dead{d:Dc}{k:Nat}(h:(d.L k).turn=0):livL d (k+1)=livL d k:=by
 unfold livL
 rw[List.range_succ,List.filter_append]
 simp[h]
theorem livL_live{d:Dc}{k:Nat}(h:(d.L k).turn≠0):livL d (k+1)=livL d k++[k]:=by
 unfold livL
 rw[List.range_succ,List.filter_append]
 simp[h]
theorem livL_le(d:Dc)(k:Nat):(livL d k).length<=k:=by
 unfold livL
 have:=List.length_filter_le (fun i=>(d.L i).turn !=0) (List.range k)
 simpa using this
theorem livL_prefix{d:Dc}{k n:Nat}(h:k<=n):livL d k<+:livL d n:=by
 obtain⟨j,rfl⟩:∃j,n=k+j:=⟨n-k,by omega⟩
 induction j with
 |zero=>exact List.prefix_refl _
 |succ j ih=>
  refine(ih (by omega)).trans ?_
  by_cases e:(d.L (k+j)).turn=0
  ·rw[show k+(j+1)=k+j+1 by omega,livL_dead e];exact List.prefix_refl _
  ·rw[show k+(j+1)=k+j+1 by omega,livL_live e];exact List.prefix_append _ _
theorem LvTo.pre{d:Dc}{k:Nat}{xs:List (Liv d)}(h:LvTo d k xs)(hk:k<=d.n):LvPre d xs:=by
 unfold LvTo at h
 unfold LvPre
 rw[h]
 exact livL_prefix hk
theorem mem_livL{d:Dc}{k i:Nat}:i∈livL d k↔i<k/\(d.L i).turn≠0:=by
 unfold livL
 simp[List.mem_filter]
theorem living_any(bk:Nat)(w:World):
  Calls Tryz.prog 214 #[.pointer (some ⟨bk,0,none⟩)] w fun e w'=>e=.returned (.func (.func 248) #[] #[.pointer (some ⟨w.heap.size,0,none⟩)])/\w'=w.alloc (.cells #[.pointer (some ⟨bk,0,none⟩)] 289):=by
 go_enter Tryz.func214,Tryz.ntmps214
 go_wp2
 go_ret
 exact⟨rfl,rfl⟩
theorem living_stops(n:Nat)(hn:1<=n)(bk R0 R1 R2 mb n0:Nat)(E S:Nat->Nat)(d:Dc)(w:World)(hB:Book w bk R0 R1 R2 E S d)(hS:Small d)(hR:R0<n0)(hE:∀i,i<d.n->E i<n0)
  (m0:w.cell? ⟨mb,0,none⟩=some (.pointer (some ⟨bk,0,none⟩))):
  SeqStopsK Fence.wide n Tryz.prog 248 #[.pointer (some ⟨mb,0,none⟩)] (fun a:Liv d=>#[.pointer (some ⟨E a.1,0,none⟩)]) (Below n0)
   (LvAll d) (LvPre d) d.n w:=fun l J Jx W hW hJ hJx hY h0=>by
 have lm:=World.block_lt_of_cell? _ _ m0
 have m0:=(hW.cell (p:=⟨mb,0,none⟩) lm).trans m0
 have hBk:=hB.below hW
 obtain⟨a0,k0,c0,ha0⟩:=hBk.c0
 have HA0:=uy ha0
 clear ha0
 have lb:=hBk.lt
 have hnn:=hS.n
 have HY:=uy hY
 have H0:=uy h0
 have HBk:=uy hBk
 have HE:=uy hE
 clear hJx hJ hY hW h0 hBk hB hS hE
 refine callsIn_of_wp Tryz.func248 rfl trivial ?_ rfl
 simp only[Tryz.ntmps248,List.size_toArray,List.length_cons,List.length_nil,Nat.reduceAdd,Nat.reduceSub,Array.replicate_succ,Array.replicate_zero,List.push_toArray,List.append_toArray,List.nil_append,List.cons_append]
 gi_wp2
 gi_loopw [10] (fun i wr=>∃(k:Nat) (pre:List (Liv d)),k<=d.n/\i=.int .i64 (k:Int)/\LvTo d k pre/\J pre wr/\Below n0 W wr) (fun i _=>d.n-(intOf i).toNat)
 case atStart=>exact⟨0,[],by omega,rfl,rfl,uh H0,Below.refl _ _⟩
 case round=>
  obtain⟨k,pre,hk,rfl,hlv,hJp,hbw⟩:=hrel
  by_cases hkn:k<d.n
  ·obtain rfl:=uh HA0 (by omega)
   have p0:=(hbw.cell (p:=⟨R0,k,none⟩) hR).trans ((uh HBk).r0 k hkn)
   have t0:=(hbw.cell (p:=⟨E k,10,none⟩) (uh HE k hkn)).trans ((uh HBk).ent k hkn).tn
   have HLV:=uy hlv
   have HBW:=uy hbw
   clear hlv hbw
   by_cases ht:(d.L k).turn=0
   ·have HN:Hid (LvTo d (k+1) pre):=uy (by unfold LvTo;rw[livL_dead ht];exact uh HLV)
    rw[ht]at t0
    clear ht
    gi_wp2
    refine⟨fun _ h=>(by cases h),?_⟩
    gi_wp2
    go_roundw
    case rel=>exact⟨k+1,pre,by omega,by go_num,uh HN,hJp,uh HBW⟩
    case measure=>simp[intOf];omega
   ·have ht':((d.L k).turn !=0)=true:=by simp[ht]
    obtain⟨fn,tmps,assign,body,hy,hRR⟩:=uh HY pre ⟨k,hkn,ht⟩ wr hJp (by
     have h1:(pre.map (·.1)).length=(livL d k).length:=congrArg List.length (uh HLV)
     rw[List.length_map]at h1
     have:=livL_le d k
     omega)
    have HN:Hid (LvTo d (k+1) (pre++[⟨k,hkn,ht⟩])):=uy (by
     unfold LvTo
     rw[livL_live ht,List.map_append,show pre.map (·.1)=livL d k from uh HLV]
     rfl)
    have HR:=uy hRR
    clear hRR hJp
    dsimp only at hy
    gi_wp2
    refine(uh HR).mono ?_
    rintro e W3 (⟨rfl,hJ3,hk3⟩|⟨rfl,hJx3⟩)
    ·clear HR hy
     gi_wp2
     go_roundw
     case rel=>exact⟨k+1,_,by omega,by go_num,uh HN,hJ3,(uh HBW).trans hk3⟩
     case measure=>simp[intOf];omega
    ·clear HR hy
     gi_wp2
     refine bodyPost_ret (results_none rfl _ _ _) rfl ?_
     exact⟨⟨_,rfl⟩,.inr ⟨_,(uh HN).pre (by omega),hJx3⟩⟩
  ·have hkn':k=d.n:=by omega
   subst hkn'
   have HS:=uy hlv
   clear hlv
   gi_wp2
   go_end0
   exact⟨⟨_,rfl⟩,.inl ⟨pre,uh HS,hJp⟩⟩
end
end Go.Proofs.YtgmlkfgfjjggnaaGreatDoor
