import Derived.Test.YtgmlkfgfjjggnaaGreatDoorSAE
import Derived.Test.YtgmlkfgfjjggnaaGreatDoorSAG
import Derived.Test.YtgmlkfgfjjggnaaGreatDoorSAF
import Derived.Test.YtgmlkfgfjjggnaaGreatDoorSAH
import Derived.Laws.BitsAllLaws
import Derived.Lib.ItoaNum
import Derived.Lib.TrailingZeros
import Derived.Test.YtgmlkfgfjjggnaaGreatDoorSAA
import Derived.Test.YtgmlkfgfjjggnaaGreatDoorChecked
import GoSem.Claim
import GoSem.ClaimJoined
import GoSem.ClaimMapViews
import Derived.JoinedTies
import Derived.KernelRfl
import Derived.RowKit
import Derived.WalkKit
import Derived.WalkSpells
import Derived.WalkLawsBesides
import Derived.Laws.Externs
import Derived.Shelf.Spec.TrailingZeros
import Derived.Shelf.Strconv.Itoa0
import Derived.Shelf.Strconv.Itoa1
import Derived.Shelf.LaysM
import Derived.Shelf.Strconv.Itoa2
import Derived.Shelf.Strconv.Itoa3
import Derived.Shelf.Strconv.Itoa4
import Derived.Test.YtgmlkfgfjjggnaaGreatDoorProg
import Derived.Lib.AppendIntMem
import Derived.WalkSmall
import Derived.Lib.ItoaLen
import Derived.Laws.IdiomStrings
set_option linter.unusedVariables false
set_option linter.unusedSimpArgs false
set_option maxHeartbeats 40000000
set_option maxRecDepth 100000
namespace Go.Proofs.YtgmlkfgfjjggnaaGreatDoor
section
open Go.RowKit
attribute [local go_sem] run_store_float run_equalIn_float
theorem size_out{d:Dc}(h:¬SizeX d.x):d.x≠0/\(d.x<8\/4000<d.x\/(8<=d.x/\d.x<=4000/\¬Pow2 d.x)):=by
 unfold SizeX at h
 by_cases h0:d.x=0
 ·exact absurd (.inl h0) h
 refine⟨h0,?_⟩
 by_cases h1:d.x<8
 ·exact .inl h1
 by_cases h2:4000<d.x
 ·exact .inr (.inl h2)
 exact .inr (.inr ⟨by omega,by omega,fun hp=>h (.inr ⟨by omega,by omega,hp⟩)⟩)
theorem indexHolds_any(la:Option Addr)(lc:Nat)(ia:Option Addr)(ic:Nat)(xa:Option Addr)(xc:Nat)(d:Dc)(w:World)(hD:DAt w la ia xa d)(hS:Small d)(h2:D2 d):
  Calls Tryz.prog 245 #[Dv la lc ia ic xa xc d] w fun e w'=>e=.returned (.bool (tells (D4 d)))/\Below w.heap.size w w':=by
 have hn:=hS.n
 have hm:=hS.m
 have hx:=hS.x
 have HD:=uy hD
 have HS:=uy hS
 have H2:=uy h2
 clear hD hS h2
 have hb1:∀o,Below w.heap.size w (w.alloc o):=fun o=>(Below.refl _ _).alloc (Nat.le_refl _) _
 have HBA:=uy hb1
 clear hb1
 by_cases hsx:SizeX d.x
 case neg=>
  have HT:=uy (not_D4' (d:=d) hsx)
  obtain⟨h0,h1⟩:=size_out hsx
  have h0':((d.x:Int)!=0)=true:=by simp[h0]
  clear hsx h0
  rcases h1 with h1|h1|⟨h1,h2,h3⟩
  ·go_enter Tryz.func245,Tryz.ntmps245
   go_wp2
   go_ret
   exact⟨by rw[uh HT];rfl,uh HBA _⟩
  ·have h1':¬(d.x:Int)<8:=by omega
   go_enter Tryz.func245,Tryz.ntmps245
   go_wp2
   go_ret
   exact⟨by rw[uh HT];rfl,uh HBA _⟩
  ·have hp:(pop (d.x:Int)!=1)=true:=by
    simp only[bne_iff_ne,ne_eq]
    exact fun h=>h3 ((pop_iff h2).1 h)
   have h1':¬(d.x:Int)<8:=by omega
   clear h3
   generalize hpp:pop (d.x:Int)=pp at hp
   have HPP:=uy hpp
   clear hpp
   go_enter Tryz.func245,Tryz.ntmps245
   go_wp2_with (go_at_call 267;refine(onesCount_any d.x h2 _).mono ?_;rintro e w1 ⟨rfl,rfl⟩;rw[uh HPP])
   go_ret
   exact⟨by rw[uh HT];rfl,uh HBA _⟩
 have HSX:=uy hsx
 obtain⟨br,hbr⟩:∃br:Bool,br=decide (d.x=0):=⟨_,rfl⟩
 go_enter Tryz.func245,Tryz.ntmps245
 clear hbr
 by_cases h0:d.x=0
 ·have h0':((d.x:Int)!=0)=false:=by simp[h0]
  have h0'':¬(0:Int)<d.x:=by omega
  have HX0:=uy h0
  clear h0 hsx
  go_wp2_with fail
  go_loopw [4,31] (fun u i wr=>u=.int .i64 0/\i=.int .i64 0/\wr.cell? ⟨w.heap.size,3,none⟩=some (.int .i64 d.used)/\Below w.heap.size w wr) (fun _ _ _=>0)
  case atStart=>exact⟨rfl,rfl,by simp[go_sem],uh HBA _⟩
  case round=>
   obtain⟨rfl,rfl,c3,hb⟩:=hrel
   have hle:(0:Int)<=d.x:=by omega
   have HB:=uy hb
   clear hb
   by_cases hu:(0:Int)=d.used
   ·have HT:=uy (tells_yes (p:=D4 d) ⟨.inl (uh HX0),fun j hj=>by have:=uh HX0;omega,by rw[uh HX0];exact hu,by rw[uh HX0];exact Nat.le_refl _⟩)
    rw[<-hu]at c3
    clear hu
    go_wp2
    go_ret
    exact⟨by rw[uh HT];rfl,uh HB⟩
   ·have HT:=uy (tells_no (p:=D4 d) (fun h=>by have:=h.2.2.1;rw[uh HX0]at this;exact hu this))
    have hu':((0:Int)==d.used)=false:=by simp[hu]
    clear hu
    go_wp2
    go_ret
    exact⟨by rw[uh HT];rfl,uh HB⟩
 have hsz:8<=d.x/\d.x<=4000/\Pow2 d.x:=hsx.resolve_left h0
 have h0':((d.x:Int)!=0)=true:=by simp[h0]
 have h1':¬(d.x:Int)<8:=by omega
 have hx2:=hsz.2.1
 have h3':¬(4000:Int)<d.x:=by omega
 have HPP:=uy ((pop_iff hsz.2.1).2 hsz.2.2)
 clear hsx h0 hsz
 go_wp2_with (go_at_call 267;refine(onesCount_any d.x hx2 _).mono ?_;rintro e w1 ⟨rfl,rfl⟩;rw[uh HPP])
 go_loopw [4,31] (fun u i wr=>∃k:Nat,k<=d.x/\i=.int .i64 k/\u=.int .i64 (usedTo d k)/\(∀j,j<k->okSlot d j)/\w.heap.size<wr.heap.size/\wr.cell? ⟨w.heap.size,0,none⟩=some (.slice la d.n lc)/\wr.cell? ⟨w.heap.size,1,none⟩=some (.slice ia d.m ic)/\wr.cell? ⟨w.heap.size,2,none⟩=some (.slice xa d.x xc)/\wr.cell? ⟨w.heap.size,3,none⟩=some (.int .i64 d.used)/\wr.cell? ⟨w.heap.size,4,none⟩=some (.int .i64 d.live)/\wr.cell? ⟨w.heap.size,5,none⟩=some (.int .i64 d.turns)/\Below w.heap.size w wr) (fun _ i _=>d.x-(intOf i).toNat)
 case atStart=>exact⟨0,by omega,rfl,rfl,fun j hj=>by omega,by simp,by simp[go_sem],by simp[go_sem],by simp[go_sem],by simp[go_sem],by simp[go_sem],by simp[go_sem],uh HBA _⟩
 case round=>
  obtain⟨k,hk,rfl,rfl,hall,hwz,c0,c1,c2,c3,c4,c5,hb⟩:=hrel
  have hul:=usedTo_le d k
  have HALL:=uy hall
  clear hall
  by_cases hkn:k<d.x
  case neg=>
   have hkn':k=d.x:=by omega
   subst hkn'
   have HB:=uy hb
   clear hb
   by_cases h1:(usedTo d d.x:Int)=d.used
   case neg=>
    have HT:=uy (tells_no (p:=D4 d) (fun h=>h1 h.2.2.1))
    have h1':((usedTo d d.x:Int)==d.used)=false:=by simp[h1]
    clear h1
    go_wp2
    go_ret
    exact⟨by rw[uh HT];rfl,uh HB⟩
   have h1':((usedTo d d.x:Int)==d.used)=true:=by simp[h1]
   by_cases h2:2*usedTo d d.x<=d.x
   ·have HT:=uy (tells_yes (p:=D4 d) ⟨uh HSX,uh HALL,h1,h2⟩)
    have h2':decide (2*(usedTo d d.x:Int)<=d.x)=true:=by simp;omega
    clear h1 h2
    go_wp2
    go_ret
    exact⟨by rw[uh HT];simp,uh HB⟩
   ·have HT:=uy (tells_no (p:=D4 d) (fun h=>h2 h.2.2.2))
    have h2':decide (2*(usedTo d d.x:Int)<=d.x)=false:=by simp;omega
    clear h1 h2
    go_wp2
    go_ret
    exact⟨by rw[uh HT];simp,uh HB⟩
  obtain⟨b,off,hxa,hbl,hcs⟩:=(uh HD).index.resolve_left (by omega)
  subst hxa
  have e0:=(hb.cell (p:=⟨b,off+k,none⟩) hbl).trans (hcs k hkn)
  have HB:=uy hb
  have HDr:=uy ((uh HD).below hb)
  have hbsz:=hb.size
  clear hcs hb
  by_cases p3:d.X k=0
  ·have HO:Hid (okSlot d k):=uy (.inl p3)
   have HU:Hid (usedTo d (k+1)=usedTo d k):=uy (by show(if d.X k=0 then _ else _)=_;rw[if_pos p3])
   rw[p3]at e0
   clear p3
   go_wp2
   go_roundw
   case rel=>exact⟨k+1,by omega,by go_num,by rw[uh HU],fun j hj=>(by by_cases e:j=k;exact e▸uh HO;exact uh HALL j (by omega)),hwz,c0,c1,c2,c3,c4,c5,uh HB⟩
   case measure=>simp[intOf];omega
  have HU:Hid (usedTo d (k+1)=usedTo d k+1):=uy (by show(if d.X k=0 then _ else _)=_;rw[if_neg p3])
  by_cases p4:d.X k=-1
  ·have HO:Hid (okSlot d k):=uy (.inr (.inl p4))
   rw[p4]at e0
   clear p3 p4
   go_wp2
   go_roundw
   case rel=>exact⟨k+1,by omega,by go_num,by rw[uh HU];go_num,fun j hj=>(by by_cases e:j=k;exact e▸uh HO;exact uh HALL j (by omega)),hwz,c0,c1,c2,c3,c4,c5,uh HB⟩
   case measure=>simp[intOf];omega
  have p3':(d.X k==0)=false:=by simp[p3]
  have p4':(d.X k==-1)=false:=by simp[p4]
  by_cases hl:livingK d (d.X k)
  case neg=>
   have HT:=uy (not_D4 hkn (fun h=>by
    rcases h with h|h|h
    ·exact p3 h
    ·exact p4 h
    ·exact hl ⟨by omega,h.2.1,h.2.2.1⟩))
   have HL:=uy (tells_no hl)
   clear hl p3 p4
   go_wp2_with fail
   refine wp_region_quiet (C:=fun w'=>Below wr.heap.size wr w') (by kernel_rfl) (by kernel_rfl) ((Below.refl _ _).drew) ?_
   show wpQuiet _ _ _ _ [_,_,_,_,_,_,_,_,_,_,_,_,_,_,_,_,_,_,_] _
   (refine wpQuiet_step (fun K hK=>?_);go_simp;refine Exists.intro ?_ (And.intro (fun w' hw'=>?_) (hK _ ?_));rotate_left;obtain⟨hc',hf'⟩:=bcell hw';go_simp;first|rfl|exact⟨rfl,rfl⟩|exact⟨rfl⟩;clear hK K)
   (refine wpQuiet_step (fun K hK=>?_);go_simp;refine⟨_,fun w' hw'=>rfl,hK _ ?_⟩;clear hK K)
   refine wpQuiet_step (fun K hK=>?_)
   go_simp
   apply Exists.intro
   refine And.intro (fun w' hw'=>?_) (hK _ ?_)
   ·refine(((uh HL)▸isLiving_any la lc ia ic (some ⟨b,off,none⟩) xc d (d.X k) _ ((uh HDr).below hw') (uh HS))).mono ?_
    rintro e w'' ⟨rfl,hb⟩
    exact⟨rfl,hw'.trans (hb.mono hw'.size)⟩
   clear hK K
   iterate 2 (refine wpQuiet_step (fun K hK=>?_);go_simp;refine⟨_,fun w' hw'=>rfl,hK _ ?_⟩;clear hK K)
   go_big_quiet_step (fail)
   go_big_quiet_step (fail)
   go_big_quiet_step (fail)
   go_big_quiet_step (fail)
   go_big_quiet_step (fail)
   go_big_quiet_step (fail)
   go_big_quiet_step (fail)
   go_big_quiet_step (fail)
   go_big_quiet_step (fail)
   go_big_quiet_step (fail)
   go_big_quiet_step (fail)
   go_big_quiet_step (fail)
   go_big_quiet_step (fail)
   (refine wpQuiet_step (fun K hK=>?_);go_simp;refine⟨_,fun w' hw'=>rfl,hK _ ?_⟩;clear hK K)
   refine wpQuiet_nil ?_
   intro w2 hw2
   have HB2:=uy ((uh HB).trans (hw2.mono hbsz))
   clear hw2
   go_wp2
   go_ret
   exact⟨by rw[uh HT];rfl,uh HB2⟩
  have HL:=uy (tells_yes hl)
  obtain⟨q,hq⟩:∃q:Nat,d.X k=(q:Int)+1:=⟨(d.X k-1).toNat,by have:=hl.1;omega⟩
  have hqn:q<d.n:=by have:=hl.2.1;omega
  have hA:d.at (d.X k)=d.L q:=by unfold Dc.at;rw[hq];congr 1;omega
  have htq:(d.L q).turn≠0:=hA▸hl.2.2
  obtain⟨lb,lo,hla,hll,hls⟩:=(uh HD).log.resolve_left (by omega)
  subst hla
  obtain⟨e1,e2,e3,e4,e5,_,_,_,_,_,_⟩:=(hls q hqn).keep (fun q=>(uh HB).cell (p:=⟨lb,q,none⟩) hll)
  have hlw:lb<wr.heap.size:=Nat.lt_of_lt_of_le hll hbsz
  have HOI:Hid (okSlot d k↔¬smallK d.m (d.L q).key):=uy ⟨fun h=>by
    rcases h with h|h|h
    ·omega
    ·omega
    ·rw[hA]at h;exact h.2.2.2,fun h=>.inr (.inr ⟨by omega,by omega,by rw[hA];exact htq,by rw[hA];exact h⟩)⟩
  rw[hq]at e0 p3' p4' HL
  have hwq:IntKind.i64.wrap (q:Int)=q:=by rw[IntKind.wrap_i64];omega
  clear hls hl p3 p4 hq hA htq
  by_cases hsm:smallK d.m (d.L q).key
  ·have HT:=uy (not_D4 hkn (fun h=>(uh HOI).1 h hsm))
   have HSM:=uy (tells_yes hsm)
   clear hsm
   go_wp2_with fail
   refine wp_region_quiet (C:=fun w'=>Below wr.heap.size wr w') (by kernel_rfl) (by kernel_rfl) ((Below.refl _ _).drew) ?_
   show wpQuiet _ _ _ _ [_,_,_,_,_,_,_,_,_,_,_,_,_,_,_,_,_,_,_] _
   (refine wpQuiet_step (fun K hK=>?_);go_simp;refine Exists.intro ?_ (And.intro (fun w' hw'=>?_) (hK _ ?_));rotate_left;obtain⟨hc',hf'⟩:=bcell hw';go_simp;first|rfl|exact⟨rfl,rfl⟩|exact⟨rfl⟩;clear hK K)
   (refine wpQuiet_step (fun K hK=>?_);go_simp;refine⟨_,fun w' hw'=>rfl,hK _ ?_⟩;clear hK K)
   refine wpQuiet_step (fun K hK=>?_)
   go_simp
   apply Exists.intro
   refine And.intro (fun w' hw'=>?_) (hK _ ?_)
   ·refine(((uh HL)▸isLiving_any (some ⟨lb,lo,none⟩) lc ia ic (some ⟨b,off,none⟩) xc d ((q:Int)+1) _ ((uh HDr).below hw') (uh HS))).mono ?_
    rintro e w'' ⟨rfl,hb⟩
    exact⟨rfl,hw'.trans (hb.mono hw'.size)⟩
   clear hK K
   iterate 4 (refine wpQuiet_step (fun K hK=>?_);go_simp;refine⟨_,fun w' hw'=>rfl,hK _ ?_⟩;clear hK K)
   (refine wpQuiet_step (fun K hK=>?_);go_simp;refine Exists.intro ?_ (And.intro (fun w' hw'=>?_) (hK _ ?_));rotate_left;obtain⟨hc',hf'⟩:=bcell hw';go_simp;first|rfl|exact⟨rfl,rfl⟩|exact⟨rfl⟩;clear hK K)
   iterate 4 (refine wpQuiet_step (fun K hK=>?_);go_simp;refine⟨_,fun w' hw'=>rfl,hK _ ?_⟩;clear hK K)
   (refine wpQuiet_step (fun K hK=>?_);go_simp;refine Exists.intro ?_ (And.intro (fun w' hw'=>?_) (hK _ ?_));rotate_left;obtain⟨hc',hf'⟩:=bcell hw';go_simp;first|rfl|exact⟨rfl,rfl⟩|exact⟨rfl⟩;clear hK K)
   iterate 2 (refine wpQuiet_step (fun K hK=>?_);go_simp;refine⟨_,fun w' hw'=>rfl,hK _ ?_⟩;clear hK K)
   (refine wpQuiet_step (fun K hK=>?_);go_simp;refine Exists.intro ?_ (And.intro (fun w' hw'=>?_) (hK _ ?_));rotate_left;obtain⟨hc',hf'⟩:=bcell hw';go_simp;first|rfl|exact⟨rfl,rfl⟩|exact⟨rfl⟩;clear hK K)
   (refine wpQuiet_step (fun K hK=>?_);go_simp;refine⟨_,fun w' hw'=>rfl,hK _ ?_⟩;clear hK K)
   refine wpQuiet_step (fun K hK=>?_)
   go_simp
   apply Exists.intro
   refine And.intro (fun w' hw'=>?_) (hK _ ?_)
   ·refine(((uh HSM)▸hasPlace_any (d.L q).key d.m _ hm)).mono ?_
    rintro e w'' ⟨rfl,hb⟩
    exact⟨rfl,hw'.trans (hb.mono hw'.size)⟩
   clear hK K
   (refine wpQuiet_step (fun K hK=>?_);go_simp;refine⟨_,fun w' hw'=>rfl,hK _ ?_⟩;clear hK K)
   refine wpQuiet_nil ?_
   intro w2 hw2
   have HB2:=uy ((uh HB).trans (hw2.mono hbsz))
   clear hw2
   go_wp2
   go_ret
   exact⟨by rw[uh HT];rfl,uh HB2⟩
  ·have HO:Hid (okSlot d k):=uy ((uh HOI).2 hsm)
   have HSM:=uy (tells_no hsm)
   clear hsm
   go_wp2_with fail
   refine wp_region_quiet (C:=fun w'=>Below wr.heap.size wr w') (by kernel_rfl) (by kernel_rfl) ((Below.refl _ _).drew) ?_
   show wpQuiet _ _ _ _ [_,_,_,_,_,_,_,_,_,_,_,_,_,_,_,_,_,_,_] _
   (refine wpQuiet_step (fun K hK=>?_);go_simp;refine Exists.intro ?_ (And.intro (fun w' hw'=>?_) (hK _ ?_));rotate_left;obtain⟨hc',hf'⟩:=bcell hw';go_simp;first|rfl|exact⟨rfl,rfl⟩|exact⟨rfl⟩;clear hK K)
   (refine wpQuiet_step (fun K hK=>?_);go_simp;refine⟨_,fun w' hw'=>rfl,hK _ ?_⟩;clear hK K)
   refine wpQuiet_step (fun K hK=>?_)
   go_simp
   apply Exists.intro
   refine And.intro (fun w' hw'=>?_) (hK _ ?_)
   ·refine(((uh HL)▸isLiving_any (some ⟨lb,lo,none⟩) lc ia ic (some ⟨b,off,none⟩) xc d ((q:Int)+1) _ ((uh HDr).below hw') (uh HS))).mono ?_
    rintro e w'' ⟨rfl,hb⟩
    exact⟨rfl,hw'.trans (hb.mono hw'.size)⟩
   clear hK K
   iterate 4 (refine wpQuiet_step (fun K hK=>?_);go_simp;refine⟨_,fun w' hw'=>rfl,hK _ ?_⟩;clear hK K)
   (refine wpQuiet_step (fun K hK=>?_);go_simp;refine Exists.intro ?_ (And.intro (fun w' hw'=>?_) (hK _ ?_));rotate_left;obtain⟨hc',hf'⟩:=bcell hw';go_simp;first|rfl|exact⟨rfl,rfl⟩|exact⟨rfl⟩;clear hK K)
   iterate 4 (refine wpQuiet_step (fun K hK=>?_);go_simp;refine⟨_,fun w' hw'=>rfl,hK _ ?_⟩;clear hK K)
   (refine wpQuiet_step (fun K hK=>?_);go_simp;refine Exists.intro ?_ (And.intro (fun w' hw'=>?_) (hK _ ?_));rotate_left;obtain⟨hc',hf'⟩:=bcell hw';go_simp;first|rfl|exact⟨rfl,rfl⟩|exact⟨rfl⟩;clear hK K)
   iterate 2 (refine wpQuiet_step (fun K hK=>?_);go_simp;refine⟨_,fun w' hw'=>rfl,hK _ ?_⟩;clear hK K)
   (refine wpQuiet_step (fun K hK=>?_);go_simp;refine Exists.intro ?_ (And.intro (fun w' hw'=>?_) (hK _ ?_));rotate_left;obtain⟨hc',hf'⟩:=bcell hw';go_simp;first|rfl|exact⟨rfl,rfl⟩|exact⟨rfl⟩;clear hK K)
   (refine wpQuiet_step (fun K hK=>?_);go_simp;refine⟨_,fun w' hw'=>rfl,hK _ ?_⟩;clear hK K)
   refine wpQuiet_step (fun K hK=>?_)
   go_simp
   apply Exists.intro
   refine And.intro (fun w' hw'=>?_) (hK _ ?_)
   ·refine(((uh HSM)▸hasPlace_any (d.L q).key d.m _ hm)).mono ?_
    rintro e w'' ⟨rfl,hb⟩
    exact⟨rfl,hw'.trans (hb.mono hw'.size)⟩
   clear hK K
   (refine wpQuiet_step (fun K hK=>?_);go_simp;refine⟨_,fun w' hw'=>rfl,hK _ ?_⟩;clear hK K)
   refine wpQuiet_nil ?_
   intro w2 hw2
   have HB2:=uy ((uh HB).trans (hw2.mono hbsz))
   have hsz2:w.heap.size<w2.heap.size:=Nat.lt_of_lt_of_le hwz hw2.size
   have g0:=(hw2.cell (p:=⟨w.heap.size,0,none⟩) hwz).trans c0
   have g1:=(hw2.cell (p:=⟨w.heap.size,1,none⟩) hwz).trans c1
   have g2:=(hw2.cell (p:=⟨w.heap.size,2,none⟩) hwz).trans c2
   have g3:=(hw2.cell (p:=⟨w.heap.size,3,none⟩) hwz).trans c3
   have g4:=(hw2.cell (p:=⟨w.heap.size,4,none⟩) hwz).trans c4
   have g5:=(hw2.cell (p:=⟨w.heap.size,5,none⟩) hwz).trans c5
   clear hw2 c0 c1 c2 c3 c4 c5
   go_wp2
   go_roundw
   case rel=>exact⟨k+1,by omega,by go_num,by rw[uh HU];go_num,fun j hj=>(by by_cases e:j=k;exact e▸uh HO;exact uh HALL j (by omega)),hsz2,g0,g1,g2,g3,g4,g5,uh HB2⟩
   case measure=>simp[intOf];omega
end
section
open Go.RowKit Go.Shelf
attribute [local go_sem] run_store_float run_equalIn_float run_store_func
theorem ix0(x:Value)(w:World):(Instr.index 323 (.agg #[.func (.func 242) #[x] #[],.func (.func 243) #[x] #[],.func (.func 244) #[x] #[],.func (.func 245) #[x] #[],.func (.func 246) #[x] #[]]) (.int .i64 0)).run Tryz.prog w=.ok (.func (.func 242) #[x] #[]) w:=by kernel_rfl
theorem ix1(x:Value)(w:World):(Instr.index 323 (.agg #[.func (.func 242) #[x] #[],.func (.func 243) #[x] #[],.func (.func 244) #[x] #[],.func (.func 245) #[x] #[],.func (.func 246) #[x] #[]]) (.int .i64 1)).run Tryz.prog w=.ok (.func (.func 243) #[x] #[]) w:=by kernel_rfl
theorem ix2(x:Value)(w:World):(Instr.index 323 (.agg #[.func (.func 242) #[x] #[],.func (.func 243) #[x] #[],.func (.func 244) #[x] #[],.func (.func 245) #[x] #[],.func (.func 246) #[x] #[]]) (.int .i64 2)).run Tryz.prog w=.ok (.func (.func 244) #[x] #[]) w:=by kernel_rfl
theorem ix3(x:Value)(w:World):(Instr.index 323 (.agg #[.func (.func 242) #[x] #[],.func (.func 243) #[x] #[],.func (.func 244) #[x] #[],.func (.func 245) #[x] #[],.func (.func 246) #[x] #[]]) (.int .i64 3)).run Tryz.prog w=.ok (.func (.func 245) #[x] #[]) w:=by kernel_rfl
theorem ix4(x:Value)(w:World):(Instr.index 323 (.agg #[.func (.func 242) #[x] #[],.func (.func 243) #[x] #[],.func (.func 244) #[x] #[],.func (.func 245) #[x] #[],.func (.func 246) #[x] #[]]) (.int .i64 4)).run Tryz.prog w=.ok (.func (.func 246) #[x] #[]) w:=by kernel_rfl
theorem implDictOk(T:World->Prop)(hTl:Lasts T)(la:Option Addr)(lc:Nat)(ia:Option Addr)(ic:Nat)(xa:Option Addr)(xc:Nat)(d:Dc)(H:Nat->Nat)(w:World)(hT:T w)(hD:DAt w la ia xa d)(hS:Small d)(hH:∀i,i<d.n->keyB (d.L i).key=true->HsI T (d.L i).key (H i)):
  Calls Tryz.prog 212 #[Dv la lc ia ic xa xc d] w fun e w'=>e=.returned (.int .i64 (dictOk d H))/\Below w.heap.size w w':=by
 have HTl:=uy hTl
 have HT:=uy hT
 have HD:=uy hD
 have HS:=uy hS
 have HH:=uy hH
 clear hTl hT hD hS hH
 go_enter Tryz.func212,Tryz.ntmps212
 go_wp2_with fail
 obtain⟨u,hu⟩:∃u,u=(((w.alloc (.cells #[.slice la d.n lc,.slice ia d.m ic,.slice xa d.x xc,.int .i64 d.used,.int .i64 d.live,.int .i64 d.turns] 92)).alloc (.cells #[.slice la d.n lc,.slice ia d.m ic,.slice xa d.x xc,.int .i64 d.used,.int .i64 d.live,.int .i64 d.turns] 322)).alloc (.cells #[.func (.func 242) #[Dv la lc ia ic xa xc d] #[],.func (.func 243) #[Dv la lc ia ic xa xc d] #[],.func (.func 244) #[Dv la lc ia ic xa xc d] #[],.func (.func 245) #[Dv la lc ia ic xa xc d] #[],.func (.func 246) #[Dv la lc ia ic xa xc d] #[]] 323)):=⟨_,rfl⟩
 rw[<-hu]
 have HBu:Hid (Below w.heap.size w u):=uy (by rw[hu];exact(((Below.refl _ _).alloc (Nat.le_refl _) _).alloc (by simp) _).alloc (by simp;omega) _)
 clear hu
 have i0:=ix0 (Dv la lc ia ic xa xc d)
 have i1:=ix1 (Dv la lc ia ic xa xc d)
 have i2:=ix2 (Dv la lc ia ic xa xc d)
 have i3:=ix3 (Dv la lc ia ic xa xc d)
 have i4:=ix4 (Dv la lc ia ic xa xc d)
 go_loopw [21] (fun i wr=>(i=.int .i64 0/\Below w.heap.size w wr)\/(i=.int .i64 1/\D1 d/\Below w.heap.size w wr)\/(i=.int .i64 2/\D1 d/\D2 d/\Below w.heap.size w wr)\/(i=.int .i64 3/\D1 d/\D2 d/\D3 d/\Below w.heap.size w wr)\/(i=.int .i64 4/\D1 d/\D2 d/\D3 d/\D4 d/\Below w.heap.size w wr)\/(i=.int .i64 5/\D1 d/\D2 d/\D3 d/\D4 d/\D5 d H/\Below w.heap.size w wr)) (fun i _=>5-(intOf i).toNat)
 case atStart=>exact .inl ⟨rfl,uh HBu⟩
 case round=>
  clear HBu
  rcases hrel with⟨rfl,hb⟩|⟨rfl,h1,hb⟩|⟨rfl,h1,h2,hb⟩|⟨rfl,h1,h2,h3,hb⟩|⟨rfl,h1,h2,h3,h4,hb⟩|⟨rfl,h1,h2,h3,h4,h5,hb⟩
  ·have HB:=uy hb
   have hcall:=countsFit_any la lc ia ic xa xc d wr (uh HS)
   have HC:=uy hcall
   clear hb hcall
   go_wp2_with fail
   refine(uh HC).mono ?_
   rintro e w2 ⟨rfl,hb2⟩
   have HB2:=uy ((uh HB).trans (hb2.mono (uh HB).size))
   clear hb2 HC
   by_cases hh:D1 d
   ·rw[tells_yes hh]
    have HH2:=uy hh
    clear hh
    go_wp2_with fail
    go_roundw
    case rel=>exact .inr (.inl ⟨rfl,uh HH2,uh HB2⟩)
    case measure=>simp[intOf]
   ·rw[tells_no hh]
    have HT2:=uy (dictOk1 (H:=H) hh)
    clear hh
    go_wp2_with fail
    go_ret
    exact⟨by rw[uh HT2];rfl,uh HB2⟩
  ·have HB:=uy hb
   have hcall:=logHolds_any la lc ia ic xa xc d wr ((uh HD).below hb) (uh HS)
   have HC:=uy hcall
   have Hh1:=uy h1
   clear hb hcall h1
   go_wp2_with fail
   refine(uh HC).mono ?_
   rintro e w2 ⟨rfl,hb2⟩
   have HB2:=uy ((uh HB).trans (hb2.mono (uh HB).size))
   clear hb2 HC
   by_cases hh:D2 d
   ·rw[tells_yes hh]
    have HH2:=uy hh
    clear hh
    go_wp2_with fail
    go_roundw
    case rel=>exact .inr (.inr (.inl ⟨rfl,uh Hh1,uh HH2,uh HB2⟩))
    case measure=>simp[intOf]
   ·rw[tells_no hh]
    have HT2:=uy (dictOk2 (H:=H) (uh Hh1) hh)
    clear hh
    go_wp2_with fail
    go_ret
    exact⟨by rw[uh HT2];rfl,uh HB2⟩
  ·have HB:=uy hb
   have hcall:=intsHold_any la lc ia ic xa xc d wr ((uh HD).below hb) (uh HS) h2
   have HC:=uy hcall
   have Hh1:=uy h1
   have Hh2:=uy h2
   clear hb hcall h1 h2
   go_wp2_with fail
   refine(uh HC).mono ?_
   rintro e w2 ⟨rfl,hb2⟩
   have HB2:=uy ((uh HB).trans (hb2.mono (uh HB).size))
   clear hb2 HC
   by_cases hh:D3 d
   ·rw[tells_yes hh]
    have HH2:=uy hh
    clear hh
    go_wp2_with fail
    go_roundw
    case rel=>exact .inr (.inr (.inr (.inl ⟨rfl,uh Hh1,uh Hh2,uh HH2,uh HB2⟩)))
    case measure=>simp[intOf]
   ·rw[tells_no hh]
    have HT2:=uy (dictOk3 (H:=H) (uh Hh1) (uh Hh2) hh)
    clear hh
    go_wp2_with fail
    go_ret
    exact⟨by rw[uh HT2];rfl,uh HB2⟩
  ·have HB:=uy hb
   have hcall:=indexHolds_any la lc ia ic xa xc d wr ((uh HD).below hb) (uh HS) h2
   have HC:=uy hcall
   have Hh1:=uy h1
   have Hh2:=uy h2
   have Hh3:=uy h3
   clear hb hcall h1 h2 h3
   go_wp2_with fail
   refine(uh HC).mono ?_
   rintro e w2 ⟨rfl,hb2⟩
   have HB2:=uy ((uh HB).trans (hb2.mono (uh HB).size))
   clear hb2 HC
   by_cases hh:D4 d
   ·rw[tells_yes hh]
    have HH2:=uy hh
    clear hh
    go_wp2_with fail
    go_roundw
    case rel=>exact .inr (.inr (.inr (.inr (.inl ⟨rfl,uh Hh1,uh Hh2,uh Hh3,uh HH2,uh HB2⟩))))
    case measure=>simp[intOf]
   ·rw[tells_no hh]
    have HT2:=uy (dictOk4 (H:=H) (uh Hh1) (uh Hh2) (uh Hh3) hh)
    clear hh
    go_wp2_with fail
    go_ret
    exact⟨by rw[uh HT2];rfl,uh HB2⟩
  ·have HB:=uy hb
   have hcall:=allAreFound_any T (uh HTl) la lc ia ic xa xc d H wr (uh HTl _ _ (uh HT) hb) ((uh HD).below hb) (uh HS) h2 h3 h4 (fun i hi ht=>uh HH i hi (h2.pos hi ht).2)
   have HC:=uy hcall
   have Hh1:=uy h1
   have Hh2:=uy h2
   have Hh3:=uy h3
   have Hh4:=uy h4
   clear hb hcall h1 h2 h3 h4
   go_wp2_with fail
   refine(uh HC).mono ?_
   rintro e w2 ⟨rfl,hb2⟩
   have HB2:=uy ((uh HB).trans (hb2.mono (uh HB).size))
   clear hb2 HC
   by_cases hh:D5 d H
   ·rw[tells_yes hh]
    have HH2:=uy hh
    clear hh
    go_wp2_with fail
    go_roundw
    case rel=>exact .inr (.inr (.inr (.inr (.inr (⟨rfl,uh Hh1,uh Hh2,uh Hh3,uh Hh4,uh HH2,uh HB2⟩)))))
    case measure=>simp[intOf]
   ·rw[tells_no hh]
    have HT2:=uy (dictOk5 (H:=H) (uh Hh1) (uh Hh2) (uh Hh3) (uh Hh4) hh)
    clear hh
    go_wp2_with fail
    go_ret
    exact⟨by rw[uh HT2];rfl,uh HB2⟩
  ·have HB:=uy hb
   have HT2:=uy (dictOk0 (H:=H) h1 h2 h3 h4 h5)
   clear hb h1 h2 h3 h4 h5
   go_wp2_with fail
   go_ret
   exact⟨by rw[uh HT2];rfl,uh HB⟩
end
namespace Fl
open Ieee
theorem fields(x:Nat)(hx:x<18446744073709551616):∃sb e f:Nat,x=sb*9223372036854775808+e*4503599627370496+f/\sb<2/\e<2048/\f<4503599627370496:=
 ⟨x/9223372036854775808,x/4503599627370496%2048,x%4503599627370496,by omega,by omega,by omega,by omega⟩
theorem read_fields(sb e f:Nat)(h1:sb<2)(h2:e<2047)(h3:f<4503599627370496):
  double.read (sb*9223372036854775808+e*4503599627370496+f)=.number (sb==1) (if e=0 then f else 4503599627370496+f) (if e=0 then -1074 else(e:Int)-1075):=by
 unfold Format.read
 have hb:double.binade=4503599627370496:=by decide
 have hr:double.infRung=9218868437227405312:=by decide
 have hl:double.leastPlace=-1074:=by decide
 have hs:double.signWeight=9223372036854775808:=by decide
 dsimp only
 rw[hb,hr,hl,hs]
 have e1:(sb*9223372036854775808+e*4503599627370496+f)%9223372036854775808=e*4503599627370496+f:=by omega
 have e2:(sb*9223372036854775808+e*4503599627370496+f)/9223372036854775808%2=sb:=by omega
 rw[e1,e2]
 by_cases he:e=0
 ·subst he
  rw[if_pos (by omega),if_pos rfl,if_pos rfl];simp
 ·rw[if_neg (by omega),if_pos (by omega),if_neg he,if_neg he]
  congr 1
  ·omega
  ·have:(e*4503599627370496+f)/4503599627370496=e:=by omega
   rw[this];omega
theorem read_inf_fields(sb f:Nat)(h1:sb<2)(h3:f<4503599627370496):
  double.read (sb*9223372036854775808+2047*4503599627370496+f)=if f=0 then .infinity (sb==1)else .nan (sb==1) f:=by
 unfold Format.read
 have hb:double.binade=4503599627370496:=by decide
 have hr:double.infRung=9218868437227405312:=by decide
 have hs:double.signWeight=9223372036854775808:=by decide
 dsimp only
 rw[hb,hr,hs]
 have e1:(sb*9223372036854775808+2047*4503599627370496+f)%9223372036854775808=9218868437227405312+f:=by omega
 have e2:(sb*9223372036854775808+2047*4503599627370496+f)/9223372036854775808%2=sb:=by omega
 rw[e1,e2,if_neg (by omega),if_neg (by omega)]
 by_cases hf:f=0
 ·subst hf;simp
 ·rw[if_neg (by omega),if_neg hf,show 9218868437227405312+f-9218868437227405312=f from by omega]
theorem c63:(2:Nat)^63=9223372036854775808:=by decide
theorem c63':(2:Nat)^63-1=9223372036854775807:=by decide
theorem c52:(2:Nat)^52=4503599627370496:=by decide
theorem c52':(2:Nat)^52-1=4503599627370495:=by decide
theorem c11:(2:Nat)^11=2048:=by decide
theorem c11':(2:Nat)^11-1=2047:=by decide
theorem sb_mod52(sb:Nat):sb*9223372036854775808%2^52=0:=by
 have e:sb*9223372036854775808=sb*2048*2^52:=by rw[c52,Nat.mul_assoc]
 rw[e];exact Nat.mul_mod_left _ _
theorem andNot_sign(sb e f:Nat)(h1:sb<2)(h2:e<2048)(h3:f<4503599627370496):
  bits BinOp.andNot IntKind.u64 ((sb*9223372036854775808+e*4503599627370496+f:Nat):Int) 9223372036854775808=((e*4503599627370496+f:Nat):Int):=by
 have h:=u64_andNot_nat (sb*9223372036854775808+e*4503599627370496+f) 9223372036854775808 (by omega) (by omega)
 refine h.trans ?_
 congr 1
 have:=Nat.and_two_pow_sub_one_eq_mod (sb*9223372036854775808+e*4503599627370496+f) 63
 rw[c63',c63]at this
 rw[show 18446744073709551615-9223372036854775808=9223372036854775807 from rfl,this]
 omega
theorem andNot_exp(sb e f:Nat)(h1:sb<2)(h2:e<2048)(h3:f<4503599627370496):
  bits BinOp.andNot IntKind.u64 ((sb*9223372036854775808+e*4503599627370496+f:Nat):Int) 9218868437227405312=((sb*9223372036854775808+f:Nat):Int):=by
 have h:=u64_andNot_nat (sb*9223372036854775808+e*4503599627370496+f) 9218868437227405312 (by omega) (by omega)
 refine h.trans ?_
 congr 1
 have m1:18446744073709551615-9218868437227405312=9223372036854775808 ||| 4503599627370495:=by decide
 rw[m1,Nat.and_or_distrib_left]
 have a1:=nat_bit 63 (sb*9223372036854775808+e*4503599627370496+f)
 have a2:=Nat.and_two_pow_sub_one_eq_mod (sb*9223372036854775808+e*4503599627370496+f) 52
 rw[c63]at a1
 rw[c52',c52]at a2
 rw[a1,a2]
 have e1:(sb*9223372036854775808+e*4503599627370496+f)/9223372036854775808%2=sb:=by omega
 have e2:(sb*9223372036854775808+e*4503599627370496+f)%4503599627370496=f:=by omega
 rw[e1,e2,nat_join 52 (sb*9223372036854775808) f (sb_mod52 sb) (by rw[c52];omega)]
theorem or_exp(sb f:Nat)(h1:sb<2)(h3:f<4503599627370496):
  bits BinOp.or IntKind.u64 ((sb*9223372036854775808+f:Nat):Int) 4602678819172646912=((sb*9223372036854775808+1022*4503599627370496+f:Nat):Int):=by
 have h:=u64_or_nat (sb*9223372036854775808+f) 4602678819172646912 (by omega) (by omega)
 refine h.trans ?_
 congr 1
 have j1:=nat_join 52 (sb*9223372036854775808) f (sb_mod52 sb) (by rw[c52];omega)
 have j2:=nat_join 52 4602678819172646912 f (by rw[c52]) (by rw[c52];omega)
 have j3:=nat_join 63 (sb*9223372036854775808) (4602678819172646912+f) (by rw[c63];exact Nat.mul_mod_left _ _) (by rw[c63];omega)
 rw[<-j1,Nat.or_assoc,Nat.or_comm f,j2,j3]
 omega
theorem and_exp(e:Nat)(h2:e<4096):bits BinOp.and IntKind.u64 (e:Int) 2047=((e%2048:Nat):Int):=by
 have h:=u64_and_nat e 2047 (by omega) (by omega)
 refine h.trans ?_
 congr 1
 have:=Nat.and_two_pow_sub_one_eq_mod e 11
 rw[c11',c11]at this
 exact this
theorem mul_exact{x y:Nat}{s t:Bool}{m n:Nat}{i j:Int}(hx:double.read x=.number s m i)(hy:double.read y=.number t n j)(h0:m*n≠0)(hij:-1074<=i+j)
  (m':Nat) (p:Int) (hm:m'<2^53) (hp1:-1074<=p) (hp2:p<=971) (he:(m*n)*2^(i+j+1074).toNat=m'*2^(p+1074).toNat):
  ∃r q l,floatBits .mul .f64 x y=some r/\double.read r=.number (s^^t) q l/\-1074<=l/\l<=971/\q*2^(l+1074).toNat=m'*2^(p+1074).toNat:=by
 obtain⟨q,l,h1,h2,h3,h4⟩:=nearest_exact (s^^t) (m*n) (i+j) m' p h0 hij hm hp1 hp2 he
 refine⟨double.nearest (s^^t) (m*n) (i+j),q,l,?_,h1,h2,h3,h4.trans he⟩
 show((double.read x).product (double.read y)).map double.write=_
 rw[hx,hy]
 rfl
theorem read_max:double.read 9218868437227405311=.number false 9007199254740991 971:=by decide
theorem read_p52:double.read 4841369599423283200=.number false 4503599627370496 0:=by decide
theorem read_p53:double.read 4845873199050653696=.number false 4503599627370496 1:=by decide
theorem read_least:double.read 4503599627370496=.number false 4503599627370496 (-1074):=by decide
theorem sc_false(m:Nat)(i:Int):sc false m i=((m*2^(i+1074).toNat:Nat):Int):=by
 unfold sc signed
 rw[Nat.shiftLeft_eq];simp
theorem sc_le_max(s:Bool)(m:Nat)(i:Int)(hm:m<2^53)(hi:i<=971):sc s m i<=sc false 9007199254740991 971:=by
 have h1:sc s m i<=sc false m i:=by
  cases s
  ·exact Int.le_refl _
  ·rw[sc_neg,sc_false];omega
 refine Int.le_trans h1 ?_
 rw[sc_false,sc_false]
 have a:m<=9007199254740991:=by omega
 have b:2^(i+1074).toNat<=2^((971:Int)+1074).toNat:=Nat.pow_le_pow_right (by omega) (by omega)
 exact Int.ofNat_le.2 (Nat.mul_le_mul a b)
theorem not_above{x:Nat}{s:Bool}{m:Nat}{i:Int}(hx:double.read x=.number s m i)(hi:-1074<=i)(hi2:i<=971)(hm:m<2^53):(double.order x 9218868437227405311==some .gt)=false:=by
 rw[ord_of hx read_max hi (by omega),cmp_gt]
 have:=sc_le_max s m i hm hi2
 simp;omega
theorem inf_above{x:Nat}(hx:double.read x=.infinity false):(double.order x 9218868437227405311==some .gt)=true:=by
 unfold Format.order;rw[hx,read_max];rfl
theorem ninf_above{x:Nat}(hx:double.read x=.infinity true):(double.order x 9218868437227405311==some .gt)=false:=by
 unfold Format.order;rw[hx,read_max];rfl
end Fl
namespace Fl
open Ieee
structure Fr (x:Nat) (s:Bool) (m:Nat) (i:Int) (ya y e0 z z2:Nat) (k:Int) (j:Nat):Prop where
 hk:-60<=k
 hk2:k<=60
 he0:e0<2048
 habs:bits BinOp.andNot IntKind.u64 (x:Int) 9223372036854775808=(ya:Int)
 hin:(double.order ya 9218868437227405311==some .gt)=false
 hnorm:(k=0/\y=x/\(double.order ya 4503599627370496==some .lt)=false)\/(k=-52/\floatBits .mul .f64 x 4841369599423283200=some y/\(double.order ya 4503599627370496==some .lt)=true)
 h1:bits BinOp.and IntKind.u64 ((y:Int)/4503599627370496) 2047=(e0:Int)
 h2:bits BinOp.andNot IntKind.u64 (y:Int) 9218868437227405312=(z:Int)
 h3:bits BinOp.or IntKind.u64 (z:Int) 4602678819172646912=(z2:Int)
 rd:double.read z2=.number s (m*2^j) (-53)
 lo:2^52<=m*2^j
 hi:m*2^j<2^53
 ex:k+((e0:Int)-1023+1)-53=i-j
theorem frexp_tail(y sb e f:Nat)(hy:y=sb*9223372036854775808+e*4503599627370496+f)(h1:sb<2)(h2:e<2048)(h3:f<4503599627370496):
  bits BinOp.and IntKind.u64 ((y:Int)/4503599627370496) 2047=(e:Int)/\
  bits BinOp.andNot IntKind.u64 (y:Int) 9218868437227405312=((sb*9223372036854775808+f:Nat):Int)/\
  bits BinOp.or IntKind.u64 ((sb*9223372036854775808+f:Nat):Int) 4602678819172646912=((sb*9223372036854775808+1022*4503599627370496+f:Nat):Int):=by
 subst hy
 refine⟨?_,andNot_exp sb e f h1 h2 h3,or_exp sb f h1 h3⟩
 have q:(((sb*9223372036854775808+e*4503599627370496+f:Nat):Int)/4503599627370496)=((sb*2048+e:Nat):Int):=by omega
 rw[q,and_exp _ (by omega)]
 congr 1;omega
theorem frexp_facts(x:Nat)(hx:x<18446744073709551616)(s:Bool)(m:Nat)(i:Int)(hr:double.read x=.number s m i)(hm:m≠0):
  ∃ya y e0 z z2 k j,Fr x s m i ya y e0 z z2 k j:=by
 obtain⟨sb,e,f,rfl,b1,b2,b3⟩:=fields x hx
 have he:e<2047:=by
  apply Nat.lt_of_le_of_ne (by omega)
  intro h;subst h
  rw[read_inf_fields sb f b1 b3]at hr
  split at hr<;>cases hr
 rw[read_fields sb e f b1 he b3]at hr
 injection hr with hs hm' hi'
 have ra:double.read (0*9223372036854775808+e*4503599627370496+f)=_:=read_fields 0 e f (by omega) he b3
 rw[Nat.zero_mul,Nat.zero_add]at ra
 by_cases h0:e=0
 ·subst h0
  simp only[if_true]at hm' hi' ra
  subst hm' hi'
  have hx':double.read (sb*9223372036854775808+0*4503599627370496+f)=.number s f (-1074):=by
   rw[read_fields sb 0 f b1 (by omega) b3];simp[hs]
  obtain⟨r,q,l,hmul,hrd,hl1,hl2,hv⟩:=mul_exact hx' read_p52 (by omega) (by omega) f (-1022) (by omega) (by omega) (by omega) (by
   rw[show((-1074:Int)+0+1074).toNat=0 from by decide,show((-1022:Int)+1074).toNat=52 from by decide,Nat.pow_zero,Nat.mul_one,<-c52])
  rw[show((-1022:Int)+1074).toNat=52 from by decide]at hv
  have hr64:r<18446744073709551616:=by
   have:=floatBits_wf hmul
   simpa[Lit.wf]using this
  obtain⟨sb',e',f',hre,d1,d2,d3⟩:=fields r hr64
  have he':e'<2047:=by
   apply Nat.lt_of_le_of_ne (by omega)
   intro h
   rw[hre,h,read_inf_fields sb' f' d1 d3]at hrd
   split at hrd<;>cases hrd
  rw[hre,read_fields sb' e' f' d1 he' d3]at hrd
  injection hrd with g1 g2 g3
  have hne:e'≠0:=by
   intro h;subst h
   simp only[if_true]at g2 g3
   subst g2 g3
   rw[show((-1074:Int)+1074).toNat=0 from by decide,Nat.pow_zero,Nat.mul_one,c52]at hv
   omega
  rw[if_neg hne]at g2 g3
  subst g2 g3
  rw[Bool.xor_false]at g1
  obtain⟨c,hc⟩:∃c:Nat,c=((e':Int)-1075+1074).toNat:=⟨_,rfl⟩
  rw[<-hc]at hv
  have hc52:c<=52:=by
   apply Nat.le_of_not_lt
   intro hlt
   have p1:2^53<=2^c:=Nat.pow_le_pow_right (by omega) hlt
   have p2:(4503599627370496+f')*2^53<=(4503599627370496+f')*2^c:=Nat.mul_le_mul_left _ p1
   rw[c52]at hv
   omega
  have hj:4503599627370496+f'=f*2^(52-c):=by
   have e1:2^52=2^(52-c)*2^c:=by rw[<-Nat.pow_add];congr 1;omega
   rw[e1,<-Nat.mul_assoc]at hv
   exact Nat.eq_of_mul_eq_mul_right (Nat.two_pow_pos c) hv
  obtain⟨t1,t2,t3⟩:=frexp_tail r sb' e' f' hre d1 (by omega) d3
  have hlow:(double.order f 4503599627370496==some .lt)=true:=by
   have ra':double.read f=.number false f (-1074):=by simpa using ra
   rw[ord_of ra' read_least (by omega) (by omega),cmp_lt,sc_false,sc_false]
   simp
   omega
  refine⟨f,r,e',_,_,-52,52-c,by omega,by omega,by omega,?_,?_,.inr ⟨rfl,hmul,hlow⟩,t1,t2,t3,?_,?_,?_,?_⟩
  ·have:=andNot_sign sb 0 f b1 (by omega) b3
   simpa using this
  ·have ra':double.read f=.number false f (-1074):=by simpa using ra
   exact not_above ra' (by omega) (by omega) (by omega)
  ·rw[read_fields sb' 1022 f' d1 (by omega) d3,if_neg (by omega),if_neg (by omega),g1,hj]
   rfl
  ·rw[<-hj,c52];omega
  ·rw[<-hj];omega
  ·omega
 ·rw[if_neg h0]at hm' hi' ra
  rw[if_neg h0]at ra
  subst hm' hi'
  obtain⟨t1,t2,t3⟩:=frexp_tail _ sb e f rfl b1 (by omega) b3
  have ra':double.read (e*4503599627370496+f)=.number false (4503599627370496+f) ((e:Int)-1075):=by simpa using ra
  refine⟨e*4503599627370496+f,_,e,_,_,0,0,by omega,by omega,by omega,andNot_sign sb e f b1 b2 b3,?_,.inl ⟨rfl,rfl,?_⟩,t1,t2,t3,?_,?_,?_,?_⟩
  ·exact not_above ra' (by omega) (by omega) (by omega)
  ·rw[ord_of ra' read_least (by omega) (by omega),cmp_lt,sc_false,sc_false]
   have p:1<=2^((e:Int)-1075+1074).toNat:=Nat.two_pow_pos _
   have p2:(4503599627370496+f)*1<=(4503599627370496+f)*2^((e:Int)-1075+1074).toNat:=Nat.mul_le_mul_left _ p
   generalize (4503599627370496+f)*2^((e:Int)-1075+1074).toNat=v at p2
   rw[show((-1074:Int)+1074).toNat=0 from by decide]
   simp;omega
  ·rw[read_fields sb 1022 f b1 (by omega) b3,if_neg (by omega),if_neg (by omega),hs]
   simp
  ·rw[Nat.pow_zero,c52];omega
  ·rw[Nat.pow_zero];omega
  ·omega
end Fl
namespace Fl
open Ieee
theorem odd_unique:∀(a b m n:Nat),2^a*(2*m+1)=2^b*(2*n+1)->a=b/\m=n
 |0,0,m,n,h=>by simp at h;exact⟨rfl,by omega⟩
 |0,b+1,m,n,h=>by
  rw[Nat.pow_succ]at h;simp at h;exfalso;have:(2*m+1)%2=(2^b*2*(2*n+1))%2:=by rw[h]
  rw[Nat.mul_assoc,Nat.mul_left_comm,Nat.mul_mod_right]at this;omega
 |a+1,0,m,n,h=>by
  rw[Nat.pow_succ]at h;simp at h;exfalso;have:(2^a*2*(2*m+1))%2=(2*n+1)%2:=by rw[h]
  rw[Nat.mul_assoc,Nat.mul_left_comm,Nat.mul_mod_right]at this;omega
 |a+1,b+1,m,n,h=>by
  have h':2^a*(2*m+1)=2^b*(2*n+1):=by
   rw[Nat.pow_succ,Nat.pow_succ,Nat.mul_comm (2^a),Nat.mul_comm (2^b),Nat.mul_assoc,Nat.mul_assoc]at h
   exact Nat.eq_of_mul_eq_mul_left (by omega) h
  obtain⟨e1,e2⟩:=odd_unique a b m n h'
  exact⟨by omega,e2⟩
def uw(s:Bool)(N:Nat):Nat:=if s then 18446744073709551616-N else N
theorem uw_wrap(s:Bool)(N:Nat)(h0:0<N)(h:N<2^53):IntKind.u64.wrap (sg s N)=((uw s N:Nat):Int):=by
 rw[IntKind.wrap_u64]
 cases s
 ·simp only[sg,uw,Bool.false_eq_true,if_false];omega
 ·simp only[sg,uw,if_true];omega
theorem ctz_spec(s:Bool)(N:Nat)(h0:0<N)(h:N<2^53):∃M,N=2^Lib.ctz 64 (uw s N)*(2*M+1)/\Lib.ctz 64 (uw s N)<53:=by
 have hN0:N≠0:=by omega
 obtain⟨M,hM,hlt⟩:=Lib.ctzFrom_spec 53 N h0 h
 generalize ht:Lib.ctzFrom 53 N=t at hM hlt
 have hu0:uw s N≠0:=by unfold uw;split<;>omega
 have hu64:uw s N<2^64:=by unfold uw;split<;>omega
 obtain⟨M',hM',_⟩:=Lib.ctzFrom_spec 64 (uw s N) (by omega) hu64
 have e:Lib.ctz 64 (uw s N)=Lib.ctzFrom 64 (uw s N):=by unfold Lib.ctz;rw[if_neg hu0]
 rw[e]
 generalize Lib.ctzFrom 64 (uw s N)=t' at hM'
 have ht':t=t':=by
  cases s
  ·have:uw false N=N:=rfl
   rw[this,hM]at hM'
   exact(odd_unique _ _ _ _ hM').1
  ·have hu:uw true N=18446744073709551616-N:=rfl
   obtain⟨d,hd⟩:∃d,64=t+(d+1):=⟨63-t,by omega⟩
   have h64:18446744073709551616=2^t*2^(d+1):=by rw[<-Nat.pow_add,<-hd]
   have hlt2:2*M+1<2^(d+1):=by
    have:2^t*(2*M+1)<2^t*2^(d+1):=by rw[<-hM,<-h64];omega
    exact Nat.lt_of_mul_lt_mul_left this
   have:uw true N=2^t*(2*(2^d-M-1)+1):=by
    rw[hu,hM,h64,<-Nat.mul_sub]
    congr 1
    rw[Nat.pow_succ]at hlt2 ⊢
    omega
   rw[this]at hM'
   exact(odd_unique _ _ _ _ hM').1
 subst ht'
 exact⟨M,hM,hlt⟩
theorem sg_shift(s:Bool)(t M:Nat):sg s (2^t*(2*M+1))/2^t=sg s (2*M+1):=by
 have hp:(2:Int)^t≠0:=by have:=pow_pos' t;omega
 cases s
 ·simp only[sg,Bool.false_eq_true,if_false]
  push_cast
  exact Int.mul_ediv_cancel_left _ hp
 ·simp only[sg,if_true]
  push_cast
  rw[<-Int.mul_neg]
  exact Int.mul_ediv_cancel_left _ hp
theorem whole_of(q:Nat)(l:Int)(N:Nat)(hl:-1074<=l)(h:q*2^(l+1074).toNat=N*2^((0:Int)+1074).toNat):whole q l=N:=by
 have hb:=whole_bounds q l hl
 have hu:=U_pos
 rw[sc_of false q l N 0 h,sc_whole]at hb
 have e:sg false N=(N:Int):=rfl
 rw[e]at hb
 have h1:=Int.le_of_mul_le_mul_right hb.1 hu
 have h2:=Int.lt_of_mul_lt_mul_right hb.2 (by omega)
 omega
theorem xor_sign(r:Nat)(h:r<9223372036854775808):r ^^^ 9223372036854775808=9223372036854775808+r/\(9223372036854775808+r) ^^^ 9223372036854775808=r:=by
 have e:r ^^^ 2^63=2^63+r:=by
  apply Nat.eq_of_testBit_eq
  intro i
  rw[Nat.testBit_xor,Nat.testBit_two_pow]
  by_cases hi:i=63
  ·subst hi
   rw[Nat.testBit_two_pow_add_eq]
   have:r.testBit 63=false:=Nat.testBit_lt_two_pow (by rw[c63];exact h)
   simp[this]
  ·by_cases hlt:i<63
   ·rw[Nat.testBit_two_pow_add_gt hlt]
    have:(63:Nat)≠i:=by omega
    simp[this]
   ·have h1:r.testBit i=false:=Nat.testBit_lt_two_pow (Nat.lt_of_lt_of_le (by rw[<-c63]at h;exact h) (Nat.pow_le_pow_right (by omega) (by omega)))
    have h2:(2^63+r).testBit i=false:=Nat.testBit_lt_two_pow (Nat.lt_of_lt_of_le (show 2^63+r<2^64 from by rw[c63];omega) (Nat.pow_le_pow_right (by omega) (by omega)))
    have:(63:Nat)≠i:=by omega
    rw[h1,h2];simp[this]
 rw[c63]at e
 refine⟨e,?_⟩
 rw[<-e,Nat.xor_assoc,Nat.xor_self,Nat.xor_zero]
theorem neg_is(x:Nat):Op.negFloat .f64 x=x ^^^ 9223372036854775808:=by
 unfold Op.negFloat
 have:FloatKind.f64.format.exponentBits+FloatKind.f64.format.fractionBits=63:=rfl
 rw[this,c63]
theorem fields_lt(e f:Nat)(b2:e<2048)(b3:f<4503599627370496):e*4503599627370496+f<9223372036854775808:=by
 have h:e*4503599627370496<=2047*4503599627370496:=Nat.mul_le_mul_right _ (by omega)
 omega
theorem read_neg(x:Nat)(hx:x<18446744073709551616):double.read (Op.negFloat .f64 x)=(double.read x).opposite:=by
 rw[neg_is]
 obtain⟨sb,e,f,rfl,b1,b2,b3⟩:=fields x hx
 have hs:sb=0\/sb=1:=by omega
 have hb:e*4503599627370496+f<9223372036854775808:=fields_lt e f b2 b3
 have key:(sb*9223372036854775808+e*4503599627370496+f) ^^^ 9223372036854775808=(1-sb)*9223372036854775808+e*4503599627370496+f:=by
  rcases hs with rfl|rfl
  ·have:=(xor_sign (e*4503599627370496+f) hb).1
   rw[show 0*9223372036854775808+e*4503599627370496+f=e*4503599627370496+f from by rw[Nat.zero_mul,Nat.zero_add],this]
   show _=1*9223372036854775808+e*4503599627370496+f
   rw[Nat.one_mul,Nat.add_assoc]
  ·have:=(xor_sign (e*4503599627370496+f) hb).2
   rw[show 1*9223372036854775808+e*4503599627370496+f=9223372036854775808+(e*4503599627370496+f)from by rw[Nat.one_mul,Nat.add_assoc],this]
   show _=0*9223372036854775808+e*4503599627370496+f
   rw[Nat.zero_mul,Nat.zero_add]
 rw[key]
 by_cases he:e<2047
 ·rw[read_fields _ e f (by omega) he b3,read_fields sb e f b1 he b3]
  rcases hs with rfl|rfl<;>rfl
 ·have:e=2047:=by omega
  subst this
  rw[read_inf_fields _ f (by omega) b3,read_inf_fields sb f b1 b3]
  rcases hs with rfl|rfl<;>by_cases hf:f=0<;>simp[hf,Datum.opposite]
end Fl
section
open Go.RowKit
theorem run_bits64(x:Nat)(w:World):(callFunc 300 #[.float .f64 x]).run Tryz.prog w=.ok (.value (.int .u64 (x:Int))) w:=by
 rw[run_callFunc_extern (e:=Extern.MathFloatBits.float64bits) Tryz.func300 (by kernel_rfl) (by kernel_rfl) (by kernel_rfl) (by kernel_rfl)]
 rfl
theorem run_frombits64(x:Nat)(w:World):(callFunc 301 #[.int .u64 (x:Int)]).run Tryz.prog w=.ok (.value (.float .f64 x)) w:=by
 rw[run_callFunc_extern (e:=Extern.MathFloatBits.float64frombits) Tryz.func301 (by kernel_rfl) (by kernel_rfl) (by kernel_rfl) (by kernel_rfl)]
 rfl
theorem abs_any(x y:Nat)(w:World)(h:bits BinOp.andNot IntKind.u64 (x:Int) 9223372036854775808=(y:Int)):
  Calls Tryz.prog 298 #[.float .f64 x] w fun e w'=>e=.returned (.float .f64 y)/\w'=w:=by
 have h1:=run_bits64 x
 have h2:=run_frombits64 y
 go_enter Tryz.func298,Tryz.ntmps298
 go_wp2
 go_ret
 exact⟨rfl,rfl⟩
theorem isInf_zero(x y:Nat)(w:World)(h:bits BinOp.andNot IntKind.u64 (x:Int) 9223372036854775808=(y:Int)):
  Calls Tryz.prog 285 #[.float .f64 x,.int .i64 0] w fun e w'=>e=.returned (.bool (FloatKind.f64.format.order y 9218868437227405311==some .gt))/\w'=w:=by
 have H:Hid (bits BinOp.andNot IntKind.u64 (x:Int) 9223372036854775808=(y:Int)):=h
 clear h
 go_enter Tryz.func285,Tryz.ntmps285
 go_wp2_with (go_at_call 298;refine(abs_any x y _ H.out).mono ?_;rintro e w1 ⟨rfl,rfl⟩)
 go_ret
 exact⟨rfl,rfl⟩
theorem isInf_pos(x:Nat)(w:World):
  Calls Tryz.prog 285 #[.float .f64 x,.int .i64 1] w fun e w'=>e=.returned (.bool (FloatKind.f64.format.order x 9218868437227405311==some .gt))/\w'=w:=by
 go_enter Tryz.func285,Tryz.ntmps285
 go_wp2
 go_ret
 exact⟨rfl,rfl⟩
theorem isInf_neg(x:Nat)(w:World):
  Calls Tryz.prog 285 #[.float .f64 x,.int .i64 (-1)] w fun e w'=>e=.returned (.bool (FloatKind.f64.format.order (Op.negFloat .f64 x) 9218868437227405311==some .gt))/\w'=w:=by
 have hneg:∀w:World,(Op.unary .neg (.float .f64 x)).run Tryz.prog w=.ok (.float .f64 (Op.negFloat .f64 x)) w:=fun _=>rfl
 go_enter Tryz.func285,Tryz.ntmps285
 go_wp2
 go_ret
 exact⟨rfl,rfl⟩
theorem normalize_small(x y r:Nat)(w:World)(h:bits BinOp.andNot IntKind.u64 (x:Int) 9223372036854775808=(y:Int))(hlt:(FloatKind.f64.format.order y 4503599627370496==some .lt)=true)
  (hm:floatBits .mul .f64 x 4841369599423283200=some r):
  Calls Tryz.prog 309 #[.float .f64 x] w fun e w'=>e=.returned (.tuple #[.float .f64 r,.int .i64 (-52)])/\w'=w:=by
 have H:Hid (bits BinOp.andNot IntKind.u64 (x:Int) 9223372036854775808=(y:Int)):=h
 have hr:∀w:World,(binOp .mul 29 (.float .f64 x) (.float .f64 4841369599423283200)).run Tryz.prog w=.ok (.float .f64 r) w:=fun w=>run_float_arith w .mul 29 .f64 _ _ r hm
 clear h hm
 go_enter Tryz.func309,Tryz.ntmps309
 go_wp2_with (go_at_call 298;refine(abs_any x y _ H.out).mono ?_;rintro e w1 ⟨rfl,rfl⟩)
 go_ret2
 exact⟨rfl,rfl⟩
theorem normalize_big(x y:Nat)(w:World)(h:bits BinOp.andNot IntKind.u64 (x:Int) 9223372036854775808=(y:Int))(hlt:(FloatKind.f64.format.order y 4503599627370496==some .lt)=false):
  Calls Tryz.prog 309 #[.float .f64 x] w fun e w'=>e=.returned (.tuple #[.float .f64 x,.int .i64 0])/\w'=w:=by
 have H:Hid (bits BinOp.andNot IntKind.u64 (x:Int) 9223372036854775808=(y:Int)):=h
 clear h
 go_enter Tryz.func309,Tryz.ntmps309
 go_wp2_with (go_at_call 298;refine(abs_any x y _ H.out).mono ?_;rintro e w1 ⟨rfl,rfl⟩)
 go_ret2
 exact⟨rfl,rfl⟩
theorem frexp_any(x ya y e0 z z2:Nat)(k:Int)(w:World)(hk:-60<=k)(hk2:k<=60)(he0:e0<2048)
  (hz:(FloatKind.f64.format.order x 0==some .eq)=false) (hn:(FloatKind.f64.format.order x x !=some .eq)=false)
  (habs:bits BinOp.andNot IntKind.u64 (x:Int) 9223372036854775808=(ya:Int)) (hin:(FloatKind.f64.format.order ya 9218868437227405311==some .gt)=false)
  (hnorm:∀w:World,Calls Tryz.prog 309 #[.float .f64 x] w fun e w'=>e=.returned (.tuple #[.float .f64 y,.int .i64 k])/\w'=w)
  (h1:bits BinOp.and IntKind.u64 ((y:Int)/4503599627370496) 2047=(e0:Int))
  (h2:bits BinOp.andNot IntKind.u64 (y:Int) 9218868437227405312=(z:Int))
  (h3:bits BinOp.or IntKind.u64 (z:Int) 4602678819172646912=(z2:Int)):
  Calls Tryz.prog 303 #[.float .f64 x] w fun e w'=>e=.returned (.tuple #[.float .f64 z2,.int .i64 (k+((e0:Int)-1023+1))])/\w'=w:=by
 have H:Hid (bits BinOp.andNot IntKind.u64 (x:Int) 9223372036854775808=(ya:Int)):=habs
 have HN:Hid (∀w:World,Calls Tryz.prog 309 #[.float .f64 x] w fun e w'=>e=.returned (.tuple #[.float .f64 y,.int .i64 k])/\w'=w):=hnorm
 have b1:=run_bits64 y
 have b2:=run_frombits64 z2
 have HI:Hid ((FloatKind.f64.format.order ya 9218868437227405311==some .gt)=false):=hin
 clear habs hnorm hin
 go_enter Tryz.func303,Tryz.ntmps303
 go_wp2_with (first|(go_at_call 285;refine(isInf_zero x ya _ H.out).mono ?_;rintro e w1 ⟨rfl,rfl⟩;rw[HI.out])|(go_at_call 236;go_in)|(go_at_call 309;refine(HN.out _).mono ?_;rintro e w1 ⟨rfl,rfl⟩))
 go_ret2
 exact⟨rfl,rfl⟩
end
section
open Go.RowKit
def hstep(h:Int)(c:UInt8):Int:=IntKind.u64.wrap (bits BinOp.xor IntKind.u64 h (IntKind.u64.wrap (c.toNat:Int))*1099511628211)
def fnv(l:List UInt8):Int:=l.foldl hstep 14695981039346656037
def mixI(x:Int):Int:=
 bits BinOp.xor IntKind.u64
  (IntKind.u64.wrap (bits BinOp.xor IntKind.u64 (IntKind.u64.wrap (bits BinOp.xor IntKind.u64 x (x/8589934592)*18397679294719823053)) (IntKind.u64.wrap (bits BinOp.xor IntKind.u64 x (x/8589934592)*18397679294719823053)/8589934592)*14181476777654086739))
  (IntKind.u64.wrap (bits BinOp.xor IntKind.u64 (IntKind.u64.wrap (bits BinOp.xor IntKind.u64 x (x/8589934592)*18397679294719823053)) (IntKind.u64.wrap (bits BinOp.xor IntKind.u64 x (x/8589934592)*18397679294719823053)/8589934592)*14181476777654086739)/8589934592)
theorem wrap_u64_range(n:Int):0<=IntKind.u64.wrap n/\IntKind.u64.wrap n<18446744073709551616:=by
 rw[IntKind.wrap_u64];omega
theorem bits_u64_range(op:BinOp)(x y:Int):0<=bits op IntKind.u64 x y/\bits op IntKind.u64 x y<18446744073709551616:=by
 unfold bits;exact wrap_u64_range _
theorem mixI_range(x:Int):0<=mixI x/\mixI x<18446744073709551616:=bits_u64_range _ _ _
theorem hstep_range(h:Int)(c:UInt8):0<=hstep h c/\hstep h c<18446744073709551616:=wrap_u64_range _
theorem foldl_range(l:List UInt8)(h:Int)(hh:0<=h/\h<18446744073709551616):0<=l.foldl hstep h/\l.foldl hstep h<18446744073709551616:=by
 induction l generalizing h with
 |nil=>exact hh
 |cons c l ih=>exact ih _ (hstep_range h c)
theorem fnv_range(l:List UInt8):0<=fnv l/\fnv l<18446744073709551616:=foldl_range l _ (by omega)
theorem take_snoc(s:ByteArray)(k:Nat)(h:k<s.size):s.data.toList.take (k+1)=s.data.toList.take k++[s[k]]:=by
 rw[List.take_succ_eq_append_getElem (by simpa using h)];rfl
theorem fnv_snoc(s:ByteArray)(k:Nat)(h:k<s.size):fnv (s.data.toList.take (k+1))=hstep (fnv (s.data.toList.take k)) s[k]:=by
 rw[take_snoc s k h];unfold fnv;rw[List.foldl_append];rfl
theorem ret_int{k:IntKind}{a b:Int}(h:a=b):Ending.returned (.int k a)=.returned (.int k b):=by rw[h]
theorem mix_any(x:Int)(w:World)(h0:0<=x)(h1:x<18446744073709551616):
  Calls Tryz.prog 273 #[.int .u64 x] w fun e w'=>e=.returned (.int .u64 (mixI x))/\w'=w:=by
 go_enter Tryz.func273,Tryz.ntmps273
 go_wp2
 go_ret
 exact⟨rfl,rfl⟩
theorem hashText_any(s:ByteArray)(w:World)(hs:s.size<=maxLen):
  Calls Tryz.prog 271 #[.string s] w fun e w'=>e=.returned (.int .u64 (fnv s.data.toList))/\w'=w:=by
 unfold maxLen at hs
 go_enter Tryz.func271,Tryz.ntmps271
 go_wp2
 go_loop [3,7] (fun h i=>∃k:Nat,k<=s.size/\i=.int .i64 k/\h=.int .u64 (fnv (s.data.toList.take k))) (fun _ i=>s.size-(intOf i).toNat)
 case atStart=>exact⟨0,Nat.zero_le _,rfl,rfl⟩
 case round=>
  obtain⟨k,hk,rfl,rfl⟩:=hrel
  by_cases hlt:k<s.size
  ·have HS:Hid (fnv (s.data.toList.take (k+1))=hstep (fnv (s.data.toList.take k)) s[k]):=fnv_snoc s k hlt
   go_wp2
   exact⟨⟨k+1,by omega,by go_num,by rw[HS.out];rfl⟩,by simp[intOf];omega⟩
  ·go_wp2
   go_ret
   exact⟨ret_int (by rw[List.take_of_length_le (by simp;omega)]),rfl⟩
end
end Go.Proofs.YtgmlkfgfjjggnaaGreatDoor
namespace Go.Proofs
open Go.Shelf
def Tryz.laysM171_ren:Go.Shelf.Ren:=⟨fun|171=>289|243=>305|246=>304|283=>310|284=>311|285=>312|286=>313|129=>317|317=>316|318=>318|319=>319|320=>320|337=>321|338=>287|n=>n,fun|3=>3|9=>9|2=>2|4=>4|171=>386|0=>0|53=>136|37=>71|5=>5|173=>388|212=>391|51=>367|20=>20|213=>392|46=>276|232=>393|233=>384|n=>n,fun|17=>3|18=>4|19=>2|n=>n⟩
theorem Tryz.laysM171:Go.Proofs.LaysM.n171 Tryz.prog Tryz.laysM171_ren:={
 mixed:=by kernel_rfl
 f129:=Tryz.func317.trans (congrArg some (by kernel_rfl))
 f171:=Tryz.func289.trans (congrArg some (by kernel_rfl))
 f243:=Tryz.func305.trans (congrArg some (by kernel_rfl))
 f246:=Tryz.func304.trans (congrArg some (by kernel_rfl))
 f283:=Tryz.func310.trans (congrArg some (by kernel_rfl))
 f284:=Tryz.func311.trans (congrArg some (by kernel_rfl))
 f285:=Tryz.func312.trans (congrArg some (by kernel_rfl))
 f286:=Tryz.func313.trans (congrArg some (by kernel_rfl))
 f317:=Tryz.func316.trans (congrArg some (by kernel_rfl))
 f318:=Tryz.func318.trans (congrArg some (by kernel_rfl))
 f319:=Tryz.func319.trans (congrArg some (by kernel_rfl))
 f320:=Tryz.func320.trans (congrArg some (by kernel_rfl))
 f337:=Tryz.func321.trans (congrArg some (by kernel_rfl))
 f338:=Tryz.func287.trans (congrArg some (by kernel_rfl))
 t0:=Tryz.underlying0
 a0:=Tryz.isAgg0
 z0:=Tryz.sizeOf0
 v0:=Tryz.zeroValue0
 t2:=Tryz.underlying2
 a2:=Tryz.isAgg2
 z2:=Tryz.sizeOf2
 v2:=Tryz.zeroValue2
 t3:=Tryz.underlying3
 a3:=Tryz.isAgg3
 z3:=Tryz.sizeOf3
 v3:=Tryz.zeroValue3
 t4:=Tryz.underlying4
 a4:=Tryz.isAgg4
 z4:=Tryz.sizeOf4
 v4:=Tryz.zeroValue4
 t5:=Tryz.underlying5
 a5:=Tryz.isAgg5
 z5:=Tryz.sizeOf5
 v5:=Tryz.zeroValue5
 t9:=Tryz.underlying9
 a9:=Tryz.isAgg9
 z9:=Tryz.sizeOf9
 v9:=Tryz.zeroValue9
 t20:=Tryz.underlying20
 a20:=Tryz.isAgg20
 z20:=Tryz.sizeOf20
 v20:=Tryz.zeroValue20
 t37:=Tryz.underlying71
 a37:=Tryz.isAgg71
 z37:=Tryz.sizeOf71
 v37:=Tryz.zeroValue71
 t46:=Tryz.underlying276
 a46:=Tryz.isAgg276
 z46:=Tryz.sizeOf276
 v46:=Tryz.zeroValue276
 t51:=Tryz.underlying367
 a51:=Tryz.isAgg367
 z51:=Tryz.sizeOf367
 v51:=Tryz.zeroValue367
 t53:=Tryz.underlying136
 a53:=Tryz.isAgg136
 z53:=Tryz.sizeOf136
 v53:=Tryz.zeroValue136
 t171:=Tryz.underlying386
 a171:=Tryz.isAgg386
 z171:=Tryz.sizeOf386
 v171:=Tryz.zeroValue386
 t173:=Tryz.underlying388
 a173:=Tryz.isAgg388
 z173:=Tryz.sizeOf388
 v173:=Tryz.zeroValue388
 t212:=Tryz.underlying391
 a212:=Tryz.isAgg391
 z212:=Tryz.sizeOf391
 v212:=Tryz.zeroValue391
 t213:=Tryz.underlying392
 a213:=Tryz.isAgg392
 z213:=Tryz.sizeOf392
 t232:=Tryz.underlying393
 a232:=Tryz.isAgg393
 z232:=Tryz.sizeOf393
 v232:=Tryz.zeroValue393
 t233:=Tryz.underlying384
 a233:=Tryz.isAgg384
 z233:=Tryz.sizeOf384
 v233:=Tryz.zeroValue384
 g17:=by kernel_rfl
 g18:=by kernel_rfl
 g19:=by kernel_rfl
 i0:=by kernel_rfl
 i2:=by kernel_rfl
 i3:=by kernel_rfl
 i4:=by kernel_rfl
 i5:=by kernel_rfl
 i9:=by kernel_rfl
 i20:=by kernel_rfl
 i37:=by kernel_rfl
 i46:=by kernel_rfl
 i51:=by kernel_rfl
 i53:=by kernel_rfl
 i171:=by kernel_rfl
 i173:=by kernel_rfl
 i212:=by kernel_rfl
 i232:=by kernel_rfl
 i233:=by kernel_rfl
 m17:=by kernel_rfl
 m18:=by kernel_rfl
 m19:=by kernel_rfl}
open Go.RowKit Go.Sort Go.Lib in
theorem Tryz.strconv_Itoa(n:Int)(h0:-9223372036854775808<=n)(h1:n<=9223372036854775807)(w:World)(htab:Lib.TabIs Tryz.prog w "internal/strconv.uint64pow10" .u64 Lib.pow10Tab):
  Calls Tryz.prog 289 #[.int .i64 n] w fun e w'=>e=.returned (.string ⟨(Lib.itoa n).toArray⟩)/\∃k os,w'=grow (w.drewN k) os:=Any.strconv_Itoa Tryz.laysM171 n h0 h1 w htab
def Tryz.laysM173_ren:Go.Shelf.Ren:=⟨fun|173=>288|246=>304|283=>310|284=>311|285=>312|286=>313|129=>317|317=>316|318=>318|319=>319|320=>320|337=>321|338=>287|n=>n,fun|2=>2|3=>3|9=>9|4=>4|171=>386|0=>0|53=>136|37=>71|5=>5|173=>388|212=>391|51=>367|20=>20|213=>392|46=>276|232=>393|233=>384|n=>n,fun|17=>3|18=>4|19=>2|n=>n⟩
theorem Tryz.laysM173:Go.Proofs.LaysM.n173 Tryz.prog Tryz.laysM173_ren:={
 mixed:=by kernel_rfl
 f129:=Tryz.func317.trans (congrArg some (by kernel_rfl))
 f173:=Tryz.func288.trans (congrArg some (by kernel_rfl))
 f246:=Tryz.func304.trans (congrArg some (by kernel_rfl))
 f283:=Tryz.func310.trans (congrArg some (by kernel_rfl))
 f284:=Tryz.func311.trans (congrArg some (by kernel_rfl))
 f285:=Tryz.func312.trans (congrArg some (by kernel_rfl))
 f286:=Tryz.func313.trans (congrArg some (by kernel_rfl))
 f317:=Tryz.func316.trans (congrArg some (by kernel_rfl))
 f318:=Tryz.func318.trans (congrArg some (by kernel_rfl))
 f319:=Tryz.func319.trans (congrArg some (by kernel_rfl))
 f320:=Tryz.func320.trans (congrArg some (by kernel_rfl))
 f337:=Tryz.func321.trans (congrArg some (by kernel_rfl))
 f338:=Tryz.func287.trans (congrArg some (by kernel_rfl))
 t0:=Tryz.underlying0
 a0:=Tryz.isAgg0
 z0:=Tryz.sizeOf0
 v0:=Tryz.zeroValue0
 t2:=Tryz.underlying2
 a2:=Tryz.isAgg2
 z2:=Tryz.sizeOf2
 v2:=Tryz.zeroValue2
 t3:=Tryz.underlying3
 a3:=Tryz.isAgg3
 z3:=Tryz.sizeOf3
 v3:=Tryz.zeroValue3
 t4:=Tryz.underlying4
 a4:=Tryz.isAgg4
 z4:=Tryz.sizeOf4
 v4:=Tryz.zeroValue4
 t5:=Tryz.underlying5
 a5:=Tryz.isAgg5
 z5:=Tryz.sizeOf5
 v5:=Tryz.zeroValue5
 t9:=Tryz.underlying9
 a9:=Tryz.isAgg9
 z9:=Tryz.sizeOf9
 v9:=Tryz.zeroValue9
 t20:=Tryz.underlying20
 a20:=Tryz.isAgg20
 z20:=Tryz.sizeOf20
 v20:=Tryz.zeroValue20
 t37:=Tryz.underlying71
 a37:=Tryz.isAgg71
 z37:=Tryz.sizeOf71
 v37:=Tryz.zeroValue71
 t46:=Tryz.underlying276
 a46:=Tryz.isAgg276
 z46:=Tryz.sizeOf276
 v46:=Tryz.zeroValue276
 t51:=Tryz.underlying367
 a51:=Tryz.isAgg367
 z51:=Tryz.sizeOf367
 v51:=Tryz.zeroValue367
 t53:=Tryz.underlying136
 a53:=Tryz.isAgg136
 z53:=Tryz.sizeOf136
 v53:=Tryz.zeroValue136
 t171:=Tryz.underlying386
 a171:=Tryz.isAgg386
 z171:=Tryz.sizeOf386
 v171:=Tryz.zeroValue386
 t173:=Tryz.underlying388
 a173:=Tryz.isAgg388
 z173:=Tryz.sizeOf388
 v173:=Tryz.zeroValue388
 t212:=Tryz.underlying391
 a212:=Tryz.isAgg391
 z212:=Tryz.sizeOf391
 v212:=Tryz.zeroValue391
 t213:=Tryz.underlying392
 a213:=Tryz.isAgg392
 z213:=Tryz.sizeOf392
 t232:=Tryz.underlying393
 a232:=Tryz.isAgg393
 z232:=Tryz.sizeOf393
 v232:=Tryz.zeroValue393
 t233:=Tryz.underlying384
 a233:=Tryz.isAgg384
 z233:=Tryz.sizeOf384
 v233:=Tryz.zeroValue384
 g17:=by kernel_rfl
 g18:=by kernel_rfl
 g19:=by kernel_rfl
 i0:=by kernel_rfl
 i2:=by kernel_rfl
 i3:=by kernel_rfl
 i4:=by kernel_rfl
 i5:=by kernel_rfl
 i9:=by kernel_rfl
 i20:=by kernel_rfl
 i37:=by kernel_rfl
 i46:=by kernel_rfl
 i51:=by kernel_rfl
 i53:=by kernel_rfl
 i171:=by kernel_rfl
 i173:=by kernel_rfl
 i212:=by kernel_rfl
 i232:=by kernel_rfl
 i233:=by kernel_rfl
 m17:=by kernel_rfl
 m18:=by kernel_rfl
 m19:=by kernel_rfl}
open Go.RowKit Go.Sort Go.Lib in
theorem Tryz.strconv_FormatInt_10(n:Int)(h0:-9223372036854775808<=n)(h1:n<=9223372036854775807)(w:World)(htab:Lib.TabIs Tryz.prog w "internal/strconv.uint64pow10" .u64 Lib.pow10Tab):
  Calls Tryz.prog 288 #[.int .i64 n,.int .i64 10] w fun e w'=>e=.returned (.string ⟨(Lib.itoa n).toArray⟩)/\∃k os,w'=grow (w.drewN k) os:=Any.strconv_FormatInt_10 Tryz.laysM173 n h0 h1 w htab
end Go.Proofs
namespace Go.Proofs.YtgmlkfgfjjggnaaGreatDoor
section
open Go.RowKit
structure Tabs (w:World):Prop where
 t64:TabAt 2 Lib.deBruijn64tab w
 p10:Lib.TabIs Tryz.prog w "internal/strconv.uint64pow10" .u64 Lib.pow10Tab
 sz:5<=w.heap.size
theorem Tabs.below{w w':World}(h:Tabs w){B:Nat}(hb:Below B w w')(hB:5<=B):Tabs w':=
 ⟨fun j hj=>(hb.cell (p:=⟨2,j,none⟩) (show 2<B from by omega)).trans (h.t64 j hj),
  var?_below hb (show Tryz.prog.globalNamed "internal/strconv.uint64pow10" =some 3 from by kernel_rfl) (by omega) h.p10,
  Nat.le_trans h.sz hb.size⟩
theorem tz64_core'(x k idx:Nat)(w:World)(hx0:((x:Int)==0)=false)
  (key:IntKind.u64.wrap (bits BinOp.and IntKind.u64 (x:Int) (IntKind.u64.wrap (-(x:Int)))*285870213051353865)/288230376151711744=(idx:Int))
  (hi:idx<64) (hk:k<64) (hcell:w.cell? ⟨2,idx,none⟩=some (.int .u8 k)):
  Calls Tryz.prog 287 #[.int .u64 x] w fun e w'=>e=.returned (.int .i64 k)/\w'=w:=by
 go_enter Tryz.func287,Tryz.ntmps287
 go_wp2_with (simp only[key])
 go_ret
 exact⟨rfl,rfl⟩
theorem tz64_any(x:Nat)(hx:x<18446744073709551616)(hx0:x≠0)(w:World)(hT:Tabs w):
  Calls Tryz.prog 287 #[.int .u64 x] w fun e w'=>e=.returned (.int .i64 (Lib.ctz 64 x))/\w'=w:=by
 obtain⟨hlow,hk⟩:=Lib.lowest_bit 64 x hx0 hx
 obtain⟨hi,htab⟩:=Lib.deBruijn64_at _ hk
 have hcell:=hT.t64 _ hi
 rw[htab]at hcell
 exact tz64_core' x _ _ w (by simp;omega) (tz64_key x _ hx hx0 hlow) hi hk hcell
theorem frexp_is{x:Nat}{s:Bool}{m:Nat}{i:Int}{ya y e0 z z2:Nat}{k:Int}{j:Nat}(hr:Ieee.double.read x=.number s m i)(hi:-1074<=i)(hm:m≠0)(F:Fl.Fr x s m i ya y e0 z z2 k j)(w:World):
  Calls Tryz.prog 303 #[.float .f64 x] w fun e w'=>e=.returned (.tuple #[.float .f64 z2,.int .i64 (k+((e0:Int)-1023+1))])/\w'=w:=by
 have hz:(FloatKind.f64.format.order x 0==some .eq)=false:=by
  show(Ieee.double.order x 0==some .eq)=false
  rw[Fl.ord_of hr Fl.read_nil hi (by omega),Fl.cmp_eq,Fl.sc_zero]
  have hp:=Fl.pow_pos' (i+1074).toNat
  simp only[decide_eq_false_iff_not]
  unfold Fl.sc
  rw[Fl.signed_eq]
  generalize (2:Int)^(i+1074).toNat=u at hp
  intro h
  have h1:(m:Int)*u=0:=by cases s<;>simpa using h
  rcases Int.mul_eq_zero.1 h1 with h|h<;>omega
 have hn:(FloatKind.f64.format.order x x !=some .eq)=false:=by
  show(!(Ieee.double.order x x==some .eq))=false
  rw[Fl.ord_of hr hr hi hi,Fl.cmp_eq];simp
 refine frexp_any x ya y e0 z z2 k w F.hk F.hk2 F.he0 hz hn F.habs F.hin ?_ F.h1 F.h2 F.h3
 intro w
 rcases F.hnorm with⟨h1,h2,h3⟩|⟨h1,h2,h3⟩
 ·rw[h1,h2];exact normalize_big x ya w F.habs h3
 ·rw[h1];exact normalize_small x ya y w F.habs h3 h2
theorem frexp_pub{x:Nat}{s:Bool}{m:Nat}{i:Int}{ya y e0 z z2:Nat}{k:Int}{j:Nat}(hr:Ieee.double.read x=.number s m i)(hi:-1074<=i)(hm:m≠0)(F:Fl.Fr x s m i ya y e0 z z2 k j)(w:World):
  Calls Tryz.prog 286 #[.float .f64 x] w fun e w'=>e=.returned (.tuple #[.float .f64 z2,.int .i64 (k+((e0:Int)-1023+1))])/\w'=w:=by
 have H:Hid (∀w:World,Calls Tryz.prog 303 #[.float .f64 x] w fun e w'=>e=.returned (.tuple #[.float .f64 z2,.int .i64 (k+((e0:Int)-1023+1))])/\w'=w):=fun w=>frexp_is hr hi hm F w
 clear F hr hm hi
 go_enter Tryz.func286,Tryz.ntmps286
 go_wp2_with (go_at_call 303;refine(H.out _).mono ?_;rintro e w1 ⟨rfl,rfl⟩)
 go_ret2
 exact⟨rfl,rfl⟩
end
section
open Go.RowKit
theorem ba_append(a b:List UInt8):(⟨a.toArray⟩++⟨b.toArray⟩:ByteArray)=⟨(a++b).toArray⟩:=by
 apply ByteArray.ext
 simp
theorem ret_str{a b:ByteArray}(h:a=b):Ending.returned (.string a)=.returned (.string b):=by rw[h]
end
end Go.Proofs.YtgmlkfgfjjggnaaGreatDoor
