import Derived.Test.YtgmlkfgfjjggnaaGreatDoorSAG
set_option linter.unusedVariables false
set_option linter.unusedSimpArgs false
set_option maxHeartbeats 40000000
set_option maxRecDepth 100000
namespace Go.Proofs.YtgmlkfgfjjggnaaGreatDoor
section
open Go.RowKit
attribute [local go_sem] run_store_float run_equalIn_float
theorem isKey_any(v:Vl)(w:World):
  Calls Tryz.prog 265 #[V v.kind v.num v.flt v.str v.ref] w fun e w'=>e=.returned (.bool (keyB v))/\Below w.heap.size w w':=by
 rcases keyV_cases v with⟨hk,he⟩|⟨hk,c,k,n,f,t,r,he,hc⟩
 ·have HE:=uy he
  have HK:=uy hk
  have hfe:(FloatKind.f64.format.order v.flt v.flt==some .eq)=true:=key_feq hk
  clear hk he
  go_enter Tryz.func265,Tryz.ntmps265
  go_wp2_with (go_at_call 204;refine(ikey_any v.kind v.num v.flt v.str v.ref _).mono ?_;rintro e w1 ⟨rfl,hb⟩;rw[uh HE];obtain⟨hc,hf⟩:=bcell hb;have hz:=hb.size;simp at hz;have hz':w.heap.size<w1.heap.size:=by omega)
  go_ret
  exact⟨by rw[uh HK];simp,(((Below.refl _ _).alloc (Nat.le_refl _) _).trans (hb.mono (by simp))).alloc (by omega) _⟩
 ·have HE:=uy he
  have HK:=uy hk
  clear hk he
  by_cases hc0:c=0
  ·have h3:v.kind=3/\k=2:=hc.resolve_left (fun h=>h hc0)
   obtain⟨h3,rfl⟩:=h3
   have h3':((2:Int)==v.kind)=false:=by rw[h3];rfl
   subst hc0
   clear h3 hc
   go_enter Tryz.func265,Tryz.ntmps265
   go_wp2_with (go_at_call 204;refine(ikey_any v.kind v.num v.flt v.str v.ref _).mono ?_;rintro e w1 ⟨rfl,hb⟩;rw[uh HE];obtain⟨hc,hf⟩:=bcell hb;have hz:=hb.size;simp at hz;have hz':w.heap.size<w1.heap.size:=by omega)
   go_ret
   exact⟨by rw[uh HK];simp,(((Below.refl _ _).alloc (Nat.le_refl _) _).trans (hb.mono (by simp))).alloc (by omega) _⟩
  ·have hc':(c==0)=false:=by simp[hc0]
   clear hc0 hc
   go_enter Tryz.func265,Tryz.ntmps265
   go_wp2_with (go_at_call 204;refine(ikey_any v.kind v.num v.flt v.str v.ref _).mono ?_;rintro e w1 ⟨rfl,hb⟩;rw[uh HE];obtain⟨hc,hf⟩:=bcell hb;have hz:=hb.size;simp at hz;have hz':w.heap.size<w1.heap.size:=by omega)
   go_ret
   exact⟨by rw[uh HK];rfl,(((Below.refl _ _).alloc (Nat.le_refl _) _).trans (hb.mono (by simp))).alloc (by omega) _⟩
theorem none_eq(v:Vl):noneB v=(v.kind==0&&(v.num==0&&(fz v.flt&&(v.str.toList.isEmpty&&v.ref==0)))):=by
 unfold noneB Vl.ok validB
 by_cases h:v.kind=0
 ·simp[h,Bool.and_assoc]
 ·have:(v.kind==0)=false:=by simp[h]
  rw[this];rfl
theorem logHolds_any(la:Option Addr)(lc:Nat)(ia:Option Addr)(ic:Nat)(xa:Option Addr)(xc:Nat)(d:Dc)(w:World)(hD:DAt w la ia xa d)(hS:Small d):
  Calls Tryz.prog 243 #[Dv la lc ia ic xa xc d] w fun e w'=>e=.returned (.bool (tells (D2 d)))/\Below w.heap.size w w':=by
 have hn:=hS.n
 have HD:=uy hD
 clear hD hS
 go_enter Tryz.func243,Tryz.ntmps243
 go_wp2
 go_loopw [3,4,11] (fun li l i wr=>∃(k:Nat) (live last:Int),k<=d.n/\i=.int .i64 k/\l=.int .i64 last/\li=.int .i64 live/\logTo d k=some (live,last)/\0<=live/\live<=k/\w.heap.size<wr.heap.size/\wr.cell? ⟨w.heap.size,4,none⟩=some (.int .i64 d.live)/\wr.cell? ⟨w.heap.size,5,none⟩=some (.int .i64 d.turns)/\Below w.heap.size w wr) (fun _ _ i _=>d.n-(intOf i).toNat)
 case atStart=>exact⟨0,0,0,by omega,rfl,rfl,rfl,rfl,by omega,by omega,by simp,by simp[go_sem],by simp[go_sem],(Below.refl _ _).alloc (Nat.le_refl _) _⟩
 case round=>
  obtain⟨k,live,last,hk,rfl,rfl,rfl,hlog,hl0,hlk,hwz,c4,c5,hb⟩:=hrel
  have HLG:=uy hlog
  clear hlog
  by_cases hkn:k<d.n
  case neg=>
   have hkn':k=d.n:=by omega
   subst hkn'
   have HB:=uy hb
   clear hb
   by_cases he:live=d.live
   ·have HT:=uy (tells_yes (p:=D2 d) ⟨last,by rw[<-he];exact uh HLG⟩)
    have he':(live==d.live)=true:=by simp[he]
    clear he
    go_wp2
    go_ret
    exact⟨by rw[uh HT];simp,uh HB⟩
   ·have HT:=uy (tells_no (p:=D2 d) (fun⟨l,e⟩=>by rw[uh HLG]at e;simp only[Option.some.injEq,Prod.mk.injEq]at e;exact he e.1))
    have he':(live==d.live)=false:=by simp[he]
    clear he
    go_wp2
    go_ret
    exact⟨by rw[uh HT];simp,uh HB⟩
  obtain⟨b,off,rfl,hbl,hcs⟩:=(uh HD).log.resolve_left (by omega)
  obtain⟨e0,e1,e2,e3,e4,e5,e6,e7,e8,e9,e10⟩:=(hcs k hkn).keep (fun q=>hb.cell (p:=⟨b,q,none⟩) hbl)
  have HB:=uy hb
  clear hcs hb
  by_cases ht:(d.L k).turn=0
  ·have HN:=uy (logTo_dead (uh HLG) ht)
   rw[ht]at e10
   clear ht
   by_cases hz:(noneB (d.L k).key&&noneB (d.L k).val)=true
   ·have HT:Hid (logTo d (k+1)=some (live,last)):=uy ((uh HN).trans (if_pos hz))
    rw[none_eq,none_eq]at hz
    simp only[Bool.and_eq_true,beq_iff_eq]at hz
    obtain⟨⟨a0,a1,a2,a3,a4⟩,b0,b1,b2,b3,b4⟩:=hz
    rw[a0]at e0
    rw[a1]at e1
    rw[a4]at e4
    rw[b0]at e5
    rw[b1]at e6
    rw[b4]at e9
    have a2':(FloatKind.f64.format.order (d.L k).key.flt 0==some .eq)=true:=a2
    have b2':(FloatKind.f64.format.order (d.L k).val.flt 0==some .eq)=true:=b2
    clear a0 a1 a4 b0 b1 b4 a2 b2
    go_wp2
    go_roundw
    case rel=>exact⟨k+1,live,last,by omega,by go_num,rfl,rfl,uh HT,by omega,by omega,by simp;omega,(World.cell?_alloc_lt _ _ _ (by exact hwz)).trans c4,(World.cell?_alloc_lt _ _ _ (by exact hwz)).trans c5,(uh HB).alloc (uh HB).size _⟩
    case measure=>simp[intOf];omega
   ·have HT:=uy (not_D2 hkn ((uh HN).trans (if_neg hz)))
    rw[none_eq,none_eq]at hz
    have HZ:=uy hz
    clear hz
    go_wp2_with fail
    all_goals first|(go_ret;exact⟨by rw[uh HT];rfl,(uh HB).alloc (uh HB).size _⟩)|(exfalso;apply uh HZ;simp_all [fz])
  ·have HN:=uy (logTo_live (uh HLG) ht)
   have ht':((d.L k).turn==0)=false:=by simp[ht]
   clear ht
   by_cases t1:(d.L k).turn<=last
   ·have HT:=uy (not_D2 hkn ((uh HN).trans (if_neg (by unfold pairB;simp;intros;omega))))
    go_wp2_with fail
    go_ret
    exact⟨by rw[uh HT];rfl,(uh HB).alloc (uh HB).size _⟩
   by_cases t2:d.turns<(d.L k).turn
   ·have HT:=uy (not_D2 hkn ((uh HN).trans (if_neg (by unfold pairB;simp;intros;omega))))
    go_wp2_with fail
    go_ret
    exact⟨by rw[uh HT];rfl,(uh HB).alloc (uh HB).size _⟩
   obtain⟨W,hW⟩:∃W,W=wr.alloc (.cells #[.int .i64 (d.L k).key.kind,.int .i64 (d.L k).key.num,.float .f64 (d.L k).key.flt,.string (d.L k).key.str,.int .i64 (d.L k).key.ref,.int .i64 (d.L k).val.kind,.int .i64 (d.L k).val.num,.float .f64 (d.L k).val.flt,.string (d.L k).val.str,.int .i64 (d.L k).val.ref,.int .i64 (d.L k).turn] 96):=⟨_,rfl⟩
   have HBW:Hid (Below w.heap.size w W):=uy (by rw[hW];exact(uh HB).alloc (uh HB).size _)
   have hzW:wr.heap.size<W.heap.size:=by rw[hW];simp
   have y5:W.cell? ⟨wr.heap.size,5,none⟩=some (.int .i64 (d.L k).val.kind):=by rw[hW];simp[go_sem]
   have y6:W.cell? ⟨wr.heap.size,6,none⟩=some (.int .i64 (d.L k).val.num):=by rw[hW];simp[go_sem]
   have y7:W.cell? ⟨wr.heap.size,7,none⟩=some (.float .f64 (d.L k).val.flt):=by rw[hW];simp[go_sem]
   have y8:W.cell? ⟨wr.heap.size,8,none⟩=some (.string (d.L k).val.str):=by rw[hW];simp[go_sem]
   have y9:W.cell? ⟨wr.heap.size,9,none⟩=some (.int .i64 (d.L k).val.ref):=by rw[hW];simp[go_sem]
   have y10:W.cell? ⟨wr.heap.size,10,none⟩=some (.int .i64 (d.L k).turn):=by rw[hW];simp[go_sem]
   have z4:W.cell? ⟨w.heap.size,4,none⟩=some (.int .i64 d.live):=by rw[hW];exact(World.cell?_alloc_lt _ _ _ (by exact hwz)).trans c4
   have z5:W.cell? ⟨w.heap.size,5,none⟩=some (.int .i64 d.turns):=by rw[hW];exact(World.cell?_alloc_lt _ _ _ (by exact hwz)).trans c5
   go_wp2_with fail
   rw[<-hW]
   clear hW
   refine(isKey_any (d.L k).key _).mono ?_
   rintro e w1 ⟨rfl,hb1⟩
   have HB1:=uy ((uh HBW).trans (hb1.mono (uh HBW).size))
   have x5:=(hb1.cell (p:=⟨wr.heap.size,5,none⟩) hzW).trans y5
   have x6:=(hb1.cell (p:=⟨wr.heap.size,6,none⟩) hzW).trans y6
   have x7:=(hb1.cell (p:=⟨wr.heap.size,7,none⟩) hzW).trans y7
   have x8:=(hb1.cell (p:=⟨wr.heap.size,8,none⟩) hzW).trans y8
   have x9:=(hb1.cell (p:=⟨wr.heap.size,9,none⟩) hzW).trans y9
   have x10:=(hb1.cell (p:=⟨wr.heap.size,10,none⟩) hzW).trans y10
   have hwW:w.heap.size<W.heap.size:=by omega
   have u4:=(hb1.cell (p:=⟨w.heap.size,4,none⟩) hwW).trans z4
   have u5:=(hb1.cell (p:=⟨w.heap.size,5,none⟩) hwW).trans z5
   have hz1:wr.heap.size<w1.heap.size:=Nat.lt_of_lt_of_le hzW hb1.size
   clear hb1 y5 y6 y7 y8 y9 y10 z4 z5 e0 e1 e2 e3 e4 e5 e6 e7 e8 e9 e10 c4 c5
   cases t3:keyB (d.L k).key
   ·have HT:=uy (not_D2 hkn ((uh HN).trans (if_neg (by unfold pairB;simp[t3]))))
    clear t1 t2
    go_wp2_with fail
    go_ret
    exact⟨by rw[uh HT];rfl,uh HB1⟩
   go_wp2_with fail
   refine(isValid_any (d.L k).val.kind (d.L k).val.num (d.L k).val.flt (d.L k).val.str (d.L k).val.ref _).mono ?_
   rintro e w2 ⟨rfl,hb2⟩
   have HB2:=uy ((uh HB1).trans (hb2.mono (uh HB1).size))
   have v5:=(hb2.cell (p:=⟨wr.heap.size,5,none⟩) hz1).trans x5
   have v10:=(hb2.cell (p:=⟨wr.heap.size,10,none⟩) hz1).trans x10
   have hw1:w.heap.size<w1.heap.size:=by omega
   have s4:=(hb2.cell (p:=⟨w.heap.size,4,none⟩) hw1).trans u4
   have s5:=(hb2.cell (p:=⟨w.heap.size,5,none⟩) hw1).trans u5
   have hw2:w.heap.size<w2.heap.size:=Nat.lt_of_lt_of_le hw1 hb2.size
   clear hb2 x5 x6 x7 x8 x9 x10 u4 u5
   cases t4:(d.L k).val.ok
   ·have HT:=uy (not_D2 hkn ((uh HN).trans (if_neg (by unfold pairB;simp[t4]))))
    have t4':validB (d.L k).val.kind (d.L k).val.num (d.L k).val.flt (d.L k).val.str (d.L k).val.ref=false:=t4
    rw[t4']
    clear t1 t2
    go_wp2_with fail
    go_ret
    exact⟨by rw[uh HT];rfl,uh HB2⟩
   have t4':validB (d.L k).val.kind (d.L k).val.num (d.L k).val.flt (d.L k).val.str (d.L k).val.ref=true:=t4
   rw[t4']
   by_cases t5:(d.L k).val.kind=0
   ·have HT:=uy (not_D2 hkn ((uh HN).trans (if_neg (by unfold pairB;simp[t5]))))
    rw[t5]at v5
    clear t1 t2 t5
    go_wp2_with fail
    go_ret
    exact⟨by rw[uh HT];rfl,uh HB2⟩
   ·have HT:Hid (logTo d (k+1)=some (live+1,(d.L k).turn)):=uy ((uh HN).trans (if_pos (by unfold pairB;simp[t3,t4,t5];omega)))
    have t5':((d.L k).val.kind==0)=false:=by simp[t5]
    clear t1 t2 t5
    go_wp2
    go_roundw
    case rel=>exact⟨k+1,live+1,(d.L k).turn,by omega,by go_num,rfl,by go_num,uh HT,by omega,by omega,hw2,s4,s5,uh HB2⟩
    case measure=>simp[intOf];omega
end
end Go.Proofs.YtgmlkfgfjjggnaaGreatDoor
