import Derived.Test.YtgmlkfgfjjggnaaGreatDoorSAR
import Derived.Test.YtgmlkfgfjjggnaaGreatDoorSBL
set_option linter.unusedVariables false
set_option linter.unusedSimpArgs false
set_option maxHeartbeats 40000000
set_option maxRecDepth 100000
namespace Go.Proofs.YtgmlkfgfjjggnaaGreatDoor
section
open Go.RowKit
attribute [local go_sem] run_store_float run_equalIn_float run_store_func
theorem law_sites(a:Option Addr)(len cap:Nat)(w:World)(hT:Tabs w)(hE:ErrG w)(hcode:CodeAt w w.heap.size a len)(hle:(len:Int)<=1048576):
  Calls Tryz.prog 8 #[.slice a len cap] w fun e w'=>e=.returned (.bool true)/\Below w.heap.size w w':=by
 obtain⟨z0,z00,z01,hz0⟩:=wByte_at a len cap 0 w hcode hle (by decide)
 obtain⟨z1,z10,z11,hz1⟩:=wByte_at a len cap 1 w hcode hle (by decide)
 obtain⟨i0,hi0,iz0,iz1,iz2⟩:=info_parts infoActs
 obtain⟨n,hn⟩:∃n:Nat,(n:Int)=1+z0%90:=⟨(1+z0%90).toNat,by omega⟩
 obtain⟨odd,hodd⟩:∃odd:Nat,(odd:Int)=z1%3:=⟨(z1%3).toNat,by omega⟩
 have hn90:n<=90:=by omega
 have hn0:0<n:=by omega
 have ho3:odd<3:=by omega
 have t0:Int.tmod z0 90=z0%90:=Int.tmod_eq_emod_of_nonneg z00
 have t1:Int.tmod z1 3=z1%3:=Int.tmod_eq_emod_of_nonneg z10
 have HT:=uy hT
 have HE:=uy hE
 have HZ0:=uy (hz0 w (fun _ _=>rfl))
 have HZ1:=uy (hz1 w (fun _ _=>rfl))
 have d0:decide ((1048576:Int)<(len:Int))=false:=by simp;omega
 clear hz0 hz1 hT hE hcode
 go_enter Tryz.func8,Tryz.ntmps8
 go_wp2_with fail
 refine(uh HZ0).mono ?_
 rintro e wx ⟨rfl,hw⟩
 have hw:=hw.symm
 subst hw
 go_wp2_with fail
 refine(uh HZ1).mono ?_
 rintro e wx ⟨rfl,hw⟩
 have hw:=hw.symm
 subst hw
 have HA0:Hid (AR w [] (.slice none 0 0) w):=uy ⟨World.ownsRow_nil _ _ _ _,Below.refl _ _⟩
 clear HZ0 HZ1
 go_wp2_with fail
 obtain⟨oz,hoz⟩:∃oz:Int,oz=z1%3:=⟨_,rfl⟩
 rw[<-hn,<-hoz]
 have HOO:Hid ((odd:Int)=oz):=uy (hodd.trans hoz.symm)
 clear hn hodd hoz t0 t1 z00 z01 z10 z11
 refine(wKeyS 3 (by decide) _).mono ?_
 rintro e w1 ⟨rfl,hb1⟩
 have HA1:=uy ((uh HA0).below hb1)
 have HLL:Hid (([]:List Ac).length<=400):=uy (by decide)
 clear hb1 HA0
 go_wp2_with (first|(at_builtin;refine append_acts [aSite (wkS 3)] rfl _ _ rfl (uh HA1) rfl rfl rfl (by decide) (by have:=uh HLL;omega) ?_;intro v5 w5 hA5;have HA5:=uy hA5;clear hA5))
 have HA2:Hid (AR w ([aSite (wkS 3)]++tabsA (wkS 1) (wkS 3) (κW 9) 0) v5 w5):=HA5
 clear HA5 HA1 HLL
 go_loopw [5,6] (fun v i wr=>∃(q:Nat),q<=n/\i=.int .i64 q/\AR w ([aSite (wkS 3)]++tabsA (wkS 1) (wkS 3) (κW 9) q) v wr) (fun _ i _=>n-(intOf i).toNat)
 case atStart=>exact⟨0,Nat.zero_le _,rfl,uh HA2⟩
 case round=>
  rename_i vq _
  clear HA2
  obtain⟨q,hq,rfl,hAq⟩:=hrel
  have HLL:Hid (([aSite (wkS 3)]++tabsA (wkS 1) (wkS 3) (κW 9) q).length<=300):=uy (by simp[tabsA_length];omega)
  have HA:=uy hAq
  by_cases hqn:q<n
  ·clear hAq
   go_wp2_with fail
   refine(wKeyS 1 (by decide) _).mono ?_
   rintro e w1 ⟨rfl,hb1⟩
   have HA1:=uy ((uh HA).below hb1)
   clear hb1
   go_wp2_with fail
   refine(wKeyS 9 (by decide) _).mono ?_
   rintro e w2 ⟨rfl,hb1⟩
   have HA2:=uy ((uh HA1).below hb1)
   clear hb1
   go_wp2_with fail
   refine(wKeyS 3 (by decide) _).mono ?_
   rintro e w3 ⟨rfl,hb1⟩
   have HA3:=uy ((uh HA2).below hb1)
   clear hb1 HA HA1 HA2
   go_wp2_with (first|(at_builtin;refine append_acts (tblA (wkS 1) (wkS 3) (κW 9) q) rfl _ _ rfl (uh HA3) rfl rfl rfl (by decide) (by have:=uh HLL;omega) ?_;intro v5 w5 hA5;have HA5:=uy hA5;clear hA5))
   have HA6:Hid (AR w ([aSite (wkS 3)]++tabsA (wkS 1) (wkS 3) (κW 9) (q+1)) v5 w5):=uy (by have:=uh HA5;rwa [List.append_assoc]at this)
   clear HA5
   go_roundw
   case rel=>exact⟨q+1,by omega,by go_num,uh HA6⟩
   case measure=>simp[intOf];omega
  ·have hqe:n=q:=by omega
   subst hqe
   clear hAq hqn hq
   go_upto_region 12 with(first|(at_builtin;refine append_acts [aNew] rfl _ _ rfl (uh HA) rfl rfl rfl (by decide) (by have:=uh HLL;omega) ?_;intro v5 w5 hA5;have HA5:=uy hA5;clear hA5))
   have hLL:=uh HLL
   clear HA HLL
   have HLL:Hid (([aSite (wkS 3)]++tabsA (wkS 1) (wkS 3) (κW 9) n++[aNew]).length<=301):=uy (by rw[List.length_append];exact Nat.add_le_add hLL (Nat.le_refl 1))
   clear hLL
   rcases(show(oz=0/\odd=0)\/(oz=1/\odd=1)\/(oz=2/\odd=2) by have:=uh HOO;omega)with⟨rfl,ho⟩|⟨rfl,ho⟩|⟨rfl,ho⟩
   case' inl=>
    have HO:=uy ho
    clear ho
    have HH:Hid (AR w (headA n odd) v5 w5):=uy (by
     have:=uh HA5
     rw[uh HO]
     exact this)
    clear HA5 HLL
   case' inr.inl=>
    have HO:=uy ho
    clear ho
    go_wp2_with fail
    refine(wKeyS 3 (by decide) _).mono ?_
    rintro e y0 ⟨rfl,hb1⟩
    have HY0:=uy ((uh HA5).below hb1)
    clear hb1 HA5
    go_wp2_with fail
    refine(wKeyS 3 (by decide) _).mono ?_
    rintro e y1 ⟨rfl,hb1⟩
    have HY1:=uy ((uh HY0).below hb1)
    clear hb1 HY0
    go_upto_region 14 with(first|(at_builtin;refine append_acts [aPut n (strV (wkS 3)) (strV (wkS 3))] rfl _ _ rfl (uh HY1) rfl rfl rfl (by decide) (by have:=uh HLL;omega) ?_;intro v5 w5 hA5;have HA5:=uy hA5;clear hA5))
    clear HY1
    have HH:Hid (AR w (headA n odd) v5 w5):=uy (by
     have:=uh HA5
     simp only[List.append_assoc]at this
     rw[uh HO]
     exact this)
    clear HA5 HLL
   case' inr.inr=>
    have HO:=uy ho
    clear ho
    go_wp2_with fail
    refine(wKeyS 3 (by decide) _).mono ?_
    rintro e y0 ⟨rfl,hb1⟩
    have HY0:=uy ((uh HA5).below hb1)
    clear hb1 HA5
    go_wp2_with fail
    refine(wKeyS 3 (by decide) _).mono ?_
    rintro e y1 ⟨rfl,hb1⟩
    have HY1:=uy ((uh HY0).below hb1)
    clear hb1 HY0
    go_upto_region 14 with(first|(at_builtin;refine append_acts [aPut n (strV (wkS 3)) (strV (wkS 3))] rfl _ _ rfl (uh HY1) rfl rfl rfl (by decide) (by have:=uh HLL;omega) ?_;intro v5 w5 hA5;have HA5:=uy hA5;clear hA5))
    have hLL:=uh HLL
    clear HLL
    have HLL:Hid (([aSite (wkS 3)]++tabsA (wkS 1) (wkS 3) (κW 9) n++[aNew]++[aPut n (strV (wkS 3)) (strV (wkS 3))]).length<=302):=uy (by rw[List.length_append];exact Nat.add_le_add hLL (Nat.le_refl 1))
    clear hLL HY1
    go_wp2_with fail
    refine(wKeyS 3 (by decide) _).mono ?_
    rintro e x0 ⟨rfl,hb1⟩
    have HX0:=uy ((uh HA5).below hb1)
    clear hb1 HA5
    go_upto_region 16 with(first|(at_builtin;refine append_acts [aPut n (intV 0) (strV (wkS 3))] rfl _ _ rfl (uh HX0) rfl rfl rfl (by decide) (by have:=uh HLL;omega) ?_;intro v5 w5 hA5;have HA5:=uy hA5;clear hA5))
    clear HX0
    have HH:Hid (AR w (headA n odd) v5 w5):=uy (by
     have:=uh HA5
     simp only[List.append_assoc]at this
     rw[uh HO]
     exact this)
    clear HA5 HLL
   all_goals
    obtain⟨K,hK⟩:∃K,K=2+3*n+odd:=⟨_,rfl⟩
    obtain⟨av,cv,rfl⟩:=(uh HH).slice ((headA_length ho3).trans hK.symm)
    have hK4:K<=300:=by omega
    have HK:=uy hK
    clear hK
    go_wp2_with fail
    go_loopw [5,8] (fun v i wr=>∃(q:Nat),q<=n+1/\i=.int .i64 q/\AR w (headA n odd++fldsA q) v wr) (fun _ i _=>n+1-(intOf i).toNat)
    case atStart=>exact⟨0,Nat.zero_le _,rfl,by have:=uh HH;simpa[fldsA]using this⟩
    case round=>
     clear HH
     obtain⟨q,hq,rfl,hAq⟩:=hrel
     have HLL:Hid ((headA n odd++fldsA q).length<=400):=uy (by rw[List.length_append,headA_length ho3,fldsA_length];omega)
     have HA:=uy hAq
     clear hAq
     by_cases hqn:q<n+1
     ·have hqd:decide ((q:Int)<=(n:Int))=true:=by simp;omega
      go_wp2_with (first|(at_builtin;refine append_acts [aFld q] rfl _ _ rfl (uh HA) rfl rfl rfl (by decide) (by have:=uh HLL;omega) ?_;intro v5 w5 hA5;have HA5:=uy hA5;clear hA5))
      have HA6:Hid (AR w (headA n odd++fldsA (q+1)) v5 w5):=uy (by have:=uh HA5;rwa [List.append_assoc]at this)
      clear HA5
      go_roundw
      case rel=>exact⟨q+1,by omega,by go_num,uh HA6⟩
      case measure=>simp[intOf];omega
     ·have hqe:q=n+1:=by omega
      subst hqe
      have hqd:decide (((n+1:Nat):Int)<=(n:Int))=false:=by simp;omega
      clear hqn hq
      go_upto_region 22 with(first|(at_builtin;refine append_acts [aFld 0] rfl _ _ rfl (uh HA) rfl rfl rfl (by decide) (by have:=uh HLL;omega) ?_;intro v5 w5 hA5;have HA5:=uy hA5;clear hA5))
      obtain⟨N,hN⟩:∃N,N=4+4*n+odd:=⟨_,rfl⟩
      have HS:Hid (AR w (scrA n odd) v5 w5):=HA5
      clear HA5 HLL HA
      have hlen:(scrA n odd).length=N:=(scrA_length ho3).trans hN.symm
      obtain⟨bv,dv,rfl⟩:=(uh HS).slice hlen
      have HN:=uy hN
      have hN4:N<=400:=by omega
      have HPL:=uy (implPlay_any _ N (acF (scrA n odd)) w5 (hlen▸(uh HS).at (by omega)) (by omega) (fun i hi=>wf_acF (wf_scr n odd) i (by omega)) (lastsT _ _ (uh HT) (uh HS).bel) ((uh HE).below (uh HS).bel (uh HE).lt) (fun i hi=>deed_acF (wf_scr n odd) i (by omega)))
      have HB5:=uy (uh HS).bel
      clear HS hN hlen hqd
      go_wp2_with fail
      refine(uh HPL).mono ?_
      rintro e w6 ⟨va,vF,vT,vS,H,lo,rfl,hP⟩
      obtain⟨fa,fc,ta,tc,sa,sc,rfl,rfl,rfl⟩:=hP.st.forms
      obtain⟨ra,rc,rfl⟩:=own_slice hP.row
      obtain⟨s1,s2,s3,s4⟩:=sites_says hn90 hn0 ho3
      rw[<-uh HN]at s3 s4
      rw[s3]
      obtain⟨nf6,hnf6⟩:∃x,x=(aftS E0 (acF (scrA n odd)) N).nf:=⟨_,rfl⟩
      obtain⟨nt6,hnt6⟩:∃x,x=(aftS E0 (acF (scrA n odd)) N).nt:=⟨_,rfl⟩
      rw[<-hnf6,<-hnt6]
      have HP:=uy hP
      have HS12:=uy (And.intro s1 s2)
      have HS4:=uy s4
      have HS3:=uy s3
      clear hP s1 s2 s3 s4 hnf6 hnt6
      go_wp2_with fail
      obtain⟨W7,hW7⟩:∃W7,W7=w6.alloc (.cells #[.bool true,.slice ra N rc,.slice fa nf6 fc,.slice ta nt6 tc,.slice sa 1 sc] 62):=⟨_,rfl⟩
      rw[<-hW7]
      have hb7:Below w6.heap.size w6 W7:=by rw[hW7];exact(Below.refl _ _).alloc (Nat.le_refl _) _
      have hp7:W7.heap[w6.heap.size]?=some (.cells #[.bool true,.slice ra N rc,.slice fa nf6 fc,.slice ta nt6 tc,.slice sa 1 sc] 62 (0,0)):=by rw[hW7];exact Deep.blk_alloc_new _ _
      obtain⟨pb,hpb⟩:∃pb,pb=w6.heap.size:=⟨_,rfl⟩
      rw[<-hpb]at hp7 ⊢
      have lpb:=blk_lt hp7
      have HR7:=uy (own_belowK (uh HP).row hb7)
      have HB7:Hid (Below w.heap.size w W7):=uy ((uh HB5).trans (((uh HP).below.trans (hb7.mono (uh HP).below.size)).mono (uh HB5).size))
      have HP7:=uy hp7
      have HBB7:=uy hb7
      clear hW7 hb7 hp7 hpb
      go_loopw [10] (fun i wr=>∃(q:Nat),q<=n/\i=.int .i64 q/\Below W7.heap.size W7 wr) (fun i _=>n-(intOf i).toNat)
      case atStart=>exact⟨0,Nat.zero_le _,rfl,Below.refl _ _⟩
      case round=>
       obtain⟨q,hq,rfl,hbr⟩:=hrel
       have HBR:=uy hbr
       have hzr:=hbr.size
       have x1:wr.cell? ⟨pb,1,none⟩=some (.slice ra N rc):=(hbr.cell (p:=⟨pb,1,none⟩) lpb).trans (by simp[World.cell?,uh HP7])
       have lpr:pb<wr.heap.size:=by omega
       by_cases hqn:q<n
       ·obtain⟨rb,hra,hrb⟩:∃rb,ra=some ⟨rb,0,none⟩/\rb<W7.heap.size:=by
         obtain⟨hl,⟨hv,h0⟩|⟨g,cp,cur,hv,_,hblk,_⟩⟩:=id (uh HR7)
         ·have:=uh HN;omega
         ·cases hv;exact⟨g,rfl,blk_lt hblk⟩
        subst hra
        have hKN:K+q<N:=by have:=uh HN;have:=uh HK;omega
        have hy:∀j u,(anL (ansQ E0 (acF (scrA n odd)) (K+q)))[j]?=some u->wr.cell? ⟨rb,(K+q)*12+j,none⟩=some u:=fun j u hu=>by
         have hj:j<12:=(List.getElem?_eq_some_iff.1 hu).1
         rw[hbr.cell (p:=⟨rb,(K+q)*12+j,none⟩) hrb,World.ownsRow.cellAt (uh HR7) ((K+q)*12+j) (by omega),anR_get hKN hj,hu]
        have hv:(ansQ E0 (acF (scrA n odd)) (K+q)).val=intV q:=by rw[uh HK];exact(uh HS12).1 q hqn
        have y0:wr.cell? ⟨rb,(K+q)*12+7,none⟩=some (.int .i64 2):=by rw[hy 7 _ rfl,hv];rfl
        have y1:wr.cell? ⟨rb,(K+q)*12+8,none⟩=some (.int .i64 q):=by rw[hy 8 _ rfl,hv];rfl
        have y2:wr.cell? ⟨rb,(K+q)*12+9,none⟩=some (.float .f64 0):=by rw[hy 9 _ rfl,hv];rfl
        have y3:wr.cell? ⟨rb,(K+q)*12+10,none⟩=some (.string ⟨#[]⟩):=by rw[hy 10 _ rfl,hv];rfl
        have y4:wr.cell? ⟨rb,(K+q)*12+11,none⟩=some (.int .i64 0):=by rw[hy 11 _ rfl,hv];rfl
        have lrb:rb<wr.heap.size:=by omega
        clear hbr hy hv
        go_wp2_with fail
        refine(wVal_self 2 q 0 ⟨#[]⟩ 0 _).mono ?_
        rintro e w8 ⟨rfl,hb8⟩
        have HB8:=uy ((uh HBR).trans (hb8.mono hzr))
        clear hb8
        go_wp2
        go_roundw
        case rel=>exact⟨q+1,by omega,by go_num,uh HB8⟩
        case measure=>simp[intOf];omega
       ·have hqe:n=q:=by omega
        subst hqe
        obtain⟨sb,so,hsa,hsl,hsc⟩:∃sb so,sa=some ⟨sb,so,none⟩/\sb<w6.heap.size/\SCl w6 sb so (siE (wkS 3) n odd):=by
         obtain⟨a',cp',e,hat⟩:=(uh HP).st.si.at
         cases e
         rcases hat with h0|⟨b,off,e2,hlt,hc⟩
         ·have:=uh HS3;omega
         ·refine⟨b,off,e2,hlt,?_⟩
          have h:=hc 0 (by rw[uh HS3];decide)
          rw[uh HS4]at h
          simpa using h
        subst hsa
        clear hqn hq hbr
        go_upto_region 31 with fail
        obtain⟨Wb,hWb⟩:∃Wb,Wb=wr.alloc (.cells #[.int .i64 0,.int .i64 0,.float .f64 0,.string ⟨#[]⟩,.int .i64 0] 43):=⟨_,rfl⟩
        rw[<-hWb]
        have HBB:Hid (Below W7.heap.size W7 Wb):=uy (by rw[hWb];exact(uh HBR).alloc (uh HBR).size _)
        have hlb:Wb.heap[wr.heap.size]?=some (.cells #[.int .i64 0,.int .i64 0,.float .f64 0,.string ⟨#[]⟩,.int .i64 0] 43 (0,0)):=by rw[hWb];exact Deep.blk_alloc_new _ _
        obtain⟨lb,hlb'⟩:∃lb,lb=wr.heap.size:=⟨_,rfl⟩
        rw[<-hlb']at hlb ⊢
        have hgl:W7.heap.size<=lb:=by rw[hlb'];exact hzr
        have HLB:=uy hlb
        clear hWb hlb hlb' x1 lpr hzr
        have HSI:=uy (siE_says (n:=n) ho3)
        first
         |(have ho:odd=0:=uh HO
           have HM:Hid ((siE (wkS 3) n odd).misses=2/\(siE (wkS 3) n odd).hits=(n:Int)+2-2):=uy (by have:=uh HSI;rwa [if_neg (by omega)]at this)
           have HV:Hid (lastV (wkS 3) odd=⟨0,0,0,⟨#[]⟩,0⟩):=uy (by rw[ho];rfl)
           clear ho HSI
           obtain⟨Wc,hWc⟩:∃Wc,Wc=Wb:=⟨_,rfl⟩
           subst hWc
           have HBC:=HBB
           have HLC:=HLB
           clear HBB HLB
           go_upto_region 36 with fail)
         |(have ho:odd=1:=uh HO
           have HM:Hid ((siE (wkS 3) n odd).misses=3/\(siE (wkS 3) n odd).hits=(n:Int)+2-3):=uy (by have:=uh HSI;rwa [if_pos ho]at this)
           have HV:Hid (lastV (wkS 3) odd=⟨4,0,0,wkS 3,0⟩):=uy (by rw[ho];rfl)
           clear ho HSI
           go_wp2_with fail
           refine(wKeyS 3 (by decide) _).mono ?_
           rintro e w8 ⟨rfl,hb8⟩
           obtain⟨Wc,hst,hSC⟩:=storeAt_any (t:=43) (v:=V 4 0 0 (wkS 3) 0) (vs:=[.int .i64 4,.int .i64 0,.float .f64 0,.string (wkS 3),.int .i64 0]) (old:=[.int .i64 0,.int .i64 0,.float .f64 0,.string ⟨#[]⟩,.int .i64 0]) sz_value ((hb8.block lb (blk_lt (uh HLB))).trans (uh HLB)) rfl rfl (by simp[Value.oneCell']) rfl
           have HST:=uy hst
           have HBC:Hid (Below W7.heap.size W7 Wc):=uy (hSC.below ((uh HBB).trans (hb8.mono (uh HBB).size)) hgl)
           have HLC:=uy hSC.blk
           clear hst hSC hb8 HBB HLB
           go_upto_region 36 with(refine wpList_store rfl rfl _ (uh HST) ?_)
           clear HST)
         |(have ho:odd=2:=uh HO
           have HM:Hid ((siE (wkS 3) n odd).misses=2/\(siE (wkS 3) n odd).hits=(n:Int)+2-2):=uy (by have:=uh HSI;rwa [if_neg (by omega)]at this)
           have HV:Hid (lastV (wkS 3) odd=⟨4,0,0,wkS 3,0⟩):=uy (by rw[ho];rfl)
           clear ho HSI
           go_wp2_with fail
           refine(wKeyS 3 (by decide) _).mono ?_
           rintro e w8 ⟨rfl,hb8⟩
           obtain⟨Wc,hst,hSC⟩:=storeAt_any (t:=43) (v:=V 4 0 0 (wkS 3) 0) (vs:=[.int .i64 4,.int .i64 0,.float .f64 0,.string (wkS 3),.int .i64 0]) (old:=[.int .i64 0,.int .i64 0,.float .f64 0,.string ⟨#[]⟩,.int .i64 0]) sz_value ((hb8.block lb (blk_lt (uh HLB))).trans (uh HLB)) rfl rfl (by simp[Value.oneCell']) rfl
           have HST:=uy hst
           have HBC:Hid (Below W7.heap.size W7 Wc):=uy (hSC.below ((uh HBB).trans (hb8.mono (uh HBB).size)) hgl)
           have HLC:=uy hSC.blk
           clear hst hSC hb8 HBB HLB
           go_upto_region 36 with(refine wpList_store rfl rfl _ (uh HST) ?_)
           clear HST)
        have hbc:=uh HBC
        have hb6c:Below w6.heap.size w6 Wc:=(uh HBB7).trans (hbc.mono (uh HBB7).size)
        have x4:Wc.cell? ⟨pb,4,none⟩=some (.slice (some ⟨sb,so,none⟩) 1 sc):=(hbc.cell (p:=⟨pb,4,none⟩) lpb).trans (by simp[World.cell?,uh HP7])
        obtain⟨hz,hhz⟩:∃hz,hz=(siE (wkS 3) n odd).hits:=⟨_,rfl⟩
        obtain⟨mz,hmz⟩:∃mz,mz=(siE (wkS 3) n odd).misses:=⟨_,rfl⟩
        have s0:Wc.cell? ⟨sb,so,none⟩=some (.string (siE (wkS 3) n odd).key):=(hb6c.cell (p:=⟨sb,so,none⟩) hsl).trans hsc.c0
        have s1:Wc.cell? ⟨sb,so+1,none⟩=some (.int .i64 (siE (wkS 3) n odd).shape):=(hb6c.cell (p:=⟨sb,so+1,none⟩) hsl).trans hsc.c1
        have s2:Wc.cell? ⟨sb,so+2,none⟩=some (.int .i64 (siE (wkS 3) n odd).place):=(hb6c.cell (p:=⟨sb,so+2,none⟩) hsl).trans hsc.c2
        have s3:Wc.cell? ⟨sb,so+3,none⟩=some (.int .i64 hz):=(hb6c.cell (p:=⟨sb,so+3,none⟩) hsl).trans (by rw[hhz];exact hsc.c3)
        have s4:Wc.cell? ⟨sb,so+4,none⟩=some (.int .i64 mz):=(hb6c.cell (p:=⟨sb,so+4,none⟩) hsl).trans (by rw[hmz];exact hsc.c4)
        obtain⟨sk,hsk⟩:∃sk,sk=(siE (wkS 3) n odd).key:=⟨_,rfl⟩
        obtain⟨sh,hsh⟩:∃sh,sh=(siE (wkS 3) n odd).shape:=⟨_,rfl⟩
        obtain⟨sp,hsp⟩:∃sp,sp=(siE (wkS 3) n odd).place:=⟨_,rfl⟩
        rw[<-hsk]at s0
        rw[<-hsh]at s1
        rw[<-hsp]at s2
        have HM2:=uy (And.intro (hmz.trans (uh HM).1) (hhz.trans (uh HM).2))
        have lpc:pb<Wc.heap.size:=Nat.lt_of_lt_of_le lpb hbc.size
        have lsc:sb<Wc.heap.size:=Nat.lt_of_lt_of_le hsl hb6c.size
        clear hsc hbc hb6c hhz hmz hsk hsh hsp HM
        go_upto_region 37 with fail
        obtain⟨W9,hW9⟩:∃W9,W9=Wc.alloc (.cells #[.string sk,.int .i64 sh,.int .i64 sp,.int .i64 hz,.int .i64 mz] 103):=⟨_,rfl⟩
        rw[<-hW9]
        have hb9:Below Wc.heap.size Wc W9:=by rw[hW9];exact(Below.refl _ _).alloc (Nat.le_refl _) _
        have hp9:W9.heap[Wc.heap.size]?=some (.cells #[.string sk,.int .i64 sh,.int .i64 sp,.int .i64 hz,.int .i64 mz] 103 (0,0)):=by rw[hW9];exact Deep.blk_alloc_new _ _
        obtain⟨xb,hxb⟩:∃xb,xb=Wc.heap.size:=⟨_,rfl⟩
        rw[<-hxb]at hp9 ⊢
        have lx9:=blk_lt hp9
        have z3:W9.cell? ⟨xb,3,none⟩=some (.int .i64 hz):=by simp[World.cell?,hp9]
        have z4:W9.cell? ⟨xb,4,none⟩=some (.int .i64 mz):=by simp[World.cell?,hp9]
        have hb79:Below W7.heap.size W7 W9:=(uh HBC).trans (hb9.mono (uh HBC).size)
        have lp9:pb<W9.heap.size:=Nat.lt_of_lt_of_le lpb hb79.size
        have x1:W9.cell? ⟨pb,1,none⟩=some (.slice ra N rc):=(hb79.cell (p:=⟨pb,1,none⟩) lpb).trans (by simp[World.cell?,uh HP7])
        obtain⟨lv,hlv⟩:∃lv,lv=lastV (wkS 3) odd:=⟨_,rfl⟩
        have hl9:W9.heap[lb]?=some (.cells #[.int .i64 lv.kind,.int .i64 lv.num,.float .f64 lv.flt,.string lv.str,.int .i64 lv.ref] 43 (0,0)):=(hb9.block lb (blk_lt (uh HLC))).trans (by rw[hlv,uh HV];exact uh HLC)
        have ll9:=blk_lt hl9
        have v0:W9.cell? ⟨lb,0,none⟩=some (.int .i64 lv.kind):=by simp[World.cell?,hl9]
        have v1:W9.cell? ⟨lb,1,none⟩=some (.int .i64 lv.num):=by simp[World.cell?,hl9]
        have v2:W9.cell? ⟨lb,2,none⟩=some (.float .f64 lv.flt):=by simp[World.cell?,hl9]
        have v3:W9.cell? ⟨lb,3,none⟩=some (.string lv.str):=by simp[World.cell?,hl9]
        have v4:W9.cell? ⟨lb,4,none⟩=some (.int .i64 lv.ref):=by simp[World.cell?,hl9]
        obtain⟨rb,hra,hrb⟩:∃rb,ra=some ⟨rb,0,none⟩/\rb<W7.heap.size:=by
         obtain⟨hl,⟨hv,h0⟩|⟨g,cp,cur,hv,_,hblk,_⟩⟩:=id (uh HR7)
         ·have:=uh HN;omega
         ·cases hv;exact⟨g,rfl,blk_lt hblk⟩
        subst hra
        have hKN:K+n<N:=by have:=uh HN;have:=uh HK;omega
        obtain⟨M0,hM0⟩:∃M0,M0=K+n:=⟨_,rfl⟩
        have hwM:IntKind.i64.wrap ((K:Int)+(n:Int))=(M0:Int):=by rw[IntKind.wrap_i64];omega
        rw[<-hM0]at hKN
        obtain⟨n2,hn2⟩:∃n2:Int,n2=(n:Int)+2:=⟨_,rfl⟩
        have hwn:IntKind.i64.wrap ((n:Int)+2)=n2:=by rw[IntKind.wrap_i64];omega
        have hy:∀j u,(anL (ansQ E0 (acF (scrA n odd)) M0))[j]?=some u->W9.cell? ⟨rb,M0*12+j,none⟩=some u:=fun j u hu=>by
         have hj:j<12:=(List.getElem?_eq_some_iff.1 hu).1
         rw[hb79.cell (p:=⟨rb,M0*12+j,none⟩) hrb,World.ownsRow.cellAt (uh HR7) (M0*12+j) (by omega),anR_get hKN hj,hu]
        have hv:(ansQ E0 (acF (scrA n odd)) M0).val=lv:=by rw[hM0,uh HK,hlv];exact(uh HS12).2
        have y0:W9.cell? ⟨rb,M0*12+7,none⟩=some (.int .i64 lv.kind):=by rw[hy 7 _ rfl,hv]
        have y1:W9.cell? ⟨rb,M0*12+8,none⟩=some (.int .i64 lv.num):=by rw[hy 8 _ rfl,hv]
        have y2:W9.cell? ⟨rb,M0*12+9,none⟩=some (.float .f64 lv.flt):=by rw[hy 9 _ rfl,hv]
        have y3:W9.cell? ⟨rb,M0*12+10,none⟩=some (.string lv.str):=by rw[hy 10 _ rfl,hv]
        have y4:W9.cell? ⟨rb,M0*12+11,none⟩=some (.int .i64 lv.ref):=by rw[hy 11 _ rfl,hv]
        have lrb:rb<W9.heap.size:=Nat.lt_of_lt_of_le hrb hb79.size
        have HB9:Hid (Below w.heap.size w W9):=uy ((uh HB7).trans (hb79.mono (uh HB7).size))
        first
         |(have hm2:mz=2:=(uh HM2).1
           have hwh:IntKind.i64.wrap (n2-2)=hz:=by rw[(uh HM2).2,hn2,IntKind.wrap_i64];omega
           subst hm2)
         |(have hm2:mz=3:=(uh HM2).1
           have hwh:IntKind.i64.wrap (n2-3)=hz:=by rw[(uh HM2).2,hn2,IntKind.wrap_i64];omega
           subst hm2)
        clear hM0 hn2
        clear hy hv hlv hl9 hp9 hb9 hb79 hW9 hxb HM2 s0 s1 s2 s3 s4 x4 hgl
        refine wp_region_quiet (C:=fun w'=>Below W9.heap.size W9 w') (by kernel_rfl) (by kernel_rfl) ((Below.refl _ _).drew) ?_
        show wpQuiet _ _ _ _ [_,_,_,_,_,_,_,_,_,_,_,_,_,_,_,_,_,_,_,_,_,_,_,_,_,_] _
        (refine wpQuiet_step (fun K hK=>?_);go_simp;refine⟨_,fun w' hw'=>rfl,hK _ ?_⟩;clear hK K)
        (refine wpQuiet_step (fun K hK=>?_);go_simp;refine Exists.intro ?_ (And.intro (fun w' hw'=>?_) (hK _ ?_));rotate_left;obtain⟨hc',hf'⟩:=bcell hw';go_simp;first|rfl|exact⟨rfl,rfl⟩|exact⟨rfl⟩;clear hK K)
        iterate 5 (refine wpQuiet_step (fun K hK=>?_);go_simp;refine⟨_,fun w' hw'=>rfl,hK _ ?_⟩;clear hK K)
        iterate 2 (refine wpQuiet_step (fun K hK=>?_);go_simp;refine Exists.intro ?_ (And.intro (fun w' hw'=>?_) (hK _ ?_));rotate_left;obtain⟨hc',hf'⟩:=bcell hw';go_simp;first|rfl|exact⟨rfl,rfl⟩|exact⟨rfl⟩;clear hK K)
        refine wpQuiet_step (fun K hK=>?_)
        go_simp
        apply Exists.intro
        refine And.intro (fun w' hw'=>?_) (hK _ ?_)
        ·refine(wVal_self lv.kind lv.num lv.flt lv.str lv.ref _).mono ?_
         rintro e w'' ⟨rfl,hb⟩
         exact⟨rfl,hw'.trans (hb.mono hw'.size)⟩
        clear hK K
        iterate 2 (refine wpQuiet_step (fun K hK=>?_);go_simp;refine⟨_,fun w' hw'=>rfl,hK _ ?_⟩;clear hK K)
        (refine wpQuiet_step (fun K hK=>?_);go_simp;refine Exists.intro ?_ (And.intro (fun w' hw'=>?_) (hK _ ?_));rotate_left;obtain⟨hc',hf'⟩:=bcell hw';go_simp;first|rfl|exact⟨rfl,rfl⟩|exact⟨rfl⟩;clear hK K)
        iterate 5 (refine wpQuiet_step (fun K hK=>?_);go_simp;refine⟨_,fun w' hw'=>rfl,hK _ ?_⟩;clear hK K)
        (refine wpQuiet_step (fun K hK=>?_);go_simp;refine Exists.intro ?_ (And.intro (fun w' hw'=>?_) (hK _ ?_));rotate_left;obtain⟨hc',hf'⟩:=bcell hw';go_simp;first|rfl|exact⟨rfl,rfl⟩|exact⟨rfl⟩;clear hK K)
        iterate 7 (refine wpQuiet_step (fun K hK=>?_);go_simp;refine⟨_,fun w' hw'=>rfl,hK _ ?_⟩;clear hK K)
        refine wpQuiet_nil ?_
        intro w10 hb10
        have HB10:=uy ((uh HB9).trans (hb10.mono (uh HB9).size))
        clear hb10
        go_wp2_with fail
        go_ret
        exact⟨rfl,uh HB10⟩
end
end Go.Proofs.YtgmlkfgfjjggnaaGreatDoor
