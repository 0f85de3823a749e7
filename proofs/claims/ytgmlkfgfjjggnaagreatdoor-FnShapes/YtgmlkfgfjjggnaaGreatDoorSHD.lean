import Derived.Test.YtgmlkfgfjjggnaaGreatDoorSAA
import Derived.Test.YtgmlkfgfjjggnaaGreatDoorSAB
import Derived.Test.YtgmlkfgfjjggnaaGreatDoorSAC
import Derived.Test.YtgmlkfgfjjggnaaGreatDoorSAD
import Derived.Test.YtgmlkfgfjjggnaaGreatDoorSAE
import Derived.Test.YtgmlkfgfjjggnaaGreatDoorSAF
import Derived.Test.YtgmlkfgfjjggnaaGreatDoorSAG
import Derived.Test.YtgmlkfgfjjggnaaGreatDoorSAH
import Derived.Test.YtgmlkfgfjjggnaaGreatDoorSAI
import Derived.Test.YtgmlkfgfjjggnaaGreatDoorSAJ
import Derived.Test.YtgmlkfgfjjggnaaGreatDoorSAK
import Derived.Test.YtgmlkfgfjjggnaaGreatDoorSAL
import Derived.Test.YtgmlkfgfjjggnaaGreatDoorSAM
import Derived.Test.YtgmlkfgfjjggnaaGreatDoorSAN
import Derived.Test.YtgmlkfgfjjggnaaGreatDoorSAO
import Derived.Test.YtgmlkfgfjjggnaaGreatDoorSAP
import Derived.Test.YtgmlkfgfjjggnaaGreatDoorSAQ
import Derived.Test.YtgmlkfgfjjggnaaGreatDoorSAR
import Derived.Test.YtgmlkfgfjjggnaaGreatDoorSAS
import Derived.Test.YtgmlkfgfjjggnaaGreatDoorSAT
import Derived.Test.YtgmlkfgfjjggnaaGreatDoorSAU
import Derived.Test.YtgmlkfgfjjggnaaGreatDoorSAV
import Derived.Test.YtgmlkfgfjjggnaaGreatDoorSAW
import Derived.Test.YtgmlkfgfjjggnaaGreatDoorSAX
import Derived.Test.YtgmlkfgfjjggnaaGreatDoorSAY
import Derived.Test.YtgmlkfgfjjggnaaGreatDoorSAZ
import Derived.Test.YtgmlkfgfjjggnaaGreatDoorSBA
import Derived.Test.YtgmlkfgfjjggnaaGreatDoorSBB
import Derived.Test.YtgmlkfgfjjggnaaGreatDoorSBC
import Derived.Test.YtgmlkfgfjjggnaaGreatDoorSBD
import Derived.Test.YtgmlkfgfjjggnaaGreatDoorSBE
import Derived.Test.YtgmlkfgfjjggnaaGreatDoorSBF
import Derived.Test.YtgmlkfgfjjggnaaGreatDoorSBG
import Derived.Test.YtgmlkfgfjjggnaaGreatDoorSBH
import Derived.Test.YtgmlkfgfjjggnaaGreatDoorSBI
import Derived.Test.YtgmlkfgfjjggnaaGreatDoorSBJ
import Derived.Test.YtgmlkfgfjjggnaaGreatDoorSBK
import Derived.Test.YtgmlkfgfjjggnaaGreatDoorSBL
import Derived.Test.YtgmlkfgfjjggnaaGreatDoorSHA
import Derived.Test.YtgmlkfgfjjggnaaGreatDoorSHC
import Derived.BigQuiet
set_option linter.unusedVariables false
set_option linter.unusedSimpArgs false
set_option maxHeartbeats 40000000
set_option maxRecDepth 100000
namespace Go.Proofs.YtgmlkfgfjjggnaaGreatDoor
section
open Go.RowKit
attribute [local go_sem] run_store_float run_equalIn_float run_store_func
theorem sh_len{n m q:Nat}(hn:n<=40)(hm:m<=12)(hq:q<=n+1):(shA n m q).length<=533:=by
 rw[shA_length]
 exact Nat.le_trans (Nat.mul_le_mul (show q<=41 by omega) (show m+1<=13 by omega)) (by decide)
def HeldFh(pb tb n:Nat)(vF vT:Value)(s:Int)(w:World):Prop:=w.cell? ⟨pb,2,none⟩=some vF/\w.cell? ⟨pb,3,none⟩=some vT/\w.cell? ⟨tb,n*8,none⟩=some (.int .i64 s)
theorem law_shapes(a:Option Addr)(len cap:Nat)(w:World)(hT:Tabs w)(hE:ErrG w)(hcode:CodeAt w w.heap.size a len)(hle:(len:Int)<=1048576):
  Calls Tryz.prog 7 #[.slice a len cap] w fun e w'=>e=.returned (.bool true)/\Below w.heap.size w w':=by
 obtain⟨z0,z00,z01,hz0⟩:=wByte_at a len cap 0 w hcode hle (by decide)
 obtain⟨z1,z10,z11,hz1⟩:=wByte_at a len cap 1 w hcode hle (by decide)
 obtain⟨n,hn⟩:∃n:Nat,(n:Int)=1+z0%40:=⟨(1+z0%40).toNat,by omega⟩
 obtain⟨m,hm⟩:∃m:Nat,(m:Int)=1+z1%12:=⟨(1+z1%12).toNat,by omega⟩
 have hn40:n<=40:=by omega
 have hn0:0<n:=by omega
 have hm12:m<=12:=by omega
 have hm0:0<m:=by omega
 have t0:Int.tmod z0 40=z0%40:=Int.tmod_eq_emod_of_nonneg z00
 have t1:Int.tmod z1 12=z1%12:=Int.tmod_eq_emod_of_nonneg z10
 have HT:=uy hT
 have HE:=uy hE
 have HZ0:=uy (hz0 w (fun _ _=>rfl))
 have HZ1:=uy (hz1 w (fun _ _=>rfl))
 have d0:decide ((1048576:Int)<(len:Int))=false:=by simp;omega
 clear hz0 hz1 hT hE hcode
 go_enter Tryz.func7,Tryz.ntmps7
 go_wp2_with fail
 refine(uh HZ0).mono ?_
 rintro e wx ⟨rfl,hw⟩
 have hw:=hw.symm
 subst hw
 go_wp2_with fail
 refine(uh HZ1).mono ?_
 rintro e wx ⟨rfl,hw⟩
 have hw:=hw.symm
 subst hw
 have HA0:Hid (AR w (shA n m 0) (.slice none 0 0) w):=uy ⟨World.ownsRow_nil _ _ _ _,Below.refl _ _⟩
 clear HZ0 HZ1
 go_wp2_with fail
 rw[<-hn,<-hm]
 clear hn hm t0 t1 z00 z01 z10 z11
 go_loopw [5,6] (fun v i wr=>∃(q:Nat),q<=n+1/\i=.int .i64 q/\AR w (shA n m q) v wr) (fun _ i _=>n+1-(intOf i).toNat)
 case atStart=>exact⟨0,Nat.zero_le _,rfl,uh HA0⟩
 case round=>
  clear HA0
  obtain⟨q,hq,rfl,hAq⟩:=hrel
  have hlq:=sh_len hn40 hm12 hq
  have HLQ:=uy hlq
  have HA:=uy hAq
  clear hAq hlq
  by_cases hqn:q<n+1
  ·have hqd:decide ((q:Int)<=(n:Int))=true:=by simp;omega
   go_wp2_with (first|(at_builtin;refine append_acts [aNew] rfl _ _ rfl (uh HA) rfl rfl rfl (by decide) (by have:=uh HLQ;omega) ?_;intro v5 w5 hA5;have HA5:=uy hA5;clear hA5))
   clear HA
   go_loopw [5,7] (fun v i wr=>∃(p:Nat),p<=m/\i=.int .i64 p/\AR w ((shA n m q++[aNew])++fpA q (gT n m q) p) v wr) (fun _ i _=>m-(intOf i).toNat)
   case atStart=>exact⟨0,Nat.zero_le _,rfl,by have:=uh HA5;simpa[fpA]using this⟩
   case round=>
    clear HA5
    obtain⟨p,hp,rfl,hAp⟩:=hrel
    have HLL:Hid (((shA n m q++[aNew])++fpA q (gT n m q) p).length<=600):=uy (by rw[List.length_append,List.length_append,fpA_length];have:=uh HLQ;simp;omega)
    have HA:=uy hAp
    clear hAp
    by_cases hpm:p<m
    ·go_wp2_with fail
     refine(wKeyS p (by omega) _).mono ?_
     rintro e w1 ⟨rfl,hb1⟩
     have HA1:=uy ((uh HA).below hb1)
     clear hb1 HA
     go_upto_region 14 with fail
     obtain⟨Wb,hWb⟩:∃Wb,Wb=w1.alloc (.cells #[.int .i64 4,.int .i64 0,.float .f64 0,.string (wkS p),.int .i64 0] 43):=⟨_,rfl⟩
     rw[<-hWb]
     have HBB:Hid (Below w1.heap.size w1 Wb):=uy (by rw[hWb];exact(Below.refl _ _).alloc (Nat.le_refl _) _)
     have hlb:Wb.heap[w1.heap.size]?=some (.cells #[.int .i64 4,.int .i64 0,.float .f64 0,.string (wkS p),.int .i64 0] 43 (0,0)):=by rw[hWb];exact Deep.blk_alloc_new _ _
     obtain⟨lb,hlb'⟩:∃lb,lb=w1.heap.size:=⟨_,rfl⟩
     rw[<-hlb']at hlb ⊢
     have hgl:w1.heap.size<=lb:=by omega
     have HLB:=uy hlb
     clear hWb hlb hlb'
     by_cases htn:q=n
     ·have hd:((q:Int)==(n:Int))=true:=by simp[htn]
      have hd2:decide ((q:Int)=(n:Int))=true:=by simp[htn]
      obtain⟨r,hr⟩:∃r:Nat,r=m-1-p:=⟨_,rfl⟩
      have hri:(m:Int)-1-(p:Int)=(r:Int):=by omega
      have HG:Hid (gT n m q p=wkS r):=uy (by unfold gT;rw[if_pos htn,hr])
      have hr2:r<2000:=by omega
      clear htn hr
      have HW:Hid (∀w',Calls Tryz.prog 42 #[.int .i64 ((m:Int)-1-(p:Int))] w' fun e w''=>e=.returned (V 4 0 0 (wkS r) 0)/\Below w'.heap.size w' w''):=uy (fun w'=>by rw[hri];exact wKeyS r hr2 w')
      clear hri
      go_wp2_with fail
      refine(uh HW _).mono ?_
      rintro e w8 ⟨rfl,hb8⟩
      obtain⟨Wc,hst,hSC⟩:=storeAt_any (t:=43) (v:=V 4 0 0 (wkS r) 0) (vs:=[.int .i64 4,.int .i64 0,.float .f64 0,.string (wkS r),.int .i64 0]) (old:=[.int .i64 4,.int .i64 0,.float .f64 0,.string (wkS p),.int .i64 0]) sz_value ((hb8.block lb (blk_lt (uh HLB))).trans (uh HLB)) rfl rfl (by simp[Value.oneCell']) rfl
      have HST:=uy hst
      have hbc:Below w1.heap.size w1 Wc:=hSC.below ((uh HBB).trans (hb8.mono (uh HBB).size)) hgl
      have HA2:=uy ((uh HA1).below hbc)
      have cc:=st_cells hSC
      have c0:=cc 0 _ rfl
      have c1:=cc 1 _ rfl
      have c2:=cc 2 _ rfl
      have c3:=cc 3 _ rfl
      have c4:=cc 4 _ rfl
      have lbl:=blk_lt hSC.blk
      clear hst hSC hb8 hbc cc HBB HLB HW
      go_upto_region 16 with(refine wpList_store rfl rfl _ (uh HST) ?_)
      clear HST
      go_wp2_with (first|(at_builtin;refine append_acts [aPut q (strV (wkS r)) (intV p)] rfl _ _ rfl (uh HA2) rfl rfl rfl (by decide) (by have:=uh HLL;omega) ?_;intro v5 w5 hA5;have HA5:=uy hA5;clear hA5))
      have HA6:Hid (AR w ((shA n m q++[aNew])++fpA q (gT n m q) (p+1)) v5 w5):=uy (by have:=uh HA5;rw[<-uh HG,List.append_assoc]at this;exact this)
      clear HA5
      go_roundw
      case rel=>exact⟨p+1,by omega,by go_num,uh HA6⟩
      case measure=>simp[intOf];omega
     ·have hd:((q:Int)==(n:Int))=false:=by simp;omega
      have hd2:decide ((q:Int)=(n:Int))=false:=by simp;omega
      have HG:Hid (gT n m q p=wkS p):=uy (by unfold gT;rw[if_neg htn])
      have cc:=st_cells (vs:=[.int .i64 4,.int .i64 0,.float .f64 0,.string (wkS p),.int .i64 0]) (w:=Wb) (w':=Wb) ⟨uh HLB,fun _ _=>rfl,rfl,rfl,rfl,rfl⟩
      have c0:=cc 0 _ rfl
      have c1:=cc 1 _ rfl
      have c2:=cc 2 _ rfl
      have c3:=cc 3 _ rfl
      have c4:=cc 4 _ rfl
      have lbl:=blk_lt (uh HLB)
      have HA2:=uy ((uh HA1).below (uh HBB))
      clear htn cc
      go_wp2_with (first|(at_builtin;refine append_acts [aPut q (strV (wkS p)) (intV p)] rfl _ _ rfl (uh HA2) rfl rfl rfl (by decide) (by have:=uh HLL;omega) ?_;intro v5 w5 hA5;have HA5:=uy hA5;clear hA5))
      have HA6:Hid (AR w ((shA n m q++[aNew])++fpA q (gT n m q) (p+1)) v5 w5):=uy (by have:=uh HA5;rw[<-uh HG,List.append_assoc]at this;exact this)
      clear HA5
      go_roundw
      case rel=>exact⟨p+1,by omega,by go_num,uh HA6⟩
      case measure=>simp[intOf];omega
    ·have hpe:m=p:=by omega
     subst hpe
     go_wp2_with fail
     go_roundw
     case rel=>exact⟨q+1,by omega,by go_num,uh HA⟩
     case measure=>simp[intOf];omega
  ·have hqe:q=n+1:=by omega
   subst hqe
   have hqd:decide (((n+1:Nat):Int)<=(n:Int))=false:=by simp;omega
   obtain⟨N,hN⟩:∃N,N=(n+1)*(m+1):=⟨_,rfl⟩
   have hlen:(shA n m (n+1)).length=N:=(shA_length n m (n+1)).trans hN.symm
   have hN4:N<=533:=by rw[<-hlen];exact uh HLQ
   have hN0:0<N:=by rw[hN];exact Nat.mul_pos (by omega) (by omega)
   obtain⟨NF,hNF⟩:∃NF,NF=if 1<m then 2*m+1 else m+1:=⟨_,rfl⟩
   obtain⟨SL,hSL⟩:∃SL,SL=if 1<m then 2*m else m:=⟨_,rfl⟩
   obtain⟨F,T',e1,e2,e3,e4,e5⟩:=shapes_says hn40 hn0 hm12 hm0 hN
   rw[<-hNF]at e1
   rw[<-hSL]at e3 e4 e5
   have hcs:(1<m/\NF=2*m+1/\SL=2*m)\/(¬1<m/\NF=m+1/\SL=m):=by
    by_cases h:1<m
    ·left;rw[hNF,hSL,if_pos h,if_pos h];exact⟨h,rfl,rfl⟩
    ·right;rw[hNF,hSL,if_neg h,if_neg h];exact⟨h,rfl,rfl⟩
   have HCS:=uy hcs
   have HNL:Hid (NF<=25):=uy (by omega)
   have hfl:forestOk NF F=0:=by
    have:=(aftS_gd E0_good rfl (fun i hi=>wf_acF (wf_sh n m (n+1)) i (by omega)) (show N<=1000 by omega) (Nat.le_refl N)).f
    rw[e1]at this
    exact this
   have HFL:=uy hfl
   have HE2:=uy e2
   have HE3:=uy e3
   have HE4:=uy e4
   have HE5:=uy e5
   obtain⟨bv,dv,rfl⟩:=(uh HA).slice hlen
   have HPL:=uy (implPlay_any _ N (acF (shA n m (n+1))) wr (hlen▸(uh HA).at (by omega)) (by omega) (fun i hi=>wf_acF (wf_sh n m (n+1)) i (by omega)) (lastsT _ _ (uh HT) (uh HA).bel) ((uh HE).below (uh HA).bel (uh HE).lt) (fun i hi=>deed_acF (wf_sh n m (n+1)) i (by omega)))
   have HB5:=uy (uh HA).bel
   have HE1:=uy e1
   clear HA hlen hN e1 e2 e3 e4 e5 hNF hSL hcs hfl hqn
   go_wp2_with fail
   refine(uh HPL).mono ?_
   rintro e w6 ⟨va,vF,vT,vS,H,lo,rfl,hP⟩
   have hst:=hP.st
   rw[uh HE1]at hst
   obtain⟨fa,fc,ta,tc,sa,sc,g1,g2,g3⟩:=hst.forms
   have g1:vF=.slice fa NF fc:=g1
   have g2:vT=.slice ta (n+1) tc:=g2
   have g3:vS=.slice sa 0 sc:=g3
   subst g1 g2 g3
   obtain⟨ra,rc,rfl⟩:=own_slice hP.row
   obtain⟨tb,htb,ltb,htc⟩:∃tb,ta=some ⟨tb,0,none⟩/\tb<w6.heap.size/\∀i,i<n+1->w6.cell? ⟨tb,i*8,none⟩=some (.int .i64 (T' i).shape):=by
    rcases hst.t with⟨h0,_⟩|⟨b,cp,Nn,g,hv,_,_,hrow,_,hall,_⟩
    ·have h0:n+1=0:=h0
     omega
    ·cases hv
     exact⟨b,rfl,hrow.lt,fun i hi=>(hall i hi).c0⟩
   obtain⟨fb,hfb,hsh⟩:∃fb,fa=some ⟨fb,0,none⟩/\ShRow w6 fb NF F:=by
    rcases hst.f with⟨h0,_⟩|⟨h0,b,cp,hv,_,_,hS⟩
    ·have h0:NF=0:=h0
     have:=uh HCS
     omega
    ·cases hv
     exact⟨b,rfl,hS⟩
   subst htb hfb
   have HP:=uy hP
   have HTC:=uy htc
   have HSH:=uy hsh
   clear hP hst htc hsh HPL
   go_wp2_with fail
   obtain⟨W7,hW7⟩:∃W7,W7=w6.alloc (.cells #[.bool true,.slice ra N rc,.slice (some ⟨fb,0,none⟩) NF fc,.slice (some ⟨tb,0,none⟩) (n+1) tc,.slice sa 0 sc] 62):=⟨_,rfl⟩
   rw[<-hW7]
   have hb7:Below w6.heap.size w6 W7:=by rw[hW7];exact(Below.refl _ _).alloc (Nat.le_refl _) _
   have hp7:W7.heap[w6.heap.size]?=some (.cells #[.bool true,.slice ra N rc,.slice (some ⟨fb,0,none⟩) NF fc,.slice (some ⟨tb,0,none⟩) (n+1) tc,.slice sa 0 sc] 62 (0,0)):=by rw[hW7];exact Deep.blk_alloc_new _ _
   obtain⟨pb,hpb⟩:∃pb,pb=w6.heap.size:=⟨_,rfl⟩
   rw[<-hpb]at hp7 ⊢
   have lpb:=blk_lt hp7
   have ltb7:tb<W7.heap.size:=Nat.lt_of_lt_of_le ltb hb7.size
   have HB7:Hid (Below w.heap.size w W7):=uy ((uh HB5).trans (((uh HP).below.trans (hb7.mono (uh HP).below.size)).mono (uh HB5).size))
   have HP7:=uy hp7
   have HT7:Hid (∀i,i<n->W7.cell? ⟨tb,i*8,none⟩=some (.int .i64 m)):=uy (fun i hi=>(hb7.cell (p:=⟨tb,i*8,none⟩) ltb).trans (by rw[uh HTC i (by omega),uh HE2 i hi]))
   have HL7:Hid (W7.cell? ⟨tb,n*8,none⟩=some (.int .i64 SL)):=uy ((hb7.cell (p:=⟨tb,n*8,none⟩) ltb).trans (by rw[uh HTC n (by omega),uh HE3]))
   have HS7:Hid (ShRow W7 fb NF F):=uy ((uh HSH).below hb7 (uh HSH).lt)
   clear hW7 hb7 hp7 hpb HTC HSH HE1 HE2 HE3 HP HB5 ltb
   go_loopw [10] (fun i wr=>∃(q:Nat),1<=q/\q<=n/\i=.int .i64 q/\Below W7.heap.size W7 wr) (fun i _=>n-(intOf i).toNat)
   case atStart=>exact⟨1,Nat.le_refl _,hn0,rfl,Below.refl _ _⟩
   case round=>
    obtain⟨q,hq1,hq,rfl,hbr⟩:=hrel
    have hzr:=hbr.size
    have x2:wr.cell? ⟨pb,2,none⟩=some (.slice (some ⟨fb,0,none⟩) NF fc):=(hbr.cell (p:=⟨pb,2,none⟩) lpb).trans (by simp[World.cell?,uh HP7])
    have x3:wr.cell? ⟨pb,3,none⟩=some (.slice (some ⟨tb,0,none⟩) (n+1) tc):=(hbr.cell (p:=⟨pb,3,none⟩) lpb).trans (by simp[World.cell?,uh HP7])
    have lpr:pb<wr.heap.size:=by omega
    have ltr:tb<wr.heap.size:=by omega
    have y1:wr.cell? ⟨tb,0,none⟩=some (.int .i64 m):=(hbr.cell (p:=⟨tb,0,none⟩) ltb7).trans (by have:=uh HT7 0 hn0;simpa using this)
    have h0N:0<(n+1):=by omega
    have HBR:=uy hbr
    by_cases hqn:q<n
    ·have y0:wr.cell? ⟨tb,q*8,none⟩=some (.int .i64 m):=(hbr.cell (p:=⟨tb,q*8,none⟩) ltb7).trans (uh HT7 q hqn)
     have hqN:q<(n+1):=by omega
     clear hbr
     go_wp2_with fail
     go_quiet (fail)
     go_wp2
     go_roundw
     case rel=>exact⟨q+1,by omega,by omega,by go_num,below_drewN (uh HBR) _⟩
     case measure=>simp[intOf];omega
    ·have hqe:n=q:=by omega
     subst hqe
     have y0:wr.cell? ⟨tb,n*8,none⟩=some (.int .i64 SL):=(hbr.cell (p:=⟨tb,n*8,none⟩) ltb7).trans (uh HL7)
     have hnN:n<(n+1):=by omega
     clear hbr hqn hq hq1
     rcases uh HCS with⟨h1,h2,h3⟩|⟨h1,h2,h3⟩
     case' inl=>
      have d1:decide ((1:Int)<(m:Int))=true:=by simp;omega
      have d2:((SL:Int)!=(m:Int))=true:=by simp;omega
      have HEN:Hid (2*(m:Int)+1=(NF:Int)):=uy (by omega)
      have hSN:SL<NF:=by omega
      clear h1 h2 h3 HCS
      go_upto_region 28 with fail
      rw[uh HEN]
      clear HEN
     case' inr=>
      have d1:decide ((1:Int)<(m:Int))=false:=by simp;omega
      have d2:((SL:Int)!=(m:Int))=false:=by simp;omega
      have HEN:Hid ((m:Int)+1=(NF:Int)):=uy (by omega)
      have hSN:SL<NF:=by omega
      clear h1 h2 h3 HCS
      go_upto_region 28 with fail
      rw[uh HEN]
      clear HEN
     all_goals
      have HFD:Hid (Calls Tryz.prog 43 #[.agg #[.slice (some ⟨fb,0,none⟩) NF fc],.int .i64 (SL:Int)] wr.drew fun e w'=>(∃b,e=.returned (.slice (some ⟨b,0,none⟩) m m)/\StRow w' b m (fld F SL))/\Below wr.heap.size wr w'):=uy (by
       have hS:=(uh HS7).below (uh HBR) (uh HS7).lt
       refine(implFields_any fb NF fc (SL:Int) F wr.drew (hS.below (Below.refl wr.heap.size wr).drew hS.lt) (by have:=uh HNL;omega)).mono ?_
       rintro e w' ⟨h,hb⟩
       refine⟨?_,(Below.refl _ _).drew.trans hb⟩
       rcases h with⟨_,hng⟩|⟨b,hg,he,hge,hrow⟩
       ·exact absurd ⟨uh HFL,by omega,by omega⟩ hng
       ·rw[Int.toNat_natCast,uh HE4]at he hrow
        exact⟨b,he,hrow⟩)
      have hS0:HeldFh pb tb n (.slice (some ⟨fb,0,none⟩) NF fc) (.slice (some ⟨tb,0,none⟩) (n+1) tc) SL wr.drew:=⟨x2,x3,y0⟩
      refine wpN_held (HeldFh pb tb n (.slice (some ⟨fb,0,none⟩) NF fc) (.slice (some ⟨tb,0,none⟩) (n+1) tc) SL) (by kernel_rfl) ?_
      change wpAnyH _ _ _ _ _ _ _ _ (World.drew _)
      refine tq 0 (v:=?_) ?_ ?_;rotate_left;intro w' ⟨s0,s1,s2⟩;go_simp;try with_reducible rfl
      simp only[Act.put,sA,sB,sC]
      refine tq 1 (v:=?_) ?_ ?_;rotate_left;intro w' ⟨s0,s1,s2⟩;go_simp;try with_reducible rfl
      simp only[Act.put,sA,sB,sC]
      refine tq 2 (v:=?_) ?_ ?_;rotate_left;intro w' ⟨s0,s1,s2⟩;go_simp;try with_reducible rfl
      simp only[Act.put,sA,sB,sC]
      refine tq 3 (v:=?_) ?_ ?_;rotate_left;intro w' ⟨s0,s1,s2⟩;go_simp;try with_reducible rfl
      simp only[Act.put,sA,sB,sC]
      refine tq 4 (v:=?_) ?_ ?_;rotate_left;intro w' ⟨s0,s1,s2⟩;go_simp;try with_reducible rfl
      simp only[Act.put,sA,sB,sC]
      refine tq 5 (v:=?_) ?_ ?_;rotate_left;intro w' ⟨s0,s1,s2⟩;go_simp;try with_reducible rfl
      simp only[Act.put,sA,sB,sC]
      refine tq 6 (v:=?_) ?_ ?_;rotate_left;intro w' ⟨s0,s1,s2⟩;go_simp;try with_reducible rfl
      simp only[Act.put,sA,sB,sC]
      refine tq 7 (v:=?_) ?_ ?_;rotate_left;intro w' ⟨s0,s1,s2⟩;go_simp;try with_reducible rfl
      simp only[Act.put,sA,sB,sC]
      refine tq 8 (v:=?_) ?_ ?_;rotate_left;intro w' ⟨s0,s1,s2⟩;go_simp;try with_reducible rfl
      simp only[Act.put,sA,sB,sC]
      refine tq 9 (v:=?_) ?_ ?_;rotate_left;intro w' ⟨s0,s1,s2⟩;go_simp;try with_reducible rfl
      simp only[Act.put,sA,sB,sC]
      refine wpAnyH_ready (rs:=[10]) (by kernel_rfl) (by simp) ?_
      refine AllReadyH.cons rfl (fun K hK=>?_) AllReadyH.nil
      go_simp
      refine(uh HFD).mono ?_
      rintro e w8 ⟨⟨b8,rfl,hrow⟩,hb8⟩
      have z2:=(hb8.cell (p:=⟨pb,2,none⟩) lpr).trans x2
      have z3:=(hb8.cell (p:=⟨pb,3,none⟩) lpr).trans x3
      have z0:=(hb8.cell (p:=⟨tb,n*8,none⟩) ltr).trans y0
      have z1:=(hb8.cell (p:=⟨tb,0,none⟩) ltr).trans y1
      refine hK.out _ _ ⟨z2,z3,z0⟩ (fun hS1=>?_)
      clear hK K hS0
      refine tq 11 (v:=?_) ?_ ?_;rotate_left;intro w' ⟨s0,s1,s2⟩;go_simp;try with_reducible rfl
      simp only[Act.put,sA,sB,sC]
      refine wpAnyH_done (by kernel_rfl) ?_ _
      refine QN.normal ?_
      have lp8:pb<w8.heap.size:=Nat.lt_of_lt_of_le lpr hb8.size
      have lt8:tb<w8.heap.size:=Nat.lt_of_lt_of_le ltr hb8.size
      have HB8:Hid (Below w.heap.size w w8):=uy (((uh HB7).trans ((uh HBR).mono (uh HB7).size)).trans (hb8.mono ((uh HB7).trans ((uh HBR).mono (uh HB7).size)).size))
      have HRW:=uy hrow
      clear hS1 hrow hb8 x2 x3 y0 y1 HFD lpr ltr hzr
      go_wp2_with fail
      refine wp_region_quiet (C:=fun w'=>Below w8.heap.size w8 w') (by kernel_rfl) (by kernel_rfl) ((Below.refl _ _).drew) ?_
      show wpQuiet _ _ _ _ [_,_,_,_,_,_,_,_,_,_,_,_,_,_,_,_,_,_,_,_,_,_,_,_,_,_,_,_,_,_,_,_] _
      iterate 3 (refine wpQuiet_step (fun K hK=>?_);go_simp;refine⟨_,fun w' hw'=>rfl,hK _ ?_⟩;clear hK K)
      (refine wpQuiet_step (fun K hK=>?_);go_simp;refine Exists.intro ?_ (And.intro (fun w' hw'=>?_) (hK _ ?_));rotate_left;obtain⟨hc',hf'⟩:=bcell hw';go_simp;first|rfl|exact⟨rfl,rfl⟩|exact⟨rfl⟩;clear hK K)
      iterate 14 (refine wpQuiet_step (fun K hK=>?_);go_simp;refine⟨_,fun w' hw'=>rfl,hK _ ?_⟩;clear hK K)
      (refine wpQuiet_step (fun K hK=>?_);go_simp;refine Exists.intro ?_ (And.intro (fun w' hw'=>?_) (hK _ ?_));rotate_left;obtain⟨hc',hf'⟩:=bcell hw';go_simp;first|rfl|exact⟨rfl,rfl⟩|exact⟨rfl⟩;clear hK K)
      iterate 3 (refine wpQuiet_step (fun K hK=>?_);go_simp;refine⟨_,fun w' hw'=>rfl,hK _ ?_⟩;clear hK K)
      (refine wpQuiet_step (fun K hK=>?_);go_simp;refine Exists.intro ?_ (And.intro (fun w' hw'=>?_) (hK _ ?_));rotate_left;obtain⟨hc',hf'⟩:=bcell hw';go_simp;first|rfl|exact⟨rfl,rfl⟩|exact⟨rfl⟩;clear hK K)
      iterate 2 (refine wpQuiet_step (fun K hK=>?_);go_simp;refine⟨_,fun w' hw'=>rfl,hK _ ?_⟩;clear hK K)
      (refine wpQuiet_step (fun K hK=>?_);go_simp;refine Exists.intro ?_ (And.intro (fun w' hw'=>?_) (hK _ ?_));rotate_left;obtain⟨hc',hf'⟩:=bcell hw';go_simp;first|rfl|exact⟨rfl,rfl⟩|exact⟨rfl⟩;clear hK K)
      iterate 2 (refine wpQuiet_step (fun K hK=>?_);go_simp;refine⟨_,fun w' hw'=>rfl,hK _ ?_⟩;clear hK K)
      (refine wpQuiet_step (fun K hK=>?_);go_simp;refine Exists.intro ?_ (And.intro (fun w' hw'=>?_) (hK _ ?_));rotate_left;obtain⟨hc',hf'⟩:=bcell hw';go_simp;first|rfl|exact⟨rfl,rfl⟩|exact⟨rfl⟩;clear hK K)
      iterate 3 (refine wpQuiet_step (fun K hK=>?_);go_simp;refine⟨_,fun w' hw'=>rfl,hK _ ?_⟩;clear hK K)
      refine wpQuiet_nil ?_
      intro w9 hb9
      have HB9:=uy ((uh HB8).trans (hb9.mono (uh HB8).size))
      have HRX:Hid (StRow w9 b8 m (fld F SL)):=uy (World.rowIs.of_block (uh HRW) (hb9.block b8 (World.rowIs.lt (uh HRW))))
      clear hb9 HB8 HRW z0 z1 z2 z3 lp8 lt8 d1 d2
      go_wp2_with fail
      go_loopw [142] (fun i wr=>∃(p:Nat),p<=m/\i=.int .i64 p/\Below w9.heap.size w9 wr) (fun i _=>m-(intOf i).toNat)
      case atStart=>exact⟨0,Nat.zero_le _,rfl,Below.refl _ _⟩
      case round=>
       obtain⟨p,hp,rfl,hbr⟩:=hrel
       by_cases hpm:p<m
       ·obtain⟨r,hr⟩:∃r:Nat,r=m-1-p:=⟨_,rfl⟩
        have hri:(m:Int)-1-(p:Int)=(r:Int):=by omega
        have y3:wr.cell? ⟨b8,p,none⟩=some (.string (wkS r)):=(hbr.cell (p:=⟨b8,p,none⟩) (World.rowIs.lt (uh HRX))).trans ((World.rowIs.cell (uh HRX) hpm).trans (by rw[uh HE5 p hpm,hr]))
        have lb8:b8<wr.heap.size:=Nat.lt_of_lt_of_le (World.rowIs.lt (uh HRX)) hbr.size
        obtain⟨m1,hm1⟩:∃m1:Int,m1=(m:Int)-1:=⟨_,rfl⟩
        have hwm:IntKind.i64.wrap ((m:Int)-1)=m1:=by rw[IntKind.wrap_i64];omega
        have hwr:IntKind.i64.wrap (m1-(p:Int))=(r:Int):=by rw[IntKind.wrap_i64];omega
        have hr2:r<2000:=by omega
        have hfd:∀w',Sem.run Tryz.prog (Instr.field 43 (V 4 0 0 (wkS r) 0) 3) w'=.ok (.string (wkS r)) w':=fun w'=>by kernel_rfl
        have HBR:=uy hbr
        clear hbr hr hri hm1
        go_upto_region 34 with fail
        refine wp_region_quiet (C:=fun w'=>Below wr.heap.size wr w') (by kernel_rfl) (by kernel_rfl) ((Below.refl _ _).drew) ?_
        show wpQuiet _ _ _ _ [_,_,_,_,_,_,_,_,_,_,_] _
        iterate 3 (refine wpQuiet_step (fun K hK=>?_);go_simp;refine⟨_,fun w' hw'=>rfl,hK _ ?_⟩;clear hK K)
        (refine wpQuiet_step (fun K hK=>?_);go_simp;refine Exists.intro ?_ (And.intro (fun w' hw'=>?_) (hK _ ?_));rotate_left;obtain⟨hc',hf'⟩:=bcell hw';go_simp;first|rfl|exact⟨rfl,rfl⟩|exact⟨rfl⟩;clear hK K)
        iterate 4 (refine wpQuiet_step (fun K hK=>?_);go_simp;refine⟨_,fun w' hw'=>rfl,hK _ ?_⟩;clear hK K)
        refine wpQuiet_step (fun K hK=>?_)
        go_simp
        apply Exists.intro
        refine And.intro (fun w' hw'=>?_) (hK _ ?_)
        ·refine(wKeyS r hr2 _).mono ?_
         rintro e w'' ⟨rfl,hb⟩
         exact⟨rfl,hw'.trans (hb.mono hw'.size)⟩
        clear hK K
        iterate 2 (refine wpQuiet_step (fun K hK=>?_);go_simp;refine⟨_,fun w' hw'=>rfl,hK _ ?_⟩;clear hK K)
        refine wpQuiet_nil ?_
        intro w10 hb10
        have HB10:=uy ((uh HBR).trans (hb10.mono (uh HBR).size))
        clear hb10
        go_wp2
        go_roundw
        case rel=>exact⟨p+1,by omega,by go_num,uh HB10⟩
        case measure=>simp[intOf];omega
       ·have hpe:m=p:=by omega
        subst hpe
        have HB10:=uy ((uh HB9).trans (hbr.mono (uh HB9).size))
        clear hbr
        go_wp2_with fail
        go_ret
        exact⟨rfl,uh HB10⟩
end
end Go.Proofs.YtgmlkfgfjjggnaaGreatDoor
