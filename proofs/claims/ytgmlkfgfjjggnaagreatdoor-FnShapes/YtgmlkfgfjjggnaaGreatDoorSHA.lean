import Derived.Test.YtgmlkfgfjjggnaaGreatDoorSAA
import Derived.Test.YtgmlkfgfjjggnaaGreatDoorSAB
import Derived.Test.YtgmlkfgfjjggnaaGreatDoorSAC
import Derived.Test.YtgmlkfgfjjggnaaGreatDoorSAD
import Derived.Test.YtgmlkfgfjjggnaaGreatDoorSAE
import Derived.Test.YtgmlkfgfjjggnaaGreatDoorSAF
import Derived.Test.YtgmlkfgfjjggnaaGreatDoorSAG
import Derived.Test.YtgmlkfgfjjggnaaGreatDoorSAH
import Derived.Test.YtgmlkfgfjjggnaaGreatDoorSAI
import Derived.Test.YtgmlkfgfjjggnaaGreatDoorSAJ
import Derived.Test.YtgmlkfgfjjggnaaGreatDoorSAK
import Derived.Test.YtgmlkfgfjjggnaaGreatDoorSAL
import Derived.Test.YtgmlkfgfjjggnaaGreatDoorSAM
import Derived.Test.YtgmlkfgfjjggnaaGreatDoorSAN
import Derived.Test.YtgmlkfgfjjggnaaGreatDoorSAO
import Derived.Test.YtgmlkfgfjjggnaaGreatDoorSAP
import Derived.Test.YtgmlkfgfjjggnaaGreatDoorSAQ
import Derived.Test.YtgmlkfgfjjggnaaGreatDoorSAR
import Derived.Test.YtgmlkfgfjjggnaaGreatDoorSAS
import Derived.Test.YtgmlkfgfjjggnaaGreatDoorSAT
import Derived.Test.YtgmlkfgfjjggnaaGreatDoorSAU
import Derived.Test.YtgmlkfgfjjggnaaGreatDoorSAV
import Derived.Test.YtgmlkfgfjjggnaaGreatDoorSAW
import Derived.Test.YtgmlkfgfjjggnaaGreatDoorSAX
import Derived.Test.YtgmlkfgfjjggnaaGreatDoorSAY
import Derived.Test.YtgmlkfgfjjggnaaGreatDoorSAZ
import Derived.Test.YtgmlkfgfjjggnaaGreatDoorSBA
import Derived.Test.YtgmlkfgfjjggnaaGreatDoorSBB
import Derived.Test.YtgmlkfgfjjggnaaGreatDoorSBC
import Derived.Test.YtgmlkfgfjjggnaaGreatDoorSBD
import Derived.Test.YtgmlkfgfjjggnaaGreatDoorSBE
import Derived.Test.YtgmlkfgfjjggnaaGreatDoorSBF
import Derived.Test.YtgmlkfgfjjggnaaGreatDoorSBG
import Derived.Test.YtgmlkfgfjjggnaaGreatDoorSBH
import Derived.Test.YtgmlkfgfjjggnaaGreatDoorSBI
import Derived.Test.YtgmlkfgfjjggnaaGreatDoorSBJ
import Derived.Test.YtgmlkfgfjjggnaaGreatDoorSBK
import Derived.Test.YtgmlkfgfjjggnaaGreatDoorSBL
set_option linter.unusedVariables false
set_option linter.unusedSimpArgs false
set_option maxHeartbeats 40000000
set_option maxRecDepth 100000
namespace Go.Proofs.YtgmlkfgfjjggnaaGreatDoor
section
open Go.RowKit
def Good(n:Nat)(f:Nat->Shp)(i:Int):Prop:=forestOk n f=0/\0<=i/\i<n
end
section
open Go.RowKit
open Go.Maps (Keyed)
def NodeIs(w0:World)(n:Nat)(f:Nat->Shp)(i:Int)(e:Ending)(w:World):Prop:=
 (e=.returned (.pointer none)/\¬Good n f i)\/
 (∃(k:Nat) (B N:Nat->Nat) (M:Nat->Option Nat),i=k/\k<n/\e=.returned (.pointer (some ⟨B k,0,none⟩))/\forestOk n f=0/\NodesP w f w0.heap.size n B N M/\∀i,i<n->N i=i)
theorem nodeOf_any(b n cap:Nat)(f:Nat->Shp)(i:Int)(w:World)(hA:ShRow w b n f)(hn:n<=1048576):
  Calls Tryz.prog 93 #[.agg #[.slice (some ⟨b,0,none⟩) n cap],.int .i64 i] w fun e w'=>NodeIs w n f i e w'/\Below w.heap.size w w':=by
 have hl:=hA.lt
 have HA:=uy hA
 clear hA
 have hb0:Below w.heap.size w (w.alloc (.cells #[.slice (some ⟨b,0,none⟩) n cap] 38)):=(Below.refl _ _).alloc (Nat.le_refl _) _
 have HZ:=uy hb0.size
 go_enter Tryz.func93,Tryz.ntmps93
 go_wp2_with fail
 refine(judge_any b n cap f _ ((uh HA).below hb0 hl) hn).mono ?_
 rintro e w1 ⟨hJ,hb1⟩
 have HB1:=uy (hb0.trans (hb1.mono hb0.size))
 clear hb1 hb0
 rcases hJ with⟨r,rfl,hr,hr0⟩|⟨g,cp,B,N,M,rfl,hr,hN,hid,⟨hg,_⟩,hp⟩
 ·have hd:(r !=0)=true:=by simp[hr0]
  have HG:Hid (¬Good n f i):=uy (fun h=>hr0 (by rw[hr];exact h.1))
  clear hr hr0
  go_wp2
  go_ret
  exact⟨.inl ⟨rfl,uh HG⟩,uh HB1⟩
 ·by_cases h0:i<0
  ·have hd:decide (i<0)=true:=by simp[h0]
   have HG:Hid (¬Good n f i):=uy (fun h=>by have:=h.2.1;omega)
   clear hr hN hid hp
   go_wp2
   go_ret
   exact⟨.inl ⟨rfl,uh HG⟩,uh HB1⟩
  ·have hd:decide (i<0)=false:=by simp[h0]
   by_cases h1:(n:Int)<=i
   ·have hd1:decide ((n:Int)<=i)=true:=by simp[h1]
    have HG:Hid (¬Good n f i):=uy (fun h=>by have:=h.2.2;omega)
    clear hr hN hid hp
    go_wp2
    go_ret
    exact⟨.inl ⟨rfl,uh HG⟩,uh HB1⟩
   ·have hd1:decide ((n:Int)<=i)=false:=by simp;omega
    obtain⟨k,hk⟩:∃k:Nat,i=k:=⟨i.toNat,by omega⟩
    subst hk
    have hkn:k<n:=by omega
    have c0:=hp k hkn
    have HN:=uy (hN.rebase (uh HZ))
    have HI:=uy hid
    have HR:=uy hr
    clear hr hN hid hp
    go_wp2
    go_ret
    exact⟨.inr ⟨k,B,N,M,rfl,hkn,rfl,uh HR,uh HN,uh HI⟩,uh HB1⟩
end
section
open Go.RowKit
open Go.Maps (Keyed)
theorem implFields_any(b n cap:Nat)(i:Int)(f:Nat->Shp)(w:World)(hA:ShRow w b n f)(hn:n<=1048576):
  Calls Tryz.prog 43 #[.agg #[.slice (some ⟨b,0,none⟩) n cap],.int .i64 i] w fun e w'=>((e=.returned (.slice none 0 0)/\¬Good n f i)\/(∃m,Good n f i/\e=.returned (.slice (some ⟨m,0,none⟩) (nf f i.toNat) (nf f i.toNat))/\w.heap.size<=m/\StRow w' m (nf f i.toNat) (fld f i.toNat)))/\Below w.heap.size w w':=by
 have hl:=hA.lt
 have HA:=uy hA
 clear hA
 have hb0:Below w.heap.size w (w.alloc (.cells #[.slice (some ⟨b,0,none⟩) n cap] 38)):=(Below.refl _ _).alloc (Nat.le_refl _) _
 go_enter Tryz.func43,Tryz.ntmps43
 go_wp2_with fail
 refine(nodeOf_any b n cap f i _ ((uh HA).below hb0 hl) hn).mono ?_
 rintro e w1 ⟨hJ,hb1⟩
 have HB1:=uy (hb0.trans (hb1.mono hb0.size))
 clear hb1 hb0
 rcases hJ with⟨rfl,hg⟩|⟨k,B,N,M,rfl,hk,rfl,hr,hN,hid⟩
 ·have HG:=uy hg
  clear hg
  go_wp2
  go_ret
  exact⟨.inl ⟨rfl,uh HG⟩,uh HB1⟩
 ·have HN:=uy hN
  have HI:=uy hid
  have HR:=uy hr
  clear hN hid hr
  go_wp2_with fail
  refine(fields_any _ f _ n B N M (uh HN) (uh HI) (forestOk_zero (uh HR)).2.1 (forestOk_zero (uh HR)).2.2.1 k hk).mono ?_
  rintro e w2 ⟨⟨m,rfl,hm,hrow⟩,hb2⟩
  have HB2:=uy ((uh HB1).trans (hb2.mono (uh HB1).size))
  have HW:=uy hrow
  have hm':w.heap.size<=m:=Nat.le_trans (uh HB1).size hm
  clear hb2 hrow
  go_wp2
  go_ret
  exact⟨.inr ⟨m,⟨uh HR,by omega,by omega⟩,rfl,hm',uh HW⟩,uh HB2⟩
end
end Go.Proofs.YtgmlkfgfjjggnaaGreatDoor
