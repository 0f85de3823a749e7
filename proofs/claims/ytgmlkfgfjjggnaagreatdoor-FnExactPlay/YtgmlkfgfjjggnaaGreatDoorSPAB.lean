import Derived.Test.YtgmlkfgfjjggnaaGreatDoorSPAA
import Derived.Test.YtgmlkfgfjjggnaaGreatDoorSPAA
import Derived.Test.YtgmlkfgfjjggnaaGreatDoorRows
set_option linter.all false
set_option maxHeartbeats 40000000
set_option maxRecDepth 100000
namespace Go.Proofs.YtgmlkfgfjjggnaaGreatDoor
variable {d:Dc}{v:Vl}{l:List Nat}{f:Nat->A3}{a k n x m j r b e0 X z2 c e b0 base b1 size lo hi n0:Nat}{W w w' A:Y}{xs:List Value}{i p:Int}{g:Value->Value}{Z B:Nat->Nat}{s:Bool}{t K:TypeId}{M:Nat->Option Nat}{P:Program}{row:Option Nat}{key:ByteArray}{D:Nat->Int}
section
open Go.RowKit Go.Shelf
attribute [local go_sem] Am Aj Oper.semAt_some
def Stop(d:Dc)(v:Vl)(a:Nat):Prop:=d.X a=0\/(0<d.X a/\AE (d.at (d.X a)).key v=true)
open Classical in
noncomputable def Pn(d:Dc)(v:Vl):List Nat->Option Nat
 |[]=>none
 |a::l=>if d.X a=0 then none else if 0<d.X a/\AE (d.at (d.X a)).key v=true then some a else Pn d v l
theorem TR(h:∀a∈l,¬Stop d v a):Pn d v l=none:=by
 induction l with
 |nil=>rfl
 |cons a l ih=>
  have h1:=h a od;unfold Pn;rw[C3 (fun e=>h1 (.inl e)),C3 (fun e=>h1 (.inr e))];exact ih (fun b hb=>h b (by simp[hb]))
theorem TS{f:List Nat}(h:∀b∈l,¬Stop d v b)(g:l++[a]<+:f)(hs:Stop d v a):Pn d v f=if d.X a=0 then none else some a:=by
 obtain⟨r,rfl⟩:=g
 induction l with
 |nil=>
  show(if _ then _ else _)=_;by_cases e:d.X a=0
  ·rw[DD e,DD e]
  ·rw[C3 e,C3 e,DD (hs.resolve_left e)]
 |cons b l ih=>
  have h1:=h b od;show(if _ then _ else _)=_;rw[C3 (fun e=>h1 (.inl e)),C3 (fun e=>h1 (.inr e))];exact ih (fun c hc=>h c (by simp[hc]))
theorem SK(hx:0<d.x):∀(f a:Nat),a<d.x->probe d v a f=Pn d v (Et d.x a f):=by
 intro f
 induction f with
 |zero=>intro a _;rfl
 |succ f ih=>
  intro a b;have e:Et d.x a (f+1)=a::Et d.x ((a+1)%d.x) f:=by
   unfold Et;rw[List.range_succ_eq_map];simp only[List.map_cons,List.map_map,W4,So b]
   congr 1
   apply List.map_congr_left;intro j _;simp only[Function.comp];rw[Nat.mod_add_mod]
   congr 1
   omega
  rw[e];show(if _ then _ else _)=(if _ then _ else _);rw[ih _ (TO _ hx)]
theorem Ko{h:Nat}:AQ d v h=Pn d v (Et d.x (h%d.x) d.x):=by
 unfold AQ;by_cases a:d.x=0
 ·rw[DD a,a];rfl
 ·rw[C3 a];exact SK oa _ _ (TO _ oa)
theorem CT{W':Y}(h:B9 W W'):KeepsOthers W W':=⟨h.size,fun k o hk _=>(h.block k (GC.1 hk).1).trans hk⟩
theorem M4(T:World->Prop)(ae:EM T)(bk R0 R1 R2:Nat)(E S:Nat->Nat)(d:Dc)(v:Vl)(h:Nat)(hh:O7 T v h)(w:Y)(hT:T w)(hB:Jk w bk R0 R1 R2 E S d)(hS:Small d)(h4:D4 d):
  C9 280 #[.pointer (some (G bk 2)),V v.kind v.num v.Ag v.str v.ref] w (R9 (J (Fb (AQ d v h))) w):=by
 have hx:=hS.x;refine(Aac (n:=10)).1 ?_;refine callsIn_of_wp_marks Tryz.func280 rfl trivial ?_ rfl;simp only[Tryz.ntmps280,Aau,Aae,XN,Nat.reduceAdd,Nat.reduceSub,Aam,Aal,Aav,Aas,W9,Aar]
 gi_wp2_with (refine⟨trivial,?_⟩;gi_at_call 297;refine(Aac.2 (RQ (some (G bk 2)) v _)).mono ?_;rintro e w' ⟨rfl,rfl⟩)
 obtain⟨u,hu⟩:∃u,u=((((w.alloc (.cells #[.pointer (some (G bk 2))] 377)).alloc (.cells (ow v) 43)).alloc (.cells #[J 0] 3)).alloc (.cells #[.pointer (some (G bk 2))] 377)).alloc (.cells (ow v) 43):=⟨_,rfl⟩;rw[<-hu];have zu:u.heap.size=w.heap.size+5:=by rw[hu];simp
 have bu:B9 w u:=by rw[hu];exact((((n9).alloc od _).alloc oe _).alloc oe _).alloc oe _
 obtain⟨n0,i0,i1,i2,i3,i4,r0,r1,m0,j0,j1,j2,j3,j4⟩:u.cell? (y w 0)=some (.pointer (some (G bk 2)))/\u.cell? (Y9 w 0)=some (J v.kind)/\u.cell? (Y9 w 1)=some (J v.num)/\u.cell? (Y9 w 2)=some (F9 v.Ag)/\u.cell? (Y9 w 3)=some (.string v.str)/\u.cell? (Y9 w 4)=some (J v.ref)/\u.cell? (Z9 w 0)=some (J 0)/\u.frozen? (Z9 w 0)=false/\u.cell? (G (w.heap.size+1+1+1) 0)=some (.pointer (some (G bk 2)))/\u.cell? (G (w.heap.size+1+1+1+1) 0)=some (J v.kind)/\u.cell? (G (w.heap.size+1+1+1+1) 1)=some (J v.num)/\u.cell? (G (w.heap.size+1+1+1+1) 2)=some (F9 v.Ag)/\u.cell? (G (w.heap.size+1+1+1+1) 3)=some (.string v.str)/\u.cell? (G (w.heap.size+1+1+1+1) 4)=some (J v.ref):=by rw[hu];simp[go_sem]
 have F:=hB.below bu;have ai:=ae _ _ hT bu;clear hu;refine wpIn_rangeFunc_ownF rfl oc (gf:=308) (lb:=#[Q9 (w.heap.size+1+1+1),Q9 (w.heap.size+1+1+1+1)]) rfl trivial (enters_of Tryz.func308 og rfl)
  (M9 9 oc T ae bk R2 (w.heap.size+1+1+1) (w.heap.size+1+1+1+1) d v h w.heap.size hh u ai hx m0 F.c2 F.c3 j0 j1 j2 j3 j4) belowK_t (belowK_b oa) (Cs _ _) (fun _=>rfl)
  (fun pre W=>((∀Z∈pre,¬Stop d v Z.1)/\W.cell? (y w 0)=some (.pointer (some (G bk 2)))/\W.cell? (Y9 w 0)=some (J v.kind)/\W.cell? (Y9 w 1)=some (J v.num)/\W.cell? (Y9 w 2)=some (F9 v.Ag)/\W.cell? (Y9 w 3)=some (.string v.str)/\W.cell? (Y9 w 4)=some (J v.ref)/\W.cell? (Z9 w 0)=some (J 0)/\W.frozen? (Z9 w 0)=false)/\B9 w W)
  (fun c pre W=>(c=.ret/\(∃i a,pre=i++[a]/\(∀Z∈i,¬Stop d v Z.1)/\Stop d v a.1/\W.cell? (Z9 w 0)=some (J (Fb (if d.X a.1=0 then none else some a.1)))))/\B9 w W)
  (OwnFrom.and (Own.from (fun s A B row hs M P=>⟨hs.1,Lo hs.2.1 M P,Lo hs.2.2.1 M P,Lo hs.2.2.2.1 M P,Lo hs.2.2.2.2.1 M P,Lo hs.2.2.2.2.2.1 M P,Lo hs.2.2.2.2.2.2.1 M P,Lo hs.2.2.2.2.2.2.2.1 M P,(frozen_kept hs.2.2.2.2.2.2.2.1 M P).trans hs.2.2.2.2.2.2.2.2⟩) _) (ownFrom_below (Be _) oa))
  (fun c=>OwnFrom.and (Own.from (fun s A B row hs M P=>⟨hs.1,by obtain⟨i,a,h1,h2,h3,h4⟩:=hs.2;exact⟨i,a,h1,h2,h3,Lo h4 M P⟩⟩) _) (ownFrom_below (Be _) oa))
  ⟨⟨od,n0,i0,i1,i2,i3,i4,r0,r1⟩,bu⟩
  ?a1 ?assign ?body ?done ?stop
 case assign=>
  intro l x W K hK
  gi_wp2
  exact hK
 case body=>
  rintro l pre ⟨a,ha⟩ W ⟨⟨U,g0,e0,e1,e2,e3,e4,H,s1⟩,m⟩ _;have q:=hB.below m;have c3:=q.c3;have p0:=q.r2 a ha;have t:=q.sl a ha;have lW:bk<W.heap.size:=q.lt;have lR:R2<W.heap.size:=q.l2;have z0:=ID _ _ g0;have k:=ID _ _ e0;have z2:=ID _ _ H;dsimp only at z0 k z2;have HP:=O U;have j:=O m;clear q U m n0 i0 i1 i2 i3 i4 r0 r1 m0 j0 j1 j2 j3 j4 F ai bu zu hB hT hh ae;rcases h4.2.1 a ha with hs|hs|hs
  ·have I:Stop d v a:=.inl hs;have HS:=O I;rw[show Dj S a (d.X a)=none from DD hs]at p0;have HX:Hid (Fb (if d.X a=0 then none else some a)=-1):=O (by rw[DD hs];rfl);clear t hs I
   gi_wp2
   exact⟨UP _ _ _,⟨rfl,pre,⟨a,ha⟩,rfl,HP,HS,by rw[z HX];exact NX _ _ _ (by rw[H];rfl)⟩,j.setCell (p:=(Z9 w 0)) (by show w.heap.size<=w.heap.size+1+1;omega) _⟩
  ·have L:¬Stop d v a:=fun h=>by rcases h with h|h<;>omega
   have HS:=O L;rw[show Dj S a (d.X a)=some (G (S a) 0)from C3 oa]at p0;obtain⟨ak,ar⟩:=t.2 oa;clear t hs L
   gi_wp2
   refine wpIn_region_quiet (C:=fun w'=>B9 W w') og og og ((Cs _ _).drew) ?_;show wpQuiet _ _ _ _ [_,_,_,_,_,_,_,_,_,_,_,_,_] _;refine N (h:=N (h:=N (h:=N (h:=N (h:=N (h:=?_))))));iterate 6 (go_big_quiet_step (fail))
   refine N (h:=?_);refine H7 ?_;intro w2 f;have HK:=O (CT f);have o:=O f;have g0:=ol f z0 g0;have e0:=ol f k e0;have e1:=ol f k e1;have e2:=ol f k e2;have e3:=ol f k e3;have e4:=ol f k e4;have H:=ol f z2 H;have s1:=om f z2 s1;clear f
   gi_wp2
   exact⟨HK,o.mono j.size,⟨fun Z hy=>(List.mem_append.1 hy).elim (HP Z) (fun e=>by simp at e;subst e;exact HS),g0,e0,e1,e2,e3,e4,H,s1⟩,oo j o⟩
  ·rw[show Dj S a (d.X a)=some (G (S a) 0)from C3 oa]at p0;obtain⟨ak,f0,f1,f2,f3,f4,f5,f6⟩:=t.1 hs.1;have af:=hs.1;generalize Q:(d.at (d.X a)).key=g at*;cases R:AE g v
   ·have L:¬Stop d v a:=fun h=>by
     rcases h with h|h
     ·omega
     ·rw[Q,R]at h;exact absurd h.2 oc
    have HS:=O L;have ao:(g.kind==v.kind&&(g.num==v.num&&((O9 g.Ag v.Ag==some .eq)&&(g.str.toList==v.str.toList&&g.ref==v.ref))))=false:=R;clear t hs L af Q
    gi_wp2
    refine wpIn_region_quiet (C:=fun w'=>B9 W w') og og og ((Cs _ _).drew) ?_;show wpQuiet _ _ _ _ [_,_,_,_,_,_,_,_,_,_,_,_,_] _;refine N (h:=N (h:=N (h:=N (h:=N (h:=N (h:=N (h:=N (h:=N (h:=N (h:=N (h:=?_)))))))))));refine GS (fun K hK=>?_);go_simp;refine⟨.bool false,fun w' aq=>?_,hK _ ?_⟩
    ·by_cases q1:g.kind=v.kind<;>by_cases q2:g.num=v.num<;>by_cases q3:O9 g.Ag v.Ag=some Ordering.eq<;>by_cases q4:g.str.toList=v.str.toList<;>by_cases q5:g.ref=v.ref<;>simp_all
    clear hK K;refine N (h:=?_);refine H7 ?_;intro w2 f;have HK:=O (CT f);have o:=O f;have g0:=ol f z0 g0;have e0:=ol f k e0;have e1:=ol f k e1;have e2:=ol f k e2;have e3:=ol f k e3;have e4:=ol f k e4;have H:=ol f z2 H;have s1:=om f z2 s1;clear f
    gi_wp2
    exact⟨HK,o.mono j.size,⟨fun Z hy=>(List.mem_append.1 hy).elim (HP Z) (fun e=>by simp at e;subst e;exact HS),g0,e0,e1,e2,e3,e4,H,s1⟩,oo j o⟩
   ·have I:Stop d v a:=.inr ⟨af,by rw[Q];exact R⟩;have HS:=O I;have HX:Hid (Fb (if d.X a=0 then none else some a)=(a:Int)):=O (by rw[C3 oa];rfl);have ao:(g.kind==v.kind&&(g.num==v.num&&((O9 g.Ag v.Ag==some .eq)&&(g.str.toList==v.str.toList&&g.ref==v.ref))))=true:=R;clear t hs I af Q
    gi_wp2
    refine wpIn_region_quiet (C:=fun w'=>B9 W w') og og og ((Cs _ _).drew) ?_;show wpQuiet _ _ _ _ [_,_,_,_,_,_,_,_,_,_,_,_,_] _;refine N (h:=N (h:=N (h:=N (h:=N (h:=N (h:=N (h:=N (h:=N (h:=N (h:=N (h:=?_)))))))))));refine GS (fun K hK=>?_);go_simp;refine⟨.bool true,fun w' aq=>?_,hK _ ?_⟩
    ·by_cases q1:g.kind=v.kind<;>by_cases q2:g.num=v.num<;>by_cases q3:O9 g.Ag v.Ag=some Ordering.eq<;>by_cases q4:g.str.toList=v.str.toList<;>by_cases q5:g.ref=v.ref<;>simp_all
    clear hK K;refine N (h:=?_);refine H7 ?_;intro w2 f;have HK:=O (CT f);have o:=O f;have g0:=ol f z0 g0;have e0:=ol f k e0;have e1:=ol f k e1;have e2:=ol f k e2;have e3:=ol f k e3;have e4:=ol f k e4;have H:=ol f z2 H;have s1:=om f z2 s1;clear f
    gi_wp2
    exact⟨HK.trans (UP _ _ _),⟨rfl,pre,⟨a,ha⟩,rfl,HP,HS,by rw[z HX];exact NX _ _ _ (by rw[H];rfl)⟩,(oo j o).setCell (p:=(Z9 w 0)) (by show w.heap.size<=w.heap.size+1+1;omega) _⟩
 case done=>
  rintro D ys W hD aj ⟨⟨U,_,_,_,_,_,_,ag,au⟩,m⟩ hK;have HR:Hid (AQ d v h=none):=O (by
   rw[Ko,<-show ys.map (·.1)=Et d.x (h%d.x) d.x from aj];exact TR (fun a ha=>by obtain⟨Z,hy,rfl⟩:=List.mem_map.1 ha;exact U Z hy))
  clear aj U hh hB F
  gi_wp2
  have hK':=(UP W (Z9 w 0) (J (-1))).same D _ hK rfl;refine⟨od,.inl ⟨_,_,rfl,AaU hK',?_⟩⟩;have ah:=Lo (NX W (Z9 w 0) (J (-1)) (by rw[ag];rfl)) (I9 _ D (.deferred none)) (fun r e=>by cases e;exact⟨_,hK',rfl⟩);refine⟨J (-1),?_,by rw[z HR];rfl,(m.setCell (p:=(Z9 w 0)) (by show w.heap.size<=w.heap.size+1+1;omega) _).trans (belowK_b (w:=w) (Be _) _ D _ _ oa hK' rfl rfl)⟩;simp[results,Tryz.f280,go_sem,ah]
 case stop=>
  rintro D c pre W hD ad ⟨⟨rfl,i,a,rfl,h1,h2,ag⟩,m⟩ hK;have HR:Hid (AQ d v h=if d.X a.1=0 then none else some a.1):=O (by
   rw[Ko];have U:(i++[a]).map (·.1)<+:Et d.x (h%d.x) d.x:=ad;rw[Aaq]at U;exact TS (fun b hb=>by obtain⟨Z,hy,rfl⟩:=List.mem_map.1 hb;exact h1 Z hy) U h2)
  clear ad h1 h2 hh hB F
  gi_wp2
  refine⟨od,.inl ⟨_,_,rfl,AaU hK,?_⟩⟩;have ah:=Lo ag (I9 _ D (.deferred none)) (fun r e=>by cases e;exact⟨_,hK,rfl⟩);refine⟨J (Fb (if d.X a.1=0 then none else some a.1)),?_,by rw[z HR],m.trans (belowK_b (w:=w) (Be _) W D _ _ oa hK rfl rfl)⟩;simp[results,Tryz.f280,go_sem,ah]
end
section
open Go.RowKit
attribute [local go_sem] Am Aj
theorem Co(v:Vl)(m:Nat)(w:Y)(b:m<=4194304):
  C9 268 #[V v.kind v.num v.Ag v.str v.ref,J (m:Int)] w (R9 (.bool (tells (AA m v))) w):=by
 have a:=O (show tells (AA m v)=(v.kind==2&&(decide (1<=v.num)&&decide (v.num<=(m:Int)))) by unfold AA tells;simp;rfl);cases h1:v.kind==2<;>cases h2:decide (1<=v.num)<;>cases h3:decide (v.num<=(m:Int))<;>(rw[h1,h2,h3]at a;go_enter Tryz.func268,Tryz.ntmps268;go_wp2;go_ret;exact⟨by rw[z a];simp,n9⟩)
theorem Vn(h:Df v=true)(hk:v.kind=2):(O9 v.Ag 0==some .eq)=true/\v.str.toList.isEmpty=true/\v.ref=0:=by
 have a:v.ok=true:=by unfold Df at h;simp only[To]at h;exact h.1.1
 unfold Vl.ok Bh at a;simp only[hk]at a;simp[fz]at a;exact⟨by simp[a],by simp[a],a.2⟩
end
section
open Go.RowKit Go.Shelf
attribute [local go_sem] Am Aj Oper.semAt_some
def CV(E:Nat->Nat)(p:Int):Option Addr:=if 0<=p then some (G (E p.toNat) 0)else none
theorem Ii(h3:D3 d)(h4:D4 d)(v:Vl)(h:Nat):-1<=Aw d v h/\Aw d v h<d.n:=by
 unfold Aw;by_cases hs:AA d.m v
 ·rw[DD hs];have:=hs.2.1;have:=hs.2.2;rcases h3.1 (v.num-1).toNat oa with hh|hh<;>omega
 ·rw[C3 hs];cases e:AQ d v h with
  |none=>exact⟨by show(-1:Int)<=-1;omega,by show(-1:Int)<_;omega⟩
  |some s=>
   obtain⟨h1,h2⟩:=Lg e;show -1<=d.X s-1/\d.X s-1<d.n;rcases h4.2.1 s h1 with hh|hh|hh<;>omega
theorem IA(T:World->Prop)(A:EM T)(bk R0 R1 R2:Nat)(E S:Nat->Nat)(d:Dc)(v:Vl)(h:Nat)(hh:O7 T v h)(w:Y)(hT:T w)(hB:Jk w bk R0 R1 R2 E S d)(L:Small d)(h3:D3 d)(h4:D4 d):
  C9 263 #[.pointer (some (G bk 0)),V v.kind v.num v.Ag v.str v.ref] w (R9 (.pointer (CV E (Aw d v h))) w):=by
 have hm:=L.m;have hx:=L.x;have hn:=L.n;obtain⟨W,i⟩:∃W,W=w.alloc (.cells (ow v) 43):=⟨_,rfl⟩;have j:B9 w W:=by rw[i];exact(Cs _ _).alloc (Be _) _
 have g:=hB.below j;obtain⟨k1,c1⟩:=g.c1;have lb:=g.lt;have l1:=g.l1;have c:w.heap.size<W.heap.size:=by rw[i];simp
 obtain⟨q0,q1,q2,q3,q4⟩:W.cell? (y w 0)=some (J v.kind)/\W.cell? (y w 1)=some (J v.num)/\W.cell? (y w 2)=some (F9 v.Ag)/\W.cell? (y w 3)=some (.string v.str)/\W.cell? (y w 4)=some (J v.ref):=by rw[i];simp[go_sem]
 have k:=O j;have M:=O g;have HT:=O (A _ _ hT j);have B:=O A;have HH:=O hh;have HS:=O L;have H3:=O h3;have H4:=O h4;clear j g hT hh L h3 h4 hB A
 go_enter Tryz.func263,Tryz.ntmps263
 go_wp2_with fail
 rw[<-i];clear i;by_cases hs:AA d.m v
 ·have C:=O (Bw hs);obtain⟨k1,k2,k3⟩:=hs;obtain⟨q,hq⟩:∃q:Nat,v.num=(q:Int)+1:=⟨(v.num-1).toNat,oa⟩;have ad:q<d.m:=oa;have HR:Hid (Aw d v h=d.I q-1):=O (by unfold Aw;rw[DD ⟨k1,k2,k3⟩,hq];congr 2;omega);have P:=M.r1 q ad;have hI:B8 E (d.I q)=CV E (d.I q-1):=by
   unfold B8 CV;by_cases e:0<d.I q
   ·rw[DD e,DD oa]
   ·rw[C3 e,C3 oa]
  rw[hI]at P;have ao:IntKind.i64.wrap (q:Int)=q:=by rw[Hi];omega
  have HQ:=O hq;clear k1 k2 k3 hI hq;refine qr W ?_;refine N (h:=N (h:=N (h:=N (h:=N (h:=N (h:=?_))))));refine GS (fun K hK=>?_);go_simp;apply Exists.intro;refine And.intro (fun w' b=>?_) (hK _ ?_)
  ·refine(((z C)▸Co v d.m _ hm)).mono ?_;rintro e ae ⟨rfl,hb⟩;exact⟨rfl,oo b hb⟩
  clear hK K;refine H7 ?_;intro w2 a;have aq:=ol a lb c1;have ar:=ol a l1 P;have D:=ol a c q1;rw[z HQ]at D;have Q:=At lb a.size;have au:=At l1 a.size;have af:=At c a.size;have l:=O (oo k a);clear a c1 P q0 q1 q2 q3 q4;go_wp2_with fail
  go_quiet (fail)
  go_wp2;go_ret;exact⟨by rw[z HR];rfl,AW l _⟩
 ·have C:=O (Bq hs);have HR:Hid (Aw d v h=ZC d (AQ d v h)):=O (by unfold Aw;rw[C3 hs]);clear hs;refine qr W ?_;refine N (h:=N (h:=N (h:=N (h:=N (h:=N (h:=?_))))));refine GS (fun K hK=>?_);go_simp;apply Exists.intro;refine And.intro (fun w' b=>?_) (hK _ ?_)
  ·refine(((z C)▸Co v d.m _ hm)).mono ?_;rintro e ae ⟨rfl,hb⟩;exact⟨rfl,oo b hb⟩
  clear hK K;refine H7 ?_;intro w2 a;have ag:=ol a c q0;have D:=ol a c q1;have ah:=ol a c q2;have ai:=ol a c q3;have aj:=ol a c q4;have af:=At c a.size;have Q:=At lb a.size;have l:=O (oo k a);have t:=O (M.below a);have ak:=O (B _ _ HT a);clear a q0 q1 q2 q3 q4 c1;go_wp2_with fail;refine qr w2 ?_;refine N (h:=N (h:=N (h:=N (h:=?_))));refine GS (fun K hK=>?_);go_simp;refine⟨_,fun w' b=>qk b ((M4 T B bk R0 R1 R2 E S d v h HH _ (B _ _ ak b) (t.below b) HS H4)),hK _ ?_⟩;clear hK K;refine N (h:=?_);refine H7 ?_;intro w3 F;have R:=O (oo l F);have f:=t.below F;have c3:=f.c3;have av:=f.lt;have u:=O f;clear F f ag D ah ai aj Q;cases o:AQ d v h with
  |none=>
   have r:Hid (CV E (Aw d v h)=none):=O (by rw[z HR,o];rfl);simp only[Fb];go_wp2;go_ret;exact⟨by rw[z r];rfl,R⟩
  |some s=>
   obtain⟨U,Z⟩:=Lg o;have H:=(u.sl s U).1 Z;have P:=u.r2 s U;rw[show Dj S s (d.X s)=some (G (S s) 0)from C3 oa]at P;have p1:=H.pt;have ls:=H.lt;have r:Hid (CV E (Aw d v h)=some (G (E (d.X s-1).toNat) 0)):=O (by
    rw[z HR,o];show(if 0<=d.X s-1 then _ else _)=_;rw[DD oa];rfl)
   simp only[Fb];obtain⟨q,hq⟩:∃q,q=(d.X s-1).toNat:=⟨_,rfl⟩;rw[<-hq]at p1 r;clear o Z H hq;go_wp2;go_ret;exact⟨by rw[z r];rfl,R⟩
abbrev JL(d:Dc):Type:={i:Nat//i<d.n/\(d.L i).turn≠0}
def AM(d:Dc)(k:Nat):List Nat:=(List.range k).filter (fun i=>(d.L i).turn !=0)
def XU(d:Dc)(xs:List (JL d)):Prop:=xs.map (·.1)=AM d d.n
def Rl(d:Dc)(xs:List (JL d)):Prop:=xs.map (·.1)<+:AM d d.n
def Hk(d:Dc)(k:Nat)(xs:List (JL d)):Prop:=xs.map (·.1)=AM d k
theorem Ce(h:(d.L k).turn=0):AM d (k+1)=AM d k:=by
 unfold AM;rw[List.range_succ,List.filter_append];simp[h]
theorem Bf(h:(d.L k).turn≠0):AM d (k+1)=AM d k++[k]:=by
 unfold AM;rw[List.range_succ,List.filter_append];simp[h]
theorem Ff(d:Dc)(k:Nat):(AM d k).length<=k:=by
 unfold AM;have:=List.length_filter_le (fun i=>(d.L i).turn !=0) (List.range k);simpa using this
theorem EV(h:k<=n):AM d k<+:AM d n:=by
 obtain⟨j,rfl⟩:∃j,n=k+j:=⟨n-k,oa⟩
 induction j with
 |zero=>exact List.prefix_refl _
 |succ j ih=>
  refine(ih oa).trans ?_;by_cases e:(d.L (k+j)).turn=0
  ·rw[show k+(j+1)=k+j+1 by omega,Ce e];exact List.prefix_refl _
  ·rw[show k+(j+1)=k+j+1 by omega,Bf e];exact List.prefix_append _ _
theorem Hk.pre{xs:List (JL d)}(h:Hk d k xs)(hk:k<=d.n):Rl d xs:=by
 unfold Hk at h;unfold Rl;rw[h];exact EV hk
theorem Sy{i:Nat}:i∈AM d k↔i<k/\(d.L i).turn≠0:=by
 unfold AM;simp[List.mem_filter]
theorem GL(bk:Nat)(w:Y):
  C9 214 #[Q9 bk] w fun e w'=>e=.returned (.func (.func 248) #[] #[Q9 w.heap.size])/\w'=w.alloc (.cells #[Q9 bk] 289):=by
 go_enter Tryz.func214,Tryz.ntmps214
 go_wp2;go_ret;exact⟨rfl,rfl⟩
theorem J5(n:Nat)(hn:1<=n)(bk A U R2 B n0:Nat)(E S:Nat->Nat)(d:Dc)(w:Y)(M:Jk w bk A U R2 E S d)(P:Small d)(V:A<n0)(Q:∀i,i<d.n->E i<n0)
  (m0:w.cell? (G B 0)=some (Q9 bk)):
  SeqStopsK Fence.wide n Tryz.prog 248 #[Q9 B] (fun a:JL d=>#[Q9 (E a.1)]) (Below n0)
   (XU d) (Rl d) d.n w:=fun l Z Jx W C X D R T=>by
 have lm:=ID _ _ m0;have m0:=ol C lm m0;have c:=M.below C;obtain⟨a0,k0,c0,q⟩:=c.c0;have F:=O q;clear q;have lb:=c.lt;have ad:=P.n;have HY:=O R;have H0:=O T;have r:=O c;have HE:=O Q;clear D X R C T c M P Q;refine callsIn_of_wp Tryz.func248 rfl trivial ?_ rfl;simp only[Tryz.ntmps248,Aau,Aae,XN,Nat.reduceAdd,Nat.reduceSub,Aam,Aal,Aav,Aas,W9,Aar]
 gi_wp2
 gi_loopw [10] (fun i wr=>∃(k:Nat) (pre:List (JL d)),k<=d.n/\i=J (k:Int)/\Hk d k pre/\Z pre wr/\Below n0 W wr) (fun i _=>d.n-(intOf i).toNat)
 case atStart=>exact⟨0,[],oa,rfl,rfl,H0,Cs _ _⟩
 case round=>
  obtain⟨k,pre,hk,rfl,f,g,j⟩:=hrel;by_cases b:k<d.n
  ·obtain rfl:=z F oa;have p0:=ol j V (r.r0 k b);have t0:=ol j (HE k b) (r.Cr k b).tn;have m:=O f;have s:=O j;clear f j;by_cases o:(d.L k).turn=0
   ·have x:Hid (Hk d (k+1) pre):=O (by unfold Hk;rw[Ce o];exact m);rw[o]at t0;clear o
    gi_wp2
    refine⟨fun _ h=>(by cases h),?_⟩
    gi_wp2
    go_roundw
    case rel=>exact⟨k+1,pre,oa,oh,x,g,s⟩
    case measure=>simp[intOf];omega
   ·have ae:((d.L k).turn !=0)=true:=by simp[o]
    obtain⟨fn,tmps,assign,body,hy,t⟩:=z HY pre ⟨k,b,o⟩ wr g (by
     have h1:(pre.map (·.1)).length=(AM d k).length:=congrArg List.length m;rw[AaP]at h1;have:=Ff d k;omega)
    have x:Hid (Hk d (k+1) (pre++[⟨k,b,o⟩])):=O (by
     unfold Hk;rw[Bf o,Aaq,show pre.map (·.1)=AM d k from z m];rfl)
    have H:=O t;clear t g;dsimp only at hy
    gi_wp2
    refine H.mono ?_;rintro e W3 (⟨rfl,I,K⟩|⟨rfl,u⟩)
    ·clear H hy
     gi_wp2
     go_roundw
     case rel=>exact⟨k+1,_,oa,oh,x,I,s.trans K⟩
     case measure=>simp[intOf];omega
    ·clear H hy
     gi_wp2
     refine E1 (Aay rfl _ _ _) rfl ?_;exact⟨⟨_,rfl⟩,.inr ⟨_,x.pre oa,u⟩⟩
  ·have v:k=d.n:=oa;subst v;have HS:=O f;clear f
   gi_wp2
   go_end0;exact⟨⟨_,rfl⟩,.inl ⟨pre,HS,g⟩⟩
end
section
open Go.RowKit
attribute [local go_sem] Am Aj
theorem mK(a b:T9)(n m c d:Nat)(w:Y):(Instr.index 369 (.agg #[.slice a n c,.slice b m d]) (J 0)).run Tryz.prog w=.ok (.slice a n c) w:=og
theorem mL(a b:T9)(n m c d:Nat)(w:Y):(Instr.index 369 (.agg #[.slice a n c,.slice b m d]) (J 1)).run Tryz.prog w=.ok (.slice b m d) w:=og
theorem N7(la:T9)(lc:Nat)(ia:T9)(ic:Nat)(xa:T9)(xc:Nat)(d:Dc)(w:Y)(hD:G8 w la ia xa d)(B:Small d)(h3:D3 d)(h4:D4 d):
  C9 269 #[Dv la lc ia ic xa xc d] w fun e w'=>(∃s,e=.returned (S9 s d.n d.n)/\B1 w' s d.n (fun j=>EH d.I j d.m+EH d.X j d.x))/\B9 w w':=by
 have hn:=B.n;have S:=B.m;have hx:=B.x;have C:=PD d.n hn;have H:=mK ia xa d.m d.x ic xc;have K:=mL ia xa d.m d.x ic xc;have F:=O hD;have L:=O h3;have M:=O h4;clear hD B h3 h4
 go_enter Tryz.func269,Tryz.ntmps269
 go_wp2;obtain⟨u,hu⟩:∃u,u=((w.alloc (.cells #[.slice la d.n lc,.slice ia d.m ic,.slice xa d.x xc,J d.used,J d.live,J d.turns] 322)).alloc (.cells (madeCells #[J 0] d.n) 3)):=⟨_,rfl⟩;rw[<-hu];have r:Hid (B9 w u):=O (by rw[hu];exact(n9).alloc od _);have t:Hid (B1 u (w.heap.size+1) d.n (fun j=>0)):=O (by
  rw[hu];have:=Nu (w.alloc (.cells #[.slice la d.n lc,.slice ia d.m ic,.slice xa d.x xc,J d.used,J d.live,J d.turns] 322)) d.n;exact⟨_,by simpa[Value.cells]using this,fun j hj=>rfl⟩)
 clear hu C;go_loopw [20] (fun i wr=>(i=J 0/\B1 wr (w.heap.size+1) d.n (fun j=>0)/\B9 w wr)\/(i=J 1/\B1 wr (w.heap.size+1) d.n (fun j=>EH d.I j d.m)/\B9 w wr)\/(i=J 2/\B1 wr (w.heap.size+1) d.n (fun j=>EH d.I j d.m+EH d.X j d.x)/\B9 w wr)) (fun i _=>2-(intOf i).toNat)
 case atStart=>exact .inl ⟨rfl,t,r⟩
 case round=>
  clear t r;rcases hrel with⟨rfl,a,hb⟩|⟨rfl,a,hb⟩|⟨rfl,a,hb⟩
  ·have c:=O a;have f:=O hb;clear a hb;go_wp2;go_loopw [25] (fun i wr=>∃k:Nat,k<=d.m/\i=J k/\B1 wr (w.heap.size+1) d.n (fun j=>EH d.I j k)/\B9 w wr) (fun i _=>d.m-(intOf i).toNat)
   case atStart=>exact⟨0,oa,rfl,c,f⟩
   case round=>
    clear c f;obtain⟨k,hk,rfl,a,hb⟩:=hrel;by_cases g:k<d.m
    ·obtain⟨b,off,rfl,l,hcs⟩:=F.ints.resolve_left oa;have e0:=ol hb l (hcs k g);have D:=a.lt;have f:=O hb;rcases L.1 k g with hz|hz
     ·have c:Hid (B1 wr (w.heap.size+1) d.n (fun j=>EH d.I j (k+1))):=O (a.congr (fun j hj=>by show(if _ then _ else _)=_;rw[C3 oa]));rw[hz]at e0;clear hcs hb a hz;go_wp2;go_roundw
      case rel=>exact⟨k+1,oa,oh,c,f⟩
      case measure=>simp[intOf];omega
     ·obtain⟨q,hq⟩:∃q:Nat,d.I k=(q:Int)+1:=⟨(d.I k-1).toNat,oa⟩;have o:q<d.n:=oa;have r0:=a.cell o;have r1:=a.frozen q;have v:=TJ d.I q k;have c:Hid (B1 (wr.setCell (Y9 w q) (J ((EH d.I q k:Int)+1))) (w.heap.size+1) d.n (fun j=>EH d.I j (k+1))):=O (a.bump.congr (fun j hj=>by
       show(if d.I k=(j:Int)+1 then _ else _)=(if j=q then _ else _);by_cases e:j=q
       ·subst e;rw[DD hq,DD rfl]
       ·rw[C3 oa,C3 e]))
      rw[hq]at e0;clear hcs hb a hz hq;go_wp2;go_roundw
      case rel=>exact⟨k+1,oa,oh,c,f.setCell (by show w.heap.size<=w.heap.size+1;omega) _⟩
      case measure=>simp[intOf];omega
    have h:k=d.m:=oa;subst h;have c:=O a;have f:=O hb;clear a hb hk g;go_wp2;go_roundw
    case rel=>exact .inr (.inl ⟨rfl,c,f⟩)
    case measure=>simp[intOf]
  ·have c:=O a;have f:=O hb;clear a hb;go_wp2;go_loopw [25] (fun i wr=>∃k:Nat,k<=d.x/\i=J k/\B1 wr (w.heap.size+1) d.n (fun j=>EH d.I j d.m+EH d.X j k)/\B9 w wr) (fun i _=>d.x-(intOf i).toNat)
   case atStart=>exact⟨0,oa,rfl,c,f⟩
   case round=>
    clear c f;obtain⟨k,hk,rfl,a,hb⟩:=hrel;by_cases g:k<d.x
    ·obtain⟨b,off,rfl,l,hcs⟩:=F.index.resolve_left oa;have e0:=ol hb l (hcs k g);have D:=a.lt;have f:=O hb;by_cases hz:0<d.X k
     case neg=>
      have c:Hid (B1 wr (w.heap.size+1) d.n (fun j=>EH d.I j d.m+EH d.X j (k+1))):=O (a.congr (fun j hj=>by show _+(if _ then _ else _)=_;rw[C3 oa]));have P:decide (0<d.X k)=false:=oe;clear hcs hb a;go_wp2;go_roundw
      case rel=>exact⟨k+1,oa,oh,c,f⟩
      case measure=>simp[intOf];omega
     ·obtain⟨q,hq⟩:∃q:Nat,d.X k=(q:Int)+1:=⟨(d.X k-1).toNat,oa⟩;have o:q<d.n:=by rcases M.2.1 k g with hh|hh|hh<;>omega
      have r0:=a.cell o;have r1:=a.frozen q;have v:=TJ d.I q d.m;have A:=TJ d.X q k;have c:Hid (B1 (wr.setCell (Y9 w q) (J (((EH d.I q d.m+EH d.X q k:Nat):Int)+1))) (w.heap.size+1) d.n (fun j=>EH d.I j d.m+EH d.X j (k+1))):=O (a.bump.congr (fun j hj=>by
       show _+(if d.X k=(j:Int)+1 then _ else _)=(if j=q then _ else _);by_cases e:j=q
       ·subst e;rw[DD hq,DD rfl];omega
       ·rw[C3 oa,C3 e]))
      generalize E:EH d.I q d.m+EH d.X q k=Q at r0 c;have R:Q<=8388608:=oa;rw[hq]at e0;clear hcs hb a hz hq E v A;go_wp2;go_roundw
      case rel=>exact⟨k+1,oa,oh,c,f.setCell (by show w.heap.size<=w.heap.size+1;omega) _⟩
      case measure=>simp[intOf];omega
    have h:k=d.x:=oa;subst h;have c:=O a;have f:=O hb;clear a hb hk g;go_wp2;go_roundw
    case rel=>exact .inr (.inr ⟨rfl,c,f⟩)
    case measure=>simp[intOf]
  ·have c:=O a;have f:=O hb;clear a hb;go_wp2;go_ret;exact⟨⟨_,rfl,c⟩,f⟩
theorem Ia(bk h i R2:Nat)(E S:Nat->Nat)(d:Dc)(w:Y)(b:Jk w bk h i R2 E S d)(g:Small d):
  C9 270 #[Q9 bk] w (R9 (V 2 ((d.m:Int)+1) 0 ⟨#[]⟩ 0) w):=by
 have l:=g.m;obtain⟨k1,c1⟩:=b.c1;have j:=b.lt;clear b g
 go_enter Tryz.func270,Tryz.ntmps270
 go_wp2_with (go_at_call 238;refine m9 (GJ ((d.m:Int)+1) _) fun w1 a=>?_;obtain⟨c,k⟩:=Bo a;have e:=a.size;simp at e)
 refine E1 (v:=V 2 ((d.m:Int)+1) 0 ⟨#[]⟩ 0) (by simp[results,Tryz.results270,go_sem,c]) rfl ⟨rfl,?_⟩;have f:B9 w w1:=(n9).trans (a.mono od);exact(((((f.setCell (p:=(y w 0)) (Be _) _).setCell (p:=(y w 1)) (Be _) _).setCell (p:=(y w 2)) (Be _) _).setCell (p:=(y w 3)) (Be _) _).setCell (p:=(y w 4)) (Be _) _)
end
section
open Go.RowKit Go.Shelf
attribute [local go_sem] Am Aj Oper.semAt_some
theorem Wt:(Tryz.prog.info? 294).map (fun i=>i.size)=some 12:=og
theorem cG{bk g l R2:Nat}{E S:Nat->Nat}(b:Jk w bk g l R2 E S d){p:Int}(h1:-1<=p)(h2:p<d.n){i:Nat}(hi:i<d.n):
  (binOp .neq 292 (.pointer (CV E p)) (Q9 (E i))).run Tryz.prog w=.ok (.bool (decide (p≠i))) w:=by
 have c:Tryz.prog.underlying 292=some (.pointer 294):=Tryz.underlying292;obtain⟨j,hj,hs⟩:=Option.map_eq_some_iff.1 Wt;unfold CV;by_cases h:0<=p
 ·rw[DD h];by_cases e:p=i
  ·subst e;have a:∀k:Nat,(Op.equalIn (k+1) 292 (Q9 (E i)) (Q9 (E i))).run Tryz.prog w=.ok true w:=fun k=>by
    simp[Op.equalIn,run_underlying c,sizeOf,typeInfo,hj,run_sameAddr_same]
   simp only[NO,binOp];simp[Op.equal,Op.maxDepth,a 9999]
  ·have o1:=(b.Cr p.toNat oa).ob;have o2:=(b.Cr i hi).ob;have f:((G (E p.toNat) 0):Addr)≠(G (E i) 0):=fun m=>by
    have:=b.inj p.toNat i oa hi (by simpa using m);omega
   have a:∀k:Nat,(Op.equalIn (k+1) 292 (Q9 (E p.toNat)) (Q9 (E i))).run Tryz.prog w=.ok false w:=fun k=>by
    simp[Op.equalIn,run_underlying c,sizeOf,typeInfo,hj,hs,run_sameAddr_other w f o1 o2]
   simp only[binOp];simp[Op.equal,Op.maxDepth,a 9999,e]
 ·rw[C3 h];have e:p≠i:=oa;have a:∀k:Nat,(Op.equalIn (k+1) 292 (.pointer none) (Q9 (E i))).run Tryz.prog w=.ok false w:=fun k=>by
   simp[Op.equalIn,run_underlying c,sizeOf,typeInfo]
  simp only[binOp];simp[Op.equal,Op.maxDepth,a 9999,e]
end
section
open Go.RowKit
attribute [local go_sem] Am Aj
def mQ(x:Int):Int:=IntKind.u64.wrap (bits BinOp.and IntKind.u64 (x/2) 6148914691236517205+bits BinOp.and IntKind.u64 x 6148914691236517205)
def mR(x:Int):Int:=IntKind.u64.wrap (bits BinOp.and IntKind.u64 (x/4) 3689348814741910323+bits BinOp.and IntKind.u64 x 3689348814741910323)
def mS(x:Int):Int:=bits BinOp.and IntKind.u64 (IntKind.u64.wrap (x/16+x)) 1085102592571150095
def mT(x:Int):Int:=IntKind.u64.wrap (x+x/256)
def mV(x:Int):Int:=IntKind.u64.wrap (x+x/65536)
def mW(x:Int):Int:=IntKind.u64.wrap (x+x/4294967296)
def pop(x:Int):Int:=bits BinOp.and IntKind.i64 (wrap64 (mW (mV (mT (mS (mR (mQ x))))))) 127
theorem L7(x:Nat)(hx:x<=4000)(w:Y):
  C9 284 #[.int .u64 (x:Int)] w fun e w'=>e=.returned (J (pop x))/\w'=w:=by
 go_enter Tryz.func284,Tryz.ntmps284
 go_wp2;go_ret;exact⟨rfl,rfl⟩
theorem OW(x:Nat)(hx:x<=4000)(w:Y):
  C9 267 #[.int .u64 (x:Int)] w fun e w'=>e=.returned (J (pop x))/\w'=w:=by
 go_enter Tryz.func267,Tryz.ntmps267
 go_wp2_with (go_at_call 284;refine(L7 x hx _).mono ?_;rintro e w1 ⟨rfl,rfl⟩)
 go_ret;exact⟨rfl,rfl⟩
theorem Zf:∀k:Nat,k<12->pop ((2^k:Nat):Int)=1:=by decide +kernel
theorem cQ:∀x:Nat,x<4001->pop (x:Int)=1->x∈[1,2,4,8,16,32,64,128,256,512,1024,2048]:=by decide +kernel
theorem cP(hx:x<=4000):pop x=1↔LR x:=by
 constructor
 ·intro h;have:=cQ x oa h;simp only[List.mem_cons,AaD,or_false]at this;rcases this with h|h|h|h|h|h|h|h|h|h|h|h
  ·exact⟨0,h⟩
  ·exact⟨1,h⟩
  ·exact⟨2,h⟩
  ·exact⟨3,h⟩
  ·exact⟨4,h⟩
  ·exact⟨5,h⟩
  ·exact⟨6,h⟩
  ·exact⟨7,h⟩
  ·exact⟨8,h⟩
  ·exact⟨9,h⟩
  ·exact⟨10,h⟩
  ·exact⟨11,h⟩
 ·rintro⟨k,rfl⟩;have hk:k<12:=by
   rcases Nat.lt_or_ge k 12 with h|h
   ·exact h
   ·have:=AaL (n:=2) oc h;omega
  exact Zf k hk
theorem bC(h:fz x=true):Pk x x=true:=by
 have h':(Ieee.double.order x 0==some .eq)=true:=h;show(Ieee.double.order x x==some .eq)=true;rcases Fl.Cg x with⟨s,m,i,a,hi,b,c,_⟩|⟨s,a⟩|⟨s,t,a⟩
 ·rw[Fl.Bi a a hi hi,Fl.B3];simp
 ·exfalso;unfold Ieee.Format.order at h';rw[a,Fl.BT]at h';cases s<;>simp[Ieee.Datum.order]at h'
 ·exfalso;unfold Ieee.Format.order at h';rw[a]at h';simp[Ieee.Datum.order]at h'
theorem Vo(h:Df v=true):Pk v.Ag v.Ag=true:=by
 unfold Df Vl.ok at h;simp only[To,bne_iff_ne,ne_eq,Bool.not_eq_true',Bool.and_eq_false_iff,Bool.or_eq_false_iff,beq_eq_false_iff_ne]at h;obtain⟨⟨a,f⟩,h3⟩:=h;by_cases hk:v.kind=3
 ·rcases h3 with h3|h3
  ·exact absurd hk h3
  ·have:(O9 v.Ag v.Ag !=some .eq)=false:=h3.1;unfold Pk;simpa using this
 ·have hz:fz v.Ag=true:=by
   unfold Bh at a;by_cases k1:v.kind=1
   ·simp[k1]at a;simp[a]
   by_cases k2:v.kind=2
   ·simp[k2]at a;simp[a]
   by_cases k4:v.kind=4
   ·simp[k4]at a;simp[a]
   by_cases b:v.kind=5
   ·simp[b]at a;simp[a]
   by_cases c:v.kind=6
   ·simp[c]at a;simp[a]
   by_cases d:v.kind=7
   ·simp[d]at a;simp[a]
   by_cases e:v.kind=8
   ·simp[e]at a;simp[a]
   exfalso;simp[f,hk,k1,k2,k4,b,c,d,e]at a
  exact bC hz
theorem Vs(v:Vl):Gr v=(v.kind==0&&(v.num==0&&(fz v.Ag&&(v.str.toList.isEmpty&&v.ref==0)))):=by
 unfold Gr Vl.ok Bh;by_cases h:v.kind=0
 ·simp[h,Bool.and_assoc]
 ·have:(v.kind==0)=false:=by simp[h]
  rw[this];rfl
end
section
open Go.RowKit Go.Shelf
attribute [local go_sem] Am Aj Cx
theorem oE(x:V9)(w:Y):(Instr.index 323 (.agg #[.func (.func 242) #[x] #[],.func (.func 243) #[x] #[],.func (.func 244) #[x] #[],.func (.func 245) #[x] #[],.func (.func 246) #[x] #[]]) (J 0)).run Tryz.prog w=.ok (.func (.func 242) #[x] #[]) w:=og
theorem oG(x:V9)(w:Y):(Instr.index 323 (.agg #[.func (.func 242) #[x] #[],.func (.func 243) #[x] #[],.func (.func 244) #[x] #[],.func (.func 245) #[x] #[],.func (.func 246) #[x] #[]]) (J 1)).run Tryz.prog w=.ok (.func (.func 243) #[x] #[]) w:=og
theorem oH(x:V9)(w:Y):(Instr.index 323 (.agg #[.func (.func 242) #[x] #[],.func (.func 243) #[x] #[],.func (.func 244) #[x] #[],.func (.func 245) #[x] #[],.func (.func 246) #[x] #[]]) (J 2)).run Tryz.prog w=.ok (.func (.func 244) #[x] #[]) w:=og
theorem oI(x:V9)(w:Y):(Instr.index 323 (.agg #[.func (.func 242) #[x] #[],.func (.func 243) #[x] #[],.func (.func 244) #[x] #[],.func (.func 245) #[x] #[],.func (.func 246) #[x] #[]]) (J 3)).run Tryz.prog w=.ok (.func (.func 245) #[x] #[]) w:=og
theorem oJ(x:V9)(w:Y):(Instr.index 323 (.agg #[.func (.func 242) #[x] #[],.func (.func 243) #[x] #[],.func (.func 244) #[x] #[],.func (.func 245) #[x] #[],.func (.func 246) #[x] #[]]) (J 4)).run Tryz.prog w=.ok (.func (.func 246) #[x] #[]) w:=og
end
namespace Fl
open Ieee
theorem fields(x:Nat)(hx:x<18446744073709551616):∃a e f:Nat,x=a*9223372036854775808+e*4503599627370496+f/\a<2/\e<2048/\f<4503599627370496:=
 ⟨x/9223372036854775808,x/4503599627370496%2048,x%4503599627370496,oa,oa,oa,oa⟩
theorem C5(a e f:Nat)(h1:a<2)(h2:e<2047)(h3:f<4503599627370496):
  double.read (a*9223372036854775808+e*4503599627370496+f)=.number (a==1) (if e=0 then f else 4503599627370496+f) (if e=0 then -1074 else(e:Int)-1075):=by
 unfold Format.read;have hb:double.binade=4503599627370496:=oc;have c:double.infRung=9218868437227405312:=oc;have hl:double.leastPlace=-1074:=oc;have hs:double.signWeight=9223372036854775808:=oc;dsimp only;rw[hb,c,hl,hs];have e1:(a*9223372036854775808+e*4503599627370496+f)%9223372036854775808=e*4503599627370496+f:=oa;have e2:(a*9223372036854775808+e*4503599627370496+f)/9223372036854775808%2=a:=oa;rw[e1,e2];by_cases b:e=0
 ·subst b;rw[DD oa,DD rfl,DD rfl];simp
 ·rw[C3 oa,DD oa,C3 b,C3 b]
  congr 1
  ·omega
  ·have:(e*4503599627370496+f)/4503599627370496=e:=oa;rw[this];omega
theorem DS(a f:Nat)(h1:a<2)(h3:f<4503599627370496):
  double.read (a*9223372036854775808+2047*4503599627370496+f)=if f=0 then .infinity (a==1)else .nan (a==1) f:=by
 unfold Format.read;have hb:double.binade=4503599627370496:=oc;have b:double.infRung=9218868437227405312:=oc;have hs:double.signWeight=9223372036854775808:=oc;dsimp only;rw[hb,b,hs];have e1:(a*9223372036854775808+2047*4503599627370496+f)%9223372036854775808=9218868437227405312+f:=oa;have e2:(a*9223372036854775808+2047*4503599627370496+f)/9223372036854775808%2=a:=oa;rw[e1,e2,C3 oa,C3 oa];by_cases hf:f=0
 ·subst hf;simp
 ·rw[C3 oa,C3 hf,show 9218868437227405312+f-9218868437227405312=f from by omega]
theorem aT:(2:Nat)^63=9223372036854775808:=oc
theorem mB:(2:Nat)^63-1=9223372036854775807:=oc
theorem TI:(2:Nat)^52=4503599627370496:=oc
theorem mA:(2:Nat)^52-1=4503599627370495:=oc
theorem Qm:(2:Nat)^11=2048:=oc
theorem lZ:(2:Nat)^11-1=2047:=oc
theorem SR(a:Nat):a*9223372036854775808%2^52=0:=by
 have e:a*9223372036854775808=a*2048*2^52:=by rw[TI,OK]
 rw[e];exact Nat.mul_mod_left _ _
theorem Ls(a e f:Nat)(h1:a<2)(h2:e<2048)(h3:f<4503599627370496):
  bits BinOp.andNot IntKind.u64 ((a*9223372036854775808+e*4503599627370496+f:Nat):Int) 9223372036854775808=((e*4503599627370496+f:Nat):Int):=by
 have h:=u64_andNot_nat (a*9223372036854775808+e*4503599627370496+f) 9223372036854775808 oa oa;refine h.trans ?_
 congr 1
 have:=Nat.and_two_pow_sub_one_eq_mod (a*9223372036854775808+e*4503599627370496+f) 63;rw[mB,aT]at this;rw[show 18446744073709551615-9223372036854775808=9223372036854775807 from rfl,this];omega
theorem TF(a e f:Nat)(h1:a<2)(h2:e<2048)(h3:f<4503599627370496):
  bits BinOp.andNot IntKind.u64 ((a*9223372036854775808+e*4503599627370496+f:Nat):Int) 9218868437227405312=((a*9223372036854775808+f:Nat):Int):=by
 have h:=u64_andNot_nat (a*9223372036854775808+e*4503599627370496+f) 9218868437227405312 oa oa;refine h.trans ?_
 congr 1
 have m1:18446744073709551615-9218868437227405312=9223372036854775808 ||| 4503599627370495:=oc
 rw[m1,Nat.and_or_distrib_left];have a1:=nat_bit 63 (a*9223372036854775808+e*4503599627370496+f);have a2:=Nat.and_two_pow_sub_one_eq_mod (a*9223372036854775808+e*4503599627370496+f) 52;rw[aT]at a1;rw[mA,TI]at a2;rw[a1,a2];have e1:(a*9223372036854775808+e*4503599627370496+f)/9223372036854775808%2=a:=oa;have e2:(a*9223372036854775808+e*4503599627370496+f)%4503599627370496=f:=oa;rw[e1,e2,nat_join 52 (a*9223372036854775808) f (SR a) (by rw[TI];omega)]
theorem gU(a f:Nat)(h1:a<2)(h3:f<4503599627370496):
  bits BinOp.or IntKind.u64 ((a*9223372036854775808+f:Nat):Int) 4602678819172646912=((a*9223372036854775808+1022*4503599627370496+f:Nat):Int):=by
 have h:=u64_or_nat (a*9223372036854775808+f) 4602678819172646912 oa oa;refine h.trans ?_
 congr 1
 have b:=nat_join 52 (a*9223372036854775808) f (SR a) (by rw[TI];omega);have c:=nat_join 52 4602678819172646912 f (by rw[TI]) (by rw[TI];omega);have d:=nat_join 63 (a*9223372036854775808) (4602678819172646912+f) (by rw[aT];exact Nat.mul_mod_left _ _) (by rw[aT];omega);rw[<-b,Nat.or_assoc,Nat.or_comm f,c,d];omega
theorem aP(e:Nat)(h2:e<4096):bits BinOp.and IntKind.u64 (e:Int) 2047=((e%2048:Nat):Int):=by
 have h:=u64_and_nat e 2047 oa oa;refine h.trans ?_
 congr 1
 have:=Nat.and_two_pow_sub_one_eq_mod e 11;rw[lZ,Qm]at this;exact this
theorem PE{Z:Nat}{t:Bool}{j:Int}(hx:double.read x=.number s m i)(hy:double.read Z=.number t n j)(f:m*n≠0)(b:-1074<=i+j)
  (a:Nat) (p:Int) (g:a<2^53) (c:-1074<=p) (d:p<=971) (e:(m*n)*2^(i+j+1074).toNat=a*2^(p+1074).toNat):
  ∃r q l,floatBits .mul .f64 x Z=some r/\double.read r=.number (s^^t) q l/\-1074<=l/\l<=971/\q*2^(l+1074).toNat=a*2^(p+1074).toNat:=by
 obtain⟨q,l,h1,h2,h3,h4⟩:=Gb (s^^t) (m*n) (i+j) a p f b g c d e;refine⟨double.nearest (s^^t) (m*n) (i+j),q,l,?_,h1,h2,h3,h4.trans e⟩;show((double.read x).product (double.read Z)).map double.write=_;rw[hx,hy];rfl
theorem NN:double.read 9218868437227405311=.number false 9007199254740991 971:=oc
theorem La:double.read 4602678819172646912=.number false 4503599627370496 (-53):=oc
theorem Zm:double.read 4611686018427387904=.number false 4503599627370496 (-51):=oc
theorem Zk:double.read 4841369599423283200=.number false 4503599627370496 0:=oc
theorem Zl:double.read 4845873199050653696=.number false 4503599627370496 1:=oc
theorem NM:double.read 4503599627370496=.number false 4503599627370496 (-1074):=oc
theorem Cb(m:Nat)(i:Int):sc false m i=((m*2^(i+1074).toNat:Nat):Int):=by
 unfold sc signed;rw[AaV];simp
theorem Xg(s:Bool)(m:Nat)(i:Int)(c:m<2^53)(hi:i<=971):sc s m i<=sc false 9007199254740991 971:=by
 have h1:sc s m i<=sc false m i:=by
  cases s
  ·exact AaI _
  ·rw[D6,Cb];omega
 refine Int.le_trans h1 ?_;rw[Cb,Cb];have a:m<=9007199254740991:=oa;have b:2^(i+1074).toNat<=2^((971:Int)+1074).toNat:=AaL oa oa;exact Int.ofNat_le.2 (Nat.mul_le_mul a b)
theorem IU(hx:double.read x=.number s m i)(hi:-1074<=i)(a:i<=971)(b:m<2^53):(double.order x 9218868437227405311==some .gt)=false:=by
 rw[Bi hx NN hi oa,Hr];have:=Xg s m i b a;simp;omega
theorem Ps(hx:double.read x=.infinity false):(double.order x 9218868437227405311==some .gt)=true:=by
 unfold Format.order;rw[hx,NN];rfl
theorem Ul(hx:double.read x=.infinity true):(double.order x 9218868437227405311==some .gt)=false:=by
 unfold Format.order;rw[hx,NN];rfl
end Fl
namespace Fl
open Ieee
structure Fr (x:Nat) (s:Bool) (m:Nat) (i:Int) (a y e0 z z2:Nat) (k:Int) (j:Nat):Prop where
 hk:-60<=k
 DI:k<=60
 fL:e0<2048
 RY:bits BinOp.andNot IntKind.u64 (x:Int) 9223372036854775808=(a:Int)
 OE:(double.order a 9218868437227405311==some .gt)=false
 Vf:(k=0/\y=x/\(double.order a 4503599627370496==some .lt)=false)\/(k=-52/\floatBits .mul .f64 x 4841369599423283200=some y/\(double.order a 4503599627370496==some .lt)=true)
 h1:bits BinOp.and IntKind.u64 ((y:Int)/4503599627370496) 2047=(e0:Int)
 h2:bits BinOp.andNot IntKind.u64 (y:Int) 9218868437227405312=(z:Int)
 h3:bits BinOp.or IntKind.u64 (z:Int) 4602678819172646912=(z2:Int)
 rd:double.read z2=.number s (m*2^j) (-53)
 lo:2^52<=m*2^j
 hi:m*2^j<2^53
 ex:k+((e0:Int)-1023+1)-53=i-j
theorem M8(Z a e f:Nat)(hy:Z=a*9223372036854775808+e*4503599627370496+f)(h1:a<2)(h2:e<2048)(h3:f<4503599627370496):
  bits BinOp.and IntKind.u64 ((Z:Int)/4503599627370496) 2047=(e:Int)/\
  bits BinOp.andNot IntKind.u64 (Z:Int) 9218868437227405312=((a*9223372036854775808+f:Nat):Int)/\
  bits BinOp.or IntKind.u64 ((a*9223372036854775808+f:Nat):Int) 4602678819172646912=((a*9223372036854775808+1022*4503599627370496+f:Nat):Int):=by
 subst hy;refine⟨?_,TF a e f h1 h2 h3,gU a f h1 h3⟩;have q:(((a*9223372036854775808+e*4503599627370496+f:Nat):Int)/4503599627370496)=((a*2048+e:Nat):Int):=oa;rw[q,aP _ oa]
 congr 1;omega
theorem RP(x:Nat)(hx:x<18446744073709551616)(s:Bool)(m:Nat)(i:Int)(B:double.read x=.number s m i)(S:m≠0):
  ∃P Z e0 X z2 k j,Fr x s m i P Z e0 X z2 k j:=by
 obtain⟨o,e,f,rfl,b1,b2,b3⟩:=fields x hx;have L:e<2047:=by
  apply Nat.lt_of_le_of_ne oa;intro h;subst h;rw[DS o f b1 b3]at B
  split at B<;>cases B
 rw[C5 o e f b1 L b3]at B;injection B with hs d g
 have u:double.read (0*9223372036854775808+e*4503599627370496+f)=_:=C5 0 e f oa L b3;rw[Nat.zero_mul,Wx]at u;by_cases E:e=0
 ·subst E;simp only[Aaw]at d g u;subst d g;have F:double.read (o*9223372036854775808+0*4503599627370496+f)=.number s f (-1074):=by
   rw[C5 o 0 f b1 oa b3];simp[hs]
  obtain⟨r,q,l,t,b,Q,R,A⟩:=PE F Zk oa oa f (-1022) oa oa oa (by
   rw[show((-1074:Int)+0+1074).toNat=0 from by decide,show((-1022:Int)+1074).toNat=52 from by decide,Nat.pow_zero,Nat.mul_one,<-TI])
  rw[show((-1022:Int)+1074).toNat=52 from by decide]at A;have C:r<18446744073709551616:=by
   have:=floatBits_wf t;simpa[Lit.wf]using this
  obtain⟨n,e',f',w,d1,d2,d3⟩:=fields r C;have H:e'<2047:=by
   apply Nat.lt_of_le_of_ne oa;intro h;rw[w,h,DS n f' d1 d3]at b
   split at b<;>cases b
  rw[w,C5 n e' f' d1 H d3]at b;injection b with g1 g2 g3
  have I:e'≠0:=by
   intro h;subst h;simp only[Aaw]at g2 g3;subst g2 g3;rw[show((-1074:Int)+1074).toNat=0 from by decide,Nat.pow_zero,Nat.mul_one,TI]at A;omega
  rw[C3 I]at g2 g3;subst g2 g3;rw[Bool.xor_false]at g1;obtain⟨c,hc⟩:∃c:Nat,c=((e':Int)-1075+1074).toNat:=⟨_,rfl⟩;rw[<-hc]at A;have M:c<=52:=by
   apply Nat.le_of_not_lt;intro K;have p1:2^53<=2^c:=AaL oa K;have p2:(4503599627370496+f')*2^53<=(4503599627370496+f')*2^c:=Nat.mul_le_mul_left _ p1;rw[TI]at A;omega
  have hj:4503599627370496+f'=f*2^(52-c):=by
   have e1:2^52=2^(52-c)*2^c:=by rw[<-Aak];congr 1;omega
   rw[e1,<-OK]at A;exact We (Of c) A
  obtain⟨t1,t2,t3⟩:=M8 r n e' f' w d1 oa d3;have D:(double.order f 4503599627370496==some .lt)=true:=by
   have a:double.read f=.number false f (-1074):=by simpa using u
   rw[Bi a NM oa oa,GF,Cb,Cb];simp;omega
  refine⟨f,r,e',_,_,-52,52-c,oa,oa,oa,?_,?_,.inr ⟨rfl,t,D⟩,t1,t2,t3,?_,?_,?_,?_⟩
  ·have:=Ls o 0 f b1 oa b3;simpa using this
  ·have a:double.read f=.number false f (-1074):=by simpa using u
   exact IU a oa oa oa
  ·rw[C5 n 1022 f' d1 oa d3,C3 oa,C3 oa,g1,hj];rfl
  ·rw[<-hj,TI];omega
  ·rw[<-hj];omega
  ·omega
 ·rw[C3 E]at d g u;rw[C3 E]at u;subst d g;obtain⟨t1,t2,t3⟩:=M8 _ o e f rfl b1 oa b3;have a:double.read (e*4503599627370496+f)=.number false (4503599627370496+f) ((e:Int)-1075):=by simpa using u
  refine⟨e*4503599627370496+f,_,e,_,_,0,0,oa,oa,oa,Ls o e f b1 b2 b3,?_,.inl ⟨rfl,rfl,?_⟩,t1,t2,t3,?_,?_,?_,?_⟩
  ·exact IU a oa oa oa
  ·rw[Bi a NM oa oa,GF,Cb,Cb];have p:1<=2^((e:Int)-1075+1074).toNat:=Of _;have p2:(4503599627370496+f)*1<=(4503599627370496+f)*2^((e:Int)-1075+1074).toNat:=Nat.mul_le_mul_left _ p;generalize (4503599627370496+f)*2^((e:Int)-1075+1074).toNat=v at p2;rw[show((-1074:Int)+1074).toNat=0 from by decide];simp;omega
  ·rw[C5 o 1022 f b1 oa b3,C3 oa,C3 oa,hs];simp
  ·rw[Nat.pow_zero,TI];omega
  ·rw[Nat.pow_zero];omega
  ·omega
end Fl
namespace Fl
open Ieee
theorem GN:∀(a b m n:Nat),2^a*(2*m+1)=2^b*(2*n+1)->a=b/\m=n
 |0,0,m,n,h=>by simp at h;exact⟨rfl,oa⟩
 |0,b+1,m,n,h=>by
  rw[AaF]at h;simp at h;exfalso;have:(2*m+1)%2=(2^b*2*(2*n+1))%2:=by rw[h]
  rw[OK,Nat.mul_left_comm,Nat.mul_mod_right]at this;omega
 |a+1,0,m,n,h=>by
  rw[AaF]at h;simp at h;exfalso;have:(2^a*2*(2*m+1))%2=(2*n+1)%2:=by rw[h]
  rw[OK,Nat.mul_left_comm,Nat.mul_mod_right]at this;omega
 |a+1,b+1,m,n,h=>by
  have h':2^a*(2*m+1)=2^b*(2*n+1):=by
   rw[AaF,AaF,Aan (2^a),Aan (2^b),OK,OK]at h;exact Nat.eq_of_mul_eq_mul_left oa h
  obtain⟨e1,e2⟩:=GN a b m n h';exact⟨oa,e2⟩
def uw(s:Bool)(Z:Nat):Nat:=if s then 18446744073709551616-Z else Z
theorem dG(s:Bool)(Z:Nat)(a:0<Z)(h:Z<2^53):IntKind.u64.wrap (sg s Z)=((uw s Z:Nat):Int):=by
 rw[IntKind.wrap_u64];cases s
 ·simp only[sg,uw,Aah,Tn];omega
 ·simp only[sg,uw,Aaw];omega
theorem MW(s:Bool)(Z:Nat)(l:0<Z)(h:Z<2^53):∃M,Z=2^Lib.ctz 64 (uw s Z)*(2*M+1)/\Lib.ctz 64 (uw s Z)<53:=by
 have m:Z≠0:=oa;obtain⟨M,b,c⟩:=Lib.ctzFrom_spec 53 Z l h;generalize o:Lib.ctzFrom 53 Z=t at b c;have j:uw s Z≠0:=by unfold uw;split<;>omega
 have f:uw s Z<2^64:=by unfold uw;split<;>omega
 obtain⟨p,a,_⟩:=Lib.ctzFrom_spec 64 (uw s Z) oa f;have e:Lib.ctz 64 (uw s Z)=Lib.ctzFrom 64 (uw s Z):=by unfold Lib.ctz;rw[C3 j]
 rw[e];generalize Lib.ctzFrom 64 (uw s Z)=t' at a;have k:t=t':=by
  cases s
  ·have:uw false Z=Z:=rfl;rw[this,b]at a;exact(GN _ _ _ _ a).1
  ·have hu:uw true Z=18446744073709551616-Z:=rfl;obtain⟨d,n⟩:∃d,64=t+(d+1):=⟨63-t,oa⟩;have g:18446744073709551616=2^t*2^(d+1):=by rw[<-Aak,<-n]
   have i:2*M+1<2^(d+1):=by
    have:2^t*(2*M+1)<2^t*2^(d+1):=by rw[<-b,<-g];omega
    exact Nat.lt_of_mul_lt_mul_left this
   have:uw true Z=2^t*(2*(2^d-M-1)+1):=by
    rw[hu,b,g,<-Nat.mul_sub]
    congr 1
    rw[AaF]at i ⊢;omega
   rw[this]at a;exact(GN _ _ _ _ a).1
 subst k;exact⟨M,b,c⟩
theorem Zx(s:Bool)(t M:Nat):sg s (2^t*(2*M+1))/2^t=sg s (2*M+1):=by
 have a:(2:Int)^t≠0:=oj (EX t);cases s
 ·simp only[sg,Aah,Tn]
  push_cast
  exact Int.mul_ediv_cancel_left _ a
 ·simp only[sg,Aaw]
  push_cast
  rw[<-Int.mul_neg];exact Int.mul_ediv_cancel_left _ a
theorem Oc(q:Nat)(l:Int)(Z:Nat)(hl:-1074<=l)(h:q*2^(l+1074).toNat=Z*2^((0:Int)+1074).toNat):whole q l=Z:=by
 have hb:=Er q l hl;have hu:=JN;rw[PQ false q l Z 0 h,Gv]at hb;have e:sg false Z=(Z:Int):=rfl;rw[e]at hb;have h1:=Int.le_of_mul_le_mul_right hb.1 hu;have h2:=Int.lt_of_mul_lt_mul_right hb.2 oa;omega
theorem Tq(r:Nat)(h:r<9223372036854775808):r ^^^ 9223372036854775808=9223372036854775808+r/\(9223372036854775808+r) ^^^ 9223372036854775808=r:=by
 have e:r ^^^ 2^63=2^63+r:=by
  apply Nat.eq_of_testBit_eq;intro i;rw[Nat.testBit_xor,Nat.testBit_two_pow];by_cases hi:i=63
  ·subst hi;rw[Nat.testBit_two_pow_add_eq];have:r.testBit 63=false:=Nat.testBit_lt_two_pow (by rw[aT];exact h);simp[this]
  ·by_cases a:i<63
   ·rw[Nat.testBit_two_pow_add_gt a];have:(63:Nat)≠i:=oa;simp[this]
   ·have h1:r.testBit i=false:=Nat.testBit_lt_two_pow (At (by rw[<-aT]at h;exact h) (AaL oa oa));have h2:(2^63+r).testBit i=false:=Nat.testBit_lt_two_pow (At (show 2^63+r<2^64 from by rw[aT];omega) (AaL oa oa));have:(63:Nat)≠i:=oa;rw[h1,h2];simp[this]
 rw[aT]at e;refine⟨e,?_⟩;rw[<-e,Nat.xor_assoc,Nat.xor_self,Nat.xor_zero]
theorem gI(x:Nat):Op.negFloat .f64 x=x ^^^ 9223372036854775808:=by
 unfold Op.negFloat;have:FloatKind.f64.format.exponentBits+FloatKind.f64.format.fractionBits=63:=rfl;rw[this,aT]
theorem Wa(e f:Nat)(b2:e<2048)(b3:f<4503599627370496):e*4503599627370496+f<9223372036854775808:=by
 have h:e*4503599627370496<=2047*4503599627370496:=VC _ oa;omega
theorem Kj(x:Nat)(hx:x<18446744073709551616):double.read (Op.negFloat .f64 x)=(double.read x).opposite:=by
 rw[gI];obtain⟨a,e,f,rfl,b1,b2,b3⟩:=fields x hx;have hs:a=0\/a=1:=oa;have hb:e*4503599627370496+f<9223372036854775808:=Wa e f b2 b3;have key:(a*9223372036854775808+e*4503599627370496+f) ^^^ 9223372036854775808=(1-a)*9223372036854775808+e*4503599627370496+f:=by
  rcases hs with rfl|rfl
  ·have:=(Tq (e*4503599627370496+f) hb).1;rw[show 0*9223372036854775808+e*4503599627370496+f=e*4503599627370496+f from by rw[Nat.zero_mul,Wx],this];show _=1*9223372036854775808+e*4503599627370496+f;rw[Nat.one_mul,Nat.add_assoc]
  ·have:=(Tq (e*4503599627370496+f) hb).2;rw[show 1*9223372036854775808+e*4503599627370496+f=9223372036854775808+(e*4503599627370496+f)from by rw[Nat.one_mul,Nat.add_assoc],this];show _=0*9223372036854775808+e*4503599627370496+f;rw[Nat.zero_mul,Wx]
 rw[key];by_cases b:e<2047
 ·rw[C5 _ e f oa b b3,C5 a e f b1 b b3];rcases hs with rfl|rfl<;>rfl
 ·have:e=2047:=oa;subst this;rw[DS _ f oa b3,DS a f b1 b3];rcases hs with rfl|rfl<;>by_cases hf:f=0<;>simp[hf,Datum.opposite]
end Fl
namespace Fl
open Ieee
theorem NG(B:Nat)(E:1074<=B)(neg:Bool)(a:Nat)(place:Int)(m:Nat)(p:Int)(n:a≠0)(v:-(B:Int)<=place)(w:m<2^53)(x:-1074<=p)(A:p<=971)
  (g:a*2^(place+(B:Int)).toNat=m*2^(p+(B:Int)).toNat):
  ∃q l,double.read (double.nearest neg a place)=.number neg q l/\-1074<=l/\l<=971/\q*2^(l+(B:Int)).toNat=a*2^(place+(B:Int)).toNat:=by
 have hl:double.leastPlace=-1074:=oc;have hf:double.fractionBits=52:=rfl;have i:m≠0:=by
  intro e;subst e;have:=Of (place+(B:Int)).toNat;rw[Nat.zero_mul]at g;rcases Nat.mul_eq_zero.1 g with h|h<;>omega
 have t:a.log2+(place+(B:Int)).toNat=m.log2+(p+(B:Int)).toNat:=by
  rw[<-C8 a _ n,<-C8 m _ i,g]
 have u:m.log2<=52:=by
  have:=(Nat.log2_lt i).2 w;omega
 unfold Format.nearest;rw[C3 n];dsimp only;rw[hf];obtain⟨last,b⟩:∃last:Int,last=max (place+↑a.log2-((52:Nat):Int)) double.leastPlace:=⟨_,rfl⟩;rw[<-b];rw[hl]at b;have l1:-1074<=last:=oa;have l2:last<=971:=oa;obtain⟨kept,hk,k⟩:∃kept,Toward.even.cut neg (a <<< (place-last).toNat) (last-place).toNat=kept/\kept*2^(last+(B:Int)).toNat=a*2^(place+(B:Int)).toNat:=by
  by_cases hc:last<=place
  ·refine⟨_,rfl,?_⟩;have e0:(last-place).toNat=0:=oa;rw[e0,F6,AaV,OK,<-Aak]
   congr 2;omega
  ·have e0:(place-last).toNat=0:=oa;rw[e0,Nat.shiftLeft_zero];obtain⟨d,C⟩:∃d,d=(last-place).toNat:=⟨_,rfl⟩;rw[<-C];have o:d<=a.log2+2:=oa;have j:∃q,a=q*2^d:=by
    obtain⟨c,D⟩:∃c,c=(p-place).toNat:=⟨_,rfl⟩;have e1:(p+(B:Int)).toNat=c+(place+(B:Int)).toNat:=oa;rw[e1,Aak,<-OK]at g;have e2:=We (Of _) g;refine⟨m*2^(c-d),?_⟩;rw[e2,OK,<-Aak]
    congr 2;omega
   obtain⟨q,hq⟩:=j;refine⟨q,?_,?_⟩
   ·unfold Toward.cut;dsimp only;rw[Nat.min_eq_left o,Nat.one_shiftLeft];have r:=Of d;have m1:a/2^d=q:=by rw[hq];exact Nat.mul_div_cancel _ r
    have m2:a%2^d=0:=by rw[hq];exact Nat.mul_mod_left _ _
    have m3:(2^d==0)=false:=od;rw[m1,m2];simp
   ·rw[hq,OK,<-Aak]
    congr 2;omega
 rw[hk];have f:kept≠0:=by
  intro e;subst e;have:=Of (place+(B:Int)).toNat;rw[Nat.zero_mul]at k;rcases Nat.mul_eq_zero.1 k.symm with h|h<;>omega
 have s:kept.log2+(last+(B:Int)).toNat=a.log2+(place+(B:Int)).toNat:=by
  rw[<-C8 a _ n,<-C8 kept _ f,k]
 have k1:kept<2^53:=by
  apply(Nat.log2_lt f).1;omega
 have k2:last=-1074\/2^52<=kept:=by
  by_cases h:last=-1074
  ·exact .inl h
  ·right;exact(Nat.le_log2 f).1 oa
 exact⟨kept,last,Lb neg kept last l1 l2 k1 k2,l1,l2,k⟩
theorem NF(B:Nat)(g:1074<=B){x Z:Nat}{s t:Bool}{m n:Nat}{i j:Int}(hx:double.read x=.number s m i)(hy:double.read Z=.number t n j)(k:m*n≠0)(b:-(B:Int)<=i+j)
  (a:Nat) (p:Int) (o:a<2^53) (d:-1074<=p) (e:p<=971) (f:(m*n)*2^(i+j+(B:Int)).toNat=a*2^(p+(B:Int)).toNat):
  ∃r q l,floatBits .mul .f64 x Z=some r/\double.read r=.number (s^^t) q l/\-1074<=l/\l<=971/\q*2^(l+1074).toNat=a*2^(p+1074).toNat:=by
 obtain⟨q,l,h1,h2,h3,h4⟩:=NG B g (s^^t) (m*n) (i+j) a p k b o d e f;refine⟨double.nearest (s^^t) (m*n) (i+j),q,l,?_,h1,h2,h3,?_⟩
 ·show((double.read x).product (double.read Z)).map double.write=_;rw[hx,hy];rfl
 ·have h:=h4.trans f;obtain⟨c,hc⟩:∃c:Nat,B=1074+c:=⟨B-1074,oa⟩;have e1:(l+(B:Int)).toNat=(l+1074).toNat+c:=oa;have e2:(p+(B:Int)).toNat=(p+1074).toNat+c:=oa;rw[e1,e2,Aak,Aak,<-OK,<-OK]at h;exact We (Of c) h
def St(x m:Nat)(p:Int):Prop:=∃q l,double.read x=.number false q l/\-1074<=l/\l<=971/\q<2^53/\q*2^(l+1074).toNat=m*2^(p+1074).toNat
theorem eK{q:Nat}{l:Int}(h1:double.read r=.number false q l)(h2:-1074<=l)(h3:l<=971)(h4:q*2^(l+1074).toNat=m*2^(p+1074).toNat):St r m p:=by
 refine⟨q,l,h1,h2,h3,?_,h4⟩;rcases Cg r with⟨s,c,i,a,_,_,b,_⟩|⟨s,a⟩|⟨s,t,a⟩
 ·rw[a]at h1;injection h1 with _ e _;rw[<-e];exact b
 ·rw[a]at h1;cases h1
 ·rw[a]at h1;cases h1
theorem Lh(h:St x m p)(a:m≠0):∃q l,double.read x=.number false q l/\-1074<=l/\l<=971/\q<2^53/\q≠0/\q*2^(l+1074).toNat=m*2^(p+1074).toNat:=by
 obtain⟨q,l,h1,h2,h3,h4,h5⟩:=h;refine⟨q,l,h1,h2,h3,h4,?_,h5⟩;intro e;subst e;rw[Nat.zero_mul]at h5;have:=Of (p+1074).toNat;rcases Nat.mul_eq_zero.1 h5.symm with h|h<;>omega
theorem pw(q a b:Nat):q*2^a*2^b=q*2^(a+b):=by rw[OK,<-Aak]
theorem Xl(h:St x m p)(b:m≠0)(a:m<2^53)(e:-1074<=p)(c:p<=970):∃r,floatBits .mul .f64 x 4611686018427387904=some r/\St r m (p+1):=by
 obtain⟨q,l,h1,h2,h3,h4,h5,d⟩:=Lh h b;obtain⟨r,f,g,a1,a2,a3,a4,a5⟩:=NF 1200 oa h1 Zm oa oa m (p+1) a oa oa (by
  have e1:(l+-51+((1200:Nat):Int)).toNat=(l+1074).toNat+75:=oa;have e2:(p+1+((1200:Nat):Int)).toNat=(p+1074).toNat+127:=oa;rw[e1,e2,<-pw m,<-d,<-TI,pw,pw]
  congr 2;omega)
 exact⟨r,a1,eK a2 a3 a4 a5⟩
theorem VG(h:St x m p)(b:m≠0)(a:m<2^53)(e:-1073<=p)(c:p<=972):∃r,floatBits .mul .f64 x 4602678819172646912=some r/\St r m (p-1):=by
 obtain⟨q,l,h1,h2,h3,h4,h5,d⟩:=Lh h b;obtain⟨r,f,g,a1,a2,a3,a4,a5⟩:=NF 1200 oa h1 La oa oa m (p-1) a oa oa (by
  have e1:(l+-53+((1200:Nat):Int)).toNat=(l+1074).toNat+73:=oa;have e2:(p-1+((1200:Nat):Int)).toNat=(p+1074).toNat+125:=oa;rw[e1,e2,<-pw m,<-d,<-TI,pw,pw]
  congr 2;omega)
 exact⟨r,a1,eK a2 a3 a4 a5⟩
theorem ZH{Z:Nat}{r:Int}(h:St x m p)(k:St Z n r):double.order x Z=some (compare ((m*2^(p+1074).toNat:Nat):Int) ((n*2^(r+1074).toNat:Nat):Int)):=by
 obtain⟨q,l,h1,h2,_,_,a⟩:=h;obtain⟨c,d,k1,k2,_,_,b⟩:=k;rw[Bi h1 k1 h2 k2,Cb,Cb,a,b]
theorem Vc(h:St x m p)(t:m≠0):∃r,floatBits .mul .f64 x 4602678819172646912=some r/\(double.order r x==some .eq)=false:=by
 obtain⟨q,l,h1,h2,h3,h4,h5,w⟩:=Lh h t;have hs:St x q l:=⟨q,l,h1,h2,h3,h4,rfl⟩;have fin:∀r n k,-1074<=k->floatBits .mul .f64 x 4602678819172646912=some r->St r n k->n*2^(k+1074).toNat<q*2^(l+1074).toNat->∃r,floatBits .mul .f64 x 4602678819172646912=some r/\(double.order r x==some .eq)=false:=by
  intro r n k _ j d u;refine⟨r,j,?_⟩;rw[ZH d hs,B3];generalize n*2^(k+1074).toNat=a at*;generalize q*2^(l+1074).toNat=b at*;simp;omega
 by_cases hl:-1073<=l
 ·obtain⟨r,j,d⟩:=VG hs h5 h4 hl oa;refine fin r q (l-1) oa j d ?_;have e:(l+1074).toNat=(l-1+1074).toNat+1:=oa;rw[e,<-pw];have:0<q*2^(l-1+1074).toNat:=Nat.mul_pos oa (Of _);omega
 ·have o:l=-1074:=oa;subst o;have hz:((-1074:Int)+1074).toNat=0:=oc;refine⟨double.nearest (false^^false) (q*4503599627370496) (-1074+-53),?_,?_⟩
  ·show((double.read x).product (double.read 4602678819172646912)).map double.write=_;rw[h1,La];rfl
  ·have hq:q*4503599627370496≠0:=oa;have c:(q*4503599627370496).log2=q.log2+52:=by
    have:=C8 q 52 h5;rw[TI]at this;exact this
   have s:q.log2<53:=(Nat.log2_lt h5).2 h4;have key:double.read (double.nearest (false^^false) (q*4503599627370496) (-1074+-53))=.number false (q/2+(decide (q%2=1)&&(q/2%2==1)).toNat) (-1074):=by
    unfold Format.nearest;rw[C3 hq];dsimp only;have hf:double.fractionBits=52:=rfl;have g:double.leastPlace=-1074:=oc;rw[hf,g,c];have f:max (-1074+-53+((q.log2+52:Nat):Int)-((52:Nat):Int)) (-1074)=-1074:=oa;rw[f];have hcut:Toward.even.cut (false^^false) ((q*4503599627370496) <<< (-1074+-53- -1074:Int).toNat) (-1074-(-1074+-53):Int).toNat=q/2+(decide (q%2=1)&&(q/2%2==1)).toNat:=by
     rw[show(-1074+-53- -1074:Int).toNat=0 from by decide,show(-1074-(-1074+-53):Int).toNat=53 from by decide,Nat.shiftLeft_zero];unfold Toward.cut;dsimp only;rw[c,Nat.min_eq_left oa,Nat.one_shiftLeft,show(2:Nat)^53=9007199254740992 from by decide];have d1:q*4503599627370496/9007199254740992=q/2:=oa;have d2:q*4503599627370496%9007199254740992=q%2*4503599627370496:=oa;rw[d1,d2];have hb:q%2=0\/q%2=1:=oa;rcases hb with h|h<;>simp[h]
    rw[hcut];have i:=Lb (false^^false) (q/2+(decide (q%2=1)&&(q/2%2==1)).toNat) (-1074) oa oa (by
     have:(decide (q%2=1)&&(q/2%2==1)).toNat<=1:=Bool.toNat_le _;omega) (.inl rfl)
    rw[g]at i;exact i
   rw[Bi key h1 oa oa,B3,Cb,Cb,hz,Nat.pow_zero,Nat.mul_one,Nat.mul_one];have v:q/2+(decide (q%2=1)&&(q/2%2==1)).toNat≠q:=by
    by_cases h1:q=1
    ·subst h1;decide
    ·have:(decide (q%2=1)&&(q/2%2==1)).toNat<=1:=Bool.toNat_le _;have hb:q%2=0\/q%2=1:=oa;rcases hb with h|h
     ·have:(decide (q%2=1)&&(q/2%2==1)).toNat=0:=by simp[h]
      omega
     ·omega
   simp only[decide_eq_false_iff_not];omega
end Fl
section
open Go.RowKit
theorem NS(x:Nat)(w:Y):(callFunc 300 #[F9 x]).run Tryz.prog w=.ok (.value (.int .u64 (x:Int))) w:=by
 rw[run_callFunc_extern (e:=Extern.MathFloatBits.float64bits) Tryz.func300 og og og og];rfl
theorem Im(x:Nat)(w:Y):(callFunc 301 #[.int .u64 (x:Int)]).run Tryz.prog w=.ok (.value (F9 x)) w:=by
 rw[run_callFunc_extern (e:=Extern.MathFloatBits.float64frombits) Tryz.func301 og og og og];rfl
theorem Qc(x Z:Nat)(w:Y)(h:bits BinOp.andNot IntKind.u64 (x:Int) 9223372036854775808=(Z:Int)):
  C9 298 #[F9 x] w fun e w'=>e=.returned (F9 Z)/\w'=w:=by
 have h1:=NS x;have h2:=Im Z
 go_enter Tryz.func298,Tryz.ntmps298
 go_wp2;go_ret;exact⟨rfl,rfl⟩
theorem T6(x Z:Nat)(w:Y)(h:bits BinOp.andNot IntKind.u64 (x:Int) 9223372036854775808=(Z:Int)):
  C9 285 #[F9 x,J 0] w fun e w'=>e=.returned (.bool (O9 Z 9218868437227405311==some .gt))/\w'=w:=by
 have H:Hid (bits BinOp.andNot IntKind.u64 (x:Int) 9223372036854775808=(Z:Int)):=h;clear h
 go_enter Tryz.func285,Tryz.ntmps285
 go_wp2_with (go_at_call 298;refine(Qc x Z _ H.out).mono ?_;rintro e w1 ⟨rfl,rfl⟩)
 go_ret;exact⟨rfl,rfl⟩
theorem KU(x:Nat)(w:Y):
  C9 285 #[F9 x,J 1] w fun e w'=>e=.returned (.bool (O9 x 9218868437227405311==some .gt))/\w'=w:=by
 go_enter Tryz.func285,Tryz.ntmps285
 go_wp2;go_ret;exact⟨rfl,rfl⟩
theorem Pu(x:Nat)(w:Y):
  C9 285 #[F9 x,J (-1)] w fun e w'=>e=.returned (.bool (O9 (Op.negFloat .f64 x) 9218868437227405311==some .gt))/\w'=w:=by
 have a:∀w:World,(Op.unary .neg (F9 x)).run Tryz.prog w=.ok (F9 (Op.negFloat .f64 x)) w:=fun _=>rfl
 go_enter Tryz.func285,Tryz.ntmps285
 go_wp2;go_ret;exact⟨rfl,rfl⟩
theorem L6(x Z r:Nat)(w:Y)(h:bits BinOp.andNot IntKind.u64 (x:Int) 9223372036854775808=(Z:Int))(b:(O9 Z 4503599627370496==some .lt)=true)
  (a:floatBits .mul .f64 x 4841369599423283200=some r):
  C9 309 #[F9 x] w fun e w'=>e=.returned (.tuple #[F9 r,J (-52)])/\w'=w:=by
 have H:Hid (bits BinOp.andNot IntKind.u64 (x:Int) 9223372036854775808=(Z:Int)):=h;have c:∀w:World,(binOp .mul 29 (F9 x) (F9 4841369599423283200)).run Tryz.prog w=.ok (F9 r) w:=fun w=>AaN w .mul 29 .f64 _ _ r a;clear h a
 go_enter Tryz.func309,Tryz.ntmps309
 go_wp2_with (go_at_call 298;refine(Qc x Z _ H.out).mono ?_;rintro e w1 ⟨rfl,rfl⟩)
 go_ret2
 exact⟨rfl,rfl⟩
theorem OU(x Z:Nat)(w:Y)(h:bits BinOp.andNot IntKind.u64 (x:Int) 9223372036854775808=(Z:Int))(a:(O9 Z 4503599627370496==some .lt)=false):
  C9 309 #[F9 x] w fun e w'=>e=.returned (.tuple #[F9 x,J 0])/\w'=w:=by
 have H:Hid (bits BinOp.andNot IntKind.u64 (x:Int) 9223372036854775808=(Z:Int)):=h;clear h
 go_enter Tryz.func309,Tryz.ntmps309
 go_wp2_with (go_at_call 298;refine(Qc x Z _ H.out).mono ?_;rintro e w1 ⟨rfl,rfl⟩)
 go_ret2
 exact⟨rfl,rfl⟩
theorem Wm(x a Z e0 X z2:Nat)(k:Int)(w:Y)(hk:-60<=k)(DI:k<=60)(fL:e0<2048)
  (hz:(O9 x 0==some .eq)=false) (hn:(O9 x x !=some .eq)=false)
  (RY:bits BinOp.andNot IntKind.u64 (x:Int) 9223372036854775808=(a:Int)) (OE:(O9 a 9218868437227405311==some .gt)=false)
  (Vf:∀w:World,C9 309 #[F9 x] w fun e w'=>e=.returned (.tuple #[F9 Z,J k])/\w'=w)
  (h1:bits BinOp.and IntKind.u64 ((Z:Int)/4503599627370496) 2047=(e0:Int))
  (h2:bits BinOp.andNot IntKind.u64 (Z:Int) 9218868437227405312=(X:Int))
  (h3:bits BinOp.or IntKind.u64 (X:Int) 4602678819172646912=(z2:Int)):
  C9 303 #[F9 x] w fun e w'=>e=.returned (.tuple #[F9 z2,J (k+((e0:Int)-1023+1))])/\w'=w:=by
 have H:Hid (bits BinOp.andNot IntKind.u64 (x:Int) 9223372036854775808=(a:Int)):=RY;have b:Hid (∀w:World,C9 309 #[F9 x] w fun e w'=>e=.returned (.tuple #[F9 Z,J k])/\w'=w):=Vf;have b1:=NS Z;have b2:=Im z2;have c:Hid ((O9 a 9218868437227405311==some .gt)=false):=OE;clear RY Vf OE
 go_enter Tryz.func303,Tryz.ntmps303
 go_wp2_with (first|(go_at_call 285;refine(T6 x a _ H.out).mono ?_;rintro e w1 ⟨rfl,rfl⟩;rw[c.out])|(go_at_call 236;go_in)|(go_at_call 309;refine(b.out _).mono ?_;rintro e w1 ⟨rfl,rfl⟩))
 go_ret2
 exact⟨rfl,rfl⟩
def He(h:Int)(c:UInt8):Int:=IntKind.u64.wrap (bits BinOp.xor IntKind.u64 h (IntKind.u64.wrap (c.toNat:Int))*1099511628211)
def Qx(l:List UInt8):Int:=l.foldl He 14695981039346656037
def OT(x:Int):Int:=
 bits BinOp.xor IntKind.u64
  (IntKind.u64.wrap (bits BinOp.xor IntKind.u64 (IntKind.u64.wrap (bits BinOp.xor IntKind.u64 x (x/8589934592)*18397679294719823053)) (IntKind.u64.wrap (bits BinOp.xor IntKind.u64 x (x/8589934592)*18397679294719823053)/8589934592)*14181476777654086739))
  (IntKind.u64.wrap (bits BinOp.xor IntKind.u64 (IntKind.u64.wrap (bits BinOp.xor IntKind.u64 x (x/8589934592)*18397679294719823053)) (IntKind.u64.wrap (bits BinOp.xor IntKind.u64 x (x/8589934592)*18397679294719823053)/8589934592)*14181476777654086739)/8589934592)
theorem C0(n:Int):0<=IntKind.u64.wrap n/\IntKind.u64.wrap n<18446744073709551616:=by
 rw[IntKind.wrap_u64];omega
theorem MS(op:BinOp)(x Z:Int):0<=bits op IntKind.u64 x Z/\bits op IntKind.u64 x Z<18446744073709551616:=by
 unfold bits;exact C0 _
theorem ND(x:Int):0<=OT x/\OT x<18446744073709551616:=MS _ _ _
theorem R5(h:Int)(c:UInt8):0<=He h c/\He h c<18446744073709551616:=C0 _
theorem RN(l:List UInt8)(h:Int)(a:0<=h/\h<18446744073709551616):0<=l.foldl He h/\l.foldl He h<18446744073709551616:=by
 induction l generalizing h with
 |nil=>exact a
 |cons c l ih=>exact ih _ (R5 h c)
theorem Pp(l:List UInt8):0<=Qx l/\Qx l<18446744073709551616:=RN l _ oa
theorem Xs(s:ByteArray)(k:Nat)(h:k<s.size):s.data.toList.take (k+1)=s.data.toList.take k++[s[k]]:=by
 rw[List.take_succ_eq_append_getElem (by simpa using h)];rfl
theorem RM(s:ByteArray)(k:Nat)(h:k<s.size):Qx (s.data.toList.take (k+1))=He (Qx (s.data.toList.take k)) s[k]:=by
 rw[Xs s k h];unfold Qx;rw[List.foldl_append];rfl
theorem VD{k:IntKind}{a b:Int}(h:a=b):Ending.returned (.int k a)=.returned (.int k b):=by rw[h]
theorem cC(x:Int)(w:Y)(a:0<=x)(h1:x<18446744073709551616):
  C9 273 #[.int .u64 x] w fun e w'=>e=.returned (.int .u64 (OT x))/\w'=w:=by
 go_enter Tryz.func273,Tryz.ntmps273
 go_wp2;go_ret;exact⟨rfl,rfl⟩
theorem WG(x:Int)(w:Y)(a:0<=x)(h1:x<18446744073709551616):
  C9 276 #[.int .u64 x] w fun e w'=>e=.returned (.int .u64 (OT x))/\w'=w:=by
 go_enter Tryz.func276,Tryz.ntmps276
 go_wp2;go_ret;exact⟨rfl,rfl⟩
theorem JZ(s:ByteArray)(w:Y)(hs:s.size<=maxLen):
  C9 271 #[.string s] w fun e w'=>e=.returned (.int .u64 (Qx s.data.toList))/\w'=w:=by
 unfold maxLen at hs
 go_enter Tryz.func271,Tryz.ntmps271
 go_wp2
 go_loop [3,7] (fun h i=>∃k:Nat,k<=s.size/\i=J k/\h=.int .u64 (Qx (s.data.toList.take k))) (fun _ i=>s.size-(intOf i).toNat)
 case atStart=>exact⟨0,Re _,rfl,rfl⟩
 case round=>
  obtain⟨k,hk,rfl,rfl⟩:=hrel;by_cases a:k<s.size
  ·have b:Hid (Qx (s.data.toList.take (k+1))=He (Qx (s.data.toList.take k)) s[k]):=RM s k a;go_wp2;exact⟨⟨k+1,oa,oh,by rw[b.out];rfl⟩,by simp[intOf];omega⟩
  ·go_wp2;go_ret;exact⟨VD (by rw[List.take_of_length_le oe]),rfl⟩
theorem LF(s:ByteArray)(w:Y)(hs:s.size<=maxLen):
  C9 274 #[.string s] w fun e w'=>e=.returned (.int .u64 (Qx s.data.toList))/\w'=w:=by
 unfold maxLen at hs
 go_enter Tryz.func274,Tryz.ntmps274
 go_wp2
 go_loop [3,4] (fun h i=>∃k:Nat,k<=s.size/\i=J k/\h=.int .u64 (Qx (s.data.toList.take k))) (fun _ i=>s.size-(intOf i).toNat)
 case atStart=>exact⟨0,Re _,rfl,rfl⟩
 case round=>
  obtain⟨k,hk,rfl,rfl⟩:=hrel;by_cases a:k<s.size
  ·have b:Hid (Qx (s.data.toList.take (k+1))=He (Qx (s.data.toList.take k)) s[k]):=RM s k a;go_wp2;exact⟨⟨k+1,oa,oh,by rw[b.out];rfl⟩,by simp[intOf];omega⟩
  ·go_wp2;go_ret;exact⟨VD (by rw[List.take_of_length_le oe]),rfl⟩
end
end Go.Proofs.YtgmlkfgfjjggnaaGreatDoor
namespace Go.Proofs
open Go.Shelf
def Tryz.QO:Go.Shelf.Ren:=⟨fun|171=>289|243=>305|246=>304|283=>310|284=>311|285=>312|286=>313|129=>317|317=>316|318=>318|319=>319|320=>320|337=>321|338=>287|n=>n,fun|3=>3|9=>9|2=>2|4=>4|171=>386|0=>0|53=>136|37=>71|5=>5|173=>388|212=>391|51=>367|20=>20|213=>392|46=>276|232=>393|233=>384|n=>n,fun|17=>3|18=>4|19=>2|n=>n⟩
theorem Tryz.YR:Go.Proofs.LaysM.n171 Tryz.prog Tryz.QO:={
 mixed:=by kernel_rfl
 f129:=Tryz.func317.trans (congrArg some (by kernel_rfl))
 f171:=Tryz.func289.trans (congrArg some (by kernel_rfl))
 f243:=Tryz.func305.trans (congrArg some (by kernel_rfl))
 f246:=Tryz.func304.trans (congrArg some (by kernel_rfl))
 f283:=Tryz.func310.trans (congrArg some (by kernel_rfl))
 f284:=Tryz.func311.trans (congrArg some (by kernel_rfl))
 f285:=Tryz.func312.trans (congrArg some (by kernel_rfl))
 f286:=Tryz.func313.trans (congrArg some (by kernel_rfl))
 f317:=Tryz.func316.trans (congrArg some (by kernel_rfl))
 f318:=Tryz.func318.trans (congrArg some (by kernel_rfl))
 f319:=Tryz.func319.trans (congrArg some (by kernel_rfl))
 f320:=Tryz.func320.trans (congrArg some (by kernel_rfl))
 f337:=Tryz.func321.trans (congrArg some (by kernel_rfl))
 f338:=Tryz.func287.trans (congrArg some (by kernel_rfl))
 t0:=Tryz.underlying0
 a0:=Tryz.isAgg0
 z0:=Tryz.sizeOf0
 v0:=Tryz.zeroValue0
 t2:=Tryz.underlying2
 a2:=Tryz.isAgg2
 z2:=Tryz.sizeOf2
 v2:=Tryz.zeroValue2
 t3:=Tryz.underlying3
 a3:=Tryz.isAgg3
 z3:=Tryz.sizeOf3
 v3:=Tryz.zeroValue3
 t4:=Tryz.underlying4
 a4:=Tryz.isAgg4
 z4:=Tryz.sizeOf4
 v4:=Tryz.zeroValue4
 t5:=Tryz.underlying5
 a5:=Tryz.isAgg5
 z5:=Tryz.sizeOf5
 v5:=Tryz.zeroValue5
 t9:=Tryz.underlying9
 a9:=Tryz.isAgg9
 z9:=Tryz.sizeOf9
 v9:=Tryz.zeroValue9
 t20:=Tryz.underlying20
 a20:=Tryz.isAgg20
 z20:=Tryz.sizeOf20
 v20:=Tryz.zeroValue20
 t37:=Tryz.underlying71
 a37:=Tryz.isAgg71
 z37:=Tryz.sizeOf71
 v37:=Tryz.zeroValue71
 t46:=Tryz.underlying276
 a46:=Tryz.isAgg276
 z46:=Tryz.sizeOf276
 v46:=Tryz.zeroValue276
 t51:=Tryz.underlying367
 a51:=Tryz.isAgg367
 z51:=Tryz.sizeOf367
 v51:=Tryz.zeroValue367
 t53:=Tryz.underlying136
 a53:=Tryz.isAgg136
 z53:=Tryz.sizeOf136
 v53:=Tryz.zeroValue136
 t171:=Tryz.underlying386
 a171:=Tryz.isAgg386
 z171:=Tryz.sizeOf386
 v171:=Tryz.zeroValue386
 t173:=Tryz.underlying388
 a173:=Tryz.isAgg388
 z173:=Tryz.sizeOf388
 v173:=Tryz.zeroValue388
 t212:=Tryz.underlying391
 a212:=Tryz.isAgg391
 z212:=Tryz.sizeOf391
 v212:=Tryz.zeroValue391
 t213:=Tryz.underlying392
 a213:=Tryz.isAgg392
 z213:=Tryz.sizeOf392
 t232:=Tryz.underlying393
 a232:=Tryz.isAgg393
 z232:=Tryz.sizeOf393
 v232:=Tryz.zeroValue393
 t233:=Tryz.underlying384
 a233:=Tryz.isAgg384
 z233:=Tryz.sizeOf384
 v233:=Tryz.zeroValue384
 g17:=by kernel_rfl
 g18:=by kernel_rfl
 g19:=by kernel_rfl
 i0:=by kernel_rfl
 i2:=by kernel_rfl
 i3:=by kernel_rfl
 i4:=by kernel_rfl
 i5:=by kernel_rfl
 i9:=by kernel_rfl
 i20:=by kernel_rfl
 i37:=by kernel_rfl
 i46:=by kernel_rfl
 i51:=by kernel_rfl
 i53:=by kernel_rfl
 i171:=by kernel_rfl
 i173:=by kernel_rfl
 i212:=by kernel_rfl
 i232:=by kernel_rfl
 i233:=by kernel_rfl
 m17:=by kernel_rfl
 m18:=by kernel_rfl
 m19:=by kernel_rfl}
open Go.RowKit Go.Sort Go.Lib in
theorem Tryz.strconv_Itoa(n:Int)(b:-9223372036854775808<=n)(h1:n<=9223372036854775807)(w:World)(a:Lib.TabIs Tryz.prog w "internal/strconv.uint64pow10" .u64 Lib.pow10Tab):
  Calls Tryz.prog 289 #[.int .i64 n] w fun e w'=>e=.returned (.string ⟨(Lib.itoa n).toArray⟩)/\∃k os,w'=grow (w.drewN k) os:=Any.strconv_Itoa Tryz.YR n b h1 w a
def Tryz.QP:Go.Shelf.Ren:=⟨fun|173=>288|246=>304|283=>310|284=>311|285=>312|286=>313|129=>317|317=>316|318=>318|319=>319|320=>320|337=>321|338=>287|n=>n,fun|2=>2|3=>3|9=>9|4=>4|171=>386|0=>0|53=>136|37=>71|5=>5|173=>388|212=>391|51=>367|20=>20|213=>392|46=>276|232=>393|233=>384|n=>n,fun|17=>3|18=>4|19=>2|n=>n⟩
theorem Tryz.YS:Go.Proofs.LaysM.n173 Tryz.prog Tryz.QP:={
 mixed:=by kernel_rfl
 f129:=Tryz.func317.trans (congrArg some (by kernel_rfl))
 f173:=Tryz.func288.trans (congrArg some (by kernel_rfl))
 f246:=Tryz.func304.trans (congrArg some (by kernel_rfl))
 f283:=Tryz.func310.trans (congrArg some (by kernel_rfl))
 f284:=Tryz.func311.trans (congrArg some (by kernel_rfl))
 f285:=Tryz.func312.trans (congrArg some (by kernel_rfl))
 f286:=Tryz.func313.trans (congrArg some (by kernel_rfl))
 f317:=Tryz.func316.trans (congrArg some (by kernel_rfl))
 f318:=Tryz.func318.trans (congrArg some (by kernel_rfl))
 f319:=Tryz.func319.trans (congrArg some (by kernel_rfl))
 f320:=Tryz.func320.trans (congrArg some (by kernel_rfl))
 f337:=Tryz.func321.trans (congrArg some (by kernel_rfl))
 f338:=Tryz.func287.trans (congrArg some (by kernel_rfl))
 t0:=Tryz.underlying0
 a0:=Tryz.isAgg0
 z0:=Tryz.sizeOf0
 v0:=Tryz.zeroValue0
 t2:=Tryz.underlying2
 a2:=Tryz.isAgg2
 z2:=Tryz.sizeOf2
 v2:=Tryz.zeroValue2
 t3:=Tryz.underlying3
 a3:=Tryz.isAgg3
 z3:=Tryz.sizeOf3
 v3:=Tryz.zeroValue3
 t4:=Tryz.underlying4
 a4:=Tryz.isAgg4
 z4:=Tryz.sizeOf4
 v4:=Tryz.zeroValue4
 t5:=Tryz.underlying5
 a5:=Tryz.isAgg5
 z5:=Tryz.sizeOf5
 v5:=Tryz.zeroValue5
 t9:=Tryz.underlying9
 a9:=Tryz.isAgg9
 z9:=Tryz.sizeOf9
 v9:=Tryz.zeroValue9
 t20:=Tryz.underlying20
 a20:=Tryz.isAgg20
 z20:=Tryz.sizeOf20
 v20:=Tryz.zeroValue20
 t37:=Tryz.underlying71
 a37:=Tryz.isAgg71
 z37:=Tryz.sizeOf71
 v37:=Tryz.zeroValue71
 t46:=Tryz.underlying276
 a46:=Tryz.isAgg276
 z46:=Tryz.sizeOf276
 v46:=Tryz.zeroValue276
 t51:=Tryz.underlying367
 a51:=Tryz.isAgg367
 z51:=Tryz.sizeOf367
 v51:=Tryz.zeroValue367
 t53:=Tryz.underlying136
 a53:=Tryz.isAgg136
 z53:=Tryz.sizeOf136
 v53:=Tryz.zeroValue136
 t171:=Tryz.underlying386
 a171:=Tryz.isAgg386
 z171:=Tryz.sizeOf386
 v171:=Tryz.zeroValue386
 t173:=Tryz.underlying388
 a173:=Tryz.isAgg388
 z173:=Tryz.sizeOf388
 v173:=Tryz.zeroValue388
 t212:=Tryz.underlying391
 a212:=Tryz.isAgg391
 z212:=Tryz.sizeOf391
 v212:=Tryz.zeroValue391
 t213:=Tryz.underlying392
 a213:=Tryz.isAgg392
 z213:=Tryz.sizeOf392
 t232:=Tryz.underlying393
 a232:=Tryz.isAgg393
 z232:=Tryz.sizeOf393
 v232:=Tryz.zeroValue393
 t233:=Tryz.underlying384
 a233:=Tryz.isAgg384
 z233:=Tryz.sizeOf384
 v233:=Tryz.zeroValue384
 g17:=by kernel_rfl
 g18:=by kernel_rfl
 g19:=by kernel_rfl
 i0:=by kernel_rfl
 i2:=by kernel_rfl
 i3:=by kernel_rfl
 i4:=by kernel_rfl
 i5:=by kernel_rfl
 i9:=by kernel_rfl
 i20:=by kernel_rfl
 i37:=by kernel_rfl
 i46:=by kernel_rfl
 i51:=by kernel_rfl
 i53:=by kernel_rfl
 i171:=by kernel_rfl
 i173:=by kernel_rfl
 i212:=by kernel_rfl
 i232:=by kernel_rfl
 i233:=by kernel_rfl
 m17:=by kernel_rfl
 m18:=by kernel_rfl
 m19:=by kernel_rfl}
open Go.RowKit Go.Sort Go.Lib in
theorem Tryz.strconv_FormatInt_10(n:Int)(b:-9223372036854775808<=n)(h1:n<=9223372036854775807)(w:World)(a:Lib.TabIs Tryz.prog w "internal/strconv.uint64pow10" .u64 Lib.pow10Tab):
  Calls Tryz.prog 288 #[.int .i64 n,.int .i64 10] w fun e w'=>e=.returned (.string ⟨(Lib.itoa n).toArray⟩)/\∃k os,w'=grow (w.drewN k) os:=Any.strconv_FormatInt_10 Tryz.YS n b h1 w a
end Go.Proofs
namespace Go.Proofs.YtgmlkfgfjjggnaaGreatDoor
variable {d:Dc}{v:Vl}{l:List Nat}{f:Nat->A3}{a k n x m j r b e0 X z2 c e b0 base b1 size lo hi n0:Nat}{W w w' A:Y}{xs:List Value}{i p:Int}{g:Value->Value}{Z B:Nat->Nat}{s:Bool}{t K:TypeId}{M:Nat->Option Nat}{P:Program}{row:Option Nat}{key:ByteArray}{D:Nat->Int}
section
open Go.RowKit
structure BH (w:Y):Prop where
 t64:TabAt 2 Lib.deBruijn64tab w
 lP:Lib.TabIs Tryz.prog w "internal/strconv.uint64pow10" .u64 Lib.pow10Tab
 sz:5<=w.heap.size
theorem BH.below(h:BH w){B:Nat}(hb:Below B w w')(a:5<=B):BH w':=
 ⟨fun j hj=>ol hb (show 2<B from by omega) (h.t64 j hj),
  var?_below hb (show Tryz.prog.globalNamed "internal/strconv.uint64pow10" =some 3 from by kernel_rfl) oa h.lP,
  GO h.sz hb.size⟩
theorem UN(x k idx:Nat)(w:Y)(b:((x:Int)==0)=false)
  (key:IntKind.u64.wrap (bits BinOp.and IntKind.u64 (x:Int) (IntKind.u64.wrap (-(x:Int)))*285870213051353865)/288230376151711744=(idx:Int))
  (hi:idx<64) (hk:k<64) (a:w.cell? (G 2 idx)=some (.int .u8 k)):
  C9 287 #[.int .u64 x] w fun e w'=>e=.returned (J k)/\w'=w:=by
 go_enter Tryz.func287,Tryz.ntmps287
 go_wp2_with (simp only[key])
 go_ret;exact⟨rfl,rfl⟩
theorem ZW(x:Nat)(hx:x<18446744073709551616)(b:x≠0)(w:Y)(f:BH w):
  C9 287 #[.int .u64 x] w fun e w'=>e=.returned (J (Lib.ctz 64 x))/\w'=w:=by
 obtain⟨c,hk⟩:=Lib.lowest_bit 64 x b hx;obtain⟨hi,d⟩:=Lib.deBruijn64_at _ hk;have a:=f.t64 _ hi;rw[d]at a;exact UN x _ _ w oe (tz64_key x _ hx b c) hi hk a
theorem Yq{Z:Nat}{k:Int}(b:Ieee.double.read x=.number s m i)(hi:-1074<=i)(d:m≠0)(F:Fl.Fr x s m i a Z e0 X z2 k j)(w:Y):
  C9 303 #[F9 x] w fun e w'=>e=.returned (.tuple #[F9 z2,J (k+((e0:Int)-1023+1))])/\w'=w:=by
 have hz:(O9 x 0==some .eq)=false:=by
  show(Ieee.double.order x 0==some .eq)=false;rw[Fl.Bi b Fl.BT hi oa,Fl.B3,Fl.DT];have c:=Fl.EX (i+1074).toNat;simp only[decide_eq_false_iff_not];unfold Fl.sc;rw[Fl.CX];generalize (2:Int)^(i+1074).toNat=u at c;intro h;have h1:(m:Int)*u=0:=by cases s<;>simpa using h
  rcases Int.mul_eq_zero.1 h1 with h|h<;>omega
 have hn:(O9 x x !=some .eq)=false:=by
  show(!(Ieee.double.order x x==some .eq))=false;rw[Fl.Bi b b hi hi,Fl.B3];simp
 refine Wm x a Z e0 X z2 k w F.hk F.DI F.fL hz hn F.RY F.OE ?_ F.h1 F.h2 F.h3;intro w;rcases F.Vf with⟨h1,h2,h3⟩|⟨h1,h2,h3⟩
 ·rw[h1,h2];exact OU x a w F.RY h3
 ·rw[h1];exact L6 x a Z w F.RY h3 h2
theorem Wn{Z:Nat}{k:Int}(a:Ieee.double.read x=.number s m i)(hi:-1074<=i)(b:m≠0)(F:Fl.Fr x s m i c Z e0 X z2 k j)(w:Y):
  C9 286 #[F9 x] w fun e w'=>e=.returned (.tuple #[F9 z2,J (k+((e0:Int)-1023+1))])/\w'=w:=by
 have H:Hid (∀w:World,C9 303 #[F9 x] w fun e w'=>e=.returned (.tuple #[F9 z2,J (k+((e0:Int)-1023+1))])/\w'=w):=fun w=>Yq a hi b F w;clear F a b hi
 go_enter Tryz.func286,Tryz.ntmps286
 go_wp2_with (go_at_call 303;refine(H.out _).mono ?_;rintro e w1 ⟨rfl,rfl⟩)
 go_ret2
 exact⟨rfl,rfl⟩
def Pq(s:Bool)(M:Nat)(E:Int):List UInt8:=Lib.itoa (Fl.sg s M)++[112]++Lib.itoa E
theorem TT(x z2 r u t:Nat)(ex a b:Int)(w:Y)(h:BH w)
  (h1:(O9 x 9218868437227405311==some .gt)=false) (h2:(O9 (Op.negFloat .f64 x) 9218868437227405311==some .gt)=false)
  (l:∀w:World,C9 286 #[F9 x] w fun e w'=>e=.returned (.tuple #[F9 z2,J ex])/\w'=w)
  (m:floatBits .mul .f64 z2 4845873199050653696=some r) (hc:floatToIntVal .f64 r .i64=some a)
  (hu:IntKind.u64.wrap a=(u:Int)) (i:u≠0) (j:u<18446744073709551616) (n:Lib.ctz 64 u=t) (o:t<53) (hb:a/2^t=b)
  (p:-9007199254740992<b) (q:b<9007199254740992) (s:-1200<ex) (v:ex<1200):
  C9 272 #[F9 x] w (R9 (.string ⟨(Lib.itoa b++[112]++Lib.itoa (ex-53+t)).toArray⟩) w):=by
 have A:Hid (∀w:World,C9 286 #[F9 x] w fun e w'=>e=.returned (.tuple #[F9 z2,J ex])/\w'=w):=l;have K:∀w:World,(binOp .mul 29 (F9 z2) (F9 4845873199050653696)).run Tryz.prog w=.ok (F9 r) w:=fun w=>AaN w .mul 29 .f64 _ _ r m;have B:∀w:World,(convert 29 2 (F9 r)).run Tryz.prog w=.ok (J a) w:=fun w=>run_convert_float_int w 29 2 .f64 .i64 r _ og Tryz.underlying2 hc;have C:Hid (Lib.ctz 64 u=t):=n;have D:Hid ((O9 (Op.negFloat .f64 x) 9218868437227405311==some .gt)=false):=h2;have E:Hid ((O9 x 9218868437227405311==some .gt)=false):=h1;clear l m hc n h2 h1
 go_enter Tryz.func272,Tryz.ntmps272
 go_wp2_with fail
 refine(KU x _).mono ?_;rintro e w1 ⟨rfl,rfl⟩;rw[E.out];go_wp2_with fail;refine(Pu x _).mono ?_;rintro e w1 ⟨rfl,rfl⟩;rw[D.out];go_wp2_with fail;refine(A.out _).mono ?_;rintro e w1 ⟨rfl,rfl⟩;go_wp2_with fail;refine(ZW u j i _ h).mono ?_;rintro e w1 ⟨rfl,rfl⟩;rw[C.out];go_wp2_with fail;refine(Tryz.strconv_FormatInt_10 b oa oa _ h.lP).mono ?_;rintro e w2 ⟨rfl,L,os,d⟩;have c:B9 w1 w2:=by rw[d];exact Lib.below_grow _ _ (Be _) _ _
 clear d;have k:=h.below c h.sz;have F:=AaY b oa oa;have H:=AaY (ex-53+t) oa oa;go_wp2_with fail;refine(Tryz.strconv_Itoa (ex-53+t) oa oa _ k.lP).mono ?_;rintro e w3 ⟨rfl,k3,I,f⟩;have g:B9 w2 w3:=by rw[f];exact Lib.below_grow _ _ (Be _) _ _
 clear f;go_wp2_with fail;go_ret;exact⟨F0 (by rw[Cd,Cd]),oo c g⟩
def Rn(m:Nat)(i:Int)(M:Nat)(E:Int):Prop:=∃a b:Nat,m*2^a=(2*M+1)*2^b/\E=i+b-a
theorem LJ{M:Nat}{E E':Int}(h:Rn m i M E)(h':Rn m i c E'):M=c/\E=E':=by
 obtain⟨a,b,e1,rfl⟩:=h;obtain⟨a',b',e2,rfl⟩:=h';have e:2^(b+a')*(2*M+1)=2^(b'+a)*(2*c+1):=by
  rw[Aak,Aak,Aan (2^b),OK,Aan (2^b),<-e1,Aan (2^b'),OK,Aan (2^b'),<-e2];rw[Nat.mul_left_comm,Nat.mul_left_comm (2^a),Aan (2^a')]
 obtain⟨h1,h2⟩:=Fl.GN _ _ _ _ e;exact⟨h2,oa⟩
theorem cX(Z c d:Nat)(h:d=52+c):Z*4503599627370496*2^c=Z*2^d:=by
 rw[h,Aak,Fl.TI,OK]
theorem OB(x:Nat)(hx:x<18446744073709551616)(s:Bool)(m:Nat)(i:Int)(p:Ieee.double.read x=.number s m i)(hi:-1074<=i)(b:i<=971)(B:m<2^53)(d:m≠0):
  ∃M E,Rn m i M E/\∀w:World,BH w->C9 272 #[F9 x] w (R9 (.string ⟨(Pq s (2*M+1) E).toArray⟩) w):=by
 obtain⟨Q,X,e0,W,z2,k,j,F⟩:=Fl.RP x hx s m i p d;have e:0<m*2^j:=oj F.lo;obtain⟨M,C,R⟩:=Fl.MW s (m*2^j) e F.hi;obtain⟨r,q,l,f,g,n,H,D⟩:=Fl.PE F.rd Fl.Zl (oj F.lo) oa (m*2^j) 0 F.hi oa oa (cX (m*2^j) _ _ oc);rw[Bool.xor_false]at g;have I:=Fl.Oc q l (m*2^j) n D;have hu:=Fl.JN;have o:Fl.sc s q l=Fl.sg s (m*2^j)*Fl.U:=by rw[Fl.PQ s q l (m*2^j) 0 D,Fl.Gv]
 have u:floatToIntVal .f64 r .i64=some (Fl.sg s (m*2^j)):=by
  have h:=Fl.Kt g n (by
   rw[o];have:-9223372036854775808<=Fl.sg s (m*2^j):=by have:=F.hi;cases s<;>simp only[Fl.sg,Aah,Tn,Aaw]<;>omega
   have:=Int.mul_le_mul_of_nonneg_right this (Int.le_of_lt hu);omega) (by
   rw[o];have:Fl.sg s (m*2^j)<9223372036854775808:=by have:=F.hi;cases s<;>simp only[Fl.sg,Aah,Tn,Aaw]<;>omega
   exact Int.mul_lt_mul_of_pos_right this hu)
  rw[I]at h;exact h
 have a:=F.hi;generalize hN:m*2^j=Z at*;generalize v:Lib.ctz 64 (Fl.uw s Z)=t at*;have K:Z<9007199254740992:=a;have L:2*M+1<9007199254740992:=by
  have:1*(2*M+1)<=2^t*(2*M+1):=VC _ (Of t);omega
 refine⟨M,i-j+t,⟨j,t,by rw[hN,C,Aan],oa⟩,fun w P=>?_⟩;have hex:=F.ex;have A:k+((e0:Int)-1023+1)-53+t=i-j+t:=oa;have c:=TT x z2 r (Fl.uw s Z) t (k+((e0:Int)-1023+1)) (Fl.sg s Z) (Fl.sg s (2*M+1)) w P
  (Fl.IU p hi b B)
  (Fl.IU (x:=Op.negFloat .f64 x) (s:=!s) (m:=m) (i:=i) (by rw[Fl.Kj x hx,p];rfl) hi b B)
  (fun w=>Wn p hi d F w) f u (Fl.dG s Z e a)
  (by unfold Fl.uw;split<;>omega) (by unfold Fl.uw;split<;>omega) v oa
  (by rw[C];exact Fl.Zx s t M)
  (by cases s<;>simp only[Fl.sg,Aah,Tn,Aaw]<;>omega)
  (by cases s<;>simp only[Fl.sg,Aah,Tn,Aaw]<;>omega)
  (by have:=F.hk;have:=F.fL;omega) (by have:=F.DI;have:=F.fL;omega)
 rw[A]at c;exact c
theorem Lw(n:Nat)(hn:n<9007199254740992)(w:Y):
  C9 290 #[J (n:Int)] w (R9 (.string ⟨(Lib.decDigits n).toArray⟩) w):=by
 have hl:=Jq n oa;have g2:(0:Int)<=(n:Int):=oa
 go_enter Tryz.func290,Tryz.ntmps290
 go_wp2;go_loopw [0,3] (fun a o wr=>∃(u:Nat) (l:List UInt8),u<=n/\a=J (u:Int)/\o=.string ⟨l.toArray⟩/\Lib.decDigits n=Lib.decDigits u++l/\B9 w wr) (fun a _ _=>(intOf a).toNat)
 case atStart=>exact⟨n,[],Be _,rfl,rfl,od,Cs _ _⟩
 case round=>
  obtain⟨u,l,hu,rfl,rfl,c,hb⟩:=hrel;have d:Hid (Lib.decDigits n=Lib.decDigits u++l):=c;have e:l.length<=21:=by have:=congrArg List.length c;rw[ON]at this;omega
  clear c;have f:=MV u wr;by_cases b:u<10
  ·have hz:((u:Int)/10==0)=true:=oe;go_wp2;go_ret;refine⟨F0 ?_,hb.alloc hb.size _⟩;rw[Cd,d.out,GG b];have:aA u=UInt8.ofNat (48+u):=by unfold aA;rw[So b]
   rw[this]
  ·have hz:((u:Int)/10==0)=false:=oe;go_wp2;go_roundw
   case rel=>
    refine⟨u/10,aA u::l,oa,oh,?_,?_,hb.alloc hb.size _⟩
    ·rw[Cd];rfl
    ·rw[d.out,MY b,List.append_assoc];rfl
   case measure=>simp[intOf];omega
theorem Wg(x:Nat)(q:Nat)(l:Int)(a:Ieee.double.read x=.number false q l)(hl:-1074<=l)(i:l<=971)(hq:q<2^53):
  ∃r,(O9 x r==some .eq)=QJ x/\∀w:World,C9 163 #[F9 x] w fun e w'=>e=.returned (F9 r)/\w'=w:=by
 by_cases f:JS x=true
 ·refine⟨x,?_,fun w=>M7 x w f⟩;have e:(O9 x x==some .eq)=true:=by
   show(Ieee.double.order x x==some .eq)=true;rw[Fl.Bi a a hl hl,Fl.B3];simp
  have hn:DW x=false:=by
   show(!(O9 x x==some .eq))=false;rw[e];rfl
  rw[e];by_cases b:Uj x=true
  ·have c:TU x=true:=by
    show(Ieee.double.order x 14114281232179134464==some .gt||Ieee.double.order x 14114281232179134464==some .eq)=true;rw[Fl.Bi a Fl.FK hl oa,Fl.NU,Fl.Hr,Fl.B3,Fl.Cb];have:=Fl.JN;have k:(0:Int)<=((q*2^(l+1074).toNat:Nat):Int):=Int.natCast_nonneg _;simp only[Bool.or_eq_true,AaO];left;omega
   exact(Jn f hn c b).symm
  ·have c:9223372036854775808*Fl.U<=Fl.sc false q l:=by
    have h:(Ieee.double.order x 4890909195324358656==some .lt)=false:=(by simpa using b:Uj x=false);rw[Fl.Bi a Fl.FJ hl oa,Fl.Ld,Fl.GF]at h;simpa using h
   have j:QJ x=decide (Fl.sc false q l=Fl.sg false (Fl.whole q l)*Fl.U):=by unfold QJ;rw[a]
   rw[j];have hu:=Fl.JN;by_cases d:(Fl.whole q l:Int)*Fl.U=Fl.sc false q l
   ·have e:Fl.sg false (Fl.whole q l)=(Fl.whole q l:Int):=rfl;rw[e,d];simp
   ·exfalso;have hs:=Fl.LQ q l hq d;have hb:=Fl.Er q l hl;have:((Fl.whole q l:Int)+1)*Fl.U<=9223372036854775808*Fl.U:=Int.mul_le_mul_of_nonneg_right oa oa;omega
 ·have g:JS x=false:=by simpa using f
  exact M6 x g
def wh(m:Nat)(p:Int):Prop:=∃Z,m*2^(p+1074).toNat=Z*2^((0:Int)+1074).toNat
theorem bR(h:Fl.St x m p):QJ x=true↔wh m p:=by
 obtain⟨q,l,h1,h2,h3,h4,a⟩:=h;have b:QJ x=decide (Fl.sc false q l=Fl.sg false (Fl.whole q l)*Fl.U):=by unfold QJ;rw[h1]
 have e:Fl.sg false (Fl.whole q l)=(Fl.whole q l:Int):=rfl;rw[b,AaO,e];constructor
 ·intro k;refine⟨Fl.whole q l,?_⟩;rw[<-a];have k':=k;rw[Fl.Cb,<-e,<-Fl.Gv,Fl.Cb]at k';exact Int.ofNat.inj k'
 ·rintro⟨Z,hN⟩;have:=Fl.Oc q l Z h2 (a.trans hN);rw[this,<-show Fl.sg false Z=(Z:Int)from rfl,<-Fl.Gv];exact Fl.PQ false q l Z 0 (a.trans hN)
theorem XH(m:Nat)(p:Int)(a:0<=p):wh m p:=by
 refine⟨m*2^p.toNat,?_⟩;rw[Fl.pw];congr 2;omega
theorem RL(h:Fl.St x m p):∃r,((O9 x r==some .eq)=true↔wh m p)/\∀w:World,C9 163 #[F9 x] w fun e w'=>e=.returned (F9 r)/\w'=w:=by
 obtain⟨q,l,h1,h2,h3,h4,b⟩:=id h;obtain⟨r,a,hc⟩:=Wg x q l h1 h2 h3 h4;exact⟨r,by rw[a];exact bR h,hc⟩
theorem iU(h:wh m p)(b:m≠0)(c:-1073<=p)(hn:¬wh m (p-1)):∃M,m*2^(p+1074).toNat=(2*M+1)*2^((0:Int)+1074).toNat:=by
 obtain⟨Z,hN⟩:=h;by_cases a:Z%2=1
 ·exact⟨Z/2,by rw[hN];congr 1;omega⟩
 ·exfalso;apply hn;refine⟨Z/2,?_⟩;have e:(p+1074).toNat=(p-1+1074).toNat+1:=oa;rw[e,<-Fl.pw,Nat.pow_one]at hN;obtain⟨K,hK⟩:∃K,Z=K*2:=⟨Z/2,oa⟩;have e3:Z/2=K:=oa;rw[hK,Nat.mul_right_comm K 2]at hN;rw[e3];exact We oa hN
theorem iT(h:wh m p)(f:m≠0)(a:m<2^53)(g:-1074<=p):-53<p:=by
 obtain⟨Z,hN⟩:=h;apply Int.lt_of_not_ge;intro b;have d:Z≠0:=by
  intro e;subst e;rw[Nat.zero_mul]at hN;have:=Of (p+1074).toNat;rcases Nat.mul_eq_zero.1 hN with h|h<;>omega
 obtain⟨c,hc⟩:∃c:Nat,((0:Int)+1074).toNat=(p+1074).toNat+(53+c):=⟨(-p).toNat-53,oa⟩;rw[hc,Nat.add_comm (p+1074).toNat,<-Fl.pw]at hN;have h2:=We (Of _) hN;rw[Aak,Aan (2^53),<-OK]at h2;have:1<=Z*2^c:=Nat.mul_pos oa (Of c);have:1*2^53<=Z*2^c*2^53:=VC _ this;omega
theorem gO{M:Nat}(h:m*2^(p+1074).toNat=(2*M+1)*2^((0:Int)+1074).toNat)(a:-1074<=p):Rn m i M (i-p):=by
 by_cases b:0<=p
 ·refine⟨p.toNat,0,?_,oa⟩;rw[show(p+1074).toNat=p.toNat+((0:Int)+1074).toNat from by omega,<-Fl.pw]at h;rw[We (Of _) h];simp
 ·refine⟨0,(-p).toNat,?_,oa⟩;rw[show((0:Int)+1074).toNat=(-p).toNat+(p+1074).toNat from by omega,<-Fl.pw]at h;rw[<-We (Of _) h];simp
theorem Nn(x:Nat)(w:Y)(h:(O9 x x !=some .eq)=false):
  C9 162 #[F9 x] w fun e w'=>e=.returned (.bool false)/\w'=w:=by
 go_enter Tryz.func162,Tryz.ntmps162
 go_wp2;go_ret;exact⟨rfl,rfl⟩
theorem Rv(n:Nat)(b:0<n)(hn:n<9007199254740992)(w:Y):
  C9 290 #[J (-(n:Int))] w (R9 (.string ⟨(45::Lib.decDigits n).toArray⟩) w):=by
 have hl:=Jq n oa;have a:(0:Int)<(n:Int):=oa
 go_enter Tryz.func290,Tryz.ntmps290
 go_wp2_with (go_at_call 290;refine m9 (Lw n hn _) fun w1 hb=>?_)
 go_ret;refine⟨F0 ?_,hb⟩;exact Cd [45] (Lib.decDigits n)
theorem Lv(n:Int)(h1:-9007199254740992<n)(h2:n<9007199254740992)(w:Y):
  C9 290 #[J n] w (R9 (.string ⟨(Lib.itoa n).toArray⟩) w):=by
 by_cases h:n<0
 ·obtain⟨k,rfl⟩:∃k:Nat,n=-(k:Int):=⟨n.natAbs,oa⟩;have e:Lib.itoa (-(k:Int))=45::Lib.decDigits k:=by unfold Lib.itoa;rw[DD h];simp
  rw[e];exact Rv k oa oa w
 ·obtain⟨k,rfl⟩:∃k:Nat,n=(k:Int):=⟨n.toNat,oa⟩;have e:Lib.itoa (k:Int)=Lib.decDigits k:=by unfold Lib.itoa;rw[C3 h];simp
  rw[e];exact Lw k oa w
theorem Yt(s:Bool)(M:Nat)(E:Int):Pq s (2*M+1) E=(if s then[45]else[])++Lib.itoa ((2*M+1:Nat):Int)++[112]++Lib.itoa E:=by
 unfold Pq;cases s
 ·simp[Fl.sg]
 ·have e1:Lib.itoa (Fl.sg true (2*M+1))=45::Lib.decDigits (2*M+1):=by
   unfold Lib.itoa Fl.sg;rw[DD rfl,DD oa]
   congr 2
  have e2:Lib.itoa ((2*M+1:Nat):Int)=Lib.decDigits (2*M+1):=by
   unfold Lib.itoa;rw[C3 oa];rfl
  rw[e1,e2];simp
theorem PW(S:Bool)(x X m r0:Nat)(i:Int)(w:Y)(hy:X=cond S (Op.negFloat .f64 x) x)(ad:Fl.St X m i)(t:m≠0)(j:m<2^53)(hi:-1074<=i)(aj:i<=971)
  (g1:(O9 x x !=some .eq)=false) (g2:(O9 x 0==some .lt)=S) (g3:(O9 x 0==some .eq)=false) (g4:(O9 X 0==some .eq)=false)
  (A:floatBits .mul .f64 X 4602678819172646912=some r0) (g5:(O9 r0 X==some .eq)=false):
  C9 275 #[F9 x] w fun e w'=>(∃M E,Rn m i M E/\e=.returned (.string ⟨((cond S [45] [])++Lib.itoa ((2*M+1:Nat):Int)++[112]++Lib.itoa E).toArray⟩))/\B9 w w':=by
 have n:∀w:World,(binOp .mul 29 (F9 X) (F9 4602678819172646912)).run Tryz.prog w=.ok (F9 r0) w:=fun w=>AaN w .mul 29 .f64 _ _ r0 A;have B:∀w:World,(Op.unary .neg (F9 x)).run Tryz.prog w=.ok (F9 (Op.negFloat .f64 x)) w:=fun _=>rfl;have G1:Hid ((O9 x x !=some .eq)=false):=g1;clear A;cases S;all_goals
  dsimp only[cond]at hy ⊢;have hy:=hy.symm;subst hy
  go_enter Tryz.func275,Tryz.ntmps275
  go_wp2_with (go_at_call 162;refine(Nn x _ G1.out).mono ?_;rintro e w1 ⟨rfl,rfl⟩)
  clear n B g1 g2 g3 g4 g5 G1
  go_loop [0,4] (fun f e=>∃k v:Nat,k<=1074/\f=F9 v/\e=J (k:Int)/\Fl.St v m (i+k)/\i+k<=971) (fun _ e=>(-(i+intOf e)).toNat)
  case atStart=>exact⟨0,_,oa,rfl,rfl,by simpa using ad,oa⟩
  case round=>
   obtain⟨k,v,hk,rfl,rfl,hs,hb⟩:=hrel;obtain⟨r,a,hc⟩:=RL hs;have u:Hid (∀w:World,C9 163 #[F9 v] w fun e w'=>e=.returned (F9 r)/\w'=w):=hc;have C:Hid (Fl.St v m (i+k)):=hs;clear hc hs;by_cases b:wh m (i+k)
   ·have t1:(O9 v r !=some .eq)=false:=by simpa using a.2 b
    have T:Hid (wh m (i+k)):=b;clear a b;go_wp2_with (go_at_call 163;refine(u.out _).mono ?_;rintro e w1 ⟨rfl,rfl⟩);clear t1
    go_loop [0,4] (fun f e=>∃(v:Nat) (E:Int),f=F9 v/\e=J E/\Fl.St v m (i-E)/\wh m (i-E)/\i-E<=971) (fun _ e=>(i-intOf e+60).toNat)
    case atStart=>exact⟨v,-(k:Int),rfl,oh,by rw[show i- -(k:Int)=i+k from by omega];exact C.out,by rw[show i- -(k:Int)=i+k from by omega];exact T.out,oa⟩
    case round=>
     clear u C T;obtain⟨v,E,rfl,rfl,hs,V,hb⟩:=hrel;have ai:=iT V t j (by
      obtain⟨Z,hN⟩:=V;apply Int.le_of_not_gt;intro ak;obtain⟨q,l,_,_,_,hq,F,W⟩:=Fl.Lh hs t;have e0:(i-E+1074).toNat=0:=oa;rw[e0,Nat.pow_zero,Nat.mul_one]at hN;have ao:Z≠0:=by intro e;subst e;omega
      have:1*2^((0:Int)+1074).toNat<=Z*2^((0:Int)+1074).toNat:=VC _ oa;have aq:2^53<=2^((0:Int)+1074).toNat:=AaL oa oc;omega)
     have ar:-3000<E:=oa;have au:E<3000:=oa;obtain⟨h,d,o⟩:=Fl.VG hs t j oa oa;have p:∀w:World,(binOp .mul 29 (F9 v) (F9 4602678819172646912)).run Tryz.prog w=.ok (F9 h) w:=fun w=>AaN w .mul 29 .f64 _ _ h d;obtain⟨r,a,hc⟩:=RL o;have u:Hid (∀w:World,C9 163 #[F9 h] w fun e w'=>e=.returned (F9 r)/\w'=w):=hc;have C:Hid (Fl.St v m (i-E)):=hs;have T:Hid (wh m (i-E)):=V;have HH:Hid (Fl.St h m (i-E-1)):=o;clear hc hs o d V;by_cases b:wh m (i-E-1)
     ·have t1:(O9 h r==some .eq)=true:=a.2 b;have ae:Hid (wh m (i-E-1)):=b;clear a b;go_wp2_with (go_at_call 163;refine(u.out _).mono ?_;rintro e w1 ⟨rfl,rfl⟩)
      go_round
      case rel=>exact⟨h,E+1,rfl,oh,by rw[show i-(E+1)=i-E-1 from by omega];exact HH.out,by rw[show i-(E+1)=i-E-1 from by omega];exact ae.out,oa⟩
      case measure=>simp[intOf];omega
     ·have t1:(O9 h r==some .eq)=false:=by
       rw[Bool.eq_false_iff];intro k;exact b (a.1 k)
      obtain⟨M,hM⟩:=iU T.out t oa b;have HO:Hid (Rn m i M E):=by
       have:=gO (i:=i) hM oa;rw[show i-(i-E)=E from by omega]at this;exact this
      obtain⟨q,l,H,s,af,hq,F,W⟩:=Fl.Lh C.out t;have g:=Fl.Oc q l (2*M+1) s (W.trans hM);have I:2*M+1<9007199254740992:=by
       by_cases av:0<l
       ·exfalso;unfold Fl.whole at g;rw[DD oa]at g;obtain⟨c,hc⟩:∃c,l.toNat=c+1:=⟨l.toNat-1,oa⟩;rw[hc,AaF,<-OK]at g;omega
       ·have:Fl.whole q l<=q:=by
         unfold Fl.whole
         split
         ·have:l=0:=oa;subst this;simp
         ·exact Nat.div_le_self _ _
        omega
      have ag:∀w:World,(convert 29 2 (F9 v)).run Tryz.prog w=.ok (J ((2*M+1:Nat):Int)) w:=by
       intro w;have K:Fl.sc false q l=((2*M+1:Nat):Int)*Fl.U:=by rw[Fl.PQ false q l (2*M+1) 0 (W.trans hM),Fl.Gv];rfl
       have hu:=Fl.JN;have:=Fl.Kt H s (by
        rw[K];have:(0:Int)<=((2*M+1:Nat):Int)*Fl.U:=Int.mul_nonneg oa oa;omega) (by
        rw[K];exact Int.mul_lt_mul_of_pos_right oa hu)
       rw[g]at this;exact run_convert_float_int w 29 2 .f64 .i64 v _ og Tryz.underlying2 this
      clear a b W H g hM hq F s af;generalize L:2*M+1=D at ag I;have P:Hid (2*M+1=D):=L;clear L;have aw:=AaY (D:Int) oa oa;have ax:=AaY E oa oa;go_wp2_with (go_at_call 163;refine(u.out _).mono ?_;rintro e w1 ⟨rfl,rfl⟩);refine m9 (Lv (D:Int) oa oa _) fun w2 Q=>?_;go_wp2_with fail
      refine m9 (Lv E oa oa _) fun w3 ah=>?_;go_wp2_with fail
      go_ret;refine⟨⟨M,E,HO.out,F0 ?_⟩,oo Q ah⟩;have e0:(⟨#[]⟩:ByteArray)++⟨(Lib.itoa (D:Int)).toArray⟩=⟨(Lib.itoa (D:Int)).toArray⟩:=Cd [] _;first|(rw[P.out,e0,Cd,Cd];rfl)|(rw[P.out,Cd,Cd,Cd];simp)
   ·have t1:(O9 v r !=some .eq)=true:=by
     rw[bne_iff_ne];intro e;apply b;apply a.1;rw[e];rfl
    have ay:i+k<0:=by
     apply Int.lt_of_not_ge;intro h;exact b (XH m _ h)
    obtain⟨v2,d,R⟩:=Fl.Xl C.out t j oa oa;have p:∀w:World,(binOp .mul 29 (F9 v) (F9 4611686018427387904)).run Tryz.prog w=.ok (F9 v2) w:=fun w=>AaN w .mul 29 .f64 _ _ v2 d;have H2:Hid (Fl.St v2 m (i+k+1)):=R;clear a b d R;go_wp2_with (go_at_call 163;refine(u.out _).mono ?_;rintro e w1 ⟨rfl,rfl⟩)
    go_round
    case rel=>exact⟨k+1,v2,oa,rfl,oh,by rw[show i+((k+1:Nat):Int)=i+k+1 from by omega];exact H2.out,oa⟩
    case measure=>simp[intOf];omega
def Es(x:Nat):List UInt8:=match Ieee.double.read x with
 |.infinity s=>(if s then[45]else[])++[105,110,102]
 |.number s m i=>Pq s (2*(m/2^Lib.ctz 64 m/2)+1) (i+Lib.ctz 64 m)
 |_=>[]
theorem SE(m:Nat)(i:Int)(a:m≠0)(b:m<2^53):Rn m i (m/2^Lib.ctz 64 m/2) (i+Lib.ctz 64 m):=by
 obtain⟨M,h1,_⟩:=Fl.MW false m oa b;have e:Fl.uw false m=m:=rfl;rw[e]at h1;refine⟨0,Lib.ctz 64 m,?_,oa⟩;generalize Lib.ctz 64 m=t at h1;have:m/2^t=2*M+1:=by rw[h1];exact Nat.mul_div_cancel_left _ (Of t)
 rw[this,show 2*((2*M+1)/2)+1=2*M+1 from by omega,Nat.pow_zero,Nat.mul_one,Aan];exact h1
theorem Ww(x:Nat)(w:Y)(h:(O9 x 9218868437227405311==some .gt)=true):
  C9 272 #[F9 x] w fun e w'=>e=.returned (.string ⟨#[105,110,102]⟩)/\w'=w:=by
 have H:Hid ((O9 x 9218868437227405311==some .gt)=true):=h;clear h
 go_enter Tryz.func272,Tryz.ntmps272
 go_wp2_with fail
 refine(KU x _).mono ?_;rintro e w1 ⟨rfl,rfl⟩;rw[H.out];go_wp2_with fail;go_ret;exact⟨rfl,rfl⟩
theorem T7(x:Nat)(w:Y)(h:(O9 x 9218868437227405311==some .gt)=false)(h2:(O9 (Op.negFloat .f64 x) 9218868437227405311==some .gt)=true):
  C9 272 #[F9 x] w fun e w'=>e=.returned (.string ⟨#[45,105,110,102]⟩)/\w'=w:=by
 have H:Hid ((O9 x 9218868437227405311==some .gt)=false):=h;have a:Hid ((O9 (Op.negFloat .f64 x) 9218868437227405311==some .gt)=true):=h2;clear h h2
 go_enter Tryz.func272,Tryz.ntmps272
 go_wp2_with fail
 refine(KU x _).mono ?_;rintro e w1 ⟨rfl,rfl⟩;rw[H.out];go_wp2_with fail;refine(Pu x _).mono ?_;rintro e w1 ⟨rfl,rfl⟩;rw[a.out];go_wp2_with fail;go_ret;exact⟨rfl,rfl⟩
theorem Xn(x r0:Nat)(w:Y)
  (g1:(O9 x x !=some .eq)=false) (g2:(O9 x 0==some .lt)=false) (g3:(O9 x 0==some .eq)=false)
  (a:floatBits .mul .f64 x 4602678819172646912=some r0) (g5:(O9 r0 x==some .eq)=true):
  C9 275 #[F9 x] w fun e w'=>e=.returned (.string ⟨#[105,110,102]⟩)/\w'=w:=by
 have b:∀w:World,(binOp .mul 29 (F9 x) (F9 4602678819172646912)).run Tryz.prog w=.ok (F9 r0) w:=fun w=>AaN w .mul 29 .f64 _ _ r0 a;have c:Hid ((O9 x x !=some .eq)=false):=g1;clear a
 go_enter Tryz.func275,Tryz.ntmps275
 go_wp2_with (go_at_call 162;refine(Nn x _ c.out).mono ?_;rintro e w1 ⟨rfl,rfl⟩)
 go_ret;exact⟨F0 (Cd [] _),rfl⟩
theorem UG(x r0:Nat)(w:Y)
  (g1:(O9 x x !=some .eq)=false) (g2:(O9 x 0==some .lt)=true) (g4:(O9 (Op.negFloat .f64 x) 0==some .eq)=false)
  (a:floatBits .mul .f64 (Op.negFloat .f64 x) 4602678819172646912=some r0) (g5:(O9 r0 (Op.negFloat .f64 x)==some .eq)=true):
  C9 275 #[F9 x] w fun e w'=>e=.returned (.string ⟨#[45,105,110,102]⟩)/\w'=w:=by
 have b:∀w:World,(binOp .mul 29 (F9 (Op.negFloat .f64 x)) (F9 4602678819172646912)).run Tryz.prog w=.ok (F9 r0) w:=fun w=>AaN w .mul 29 .f64 _ _ r0 a;have c:∀w:World,(Op.unary .neg (F9 x)).run Tryz.prog w=.ok (F9 (Op.negFloat .f64 x)) w:=fun _=>rfl;have d:Hid ((O9 x x !=some .eq)=false):=g1;clear a
 go_enter Tryz.func275,Tryz.ntmps275
 go_wp2_with (go_at_call 162;refine(Nn x _ d.out).mono ?_;rintro e w1 ⟨rfl,rfl⟩)
 go_ret;exact⟨F0 (Cd [45] [105,110,102]),rfl⟩
theorem R7(hx:Ieee.double.read x=.infinity false):∃r0,floatBits .mul .f64 x 4602678819172646912=some r0/\(Ieee.double.order r0 x==some .eq)=true:=by
 refine⟨Ieee.double.write (.infinity (false^^false)),?_,?_⟩
 ·show((Ieee.double.read x).product (Ieee.double.read 4602678819172646912)).map Ieee.double.write=_;rw[hx,Fl.La];rfl
 ·unfold Ieee.Format.order;have:Ieee.double.read (Ieee.double.write (.infinity (false^^false)))=.infinity false:=oc;rw[this,hx];rfl
theorem N5{Z:Nat}(h:Fl.St Z m i)(b:m≠0):(O9 Z 0==some .eq)=false/\(O9 Z 0==some .lt)=false/\(O9 Z Z !=some .eq)=false:=by
 obtain⟨q,l,h1,h2,h3,h4,h5,c⟩:=Fl.Lh h b;have a:(0:Int)<((q*2^(l+1074).toNat:Nat):Int):=Int.ofNat_lt.2 (Nat.mul_pos oa (Of _));refine⟨?_,?_,?_⟩
 ·show(Ieee.double.order Z 0==some .eq)=false;rw[Fl.Bi h1 Fl.BT h2 oa,Fl.B3,Fl.DT,Fl.Cb];simp only[decide_eq_false_iff_not];omega
 ·show(Ieee.double.order Z 0==some .lt)=false;rw[Fl.Bi h1 Fl.BT h2 oa,Fl.GF,Fl.DT,Fl.Cb];simp only[decide_eq_false_iff_not];omega
 ·show(!(Ieee.double.order Z Z==some .eq))=false;rw[Fl.Bi h1 h1 h2 h2,Fl.B3];simp
theorem Un(a:Ieee.double.read x=.number s m i)(hi:-1074<=i)(hz:fz x=false):m≠0:=by
 intro e;subst e;have h:(Ieee.double.order x 0==some .eq)=false:=hz;rw[Fl.Bi a Fl.BT hi oa,Fl.B3,Fl.DT,Fl.DT]at h;simp at h
theorem Wv(x:Nat)(hx:x<18446744073709551616)(hn:DW x=false)(hz:fz x=false)(w:Y)(f:BH w):
  C9 272 #[F9 x] w (R9 (.string ⟨(Es x).toArray⟩) w):=by
 rcases Fl.Cg x with⟨s,m,i,a,hi,c,d,_⟩|⟨s,a⟩|⟨s,t,a⟩
 ·have b:=Un a hi hz;obtain⟨M,E,g,hc⟩:=OB x hx s m i a hi c d b;obtain⟨e1,e2⟩:=LJ g (SE m i b d);have e:Es x=Pq s (2*M+1) E:=by unfold Es;rw[a,e1,e2]
  rw[e];exact hc w f
 ·cases s
  ·have e:Es x=[105,110,102]:=by unfold Es;rw[a];rfl
   rw[e];exact(Ww x w (Fl.Ps a)).mono fun e w' ⟨h1,h2⟩=>⟨h1,h2▸Cs _ _⟩
  ·have e:Es x=[45,105,110,102]:=by unfold Es;rw[a];rfl
   rw[e];exact(T7 x w (Fl.Ul a) (Fl.Ps (by rw[Fl.Kj x hx,a];rfl))).mono fun e w' ⟨h1,h2⟩=>⟨h1,h2▸Cs _ _⟩
 ·exfalso;have h:(!(Ieee.double.order x x==some .eq))=false:=hn;unfold Ieee.Format.order at h;rw[a]at h;simp[Ieee.Datum.order]at h
theorem Xm(x:Nat)(hx:x<18446744073709551616)(hn:DW x=false)(hz:fz x=false)(w:Y):
  C9 275 #[F9 x] w (R9 (.string ⟨(Es x).toArray⟩) w):=by
 rcases Fl.Cg x with⟨s,m,i,c,hi,d,j,_⟩|⟨s,c⟩|⟨s,t,c⟩
 ·have a:=Un c hi hz;have fin:∀M E,Rn m i M E->Es x=(if s then[45]else[])++Lib.itoa ((2*M+1:Nat):Int)++[112]++Lib.itoa E:=by
   intro M E k;obtain⟨e1,e2⟩:=LJ k (SE m i a j);rw[<-Yt];unfold Es;rw[c,e1,e2]
  cases s
  focus
   have b:Fl.St x m i:=⟨m,i,c,hi,d,j,rfl⟩;obtain⟨g3,g2,g1⟩:=N5 b a;obtain⟨r0,g,g5⟩:=Fl.Vc b a;refine(PW false x x m r0 i w rfl b a j hi d g1 g2 g3 g3 g g5).mono ?_
  rotate_left
  focus
   have f:Ieee.double.read (Op.negFloat .f64 x)=.number false m i:=by rw[Fl.Kj x hx,c];rfl
   have b:Fl.St (Op.negFloat .f64 x) m i:=⟨m,i,f,hi,d,j,rfl⟩;obtain⟨g4,_,_⟩:=N5 b a;obtain⟨r0,g,g5⟩:=Fl.Vc b a;have l:(0:Int)<((m*2^(i+1074).toNat:Nat):Int):=Int.ofNat_lt.2 (Nat.mul_pos oa (Of _));have g2:(O9 x 0==some .lt)=true:=by
    show(Ieee.double.order x 0==some .lt)=true;rw[Fl.Bi c Fl.BT hi oa,Fl.GF,Fl.DT,Fl.D6,Fl.Cb];simp only[AaO];omega
   refine(PW true x (Op.negFloat .f64 x) m r0 i w rfl b a j hi d hn g2 hz g4 g g5).mono ?_
  rotate_left;all_goals
   rintro e w' ⟨⟨M,E,k,rfl⟩,hb⟩;refine⟨?_,hb⟩;rw[fin M E k];rfl
 ·cases s
  ·have e:Es x=[105,110,102]:=by unfold Es;rw[c];rfl
   rw[e];obtain⟨r0,h1,h2⟩:=R7 c;have g2:(O9 x 0==some .lt)=false:=by
    show(Ieee.double.order x 0==some .lt)=false;unfold Ieee.Format.order;rw[c,Fl.BT];rfl
   exact(Xn x r0 w hn g2 hz h1 h2).mono fun e w' ⟨h1,h2⟩=>⟨h1,h2▸Cs _ _⟩
  ·have e:Es x=[45,105,110,102]:=by unfold Es;rw[c];rfl
   rw[e];have f:Ieee.double.read (Op.negFloat .f64 x)=.infinity false:=by rw[Fl.Kj x hx,c];rfl
   obtain⟨r0,h1,h2⟩:=R7 f;have g2:(O9 x 0==some .lt)=true:=by
    show(Ieee.double.order x 0==some .lt)=true;unfold Ieee.Format.order;rw[c,Fl.BT];rfl
   have g4:(O9 (Op.negFloat .f64 x) 0==some .eq)=false:=by
    show(Ieee.double.order _ 0==some .eq)=false;unfold Ieee.Format.order;rw[f,Fl.BT];rfl
   exact(UG x r0 w hn g2 g4 h1 h2).mono fun e w' ⟨h1,h2⟩=>⟨h1,h2▸Cs _ _⟩
 ·exfalso;have h:(!(Ieee.double.order x x==some .eq))=false:=hn;unfold Ieee.Format.order at h;rw[c]at h;simp[Ieee.Datum.order]at h
theorem fG(x:Nat)(a:x≠0)(h:x<2^53):Lib.ctz 64 x<=53:=by
 obtain⟨M,_,h2⟩:=Fl.MW false x oa h;have:Fl.uw false x=x:=rfl;rw[this]at h2;omega
theorem RR(x:Nat)(hn:DW x=false)(hz:fz x=false):(Es x).length<=60:=by
 rcases Fl.Cg x with⟨s,m,i,a,hi,c,d,_⟩|⟨s,a⟩|⟨s,t,a⟩
 ·have b:=Un a hi hz;have hc:=fG m b d;unfold Es;rw[a];unfold Pq;have e:m/2^Lib.ctz 64 m/2<=m:=GO (Nat.div_le_self _ _) (Nat.div_le_self _ _);have h1:=AaY (Fl.sg s (2*(m/2^Lib.ctz 64 m/2)+1)) (by cases s<;>simp only[Fl.sg,Aah,Tn,Aaw]<;>omega) (by cases s<;>simp only[Fl.sg,Aah,Tn,Aaw]<;>omega);have h2:=AaY (i+Lib.ctz 64 m) oa oa;simp only[ON,Aae,XN];omega
 ·unfold Es;rw[a];cases s<;>decide
 ·unfold Es;rw[a];exact Re _
def Dk(kind num:Int)(Ag:Nat)(s:ByteArray)(ref:Int):Int:=
 if kind=4 then Qx s.data.toList
 else if kind=3 then Qx (Es Ag)
 else if kind=2 then OT (IntKind.u64.wrap num)
 else OT (IntKind.u64.wrap (IntKind.u64.wrap (kind*1099511627776+IntKind.u64.wrap num)+IntKind.u64.wrap ref))
structure HK (kind:Int) (Ag:Nat) (s:ByteArray):Prop where
 str:s.size<=maxLen
 nO:0<=kind
 nL:kind<=8
 Ag:kind=3->Ag<18446744073709551616/\DW Ag=false/\fz Ag=false
theorem RZ(kind num:Int)(Ag:Nat)(s:ByteArray)(ref:Int)(w:Y)(h:HK kind Ag s)(d:BH w):
  C9 247 #[V kind num Ag s ref] w (R9 (.int .u64 (Dk kind num Ag s ref)) w):=by
 have hs:=h.str;have a:=h.nO;have DI:=h.nL;by_cases k4:kind=4
 ·subst k4;have e:Dk 4 num Ag s ref=Qx s.data.toList:=by unfold Dk;rw[DD rfl]
  rw[e];clear e a DI
  go_enter Tryz.func247,Tryz.ntmps247
  go_wp2_with (go_at_call 271;refine(JZ s _ hs).mono ?_;rintro e w1 ⟨rfl,rfl⟩)
  go_ret;exact⟨rfl,n9⟩
 have b4:(kind==4)=false:=by simp[k4]
 by_cases k3:kind=3
 ·subst k3;obtain⟨f1,f2,f3⟩:=h.Ag rfl;have e:Dk 3 num Ag s ref=Qx (Es Ag):=by unfold Dk;rw[C3 oc,DD rfl]
  rw[e];have hl:=RR Ag f2 f3;have c:Hid (BH w):=d;clear e a DI b4 k4
  go_enter Tryz.func247,Tryz.ntmps247
  go_wp2_with fail
  refine m9 (Wv Ag f1 f2 f3 _ (c.out.below (n9) c.out.sz)) fun w1 hb=>?_;go_wp2_with fail
  refine(JZ ⟨(Es Ag).toArray⟩ _ (by unfold maxLen;rw[show(ByteArray.mk (Es Ag).toArray).size=(Es Ag).length from by simp[ByteArray.size]];omega)).mono ?_;rintro e w2 ⟨rfl,rfl⟩;go_wp2_with fail;go_ret;exact⟨od,(n9).trans (hb.mono od)⟩
 have b3:(kind==3)=false:=by simp[k3]
 by_cases k2:kind=2
 focus
  subst k2;have e:Dk 2 num Ag s ref=OT (IntKind.u64.wrap num):=by unfold Dk;rw[C3 oc,C3 oc,DD rfl]
  rw[e];have b:=C0 num;clear e a DI b4 k4 b3 k3
  go_enter Tryz.func247,Tryz.ntmps247
 rotate_left
 focus
  have b2:(kind==2)=false:=by simp[k2]
  have e:Dk kind num Ag s ref=OT (IntKind.u64.wrap (IntKind.u64.wrap (kind*1099511627776+IntKind.u64.wrap num)+IntKind.u64.wrap ref)):=by unfold Dk;rw[C3 k4,C3 k3,C3 k2]
  rw[e];clear e k4 k3 k2
  go_enter Tryz.func247,Tryz.ntmps247
  have b:=C0 (IntKind.u64.wrap (kind*1099511627776+IntKind.u64.wrap num)+IntKind.u64.wrap ref)
 all_goals
  go_wp2_with (go_at_call 273;refine(cC _ _ b.1 b.2).mono ?_;rintro e w1 ⟨rfl,rfl⟩)
  go_ret;exact⟨rfl,n9⟩
theorem Uc(kind num:Int)(Ag:Nat)(s:ByteArray)(ref:Int)(w:Y)(h:HK kind Ag s):
  C9 253 #[V kind num Ag s ref] w (R9 (.int .u64 (Dk kind num Ag s ref)) w):=by
 have hs:=h.str;have a:=h.nO;have DI:=h.nL;by_cases k4:kind=4
 ·subst k4;have e:Dk 4 num Ag s ref=Qx s.data.toList:=by unfold Dk;rw[DD rfl]
  rw[e];clear e a DI
  go_enter Tryz.func253,Tryz.ntmps253
  go_wp2_with (go_at_call 274;refine(LF s _ hs).mono ?_;rintro e w1 ⟨rfl,rfl⟩)
  go_ret;exact⟨rfl,n9⟩
 have b4:(kind==4)=false:=by simp[k4]
 by_cases k3:kind=3
 ·subst k3;obtain⟨f1,f2,f3⟩:=h.Ag rfl;have e:Dk 3 num Ag s ref=Qx (Es Ag):=by unfold Dk;rw[C3 oc,DD rfl]
  rw[e];have hl:=RR Ag f2 f3;clear e a DI b4 k4
  go_enter Tryz.func253,Tryz.ntmps253
  go_wp2_with fail
  refine m9 (Xm Ag f1 f2 f3 _) fun w1 hb=>?_;go_wp2_with fail
  refine(LF ⟨(Es Ag).toArray⟩ _ (by unfold maxLen;rw[show(ByteArray.mk (Es Ag).toArray).size=(Es Ag).length from by simp[ByteArray.size]];omega)).mono ?_;rintro e w2 ⟨rfl,rfl⟩;go_wp2_with fail;go_ret;exact⟨od,(n9).trans (hb.mono od)⟩
 have b3:(kind==3)=false:=by simp[k3]
 by_cases k2:kind=2
 focus
  subst k2;have e:Dk 2 num Ag s ref=OT (IntKind.u64.wrap num):=by unfold Dk;rw[C3 oc,C3 oc,DD rfl]
  rw[e];have b:=C0 num;clear e a DI b4 k4 b3 k3
  go_enter Tryz.func253,Tryz.ntmps253
 rotate_left
 focus
  have b2:(kind==2)=false:=by simp[k2]
  have e:Dk kind num Ag s ref=OT (IntKind.u64.wrap (IntKind.u64.wrap (kind*1099511627776+IntKind.u64.wrap num)+IntKind.u64.wrap ref)):=by unfold Dk;rw[C3 k4,C3 k3,C3 k2]
  rw[e];clear e k4 k3 k2
  go_enter Tryz.func253,Tryz.ntmps253
  have b:=C0 (IntKind.u64.wrap (kind*1099511627776+IntKind.u64.wrap num)+IntKind.u64.wrap ref)
 all_goals
  go_wp2_with (go_at_call 276;refine(WG _ _ b.1 b.2).mono ?_;rintro e w1 ⟨rfl,rfl⟩)
  go_ret;exact⟨rfl,n9⟩
end
section
open Go.RowKit
attribute [local go_sem] Am Aj
theorem Yw(h:fz x=true):Ci x=true:=by
 have h':(Ieee.double.order x 0==some .eq)=true:=h;rcases Fl.Cg x with⟨s,m,i,a,hi,c,e,_⟩|⟨s,a⟩|⟨s,t,a⟩
 ·rw[Fl.Bi a Fl.BT hi oa,Fl.B3,Fl.DT]at h';have b:Fl.sc s m i=0:=by simpa using h'
  have hu:=Fl.JN;have g:TU x=true:=by
   show(Ieee.double.order x 14114281232179134464==some .gt||Ieee.double.order x 14114281232179134464==some .eq)=true;rw[Fl.Bi a Fl.FK hi oa,Fl.NU,Fl.Hr,Fl.B3,b];simp only[Bool.or_eq_true,AaO];left;omega
  have l:Uj x=true:=by
   show(Ieee.double.order x 4890909195324358656==some .lt)=true;rw[Fl.Bi a Fl.FJ hi oa,Fl.Ld,Fl.GF,b];simp only[AaO];omega
  have hn:DW x=false:=by
   show(!(Ieee.double.order x x==some .eq))=false;rw[Fl.Bi a a hi hi,Fl.B3];simp
  have d:JS x=true:=by unfold JS;rw[h];simp
  unfold Ci;rw[g,l,Jn d hn g l];rfl
 ·exfalso;unfold Ieee.Format.order at h';rw[a,Fl.BT]at h';cases s<;>simp[Ieee.Datum.order]at h'
 ·exfalso;unfold Ieee.Format.order at h';rw[a]at h';simp[Ieee.Datum.order]at h'
theorem UQ{kind num:Int}{Ag:Nat}{s:ByteArray}{ref:Int}(h:Bh kind num Ag s ref=true):0<=kind/\kind<=8:=by
 unfold Bh at h;by_cases k0:kind=0
 ·omega
 by_cases k1:kind=1
 ·omega
 by_cases k2:kind=2
 ·omega
 by_cases k3:kind=3
 ·omega
 by_cases k4:kind=4
 ·omega
 by_cases a:kind=5
 ·omega
 by_cases b:kind=6
 ·omega
 by_cases c:kind=7
 ·omega
 by_cases d:kind=8
 ·omega
 exfalso;simp[k0,k1,k2,k3,k4,a,b,c,d]at h
end
section
open Go.RowKit
theorem Hw(k n:Int)(f:Nat)(s:ByteArray)(r:Int):0<=Dk k n f s r/\Dk k n f s r<18446744073709551616:=by
 unfold Dk
 split
 ·exact Pp _
 ·split
  ·exact Pp _
  ·split
   ·exact ND _
   ·exact ND _
def hN(v:Vl):Nat:=(Dk v.kind v.num v.Ag v.str v.ref).toNat
theorem Vb(v:Vl):((hN v:Nat):Int)=Dk v.kind v.num v.Ag v.str v.ref:=by
 have:=Hw v.kind v.num v.Ag v.str v.ref;unfold hN;omega
structure Wf (v:Vl):Prop where
 Ag:v.Ag<18446744073709551616
 str:v.str.size<=maxLen
theorem Yz(h:Df v=true)(a:Wf v):HK v.kind v.Ag v.str:=by
 unfold Df Vl.ok at h;simp only[To,bne_iff_ne,ne_eq,Bool.not_eq_true',Bool.and_eq_false_iff,Bool.or_eq_false_iff,beq_eq_false_iff_ne]at h;obtain⟨⟨b,c⟩,h3⟩:=h;have hk:=UQ b;refine⟨a.str,hk.1,hk.2,fun e=>?_⟩;rcases h3 with h3|h3
 ·exact absurd e h3
 ·refine⟨a.Ag,h3.1,?_⟩;rw[Bool.eq_false_iff];intro hz;rw[Yw hz]at h3;exact absurd h3.2 oc
theorem nK(h:Df v=true)(a:Wf v):XT v (hN v):=
 ⟨by have:=Hw v.kind v.num v.Ag v.str v.ref;have:=Vb v;omega,fun w=>by rw[Vb];exact Uc v.kind v.num v.Ag v.str v.ref w (Yz h a)⟩
theorem lN(h:Df v=true)(a:Wf v):O7 BH v (hN v):=
 ⟨by have:=Hw v.kind v.num v.Ag v.str v.ref;have:=Vb v;omega,fun w b=>by rw[Vb];exact RZ v.kind v.num v.Ag v.str v.ref w (Yz h a) b⟩
theorem Bg:EM BH:=fun w w' a hb=>a.below hb a.sz
def VQ(d:Dc):Prop:=∀i,i<d.n->Wf (d.L i).key/\Wf (d.L i).val
def hD(d:Dc)(i:Nat):Nat:=hN (d.L i).key
end
section
open Go.ChangeShapes Go.WideShapes Go.ChangeAt Go.RowKit
theorem own:ownKnob Tryz.prog.godebug=none:=og
theorem laidOut:laidOutB Tryz.prog=true:=og
theorem oA:Fs Tryz.prog 31 3 2 29 9:=
 ⟨⟨_,_,_,_,_,Tryz.underlying31,rfl,rfl,rfl,rfl,rfl,rfl,rfl,rfl,rfl,rfl⟩,og,og,og,og,og,Tryz.underlying3,Tryz.underlying2,Tryz.underlying29,Tryz.underlying9⟩
theorem Yo(h:(Lit.float .f64 b).wf=true):b<18446744073709551616:=by
 simpa[Lit.wf]using h
def LH:List (String×DataW Unit):=[("math/bits.deBruijn32tab",Rows.laid_math_bits_deBruijn32tab),("math/bits.deBruijn64tab",Rows.laid_math_bits_deBruijn64tab),("internal/strconv.uint64pow10",Rows.laid_internal_strconv_uint64pow10)]
def ZR:List Nat:=[0,1,28,2,29,14,24,3,30,22,20,15,25,17,4,8,31,27,13,23,21,19,16,7,26,12,18,6,11,5,10,9]
def FM(cs:Array Value):Obj->Obj
 |.cells _ t frozen=>.cells cs t frozen
 |o=>o
def Tl(w:Y):World:=
 {w with heap:=((w.heap.modify 4 (FM (ZR.map fun n:Nat=>Value.int .u8 (n:Int)).toArray)).modify 2 (FM (Lib.deBruijn64tab.map fun n:Nat=>Value.int .u8 (n:Int)).toArray)).modify 3 (FM (Lib.pow10Tab.map fun n=>Value.int .u64 n).toArray)}
theorem kD(h:laidMetH Tryz.prog LH W):Lib.TabIs Tryz.prog W "math/bits.deBruijn64tab" .u8 (Lib.deBruijn64tab.map fun n:Nat=>(n:Int)):=by
 have h1:=laidMetH.filter (fun x=>x.1== "math/bits.deBruijn64tab") h;have e:(LH.filter fun x=>x.1== "math/bits.deBruijn64tab")=[("math/bits.deBruijn64tab",Lib.tabData .u8 (Lib.deBruijn64tab.map fun n:Nat=>(n:Int)))]:=og;rw[e]at h1;exact Lib.tabIs_of_head (rest:=[]) (g:=2) og (t:=384) og Tryz.underlying384 Tryz.underlying5 og og h1
theorem eG(h:laidMetH Tryz.prog LH W):Lib.TabIs Tryz.prog W "internal/strconv.uint64pow10" .u64 Lib.pow10Tab:=by
 have h1:=laidMetH.filter (fun x=>x.1== "internal/strconv.uint64pow10") h;have e:(LH.filter fun x=>x.1== "internal/strconv.uint64pow10")=[("internal/strconv.uint64pow10",Lib.tabData .u64 Lib.pow10Tab)]:=og;rw[e]at h1;exact Lib.tabIs_of_head (rest:=[]) (g:=3) og (t:=391) og Tryz.underlying391 Tryz.underlying136 og og h1
theorem nJ:Tryz.prog.globalNamed "math/bits.deBruijn64tab" =some 2:=og
theorem g10:Tryz.prog.globalNamed "internal/strconv.uint64pow10" =some 3:=og
theorem oB:Tryz.prog.globalNamed "math/bits.deBruijn32tab" =some 4:=og
theorem kC(h:laidMetH Tryz.prog LH W):Lib.TabIs Tryz.prog W "math/bits.deBruijn32tab" .u8 (ZR.map fun n:Nat=>(n:Int)):=by
 have h1:=laidMetH.filter (fun x=>x.1== "math/bits.deBruijn32tab") h;have e:(LH.filter fun x=>x.1== "math/bits.deBruijn32tab")=[("math/bits.deBruijn32tab",Lib.tabData .u8 (ZR.map fun n:Nat=>(n:Int)))]:=og;rw[e]at h1;exact Lib.tabIs_of_head (rest:=[]) (g:=4) og (t:=393) og Tryz.underlying393 Tryz.underlying5 og og h1
theorem dE(h:laidMetH Tryz.prog LH W):BH W:=by
 have a:=kD h;have b:=kC h;refine⟨?_,eG h,?_⟩
 ·intro j hj;have:=a.cell nJ j (by simpa using hj);rw[this];simp[List.getD,hj]
 ·have c1:=ID _ _ (b.cell oB 0 oc);have c2:=ID _ _ (a.cell nJ 0 oc);have c3:=ID _ _ ((eG h).cell g10 0 oc);simp only at c1 c2 c3;omega
end
section
open Go.ChangeShapes Go.WideShapes Go.ChangeAt Go.RowKit Go.Deep
section
variable {H:Type} {enc:TypeId×Value->H} {P:Program} {w:Y} {base:Nat} {spare:Nat->Bool} {held:Bool}
end
end
section
open Go.RowKit
def D8(n:Nat):Prop:=n≠0/\n<=200
def BD(f:Nat->A3):Prop:=(f 0).parent=-1/\(f 0).key.toList=[]/\(f 0).count=0
def Z4(f:Nat->A3)(i:Nat):Prop:=0<=(f i).parent/\(f i).parent<i/\(f i).count=(f (f i).parent.toNat).count+1/\(f i).count<=12/\(f i).key.size<=4000
def BK(n:Nat)(f:Nat->A3):Prop:=∀i,1<=i->i<n->Z4 f i
def Twin(f:Nat->A3)(k i:Nat):Prop:=(f k).parent=(f i).parent/\(f k).key.toList=(f i).key.toList
def Gi(n:Nat)(f:Nat->A3):Prop:=∀i k,1<=k->k<i->i<n->¬Twin f k i
def iW(f:Nat->A3)(i:Nat):Nat->Int
 |0=>(f i).parent
 |t+1=>(f (iW f i t).toNat).parent
def JM(n:Nat)(f:Nat->A3):Prop:=∀i t,1<=i->i<n->(∀s,s<=t->0<iW f i s)->(f (iW f i t).toNat).key.toList≠(f i).key.toList
open Classical in
noncomputable def Ax(n:Nat)(f:Nat->A3):Int:=
 if D8 n then if BD f then if BK n f then if Gi n f then if JM n f then 0 else 5 else 4 else 3 else 2 else 1
theorem Wh(h:¬D8 n):Ax n f=1:=C3 h
theorem Wi(h1:D8 n)(h:¬BD f):Ax n f=2:=by unfold Ax;rw[DD h1,C3 h]
theorem Wj(h1:D8 n)(h2:BD f)(h:¬BK n f):Ax n f=3:=by unfold Ax;rw[DD h1,DD h2,C3 h]
theorem Wk(h1:D8 n)(h2:BD f)(h3:BK n f)(h:¬Gi n f):Ax n f=4:=by unfold Ax;rw[DD h1,DD h2,DD h3,C3 h]
theorem Wl(h1:D8 n)(h2:BD f)(h3:BK n f)(h4:Gi n f)(h:¬JM n f):Ax n f=5:=by unfold Ax;rw[DD h1,DD h2,DD h3,DD h4,C3 h]
theorem KR(h1:D8 n)(h2:BD f)(h3:BK n f)(h4:Gi n f)(h:JM n f):Ax n f=0:=by unfold Ax;rw[DD h1,DD h2,DD h3,DD h4,DD h]
theorem below_drewN{B:Nat}{a:Y}(h:Below B a w)(m:Nat):Below B a (w.drewN m):=⟨h.os,h.tape,h.output,h.size,h.block⟩
theorem Ba(h2:BD f)(h:∀j,1<=j->j<k->Z4 f j):∀j,j<k->0<=(f j).count/\(f j).count<=12:=by
 intro j
 induction j using Nat.strongRecOn with
 |ind j ih=>
  intro hj;by_cases e:j=0
  ·subst e;have:=h2.2.2;omega
  ·obtain⟨a,b,c,d,_⟩:=h j oa hj;have:=(ih (f j).parent.toNat oa oa).1;omega
end
section
open Go.RowKit
def DG(f:Nat->A3)(i:Nat):Nat->Nat
 |0=>i
 |t+1=>(f (DG f i t)).parent.toNat
def nf(f:Nat->A3)(i:Nat):Nat:=(f i).count.toNat
def Dr(f:Nat->A3)(i j:Nat):ByteArray:=(f (DG f i (nf f i-1-j))).key
theorem Gm(h2:BD f)(h3:BK n f){i:Nat}(hi:i<n)(e:0<i):1<=(f i).count/\(f i).count<=12:=by
 obtain⟨a,b,c,d,_⟩:=h3 i e hi;have:=(Ba (k:=n) h2 (fun j h1 h2=>h3 j h1 h2) (f i).parent.toNat oa).1;omega
theorem Ez(h2:BD f)(h3:BK n f){i:Nat}(hi:i<n):∀t,t<=nf f i->DG f i t<n/\(f (DG f i t)).count=nf f i-t:=by
 intro t
 induction t with
 |zero=>
  intro _;have:=(Ba (k:=n) h2 (fun j h1 h2=>h3 j h1 h2) i hi).1;exact⟨hi,by show(f i).count=_;unfold nf;omega⟩
 |succ t ih=>
  intro h;obtain⟨d,hc⟩:=ih oa;have g:0<DG f i t:=by
   rcases W0 (DG f i t)with e|e
   ·rw[e,h2.2.2]at hc;omega
   ·exact e
  obtain⟨a,b,c,_⟩:=h3 _ g d;exact⟨by show(f (DG f i t)).parent.toNat<n;omega,by show(f (f (DG f i t)).parent.toNat).count=_;omega⟩
theorem Vm:(Tryz.prog.info? 9).map (fun i=>(i.zero,i.size,i.bytes))=some (some (E9),1,16):=og
def dY(w:Y)(b n:Nat)(g:Nat->ByteArray):Prop:=w.rowIs b 9 n (fun j=>.string (g j))
theorem GK(b n cap i:Nat)(f:Nat->A3)(w:Y)(hA:Cl w b n f)(h1:D8 n)(h2:BD f)(h3:BK n f)(hi:i<n):
  C9 171 #[.agg #[S9 b n cap],J i] w fun e w'=>(∃m,e=.returned (S9 m (nf f i) (nf f i))/\w.heap.size<=m/\dY w' m (nf f i) (Dr f i))/\B9 w w':=by
 have hl:=hA.lt;have S:n<=200:=h1.2;obtain⟨T,U⟩:=Ba (k:=n) h2 (fun j h1 h2=>h3 j h1 h2) i hi;obtain⟨c,hc⟩:∃c:Nat,(f i).count=c:=⟨(f i).count.toNat,oa⟩;have u:nf f i=c:=by unfold nf;omega
 have Q:c<=12:=oa;have C:=run_make_row' (P:=Tryz.prog) 99 9 (E9) 16 Tryz.underlying99 Vm rfl .i64 .i64 c oa oa;obtain⟨a0,a1,a2⟩:=hA.cells hi;rw[hc]at a2;have V:=O hA;have D:=O h2;have E:=O h3;have v:=O u;clear hA h1 h2 h3 hc u
 go_enter Tryz.func171,Tryz.ntmps171
 go_wp2;clear a0 a1 a2 C;go_loopw [5,7] (fun q s wr=>∃(t:Nat) (g:Nat->Value),t<=c/\q=J ((c:Int)-t)/\s=J (DG f i t)/\B9 w wr/\wr.cell? (y w 0)=some (S9 b n cap)/\wr.rowIs (w.heap.size+1) 9 c g/\∀j,c-t<=j->j<c->g j=.string (Dr f i j)) (fun q s _=>(intOf s).toNat)
 case atStart=>exact⟨0,fun _=>E9,oa,od,rfl,(n9).alloc od _,by simp[go_sem],by simpa using World.rowIs_made (w.alloc (.cells #[S9 b n cap] 38)) (E9) c 9,fun j h1 h2=>oa⟩
 case round=>
  obtain⟨t,g,W,rfl,rfl,hb,x,a,d⟩:=hrel;obtain⟨l,o⟩:=Ez D E hi t (by rw[z v];exact W);rw[z v]at o;obtain⟨p,F⟩:∃p,DG f i t=p:=⟨_,rfl⟩;rw[F]at l o ⊢;have R:=O F;clear F;obtain⟨a0,a1,a2⟩:=(V.below hb hl).cells l;have X:=Ok a;by_cases H:p=0
  ·subst H;have A:c=t:=oj D.2.2;subst A;have I:=O hb;have K:=O a;have h:=O d;clear hb a d;go_wp2;go_ret;refine⟨⟨w.heap.size+1,by rw[z v];rfl,oa,?_⟩,I⟩;rw[z v];exact K.congr fun j hj=>h j oa hj
  ·have B:0<p:=oa;obtain⟨L,Z,_⟩:=z E p B l;have A:t<c:=oj (Gm D E l B).1;obtain⟨r,hr⟩:∃r:Nat,r+1=c-t:=⟨c-t-1,oa⟩;have er:(c:Int)-t=(r:Int)+1:=oa;rw[er];have M:r<c:=oa;have d0:=a.cell M;have d1:=a.frozen r;have HF:Hid (Dr f i r=(f p).key):=O (by unfold Dr;rw[z v,show c-1-r=t by omega,z R]);have I:=O hb;have K:=O a;have h:=O d;have HE:=O er;clear hb a d er o;go_wp2;go_roundw
   case rel=>
    refine⟨t+1,_,oa,by congr 1;omega,?_,I.setCell (by show _<=w.heap.size+1;omega) _,by simpa[go_sem]using x,K.set r _,fun j h1 h2=>?_⟩
    ·show Value.int .i64 (f p).parent=J ((f (DG f i t)).parent.toNat:Int);rw[z R,Int.toNat_of_nonneg L]
    ·by_cases e:j=r
     ·subst e;simp[z HF]
     ·simp only[e,Tn];exact h j oa h2
   case measure=>simp[intOf];omega
theorem AB(h:Ax n f=0):D8 n/\BD f/\BK n f/\Gi n f/\JM n f:=by
 unfold Ax at h
 split at h
 ·split at h
  ·split at h
   ·split at h
    ·split at h
     ·rename_i h1 h2 h3 h4 h5;exact⟨h1,h2,h3,h4,h5⟩
     ·omega
    ·omega
   ·omega
  ·omega
 ·omega
end
section
open Go.RowKit
open Go.Maps (Keyed)
def iM(v:V9):Option (DataW Value×List MemPlace):=some (.held v,[])
def CR(P:Program)(K:TypeId)(w:Y)(m n:Nat)(g:Value->Value):Prop:=
 ∃D,w.ownsMap P K iM m n D/\∀key a,keyOf P K key=some a->D.atKey a (.held (.pointer none))=.held (g key)
theorem CR.made(P:Program)(K:TypeId)(w:Y):CR P K (w.alloc (.map #[] 0)) w.heap.size 0 (fun _=>.pointer none):=
 ⟨_,World.ownsMap_made w P K iM,fun key a h=>rfl⟩
theorem CR.isMap(h:CR P K w m n g):∃es c,w.heap[m]?=some (.map es c):=by
 obtain⟨D,⟨es,c,hb,_⟩,_⟩:=h;exact⟨es,c,hb⟩
theorem CR.block(h:CR P K w m n g)(e:w'.heap[m]?=w.heap[m]?):CR P K w' m n g:=by
 obtain⟨D,⟨es,c,hb,F,hs,hD⟩,hl⟩:=h;exact⟨D,⟨es,c,e.trans hb,F,hs,hD⟩,hl⟩
theorem CR.mono{n':Nat}(h:CR P K w m n g)(hn:n<=n'):CR P K w m n' g:=by
 obtain⟨D,a,hl⟩:=h;exact⟨D,a.mono hn,hl⟩
theorem CR.look{e:TypeId}(h:CR P K w m n g)(L:Keyed P K)(d:P.underlying t=some (.map K e))(hz:(zeroValue e).run P w=.ok (.pointer none) w){key:V9}{c:Lit}(hk:keyOf P K key=some c):
  (Instr.lookup t (.map (some m)) key false).run P w=.ok (g key) w:=by
 obtain⟨D,f,hl⟩:=h;obtain⟨v,ps,a,b⟩:=f.lookup L d hz (zd:=.held (.pointer none)) (zp:=[]) rfl hk;rw[hl key c hk]at b;unfold iM at b;simp at b;rw[a,b.1]
open Classical in
theorem CR.put{e:TypeId}(h:CR P K w m n g)(L:Keyed P K)(l:P.underlying t=some (.map K e))(hn:n<maxLen){key:V9}(val:V9){i:Lit}(hk:keyOf P K key=some i):
  ∃w',(Instr.mapUpdate t (.map (some m)) key val).run P w=.ok () w'/\CR P K w' m (n+1) (fun k=>if k=key then val else g k)/\w.grownBy w' (some m):=by
 obtain⟨D,j,hl⟩:=h;obtain⟨w',b,f,o⟩:=j.update L l hn hk (val:=val) (d:=.held val) (ps:=[]) rfl;refine⟨w',b,⟨_,f,fun k' c a=>?_⟩,o⟩;by_cases e:k'=key
 ·subst e;have:c=i:=by rw[hk]at a;exact(Aap a).symm
  subst this;show _=DataW.held (if k'=k' then val else g k');rw[DD rfl];exact Maps.atKey_put_same j.isMap (L.key hk) _ _
 ·show _=DataW.held (if k'=key then val else g k');rw[C3 e,Maps.atKey_put_other (fun e2=>e (L.inj a (by rw[e2];exact hk)))];exact hl k' c a
def BS(i:Nat)(s:A3)(par:T9)(m:Option Nat):Nat->Value
 |0=>J i
 |1=>J s.parent
 |2=>.string s.key
 |3=>J s.count
 |4=>.pointer par
 |_=>.map m
abbrev Jl(s:A3):Value:=Sh s.parent s.key s.count
abbrev Az(f:Nat->A3)(i:Nat):Nat:=(f i).parent.toNat
theorem Qa{a b:A3}(h:Jl a=Jl b):a=b:=by
 cases a;cases b;simp at h;simp[h]
def Kids(f:Nat->A3)(k:Nat)(B Z:Nat->Nat)(i:Nat)(g:Value->Value):Prop:=
 ∀v,(∃j,0<j/\j<k/\Z j=j/\Z (Az f j)=i/\v=Jl (f j)/\g v=Q9 (B j))\/
  (g v=.pointer none/\∀j,0<j->j<k->Z j=j->Z (Az f j)=i->Jl (f j)≠v)
def CO(f:Nat->A3)(B:Nat->Nat)(i:Nat):Option Addr:=if i=0 then none else some (G (B (Az f i)) 0)
structure Nodes (P:Program) (K a:TypeId) (w:Y) (f:Nat->A3) (b0 k:Nat) (B N:Nat->Nat) (M:Nat->Option Nat):Prop where
 pos:0<k
 n0:N 0=0
 le:∀i,i<k->N i<=i
 own:∀i,i<k->N (N i)=N i
 same:∀i,i<k->f (N i)=f i
 one:∀i j,i<k->j<k->f i=f j->N i=N j
 BB:∀i,i<k->B (N i)=B i
 base:∀i,i<k->b0<=B i
 node:∀i,i<k->N i=i->w.rowIs (B i) a 6 (BS i (f i) (CO f B i) (M i))
 apart:∀i j,i<k->j<k->N i=i->N j=j->B i=B j->i=j
 mbase:∀i m,i<k->N i=i->M i=some m->b0<=m
 K0:∀i j m,i<k->j<k->N i=i->N j=j->M i=some m->M j=some m->i=j
 bare:∀i,i<k->N i=i->M i=none->∀j,0<j->j<k->N j=j->N (Az f j)≠i
 kids:∀i m,i<k->N i=i->M i=some m->∃g,CR P K w m k g/\Kids f k B N i g
def D7(a:TypeId)(w:Y)(b:Nat):Prop:=(∃c,w.heap[b]?=some (.cells c a (0,0)))\/∃es c,w.heap[b]?=some (.map es c)
theorem Nodes.keep{a:TypeId}(h:Nodes P K a w f b0 k B Z M)(hk:∀b,D7 a w b->w'.heap[b]?=w.heap[b]?):Nodes P K a w' f b0 k B Z M:=
 {h with
  node:=fun i hi hn=>(h.node i hi hn).of_block (hk _ (by obtain⟨c,hb,_⟩:=h.node i hi hn;exact .inl ⟨c,hb⟩))
  kids:=fun i m hi hn e=>by
   obtain⟨g,d,hK⟩:=h.kids i m hi hn e;exact⟨g,d.block (hk _ (.inr d.isMap)),hK⟩}
structure Grown (a:TypeId) (b0:Nat) (w w':Y):Prop where
 os:w'.os=w.os
 tape:w'.tape=w.tape
 output:w'.output=w.output
 size:w.heap.size<=w'.heap.size
 block:∀b,b<w.heap.size->b<b0\/¬D7 a w b->w'.heap[b]?=w.heap[b]?
theorem Nodes.found{p:TypeId}(h:Nodes P K p w f b0 k B Z M){j:Nat}(hj:j<k)(u:Az f k<k)(c:Z j=j)(hs:f j=f k)
  (a:∀i,0<i->i<k->Az f i<i):
  Nodes P K p w f b0 (k+1) (fun i=>if i=k then B j else B i) (fun i=>if i=k then j else Z i) M:=by
 have o:∀i,i<k->(if i=k then B j else B i)=B i:=fun i hi=>C3 oa;have d:∀i,i<k->(if i=k then j else Z i)=Z i:=fun i hi=>C3 oa;have DZ:∀i,i<k+1->(if i=k then j else Z i)=i->i<k/\Z i=i:=fun i hi e=>by
  by_cases e2:i=k
  ·rw[DD e2]at e;omega
  ·rw[C3 e2]at e;exact⟨oa,e⟩
 have n:∀i,i<k->CO f (fun i=>if i=k then B j else B i) i=CO f B i:=fun i hi=>by
  unfold CO;by_cases e:i=0
  ·simp[e]
  ·have:=a i oa hi;simp only[e,Tn];rw[C3 oa]
 constructor
 ·exact Nat.succ_pos _
 ·show(if 0=k then j else Z 0)=0;rw[d 0 h.pos];exact h.n0
 ·intro i hi;show(if i=k then j else Z i)<=i
  split
  ·omega
  ·exact h.le i oa
 ·intro i hi;show(if(if i=k then j else Z i)=k then j else Z (if i=k then j else Z i))=(if i=k then j else Z i);by_cases e:i=k
  ·rw[DD e,C3 oa];exact c
  ·rw[C3 e,C3 (oj (h.le i oa))];exact h.own i oa
 ·intro i hi;show f (if i=k then j else Z i)=f i;by_cases e:i=k
  ·rw[DD e,e];exact hs
  ·rw[C3 e];exact h.same i oa
 ·intro i l hi hl e;show(if i=k then j else Z i)=(if l=k then j else Z l);by_cases e1:i=k
  ·by_cases e2:l=k
   ·rw[DD e1,DD e2]
   ·rw[DD e1,C3 e2,<-c];exact h.one _ _ hj oa (by rw[hs,<-e1];exact e)
  ·by_cases e2:l=k
   ·rw[C3 e1,DD e2,<-c];exact h.one _ _ oa hj (by rw[hs,<-e2];exact e)
   ·rw[C3 e1,C3 e2];exact h.one _ _ oa oa e
 ·intro i hi;show(if(if i=k then j else Z i)=k then B j else B (if i=k then j else Z i))=(if i=k then B j else B i);by_cases e:i=k
  ·rw[DD e,C3 oa,DD e]
  ·rw[C3 e,C3 (oj (h.le i oa)),C3 e];exact h.BB i oa
 ·intro i hi;show b0<=(if i=k then B j else B i)
  split
  ·exact h.base j hj
  ·exact h.base i oa
 ·intro i hi hn;obtain⟨h1,h2⟩:=DZ i hi hn;show w.rowIs (if i=k then B j else B i) p 6 _;rw[n i h1,o i h1];exact h.node i h1 h2
 ·intro i l hi hl hn b e;obtain⟨h1,h2⟩:=DZ i hi hn;obtain⟨h3,h4⟩:=DZ l hl b;have e:(if i=k then B j else B i)=(if l=k then B j else B l):=e;rw[o i h1,o l h3]at e;exact h.apart i l h1 h3 h2 h4 e
 ·intro i m hi hn b;obtain⟨h1,h2⟩:=DZ i hi hn;exact h.mbase i m h1 h2 b
 ·intro i l m hi hl hn b e1 e2;obtain⟨h1,h2⟩:=DZ i hi hn;obtain⟨h3,h4⟩:=DZ l hl b;exact h.K0 i l m h1 h3 h2 h4 e1 e2
 ·intro i hi hn b l r hl q;obtain⟨h1,h2⟩:=DZ i hi hn;obtain⟨h3,h4⟩:=DZ l hl q;show(if Az f l=k then j else Z (Az f l))≠i;have:=a l r h3;rw[d _ oa];exact h.bare i h1 h2 b l r h3 h4
 ·intro i m hi hn b;obtain⟨h1,h2⟩:=DZ i hi hn;obtain⟨g,s,hK⟩:=h.kids i m h1 h2 b;refine⟨g,s.mono (Nat.le_succ _),fun v=>?_⟩;rcases hK v with⟨l,a1,a2,a3,a4,a5,t⟩|⟨a1,a2⟩
  ·have:=a l a1 a2;exact .inl ⟨l,a1,oa,by show(if l=k then j else Z l)=l;rw[d l a2];exact a3,by show(if Az f l=k then j else Z (Az f l))=i;rw[d _ oa];exact a4,a5,by show _=Value.pointer (some (G (if l=k then B j else B l) 0));rw[o l a2];exact t⟩
  ·refine .inr ⟨a1,fun l b1 b2 b3 b4=>?_⟩;obtain⟨h3,h4⟩:=DZ l b2 b3;have:=a l b1 h3;have b4:(if Az f l=k then j else Z (Az f l))=i:=b4;rw[d _ oa]at b4;exact a2 l b1 h3 h4 b4
open Classical in
theorem Nodes.fresh(h:Nodes P K t w f b0 k B Z M)(u:Az f k<k)
  (n:∀i,0<i->i<k->Az f i<i) (A:∀j,j<k->f j≠f k) {a r mm:Nat} {g:Value->Value} (q:a=Z (Az f k))
  (U:w'.rowIs (B a) t 6 (BS a (f a) (CO f B a) (some mm)))
  (ro:∀i,i<k->Z i=i->i≠a->w'.heap[B i]?=w.heap[B i]?)
  (H:∀i m,i<k->Z i=i->i≠a->M i=some m->w'.heap[m]?=w.heap[m]?/\m≠mm)
  (rn:w'.rowIs r t 6 (BS k (f k) (some (G (B (Az f k)) 0)) none))
  (V:b0<=r) (C:∀i,i<k->B i≠r) (I:b0<=mm) (hK:Kids f k B Z a g)
  (W:CR P K w' mm (k+1) (fun v=>if v=Jl (f k)then Q9 r else g v)):
  Nodes P K t w' f b0 (k+1) (fun i=>if i=k then r else B i) (fun i=>if i=k then k else Z i) (fun i=>if i=k then none else if i=a then some mm else M i):=by
 have ad:a<k:=by rw[q];exact Aao (h.le _ u) u
 have ae:Z a=a:=by rw[q];exact h.own _ u
 have L:=h.pos;have s:∀i,i<k->(if i=k then r else B i)=B i:=fun i hi=>C3 oa;have o:∀i,i<k->(if i=k then k else Z i)=Z i:=fun i hi=>C3 oa;have p:∀i,i<k->i≠a->(if i=k then none else if i=a then some mm else M i)=M i:=fun i hi q=>by rw[C3 oa,C3 q]
 have c:(if a=k then none else if a=a then some mm else M a)=some mm:=by rw[C3 oa,DD rfl]
 have DZ:∀i,i<k+1->(if i=k then k else Z i)=i->i=k\/i<k/\Z i=i:=fun i hi e=>by
  by_cases e2:i=k
  ·exact .inl e2
  ·rw[C3 e2]at e;exact .inr ⟨oa,e⟩
 have D:∀i,i<k->CO f (fun i=>if i=k then r else B i) i=CO f B i:=fun i hi=>by
  unfold CO;by_cases e:i=0
  ·simp[e]
  ·have:=n i oa hi;simp only[e,Tn];rw[C3 oa]
 have d:∀i,0<i->i<k+1->Az f i<k:=fun i F hi=>by
  by_cases e:i=k
  ·rw[e];exact u
  ·have:=n i F oa;omega
 constructor
 ·exact Nat.succ_pos _
 ·show(if 0=k then k else Z 0)=0;rw[o 0 h.pos];exact h.n0
 ·intro i hi;show(if i=k then k else Z i)<=i
  split
  ·omega
  ·exact h.le i oa
 ·intro i hi;show(if(if i=k then k else Z i)=k then k else Z (if i=k then k else Z i))=(if i=k then k else Z i);by_cases e:i=k
  ·rw[DD e,DD rfl]
  ·rw[C3 e,C3 (oj (h.le i oa))];exact h.own i oa
 ·intro i hi;show f (if i=k then k else Z i)=f i;by_cases e:i=k
  ·rw[DD e,e]
  ·rw[C3 e];exact h.same i oa
 ·intro i l hi hl e;show(if i=k then k else Z i)=(if l=k then k else Z l);by_cases e1:i=k
  ·by_cases e2:l=k
   ·rw[DD e1,DD e2]
   ·exact absurd (by rw[<-e1];exact e.symm) (A l oa)
  ·by_cases e2:l=k
   ·exact absurd (by rw[<-e2];exact e) (A i oa)
   ·rw[C3 e1,C3 e2];exact h.one _ _ oa oa e
 ·intro i hi;show(if(if i=k then k else Z i)=k then r else B (if i=k then k else Z i))=(if i=k then r else B i);by_cases e:i=k
  ·rw[DD e,DD rfl,DD e]
  ·rw[C3 e,C3 (oj (h.le i oa)),C3 e];exact h.BB i oa
 ·intro i hi;show b0<=(if i=k then r else B i)
  split
  ·exact V
  ·exact h.base i oa
 ·intro i hi hn;show w'.rowIs (if i=k then r else B i) t 6 (BS i (f i) (CO f (fun i=>if i=k then r else B i) i) (if i=k then none else if i=a then some mm else M i));rcases DZ i hi hn with h1|⟨h1,h2⟩
  ·rw[DD h1,DD h1,h1];have:CO f (fun i=>if i=k then r else B i) k=some (G (B (Az f k)) 0):=by
    unfold CO;rw[C3 oa];show some ((G (if Az f k=k then r else B (Az f k)) 0):Addr)=_;rw[C3 oa]
   rw[this];exact rn
  ·rw[D i h1,s i h1];by_cases e:i=a
   ·rw[e,c];exact U
   ·rw[p i h1 e];exact(h.node i h1 h2).of_block (ro i h1 h2 e)
 ·intro i l hi hl hn b e;have e:(if i=k then r else B i)=(if l=k then r else B l):=e;rcases DZ i hi hn with h1|⟨h1,h2⟩
  ·rcases DZ l hl b with h3|⟨h3,h4⟩
   ·omega
   ·rw[DD h1,s l h3]at e;exact absurd e.symm (C l h3)
  ·rcases DZ l hl b with h3|⟨h3,h4⟩
   ·rw[DD h3,s i h1]at e;exact absurd e (C i h1)
   ·rw[s i h1,s l h3]at e;exact h.apart i l h1 h3 h2 h4 e
 ·intro i m hi hn b;have b:(if i=k then none else if i=a then some mm else M i)=some m:=b;rcases DZ i hi hn with h1|⟨h1,h2⟩
  ·rw[DD h1]at b;cases b
  ·by_cases e:i=a
   ·rw[e,c]at b;cases b;exact I
   ·rw[p i h1 e]at b;exact h.mbase i m h1 h2 b
 ·intro i l m hi hl hn b e1 e2;have e1:(if i=k then none else if i=a then some mm else M i)=some m:=e1;have e2:(if l=k then none else if l=a then some mm else M l)=some m:=e2;rcases DZ i hi hn with h1|⟨h1,h2⟩
  ·rw[DD h1]at e1;cases e1
  ·rcases DZ l hl b with h3|⟨h3,h4⟩
   ·rw[DD h3]at e2;cases e2
   ·by_cases x:i=a
    ·by_cases X:l=a
     ·omega
     ·rw[x,c]at e1;cases e1;rw[p l h3 X]at e2;exact absurd rfl (H l _ h3 h4 X e2).2
    ·by_cases X:l=a
     ·rw[X,c]at e2;cases e2;rw[p i h1 x]at e1;exact absurd rfl (H i _ h1 h2 x e1).2
     ·rw[p i h1 x]at e1;rw[p l h3 X]at e2;exact h.K0 i l m h1 h3 h2 h4 e1 e2
 ·intro i hi hn b l F hl Q;have b:(if i=k then none else if i=a then some mm else M i)=none:=b;show(if Az f l=k then k else Z (Az f l))≠i;have E:=d l F hl;rw[o _ E];rcases DZ i hi hn with h1|⟨h1,h2⟩
  ·have:=h.le _ E;omega
  ·have x:i≠a:=fun x=>by rw[x,c]at b;cases b
   rw[p i h1 x]at b;rcases DZ l hl Q with h3|⟨h3,h4⟩
   ·rw[h3,<-q];exact fun e=>x e.symm
   ·exact h.bare i h1 h2 b l F h3 h4
 ·intro i m hi hn b;have b:(if i=k then none else if i=a then some mm else M i)=some m:=b;rcases DZ i hi hn with h1|⟨h1,h2⟩
  ·rw[DD h1]at b;cases b
  ·by_cases x:i=a
   ·rw[x,c]at b;cases b;refine⟨_,W,fun v=>?_⟩;show(∃j,0<j/\j<k+1/\(if j=k then k else Z j)=j/\(if Az f j=k then k else Z (Az f j))=i/\v=Jl (f j)/\(if v=Jl (f k)then Value.pointer (some (G r 0))else g v)=Q9 (if j=k then r else B j))\/((if v=Jl (f k)then Value.pointer (some (G r 0))else g v)=.pointer none/\∀j,0<j->j<k+1->(if j=k then k else Z j)=j->(if Az f j=k then k else Z (Az f j))=i->Jl (f j)≠v);by_cases e:v=Jl (f k)
    ·refine .inl ⟨k,L,oa,by rw[DD rfl],by rw[o _ u,<-q,x],e,by rw[DD e,DD rfl]⟩
    ·rw[C3 e];rcases hK v with⟨l,a1,a2,a3,a4,a5,R⟩|⟨a1,a2⟩
     ·have:=n l a1 a2;exact .inl ⟨l,a1,oa,by rw[o l a2];exact a3,by rw[o _ oa,x];exact a4,a5,by rw[s l a2];exact R⟩
     ·refine .inr ⟨a1,fun l b1 b2 b3 b4=>?_⟩;rw[o _ (d l b1 b2)]at b4;rcases DZ l b2 b3 with h3|⟨h3,h4⟩
      ·rw[h3];exact fun e2=>e e2.symm
      ·exact a2 l b1 h3 h4 (by rw[b4,x])
   ·rw[p i h1 x]at b;obtain⟨g1,S,T⟩:=h.kids i m h1 h2 b;refine⟨g1,(S.block (H i m h1 h2 x b).1).mono (Nat.le_succ _),fun v=>?_⟩;rcases T v with⟨l,a1,a2,a3,a4,a5,R⟩|⟨a1,a2⟩
    ·have:=n l a1 a2;exact .inl ⟨l,a1,oa,by show(if l=k then k else Z l)=l;rw[o l a2];exact a3,by show(if Az f l=k then k else Z (Az f l))=i;rw[o _ oa];exact a4,a5,by show _=Value.pointer (some (G (if l=k then r else B l) 0));rw[s l a2];exact R⟩
    ·refine .inr ⟨a1,fun l b1 b2 b3 b4=>?_⟩;have b4:(if Az f l=k then k else Z (Az f l))=i:=b4;rw[o _ (d l b1 b2)]at b4;rcases DZ l b2 b3 with h3|⟨h3,h4⟩
     ·rw[h3,<-q]at b4;exact absurd b4.symm x
     ·exact a2 l b1 h3 h4 b4
end
section
open Go.RowKit
open Go.Maps (Keyed)
theorem YO:laidOutB Tryz.prog=true:=og
theorem Zq:205<Tryz.prog.types.size:=of_decide_eq_true og
theorem Zy:Tryz.prog.keyTypeAt 2 205=true:=og
theorem NZ:Keyed Tryz.prog 205:=Keyed.of_law (deep_law_laid YO (m:=2) oa Zq Zy (by rw[Tryz.underlying205]))
theorem Tr(w:Y):(zeroValue 163).run Tryz.prog w=.ok (.pointer none) w:=og
theorem YH{k ti ts:TypeId}{fs:Array Field}{f0 f1 f2:Field}(hu:P.underlying k=some (.struct fs))(a:fs=#[f0,f1,f2])(hi:P.underlying ti=some (.int .i64))(hs:P.underlying ts=some .string)
  (hc:P.cellsOf k=3) (b:P.cellsOf ti=1) (hcs:P.cellsOf ts=1) (t0:f0.type=ti) (t1:f1.type=ts) (t2:f2.type=ti) (o0:f0.offset=0) (o1:f1.offset=1) (o2:f2.offset=2)
  (n0:f0.name != "_") (c:f1.name != "_") (d:f2.name != "_") (s:A3) (h1:(Lit.int .i64 s.parent).wf=true) (h2:s.key.size<=maxLen) (h3:(Lit.int .i64 s.count).wf=true) (n:Nat):
  P.keyLits (n+2) k [.int .i64 s.parent,.string s.key,.int .i64 s.count]=some [.int .i64 s.parent,.string s.key.data.toList,.int .i64 s.count]:=by
 subst a;have a0:P.keyLits (n+1) ti [.int .i64 s.parent]=some [.int .i64 s.parent]:=by unfold Program.keyLits;simp[hi,h1]
 have a1:P.keyLits (n+1) ts [.string s.key]=some [.string s.key.data.toList]:=by unfold Program.keyLits;simp[hs,h2]
 have a2:P.keyLits (n+1) ti [.int .i64 s.count]=some [.int .i64 s.count]:=by unfold Program.keyLits;simp[hi,h3]
 have m0:f0.name≠ "_" :=by simpa using n0
 have m1:f1.name≠ "_" :=by simpa using c
 have m2:f2.name≠ "_" :=by simpa using d
 rw[Program.keyLits.eq_def];simp[hu,hc,t0,t1,t2,o0,o1,o2,b,hcs,a0,a1,a2,m0,m1,m2]
theorem MT:Tryz.prog.cellsOf 205=3:=og
theorem X5:Tryz.prog.cellsOf 3=1:=og
theorem X6:Tryz.prog.cellsOf 9=1:=og
theorem UC:Tryz.prog.keyType 205=true:=og
theorem Nj(s:A3)(h1:(Lit.int .i64 s.parent).wf=true)(h2:s.key.size<=maxLen)(h3:(Lit.int .i64 s.count).wf=true):∃b,keyOf Tryz.prog 205 (Jl s)=some b:=by
 have hn:1<Tryz.prog.types.size:=of_decide_eq_true og;obtain⟨n,hn⟩:∃n,Tryz.prog.types.size+1=n+2:=⟨Tryz.prog.types.size-1,oa⟩;have hf:(Jl s).formed Tryz.prog 205=true:=by simp[Value.formed,Tryz.underlying205,MT]
 have hl:=YH Tryz.underlying205 rfl Tryz.underlying3 Tryz.underlying9 MT X5 X6 rfl rfl rfl rfl rfl rfl rfl rfl rfl s h1 h2 h3 n;rw[<-hn]at hl;have a:(Jl s).cells.toList=[.int .i64 s.parent,.string s.key,.int .i64 s.count]:=rfl;unfold keyOf;rw[Tryz.underlying205];simp only[UC,hf,Bool.and_self,Aaw];rw[a,hl];exact⟨_,rfl⟩
abbrev Cn(w:Y)(f:Nat->A3)(b0 k:Nat)(B Z:Nat->Nat)(M:Nat->Option Nat):Prop:=Nodes Tryz.prog 205 208 w f b0 k B Z M
abbrev P4(b0:Nat)(w w':Y):Prop:=Grown 208 b0 w w'
theorem Lz{a c:Y}(h:a.grownBy c row)(n:Nat):a.grownBy (c.drewN n) row:=⟨h.os,h.tape,h.output,h.size,h.block⟩
theorem Nt(h:CR Tryz.prog 205 w m n g){s:A3}(h1:(Lit.int .i64 s.parent).wf=true)(h2:s.key.size<=maxLen)(h3:(Lit.int .i64 s.count).wf=true):
  ∀q,(Instr.lookup 206 (.map (some m)) (Jl s) false).run Tryz.prog (w.drewN q)=.ok (g (Jl s)) (w.drewN q):=by
 intro q;obtain⟨b,a⟩:=Nj s h1 h2 h3;exact(h.block (w':=w.drewN q) rfl).look NZ Tryz.underlying206 (Tr _) a
theorem Pz{s:A3}(h1:(Lit.int .i64 s.parent).wf=true)(h2:s.key.size<=maxLen)(h3:(Lit.int .i64 s.count).wf=true):
  ∀q,(Instr.lookup 206 (.map none) (Jl s) false).run Tryz.prog (w.drewN q)=.ok (.pointer none) (w.drewN q):=by
 intro q;obtain⟨b,a⟩:=Nj s h1 h2 h3;simpa using Maps.look_nil (w:=w.drewN q) false NZ Tryz.underlying206 (Tr _) a
theorem QI(w:Y)(r e j:Nat)(m:Nat)(g:Value->Value)(n:Nat)(s:A3)(num:Nat)(k:A3)(par:T9)(l:Nat)
  (a:w.rowIs e 208 6 (BS l k par (some m))) (b:CR Tryz.prog 205 w m n g) (h:g (Jl s)=Q9 r)
  (h1:(Lit.int .i64 s.parent).wf=true) (h2:s.key.size<=maxLen) (h3:(Lit.int .i64 s.count).wf=true):
  C9 223 #[Q9 e,Jl s,.int .i64 num] w (R9 (Q9 r) w):=by
 have hl:=Ok a;have d:=b.block (w':=w.alloc (.cells #[.int .i64 s.parent,.string s.key,.int .i64 s.count] 205)) (by obtain⟨es,c,o⟩:=b.isMap;exact DO _ _ _ (GC.1 o).1);have f:=Nt d h1 h2 h3;rw[h]at f;have c5:w.cell? (G e 5)=some (.map (some m)):=a.cell (i:=5) oa;clear b d a h h1 h2 h3
 go_enter Tryz.func223,Tryz.ntmps223
 go_wp2
 go_quiet (fail)
 go_wp2;go_ret;exact⟨rfl,below_drewN ((Cs _ _).alloc (Be _) _) _⟩
open Classical in
theorem VB(h:CR Tryz.prog 205 w m n g)(hn:n<=1000){s:A3}(h1:(Lit.int .i64 s.parent).wf=true)(h2:s.key.size<=maxLen)(h3:(Lit.int .i64 s.count).wf=true)(v:V9):
  ∃w',(Instr.mapUpdate 206 (.map (some m)) (Jl s) v).run Tryz.prog w=.ok () w'/\CR Tryz.prog 205 w' m (n+1) (fun k=>if k=Jl s then v else g k)/\w.grownBy w' (some m):=by
 obtain⟨b,a⟩:=Nj s h1 h2 h3;exact h.put NZ Tryz.underlying206 (by unfold maxLen;omega) v a
open Classical in
theorem Sb(w:Y)(l:Nat)(m:Nat)(g:Value->Value)(n:Nat)(s:A3)(num:Nat)(E:A3)(par:T9)(F:Nat)(hn:n<=1000)
  (f:w.rowIs l 208 6 (BS F E par (some m))) (h:CR Tryz.prog 205 w m n g) (A:g (Jl s)=.pointer none)
  (h1:(Lit.int .i64 s.parent).wf=true) (h2:s.key.size<=maxLen) (h3:(Lit.int .i64 s.count).wf=true):
  C9 223 #[Q9 l,Jl s,.int .i64 num] w fun e w'=>∃r,e=.returned (Q9 r)/\w.heap.size<=r/\w'.rowIs r 208 6 (BS num s (some (G l 0)) none)/\
   CR Tryz.prog 205 w' m (n+1) (fun k=>if k=Jl s then Q9 r else g k)/\w.grownBy w' (some m):=by
 have hl:=Ok f;obtain⟨es,Q,B⟩:=h.isMap;have p:m<w.heap.size:=(GC.1 B).1;have b:=h.block (w':=w.alloc (.cells #[.int .i64 s.parent,.string s.key,.int .i64 s.count] 205)) (DO _ _ _ p);have q:=Nt b h1 h2 h3;rw[A]at q;have c5:w.cell? (G l 5)=some (.map (some m)):=f.cell (i:=5) oa;have C:=O b;have H:=O h1;have I:=O h2;have K:=O h3;have R:∀(w:Y),(binOp .eql 206 (.map (some m)) (.map none)).run Tryz.prog w=.ok (.bool false) w:=fun w=>run_eql_map_nil w _ _ _ (some m) Tryz.underlying206;clear h b f A h1 h2 h3 B
 go_enter Tryz.func223,Tryz.ntmps223
 go_wp2
 go_quiet (fail)
 go_wp2;obtain⟨d,a⟩:∃d,d=((w.alloc (.cells #[.int .i64 s.parent,.string s.key,.int .i64 s.count] 205)).drewN nq).alloc (.cells #[.int .i64 num,.int .i64 s.parent,.string s.key,.int .i64 s.count,Q9 l,.map none] 208):=⟨_,rfl⟩;rw[<-a];have L:d.heap.size=w.heap.size+2:=by rw[a];simp
 have o:w.grownBy d none:=by rw[a];exact(Lz (AaS w _ none) nq).trans (AaS _ _ none)
 have d5:d.cell? (G l 5)=some (.map (some m)):=by rw[<-c5];exact As (o.block l hl od)
 obtain⟨x0,x1,x2⟩:d.cell? (y w 0)=some (.int .i64 s.parent)/\d.cell? (y w 1)=some (.string s.key)/\d.cell? (y w 2)=some (.int .i64 s.count):=by rw[a];simp[go_sem]
 have t:d.rowIs (w.heap.size+1) 208 6 (BS num s (some (G l 0)) none):=by
  have:=Aaz ((w.alloc (.cells #[.int .i64 s.parent,.string s.key,.int .i64 s.count] 205)).drewN nq) #[.int .i64 num,.int .i64 s.parent,.string s.key,.int .i64 s.count,Q9 l,.map none] 208 (BS num s (some (G l 0)) none) (fun i hi=>by
   have:i<6:=hi
   match i,this with
   |0,_=>rfl
   |1,_=>rfl
   |2,_=>rfl
   |3,_=>rfl
   |4,_=>rfl
   |5,_=>rfl)
  rw[a];simpa using this
 have u:CR Tryz.prog 205 d.drew m n g:=C.block (by
  show d.heap[m]?=_;rw[o.block m p od];exact(DO _ _ _ p).symm)
 obtain⟨w2,D,j,v⟩:=VB u hn H I K (Q9 (w.heap.size+1));have M:=O (o.but (some m));have c:=O v;have x:=O j;have P:=O t;clear a o t u j v C q
 go_region
 go_wp2;go_ret;refine⟨w.heap.size+1,rfl,oa,P.of_block (c.block _ (by show _<d.heap.size;omega) oe),x,M.trans ?_⟩;exact⟨c.os,c.tape,c.output,c.size,c.block⟩
theorem kK(w:Y)(num:Nat)(s:A3)(par:T9):(w.alloc (.cells #[J num,J s.parent,.string s.key,J s.count,.pointer par,.map none] 208)).rowIs w.heap.size 208 6 (BS num s par none):=
 Aaz w _ 208 _ (fun i hi=>by
   have:i<6:=hi
   match i,this with
   |0,_=>rfl
   |1,_=>rfl
   |2,_=>rfl
   |3,_=>rfl
   |4,_=>rfl
   |5,_=>rfl)
theorem QT(num:Nat)(s:A3)(par:T9)(o m:Option Nat)(i:Nat)(hi:i<6):(if i=5 then Value.map m else BS num s par o i)=BS num s par m i:=by
 match i,hi with
 |0,_=>rfl
 |1,_=>rfl
 |2,_=>rfl
 |3,_=>rfl
 |4,_=>rfl
 |5,_=>rfl
open Classical in
theorem QH(w:Y)(b:Nat)(s:A3)(num:Nat)(q:A3)(par:T9)(t:Nat)
  (c:w.rowIs b 208 6 (BS t q par none))
  (h1:(Lit.int .i64 s.parent).wf=true) (h2:s.key.size<=maxLen) (h3:(Lit.int .i64 s.count).wf=true):
  C9 223 #[Q9 b,Jl s,.int .i64 num] w fun e w'=>∃r mm,e=.returned (Q9 r)/\w.heap.size<=r/\w.heap.size<=mm/\w'.rowIs r 208 6 (BS num s (some (G b 0)) none)/\
   w'.rowIs b 208 6 (BS t q par (some mm))/\
   CR Tryz.prog 205 w' mm 1 (fun k=>if k=Jl s then Q9 r else .pointer none)/\w.grownBy w' (some b):=by
 have hl:=Ok c;have u:=Pz (w:=w.alloc (.cells #[.int .i64 s.parent,.string s.key,.int .i64 s.count] 205)) h1 h2 h3;have c5:w.cell? (G b 5)=some (.map none):=c.cell (i:=5) oa;have f5:w.frozen? (G b 5)=false:=c.frozen 5;have H:=@run_makeMap Tryz.prog;have B:=O c;have I:=O h1;have K:=O h2;have L:=O h3;have R:∀(w:Y),(binOp .eql 206 (.map none) (.map none)).run Tryz.prog w=.ok (.bool true) w:=fun w=>run_eql_map_nil w _ _ _ none Tryz.underlying206;clear c h1 h2 h3
 go_enter Tryz.func223,Tryz.ntmps223
 go_wp2
 go_quiet (fail)
 go_wp2;obtain⟨f,a⟩:∃f,f=((((w.alloc (.cells #[.int .i64 s.parent,.string s.key,.int .i64 s.count] 205)).drewN nq).setCell (G b 5) (.map (some (w.heap.size+1)))).alloc (.map #[] 0)).alloc (.cells #[.int .i64 num,.int .i64 s.parent,.string s.key,.int .i64 s.count,Q9 b,.map none] 208):=⟨_,rfl⟩;rw[<-a];have M:f.heap.size=w.heap.size+3:=by rw[a];simp
 have l:w.grownBy ((w.alloc (.cells #[.int .i64 s.parent,.string s.key,.int .i64 s.count] 205)).drewN nq) none:=Lz (AaS w _ none) nq;have C:=B.of_block (l.block b hl od);have D:=(C.set 5 (.map (some (w.heap.size+1)))).congr (fun i hi=>QT t q par none (some (w.heap.size+1)) i hi);have gb:w.grownBy (((w.alloc (.cells #[.int .i64 s.parent,.string s.key,.int .i64 s.count] 205)).drewN nq).setCell (G b 5) (.map (some (w.heap.size+1)))) (some b):=
  ⟨l.os,l.tape,l.output,od,fun i hi v=>by rw[A0 _ _ _ _ (fun e=>v (by rw[e]))];exact l.block i hi od⟩
 have m:w.grownBy f (some b):=by rw[a];exact(gb.trans (AaS _ _ _)).trans (AaS _ _ _)
 have h:f.rowIs b 208 6 (BS t q par (some (w.heap.size+1))):=by rw[a];exact(D.alloc _).alloc _
 have d5:f.cell? (G b 5)=some (.map (some (w.heap.size+1))):=h.cell (i:=5) oa;have x0:f.cell? (y w 0)=some (.int .i64 s.parent):=by rw[a];simp[go_sem]
 obtain⟨x1,x2⟩:f.cell? (y w 1)=some (.string s.key)/\f.cell? (y w 2)=some (.int .i64 s.count):=by rw[a];simp[go_sem]
 have n:f.rowIs (w.heap.size+2) 208 6 (BS num s (some (G b 0)) none):=by
  have:=kK ((((w.alloc (.cells #[.int .i64 s.parent,.string s.key,.int .i64 s.count] 205)).drewN nq).setCell (G b 5) (.map (some (w.heap.size+1)))).alloc (.map #[] 0)) num s (some (G b 0));rw[a];simpa using this
 have o:CR Tryz.prog 205 f.drew (w.heap.size+1) 0 (fun _=>.pointer none):=by
  have E:=CR.made Tryz.prog 205 (((w.alloc (.cells #[.int .i64 s.parent,.string s.key,.int .i64 s.count] 205)).drewN nq).setCell (G b 5) (.map (some (w.heap.size+1))));have hz:(((w.alloc (.cells #[.int .i64 s.parent,.string s.key,.int .i64 s.count] 205)).drewN nq).setCell (G b 5) (.map (some (w.heap.size+1)))).heap.size=w.heap.size+1:=od;rw[hz]at E;refine E.block ?_;show f.heap[w.heap.size+1]?=_;rw[a];exact DO _ _ _ od
 obtain⟨w2,F,g,p⟩:=VB o oa I K L (Q9 (w.heap.size+1+1));have P:=O m;have d:=O p;have x:=O g;have Q:=O n;have A:=O h;clear a m n o g p u l C D gb h B
 go_region
 go_wp2;go_ret;refine⟨w.heap.size+2,w.heap.size+1,rfl,oa,oa,Q.of_block (d.block _ (by show _<f.heap.size;omega) od),A.of_block (d.block _ (by show _<f.heap.size;omega) oe),x,?_⟩;refine World.grownBy.andThen P (row':=some (w.heap.size+1)) ?_ (fun j hj=>by cases hj;exact .inl oa);exact⟨d.os,d.tape,d.output,d.size,d.block⟩
end
section
open Go.RowKit
open Go.Maps (Keyed)
theorem dM{x:Int}(a:-1000000<=x)(h1:x<=1000000):(Lit.int .i64 x).wf=true:=WalkArith.wf_i64 oa
theorem Nodes.lt{a:TypeId}(h:Nodes P K a w f b0 k B Z M){i:Nat}(hi:i<k):B i<w.heap.size:=by
 rw[<-h.BB i hi];exact(h.node (Z i) (Aao (h.le i hi) hi) (h.own i hi)).lt
theorem Grown.Ar(h:B9 w w'):Grown a b0 w w':=⟨h.os,h.tape,h.output,h.size,fun b hb _=>h.block b hb⟩
theorem Grown.of_grownBy(h:w.grownBy w' (some x))(hx:b0<=x)(hn:D7 a w x):Grown a b0 w w':=
 ⟨h.os,h.tape,h.output,h.size,fun b hb hc=>h.block b hb (fun e=>by
  cases e;rcases hc with hc|hc
  ·omega
  ·exact hc hn)⟩
theorem RO{d:TypeId}(h:Nodes P K d w f b0 k B Z M)(h2:BD f)(a:Z4 f k)
  (b:∀j,0<j->j<k->Z j=j->Z (Az f j)=Z (Az f k)->f j≠f k):∀j,j<k->f j≠f k:=by
 intro j hj e;have e1:f (Z j)=f k:=(h.same j hj).trans e;have c:Z j<k:=Aao (h.le j hj) hj;have g:0<Z j:=by
  rcases W0 (Z j)with e0|e0
  ·have:=h2.1;rw[e0]at e1;rw[e1]at this;have:=a.1;omega
  ·exact e0
 exact b (Z j) g c (h.own j hj) (by unfold Az;rw[e1]) e1
open Classical in
theorem Ng(w:Y)(f:Nat->A3)(b0 k:Nat)(B Z:Nat->Nat)(M:Nat->Option Nat)(h:Cn w f b0 k B Z M)(hk:k<=200)(h2:BD f)(h3:∀i,1<=i->i<=k->Z4 f i):
  C9 223 #[Q9 (B (Az f k)),Jl (f k),.int .i64 k] w fun e w'=>∃r B' N' M',e=.returned (Q9 r)/\Cn w' f b0 (k+1) B' N' M'/\B' k=r/\(∀i,i<k->B' i=B i)/\P4 b0 w w':=by
 have t:=h.pos;have L:=h3 k t (Be _);obtain⟨p0,p1,cc,ah,ks⟩:=h3 k t (Be _);have u:Az f k<k:=by unfold Az;omega
 have E:∀i,0<i->i<k->Az f i<i:=fun i F hi=>by
  obtain⟨a,b,_⟩:=h3 i F oa;unfold Az;omega
 have W:=Ba (k:=k) h2 (fun j h1 h4=>h3 j h1 oa) (Az f k) u;have w1:(Lit.int .i64 (f k).parent).wf=true:=dM oa oa;have w2:(f k).key.size<=maxLen:=by unfold maxLen;omega
 have w3:(Lit.int .i64 (f k).count).wf=true:=dM (by unfold Az at W;omega) oa;obtain⟨a,H⟩:∃a,a=Z (Az f k):=⟨_,rfl⟩;have d:a<k:=by rw[H];exact Aao (h.le _ u) u
 have n:Z a=a:=by rw[H];exact h.own _ u
 have V:B (Az f k)=B a:=by rw[H];exact(h.BB _ u).symm
 have l:=h.node a d n;have I:∀x,w.heap.size<=x->b0<=x:=fun x hx=>GO (h.base 0 t) (GO (Aax (h.lt t)) hx);have X:∀i,i<k->Z i=i->D7 208 w (B i):=fun i hi hn=>by obtain⟨c,hb,_⟩:=h.node i hi hn;exact .inl ⟨c,hb⟩
 cases A:M a with
 |none=>
  rw[A]at l;rw[V];refine(QH w (B a) (f k) k (f a) _ a l w1 w2 w3).mono ?_;rintro e w' ⟨r,mm,rfl,hr,ad,rn,ra,P,C⟩;have K:=RO h h2 L (fun j F hj hn p _=>h.bare a d n A j F hj hn (by rw[p,H]));refine⟨r,_,_,_,rfl,h.fresh u E K (g:=fun _=>.pointer none) H ra (fun i hi hn q=>C.block _ (h.lt hi) (fun e=>?_)) (fun i m hi hn q P=>?_) (by rw[V];exact rn) (I r hr) (fun i hi e=>?_) (I mm ad) (fun v=>.inr ⟨rfl,fun j F hj hn p=>absurd p (h.bare a d n A j F hj hn)⟩) (P.mono oa),od,fun i hi=>oe,Grown.of_grownBy C (h.base a d) (X a d n)⟩
  ·exact q (h.apart i a hi d hn n (Aap e))
  ·obtain⟨g,s,_⟩:=h.kids i m hi hn P;obtain⟨es,c,o⟩:=s.isMap;have Q:m<w.heap.size:=(GC.1 o).1;refine⟨C.block m Q (fun e=>?_),oa⟩;cases e;obtain⟨c,hb,_⟩:=l;rw[hb]at o;cases o
  ·have:=h.lt hi;omega
 |some m=>
  rw[A]at l;obtain⟨g,s,hK⟩:=h.kids a m d n A;obtain⟨es,c,o⟩:=s.isMap;have Q:m<w.heap.size:=(GC.1 o).1;rw[V];rcases hK (Jl (f k))with⟨j,j0,jk,jn,jp,jv,jg⟩|⟨jg,ae⟩
  ·refine m9 (QI w (B j) (B a) j m g k (f k) k (f a) _ a l s jg w1 w2 w3) fun w' hb=>?_;have af:∀b,D7 208 w b->w'.heap[b]?=w.heap[b]?:=fun b ag=>hb.block b (by
    rcases ag with⟨c,hc⟩|⟨es,c,hc⟩
    ·exact(GC.1 hc).1
    ·exact(GC.1 hc).1)
   exact⟨B j,_,_,_,rfl,(h.keep af).found jk u jn (Qa jv).symm E,od,fun i hi=>oe,Grown.Ar hb⟩
  ·refine(Sb w (B a) m g k (f k) k (f a) _ a oa l s jg w1 w2 w3).mono ?_;rintro e w' ⟨r,rfl,hr,rn,P,C⟩;have K:=RO h h2 L (fun j F hj hn p e=>ae j F hj hn (by rw[p,H]) (by rw[e]));have R:∀i,i<k->Z i=i->B i≠m:=fun i hi hn e=>by
    obtain⟨c,hb,_⟩:=h.node i hi hn;rw[e,o]at hb;cases hb
   refine⟨r,_,_,_,rfl,h.fresh u E K (g:=g) (mm:=m) H (l.of_block (C.block _ (h.lt d) (fun e=>R a d n (Aap e)))) (fun i hi hn q=>C.block _ (h.lt hi) (fun e=>R i hi hn (Aap e))) (fun i m' hi hn q S=>?_) (by rw[V];exact rn) (I r hr) (fun i hi e=>?_) (h.mbase a m d n A) hK P,od,fun i hi=>oe,Grown.of_grownBy C (h.mbase a m d n A) (.inr ⟨es,c,o⟩)⟩
   ·obtain⟨g',T,_⟩:=h.kids i m' hi hn S;obtain⟨ai,c',U⟩:=T.isMap;have D:m'≠m:=fun e=>q (h.K0 i a m hi d hn n (by rw[S,e]) A);exact⟨C.block m' (GC.1 U).1 (fun e=>D (Aap e)),D⟩
   ·have:=h.lt hi;omega
end
section
open Go.RowKit
open Go.Maps (Keyed)
theorem Jg(w:Y):C9 127 #[] w (R9 (Sh (-1) ⟨#[]⟩ 0) w):=by
 go_enter Tryz.func127,Tryz.ntmps127
 go_wp2;exact E1 (v:=Sh (-1) ⟨#[]⟩ 0) (by simp[results,Tryz.results127,go_sem]) rfl ⟨rfl,n9⟩
def ptrs(B:Nat->Nat)(n:Nat):List Value:=(List.range n).map fun i=>Q9 (B i)
theorem Ke{i:Nat}(h:i<n):(ptrs B n)[i]?=some (Q9 (B i)):=by simp[ptrs,h]
theorem PL{B':Nat->Nat}(h:∀i,i<n->B' i=B i)(a:B' n=r):ptrs B n++[Q9 r]=ptrs B' (n+1):=by
 unfold ptrs;rw[List.range_succ,Aaq]
 congr 1
 ·exact List.map_congr_left fun i hi=>by rw[h i (List.mem_range.1 hi)]
 ·simp[a]
theorem SQ(h2:BD f):f 0=⟨-1,⟨#[]⟩,0⟩:=by
 obtain⟨a,b,c⟩:=h2;cases hf:f 0 with
 |mk p k d=>
  rw[hf]at a b c;have a:p=-1:=a;have c:d=0:=c;have b:k.toList=[]:=b;subst a;subst c;have:k=⟨#[]⟩:=WideShapes.bytes_inj (by rw[<-AaT,b]);rw[this]
theorem Nodes.root{b:TypeId}(c:b0<=r)(a:w.rowIs r b 6 (BS 0 (f 0) none none)):Nodes P K b w f b0 1 (fun _=>r) (fun _=>0) (fun _=>none) where
 pos:=oa
 n0:=rfl
 le:=fun i hi=>oa
 own:=fun i hi=>rfl
 same:=fun i hi=>by rw[show i=0 by omega]
 one:=fun i j hi hj _=>rfl
 BB:=fun i hi=>rfl
 base:=fun i hi=>c
 node:=fun i hi hn=>by
  rw[show i=0 by omega];exact a
 apart:=fun i j hi hj _ _ _=>oa
 mbase:=fun i m _ _ h=>by cases h
 K0:=fun i j m _ _ _ _ h=>by cases h
 bare:=fun i hi _ _ j d hj=>oa
 kids:=fun i m _ _ h=>by cases h
theorem WX{f g:Nat}(h:w.ownsRow base e 1 (S9 g n b) n xs)(i:Grown f b0 w w')(j:e≠f):w'.ownsRow base e 1 (S9 g n b) n xs:=by
 obtain⟨hl,⟨d,_⟩|⟨g',cap,cur,d,hb,a,h1,h2,h3,h4⟩⟩:=h
 ·cases d
 ·cases d;refine⟨hl,.inr ⟨g,b,cur,rfl,hb,?_,h1,h2,h3,h4⟩⟩;rw[i.block g (GC.1 a).1 (.inr ?_)]
  ·exact a
  ·rintro(⟨c,hc⟩|⟨es,c,hc⟩)
   ·rw[a]at hc;cases hc;exact j rfl
   ·rw[a]at hc;cases hc
theorem cK{d g f:Nat}(h:w.ownsRow base e 1 (S9 g n f) n xs)(i:e≠d):¬D7 d w g:=by
 obtain⟨hl,⟨b,_⟩|⟨g',cap,cur,b,hb,a,h1,h2,h3,h4⟩⟩:=h
 ·cases b
 ·cases b;rintro(⟨c,hc⟩|⟨es,c,hc⟩)
  ·rw[a]at hc;cases hc;exact i rfl
  ·rw[a]at hc;cases hc
theorem Grown.below(h:Grown a b0 w w')(hb:b0<=w.heap.size):Below b0 w w':=⟨h.os,h.tape,h.output,h.size,fun k hk=>h.block k oa (.inl hk)⟩
theorem Vk:(Tryz.prog.info? 163).map (fun i=>(i.zero,i.size,i.bytes))=some (some (.pointer none),1,8):=og
theorem Xa(b n cap:Nat)(f:Nat->A3)(w:Y)(hA:Cl w b n f)(h1:D8 n)(h2:BD f)(h3:BK n f):
  C9 176 #[.agg #[S9 b n cap]] w fun e w'=>(∃g l B Z M,e=.returned (S9 g n l)/\Cn w' f w.heap.size n B Z M/\(g<w'.heap.size/\w'.ownsRow w.heap.size 163 1 (S9 g n l) n (ptrs B n))/\∀i,i<n->w'.cell? (G g i)=some (Q9 (B i)))/\B9 w w':=by
 have hl:=hA.lt;have bd:0<n:=oj h1.1;have bf:n<=200:=h1.2;have HA:=O hA;have H2:=O h2;have H3:=O h3;have ar:=SQ h2;clear hA h1 h2 h3;obtain⟨i0,hi,au,m,av⟩:=P9 Vk;have D:B9 w (w.alloc (.cells #[S9 b n cap] 38)):=n9
 go_enter Tryz.func176,Tryz.ntmps176
 go_wp2_with fail
 refine m9 (Jg _) fun w1 o=>?_;obtain⟨I,aw⟩:=Bo o;have m:=o.size;simp at m;have K:=O (oo D o);have y1:w.heap.size<w1.heap.size:=oa;have a1:w1.cell? (y w 0)=some (S9 b n cap):=by rw[I _ _ od];simp[go_sem]
 clear o I aw m D;go_wp2;clear a1;go_loopw [3,13] (fun v i wr=>∃(k L g l:Nat) (B Z:Nat->Nat) (M:Nat->Option Nat),k<=n/\i=J k/\v=S9 g L l/\1<=L/\(L=k\/(k=0/\L=1))/\wr.ownsRow w.heap.size 163 1 (S9 g L l) L (ptrs B L)/\Cn wr f w.heap.size L B Z M/\B9 w wr) (fun _ i _=>n-(intOf i).toNat)
 case atStart=>
  have hr:=kK w1 0 (f 0) none;have P:(w1.alloc (.cells #[J 0,J (-1),E9,J 0,.pointer none,.map none] 208)).rowIs w1.heap.size 208 6 (BS 0 (f 0) none none):=by rw[ar]at hr ⊢;exact hr
  have hb:=((K.alloc K.size (.cells #[J 0,J (-1),E9,J 0,.pointer none,.map none] 208)).alloc oe (.cells #[Q9 w1.heap.size] 163));have ho:=World.ownsRow_lit (base:=w.heap.size) (e:=163) (size:=1) (w1.alloc (.cells #[J 0,J (-1),E9,J 0,.pointer none,.map none] 208)) #[Q9 w1.heap.size] 1 oe (by unfold maxLen;omega) rfl;refine⟨0,1,w1.heap.size+1,1,fun _=>w1.heap.size,fun _=>0,fun _=>none,oa,rfl,rfl,oa,.inr ⟨rfl,rfl⟩,?_,Nodes.root oa (P.alloc _),hb⟩;simpa[ptrs]using ho
 case round=>
  obtain⟨k,L,g,l,B,Z,M,hk,rfl,rfl,bg,hL,A,hN,hb⟩:=hrel;have c0:k<n->wr.cell? (G b (k*3))=some (J (f k).parent):=fun h=>((HA.below hb hl).cells h).1;have c1:k<n->wr.cell? (G b (k*3+1))=some (.string (f k).key):=fun h=>((HA.below hb hl).cells h).2.1;have c2:k<n->wr.cell? (G b (k*3+2))=some (J (f k).count):=fun h=>((HA.below hb hl).cells h).2.2;have F:=O hb;have H:=O A;have HN:=O hN;clear hb A hN;go_wp2
  ·have Q:k<n:=by assumption
   have q:0<k:=by assumption
   have ax:L=k:=oa;subst ax;have p0:=(H3 L q Q).1;have p1:=(H3 L q Q).2.1;obtain⟨p,R⟩:∃p:Nat,(f L).parent=p:=⟨(f L).parent.toNat,oa⟩;have ay:p<L:=oa;rw[R];obtain⟨W,s⟩:∃W,W=wr.alloc (.cells #[J p,.string (f L).key,J (f L).count] 205):=⟨_,rfl⟩;rw[<-s];have x0:W.cell? (y wr 0)=some (J p):=by rw[s];simp[go_sem]
   obtain⟨x1,x2⟩:W.cell? (y wr 1)=some (.string (f L).key)/\W.cell? (y wr 2)=some (J (f L).count):=by rw[s];simp[go_sem]
   have bh:W.heap.size=wr.heap.size+1:=by rw[s];simp
   have S:B9 w W:=by rw[s];exact F.alloc F.size _
   have d:W.drew.ownsRow w.heap.size 163 1 (S9 g L l) L (ptrs B L):=by rw[s];exact(H.alloc _).drew
   have xp:W.cell? (G g p)=some (Q9 (B p)):=(d.cellAt p oa).trans (Ke ay);have T:Cn W.drew f w.heap.size L B Z M:=HN.keep (fun b hb=>by
    show W.heap[b]?=_;rw[s];exact DO _ _ _ (by
     rcases hb with⟨c,hc⟩|⟨es,c,hc⟩
     ·exact(GC.1 hc).1
     ·exact(GC.1 hc).1))
   have hC:=Ng W.drew f w.heap.size L B Z M T oa H2 (fun i h1 h4=>H3 i h1 oa);rw[show Az f L=p by unfold Az;rw[R];rfl,show Jl (f L)=.agg #[J p,.string (f L).key,J (f L).count] by unfold Jl;rw[R]]at hC;have HC:=O hC;have U:=O d;have t:=O S;have HP:=O R;clear hC d S T s HN H F c0 c1 c2 p0 p1 R
   go_region_law (first
    |(go_simp;refine HC.mono ?_;rintro e w2 ⟨r,B',N',M',rfl,V,X,ae,u⟩;have af:=O V;have ag:=O X;have ah:=O ae;have ai:=O u;have x:=O ((WX U u oc).alloc (.cells #[Q9 r] 163));have bj:w.heap.size<=w2.heap.size:=GO t.size u.size;clear V X ae u)
    |(refine Aaa _ rfl (.tmp 20) (.tmp 29) 115 rfl w.heap.size 163 i0 (.pointer none) 1 8 Tryz.underlying115 hi au m av rfl oc (S9 g L l) L (ptrs B L) (by simp[Act.eval]) x (y w2 0) 1 1 [Q9 r] (by simp[Act.eval]) rfl (H8 (BE _ _)) (by simp[Value.oneCell']) oc (by unfold maxLen;omega) oa oe _ rfl ?_;intro g3 az w3 j a aq bc))
   all_goals
    have C:=cK x (show 163≠208 by decide);have bk:w.heap.size<=g:=(x.lt g rfl).1;have aj:Cn w3 f w.heap.size (L+1) B' N' M':=(af.keep (w':=w3) (fun b hb=>by
     have aM:b<w2.heap.size:=by
      rcases hb with⟨c,hc⟩|⟨es,c,hc⟩
      ·exact(GC.1 hc).1
      ·exact(GC.1 hc).1
     have E:=DO w2 (.cells #[Q9 r] 163) b aM;rw[<-E];refine a.block b oe (fun e=>C ?_);have e:b=g:=Aap e;rw[<-e];rcases hb with⟨c,hc⟩|⟨es,c,hc⟩
     ·exact .inl ⟨c,E.trans hc⟩
     ·exact .inr ⟨es,c,E.trans hc⟩))
    have ak:B9 w w2:=t.trans (by
     have:=ai.below t.size;exact⟨this.os,this.tape,this.output,this.size,this.block⟩)
    have ao:B9 w w3:=ak.trans ⟨a.os,a.tape,a.output,GO od a.size,fun k hk=>by
     rw[a.block k oe (fun e=>by have e:k=g:=Aap e;omega)];exact DO _ _ _ oa⟩
    rw[PL (z ah) (z ag)]at j;have a6:=O aj;have a7:=O ao;have a8:=O j;clear aj ak ao j a C x af ai ah ag HC U t x0 x1 x2 xp;go_wp2;go_roundw
    case rel=>exact⟨L+1,L+1,g3,az,B',N',M',oa,oh,rfl,oa,.inl rfl,a8,a6,a7⟩
    case measure=>simp[intOf];omega
  ·have q:k=0:=oa;subst q;have ad:L=1:=oa;subst ad;go_roundw
   case rel=>
    refine⟨1,1,g,l,B,Z,M,oa,oh,rfl,oa,.inl rfl,H.alloc _,HN.keep (fun b hb=>DO _ _ _ ?_),F.alloc F.size _⟩;rcases hb with⟨c,hc⟩|⟨es,c,hc⟩
    ·exact(GC.1 hc).1
    ·exact(GC.1 hc).1
   case measure=>simp[intOf];omega
  ·have bb:L=n:=oa;subst bb;go_ret;exact⟨⟨g,l,B,Z,M,rfl,HN,⟨(H.lt g rfl).2,H⟩,fun i hi=>(H.cellAt i oa).trans (Ke hi)⟩,F⟩
def UX(f:Nat->A3)(i:Nat)(key:ByteArray)(r:Int):Prop:=
 (∃t,(∀s,s<=t->0<DG f i s)/\(f (DG f i t)).key.toList=key.toList/\(∀s,s<t->(f (DG f i s)).key.toList≠key.toList)/\r=(f (DG f i t)).count-1)\/
 (r=-1/\∀t,(∀s,s<=t->0<DG f i s)->(f (DG f i t)).key.toList≠key.toList)
theorem UX.unique{i:Nat}{r r':Int}(h:UX f i key r)(h':UX f i key r'):r=r':=by
 rcases h with⟨t,a1,a2,a3,a4⟩|⟨a1,a2⟩
 ·rcases h' with⟨u,b1,b2,b3,b4⟩|⟨b1,b2⟩
  ·have:t=u:=by
    rcases Nat.lt_trichotomy t u with e|e|e
    ·exact absurd a2 (b3 t e)
    ·exact e
    ·exact absurd b2 (a3 u e)
   subst this;rw[a4,b4]
  ·exact absurd a2 (b2 t a1)
 ·rcases h' with⟨u,b1,b2,b3,b4⟩|⟨b1,b2⟩
  ·exact absurd b2 (a2 u b1)
  ·rw[a1,b1]
open Classical in
noncomputable def BO(f:Nat->A3)(i:Nat)(key:ByteArray):Int:=if h:∃r,UX f i key r then h.choose else 0
theorem UX.eq{i:Nat}{r:Int}(h:UX f i key r):BO f i key=r:=by
 have h1:∃r,UX f i key r:=⟨r,h⟩;unfold BO;rw[dif_pos h1];exact h1.choose_spec.unique h
def PF(v:V9)(w:Y):Nat:=
 match v with
 |.pointer (some a)=>(match w.cell? a with|some (.int _ n)=>n.toNat|_=>0)
 |_=>0
theorem Kb{a:Addr}(h:w.cell? a=some (J n)):PF (.pointer (some a)) w=n:=by
 unfold PF;simp[h]
theorem Du(h:Cn w f b0 n B Z M)(hid:∀i,i<n->Z i=i){j:Nat}(hj:j<n):
  w.cell? (G (B j) 0)=some (J j)/\w.cell? (G (B j) 2)=some (.string (f j).key)/\w.cell? (G (B j) 3)=some (J (f j).count)/\w.cell? (G (B j) 4)=some (.pointer (CO f B j))/\w.cell? (G (B j) 5)=some (.map (M j)):=by
 have a:=h.node j hj (hid j hj);exact⟨a.cell (i:=0) oa,a.cell (i:=2) oa,a.cell (i:=3) oa,a.cell (i:=4) oa,a.cell (i:=5) oa⟩
theorem Ih(w:Y)(f:Nat->A3)(b0 n:Nat)(B Z:Nat->Nat)(M:Nat->Option Nat)(h:Cn w f b0 n B Z M)(hid:∀i,i<n->Z i=i)(h2:BD f)(h3:BK n f)(i:Nat)(hi:i<n)(key:ByteArray):
  C9 181 #[Q9 (B i),.string key] w fun e w'=>(e=.returned (J (BO f i key))/\UX f i key (BO f i key))/\w'=w:=by
 have F:Hid (∀j,j<n->w.cell? (G (B j) 0)=some (J j)/\w.cell? (G (B j) 2)=some (.string (f j).key)/\w.cell? (G (B j) 3)=some (J (f j).count)/\w.cell? (G (B j) 4)=some (.pointer (CO f B j))/\w.cell? (G (B j) 5)=some (.map (M j))):=O (fun j hj=>Du h hid hj);have L:=O h2;have A:=O h3;clear h h2 h3
 go_enter Tryz.func181,Tryz.ntmps181
 go_wp2;go_loopw [5] (fun v wr=>∃(t j:Nat),v=Q9 (B j)/\j=DG f i t/\j<n/\wr=w/\∀s,s<t->0<DG f i s/\(f (DG f i s)).key.toList≠key.toList) (fun v wr=>PF v wr)
 case atStart=>exact⟨0,i,rfl,rfl,hi,rfl,fun s hs=>oa⟩
 case round=>
  obtain⟨t,j,rfl,hj,b,rfl,d⟩:=hrel;obtain⟨c0,c2,c3,c4,_⟩:=z F j b;have l:=O hj;have a:=O d;clear hj d;by_cases m:j=0
  ·subst m;rw[show CO f B 0=none by unfold CO;rw[DD rfl]]at c4;go_wp2;go_ret;have o:UX f i key (-1):=by
    refine .inr ⟨rfl,fun u hu e=>?_⟩;by_cases C:u<t
    ·exact(a u C).2 e
    ·have:=hu t oa;rw[<-z l]at this;omega
   rw[o.eq];exact⟨⟨rfl,o⟩,rfl⟩
  ·rw[show CO f B j=some (G (B (Az f j)) 0) by unfold CO;rw[C3 m]]at c4;have c:0<j:=oa;obtain⟨g,k⟩:=Gm L A b c;have P:=(A j c b).1;have Q:=(A j c b).2.1;have p:∀s,s<=t->0<DG f i s:=fun s hs=>by
    by_cases e:s=t
    ·rw[e,<-z l];exact c
    ·exact(a s oa).1
   have q:DG f i (t+1)=Az f j:=by show(f (DG f i t)).parent.toNat=_;rw[<-z l]
   have H:PF (Q9 (B (Az f j))) wr=Az f j:=Kb (F (Az f j) (by unfold Az;omega)).1;have r:PF (Q9 (B j)) wr=j:=Kb c0;have D:Az f j<j:=by unfold Az;omega
   have x:=O p;have E:=O q;have I:=O (And.intro H r);have K:=O (And.intro g k);clear p q H r P Q g k;by_cases hK:(f j).key.toList=key.toList
   ·have R:((f j).key.toList==key.toList)=true:=by simp[hK]
    have HK:=O hK;have g:=K.1;have k:=K.2;clear hK;go_wp2;go_ret;have o:UX f i key ((f j).count-1):=.inl ⟨t,x,by rw[<-z l];exact HK,fun s hs=>(a s hs).2,by rw[<-z l]⟩;rw[o.eq];exact⟨⟨rfl,o⟩,rfl⟩
   ·have R:((f j).key.toList==key.toList)=false:=by simp[hK]
    have HK:=O hK;clear hK;go_wp2;go_roundw
    case rel=>
     refine⟨t+1,Az f j,rfl,E.symm,oa,trivial,fun s hs=>?_⟩;by_cases e:s=t
     ·rw[e];exact⟨x t (Be _),by rw[<-z l];exact HK⟩
     ·exact a s oa
    case measure=>rw[(z I).1,(z I).2];exact D
theorem QB(w:Y)(f:Nat->A3)(b0 n g m:Nat)(B Z:Nat->Nat)(M:Nat->Option Nat)(h:Cn w f b0 n B Z M)(l:∀i,i<n->w.cell? (G g i)=some (Q9 (B i)))(hn:n<=200):
  C9 177 #[S9 g n m] w fun e w'=>(∃r:Bool,e=.returned (.bool r)/\(r=false↔∀i,i<n->Z i=i))/\w'=w:=by
 have o:Hid (∀i,i<n->w.cell? (G (B i) 0)=some (J (Z i))):=O (fun i hi=>by
  rw[<-h.BB i hi];exact(h.node (Z i) (Aao (h.le i hi) hi) (h.own i hi)).cell (i:=0) oa)
 have p:=O l;clear h l
 go_enter Tryz.func177,Tryz.ntmps177
 go_wp2;go_loopw [7] (fun i wr=>∃k:Nat,k<=n/\i=J k/\wr=w/\∀j,j<k->Z j=j) (fun i _=>n-(intOf i).toNat)
 case atStart=>exact⟨0,oa,rfl,rfl,fun j hj=>oa⟩
 case round=>
  obtain⟨k,hk,rfl,q,a⟩:=hrel;subst q;have c0:k<n->wr.cell? (G g k)=some (Q9 (B k)):=fun h=>p k h;have c1:k<n->wr.cell? (G (B k) 0)=some (J (Z k)):=fun h=>o k h;have b:=O a;clear a;go_wp2
  ·have c:k<n:=by assumption
   have d:Z k≠k:=by
    intro e;have h':((Z k:Int)!=(k:Int))=true:=by assumption
    rw[e]at h';simp at h'
   go_ret;exact⟨⟨true,rfl,⟨fun h=>(by cases h),fun h=>absurd (h k c) d⟩⟩,rfl⟩
  ·have s:Z k=k:=by
    have h':((Z k:Int)!=(k:Int))=false:=by assumption
    simp at h';omega
   go_roundw
   case rel=>
    refine⟨k+1,oa,oh,trivial,fun j hj=>?_⟩;by_cases e:j=k
    ·rw[e];exact s
    ·exact b j oa
   case measure=>simp[intOf];omega
  ·go_ret;exact⟨⟨false,rfl,⟨fun _ i hi=>b i oa,fun _=>rfl⟩⟩,rfl⟩
def P7(n:Nat)(f:Nat->A3):Prop:=∃i,0<i/\i<n/\0<=BO f (Az f i) (f i).key
theorem Lc(w:Y)(f:Nat->A3)(b0 n g C:Nat)(B Z:Nat->Nat)(M:Nat->Option Nat)(h:Cn w f b0 n B Z M)(hid:∀i,i<n->Z i=i)(h2:BD f)(h3:BK n f)(v:∀i,i<n->w.cell? (G g i)=some (Q9 (B i)))(hn:n<=200):
  C9 178 #[S9 g n C] w fun e w'=>(∃r:Bool,e=.returned (.bool r)/\(r=true↔P7 n f))/\B9 w w':=by
 have D:=O h;have x:=O hid;have E:=O h2;have A:=O h3;have F:=O v;clear h v hid h2 h3
 go_enter Tryz.func178,Tryz.ntmps178
 go_wp2;go_loopw [7] (fun i wr=>∃(k q:Nat),k<=n/\i=J k/\wr=w.drewN q/\∀j,0<j->j<k->BO f (Az f j) (f j).key<0) (fun i _=>n-(intOf i).toNat)
 case atStart=>exact⟨0,0,oa,rfl,rfl,fun j l hj=>oa⟩
 case round=>
  obtain⟨k,q,hk,rfl,t,a⟩:=hrel;have m:Cn wr f b0 n B Z M:=D.keep (fun b _=>by rw[t];rfl);have c0:k<n->wr.cell? (G g k)=some (Q9 (B k)):=fun h=>by rw[t];exact F k h
  have u:=O t;have o:=O m;have c:=O a;clear a t m;go_wp2
  ·have d:k<n:=by assumption
   obtain⟨_,c2,_,c4,_⟩:=Du o x d;clear c0;by_cases p:k=0
   ·subst p;rw[show CO f B 0=none by unfold CO;rw[DD rfl]]at c4
    go_quiet (fail)
    go_wp2;go_roundw
    case rel=>exact⟨1,q+nq,oa,rfl,by rw[z u,World.drewN_drewN],fun j l h1=>oa⟩
    case measure=>simp[intOf];omega
   ·rw[show CO f B k=some (G (B (Az f k)) 0) by unfold CO;rw[C3 p]]at c4;have s:0<k:=oa;have hs:Az f k<n:=by have:=(A k s d).2.1;unfold Az;omega
    have H:Hid (∀q,C9 181 #[Q9 (B (Az f k)),.string (f k).key] (wr.drewN q) fun e w'=>e=.returned (J (BO f (Az f k) (f k).key))/\w'=wr.drewN q):=
     O (fun q=>(Ih (wr.drewN q) f b0 n B Z M (o.keep (fun b _=>rfl)) x E A (Az f k) hs (f k).key).mono (fun e w' h=>⟨h.1.1,h.2⟩))
    go_quiet (first|(go_at_call 181;exact Calls.quiet_of_same (H _)))
    by_cases I:0<=BO f (Az f k) (f k).key
    ·go_wp2;go_ret;exact⟨⟨true,rfl,⟨fun _=>⟨k,s,d,I⟩,fun _=>rfl⟩⟩,by rw[z u];exact below_drewN (below_drewN (Cs _ _) _) _⟩
    ·go_wp2;go_roundw
     case rel=>
      refine⟨k+1,q+nq,oa,oh,by rw[z u,World.drewN_drewN],fun j l h1=>?_⟩;by_cases e:j=k
      ·rw[e];omega
      ·exact c j l oa
     case measure=>simp[intOf];omega
  ·go_ret;refine⟨⟨false,rfl,⟨fun h=>(by cases h),?_⟩⟩,?_⟩
   ·rintro⟨i,l,h1,h2⟩;have:=z c i l oa;omega
   ·rw[z u];exact below_drewN (Cs _ _) _
end
section
open Go.RowKit
open Go.Maps (Keyed)
def ML(e:Ending)(p:Prop):Prop:=∃r:Bool,e=.returned (.bool r)/\(r=true↔p)
theorem ML.no{p:Prop}(h:¬p):ML (.returned (.bool false)) p:=⟨false,rfl,⟨fun e=>(by cases e),fun e=>absurd e h⟩⟩
theorem ML.yes{p:Prop}(h:p):ML (.returned (.bool true)) p:=⟨true,rfl,⟨fun _=>h,fun _=>rfl⟩⟩
theorem O0(b n cap:Nat)(f:Nat->A3)(w:Y)(hA:Cl w b n f)(hn:n<=200)(h2:BD f):
  C9 175 #[.agg #[S9 b n cap]] w fun e w'=>ML e (BK n f)/\B9 w w':=by
 have hl:=hA.lt;have s:=O hA;have F:=O h2;clear hA h2
 go_enter Tryz.func175,Tryz.ntmps175
 go_wp2;go_loopw [8] (fun i wr=>∃k:Nat,k<=n/\i=J k/\B9 w wr/\wr.cell? (y w 0)=some (S9 b n cap)/\w.heap.size<wr.heap.size/\∀j,1<=j->j<k->Z4 f j) (fun i _=>n-(intOf i).toNat)
 case atStart=>exact⟨0,oa,rfl,n9,by simp[go_sem],od,fun j h1 h2=>oa⟩
 case round=>
  obtain⟨k,hk,rfl,hb,l,o,m⟩:=hrel;have c0:k<n->wr.cell? (G b (k*3))=some (J (f k).parent):=fun h=>((s.below hb hl).cells h).1;have c1:k<n->wr.cell? (G b (k*3+1))=some (.string (f k).key):=fun h=>((s.below hb hl).cells h).2.1;have c2:k<n->wr.cell? (G b (k*3+2))=some (J (f k).count):=fun h=>((s.below hb hl).cells h).2.2;have d:=O hb;have c:=O m;clear hb m;by_cases a:k<n
  case neg=>
   go_wp2;go_ret;exact⟨.yes (fun i h1 h2=>c i h1 oa),d⟩
  by_cases u:k=0
  ·subst u;go_wp2;go_roundw
   case rel=>exact⟨1,oa,oh,d.alloc oa _,by simp[go_sem,l,o],oe,fun j h1 h2=>oa⟩
   case measure=>simp[intOf];omega
  have H:((k:Int)==0)=false:=oe;by_cases hA:(f k).parent<0
  ·have D:decide ((f k).parent<0)=true:=by simp[hA]
   have g:Hid (¬BK n f):=O (fun h=>oj (h k oa a).1);go_wp2;go_ret;exact⟨.no g,d.alloc oa _⟩
  have D:decide ((f k).parent<0)=false:=by simp[hA]
  by_cases E:(k:Int)<=(f k).parent
  ·have q:decide ((k:Int)<=(f k).parent)=true:=by simp[E]
   have g:Hid (¬BK n f):=O (fun h=>oj (h k oa a).2.1);go_wp2;go_ret;exact⟨.no g,d.alloc oa _⟩
  have q:decide ((k:Int)<=(f k).parent)=false:=oe;by_cases I:(4000:Int)<(f k).key.size
  ·have v:decide ((4000:Int)<(f k).key.size)=true:=by simp[I]
   have g:Hid (¬BK n f):=O (fun h=>oj (h k oa a).2.2.2.2);go_wp2;go_ret;exact⟨.no g,d.alloc oa _⟩
  have v:decide ((4000:Int)<(f k).key.size)=false:=oe;obtain⟨p,x⟩:∃p:Nat,(f k).parent=p:=⟨(f k).parent.toNat,oa⟩;have A:p<k:=oa;have B:p<n:=oa;obtain⟨K,L⟩:=Ba F c p A;have e2:wr.cell? (G b (p*3+2))=some (J (f p).count):=((s.below d hl).cells B).2.2;rw[x]at hA E D q c0;have t:=O x;have M:b<wr.heap.size:=At hl d.size;have d0:=c0 a;have d1:=c1 a;have d2:=c2 a;clear x c0 c1 c2;have R:IntKind.i64.wrap ((f p).count+1)=(f p).count+1:=by rw[Hi];omega
  by_cases hD:12<(f k).count
  ·have g:Hid (¬BK n f):=O (fun h=>oj (h k oa a).2.2.2.1);have C:decide (12<(f k).count)=true:=by simp[hD]
   go_wp2
   go_quiet (fail)
   go_wp2;go_ret;exact⟨.no g,below_drewN (d.alloc oa _) _⟩
  have C:decide (12<(f k).count)=false:=oe;by_cases r:(f k).count=(f p).count+1
  case neg=>
   have g:Hid (¬BK n f):=O (fun h=>by have:=(h k oa a).2.2.1;rw[z t]at this;exact r this);go_wp2
   go_quiet (fail)
   go_wp2;go_ret;exact⟨.no g,below_drewN (d.alloc oa _) _⟩
  have P:((f k).count !=(f p).count+1)=false:=by simp[r]
  have Q:Hid (Z4 f k):=O ⟨by rw[z t];omega,by rw[z t];omega,by rw[z t];exact r,oa,oa⟩;have S:=O r;clear r;go_wp2
  go_quiet (fail)
  go_wp2;go_roundw
  case rel=>
   refine⟨k+1,oa,oh,below_drewN (d.alloc oa _) _,by simp[go_sem,l,o],oe,fun j h1 h2=>?_⟩;by_cases e:j=k
   ·rw[e];exact Q
   ·exact c j h1 oa
  case measure=>simp[intOf];omega
theorem TN{p:Nat->Prop}(h:∃t,p t):∃t,p t/\∀s,s<t->¬p s:=by
 obtain⟨t,c⟩:=h
 induction t using Nat.strongRecOn with
 |ind t ih=>
  by_cases hs:∃s,s<t/\p s
  ·obtain⟨s,a,hs⟩:=hs;exact ih s a hs
  ·exact⟨t,c,fun s a b=>hs ⟨s,a,b⟩⟩
theorem IW(f:Nat->A3)(i:Nat)(key:ByteArray):UX f i key (BO f i key):=by
 by_cases h:∃t,(∀s,s<=t->0<DG f i s)/\(f (DG f i t)).key.toList=key.toList
 ·obtain⟨t,⟨h1,h2⟩,h3⟩:=TN h;have a:UX f i key ((f (DG f i t)).count-1):=.inl ⟨t,h1,h2,fun s hs e=>h3 s hs ⟨fun u hu=>h1 u oa,e⟩,rfl⟩;rw[a.eq];exact a
 ·have a:UX f i key (-1):=.inr ⟨rfl,fun t b e=>h ⟨t,b,e⟩⟩;rw[a.eq];exact a
theorem X2(h3:BK n f){i:Nat}(hi:i<n):∀t,(∀s,s<t->0<DG f i s)->DG f i t<=i:=by
 intro t
 induction t with
 |zero=>intro _;exact Be _
 |succ t ih=>
  intro h;have h1:=ih (fun s hs=>h s oa);have a:=h t oa;have:=(h3 (DG f i t) a oa).2.1;show(f (DG f i t)).parent.toNat<=i;omega
theorem QZ(h2:BD f)(h3:BK n f){i:Nat}(hi:i<n)(key:ByteArray):0<=BO f i key↔∃t,(∀s,s<=t->0<DG f i s)/\(f (DG f i t)).key.toList=key.toList:=by
 have e:=IW f i key;constructor
 ·intro h;rcases e with⟨t,a,b,_⟩|⟨a,_⟩
  ·exact⟨t,a,b⟩
  ·omega
 ·rintro⟨t,a,b⟩;rcases e with⟨u,a',_,_,d⟩|⟨_,c⟩
  ·have:=X2 h3 hi u (fun s hs=>a' s oa);have:=(Gm h2 h3 (show DG f i u<n by omega) (a' u (Be _))).1;omega
  ·exact absurd b (c t a)
theorem Rf(h3:BK n f){i:Nat}(h1:1<=i)(hi:i<n):∀t,(∀s,s<t->0<DG f (Az f i) s)->iW f i t=DG f (Az f i) t:=by
 intro t
 induction t with
 |zero=>
  intro _;have:=(h3 i h1 hi).1;show(f i).parent=((f i).parent.toNat:Int);omega
 |succ t ih=>
  intro h;have e:=ih (fun s hs=>h s oa);have a:Az f i<n:=by have:=(h3 i h1 hi).2.1;unfold Az;omega
  have hl:=X2 h3 a t (fun s hs=>h s oa);have:=(h3 (DG f (Az f i) t) (h t oa) oa).1;show(f (iW f i t).toNat).parent=((f (DG f (Az f i) t)).parent.toNat:Int);rw[e,NO];omega
theorem UO(h3:BK n f){i:Nat}(h1:1<=i)(hi:i<n)(t:Nat):(∀s,s<=t->0<iW f i s)↔∀s,s<=t->0<DG f (Az f i) s:=by
 constructor
 ·intro h s
  induction s using Nat.strongRecOn with
  |ind s ih=>
   intro hs;have:=Rf h3 h1 hi s (fun u hu=>ih u hu oa);have:=h s hs;omega
 ·intro h s hs;rw[Rf h3 h1 hi s (fun u hu=>h u oa)];have:=h s hs;omega
theorem EY(h2:BD f)(h3:BK n f):P7 n f↔¬JM n f:=by
 have d:∀i,0<i->i<n->Az f i<n:=fun i c hi=>by have:=(h3 i c hi).2.1;unfold Az;omega
 constructor
 ·rintro⟨i,c,hi,g⟩ h5;obtain⟨t,a,b⟩:=(QZ h2 h3 (d i c hi) _).1 g;refine h5 i t c hi ((UO h3 c hi t).2 a) ?_;rw[Rf h3 c hi t (fun s hs=>a s oa),NO];exact b
 ·intro h5;by_cases h:P7 n f
  ·exact h
  ·refine absurd (fun i t c hi hu e=>h ⟨i,c,hi,(QZ h2 h3 (d i c hi) _).2 ⟨t,(UO h3 c hi t).1 hu,?_⟩⟩) h5;have a:=(UO h3 c hi t).1 hu;rw[Rf h3 c hi t (fun s hs=>a s oa),NO]at e;exact e
theorem PY{l:TypeId}(h:Nodes P K l w f b0 n B Z M)(h2:BD f)(h3:BK n f):(∀i,i<n->Z i=i)↔Gi n f:=by
 constructor
 ·intro hid i k h1 m hi o;have a:=h3 i oa hi;have b:=h3 k h1 oa;have e:f k=f i:=by
   obtain⟨e1,e2⟩:=o;have c:(f k).key=(f i).key:=WideShapes.bytes_inj (by rw[<-AaT,<-AaT];exact e2);have d:(f k).count=(f i).count:=by rw[b.2.2.1,a.2.2.1,e1]
   cases hk:f k;cases g:f i;rw[hk,g]at e1 c d;simp at e1 c d;rw[e1,c,d]
  have:=h.one k i oa hi e;rw[hid k oa,hid i hi]at this;omega
 ·intro h4 i hi;by_cases e:Z i=i
  ·exact e
  ·have j:Z i<i:=oj (h.le i hi);have hs:=h.same i hi;have p:1<=Z i:=by
    rcases W0 (Z i)with e0|e0
    ·rw[e0]at hs;have:=h2.1;rw[hs]at this;have:=(h3 i oa hi).1;omega
    ·exact e0
   exact absurd ⟨by rw[hs],by rw[hs]⟩ (h4 i (Z i) p j hi)
theorem Nodes.Q3{a:TypeId}(h:Nodes P K a w f b0 n B Z M)(hb:b1<=b0):Nodes P K a w f b1 n B Z M:=
 {h with base:=fun i hi=>GO hb (h.base i hi),mbase:=fun i m hi hn b=>GO hb (h.mbase i m hi hn b)}
theorem D7.lt{a:TypeId}(h:D7 a w b):b<w.heap.size:=by
 rcases h with⟨c,hc⟩|⟨es,c,hc⟩
 ·exact(GC.1 hc).1
 ·exact(GC.1 hc).1
theorem Nodes.below{a:TypeId}(h:Nodes P K a w f b0 n B Z M)(hb:B9 w w'):Nodes P K a w' f b0 n B Z M:=
 h.keep fun b hn=>hb.block b hn.lt
theorem NI{v:V9}(h:w.ownsRow base e size v n xs)(hb:a<=base):w.ownsRow a e size v n xs:=by
 obtain⟨hl,⟨c,f⟩|⟨g',cap,cur,c,d,b,h1,h2,h3,h4⟩⟩:=h
 ·exact⟨hl,.inl ⟨c,f⟩⟩
 ·exact⟨hl,.inr ⟨g',cap,cur,c,GO hb d,b,h1,h2,h3,h4⟩⟩
theorem Uq{v:V9}(h:w.ownsRow base e size v n xs)(hb:B9 w w'):w'.ownsRow base e size v n xs:=by
 obtain⟨hl,⟨b,d⟩|⟨g',cap,cur,b,c,a,h1,h2,h3,h4⟩⟩:=h
 ·exact⟨hl,.inl ⟨b,d⟩⟩
 ·refine⟨hl,.inr ⟨g',cap,cur,b,c,?_,h1,h2,h3,h4⟩⟩;rw[hb.block g' (GC.1 a).1];exact a
def eO(w0:Y)(n:Nat)(f:Nat->A3)(e:Ending)(w:Y):Prop:=
 (∃r:Int,e=.returned (.tuple #[N9,J r])/\r=Ax n f/\r≠0)\/
 (∃g a B Z M,e=.returned (.tuple #[S9 g n a,J 0])/\Ax n f=0/\Cn w f w0.heap.size n B Z M/\(∀i,i<n->Z i=i)/\(g<w.heap.size/\w.ownsRow w0.heap.size 163 1 (S9 g n a) n (ptrs B n))/\∀i,i<n->w.cell? (G g i)=some (Q9 (B i)))
theorem SA(p q:Int)(k l:ByteArray)(c d:Int)(w:Y):(binOp .neq 205 (Sh p k c) (Sh q l d)).run Tryz.prog w=.ok (.bool (!(p==q&&(k.toList==l.toList&&c==d)))) w:=by
 go_simp;by_cases h1:p=q<;>by_cases h2:k.toList=l.toList<;>by_cases h3:c=d<;>simp[h1,h2,h3]
theorem ML.cases{e:Ending}{p:Prop}(h:ML e p):(e=.returned (.bool true)/\p)\/(e=.returned (.bool false)/\¬p):=by
 obtain⟨r,rfl,a⟩:=h;cases r
 ·exact .inr ⟨rfl,fun h=>by have:=a.2 h;cases this⟩
 ·exact .inl ⟨rfl,a.1 rfl⟩
theorem Wy(b n cap:Nat)(f:Nat->A3)(w:Y)(hA:Cl w b n f)(hn:n<=1048576):
  C9 110 #[.agg #[S9 b n cap]] w fun e w'=>eO w n f e w'/\B9 w w':=by
 have hl:=hA.lt;have HA:=O hA;have A:0<n->w.cell? (G b 0)=some (J (f 0).parent):=fun h=>by simpa using (hA.cells h).1
 have C:0<n->w.cell? (G b 1)=some (.string (f 0).key):=fun h=>by simpa using (hA.cells h).2.1
 have D:0<n->w.cell? (G b 2)=some (J (f 0).count):=fun h=>by simpa using (hA.cells h).2.2
 clear hA;by_cases h1:D8 n
 case neg=>
  have HR:=O (Wh (f:=f) h1);by_cases h0:n=0
  focus
   subst h0
  rotate_left
  focus
   have h2:200<n:=by unfold D8 at h1;omega
  rotate_left;all_goals
   clear h1 A C D
   go_enter Tryz.func110,Tryz.ntmps110
   go_wp2
   go_ret2
   exact⟨.inl ⟨1,od,HR.symm,oa⟩,n9⟩
 have E:0<n:=by unfold D8 at h1;omega
 have c0:=A E;have c1:=C E;have c2:=D E;have h3:(n:Int)<=200:=by unfold D8 at h1;omega
 have I:=O h1;clear h1 A C D;have c:=O ((Cs w.heap.size w).alloc (Be _) (.cells #[S9 b n cap] 38))
 go_enter Tryz.func110,Tryz.ntmps110
 go_wp2;obtain⟨W,x⟩:∃W,W=w.alloc (.cells #[S9 b n cap] 38):=⟨_,rfl⟩;rw[<-x];have x0:W.cell? (y w 0)=some (S9 b n cap):=by rw[x];simp[go_sem]
 have d0:W.cell? (G b 0)=some (J (f 0).parent):=by rw[x,GP _ _ _ hl];exact c0
 have d1:W.cell? (G b 1)=some (.string (f 0).key):=by rw[x,GP _ _ _ hl];exact c1
 have d2:W.cell? (G b 2)=some (J (f 0).count):=by rw[x,GP _ _ _ hl];exact c2
 have R:W.heap.size=w.heap.size+1:=by rw[x];simp
 have S:b<W.heap.size:=oa;have F:w.heap.size<W.heap.size:=oa;rw[<-x]at c;clear x c0 c1 c2 R;refine qr W ?_;refine N (h:=N (h:=N (h:=N (h:=?_))));refine GS (fun K hK=>?_);go_simp;refine⟨_,fun w' H=>qk H (Jg _),hK _ ?_⟩;clear hK K;refine GS (fun K hK=>?_);by_cases h2:BD f
 case neg=>
  have j:∀w:World,(binOp .neq 205 (Sh (f 0).parent (f 0).key (f 0).count) (Sh (-1) ⟨#[]⟩ 0)).run Tryz.prog w=.ok (.bool true) w:=fun w=>by
   rw[SA];have:((f 0).parent==-1&&((f 0).key.toList==(⟨#[]⟩:ByteArray).toList&&(f 0).count==0))=false:=by
    cases hb:((f 0).parent==-1&&((f 0).key.toList==(⟨#[]⟩:ByteArray).toList&&(f 0).count==0))with
    |false=>rfl
    |true=>simp at hb;exact absurd ⟨hb.1,by simpa using hb.2.1,hb.2.2⟩ h2
   rw[this];rfl
  go_simp;refine⟨_,fun w' H=>rfl,hK _ ?_⟩;clear hK K;refine H7 ?_;intro w2 a;have q:=O (Wi I h2);have k:=O (oo c a);clear a j h2;go_wp2
  go_ret2
  exact⟨.inl ⟨2,od,q.symm,oa⟩,k⟩
 have j:∀w:World,(binOp .neq 205 (Sh (f 0).parent (f 0).key (f 0).count) (Sh (-1) ⟨#[]⟩ 0)).run Tryz.prog w=.ok (.bool false) w:=fun w=>by
  rw[SA,SQ h2];simp
 go_simp;refine⟨_,fun w' H=>rfl,hK _ ?_⟩;clear hK K;refine H7 ?_;intro w2 a;have k:=O (oo c a);have y2:w2.cell? (y w 0)=some (S9 b n cap):=(a.cell (by exact F)).trans x0;have z2:w.heap.size<w2.heap.size:=At F a.size;have l:=O h2;clear a j h2 x0 d0 d1 d2 S F c;go_wp2_with fail;refine(O0 b n cap f _ (HA.below k hl) oa l).mono ?_;rintro e w3 ⟨T,s⟩;have y3:w3.cell? (y w 0)=some (S9 b n cap):=(s.cell (by exact z2)).trans y2;have z3:w.heap.size<w3.heap.size:=At z2 s.size;have t:=O (oo k s);clear s y2 z2;rcases T.cases with⟨rfl,m⟩|⟨rfl,m⟩
 case inr=>
  have q:=O (Wj I l m);clear m T;go_wp2
  go_ret2
  exact⟨.inl ⟨3,od,q.symm,oa⟩,t⟩
 have u:=O m;clear m T;go_wp2_with fail;refine(Xa b n cap f _ (HA.below t hl) I l u).mono ?_;rintro e w4 ⟨⟨g,U,B,Z,M,rfl,hN,⟨hg,L⟩,hp⟩,P⟩;have V:=O L;clear L;have o:=O (oo t P);have p:=O hN;have X:=O hp;have HZ:=O (Aax z3);clear P hN hp y3;go_wp2_with fail;refine(QB _ f _ n g U B Z M p X oa).mono ?_;rintro e w5 ⟨⟨r,rfl,v⟩,rfl⟩;cases r
 case true=>
  have h4:¬Gi n f:=fun h4=>by
   have:=v.2 ((PY p l u).2 h4);cases this
  have q:=O (Wk I l u h4);clear h4 v;go_wp2
  go_ret2
  exact⟨.inl ⟨4,od,q.symm,oa⟩,o⟩
 have hid:=v.1 rfl;have H4:=O ((PY p l u).1 hid);have HI:=O hid;clear v hid;go_wp2_with fail;refine(Lc _ f _ n g U B Z M p HI l u X oa).mono ?_;rintro e w6 ⟨⟨r,rfl,v⟩,Q⟩;have d:=O Q;clear Q;cases r
 case true=>
  have q:=O (Wl I l u H4 ((EY l u).1 (v.1 rfl)));clear v;go_wp2
  go_ret2
  exact⟨.inl ⟨5,od,q.symm,oa⟩,oo o d⟩
 have h5:JM n f:=AaJ fun h5=>by
  have:=v.2 ((EY l u).2 h5);cases this
 have q:=O (KR I l u H4 h5);clear v h5;go_wp2
 go_ret2
 refine⟨.inr ⟨g,U,B,Z,M,od,q,?_,HI,⟨At hg d.size,NI (Uq V d) HZ⟩,fun i hi=>(d.cell (by exact hg)).trans (X i hi)⟩,oo o d⟩;exact(p.below d).Q3 HZ
theorem TP(w:Y)(f:Nat->A3)(b0 n:Nat)(B Z:Nat->Nat)(M:Nat->Option Nat)(h:Cn w f b0 n B Z M)(hid:∀i,i<n->Z i=i)(h2:BD f)(h3:BK n f)(i:Nat)(hi:i<n):
  C9 94 #[Q9 (B i)] w fun e w'=>(∃m,e=.returned (S9 m (nf f i) (nf f i))/\w.heap.size<=m/\dY w' m (nf f i) (Dr f i))/\B9 w w':=by
 obtain⟨F,H⟩:=Ba (k:=n) h2 (fun j h1 h2=>h3 j h1 h2) i hi;obtain⟨c,hc⟩:∃c:Nat,(f i).count=c:=⟨(f i).count.toNat,oa⟩;have q:nf f i=c:=by unfold nf;omega
 have af:c<=12:=oa;have I:=run_make_row' (P:=Tryz.prog) 99 9 (E9) 16 Tryz.underlying99 Vm rfl .i64 .i64 c oa oa;obtain⟨_,_,a3,_,_⟩:=Du h hid hi;rw[hc]at a3;have s:∀j,j<n->B j<w.heap.size:=fun j hj=>h.lt hj;have K:=O s;have HH:=O h;have HI:=O hid;have L:=O h2;have E:=O h3;have u:=O q;clear h hid h2 h3 hc q s F H
 go_enter Tryz.func94,Tryz.ntmps94
 go_wp2;clear a3 I;go_loopw [4] (fun v wr=>∃(t j:Nat) (g:Nat->Value),t<=c/\v=Q9 (B j)/\j=DG f i t/\j<n/\B9 w wr/\wr.rowIs w.heap.size 9 c g/\∀j,c-t<=j->j<c->g j=.string (Dr f i j)) (fun v wr=>PF v wr)
 case atStart=>exact⟨0,i,fun _=>E9,oa,rfl,rfl,hi,n9,World.rowIs_made w (E9) c 9,fun j h1 h2=>oa⟩
 case round=>
  obtain⟨t,p,g,ht,rfl,Q,d,hb,a,b⟩:=hrel;obtain⟨R,x⟩:=Ez L E hi t (by rw[z u];exact ht);rw[z u,<-Q]at x;have HP:=O Q;clear Q R;obtain⟨c0,c2,c3,c4,_⟩:=Du (HH.below hb) HI d;have hq:∀j,j<n->wr.cell? (G (B j) 0)=some (J j):=fun j hj=>(Du (HH.below hb) HI hj).1;have ah:B p<wr.heap.size:=At (K p d) hb.size;have ag:B p≠w.heap.size:=Nat.ne_of_lt (K p d);have HQ:=O hq;clear hq;by_cases A:p=0
  ·subst A;rw[show CO f B 0=none by unfold CO;rw[DD rfl]]at c4;have C:c=t:=oj L.2.2;subst C;have S:=O hb;have T:=O a;have l:=O b;clear hb a b;go_wp2;go_ret;refine⟨⟨w.heap.size,by rw[z u];rfl,Be _,?_⟩,S⟩;rw[z u];exact T.congr fun j hj=>l j oa hj
  ·rw[show CO f B p=some (G (B (Az f p)) 0) by unfold CO;rw[C3 A]]at c4;have o:0<p:=oa;have U:=(E p o d).1;have V:=(E p o d).2.1;have C:t<c:=oj (Gm L E d o).1;obtain⟨r,hr⟩:∃r:Nat,r+1=c-t:=⟨c-t-1,oa⟩;have er:(f p).count=(r:Int)+1:=oa;rw[er]at c3;have W:r<c:=oa;have d0:=a.cell W;have d1:=a.frozen r;have ai:=a.lt;have HF:Hid (Dr f i r=(f p).key):=O (by unfold Dr;rw[z u,show c-1-r=t by omega,<-z HP]);have D:DG f i (t+1)=Az f p:=by show(f (DG f i t)).parent.toNat=_;rw[<-z HP]
   have X:Az f p<p:=by unfold Az;omega
   have ad:=O D;have S:=O hb;have T:=O a;have l:=O b;have HE:=O er;clear hb a b er x U V D;go_wp2
   go_region
   go_wp2;go_roundw
   case rel=>
    refine⟨t+1,Az f p,_,oa,rfl,ad.symm,oa,(S.setCell (by exact Be _) _).drew,(T.set r _).drew,fun j h1 h2=>?_⟩;by_cases e:j=r
    ·subst e;simp[z HF]
    ·simp only[e,Tn];exact l j oa h2
   case measure=>
    have hs:Az f p<n:=oa;have ae:B (Az f p)≠w.heap.size:=Nat.ne_of_lt (K _ hs);rw[Kb c0,Kb (n:=Az f p)]
    ·exact X
    ·exact(As (A0 _ _ _ _ ae)).trans (HQ _ hs)
end
section
open Go.RowKit
theorem Qk(f:Nat->A3)(i t:Nat):∀s,DG f (DG f i t) s=DG f i (t+s)
 |0=>rfl
 |s+1=>by
  show(f (DG f (DG f i t) s)).parent.toNat=_;rw[Qk f i t s];rfl
theorem Mi(h2:BD f)(h3:BK n f){i:Nat}(hi:i<n){t:Nat}(a:t<nf f i):0<DG f i t:=by
 have:=(Ez h2 h3 hi t oa).2;rcases W0 (DG f i t)with e|e
 ·rw[e,h2.2.2]at this;omega
 ·exact e
theorem Rr(h2:BD f)(h3:BK n f){i:Nat}(hi:i<n){t:Nat}(c:∀s,s<=t->0<DG f i s):t<nf f i:=by
 by_cases h:t<nf f i
 ·exact h
 ·obtain⟨a,b⟩:=Ez h2 h3 hi (nf f i) (Be _);have:=(Gm h2 h3 a (c (nf f i) oa)).1;omega
theorem KP(h2:BD f)(h3:BK n f)(h5:JM n f){i:Nat}(hi:i<n){t u:Nat}(d:t<u)(hu:u<nf f i):(f (DG f i t)).key.toList≠(f (DG f i u)).key.toList:=by
 intro e;have b:=Mi h2 h3 hi (show t<nf f i by omega);have c:=(Ez h2 h3 hi t oa).1;have hs:Az f (DG f i t)=DG f i (t+1):=rfl;have a:Az f (DG f i t)<n:=by have:=(h3 _ b c).2.1;unfold Az;omega
 refine(EY h2 h3).1 ⟨DG f i t,b,c,?_⟩ h5;refine(QZ h2 h3 a _).2 ⟨u-t-1,fun s g=>?_,?_⟩
 ·rw[hs,Qk];exact Mi h2 h3 hi oa
 ·rw[hs,Qk,show t+1+(u-t-1)=u by omega];exact e.symm
theorem Ze(h2:BD f)(h3:BK n f)(h5:JM n f){i:Nat}(hi:i<n)(key:ByteArray){j:Nat}(hj:j<nf f i)(e:(Dr f i j).toList=key.toList):BO f i key=j:=by
 have k:=IW f i key;have g:∀s,s<=nf f i-1-j->0<DG f i s:=fun s hs=>Mi h2 h3 hi oa;have e':(f (DG f i (nf f i-1-j))).key.toList=key.toList:=e;rcases k with⟨t,a,b,_,d⟩|⟨_,c⟩
 ·have l:=Rr h2 h3 hi a;have:t=nf f i-1-j:=by
   rcases Nat.lt_trichotomy t (nf f i-1-j)with h|h|h
   ·exact absurd (b.trans e'.symm) (KP h2 h3 h5 hi h oa)
   ·exact h
   ·exact absurd (e'.trans b.symm) (KP h2 h3 h5 hi h l)
  have hc:=(Ez h2 h3 hi t oa).2;rw[d,hc];omega
 ·exact absurd e' (c _ g)
theorem SJ(h2:BD f)(h3:BK n f){i:Nat}(hi:i<n)(key:ByteArray)(e:∀j,j<nf f i->(Dr f i j).toList≠key.toList):BO f i key=-1:=by
 have g:=IW f i key;rcases g with⟨t,a,b,_,d⟩|⟨c,_⟩
 ·have h:=Rr h2 h3 hi a;refine absurd ?_ (e (nf f i-1-t) oa);show(f (DG f i (nf f i-1-(nf f i-1-t)))).key.toList=_;rw[show nf f i-1-(nf f i-1-t)=t by omega];exact b
 ·exact c
theorem Nq(b n cap i:Nat)(key:ByteArray)(f:Nat->A3)(w:Y)(hA:Cl w b n f)(h1:D8 n)(h2:BD f)(h3:BK n f)(h5:JM n f)(hi:i<n):
  C9 140 #[.agg #[S9 b n cap],J i,.string key] w (R9 (J (BO f i key)) w):=by
 have hl:=hA.lt;have r:nf f i<=12:=by have:=(Ba (k:=n) h2 (fun j h1 h2=>h3 j h1 h2) i hi).2;unfold nf;omega
 obtain⟨m,A⟩:∃m,nf f i=m:=⟨_,rfl⟩;have s:=O A;have C:=O hA;have D:=O h1;have t:=O h2;have u:=O h3;have E:=O h5;have B:m<=12:=oa;clear hA h1 h2 h3 h5 A r;have a:B9 w (w.alloc (.cells #[S9 b n cap] 38)):=n9
 go_enter Tryz.func140,Tryz.ntmps140
 go_wp2_with fail
 refine(GK b n cap i f _ (C.below a hl) D t u hi).mono ?_;rintro e w1 ⟨⟨g,rfl,L,q⟩,l⟩;rw[z s]at q ⊢;have F:=Ok q;have o:=O (oo a l);have H:=O q;clear l a q;go_wp2;go_loopw [13] (fun v wr=>∃k:Nat,k<=m/\v=J k/\wr=w1/\∀j,j<k->(Dr f i j).toList≠key.toList) (fun v _=>m-(intOf v).toNat)
 case atStart=>exact⟨0,oa,rfl,rfl,fun j hj=>oa⟩
 case round=>
  obtain⟨k,hk,rfl,I,c⟩:=hrel;subst I;have c0:k<m->wr.cell? (G g k)=some (.string (Dr f i k)):=fun h=>World.rowIs.cell H h;have d:=O c;clear c;by_cases p:k<m
  ·have d0:=c0 p;clear c0;by_cases hK:(Dr f i k).toList=key.toList
   ·have K:((Dr f i k).toList==key.toList)=true:=by simp[hK]
    have x:=O (Ze t u E hi key (by rw[z s];exact p) hK);clear hK;go_wp2;go_ret;exact⟨by rw[z x];rfl,o⟩
   ·have K:((Dr f i k).toList==key.toList)=false:=by simp[hK]
    have HK:=O hK;clear hK;go_wp2;go_roundw
    case rel=>
     refine⟨k+1,oa,oh,trivial,fun j hj=>?_⟩;by_cases e:j=k
     ·rw[e];exact HK
     ·exact d j oa
    case measure=>simp[intOf];omega
  ·have x:=O (SJ t u hi key (fun j hj=>d j (by rw[z s]at hj;omega)));go_wp2;go_ret;exact⟨by rw[z x];rfl,o⟩
end
section
open Go.RowKit
attribute [local go_sem] Am Aj
def bare(d:Dc):Prop:=d.n=0/\d.m=0/\d.x=0/\d.used=0/\d.live=0/\d.turns=0
def OV(v:Vl):Bool:=v.ok&&v.kind !=0
def oL(s:AK)(j:Nat)(t:Tb):Prop:=(t.nv:Int)=(s.F j).count/\bare t.d/\∀i,i<t.nv->OV (t.V i)=true
def lO(s:AK)(D:Int)(t:Tb):Prop:=
 (t.shape=-1/\t.nv=0/\D=0)\/(0<=t.shape/\t.shape<s.nf/\oL s t.shape.toNat t)
def gP(s:AK)(x:Si):Prop:=x.key.size<=4000/\0<=x.EB/\0<=x.AU/\x.EB<=1000000000000/\x.AU<=1000000000000/\((x.shape=-1/\x.place=0)\/(0<=x.shape/\x.shape<s.nf/\0<=x.place/\BO s.F x.shape.toNat x.key=x.place))
open Classical in
noncomputable def I0(s:AK)(D:Nat->Int):Int:=
 if Ax s.nf s.F=0 then if s.nt<=100/\s.ns<=50 then if∀i,i<s.nt->lO s (D i) (s.T i)then if∀i,i<s.ns->gP s (s.S i)then 0 else 4 else 3 else 2 else 1
theorem ZM{s:AK}(h1:Ax s.nf s.F=0)(h2:s.nt<=100/\s.ns<=50)(h3:∀i,i<s.nt->lO s (D i) (s.T i))(h:∀i,i<s.ns->gP s (s.S i)):I0 s D=0:=by unfold I0;rw[DD h1,DD h2,DD h3,DD h]
theorem Q8{s:AK}(h:I0 s D=0):Ax s.nf s.F=0/\(s.nt<=100/\s.ns<=50)/\(∀i,i<s.nt->lO s (D i) (s.T i))/\∀i,i<s.ns->gP s (s.S i):=by
 unfold I0 at h
 split at h
 ·next h1=>
  split at h
  ·next h2=>
   split at h
   ·next h3=>
    split at h
    ·next h4=>exact⟨h1,h2,h3,h4⟩
    ·cases h
   ·cases h
  ·cases h
 ·cases h
end
section
open Go.RowKit
attribute [local go_sem] Am Aj
abbrev nV(va:T9)(vc:Nat)(la:T9)(lc:Nat)(ia:T9)(ic:Nat)(xa:T9)(xc:Nat)(t:Tb):Value:=.agg #[.slice va t.nv vc,.slice la t.d.n lc,.slice ia t.d.m ic,.slice xa t.d.x xc,J t.d.used,J t.d.live,J t.d.turns]
abbrev aI(p:Nat)(va:T9)(vc:Nat)(la:T9)(lc:Nat)(ia:T9)(ic:Nat)(xa:T9)(xc:Nat)(t:Tb):Value:=.agg #[.slice va t.nv vc,.slice la t.d.n lc,.slice ia t.d.m ic,.slice xa t.d.x xc,J t.d.used,J t.d.live,J t.d.turns,Q9 p]
end
section
open Go.ChangeShapes Go.WideShapes Go.ChangeAt Go.RowKit Go.Deep
structure Ad where
 va:Option Addr
 vc:Nat
 la:Option Addr
 lc:Nat
 ia:Option Addr
 ic:Nat
 xa:Option Addr
 xc:Nat
def Kx(v:Vl):List Value:=[J v.kind,J v.num,F9 v.Ag,.string v.str,J v.ref]
def IZ(s:Si):List Value:=[.string s.key,J s.shape,J s.place,J s.EB,J s.AU]
theorem I8.of{o:Nat}{p:Vl}(h:∀j u,(Kx p)[j]?=some u->w.cell? (G b (o+j))=some u):I8 w b o p:=
 ⟨h 0 _ rfl,h 1 _ rfl,h 2 _ rfl,h 3 _ rfl,h 4 _ rfl⟩
section
variable {H:Type} {enc:TypeId×Value->H} {P:Program} {w:Y} {base:Nat} {spare:Nat->Bool} {held:Bool}
end
end
instance:Inhabited Si:=⟨⟨⟨#[]⟩,0,0,0,0⟩⟩
instance:Inhabited Tb:=⟨⟨0,0,fun _=>default,⟨0,fun _=>default,0,fun _=>0,0,fun _=>0,0,0,0⟩⟩⟩
instance:Inhabited Ad:=⟨⟨none,0,none,0,none,0,none,0⟩⟩
section
open Go.RowKit
attribute [local go_sem] Am Aj
structure Nd (w:Y) (s:AK) (b0 g:Nat) (B N:Nat->Nat) (M:Nat->Option Nat):Prop where
 ns:Cn w s.F b0 s.nf B N M
 id:∀i,i<s.nf->N i=i
 lt:g<w.heap.size
 nI:∀i,i<s.nf->w.cell? (G g i)=some (Q9 (B i))
abbrev KD(A:Ad)(t:Tb):Value:=nV A.va A.vc A.la A.lc A.ia A.ic A.xa A.xc t
abbrev CA(p:Nat)(A:Ad)(t:Tb):Value:=aI p A.va A.vc A.la A.lc A.ia A.ic A.xa A.xc t
def Ea(d:Dc)(j:Nat):Pr:=d.L ((AM d d.n).getD j 0)
def IP(d:Dc):Nat:=(AM d d.n).length
theorem E5(hk:k<d.n)(h:(d.L k).turn≠0):Ea d (AM d k).length=d.L k:=by
 unfold Ea;obtain⟨r,a⟩:=EV (d:=d) (k:=k+1) (n:=d.n) oa;rw[Bf h]at a;rw[<-a];simp[List.getD]
theorem gG(d:Dc):IP d<=d.n:=Ff d d.n
theorem Sm(la:T9)(lc:Nat)(ia:T9)(ic:Nat)(xa:T9)(xc:Nat)(d:Dc)(w:Y)(M:UW w la d.n d.L)(P:Small d)(h2:D2 d):
  C9 170 #[Dv la lc ia ic xa xc d] w fun e w'=>(∃v,e=.returned v/\Ck w' w.heap.size v (IP d) (Ea d))/\B9 w w':=by
 obtain⟨i0,hi,u,x,A⟩:=P9 FB;have hn:=P.n;have R:=O M;have S:=O h2;clear M P h2
 go_enter Tryz.func170,Tryz.ntmps170
 go_wp2;go_loopw [9,3] (fun i o wr=>∃(k:Nat) (v:V9),k<=d.n/\i=J k/\v=o/\Ck wr w.heap.size v (AM d k).length (Ea d)/\B9 w wr) (fun i o _=>d.n-(intOf i).toNat)
 case atStart=>exact⟨0,_,oa,rfl,rfl,IF _ _ _ _,n9⟩
 case round=>
  obtain⟨k,v,hk,rfl,rfl,s,hb⟩:=hrel;by_cases g:k<d.n
  ·obtain⟨b,off,rfl,B,hcs⟩:=R.resolve_left oa;obtain⟨e0,e1,e2,e3,X,Z,e6,e7,e8,e9,C⟩:=(hcs k g).keep (fun q=>hb.cell (p:=(G b q)) B);have D:=hb.size;have T:=Ff d k;have t:=O hb;have l:=O s;clear hcs hb s;by_cases E:0<(d.L k).turn
   ·have j:(d.L k).turn≠0:=oa;have U:=O (E5 g j);have F:=O (Bf j);have V:decide (0<(d.L k).turn)=true:=by simp[E]
    have m:=O l.lt;clear j;go_wp2_with (first|(at_builtin;refine Aab _ rfl _ _ 85 rfl w.heap.size 96 i0 PZ 11 104 Tryz.underlying85 hi u x A rfl oc v (AM d k).length (pL (Ea d) (AM d k).length) rfl ((l.alloc _).alloc _) (Y9 wr 0) 1 1 (Db (d.L k)) rfl rfl (SC wr _ (Db (d.L k)) _) (Fh _) oc (by unfold maxLen;omega) oa oe _ rfl ?_;intro g3 W w3 a f H Q;have I:=O (((t.alloc oa _).alloc oe _).trans (FT f (fun q e=>(m q e).1) oe));have K:=O a;clear a f)|go_in);go_roundw
    case rel=>
     refine⟨k+1,_,oa,oh,rfl,?_,I⟩;have h:=z K;rw[z F,ON,Aai];show w3.ownsRow w.heap.size _ 11 _ _ (pL (Ea d) (AM d k).length++Db (Ea d (AM d k).length));rw[z U];exact h
    case measure=>simp[intOf];omega
   ·have c:(d.L k).turn=0:=by
     rcases S.entry g with h|h
     ·exact h.1
     ·exact absurd h.1 E
    have F:Hid (AM d (k+1)=AM d k):=O (Ce c);clear E;rw[c]at C;clear c;go_wp2;go_roundw
    case rel=>
     refine⟨k+1,_,oa,oh,rfl,?_,t.alloc D _⟩;rw[z F];exact l.alloc _
    case measure=>simp[intOf];omega
  ·have r:k=d.n:=oa;subst r;have t:=O hb;have l:=O s;clear hb s;go_wp2;go_ret;exact⟨⟨_,rfl,l⟩,t⟩
theorem QQ(b n cap Z s:Nat)(g:Nat->Value)(w:Y)(hA:w.rowIs b 3 Z g)(hN:n<=Z)(hn:n<=2000000000)(hs:s<=100000000000000):
  C9 123 #[S9 b n cap,J (s:Int)] w fun e w'=>(e=.returned (J ((s+n:Nat):Int))/\∃g',w'.rowIs b 3 Z g'/\∀j,j<n->g' j=J ((s+j:Nat):Int))/\Bu b w w':=by
 have l:=O hA;clear hA
 go_enter Tryz.func123,Tryz.ntmps123
 go_wp2;go_loopw [1,5] (fun q i wr=>∃(k:Nat) (g:Nat->Value),k<=n/\i=J (k:Int)/\q=J ((s+k:Nat):Int)/\Bu b w wr/\wr.rowIs b 3 Z g/\∀j,j<k->g j=J ((s+j:Nat):Int)) (fun _ i _=>n-(intOf i).toNat)
 case atStart=>exact⟨0,g,oa,rfl,rfl,Bu.refl _ _,l,fun j hj=>oa⟩
 case round=>
  obtain⟨k,g,hk,rfl,rfl,hb,a,d⟩:=hrel;by_cases m:k<n
  ·have d0:=a.cell (i:=k) oa;have e0:=a.frozen k;have o:=a.lt;have h:=O hb;have f:=O a;have p:=O d;clear hb a d;go_wp2;go_roundw
   case rel=>
    refine⟨k+1,_,oa,oh,oh,h.trans (Bu.set b _ _ _),f.set k (J ((s+k:Nat):Int)),fun j hj=>?_⟩;by_cases e:j=k
    ·subst e;simp
    ·simp only[e,Tn];exact p j oa
   case measure=>simp[intOf];omega
  ·have c:k=n:=oa;subst c;have h:=O hb;have f:=O (And.intro a d);clear hb a d;go_wp2;go_ret;exact⟨⟨rfl,_,f.1,f.2⟩,h⟩
def eD(s i:Nat):Pr:=
 ⟨⟨(s:Int)+11*i,(s:Int)+11*i+1,floatOfInt .f64 ((s:Int)+11*i+1+1),mark (s+11*i+3),(s:Int)+11*i+1+1+1+1⟩,
  ⟨(s:Int)+11*i+1+1+1+1+1,(s:Int)+11*i+1+1+1+1+1+1,floatOfInt .f64 ((s:Int)+11*i+1+1+1+1+1+1+1),mark (s+11*i+8),(s:Int)+11*i+1+1+1+1+1+1+1+1+1⟩,(s:Int)+11*i+1+1+1+1+1+1+1+1+1+1⟩
def PK(f:Nat->Pr)(j:Nat):Value:=((Db (f (j/11)))[j%11]?).getD undef
theorem SI(f:Nat->Pr)(k i:Nat)(hi:i<11):PK f (k*11+i)=((Db (f k))[i]?).getD undef:=by
 unfold PK;rw[show(k*11+i)/11=k by omega,show(k*11+i)%11=i by omega]
theorem Y8{Z:Nat}{g:Nat->Value}{f:Nat->Pr}(h:w.rowIs b 96 Z g)(hN:n*11<=Z)(a:∀j,j<n*11->g j=PK f j){i:Nat}(hi:i<n):Hc w b (i*11) (f i):=by
 have e:∀j,j<11->w.cell? (G b (i*11+j))=some (((Db (f i))[j]?).getD undef):=fun j hj=>by
  rw[h.cell (i:=i*11+j) oa,a _ oa,SI f i j hj]
 exact⟨e 0 oa,e 1 oa,e 2 oa,e 3 oa,e 4 oa,e 5 oa,e 6 oa,e 7 oa,e 8 oa,e 9 oa,e 10 oa⟩
theorem OQ(b n cap Z s:Nat)(g:Nat->Value)(w:Y)(hA:w.rowIs b 96 Z g)(hN:n*11<=Z)(hn:n<=2000000000)(hs:s<=100000000000000):
  C9 122 #[S9 b n cap,J (s:Int)] w fun e w'=>(e=.returned (J ((s:Int)+11*(n:Int)))/\∃g',w'.rowIs b 96 Z g'/\∀j,j<n*11->g' j=PK (eD s) j)/\Bu b w w':=by
 have Q:=O hA;clear hA
 go_enter Tryz.func122,Tryz.ntmps122
 go_wp2;go_loopw [1,5] (fun q i wr=>∃(k:Nat) (g:Nat->Value),k<=n/\i=J (k:Int)/\q=J ((s:Int)+11*(k:Int))/\Bu b w wr/\wr.rowIs b 96 Z g/\∀j,j<k*11->g j=PK (eD s) j) (fun _ i _=>n-(intOf i).toNat)
 case atStart=>exact⟨0,g,oa,rfl,od,Bu.refl _ _,Q,fun j hj=>oa⟩
 case round=>
  obtain⟨k,g,hk,rfl,rfl,hb,c,t⟩:=hrel;by_cases R:k<n
  ·have A:=c.lt;have d0:=c.cell (i:=k*11) oa;have e0:=c.frozen (k*11);have d1:=c.cell (i:=k*11+1) oa;have e1:=c.frozen (k*11+1);have d2:=c.cell (i:=k*11+2) oa;have e2:=c.frozen (k*11+2);have d3:=c.cell (i:=k*11+3) oa;have e3:=c.frozen (k*11+3);have d4:=c.cell (i:=k*11+4) oa;have B:=c.frozen (k*11+4);have d5:=c.cell (i:=k*11+5) oa;have C:=c.frozen (k*11+5);have d6:=c.cell (i:=k*11+6) oa;have D:=c.frozen (k*11+6);have d7:=c.cell (i:=k*11+7) oa;have E:=c.frozen (k*11+7);have d8:=c.cell (i:=k*11+8) oa;have u:=c.frozen (k*11+8);have d9:=c.cell (i:=k*11+9) oa;have v:=c.frozen (k*11+9);have d10:=c.cell (i:=k*11+10) oa;have h:=c.frozen (k*11+10);have l:∀w:World,_:=fun w=>A6 (s+11*k+3) oa w;have m:∀w:World,_:=fun w=>A6 (s+11*k+8) oa w;rw[show((s+11*k+3:Nat):Int)=(s:Int)+11*(k:Int)+1+1+1 by omega]at l;rw[show((s+11*k+8:Nat):Int)=(s:Int)+11*(k:Int)+1+1+1+1+1+1+1+1 by omega]at m;have S:=O l;have T:=O m;have F:=O hb;have x:=O c;have U:=O t;clear hb c t l m;go_wp2_with fail;refine(S _).mono ?_;rintro e w1 ⟨rfl,o⟩;have a:=(((x.set (k*11) (J ((s:Int)+11*(k:Int)))).set (k*11+1) (J ((s:Int)+11*(k:Int)+1))).set (k*11+2) (F9 (floatOfInt .f64 ((s:Int)+11*(k:Int)+1+1)))).of_block (o.block b (by simpa using A));have H:=a.lt;have I:=O (((((F.trans (Bu.set b (k*11) _ (J ((s:Int)+11*(k:Int))))).trans (Bu.set b (k*11+1) _ (J ((s:Int)+11*(k:Int)+1)))).trans (Bu.set b (k*11+2) _ (F9 (floatOfInt .f64 ((s:Int)+11*(k:Int)+1+1)))))).trans (Bu.of o));have K:=O a;clear o d0 e0 d1 e1 d2 e2 d3 e3 d4 B d5 C d6 D d7 E d8 u d9 v d10 h;have d3:=a.cell (i:=k*11+3) oa;have e3:=a.frozen (k*11+3);have d4:=a.cell (i:=k*11+4) oa;have B:=a.frozen (k*11+4);have d5:=a.cell (i:=k*11+5) oa;have C:=a.frozen (k*11+5);have d6:=a.cell (i:=k*11+6) oa;have D:=a.frozen (k*11+6);have d7:=a.cell (i:=k*11+7) oa;have E:=a.frozen (k*11+7);have d8:=a.cell (i:=k*11+8) oa;have u:=a.frozen (k*11+8);have d9:=a.cell (i:=k*11+9) oa;have v:=a.frozen (k*11+9);have d10:=a.cell (i:=k*11+10) oa;have h:=a.frozen (k*11+10);clear a;go_wp2_with fail;refine(T _).mono ?_;rintro e w2 ⟨rfl,p⟩;have f:=(((((K.set (k*11+3) (.string (mark (s+11*k+3)))).set (k*11+4) (J ((s:Int)+11*(k:Int)+1+1+1+1))).set (k*11+5) (J ((s:Int)+11*(k:Int)+1+1+1+1+1))).set (k*11+6) (J ((s:Int)+11*(k:Int)+1+1+1+1+1+1))).set (k*11+7) (F9 (floatOfInt .f64 ((s:Int)+11*(k:Int)+1+1+1+1+1+1+1)))).of_block (p.block b (by simpa using H));have V:=f.lt;have L:=O (((((((I.trans (Bu.set b (k*11+3) _ (.string (mark (s+11*k+3))))).trans (Bu.set b (k*11+4) _ (J ((s:Int)+11*(k:Int)+1+1+1+1)))).trans (Bu.set b (k*11+5) _ (J ((s:Int)+11*(k:Int)+1+1+1+1+1)))).trans (Bu.set b (k*11+6) _ (J ((s:Int)+11*(k:Int)+1+1+1+1+1+1)))).trans (Bu.set b (k*11+7) _ (F9 (floatOfInt .f64 ((s:Int)+11*(k:Int)+1+1+1+1+1+1+1)))))).trans (Bu.of p));have M:=O f;clear p d3 e3 d4 B d5 C d6 D d7 E d8 u d9 v d10 h;have d8:=f.cell (i:=k*11+8) oa;have u:=f.frozen (k*11+8);have d9:=f.cell (i:=k*11+9) oa;have v:=f.frozen (k*11+9);have d10:=f.cell (i:=k*11+10) oa;have h:=f.frozen (k*11+10);clear f;go_wp2;go_roundw
   case rel=>
    refine⟨k+1,_,oa,oh,oh,(((L.trans (Bu.set b (k*11+8) _ (.string (mark (s+11*k+8))))).trans (Bu.set b (k*11+9) _ (J ((s:Int)+11*(k:Int)+1+1+1+1+1+1+1+1+1)))).trans (Bu.set b (k*11+10) _ (J ((s:Int)+11*(k:Int)+1+1+1+1+1+1+1+1+1+1)))),(((M.set (k*11+8) (.string (mark (s+11*k+8)))).set (k*11+9) (J ((s:Int)+11*(k:Int)+1+1+1+1+1+1+1+1+1))).set (k*11+10) (J ((s:Int)+11*(k:Int)+1+1+1+1+1+1+1+1+1+1))),fun j hj=>?_⟩;by_cases P:j<k*11
    ·have d:∀i,i<11->j≠k*11+i:=fun i _=>oa;simp only[show j≠k*11 by omega,d 1 oa,d 2 oa,d 3 oa,d 4 oa,d 5 oa,d 6 oa,d 7 oa,d 8 oa,d 9 oa,d 10 oa,Tn];exact U j P
    ·obtain⟨i,hi,rfl⟩:∃i,i<11/\j=k*11+i:=⟨j-k*11,oa,oa⟩;rw[SI _ k i hi];rcases(by omega:i=0\/i=1\/i=2\/i=3\/i=4\/i=5\/i=6\/i=7\/i=8\/i=9\/i=10)with rfl|rfl|rfl|rfl|rfl|rfl|rfl|rfl|rfl|rfl|rfl<;>simp[Db,eD]
   case measure=>simp[intOf];omega
  ·have r:k=n:=oa;subst r;have F:=O hb;have x:=O (And.intro c t);clear hb c t;go_wp2;go_ret;exact⟨⟨rfl,_,x.1,x.2⟩,F⟩
theorem OC(b n cap s:Nat)(w:Y)(hl:b<w.heap.size)(hA:∀i,i<n->Hc w b (i*11) (eD s i))(hn:n<=2000000000)(hs:s<=100000000000000):
  C9 190 #[S9 b n cap,J (s:Int)] w (R9 (J ((s:Int)+11*(n:Int))) w):=by
 have u:=O hA;clear hA
 go_enter Tryz.func190,Tryz.ntmps190
 go_wp2;go_loopw [1,5] (fun q i wr=>∃(k:Nat),k<=n/\i=J k/\q=J ((s:Int)+11*(k:Int))/\B9 w wr) (fun _ i _=>n-(intOf i).toNat)
 case atStart=>exact⟨0,oa,rfl,od,Cs _ _⟩
 case round=>
  obtain⟨k,hk,rfl,rfl,hb⟩:=hrel;have hx:b<wr.heap.size:=At hl hb.size;by_cases o:k<n
  ·have hc:=(u k o).keep (w':=wr) (fun q=>hb.cell (p:=(G b q)) hl);have d0:wr.cell? (G b (k*11))=some (J ((s:Int)+11*(k:Int))):=hc.k0;have d1:wr.cell? (G b (k*11+1))=some (J ((s:Int)+11*(k:Int)+1)):=hc.k1;have d2:wr.cell? (G b (k*11+2))=some (F9 (floatOfInt .f64 ((s:Int)+11*(k:Int)+1+1))):=hc.k2;have d3:wr.cell? (G b (k*11+3))=some (.string (mark (s+11*k+3))):=hc.k3;have d4:wr.cell? (G b (k*11+4))=some (J ((s:Int)+11*(k:Int)+1+1+1+1)):=hc.k4;have d5:wr.cell? (G b (k*11+5))=some (J ((s:Int)+11*(k:Int)+1+1+1+1+1)):=hc.v0;have d6:wr.cell? (G b (k*11+6))=some (J ((s:Int)+11*(k:Int)+1+1+1+1+1+1)):=hc.v1;have d7:wr.cell? (G b (k*11+7))=some (F9 (floatOfInt .f64 ((s:Int)+11*(k:Int)+1+1+1+1+1+1+1))):=hc.v2;have d8:wr.cell? (G b (k*11+8))=some (.string (mark (s+11*k+8))):=hc.v3;have d9:wr.cell? (G b (k*11+9))=some (J ((s:Int)+11*(k:Int)+1+1+1+1+1+1+1+1+1)):=hc.v4;have d10:wr.cell? (G b (k*11+10))=some (J ((s:Int)+11*(k:Int)+1+1+1+1+1+1+1+1+1+1)):=hc.tn;have g2:=Ys ((s:Int)+11*(k:Int)+1+1) oa oa;have g7:=Ys ((s:Int)+11*(k:Int)+1+1+1+1+1+1+1) oa oa;have d:∀w:World,_:=fun w=>A6 (s+11*k+3) oa w;have e:∀w:World,_:=fun w=>A6 (s+11*k+8) oa w;rw[show((s+11*k+3:Nat):Int)=(s:Int)+11*(k:Int)+1+1+1 by omega]at d;rw[show((s+11*k+8:Nat):Int)=(s:Int)+11*(k:Int)+1+1+1+1+1+1+1+1 by omega]at e;have v:=O d;have x:=O e;have l:=O hb;clear hb hc d e;go_wp2;refine qr wr ?_;refine N (h:=N (h:=N (h:=N (h:=N (h:=N (h:=N (h:=?_)))))));refine GS (fun K hK=>?_);go_simp;refine⟨_,fun w' f=>qk f (v _),hK _ ?_⟩;clear hK K;refine N (h:=?_);refine H7 ?_;intro w2 a;have g:=O (oo l a);have j:b<w2.heap.size:=At hx a.size;have c4:=ol a hx d4;have c5:=ol a hx d5;have c6:=ol a hx d6;have c7:=ol a hx d7;have A:=ol a hx d8;have t:=ol a hx d9;have m:=ol a hx d10;clear a l d0 d1 d2 d3 d4 d5 d6 d7 d8 d9 d10;go_wp2;refine qr w2 ?_;refine N (h:=N (h:=N (h:=N (h:=N (h:=N (h:=N (h:=?_)))))));refine GS (fun K hK=>?_);go_simp;refine⟨_,fun w' f=>qk f (x _),hK _ ?_⟩;clear hK K;refine N (h:=?_);refine H7 ?_;intro w3 c;have r:=O (oo g c);have B:b<w3.heap.size:=At j c.size;have d9:=ol c j t;have d10:=ol c j m;clear c g c4 c5 c6 c7 A t m;go_wp2;go_roundw
   case rel=>exact⟨k+1,oa,oh,oh,r⟩
   case measure=>simp[intOf];omega
  ·have:k=n:=oa;subst this;have l:=O hb;clear hb;go_wp2;go_ret;exact⟨rfl,l⟩
def Kz(f:Nat->Pr)(n:Nat)(w:Y)(v:V9)(lo hi:Nat):Prop:=
 (n=0/\v=N9)\/∃b a Z g,v=S9 b n a/\lo<=b/\b<hi/\w.rowIs b 96 Z g/\n*11<=Z/\∀j,j<n*11->g j=PK f j
theorem Kz.keep{f:Nat->Pr}{v:V9}(h:Kz f n w v lo hi)(hk:∀b,lo<=b->b<hi->w'.heap[b]?=w.heap[b]?):Kz f n w' v lo hi:=by
 rcases h with h|⟨b,a,Z,g,h1,h2,h3,h4,h5,c⟩
 ·exact .inl h
 ·exact .inr ⟨b,a,Z,g,h1,h2,h3,RC h4 (hk b h2 h3),h5,c⟩
theorem Kz.of{f:Nat->Pr}{B:Nat}{v:V9}(h:Ck w B v n f):Kz f n w v B w.heap.size:=by
 have b:=h.lt;obtain⟨hl,⟨c,d⟩|⟨g',cap,cur,c,hb,a,h1,h2,h3,h4⟩⟩:=h
 ·exact .inl ⟨d,c⟩
 ·subst c;refine .inr ⟨g',cap,cap*11,fun j=>(cur[j]?).getD undef,rfl,hb,(b g' rfl).2,⟨cur,a,h3,fun i hi=>by simp[Aag (show i<cur.size by omega)]⟩,oa,fun j hj=>?_⟩;have h5:=Ig (f:=f) (n:=n) (i:=j/11) (j:=j%11) oa oa;rw[show j/11*11+j%11=j by omega,<-h4,AaG,DD hj,Array.getElem?_toList]at h5;show(cur[j]?).getD undef=_;rw[h5];rfl
theorem Kz.at{f:Nat->Pr}{v:V9}(h:Kz f n w v lo hi):∃a c,v=.slice a n c/\UW w a n f:=by
 rcases h with⟨d,rfl⟩|⟨b,c,Z,g,h1,h2,h3,h4,h5,e⟩
 ·subst d;exact⟨_,_,rfl,.inl rfl⟩
 ·exact⟨_,_,h1,.inr ⟨b,0,rfl,Ok h4,fun i hi=>by rw[Wx];exact Y8 h4 h5 e hi⟩⟩
theorem IK:(Tryz.prog.info? 43).map (fun i=>(i.zero,i.size,i.bytes))=some (some (V 0 0 0 ⟨#[]⟩ 0),5,48):=og
theorem J2:(Tryz.prog.info? 103).map (fun i=>(i.zero,i.size,i.bytes))=some (some (.agg #[E9,J 0,J 0,J 0,J 0]),5,48):=og
theorem Pt:(Tryz.prog.info? 94).map (fun i=>(i.zero,i.size,i.bytes))=some (some (.agg #[J 0,N9,N9,N9,N9,J 0,J 0,J 0]),8,128):=og
theorem bF(e:w'.heap[b]?=w.heap[b]?)(hl:b<w.heap.size):b<w'.heap.size:=by
 rcases Nat.lt_or_ge b w'.heap.size with h|h
 ·exact h
 ·rw[Array.getElem?_eq_none h,Aag hl]at e;cases e
def aJ(w:Y)(a:T9)(n:Nat)(f:Nat->Tb)(A:Nat->Ad):Prop:=
 n=0\/∃b off,a=some (G b off)/\b<w.heap.size/\∀i,i<n->Pd w b (off+i*8) (A i).va (A i).vc (A i).la (A i).lc (A i).ia (A i).ic (A i).xa (A i).xc (f i)/\I4 w (A i).va (f i).nv (f i).V/\G8 w (A i).la (A i).ia (A i).xa (f i).d
theorem Z7.addr{a:Option Addr}{f:Nat->Tb}(h:Z7 w a n f):∃A,aJ w a n f A:=by
 rcases h with h|⟨b,off,e,c,hc⟩
 ·exact⟨fun _=>default,.inl h⟩
 ·have h2:∀i,∃A:Ad,i<n->Pd w b (off+i*8) A.va A.vc A.la A.lc A.ia A.ic A.xa A.xc (f i)/\I4 w A.va (f i).nv (f i).V/\G8 w A.la A.ia A.xa (f i).d:=fun i=>by
   by_cases hi:i<n
   ·obtain⟨va,vc,la,lc,ia,ic,xa,xc,h1⟩:=hc i hi;exact⟨⟨va,vc,la,lc,ia,ic,xa,xc⟩,fun _=>h1⟩
   ·exact⟨default,fun h=>absurd h hi⟩
  obtain⟨A,hA⟩:=Classical.skolem.1 h2;exact⟨A,.inr ⟨b,off,e,c,hA⟩⟩
def AG(B:Nat->Nat)(A:Ad)(t:Tb):Value:=if t.shape=-1 then .iface 239 (KD A t)else .iface 236 (CA (B t.shape.toNat) A t)
def kL(B:Nat->Nat)(A:Nat->Ad)(s:AK)(k:Nat):List Value:=(List.range k).map fun i=>AG B (A i) (s.T i)
theorem bT(B:Nat->Nat)(A:Nat->Ad)(s:AK)(k:Nat):kL B A s k++[AG B (A k) (s.T k)]=kL B A s (k+1):=by
 unfold kL;rw[List.range_succ,Aaq];rfl
theorem KW{A:Nat->Ad}{s:AK}{i:Nat}(h:i<k):(kL B A s k)[i]?=some (AG B (A i) (s.T i)):=by simp[kL,h]
theorem R8:(Tryz.prog.info? 162).map (fun i=>(i.zero,i.size,i.bytes))=some (some .nilIface,1,16):=og
theorem Nd.Ni{s:AK}{g:Nat}(h:Nd w s b0 g B Z M)(hk:∀b,b0<=b->b<w.heap.size->w'.heap[b]?=w.heap[b]?)(a:w'.heap[g]?=w.heap[g]?):Nd w' s b0 g B Z M:=
 ⟨{h.ns with
  node:=fun i hi hn=>(h.ns.node i hi hn).of_block (hk _ (h.ns.base i hi) (Ok (h.ns.node i hi hn)))
  kids:=fun i m hi hn d=>by
   obtain⟨g,a,hK⟩:=h.ns.kids i m hi hn d;obtain⟨es,c,hc⟩:=a.isMap;exact⟨g,a.block (hk _ (h.ns.mbase i m hi hn d) (GC.1 hc).1),hK⟩},h.id,bF a h.lt,fun i hi=>(As a).trans (h.nI i hi)⟩
theorem Nd.Q3{s:AK}{g:Nat}(h:Nd w s b0 g B Z M)(hb:b1<=b0):Nd w s b1 g B Z M:=⟨h.ns.Q3 hb,h.id,h.lt,h.nI⟩
end
section
open Go.RowKit Go.Shelf
attribute [local go_sem] Am Aj Oper.semAt_some
structure Oo (p n0:Nat) (A B:Y):Prop where
 size:A.heap.size<=B.heap.size
 block:∀b,b<n0->b≠p->B.heap[b]?=A.heap[b]?
theorem Oo.refl(p n0:Nat)(A:Y):Oo p n0 A A:=⟨Be _,fun _ _ _=>rfl⟩
theorem Oo.trans{p:Nat}{B C:Y}(h:Oo p n0 A B)(k:Oo p n0 B C):Oo p n0 A C:=⟨GO h.size k.size,fun b h1 h2=>(k.block b h1 h2).trans (h.block b h1 h2)⟩
theorem Oo.put{p:Nat}(hn:n0<=w.heap.size)(W:Y)(l:Nat)(o o':Obj)(hl:w.heap.size<=l)(h:W.heap[l]?=some o)(_:o.isCells=false)(_:o.isWalk=false):Oo p n0 W (W.putObj l o'):=by
 have hb:=(Cs n0 W).grown (I9 W l o') (oj (GC.1 h).1) (fun k e=>by cases e;omega);exact⟨hb.size,fun b h1 _=>hb.block b h1⟩
theorem Ju{B:Y}{c:Array Value}{fz:Nat×Nat}{D:Nat}(h:A.heap[b]?=some (.cells c t fz))(d:A.grownBy B row)(f:∀r,row=some r->D<=r/\∃o:Obj,A.heap[r]?=some o/\o.isCells=false):B.heap[b]?=A.heap[b]?:=
 d.block b (GC.1 h).1 (fun e=>by
  obtain⟨_,o,a,hc⟩:=f b e.symm;rw[h]at a;cases a;cases hc)
theorem PI{B:Y}{D:Nat}{v:V9}(h:A.ownsRow base e size v n xs)(a:A.grownBy B row)(b:∀r,row=some r->D<=r/\∃o:Obj,A.heap[r]?=some o/\o.isCells=false):B.ownsRow base e size v n xs:=by
 obtain⟨hl,h|⟨g,cap,cur,h1,h2,h3,h4⟩⟩:=h
 ·exact⟨hl,.inl h⟩
 ·exact⟨hl,.inr ⟨g,cap,cur,h1,h2,(Ju h3 a b).trans h3,h4⟩⟩
section
variable {P:Program}
end
theorem OM(n:Nat)(hn:1<=n)(bk x X R2 B p n0:Nat)(E S:Nat->Nat)(d:Dc)(w:Y)(M:Jk w bk x X R2 E S d)(P:Small d)(Q:0<d.n->x<n0/\x≠p)(R:∀i,i<d.n->E i<n0/\E i≠p)
  (m0:w.cell? (G B 0)=some (Q9 bk)):
  SeqStopsK Fence.wide n Tryz.prog 248 #[Q9 B] (fun a:JL d=>#[Q9 (E a.1)]) (Oo p n0)
   (XU d) (Rl d) d.n w:=fun l Z Jx W C hJ D T U=>by
 have lm:=ID _ _ m0;have m0:=ol C lm m0;have c:=M.below C;obtain⟨a0,k0,c0,q⟩:=c.c0;have F:=O q;clear q;have lb:=c.lt;have ad:=P.n;have HY:=O T;have H0:=O U;have r:=O c;have V:=O R;clear D hJ T C U c M P R;refine callsIn_of_wp Tryz.func248 rfl trivial ?_ rfl;simp only[Tryz.ntmps248,Aau,Aae,XN,Nat.reduceAdd,Nat.reduceSub,Aam,Aal,Aav,Aas,W9,Aar]
 gi_wp2
 gi_loopw [10] (fun i wr=>∃(k:Nat) (pre:List (JL d)),k<=d.n/\i=J (k:Int)/\Hk d k pre/\Z pre wr/\Oo p n0 W wr) (fun i _=>d.n-(intOf i).toNat)
 case atStart=>exact⟨0,[],oa,rfl,rfl,H0,Oo.refl _ _ _⟩
 case round=>
  obtain⟨k,pre,hk,rfl,f,g,j⟩:=hrel;by_cases b:k<d.n
  ·obtain rfl:=z F oa;have p0:=(As (a:=(G x k)) (j.block _ (Q oa).1 (Q oa).2)).trans (r.r0 k b);have t0:=(As (a:=(G (E k) 10)) (j.block _ (V k b).1 (V k b).2)).trans (r.Cr k b).tn;have m:=O f;have s:=O j;clear f j;by_cases o:(d.L k).turn=0
   ·have A:Hid (Hk d (k+1) pre):=O (by unfold Hk;rw[Ce o];exact m);rw[o]at t0;clear o
    gi_wp2
    refine⟨fun _ h=>(by cases h),?_⟩
    gi_wp2
    go_roundw
    case rel=>exact⟨k+1,pre,oa,oh,A,g,s⟩
    case measure=>simp[intOf];omega
   ·have ae:((d.L k).turn !=0)=true:=by simp[o]
    obtain⟨fn,tmps,assign,body,hy,t⟩:=z HY pre ⟨k,b,o⟩ wr g (by
     have h1:(pre.map (·.1)).length=(AM d k).length:=congrArg List.length m;rw[AaP]at h1;have:=Ff d k;omega)
    have A:Hid (Hk d (k+1) (pre++[⟨k,b,o⟩])):=O (by
     unfold Hk;rw[Bf o,Aaq,show pre.map (·.1)=AM d k from z m];rfl)
    have H:=O t;clear t g;dsimp only at hy
    gi_wp2
    refine H.mono ?_;rintro e W3 (⟨rfl,I,K⟩|⟨rfl,u⟩)
    ·clear H hy
     gi_wp2
     go_roundw
     case rel=>exact⟨k+1,_,oa,oh,A,I,s.trans K⟩
     case measure=>simp[intOf];omega
    ·clear H hy
     gi_wp2
     refine E1 (Aay rfl _ _ _) rfl ?_;exact⟨⟨_,rfl⟩,.inr ⟨_,A.pre oa,u⟩⟩
  ·have v:k=d.n:=oa;subst v;have HS:=O f;clear f
   gi_wp2
   go_end0;exact⟨⟨_,rfl⟩,.inl ⟨pre,HS,g⟩⟩
end
end Go.Proofs.YtgmlkfgfjjggnaaGreatDoor
