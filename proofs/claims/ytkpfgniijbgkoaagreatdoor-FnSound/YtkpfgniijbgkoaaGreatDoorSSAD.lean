import Derived.Test.YtkpfgniijbgkoaaGreatDoorSSAC
set_option linter.all false
set_option maxHeartbeats 40000000
set_option maxRecDepth 100000
namespace Go.Proofs.YtkpfgniijbgkoaaGreatDoor
open Go.Proofs.Tryz
open Go.RowKit
attribute [local go_sem] AB Aw
variable {α:Type}{p:Nat->Bool}{n i a s m B j g Z b k cp x n' M' b0 e:Nat}{v:Vl}{t:Tb}{w w1 w':Y}{f f':Nat->Br}{o:Obj}{X I:Nat->Int}{hf:Vl->Nat}{L:Nat->Pr}{P:Program}{d c:Dc}{K:Vl->Prop}{M:Nat->Option Nat}{xs:List Value}{O':Nat->Prop}{cs:Array Value}{ty:TypeId}{A:Ad}{BT B1:V9}{A':Nat->Ad}{s':AE}{ops:Array Oper}{Q:Exit->Act->World->Prop}{fn:Func}{R:Ending->World->Prop}
def AM{α:Type}(f:Nat->α)(i:Nat)(a:α):Nat->α:=λj=>if j=i then a else f j
theorem Aj{α}f i(a:α):AM f i a i=a:=by simp[AM]
theorem Ak{α}f{i j}(a:α)(h:j≠i):AM f i a j=f j:=by simp[AM,h]
def Wg(p:Nat->Bool):Nat->Nat->Int
 |0,_=>-1
 |k+1,i=>if p i then(i:Int)else Wg p k (i+1)
abbrev Y6(p:Nat->Bool)(n:Nat):Int:=Wg p n 0
def lJ(h:i<n)(hp:p i=true):Wg p (n-i) i=i:=by
 obtain⟨k,hk⟩:∃k,n-i=k+1:=⟨n-i-1,om⟩;rw[hk,Wg,DD hp]
def T6(h:i<n)(hp:p i=false):Wg p (n-i) i=Wg p (n-(i+1)) (i+1):=by
 obtain⟨k,hk⟩:∃k,n-i=k+1:=⟨n-i-1,om⟩;grind [Wg]
def lI(h:¬i<n):Wg p (n-i) i=-1:=by
 rw[show n-i=0 by omega,Wg]
theorem Lk(p:Nat->Bool):∀k i,Wg p k i=-1\/∃j:Nat,Wg p k i=(j:Int)/\i<=j/\j<i+k/\p j=true/\∀q,i<=q->q<j->p q=false
 |0,i=>.inl rfl
 |k+1,i=>by
  rw[Wg];cases hp:p i
  .rw[C3 oq];rcases Lk p k (i+1)with h|⟨j,h1,h2,h3,h4,h5⟩
   .exact .inl h
   refine .inr ⟨j,h1,om,om,h4,λq b a=>?_⟩;rcases(by omega:q=i\/i+1<=q)with rfl|h
   .exact hp
   exact h5 q h a
  rw[DD rfl];exact .inr ⟨i,rfl,Be _,om,hp,λq h1 h2=>om⟩
theorem JT p n:Y6 p n=-1\/∃j:Nat,Y6 p n=(j)/\j<n/\p j=true:=by
 grind [Lk]
theorem Hd:∀{k i},Wg p k i=-1->∀j,i<=j->j<i+k->p j=false
 |0,i,h,j,h1,h2=>om
 |k+1,i,h,j,h1,h2=>by
  rw[Wg]at h;cases hp:p i
  .rw[C3 (by rw[hp];simp)]at h;rcases(by omega:j=i\/i+1<=j)with rfl|h3
   .exact hp
   exact Hd h j h3 om
  rw[DD hp]at h;omega
structure Pl where
 n:Nat
 P:Nat->Pr
 turns:Int
instance:Inhabited Pl:=⟨⟨0,λ_=>default,0⟩⟩
structure Ds where
 nt:Nat
 T:Nat->Pl
 ns:Nat
 S:Nat->ByteArray
structure An where
 code:Int
 num:Int
 key:Vl
 val:Vl
instance:Inhabited An:=⟨⟨0,0,default,default⟩⟩
abbrev Cd:Vl:=⟨0,0,0,⟨#[]⟩,0⟩
abbrev H9(a:An):Value:=.agg #[J a.code,J a.num,J a.key.kind,J a.key.num,F9 a.key.Ah,.string a.key.str,J a.key.ref,J a.val.kind,J a.val.num,F9 a.val.Ah,.string a.val.str,J a.val.ref]
def Mx(a:An):List Value:=[J a.code,J a.num,J a.key.kind,J a.key.num,F9 a.key.Ah,.string a.key.str,J a.key.ref,J a.val.kind,J a.val.num,F9 a.val.Ah,.string a.val.str,J a.val.ref]
def BD(c:Int):An:=⟨c,0,Cd,Cd⟩
def Dx(n:Int):An:=⟨0,n,Cd,Cd⟩
def FL(v:Vl):An:=⟨0,0,Cd,v⟩
def De(v:Vl):Int:=if v.ok=true then(if v.kind=0 then 1 else if v.kind=3 then(if C1 v.Ah=true then 1 else 0)else 0)else 2
def CZ(v:Vl):Vl:=if v.ok=true then(if v.kind=0 then Cd else if v.kind=3 then(if C1 v.Ah=true then Cd else if Ce v.Ah=true then⟨2,KR v.Ah,0,⟨#[]⟩,0⟩else v)else v)else Cd
def EF v:LC v.kind v.num v.Ah v.str v.ref=KV (De v) (CZ v).kind (CZ v).num (CZ v).Ah (CZ v).str (CZ v).ref:=by
 show(if v.ok=true then _ else _)=_;grind [LC,De,CZ]
def Bz(s:ByteArray):Vl:=⟨4,0,0,s,0⟩
def Pl.FC(t:Pl)(n:Int):Int:=Y6 (λj=>decide (n<(t.P j).turn)) t.n
def Pl.next(t:Pl)(n:Int):Pr:=if t.FC n<0 then⟨Cd,Cd,0⟩else t.P (t.FC n).toNat
def Pl.has(t:Pl)(m:Int):Bool:=decide (0<=Y6 (λj=>(t.P j).key.kind==2&&(t.P j).key.num==m) t.n)
def WW(t:Pl):Nat->Nat->Nat
 |0,m=>m
 |k+1,m=>if t.has ((m:Int)+1)then WW t k (m+1)else m
def Pl.len(t:Pl):Nat:=WW t (t.n+1) 0
def Dl(op:Int):Bool:=op !=1&&op !=7
def EH(op:Int):Bool:=op==8||op==9
def H7(a:Ac)(nt ns:Nat):Int:=
 if Cx a=false then 1 else if Dl a.op=true/\(nt:Int)<=a.t then 2 else if EH a.op=true/\(ns:Int)<=a.site then 3
 else if(a.op=2\/a.op=3)/\De a.k≠0 then 4 else 0
def CO{a}(h:Cx a=true):0<=a.t/\0<=a.site/\a.k.ok=true/\a.v.ok=true/\0<=a.n/\1<=a.op/\a.op<=9:=by
 have h1:JB a=true/\1<=a.op/\a.op<=9:=by
  unfold Cx at h;cases b:JB a
  .simp[b]at h
  refine⟨rfl,?_⟩;by_cases e1:a.op=1;· omega
  grind
 grind [JB]
def oH{s}(h:s.size<=4000):(Bz s).ok=true:=by
 have a:fz 0=true:=oo;grind [Bz,Vl.ok,Bf]
theorem tH(h:v.ok=true)(hk:v.kind=4):v.str.size<=4000:=by
 unfold Vl.ok Bf at h;simp[hk]at h;omega
def Y4{a}(h:Cx a=true)(b:a.op=7):a.k.kind=4:=by
 unfold Cx at h;simp[b]at h;exact h.2.2
def FM{a}{nt ns}(h:H7 a nt ns=0):Cx a=true/\(Dl a.op=true->a.t<nt)/\(EH a.op=true->a.site<ns)/\((a.op=2\/a.op=3)->De a.k=0):=by
 unfold H7 at h;grind [H7,Dl,De]
theorem zD:∀(n m:Nat) (g:Nat->Nat),(∀j,j<m->g j<n)->(∀i j,i<m->j<m->g i=g j->i=j)->m<=n
 |0,m,g,h1,h2=>by
  rcases Aas m with h|h
  .omega
  have:=h1 0 h;omega
 |n+1,0,g,h1,h2=>om
 |n+1,m+1,g,h1,h2=>by
  have b:=h1 m om;have:=zD n m (λj=>if g j=n then g m else g j) (λj hj=>by
   show(if g j=n then g m else g j)<n;have a:=h1 j om;split
   .rename_i e
    have:g m≠n:=λe2=>oT<|h2 j m om om om;omega
   .omega) (λi j hi hj e=>by
   have e:(if g i=n then g m else g i)=(if g j=n then g m else g j):=e;split at e<;>split at e
   .exact h2 i j om om om
   .have:=h2 m j om om om;omega
   .have:=h2 i m om om om;omega
   exact h2 i j om om om)
  omega
def Pl.WC{t:Pl}(h:∀j,j<m->t.has ((j:Int)+1)=true):m<=t.n:=by
 have h':∀j,∃i,j<m->i<t.n/\(t.P i).key.num=(j:Int)+1:=λj=>by
  rcases Nat.lt_or_ge j m with hj|hj
  .have hh:=h j hj;have hh:=of_decide_eq_true hh;rcases JT (λq=>(t.P q).key.kind==2&&(t.P q).key.num==(j:Int)+1) t.n with e|⟨i,e,h1,h2⟩
   .omega
   have h2:(t.P i).key.kind=2/\(t.P i).key.num=(j:Int)+1:=by simpa using h2
   exact⟨i,λ_=>⟨h1,h2.2⟩⟩
  exact⟨0,λh=>om⟩
 refine zD t.n m (λj=>Classical.choose<|h' j) (λj hj=>(Classical.choose_spec (h' j) hj).1) λi j hi hj e=>?_;grind
theorem Yv{t:Pl}:∀k m:Nat,(∃q:Nat,m<=q/\q<m+k/\t.has ((q:Int)+1)=false)->∃q:Nat,WW t k m=q/\m<=q/\t.has ((q:Int)+1)=false/\∀j:Nat,m<=j->j<q->t.has ((j:Int)+1)=true
 |0,m,⟨q,h1,h2,_⟩=>om
 |k+1,m,⟨q,h1,h2,h3⟩=>by
  rw[WW];cases a:t.has ((m:Int)+1)
  .rw[C3 oq];exact⟨m,rfl,Be _,a,λj h1 h2=>om⟩
  rw[DD rfl];have:q≠m:=λe=>by rw[e,a]at h3;cases h3
  obtain⟨r,g1,g2,g3,g4⟩:=Yv (t:=t) k (m+1) ⟨q,om,om,h3⟩;refine⟨r,g1,om,g3,λj h5 b=>?_⟩;rcases(by omega:j=m\/m+1<=j)with rfl|h
  .exact a
  exact g4 j h b
def Pl.sH(t:Pl):t.has ((t.len:Int)+1)=false/\∀j,j<t.len->t.has ((j:Int)+1)=true:=by
 have hex:∃q:Nat,0<=q/\q<0+(t.n+1)/\t.has ((q:Int)+1)=false:=by
  rcases Classical.em (∃q:Nat,q<t.n+1/\t.has ((q:Int)+1)=false)with⟨q,h1,h2⟩|h
  .grind
  have:=Pl.WC λj hj=>by
   cases e:t.has<|(j:Int)+1
   .exact absurd ⟨j,hj,e⟩ h
   rfl
  omega
 obtain⟨q,h1,h2,h3,h4⟩:=Yv (t.n+1) 0 hex;have:t.len=q:=h1;grind
def Pl.WY{t:Pl}(h1:∀j,j<m->t.has ((j:Int)+1)=true)(h2:t.has ((m)+1)=false):t.len=m:=by
 obtain⟨g1,g2⟩:=t.sH;grind
abbrev qD(b:Bool)(p:Pr):Value:=.agg #[.bool b,J p.key.kind,J p.key.num,F9 p.key.Ah,.string p.key.str,J p.key.ref,J p.val.kind,J p.val.num,F9 p.val.Ah,.string p.val.str,J p.val.ref,J p.turn]
def ZP{a:Option Addr}cp(t:Pl)m{w}(M:VN w a t.n t.P)(hn:t.n<=500)(T:0<=m):
  C9 113 #[.slice a t.n cp,J m] w (R9 (qD (decide (0<=t.FC m))<|t.next m) w):=by
 go_enter func113,ntmps113;go_wp2;go_loopw [9] (λi wr=>∃k:Nat,k<=t.n/\i=J k/\t.FC m=Wg (λj=>decide (m<(t.P j).turn)) (t.n-k) k/\w.heap.size<wr.heap.size/\(∀o,o<12->wr.cell? (y w o)=(w.alloc<|.cells #[.bool false,J 0,J 0,F9 0,E9,J 0,J 0,J 0,F9 0,E9,J 0,J 0] 170).cell? (y w o))/\(∀o,wr.frozen? (y w o)=false)/\B9 w wr) λi _=>t.n-(intOf i).toNat
 .exact⟨0,om,rfl,rfl,oq,λo _=>rfl,λo=>oe,n9⟩
 obtain⟨k,hk,rfl,r,hz,c,s,hb⟩:=hrel;have e:=O r;have u:=O c;have r0:=(c 0 om).trans (by simp[go_sem]:_=some (.bool false));have r1:=(c 1 om).trans (by simp[go_sem]:_=some (J 0));have r2:=(c 2 om).trans (by simp[go_sem]:_=some (J 0));have C:=(c 3 om).trans (by simp[go_sem]:_=some (F9 0));have D:=(c 4 om).trans (by simp[go_sem]:_=some E9);have E:=(c 5 om).trans (by simp[go_sem]:_=some (J 0));have F:=(c 6 om).trans (by simp[go_sem]:_=some (J 0));have H:=(c 7 om).trans (by simp[go_sem]:_=some (J 0));have I:=(c 8 om).trans (by simp[go_sem]:_=some (F9 0));have K:=(c 9 om).trans (by simp[go_sem]:_=some E9);have f:=(c 10 om).trans (by simp[go_sem]:_=some (J 0));have g:=(c 11 om).trans (by simp[go_sem]:_=some (J 0));by_cases d:k<t.n
 .obtain⟨b,off,rfl,x,hcs⟩:=(z<|O M).resolve_left om;obtain⟨e0,e1,e2,e3,U,V,W,X,Z,e9,Q⟩:=(hcs k d).keep λq=>hb.cell x;have l:=O hb;by_cases hp:0<(t.P k).turn
  focus
   by_cases R:m<(t.P k).turn
   .have A:Hid<|qD (decide (0<=t.FC m)) (t.next m)=qD true (t.P k):=O (by
     have h:=e.trans (lJ d (by simp[R]));unfold Pl.next;rw[h,C3 om];simp)
    go_wp2;refine Fs (v:=qD true<|t.P k) (by simp[results,results113,go_sem,hz,r0,r1,r2,C,D,E,F,H,I,K,f,g]) rfl ⟨ql A,?_⟩;refine Below.alloc ?_ (by have:=l.size;simpa using this) _;iterate 12 (refine On ?_ (by exact Be _) _)
    exact l
   have L:=O<|e.trans<|T6 d ot
  rotate_left
  focus
   have L:=O<|e.trans<|T6 d ot
  all_goals
   go_wp2;go_roundw
   .exact⟨k+1,om,ov,L,ot,λo S=>(It _ _ _<|by exact hz).trans<|u o S,λo=>o8 ((BE wr.heap.size wr).alloc (Be _) _) hz<|s o,l.alloc l.size _⟩
   exact ow
 have A:Hid<|qD (decide (0<=t.FC m)) (t.next m)=qD false ⟨Cd,Cd,0⟩:=O (by
  have h:=e.trans (lI d);unfold Pl.next;rw[h,DD om];simp)
 have B:k=t.n:=om;subst B;go_wp2;refine Fs (v:=qD false ⟨Cd,Cd,0⟩) (by simp[results,results113,go_sem,r0,r1,r2,C,D,E,F,H,I,K,f,g]) rfl ⟨ql A,?_⟩;iterate 12 (refine On ?_ (by exact Be _) _)
 exact z<|O hb
def Pl.mJ(t:Pl)m:t.has m=true↔∃j,j<t.n/\((t.P j).key.kind=2/\(t.P j).key.num=m):=by
 rw[Pl.has];constructor
 .grind [JT]
 rintro⟨j,h1,h2,h3⟩;apply decide_eq_true;rcases JT (λj=>(t.P j).key.kind==2&&(t.P j).key.num==m) t.n with e|⟨i,e,_,_⟩
 .have:=Hd e j (To _) om;simp[h2,h3]at this
 omega
abbrev Bn(a:Ac):Array Value:=qj a
abbrev bY:Array Value:=#[J 0,J 0,J 0,J 0,F9 0,E9,J 0,J 0,J 0,F9 0,E9,J 0]
def Pl.ask(t:Pl)(a:Ac):An:=
 if a.op=4 then⟨0,(t.next a.n).turn,(t.next a.n).key,(t.next a.n).val⟩
 else if a.op=6 then Dx t.n else Dx t.len
def Nb{a:Y}(h:Below B a w)b(hb:B<=b)v0 v1 v2 v3 v4 v5 v6 e v8 v9 c d:
  Below B a ((((((((((((w.setCell (G b 0) v0).setCell (G b 1) v1).setCell (G b 2) v2).setCell (G b 3) v3).setCell (G b 4) v4).setCell (G b 5) v5).setCell (G b 6) v6).setCell (G b 7) e).setCell (G b 8) v8).setCell (G b 9) v9).setCell (G b 10) c).setCell (G b 11) d):=by
 iterate 12 (refine On ?_ (by exact hb) _)
 exact h
def ZU{la:Option Addr}cp(t:Pl)a{w}(hP:VN w la t.n t.P)(hn:t.n<=500)(hm:0<=a.n):
  C9 72 #[.slice la t.n cp,I5 a] w (R9 (H9<|t.ask a) w):=by
 obtain⟨W,f,r,_⟩:=TM w (.cells (Bn a) 34)<|.cells bY 40;have hz:w.heap.size+1<W.heap.size:=by rw[f];simp
 obtain⟨c0,c3⟩:W.cell? (y w 0)=some (J a.op)/\W.cell? (y w 3)=some (J a.n):=by rw[f];simp[go_sem]
 have hA:∀j u,bY.toList[j]?=some u->W.cell? (Y9 w j)=some u:=λj u h=>by
  rw[f,World.cell?_alloc_at _ _ _ _ oq];simpa using h
 have hF:∀q,W.frozen? (Y9 w q)=false:=λq=>by rw[f];simp[go_sem]
 rcases O (hP.below r rfl),O r,O hA,O hF with⟨HP,g,HA,HF⟩;have AN:∀{w':Y},B9 W w'->(∀j u,bY.toList[j]?=some u->w'.cell? (Y9 w j)=some u)/\(∀q,w'.frozen? (Y9 w q)=false):=λ{w'} hb=>⟨λj u h=>o7 hb hz<|HA j u h,λq=>o8 hb hz<|HF q⟩;have H:Hid (∀w':World,B9 W w'->(∀j u,bY.toList[j]?=some u->w'.cell? (Y9 w j)=some u)/\(∀q,w'.frozen? (Y9 w q)=false)):=O λw'=>AN;clear hP r hA hF AN;by_cases h4:a.op=4
 .have I:Hid<|t.ask a=⟨0,(t.next a.n).turn,(t.next a.n).key,(t.next a.n).val⟩:=O (by unfold Pl.ask;rw[DD h4]);have d4:(a.op==4)=true:=by simp[h4]
  clear h4;go_enter func72,ntmps72;go_wp2_with fail;rw[<-f];clear f;go_wp2_with fail;refine m9 (ZP cp t a.n HP hn hm) λw1 k=>?_;generalize t.next a.n=x at*;obtain⟨g1,g2⟩:=z H _ k;rcases qe g1,A0 hz k.size,O (o9 g k) with⟨⟨r0,r1,r2,R,S,T,U,V,X,Z,s,A⟩,K,L⟩;have G2:=g2;clear k g1 c0 c3;go_wp2_with fail;refine Fs (v:=H9 ⟨0,x.turn,x.key,x.val⟩) (by simp[results,results72,go_sem,K,r0,r1,r2,R,S,T,U,V,X,Z,s,A]) rfl ⟨ql I,?_⟩;refine Below.alloc ?_ (by have:=L.size;simpa using this) _;exact Nb L _ om _ _ _ _ _ _ _ _ _ _ _ _
 by_cases D:a.op=6
 .have I:Hid<|t.ask a=Dx t.n:=O (by unfold Pl.ask;rw[C3 h4,DD D]);have d4:(a.op==4)=false:=by simp[h4]
  have d6:(a.op==6)=true:=by simp[D]
  clear h4 D;go_enter func72,ntmps72;go_wp2_with fail;refine Fs (v:=H9<|Dx t.n) (by simp[results,results72,go_sem,Dx]) rfl ⟨ql I,?_⟩;exact(n9).alloc oq _
 have I:Hid<|t.ask a=Dx t.len:=O (by unfold Pl.ask;rw[C3 h4,C3 D]);have d4:(a.op==4)=false:=by simp[h4]
 have d6:(a.op==6)=false:=by simp[D]
 clear h4 D;go_enter func72,ntmps72;go_wp2_with fail;rw[<-f];clear f;go_wp2_with fail;clear c0 c3;go_loopw [6] (λi wr=>∃m:Nat,(∀j,j<m->t.has ((j:Int)+1)=true)/\i=J m/\B9 W wr) λi _=>501-(intOf i).toNat
 .exact⟨0,λj hj=>absurd hj<|P9 _,rfl,BE _ _⟩
 obtain⟨m,B,rfl,hb⟩:=hrel;rcases Pl.WC B,hb.size,O hb,O B with⟨ag,ah,HB,HM⟩;clear hb B;go_wp2_with fail;go_loopw [7,35] (λb i wq=>∃(C:Bool) (q:Nat),q<=t.n/\b=.bool C/\i=J q/\(C=true↔∃j,j<q/\((t.P j).key.kind=2/\(t.P j).key.num=(m:Int)+1))/\B9 W wq) λ_ i _=>t.n-(intOf i).toNat
 .exact⟨false,0,To _,rfl,rfl,⟨λh=>by(cases h),λ⟨j,h,_⟩=>absurd h<|P9 _⟩,HB⟩
 obtain⟨C,q,hq,rfl,rfl,l,d⟩:=hrel;rcases d.size,O d,O l with⟨c,e,ad⟩;by_cases M:q<t.n
 .obtain⟨b,off,rfl,ae,hcs⟩:=HP.resolve_left om;obtain⟨e0,e1,e2,e3,e4,e5,e6,e7,e8,e9,ai⟩:=(hcs q M).keep λj=>d.cell ae;clear hcs d l;have HS:∀x:Bool,(x=true↔C=true\/((t.P q).key.kind=2/\(t.P q).key.num=(m:Int)+1))->(x=true↔∃j,j<q+1/\((t.P j).key.kind=2/\(t.P j).key.num=(m:Int)+1)):=λx hx=>hx.trans ((or_congr ad Iff.rfl).trans ⟨λh=>h.elim (λ⟨j,h1,h2⟩=>⟨j,om,h2⟩) λh=>⟨q,om,h⟩,λ⟨j,h1,h2⟩=>by
   rcases(by omega:j<q\/j=q)with h|rfl
   .exact .inl ⟨j,h,h2⟩
   exact .inr h2⟩)
  have o:=O HS;clear HS;cases C
  .by_cases hk:(t.P q).key.kind=2
   focus
    by_cases E:(t.P q).key.num=(m:Int)+1
    .have F:=O<|o true (by simp[hk,E]);have d1:((t.P q).key.kind==2)=true:=by simp[hk]
     have d2:((t.P q).key.num==(m:Int)+1)=true:=by simp[E]
     clear hk E;go_wp2_with fail;go_roundw
     .exact⟨true,q+1,om,rfl,ov,F,e.alloc c _⟩
     exact ow
    have F:=O<|o false (by simp[hk,E]);have d1:((t.P q).key.kind==2)=true:=by simp[hk]
    have d2:((t.P q).key.num==(m:Int)+1)=false:=by simp[E]
    clear hk E
   rotate_left
   focus
    have F:=O<|o false (by simp[hk]);have d1:((t.P q).key.kind==2)=false:=by simp[hk]
    clear hk
   all_goals
    go_wp2_with fail
    go_roundw
    .exact⟨false,q+1,om,rfl,ov,F,e.alloc c _⟩
    exact ow
  have F:=O<|o true oq;go_wp2_with fail;go_roundw
  .exact⟨true,q+1,om,rfl,ov,F,e.alloc c _⟩
  exact ow
 have af:q=t.n:=om;subst af;have hh:C=t.has ((m:Int)+1):=by
  rw[Bool.eq_iff_iff,l,Pl.mJ]
 clear l M;obtain⟨g1,g2⟩:=z H _ d;obtain⟨r0,r1,r2,R,S,T,U,V,X,Z,s,A⟩:=qe g1;have K:=A0 hz c;clear g1 d;cases C
 .have HL:=O<|Pl.WY HM hh.symm;clear hh;go_wp2_with fail;refine Fs (v:=H9<|Dx m) (by simp[results,results72,go_sem,r0,r1,r2,R,S,T,U,V,X,Z,s,A,Dx]) rfl ⟨by rw[z I,z HL],?_⟩;exact Nb (o9 g e) _ om _ _ _ _ _ _ _ _ _ _ _ _
 have Q:Hid<|∀j,j<m+1->t.has ((j:Int)+1)=true:=O (λj hj=>by
  rcases(by omega:j<m\/j=m)with h|rfl
  .exact HM j h
  exact hh.symm)
 have aj:=Pl.WC Q;clear hh;go_wp2_with fail;go_roundw
 .exact⟨m+1,Q,ov,e⟩
 exact ow
def Ol(f:Nat->Br)(n:Nat):List Value:=(List.range<|n*3).map<|cellOf f
def K7 f n:(Ol f n).length=n*3:=by simp[Ol]
def IJ(h:j<n*3):(Ol f n)[j]?=some (cellOf f j):=by simp[Ol,h]
def LY f n s(hs:f n=s):Ol f n++[J s.parent,.string s.key,J s.count]=Ol f (n+1):=by
 unfold Ol;grind [show(n+1)*3=n*3+1+1+1 by omega,List.range_succ,List.range_succ,List.range_succ,Ol,Sz,SA,SB]
theorem RU{g}(h:∀i,i<n->f i=g i):Ol f n=Ol g n:=by
 refine List.map_congr_left λj hj=>?_;grind [cellOf]
abbrev ER(w:Y)(base:Nat)(v:V9)(n:Nat)(f:Nat->Br):Prop:=w.ownsRow base 108 3 v n<|Ol f n
def wA(w:Y)o x Z X:∀j u,[x,Z,X][j]?=some u->((w.alloc o).alloc<|.cells #[x,Z,X] 108).cell? (((Y9 w 0):Addr).add j)=some u:=λj u h=>by
 have hb:=DO (w.alloc o)<|.cells #[x,Z,X] 108;rw[Deep.nblk_alloc]at hb;exact Is hb j u h
def Sw{wr:Y}{o1 o2}{v u:V9}(a:∀q,v.ownBlock=some q->Z+3<=q/\q<wr.heap.size)(b:((wr.alloc o1).alloc o2).grownBy w1 v.ownBlock)(hz:Z+2<wr.heap.size)
  (x0:wr.cell? (G (Z+2) 0)=some u) (f0:wr.frozen? (G (Z+2) 0)=false):w1.cell? (G (Z+1+1) 0)=some u/\w1.frozen? (G (Z+1+1) 0)=false/\Hid (wr.grownBy w1 v.ownBlock/\∀q,q<Z+3->w1.heap[q]?=wr.heap[q]?):=by
 have c:=((AaT wr o1 _).trans<|AaT _ o2 _).trans b;have hq:∀q,q<Z+3->w1.heap[q]?=wr.heap[q]?:=λq hq=>c.block q om λe=>oT (a q e.symm).1;exact⟨(As<|hq _<|by show Z+1+1<Z+3;omega).trans x0,(GW<|hq _<|by show Z+1+1<Z+3;omega).trans f0,O ⟨c,hq⟩⟩
def WQ cap{f}{w}(hA:BQ w b n f)(hn:n<=200):
  C9 65 #[.agg #[S9 b n cap]] w λe w'=>(∃v,e=.returned (.agg #[v])/\ER w' w.heap.size v n f)/\B9 w w':=by
 have hl:=hA.lt;obtain⟨i0,hi,r,c,s⟩:=Ok J5;go_enter func65,ntmps65;go_wp2;go_loopw [9] (λi wr=>∃(k:Nat) (v:V9),k<=n/\i=J k/\wr.cell? (G (w.heap.size+2) 0)=some v/\wr.frozen? (G (w.heap.size+2) 0)=false/\wr.cell? (Y9 w 0)=some (N9)/\wr.frozen? (Y9 w 0)=false/\w.heap.size+2<wr.heap.size/\ER wr (w.heap.size+3) v k f/\B9 w wr) λi _=>n-(intOf i).toNat
 .refine⟨0,N9,om,rfl,oe,oe,oe,oe,oq,?_,((n9).alloc oq _).alloc ot _⟩;exact IF _ _ _ _
 obtain⟨k,v,hk,rfl,x0,f0,x1,f1,hz,p,hb⟩:=hrel;have c0:k<n->wr.cell? (G b<|k*3)=some (J (f k).parent):=λh=>((hA.below hb hl).cells h).1;have c1:k<n->wr.cell? (G b<|k*3+1)=some (.string (f k).key):=λh=>((hA.below hb hl).cells h).2.1;have c2:k<n->wr.cell? (G b<|k*3+2)=some (J (f k).count):=λh=>((hA.below hb hl).cells h).2.2;have t:=p.lt;by_cases d:k<n
 case neg=>
  have j:k=n:=om;subst j;have D:=x1;rcases p.2 with⟨u,x⟩|⟨g,cp,cur,u,E,_⟩
  .subst u;go_wp2;refine Fs (v:=.agg #[N9]) (by simp[results,results65,go_sem,x1]) rfl ⟨⟨_,rfl,?_⟩,hb.setCell (by show _<=w.heap.size+1;omega) _⟩;subst x;exact IF _ _ _ _
  subst u;go_wp2;refine Fs (v:=.agg #[S9 g k cp]) (by simp[results,results65,go_sem,x1]) rfl ⟨⟨_,rfl,?_⟩,hb.setCell (by show _<=w.heap.size+1;omega) _⟩;have hk:ER (wr.setCell (Y9 w 0)<|S9 g k cp) (w.heap.size+3) (S9 g k cp) k f:=p.kept (CI wr _ _)<|.inr (by simp[Value.ownBlock];omega);exact Eu hk om
 rcases c0 d,c1 d,c2 d with⟨d0,d1,d2⟩;go_wp2_with (first|(at_builtin;refine ON _ rfl _ _ 23 rfl (w.heap.size+3) 108 i0 (Sh 0 ⟨#[]⟩ 0) 3 32 underlying23 hi r c s rfl oo v k (Ol f k) rfl ((p.alloc _).alloc _) (Y9 wr 0) 1 1 [J (f k).parent,.string (f k).key,J (f k).count] rfl rfl (wA wr _ _ _ _) oh oo od om ot _ rfl ?_;intro g cp w1 a l B C;obtain⟨F,e0,H⟩:=Sw t l hz x0 f0;have A:=O a;clear a l)|go_in);obtain⟨m,hq⟩:=z H;have a:=z A;rw[LY f k (f k) rfl]at a;have I:=(a.lt g rfl).1;have o:=hb.trans ⟨m.os,m.tape,m.output,m.size,λq K=>hq q om⟩;have c:=A0 hz m.size;go_roundw
 .refine⟨k+1,S9 g (k+1) cp,om,ov,?_,?_,?_,?_,by simpa using c,a.kept (CI w1 _ _)<|.inr<|by simp[Value.ownBlock];omega,o.setCell (by show _<=w.heap.size+1+1;omega) _⟩
  .show(w1.setCell (Z9 w 0) _).cell? (Z9 w 0)=_;simp[go_sem,F]
  .rw[PC];exact e0
  .exact(As<|(At _ _ _ _<|by show w.heap.size+1≠w.heap.size+1+1;omega).trans<|hq _<|by show w.heap.size+1<w.heap.size+3;omega).trans x1
  rw[PC];exact(GW<|hq _<|by show w.heap.size+1<w.heap.size+3;omega).trans f1
 exact ow
def NC(n:Nat)(f:Nat->Br)(i:Nat)(key:ByteArray)(j:Nat):Prop:=0<j/\j<n/\(f j).parent=i/\(f j).key.toList=key.toList
def NC.unique{key}(h4:F8 n f)(hj:NC n f i key j)(hk:NC n f i key k):j=k:=by
 obtain⟨a1,a2,a3,a4⟩:=hj;obtain⟨b1,b2,b3,b4⟩:=hk;rcases Nat.lt_trichotomy j k with h|h|h
 .exact absurd ⟨a3.trans b3.symm,a4.trans b4.symm⟩ (h4 k j a1 h b2)
 .exact h
 exact absurd ⟨b3.trans a3.symm,b4.trans a4.symm⟩<|h4 j k b1 h a2
def grown(f:Nat->Br)(n i:Nat)(key:ByteArray)(j:Nat):Br:=if j=n then⟨i,key,(f i).count+1⟩else f j
def Ox(n:Nat)(f:Nat->Br)(i:Nat)(key:ByteArray)(n':Nat)(f':Nat->Br)(r:Int):Prop:=
 (∃j,NC n f i key j/\r=j/\n'=n/\f'=f)\/
 ((∀j,¬NC n f i key j)/\((f i).count=12\/n=200)/\r=-1/\n'=n/\f'=f)\/
 ((∀j,¬NC n f i key j)/\(f i).count≠12/\n≠200/\r=n/\n'=n+1/\f'=grown f n i key)
def Ox.unique{key}{f1 f2}{r1 r2}(h4:F8 n f)(h:Ox n f i key a f1 r1)(h':Ox n f i key b f2 r2):a=b/\f1=f2/\r1=r2:=by
 rcases h with⟨j,a1,a2,a3,a4⟩|⟨a1,a2,a3,a4,a5⟩|⟨a1,a2,a3,a4,a5,c⟩
 .rcases h' with⟨k,b1,b2,b3,b4⟩|⟨b1,_⟩|⟨b1,_⟩
  .have:=a1.unique h4 b1;all_goals grind [Ox]
  all_goals grind [Ox]
 all_goals grind [Ox]
def aN f(n i:Nat)key:Ol f n++[J (i),.string key,J ((f i).count+1)]=Ol (grown f n i key) (n+1):=by
 rw[<-LY (grown f n i key) n ⟨i,key,(f i).count+1⟩ (by simp[grown])];grind [grown,RU]
def ER.cells{base}(h:ER w base (S9 b n cp) n f){i}(hi:i<n):
  w.cell? (G b<|i*3)=some (J (f i).parent)/\w.cell? (G b<|i*3+1)=some (.string (f i).key)/\w.cell? (G b<|i*3+2)=some (J (f i).count):=
 ⟨by rw[Lo h _ om,IJ om,Sz],by rw[Lo h _ om,IJ om,SA],by rw[Lo h _ om,IJ om,SB]⟩
def Io{a}{v:V9}(h:w.cell? a=some v):(w.alloc o).cell? a=some v:=by rw[It _ _ _ (I9 w a h)];exact h
structure VU (ob b:Nat) (w w':Y):Prop where
 os:w'.os=w.os
 tape:w'.tape=w.tape
 output:w'.output=w.output
 size:w.heap.size<=w'.heap.size
 block:∀k,k<w.heap.size->k≠ob->k≠b->w'.heap[k]?=w.heap[k]?
 box:w'.heap[ob]?=w.heap[ob]?\/∃u,∀cs ty,w.heap[ob]?=some (.cells cs ty (0,0))->w'.heap[ob]?=some (.cells (cs.setIfInBounds 0 u) ty (0,0))
def VU.of{ob}(h:B9 w w')(a:ob<w.heap.size):VU ob b w w':=⟨h.os,h.tape,h.output,h.size,λk hk _ _=>h.block k hk,.inl<|h.block ob a⟩
def UN(ob b){n}(cp i base)(key){f}(w)(I:w.cell? (G ob 0)=some (S9 b n cp))(Z:w.frozen? (G ob 0)=false)(hO:ER w base (S9 b n cp) n f)(t:ob≠b)(g:ob<w.heap.size)(ad:base<=w.heap.size)
  (h1:DR n) (h2:Bw f) (h3:Bq n f) (hi:i<n):
  C9 108 #[Q9 ob,J i,.string key] w λe w'=>(∃r n' f',e=.returned (J r)/\Ox n f i key n' f' r/\∃b' cp',ob≠b'/\(b'=b\/w.heap.size<=b')/\w'.frozen? (G ob 0)=false/\w'.cell? (G ob 0)=some (S9 b' n' cp')/\ER w' base (S9 b' n' cp') n' f')/\VU ob b w w':=by
 rcases h1.2,Ok J5,Bh h2 (λj h1 h2=>h3 j h1 h2) i hi with⟨ax,⟨i0,ae,af,ag,ah⟩,⟨ay,az⟩⟩;clear h1 h2 h3;go_enter func108,ntmps108;go_wp2;go_loopw [14] (λv wr=>∃k:Nat,k<=n/\v=J k/\B9 w wr/\∀j,j<k->¬NC n f i key j) λv _=>n-(intOf v).toNat
 .exact⟨0,om,rfl,BE _ _,λj hj=>om⟩
 obtain⟨k,hk,rfl,hb,A⟩:=hrel;have hOr:ER wr base (S9 b n cp) n f:=hO.kept ⟨hb.os,hb.tape,hb.output,hb.size,λq hq _=>hb.block q hq⟩ (.inr<|by simp[Value.ownBlock]) (row:=none);have X:=(hb.cell<|by show ob<w.heap.size;omega).trans I;have xf:wr.frozen? (G ob 0)=false:=(GW<|hb.block ob om).trans Z;have hz:=hb.size;have B:=O A;clear A;by_cases K:k<n
 .obtain⟨d0,d1,d2⟩:=hOr.cells K;by_cases ai:k=0
  .subst ai;go_wp2;go_roundw
   .exact⟨1,om,ov,hb.alloc om _,λj hj hK=>oT hK.1⟩
   exact ow
  have DM:0<k:=om;by_cases C:(f k).parent=i
  focus
   by_cases hK:(f k).key.toList=key.toList
   .have e1:((f k).parent==(i:Int))=true:=by simp[C]
    have e2:((f k).key.toList==key.toList)=true:=by simp[hK]
    have aj:Hid<|NC n f i key k:=O ⟨DM,K,C,hK⟩;clear C hK;go_wp2;go_ret;exact⟨⟨k,n,f,rfl,.inl ⟨k,aj,rfl,rfl,rfl⟩,b,cp,t,.inl rfl,(GW (w:=wr)<|E1 _ _ _<|by show ob<wr.heap.size;omega).trans xf,Io X,hOr.alloc _⟩,.of (hb.alloc om _) g⟩
   have e1:((f k).parent==(i:Int))=true:=by simp[C]
   have e2:((f k).key.toList==key.toList)=false:=by simp[hK]
   have L:Hid<|¬NC n f i key k:=O λh=>hK h.2.2.2;clear C hK
  rotate_left
  focus
   have e1:((f k).parent==(i:Int))=false:=by simp[C]
   have L:Hid<|¬NC n f i key k:=O λh=>C h.2.2.1;clear C
  all_goals
   go_wp2;go_roundw
   .refine⟨k+1,om,ov,hb.alloc om _,λj hj=>?_⟩;by_cases e:j=k
    .rw[e];exact L
    exact B j om
   exact ow
 have E:Hid<|∀j,¬NC n f i key j:=O λj hK=>B j (oT hK.2.1) hK;obtain⟨d0,d1,d2⟩:=hOr.cells hi;by_cases d:(f i).count=12
 .have e1:((f i).count==12)=true:=by simp[d]
  have ak:=O d;clear d;go_wp2;go_ret;exact⟨⟨-1,n,f,rfl,.inr<|.inl ⟨E,.inl ak,rfl,rfl,rfl⟩,b,cp,t,.inl rfl,xf,X,hOr⟩,.of hb g⟩
 have e1:((f i).count==12)=false:=by simp[d]
 by_cases a:n=200
 .have e2:((n:Int)==200)=true:=by simp[a]
  have M:=O a;clear a;go_wp2;go_ret;exact⟨⟨-1,n,f,rfl,.inr<|.inl ⟨E,.inr M,rfl,rfl,rfl⟩,b,cp,t,.inl rfl,xf,X,hOr⟩,.of hb g⟩
 have e2:((n:Int)==200)=false:=ot;have HX:=O<|qp d a;have hw:IntKind.i64.wrap ((f i).count+1)=(f i).count+1:=oj;have aM:n+1<=200:=om;clear d d0 d1;go_wp2;have P:ob<wr.heap.size:=om;obtain⟨ns,l⟩:∃ns:List Value,ns=[J (i:Int),.string key,J ((f i).count+1)]:=⟨_,rfl⟩;have Q:Hid<|(wr.alloc<|.cells #[J (i:Int),.string key,J ((f i).count+1)] 108).drew.ownsRow base 108 3 (S9 b n cp) n<|Ol f n:=O (hOr.alloc _).drew;have R:Hid<|∀j u,ns[j]?=some u->(wr.alloc<|.cells #[J (i:Int),.string key,J ((f i).count+1)] 108).drew.cell? (((y wr 0):Addr).add j)=some u:=O (by rw[l];exact Is<|DO wr<|.cells #[J (i:Int),.string key,J ((f i).count+1)] 108);have S:ns.length=1*3:=qm l
 have D:∀u∈ns,u.oneCell'=true:=by rw[l];simp[Value.oneCell']
 have T:base<=(wr.alloc<|.cells #[J (i:Int),.string key,J ((f i).count+1)] 108).drew.heap.size:=ot;have ao:=O l;have F:Hid<|(wr.alloc<|.cells #[J (i:Int),.string key,J ((f i).count+1)] 108).drew.cell? (G ob 0)=some (S9 b n cp)/\(wr.alloc<|.cells #[J (i:Int),.string key,J ((f i).count+1)] 108).drew.frozen? (G ob 0)=false:=O ⟨Io X,(GW (w:=wr)<|E1 _ _ _ P).trans xf⟩;have m:some ob≠(Value.slice (some<|G b 0) n cp).ownBlock:=oS t;clear l
 go_region_law (refine Re _ rfl (.tmp 56) (.tmp 69) 23 rfl base 108 i0 (Sh 0 ⟨#[]⟩ 0) 3 32 underlying23 ae af ag ah rfl oo (S9 b n cp) n (Ol f n) og Q (y wr 0) 1 1 ns og S R D oo od om T _ rfl ?_;intro g3 x w3 o c p aw;have y3:w3.cell? (G ob 0)=some (S9 b n cp):=c.cell F.1 m;have e3:w3.frozen? (G ob 0)=false:=(GW<|c.block ob ot m).trans F.2;have U:=O o;have V:=O c;clear o c)
 all_goals
  have aq:ER w3 base (S9 g3 (n+1) x) (n+1)<|grown f n i key:=by
   have h:=z U;rw[z ao,aN]at h;exact h
  have ar:g3≠ob:=by
   rcases p with h|h
   .simp[Value.ownBlock]at h;omega
   simp at h;omega
  have W:VU ob b w<|w3.setCell (G ob 0)<|S9 g3 (n+1) x:=by
   have H:=z V;have s:=hb;have a6:wr.heap.size+1<=w3.heap.size:=by have:=H.size;simpa using this
   refine⟨H.os.trans s.os,H.tape.trans s.tape,H.output.trans s.output,ot,λq hq au a7=>?_,.inr ⟨S9 g3 (n+1) x,λcs ty e=>?_⟩⟩
   .rw[At _ _ _ _ au,H.block q ot (by simp[Value.ownBlock];omega)];exact(E1 wr _ q om).trans (s.block q om)
   have e':=((H.block ob ot m).trans<|(E1 wr _ ob om).trans<|s.block ob om).trans e;simp[World.setCell,Aap,e']
  have av:g3=b\/w.heap.size<=g3:=by
   rcases p with h|h
   .simp[Value.ownBlock]at h;omega
   simp at h;omega
  clear V U Q R F S D T;go_wp2;go_ret;refine⟨⟨n,n+1,grown f n i key,by first|rfl|simp,.inr<|.inr ⟨E,HX.1,HX.2,rfl,rfl,rfl⟩,g3,x,λe=>ar e.symm,av,by rw[PC];exact e3,?_,aq.kept (CI w3 _ _)<|.inr<|by simp[Value.ownBlock];omega⟩,W⟩;simp[go_sem,y3]
abbrev V7(w:Y)(b n:Nat)(f:Nat->Br):Prop:=BQ w b n f
def V7.lt(h:V7 w b n f):b<w.heap.size:=BQ.lt h
def V7.of_block(h:V7 w b n f)(e:w'.heap[b]?=w.heap[b]?):V7 w' b n f:=BQ.of_block h e
theorem ER.in{base}(h:ER w base (S9 b n cp) n f):base<=b/\V7 w b n f:=by
 obtain⟨hl,⟨c,_⟩|⟨g',cap,cur,c,hb,a,h1,h2,h3,h4⟩⟩:=h
 .cases c
 cases c;refine⟨hb,cp*3,λj=>(cur[j]?).getD undef,om,⟨cur,a,h3,λi hi=>by simp[AaP (show i<cur.size by omega)]⟩,λj hj=>?_⟩;have h5:=IJ (f:=f) hj;grind
def GV(f:Nat->Br)(n:Nat)(w:Y)(v:V9)(lo hi:Nat):Prop:=
 (n=0/\v=N9)\/(0<n/\∃b cp,v=S9 b n cp/\lo<=b/\b<hi/\V7 w b n f)
def GV.form{v}{lo hi}(h:GV f n w v lo hi):∃a cp,v=.slice a n cp:=by
 grind [GV]
def X0(h2:Bw f)(h3:Bq n f){i}(hi:i<n):∀t,Ey f i t<n:=by
 intro t
 induction t with
 |zero=>exact hi
 |succ t ih=>
  show(f<|Ey f i t).parent.toNat<n;rcases Aas (Ey f i t)with e|e
  .rw[e,h2.1];exact Aar (To _) hi
  have:=(h3 _ e ih).2.1;omega
def Y5{g}(h2:Bw f)(h3:Bq n f)(a:∀j,j<n->g j=f j){i}(hi:i<n):∀t,Ey g i t=Ey f i t:=by
 intro t
 induction t with
 |zero=>rfl
 |succ t ih=>
  show(g<|Ey g i t).parent.toNat=(f<|Ey f i t).parent.toNat;rw[ih,a _ (X0 h2 h3 hi t)]
theorem K3{g}(h2:Bw f)(h3:Bq n f)(h:∀j,j<n->g j=f j){i}(hi:i<n)key:Bj g i key=Bj f i key:=by
 refine bS.eq ?_;have e:=Y5 h2 h3 h hi;have hf:∀t,g (Ey g i t)=f (Ey f i t):=λt=>by rw[e t,h _ (X0 h2 h3 hi t)]
 rcases Kb f i key with⟨t,a,b,c,d⟩|⟨a,b⟩
 .exact .inl ⟨t,λs hs=>by rw[e s];exact a s hs,by rw[hf t];exact b,λs hs=>by rw[hf s];exact c s hs,by rw[hf t];exact d⟩
 exact .inr ⟨a,λt k=>by rw[hf t];exact b t λs hs=>by rw[<-e s];exact k s hs⟩
theorem EV{key}:∀j,j<n->grown f n k key j=f j:=λj hj=>by unfold grown;rw[C3 om]
theorem Rp{key}:grown f n k key n=⟨k,key,(f k).count+1⟩:=by simp[grown]
theorem Wy(h:Ar n f=0){k}(hk:k<n){key}(hs:key.size<=4000)(hp:Bj f k key<0)(q:∀j,¬NC n f k key j)(hc:(f k).count≠12)(hn:n≠200):Ar (n+1) (grown f n k key)=0:=by
 obtain⟨h1,h2,h3,h4,h5⟩:=Av h;have B:=Bh h2 (λj a b=>h3 j a b) k hk;have r:0<n:=om;have C:DR<|n+1:=⟨om,oT h1.2⟩;have x:Bw<|grown f n k key:=by
  rw[Bw,EV 0 r];exact h2
 have A:Bq (n+1)<|grown f n k key:=by
  intro i s hi;rw[Y0];by_cases e:i=n
  .grind [Bj,grown,EV]
  have g:i<n:=om;obtain⟨a,b,c,d,e⟩:=h3 i s g;grind [Bj,grown]
 have D:F8 (n+1)<|grown f n k key:=by
  intro i j t l hi m;unfold Twin at m;by_cases e:i=n
  .subst e;rw[EV j l,Rp]at m;exact q j ⟨om,l,m.1,m.2⟩
  rw[EV i om,EV j om]at m;exact h4 i j t l om m
 refine JY C x A D<|AaO λu=>?_;obtain⟨i,o,hi,p⟩:=(FE x A).2 u;by_cases e:i=n
 .grind [Bj,grown,K3]
 have g:i<n:=om;have v:AJ (grown f n k key) i=AJ f i:=by unfold AJ;rw[EV i g]
 have w:AJ f i<n:=by have:=(h3 i o g).2.1;unfold AJ;omega
 rw[v,K3 h2 h3 (λj hj=>EV j hj) w,EV i g]at p;exact(FE h2 h3).1 ⟨i,o,g,p⟩ h5
def sK(h2:Bw f)(h3:Bq n f){k r}{key}(hK:NC n f k key r):nf f r=nf f k+1:=by
 obtain⟨a,b,c,d⟩:=hK;have h:=(h3 r a b).2.2.1;have hp:=(h3 r a b).2.1;have hk:k<n:=om;grind [Bq,nf,Bh]
def gA{g}(a:∀j,j<n->g j=f j){i}(hi:i<n):nf g i=nf f i:=by unfold nf;rw[a i hi]
def CM(n:Int):Vl:=⟨2,n,0,⟨#[]⟩,0⟩
def AW{α:Type}(f:Nat->α)(i:Nat)(v:α):Nat->α:=λj=>if j=i then v else f j
theorem Ax{α}f i(v:α):AW f i v i=v:=DD rfl
theorem Ao{α}f{i j}(v:α)(h:j≠i):AW f i v j=f j:=C3 h
structure KeyLaw (K:Vl->Prop) (hf:Vl->Nat):Prop where
 refl:∀a,K a->AH a a=true
 symm:∀a b,K a->K b->AH a b=true->AH b a=true
 trans:∀a b c,K a->K b->K c->AH a b=true->AH b c=true->AH a c=true
 hash:∀a b,K a->K b->AH a b=true->hf a=hf b
 int:∀a b,K a->K b->a.kind=2->b.kind=2->a.num=b.num->AH a b=true
 own:∀n:Int,K<|CM n
 none:C0 (default:Vl)=true
theorem F4{a b}(h:AH a b=true):a.kind=b.kind:=by
 grind [AH]
theorem Gf{a b}(h:AH a b=true):a.num=b.num:=by
 grind [AH]
theorem Ir{a b}(h:AH a b=true):AA m a↔AA m b:=by
 unfold AA;rw[F4 h,Gf h]
def Reach(x:Nat)(X:Nat->Int)(a s:Nat):Prop:=∃t,t<x/\s=(a+t)%x/\∀j,j<t->X ((a+j)%x)≠0
def Reach.mono{Z}(h:Reach x X a s)(e:∀j,j<x->X j≠0->Z j≠0):Reach x Z a s:=by
 obtain⟨t,h1,h2,h3⟩:=h;exact⟨t,h1,h2,λj hj=>e _ (Tn _ om)<|h3 j hj⟩
structure Idx (hf:Vl->Nat) (L:Nat->Pr) (x:Nat) (X:Nat->Int) (P:Nat->Prop):Prop where
 range:∀s,s<x->X s=0\/X s=-1\/(0<X s/\P (X s-1).toNat)
 has:∀i,P i->∃s,s<x/\X s=i+1/\Reach x X (hf (L i).key%x) s
 uniq:∀s s',s<x->s'<x->0<X s->X s=X s'->s=s'
theorem Idx.congr{L'}{P b}(h:Idx hf L x X P)(a:∀i,b i↔P i)(c:∀i,P i->(L' i).key=(L i).key):Idx hf L' x X b:=
 ⟨λs hs=>(h.range s hs).imp id<|Or.imp id λe=>⟨e.1,(a _).2 e.2⟩,λi hi=>by rw[c i ((a i).1 hi)];exact h.has i<|(a i).1 hi,h.uniq⟩
def Idx.empty hf L x P(a:∀i,¬P i):Idx hf L x (λ_=>0) P:=
 ⟨λs _=>.inl rfl,λi hi=>absurd hi<|a i,λs s' _ _ h=>absurd h oq⟩
def Idx.put{P}(h:Idx hf L x X P){p s}(hp:¬P p)(hs:s<x)(f:X s<=0)(g:Reach x X (hf (L p).key%x) s):Idx hf L x (AW X s<|(p)+1) λi=>P i\/i=p:=by
 have a:∀j,j<x->X j≠0->AW X s ((p:Int)+1) j≠0:=by grind [AW]
 have b:∀t,t<x->X t≠(p:Int)+1:=by grind [Idx.range]
 refine⟨λt c=>?_,λi hi=>?_,λt t' c d h1 h2=>?_⟩
 .grind [AW,Idx.range]
 .by_cases e:i=p
  .grind [Reach,AW]
  obtain⟨t,h1,h2,h3⟩:=h.has i<|hi.resolve_right e;grind [Reach,AW]
 grind [AW,Idx.uniq]
def Idx.leave{P}(h:Idx hf L x X P){s}(hs:s<x)(d:0<X s):Idx hf L x (AW X s (-1)) λi=>P i/\(i:Int)+1≠X s:=by
 have a:∀j,j<x->X j≠0->AW X s (-1) j≠0:=by grind [AW]
 refine⟨λt b=>?_,λi hi=>?_,λt t' b c h1 h2=>?_⟩
 .grind [AW,Idx.uniq,Idx.range]
 .obtain⟨t,h1,h2,h3⟩:=h.has i hi.1;refine⟨t,h1,?_,h3.mono a⟩;grind [AW]
 grind [AW,Idx.uniq]
def Cj(X:Nat->Int):Nat->Nat
 |0=>0
 |k+1=>if X k=0 then Cj X k else Cj X k+1
theorem FH d k:BS d k=Cj d.X k:=by
 induction k with
 |zero=>rfl
 |succ k ih=>show(if _ then _ else _)=(if _ then _ else _);rw[ih]
def YV X k:Cj X k<=k:=by
 induction k with
 |zero=>exact Be _
 |succ k ih=>
  show(if X k=0 then Cj X k else Cj X k+1)<=k+1;by_cases e:X k=0
  .rw[DD e];omega
  rw[C3 e];omega
theorem Gx{X'}(h:∀j,j<k->(X j=0↔X' j=0)):Cj X k=Cj X' k:=by
 induction k with
 |zero=>rfl
 |succ k ih=>
  show(if _ then _ else _)=(if _ then _ else _);rw[ih (λj hj=>h j om)];by_cases e:X k=0
  .rw[DD e,DD ((h k om).1 e)]
  rw[C3 e,C3 (λe'=>e ((h k om).2 e'))]
def Ki k:Cj (λ_=>0) k=0:=by
 induction k with
 |zero=>rfl
 |succ k ih=>show(if _ then _ else _)=_;rw[DD rfl];exact ih
def Qf{v}(a:v≠0)(b:X s=0):∀k,Cj (AW X s v) k=Cj X k+(if s<k then 1 else 0):=by
 intro k
 induction k with
 |zero=>rfl
 |succ k ih=>
  show(if _ then _ else _)=(if _ then _ else _)+_;rw[ih];by_cases e:k=s
  .subst e;rw[Ax,C3 a,DD b,C3 om,DD om]
  rw[Ao _ _ e];by_cases e1:X k=0
  focus
   rw[DD e1,DD e1]
  rotate_left
  focus
   rw[C3 e1,C3 e1]
  all_goals
   by_cases e2:s<k
   .rw[DD e2,DD om]
   rw[C3 e2,C3 om]
def bG(h:Cj X k<k):∃j,j<k/\X j=0:=by
 induction k with
 |zero=>omega
 |succ k ih=>
  by_cases e:X k=0
  .exact⟨k,om,e⟩
  have h':(if X k=0 then Cj X k else Cj X k+1)<k+1:=h;rw[C3 e]at h';obtain⟨j,h1,h2⟩:=ih om;exact⟨j,om,h2⟩
def aJ(b:a<x)(hs:s<x):∃t,t<x/\s=(a+t)%x:=by
 by_cases h:a<=s
 .exact⟨s-a,om,by rw[show a+(s-a)=s by omega,TC hs]⟩
 refine⟨s+x-a,om,?_⟩;rw[show a+(s+x-a)=s+x by omega,Nat.add_mod_right,TC hs]
def Db(x:Nat)(X:Nat->Int)(a:Nat):Option Nat:=(Fk x a x).find? λs=>decide (X s<=0)
def Xs{f t}(h:t<f):Fk x a f=Fk x a t++((a+t)%x)::(List.range' (t+1)<|f-t-1).map λj=>(a+j)%x:=by
 unfold Fk;have:List.range f=List.range t++t::List.range' (t+1) (f-t-1):=by
  rw[List.range_eq_range',List.range_eq_range',show f=t+(f-t) by omega,<-List.range'_append_1];obtain⟨g,b⟩:∃g,f-t=g+1:=⟨f-t-1,om⟩;simp[b,List.range'_succ]
 simp[this]
theorem Ni{t}(b:t<x)(h:∀j,j<t->0<X ((a+j)%x))(c:X ((a+t)%x)<=0):Db x X a=some ((a+t)%x):=by
 rw[Db,Xs b,List.find?_append];grind [Fk]
def least{P:Nat->Prop}:∀n,(∃t,t<n/\P t)->∃t,t<n/\P t/\∀j,j<t->¬P j:=by
 intro n
 induction n with
 |zero=>rintro⟨t,h,_⟩;omega
 |succ n ih=>
  rintro⟨t,h,hp⟩;by_cases e:∃t,t<n/\P t
  .obtain⟨t,h1,h2,h3⟩:=ih e;exact⟨t,om,h2,h3⟩
  exact⟨t,h,hp,λj hj a=>e ⟨j,om,a⟩⟩
def Fp(b:a<x)(hu:Cj X x<x):∃t,t<x/\Db x X a=some ((a+t)%x)/\X ((a+t)%x)<=0/\∀j,j<t->0<X ((a+j)%x):=by
 obtain⟨s,hs,d⟩:=bG hu;obtain⟨t,c,e⟩:=aJ b hs;obtain⟨t,h1,h2,h3⟩:=least (P:=λt=>X ((a+t)%x)<=0) x ⟨t,c,by rw[<-e];omega⟩;grind [Ni]
def AY(hf:Vl->Nat)(d:Dc)(k:Vl)(p:Nat):Dc:=
 match Db d.x d.X (hf k%d.x)with
 |none=>d
 |some a=>{d with X:=AW d.X a ((p:Int)+1),used:=if d.X a=0 then d.used+1 else d.used}
def Fy{k}{p}(h:Db d.x d.X (hf k%d.x)=some a):AY hf d k p={d with X:=AW d.X a ((p:Int)+1),used:=if d.X a=0 then d.used+1 else d.used}:=by
 unfold AY;rw[h]
def O1{k}{p}{P}(h:Idx hf L d.x d.X P)(hp:¬P p)(hk:hf (L p).key=hf k)(b:Cj d.X d.x<d.x)(hu:(Cj d.X d.x:Int)=d.used):
  Idx hf L (AY hf d k p).x (AY hf d k p).X (λi=>P i\/i=p)/\(Cj (AY hf d k p).X (AY hf d k p).x:Int)=(AY hf d k p).used/\(AY hf d k p).x=d.x/\(AY hf d k p).n=d.n/\(AY hf d k p).L=d.L/\(AY hf d k p).m=d.m/\(AY hf d k p).I=d.I/\(AY hf d k p).live=d.live/\(AY hf d k p).turns=d.turns/\Cj (AY hf d k p).X d.x<=Cj d.X d.x+1:=by
 have a:0<d.x:=om;obtain⟨t,h1,h2,h3,h4⟩:=Fp (Tn _ a) b;rw[Fy h2];have hs:(hf k%d.x+t)%d.x<d.x:=Tn _ a;refine⟨h.put hp hs h3 ⟨t,h1,by rw[hk],λj hj=>by rw[hk];have:=h4 j hj;omega⟩,?_,rfl,rfl,rfl,rfl,rfl,rfl,rfl,?_⟩
 focus
  show(Cj (AW d.X ((hf k%d.x+t)%d.x)<|(p:Int)+1) d.x:Int)=if d.X ((hf k%d.x+t)%d.x)=0 then d.used+1 else d.used
  by_cases e:d.X ((hf k%d.x+t)%d.x)=0
  .rw[Qf om e,DD hs];omega
  rw[C3 e,<-hu,Gx (λj hj=>?_)]
 rotate_left
 focus
  by_cases e:d.X ((hf k%d.x+t)%d.x)=0
  .rw[Qf om e,DD hs];omega
  rw[Gx (X:=AW d.X _ _) (X':=d.X) (λj hj=>?_)]
  .omega
 all_goals
  by_cases e':j=(hf k%d.x+t)%d.x
  .subst e';rw[Ax];constructor<;>intro h<;>omega
  rw[Ao _ _ e']
structure Lg (d:Dc):Prop where
 CH:∀i,i<d.n->Entry d i
 ord:∀i j,i<j->j<d.n->(d.L i).turn≠0->(d.L j).turn≠0->(d.L i).turn<(d.L j).turn
 CX:(K0 d:Int)=d.live
def W7:∀(k) {l last:Int},CR d k=some (l,last)->((A8 d k).length:Int)=l/\(∀i j,i<j->j<k->(d.L i).turn≠0->(d.L j).turn≠0->(d.L i).turn<(d.L j).turn)/\∀i,i<k->(d.L i).turn≠0->(d.L i).turn<=last:=by
 intro k
 induction k with
 |zero=>
  intro l last h;cases h;exact⟨rfl,λi j _ hj=>om,λi hi=>om⟩
 |succ k ih=>
  intro l last h;cases e:CR d k with
  |none=>
   have:CR d (k+1)=none:=by show(match CR d k with|none=>none|some (live,last)=>_)=none;rw[e]
   rw[this]at h;cases h
  |some p=>
   obtain⟨n,i2,i3⟩:=ih e;by_cases f:(d.L k).turn=0
   .rw[Gg e f]at h;split at h
    .cases h;refine⟨by rw[Cm f];exact n,λi j c hj hi a=>?_,λi hi b=>?_⟩
     .by_cases g:j=k
      .subst g;exact absurd f a
      exact i2 i j c om hi a
     by_cases m:i=k
     .subst m;exact absurd f b
     exact i3 i om b
    cases h
   rw[Gh e f]at h;split at h
   .next hp=>
    cases h;unfold Eo at hp;simp only[AaC,decide_eq_true_eq]at hp;refine⟨by rw[Bs f,OR,Aao];omega,λi j c hj hi a=>?_,λi hi b=>?_⟩
    .by_cases g:j=k
     .subst g;have:=i3 i om hi;omega
     exact i2 i j c om hi a
    by_cases m:i=k
    .subst m;exact Int.le_refl _
    have:=i3 i om b;omega
   cases h
def D2.pO(h:D2 d):Lg d:=by
 obtain⟨last,e⟩:=h;obtain⟨h1,h2,h3⟩:=W7 _ e;exact⟨λi hi=>D2.entry ⟨last,e⟩ hi,λi j a hj=>h2 i j a hj,h1⟩
def Lg.d2(h:Lg d):D2 d:=by
 have main:∀k,k<=d.n->∃last,CR d k=some (((A8 d k).length:Int),last)/\(last=0\/∃i,i<k/\(d.L i).turn≠0/\(d.L i).turn=last):=by
  intro k
  induction k with
  |zero=>intro _;exact⟨0,rfl,.inl rfl⟩
  |succ k ih=>
   intro hk;obtain⟨last,e,hl⟩:=ih om;rcases h.CH k om with⟨b,c,f⟩|⟨b,h1,h2,h3,h4⟩
   .refine⟨last,?_,?_⟩
    .rw[Gg e b,c,f,Cm b];rfl
    rcases hl with hl|⟨i,h1,h2⟩
    .exact .inl hl
    exact .inr ⟨i,om,h2⟩
   have a:(d.L k).turn≠0:=om;have g:last<(d.L k).turn:=by
    rcases hl with hl|⟨i,g1,g2,g3⟩
    .omega
    have:=h.ord i k g1 om g2 a;omega
   refine⟨(d.L k).turn,?_,.inr ⟨k,om,a,rfl⟩⟩;have hp:Eo d.turns last (d.L k)=true:=by unfold Eo;simp[g,h1,h2,h3,h4]
   rw[Gh e a,DD hp,Bs a,OR];congr 1
 obtain⟨last,e,_⟩:=main d.n<|Be _;exact⟨last,by rw[e];congr 1;rw[<-h.CX];rfl⟩
def Uw(d:Dc)(i:Nat):Prop:=i<d.n/\(d.L i).turn≠0/\¬AA d.m (d.L i).key
structure BW (K:Vl->Prop) (hf:Vl->Nat) (d:Dc):Prop where
 log:Lg d
 keys:∀i,i<d.n->(d.L i).turn≠0->K (d.L i).key
 Kn:∀i j,i<d.n->j<d.n->(d.L i).turn≠0->(d.L j).turn≠0->AH (d.L i).key (d.L j).key=true->i=j
 ints:∀j,j<d.m->FD d j
 last:d.m=0\/0<d.I (d.m-1)
 small:∀i,i<d.n->(d.L i).turn≠0->AA d.m (d.L i).key->d.I ((d.L i).key.num-1).toNat=i+1
 sz:GB d.x
 idx:Idx hf d.L d.x d.X<|Uw d
 used:(Cj d.X d.x:Int)=d.used
 half:2*Cj d.X d.x<=d.x
 turns:0<=d.turns/\d.turns<=1000000000000
 le:d.live<=500
def Next(d:Dc):Prop:=∀i,i<d.n->(d.L i).turn≠0->¬((d.L i).key.kind=2/\(d.L i).key.num=(d.m:Int)+1)
def cU(d:Dc):Prop:=(d.n:Int)<=8\/(d.n:Int)<=2*d.live
structure Inv (K:Vl->Prop) (hf:Vl->Nat) (d:Dc):Prop where
 i0:BW K hf d
 next:Next d
 tight:cU d
def BW.d3(h:BW K hf d):D3 d:=⟨h.ints,h.last⟩
def BW.d4(h:BW K hf d):D4 d:=by
 refine⟨h.sz,λj hj=>?_,by rw[FH];exact h.used,by rw[FH];exact h.half⟩;rcases h.idx.range j hj with e|e|⟨e,h1,h2,h3⟩
 .exact .inl e
 .exact .inr (.inl e)
 exact .inr<|.inr ⟨e,om,h2,h3⟩
def Inv.d1(h:Inv K hf d):D1 d:=⟨oT h.i0.log.CX,h.i0.le,h.i0.turns.1,h.i0.turns.2,h.tight⟩
def Xn(e:0<d.x):∀(f a s),a<d.x->f<=d.x->probe d v a f=some s->0<d.X s/\AH (d.at<|d.X s).key v=true/\∃t,t<f/\s=(a+t)%d.x/\∀j,j<t->d.X ((a+j)%d.x)≠0:=by
 intro f
 induction f with
 |zero=>intro a s _ _ h;cases h
 |succ f ih=>
  intro a s c hf h;by_cases b:d.X a=0
  .rw[Fj b]at h;cases h
  by_cases hl:0<d.X a/\AH (d.at<|d.X a).key v=true
  .rw[F6 hl.1 hl.2]at h;cases h;exact⟨hl.1,hl.2,0,om,by rw[Aag,TC c],λj hj=>om⟩
  rw[Di b hl]at h;obtain⟨h1,h2,t,h3,h4,h5⟩:=ih _ _ (Tn _ e) om h;refine⟨h1,h2,t+1,om,?_,λj hj=>?_⟩
  .rw[h4,Nat.mod_add_mod];congr 1;omega
  cases j with
  |zero=>rw[Aag,TC c];exact b
  |succ j=>
   have:=h5 j om;rw[Nat.mod_add_mod]at this
   rwa [show a+(j+1)=a+1+j by omega]
def gW(i:0<d.x):∀(t a f),a<d.x->t<f->(∀j,j<t->d.X ((a+j)%d.x)≠0/\¬(0<d.X ((a+j)%d.x)/\AH (d.at<|d.X<|(a+j)%d.x).key v=true))->0<d.X ((a+t)%d.x)->AH (d.at<|d.X<|(a+t)%d.x).key v=true->probe d v a f=some ((a+t)%d.x):=by
 intro t
 induction t with
 |zero=>
  intro a f b hf _ h1 h2;obtain⟨g,rfl⟩:∃g,f=g+1:=⟨f-1,om⟩;have e:(a+0)%d.x=a:=TC b;rw[e]at h1 h2 ⊢;exact F6 h1 h2
 |succ t ih=>
  intro a f b hf h h1 h2;obtain⟨g,rfl⟩:∃g,f=g+1:=⟨f-1,om⟩;have c:=h 0 om;rw[Aag,TC b]at c;rw[Di c.1 c.2];have e:∀j,((a+1)%d.x+j)%d.x=(a+(j+1))%d.x:=λj=>by rw[Nat.mod_add_mod];congr 1;omega
  have:=ih ((a+1)%d.x) g (Tn _ i) om (λj hj=>by rw[e];exact h (j+1) om) (by rw[e];exact h1) (by rw[e];exact h2);rw[this,e]
def Xm(c:0<d.x)(h:∀s,s<d.x->¬(0<d.X s/\AH (d.at<|d.X s).key v=true)):∀(f a),a<d.x->probe d v a f=none:=by
 intro f
 induction f with
 |zero=>intro a _;rfl
 |succ f ih=>
  intro a e;by_cases b:d.X a=0
  .exact Fj b
  rw[Di b (h a e)];exact ih _<|Tn _ c
section
variable {K:Vl->Prop} {hf:Vl->Nat} {d:Dc}
def BW.found(h:BW K hf d)(l:KeyLaw K hf){v}(m:K v){i}(hi:Uw d i)(hl:AH (d.L i).key v=true):∃s,s<d.x/\d.X s=i+1/\A1 d v (hf v)=some s:=by
 obtain⟨s,hs,c,t,w,rfl,a⟩:=h.idx.has i hi;have b:=h.keys i hi.1 hi.2.1;have g:0<d.x:=om;rw[l.hash _ _ b m hl]at hs c a;refine⟨_,hs,c,?_⟩;rw[A1,C3 om];have n:(d.at<|(i:Int)+1)=d.L i:=by unfold Dc.at;congr 1;omega
 refine gW g t _ _ (Tn _ g) w (λj hj=>⟨a j hj,λhc=>?_⟩) (by rw[c];omega) (by rw[c,n];exact hl);have f:(hf v%d.x+j)%d.x<d.x:=Tn _ g;rcases h.idx.range _ f with e|e|⟨e,k⟩
 .exact a j hj e
 .omega
 have o:=h.keys _ k.1 k.2.1;have p:=l.trans _ _ _ o m b hc.2<|l.symm _ _ b m hl;have:=h.Kn _ _ k.1 hi.1 k.2.1 hi.2.1 p;have r:d.X ((hf v%d.x+j)%d.x)=d.X ((hf v%d.x+t)%d.x):=by rw[c];omega
 have u:=h.idx.uniq _ _ f hs e r;have:j=t:=by
  have h1:(hf v%d.x)<d.x:=Tn _ g;have e1:∀q,q<d.x->(hf v%d.x+q)%d.x=if hf v%d.x+q<d.x then hf v%d.x+q else hf v%d.x+q-d.x:=by
   intro q hq;by_cases e:hf v%d.x+q<d.x
   .rw[DD e,TC e]
   rw[C3 e,Nat.mod_eq_sub_mod om,TC om]
  rw[e1 j om]at u;grind
 omega
def BW.lost(h:BW K hf d){v}{a}(c:∀i,Uw d i->AH (d.L i).key v=false):A1 d v a=none:=by
 rw[A1];by_cases b:d.x=0
 .rw[DD b]
 rw[C3 b];refine Xm om (λs hs hc=>?_) _ _<|Tn _ om;rcases h.idx.range s hs with e|e|⟨e,f⟩;all_goals grind
def Ny(e:A1 d v a=some s):s<d.x/\0<d.X s/\AH (d.at<|d.X s).key v=true/\Reach d.x d.X (a%d.x) s:=by
 unfold A1 at e;split at e
 .cases e
 obtain⟨h1,h2,t,h3,h4,h5⟩:=Xn om _ _ _ (Tn _ om) (Be _) e;exact⟨by rw[h4];exact Tn _ om,h1,h2,t,h3,h4,h5⟩
def BW.place(h:BW K hf d)(b:KeyLaw K hf){v}(c:K v):
  (∃i,i<d.n/\(d.L i).turn≠0/\AH (d.L i).key v=true/\Ay d v (hf v)=i)\/((∀i,i<d.n->(d.L i).turn≠0->AH (d.L i).key v=false)/\Ay d v (hf v)=-1):=by
 rw[Ay];by_cases hs:AA d.m v
 .rw[DD hs];obtain⟨k1,k2,k3⟩:=hs;have hq:(v.num-1).toNat<d.m:=om;rcases h.ints _ hq with e|⟨e1,e2,e3,g,j⟩
  .right;refine⟨λi hi f=>?_,om⟩;cases hl:AH (d.L i).key v
   .rfl
   have:=h.small i hi f<|(Ir hl).2 ⟨k1,k2,k3⟩;rw[Gf hl]at this;omega
  grind [BW.keys,KeyLaw.int]
 rw[C3 hs];by_cases hex:∃i,i<d.n/\(d.L i).turn≠0/\AH (d.L i).key v=true
 .obtain⟨i,h1,h2,h3⟩:=hex;obtain⟨s,g1,g2,g3⟩:=h.found b c ⟨h1,h2,λhh=>hs<|(Ir h3).1 hh⟩ h3;left;refine⟨i,h1,h2,h3,?_⟩;rw[g3];show d.X s-1=_;omega
 have a:∀i,i<d.n->(d.L i).turn≠0->AH (d.L i).key v=false:=λi h1 h2=>by
  cases hl:AH (d.L i).key v
  .rfl
  exact absurd ⟨i,h1,h2,hl⟩ hex
 right;refine⟨a,?_⟩;rw[h.lost (λi hi=>a i hi.1 hi.2.1)];rfl
end
def OW{f:Nat->Int}(h:∀j,j<k->f j≠(i)+1):CX f i k=0:=by
 induction k with
 |zero=>rfl
 |succ k ih=>
  show(if _ then _ else _)=0;rw[C3 (h k om)];exact ih λj hj=>h j om
def X3{f:Nat->Int}:∀{k:Nat},s<k->f s=(i)+1->(∀j,j<k->f j=(i)+1->j=s)->CX f i k=1:=by
 intro k
 induction k with
 |zero=>intro h;omega
 |succ k ih=>
  intro hs h1 h2;show(if _ then _ else _)=1;by_cases e:k=s
  .subst e;rw[DD h1,OW (λj hj e'=>oT (h2 j om e'))]
  rw[C3 (λe'=>e (h2 k om e'))];exact ih om h1 λj hj=>h2 j om
def lM{f:Nat->Int}(hs:s<k)(h:f s=(i)+1):1<=CX f i k:=by
 induction k with
 |zero=>omega
 |succ k ih=>
  show 1<=(if f k=(i:Int)+1 then CX f i k+1 else CX f i k);by_cases e:f k=(i:Int)+1
  .rw[DD e];omega
  rw[C3 e];exact ih (by
   have:s≠k:=λe'=>e (e'▸h);omega)
theorem X4{f:Nat->Int}{t}(hs:s<t)(a:t<k)(h:f s=(i)+1)(h':f t=(i)+1):2<=CX f i k:=by
 induction k with
 |zero=>omega
 |succ k ih=>
  show 2<=(if f k=(i:Int)+1 then CX f i k+1 else CX f i k);by_cases e:k=t
  .subst e;rw[DD h'];have:=lM hs h;omega
  have:=ih om;by_cases e':f k=(i:Int)+1
  .rw[DD e'];omega
  rw[C3 e'];exact this
def Inv.sound(h:Inv K hf d)(f:KeyLaw K hf):Sound d λi=>hf (d.L i).key:=by
 refine⟨h.d1,h.i0.log.d2,h.i0.d3,h.i0.d4,λi hi a=>⟨?_,?_,h.next i hi a⟩⟩
 .by_cases hs:AA d.m (d.L i).key
  .have h1:=h.i0.small i hi a hs;obtain⟨k1,k2,k3⟩:=hs;have hq:((d.L i).key.num-1).toNat<d.m:=om;rw[X3 hq h1 (λj hj e=>?_),OW (λj hj e=>?_)]
   .rcases h.i0.idx.range j hj with e'|e'|⟨e',g⟩
    .omega
    .omega
    rw[e,show(((i:Int)+1-1).toNat)=i by omega]at g;exact g.2.2 ⟨k1,k2,k3⟩
   rcases h.i0.ints j hj with e'|⟨e1,e2,e3,b,c⟩;all_goals grind
  obtain⟨s,h1,h2,h3⟩:=h.i0.idx.has i ⟨hi,a,hs⟩;rw[X3 h1 h2 (λj hj e=>h.i0.idx.uniq j s hj h1 om om),OW (λj hj e=>?_)];rcases h.i0.ints j hj with e'|⟨e1,e2,e3,b,c⟩
  .omega
  unfold Dc.at at b c;rw[e,show(((i:Int)+1-1).toNat)=i by omega]at b c;exact hs ⟨b,om,om⟩
 rcases h.i0.place f (h.i0.keys i hi a)with⟨j,h1,h2,h3,h4⟩|⟨h1,_⟩
 .rw[h4,h.i0.Kn j i h1 hi h2 a h3]
 have:=h1 i hi a;rw[f.refl _ (h.i0.keys i hi a)]at this;cases this
def Sound.inv(h:Sound d λi=>hf (d.L i).key)(t:KeyLaw K hf)(hK:∀i,i<d.n->(d.L i).turn≠0->K (d.L i).key):Inv K hf d:=by
 have same:∀a b,K a->K b->AH a b=true->(∀i,i<d.n->(d.L i).turn≠0->AH (d.L i).key a=AH (d.L i).key b):=by all_goals grind [AH,KeyLaw.symm,KeyLaw.trans]
 have g:∀s,s<d.x->0<d.X s->Uw d (d.X s-1).toNat:=λs hs k=>by
  rcases h.d4.2.1 s hs with e|e|⟨e1,e2,e3,u⟩
  .omega
  .omega
  exact⟨om,e3,u⟩
 have c:∀a b,K a->K b->AH a b=true->0<d.x->∀f q,q<d.x->probe d a q f=probe d b q f:=by
  intro a b p hb hab l f
  induction f with
  |zero=>intro q _;rfl
  |succ f ih=>
   intro q hq;by_cases k:d.X q=0
   .rw[Fj k,Fj k]
   by_cases hp:0<d.X q
   .have Ko:=g q hq hp;have hs:=same a b p hb hab _ Ko.1 Ko.2.1;by_cases hl:AH (d.at<|d.X q).key a=true
    .rw[F6 hp hl,F6 hp (hs▸hl)]
    rw[Di k (λh=>hl h.2),Di k (λh=>hl (hs.symm▸h.2)),ih _ (Tn _ l)]
   rw[Di k (λh=>hp h.1),Di k (λh=>hp h.1),ih _ (Tn _ l)]
 have o:∀a b,K a->K b->AH a b=true->Ay d a (hf a)=Ay d b (hf b):=by
  intro a b p hb hab;unfold Ay;by_cases hs:AA d.m a
  .all_goals grind [Ir,Gf]
  rw[C3 hs,C3 (λh=>hs ((Ir hab).2 h)),t.hash a b p hb hab];congr 1;unfold A1;by_cases l:d.x=0
  .rw[DD l,DD l]
  rw[C3 l,C3 l];exact c a b p hb hab om _ _<|Tn _ om
 refine⟨⟨h.d2.pO,hK,λi j hi hj ti v hl=>?_,h.d3.1,h.d3.2,λi hi r hs=>?_,h.d4.1,⟨λs hs=>?_,λi hi=>?_,λs s' hs w k e=>?_⟩,by rw[<-FH];exact h.d4.2.2.1,by rw[<-FH];exact h.d4.2.2.2,⟨h.d1.2.2.1,h.d1.2.2.2.1⟩,h.d1.2.1⟩,λi hi r=>(h.d5 i hi r).2.2,h.d1.2.2.2.2⟩
 .have h1:=(h.d5 i hi ti).2.1;have h2:=(h.d5 j hj v).2.1;all_goals grind
 .have h1:=(h.d5 i hi r).2.1;all_goals grind [Ay]
 .rcases h.d4.2.1 s hs with e|e|e;all_goals grind
 .have h1:=(h.d5 i hi.1 hi.2.1).2.1;unfold Ay at h1;rw[C3 hi.2.2]at h1;cases e:A1 d (d.L i).key (hf (d.L i).key)with
  |none=>rw[e]at h1;have h1:(-1:Int)=i:=h1;omega
  |some s=>
   rw[e]at h1;have h1:d.X s-1=i:=h1;obtain⟨g1,g2,g3,g4⟩:=Ny e;exact⟨s,g1,om,g4⟩
 have Ko:=g s hs k;have h1:=(h.d5 _ Ko.1 Ko.2.1).1;by_cases e':s=s'
 .exact e'
 have e1:d.X s=(((d.X s-1).toNat:Nat):Int)+1:=om;by_cases A:s<s'
 .all_goals grind [X4]
 have:=X4 (s:=s') om hs om e1;omega
structure Core (K:Vl->Prop) (d:Dc):Prop where
 log:Lg d
 keys:∀i,i<d.n->(d.L i).turn≠0->K (d.L i).key
 Kn:∀i j,i<d.n->j<d.n->(d.L i).turn≠0->(d.L j).turn≠0->AH (d.L i).key (d.L j).key=true->i=j
 ints:∀j,j<d.m->FD d j
 last:d.m=0\/0<d.I (d.m-1)
 small:∀i,i<d.n->(d.L i).turn≠0->AA d.m (d.L i).key->d.I ((d.L i).key.num-1).toNat=i+1
 turns:0<=d.turns/\d.turns<=1000000000000
 le:d.live<=500
structure Ix (hf:Vl->Nat) (d:Dc):Prop where
 sz:GB d.x
 idx:Idx hf d.L d.x d.X<|Uw d
 used:(Cj d.X d.x:Int)=d.used
 half:2*Cj d.X d.x<=d.x
theorem BW.core(h:BW K hf d):Core K d:=⟨h.log,h.keys,h.Kn,h.ints,h.last,h.small,h.turns,h.le⟩
def Core.UB(h:Core K d)(g:Ix hf d):BW K hf d:=⟨h.log,h.keys,h.Kn,h.ints,h.last,h.small,g.sz,g.idx,g.used,g.half,h.turns,h.le⟩
theorem Core.pos(h:Core K d){i}(hi:i<d.n)(a:(d.L i).turn≠0):0<(d.L i).turn:=by
 rcases h.log.CH i hi with e|e;all_goals omega
open Classical in
noncomputable def BV(d:Dc):Nat->Nat
 |0=>0
 |k+1=>if AZ d k then BV d k+1 else BV d k
def EW(h:AZ d k):BV d (k+1)=BV d k+1:=DD h
def GI(h:¬AZ d k):BV d (k+1)=BV d k:=C3 h
def Yq d k:BV d k<=(A8 d k).length:=by
 induction k with
 |zero=>exact Be _
 |succ k ih=>
  by_cases h:AZ d k
  .have:=h.1;rw[EW h,Bs om,OR,Aao];omega
  rw[GI h];refine GO ih ?_;exact(FB om).length_le
def F2 d{k n}(h:k<=n):BV d k<=BV d n:=by
 obtain⟨j,rfl⟩:∃j,n=k+j:=⟨n-k,om⟩;clear h
 induction j with
 |zero=>exact Be _
 |succ j ih=>
  refine GO ih ?_;by_cases h:AZ d<|k+j
  .rw[show k+(j+1)=k+j+1 by omega,EW h];omega
  rw[show k+(j+1)=k+j+1 by omega,GI h];exact Be _
def Dk:Nat->Nat->Nat->Nat
 |0,s,_=>s
 |f+1,s,q=>if s<q then Dk f (2*s) q else s
def Cz(n:Nat):Nat:=Dk 9 8<|4*n
def Vs:∀(f s q),q<=2000->Hb s->8<=s->s<=4000->2000<=s*2^f->q<=Dk f s q/\8<=Dk f s q/\Dk f s q<=4000/\Hb (Dk f s q):=by
 intro f
 induction f with
 |zero=>
  exactλs q h1 h2 h3 h4 h5=>⟨by show q<=s;omega,h3,h4,h2⟩
 |succ f ih=>
  intro s q h1 h2 h3 h4 h5;show q<=(if s<q then Dk f (2*s) q else s)/\_<=(if s<q then Dk f (2*s) q else s)/\(if s<q then Dk f (2*s) q else s)<=_/\Hb (if s<q then Dk f (2*s) q else s);by_cases e:s<q
  .rw[DD e];obtain⟨k,rfl⟩:=h2;refine ih _ _ h1 ⟨k+1,by rw[AaB];omega⟩ om om ?_;rw[AaB,<-So,AaN (2^k*2^f) 2,<-So]at h5;exact h5
  rw[C3 e];exact⟨om,h3,h4,h2⟩
theorem DI(h:n<=500):4*n<=Cz n/\8<=Cz n/\Cz n<=4000/\Hb (Cz n):=
 Vs 9 8 (4*n) om ⟨3,rfl⟩ om om oo
open Classical in
noncomputable def Bp(hf:Vl->Nat)(d:Dc)(x:Nat):Nat->Dc
 |0=>{d with x:=x,X:=λ_=>0,used:=0}
 |k+1=>if AZ d k then AY hf (Bp hf d x k) (d.L k).key k else Bp hf d x k
def D9(h:AZ d k):Bp hf d x (k+1)=AY hf (Bp hf d x k) (d.L k).key k:=DD h
theorem Eg(h:¬AZ d k):Bp hf d x (k+1)=Bp hf d x k:=C3 h
theorem DF:∀k,BV d k<x->
  Idx hf d.L x (Bp hf d x k).X (λi=>i<k/\AZ d i)/\(Cj (Bp hf d x k).X x:Int)=(Bp hf d x k).used/\Cj (Bp hf d x k).X x<=BV d k/\(Bp hf d x k).x=x/\(Bp hf d x k).n=d.n/\(Bp hf d x k).L=d.L/\(Bp hf d x k).m=d.m/\(Bp hf d x k).I=d.I/\(Bp hf d x k).live=d.live/\(Bp hf d x k).turns=d.turns:=by
 intro k
 induction k with
 |zero=>
  exactλ_=>⟨Idx.empty _ _ _ _ λi h=>om,by show(Cj (λ_=>0) x:Int)=0;rw[Ki];rfl,by show Cj (λ_=>0) x<=0;rw[Ki];exact Be _,rfl,rfl,rfl,rfl,rfl,rfl,rfl⟩
 |succ k ih=>
  intro a;by_cases h:AZ d k
  .rw[EW h]at a;obtain⟨h1,h2,h3,h4,h5,c,f,g,j,b⟩:=ih om;rw[D9 h,EW h];obtain⟨g1,g2,g3,g4,g5,g6,g7,g8,g9,g10⟩:=O1 (p:=k) (by rw[h4];exact h1) (λe=>om) rfl (by rw[h4];omega) (by rw[h4];exact h2);rw[h4]at g3;rw[g3]at g1 g2;rw[h4]at g10;refine⟨g1.congr (λi=>?_) λ_ _=>rfl,g2,om,g3,g4.trans h5,g5.trans c,g6.trans f,g7.trans g,g8.trans j,g9.trans b⟩;constructor
   .rintro⟨e1,e2⟩;by_cases e:i=k
    .exact .inr e
    exact .inl ⟨om,e2⟩
   rintro(⟨e1,e2⟩|rfl)
   .exact⟨om,e2⟩
   exact⟨om,h⟩
  rw[GI h]at a ⊢;obtain⟨h1,h2,h3⟩:=ih a;rw[Eg h];refine⟨h1.congr (λi=>?_) λ_ _=>rfl,h2,h3⟩;constructor
  .rintro⟨e1,e2⟩;exact⟨by
    have:i≠k:=λe=>h (e▸e2);omega,e2⟩
  rintro⟨e1,e2⟩;exact⟨om,e2⟩
noncomputable def A3(hf:Vl->Nat)(d:Dc)(more:Nat):Dc:=
 if BV d d.n+more=0 then{d with x:=0,used:=0}else Bp hf d (Cz<|BV d d.n+more) d.n
def Ev{more}(h:BV d d.n+more=0):A3 hf d more={d with x:=0,used:=0}:=DD h
theorem CJ{more}(h:BV d d.n+more≠0):A3 hf d more=Bp hf d (Cz<|BV d d.n+more) d.n:=C3 h
structure DS (d c:Dc):Prop where
 n:d.n=c.n
 L:d.L=c.L
 m:d.m=c.m
 I:d.I=c.I
 live:d.live=c.live
 turns:d.turns=c.turns
def Core.of_same(h:Core K c)(e:DS d c):Core K d:=by
 obtain⟨n,L,m,I,x,X,used,live,turns⟩:=d;obtain⟨rfl,rfl,rfl,rfl,rfl,rfl⟩:=e;exact⟨⟨h.log.CH,h.log.ord,h.log.CX⟩,h.keys,h.Kn,h.ints,h.last,h.small,h.turns,h.le⟩
theorem Fw{more}(h:Core K d)(b:BV d d.n+more<=500):DS (A3 hf d more) d:=by
 by_cases e:BV d d.n+more=0
 .rw[Ev e];exact⟨rfl,rfl,rfl,rfl,rfl,rfl⟩
 rw[CJ e];obtain⟨s1,s2,j,k⟩:=DI b;obtain⟨h1,h2,h3,h4,h5,c,f,g,i,a⟩:=DF (d:=d) (x:=Cz<|BV d d.n+more) d.n om;exact⟨h5,c,f,g,i,a⟩
theorem Nv{more}(h:Core K d)(b:BV d d.n+more<=500):Ix hf (A3 hf d more)/\(0<more->2*(Cj (A3 hf d more).X (A3 hf d more).x+1)<=(A3 hf d more).x):=by
 by_cases e:BV d d.n+more=0
 .rw[Ev e];refine⟨⟨.inl rfl,⟨λs hs=>absurd hs oq,λi hi=>?_,λs s' hs=>absurd hs oq⟩,rfl,Be _⟩,λh=>om⟩;have hi:i<d.n/\(d.L i).turn≠0/\¬AA d.m (d.L i).key:=hi;have h1:AZ d i:=⟨h.pos hi.1 hi.2.1,hi.2.2⟩;have h2:=F2 d (k:=i+1) (n:=d.n) om;rw[EW h1]at h2;omega
 rw[CJ e];obtain⟨s1,s2,c,f⟩:=DI b;obtain⟨h1,h2,h3,h4,h5,a,g,l,o,j⟩:=DF (d:=d) (x:=Cz<|BV d d.n+more) d.n om;refine⟨⟨by rw[h4];exact .inr ⟨s2,c,f⟩,?_,by rw[h4];exact h2,by rw[h4];omega⟩,λhp=>by rw[h4];omega⟩;rw[h4,a];refine h1.congr (λi=>?_) λ_ _=>rfl;rw[Uw,AZ,h5,a,g];constructor
 .rintro⟨e1,e2,e3⟩;exact⟨e1,h.pos e1 e2,e3⟩
 grind [BV,Cj]
theorem LV{more}(h:Core K d)(a:BV d d.n+more<=500):BW K hf<|A3 hf d more:=
 (h.of_same<|Fw h a).UB (Nv h a).1
def CF(d:Dc)(i:Nat):Nat:=(A8 d i).length
def LR(a:i<j)(b:(d.L i).turn≠0):CF d i<CF d j:=by
 have h:=(FB (d:=d) (k:=i+1) (n:=j) om).length_le;grind [CF,Bs]
def F7:∀(k) {j:Nat},j<(A8 d k).length->∃i,i<k/\(d.L i).turn≠0/\CF d i=j:=by
 intro k
 induction k with
 |zero=>intro j h;exact absurd h<|by simp[A8]
 |succ k ih=>
  intro j h;by_cases a:(d.L k).turn=0
  .rw[Cm a]at h;obtain⟨i,h1,h2⟩:=ih h;exact⟨i,om,h2⟩
  by_cases e:j<(A8 d k).length
  .obtain⟨i,h1,h2⟩:=ih e;exact⟨i,om,h2⟩
  rw[Bs a,OR,Aao]at h;exact⟨k,om,a,by unfold CF;omega⟩
def Co(d:Dc):Dc:={d with n:=K0 d,L:=EL d,I:=λj=>if 0<d.I j then(CF d (d.I j-1).toNat:Int)+1 else d.I j}
noncomputable def Ap(hf:Vl->Nat)(d:Dc):Dc:=if(d.n:Int)<8\/(d.n:Int)<=2*d.live then d else A3 hf (Co d) 0
def fS:∀k,(∀i,i<k->(d.L i).turn≠0)->(A8 d k).length=k:=by
 intro k
 induction k with
 |zero=>intro _;rfl
 |succ k ih=>
  intro h;rw[Bs (h k om),OR,Aao,ih (λi hi=>h i om)]
def Gm(h:Core K d):Core K<|Co d:=by
 have hs:∀j,j<K0 d->∃i,i<d.n/\(d.L i).turn≠0/\CF d i=j/\EL d j=d.L i:=λj hj=>by
  obtain⟨i,h1,h2,h3⟩:=F7 d.n hj;exact⟨i,h1,h2,h3,by rw[<-h3];exact FN h1 h2⟩
 have q:∀i,i<d.n->(d.L i).turn≠0->CF d i<K0 d/\EL d (CF d i)=d.L i:=λi hi f=>⟨LR hi f,FN hi f⟩;have g:∀i j,i<d.n->j<d.n->(d.L i).turn≠0->(d.L j).turn≠0->CF d i<CF d j->i<j:=by
  intro i j hi hj ti k r;by_cases e:i<j
  .exact e
  by_cases e':i=j
  .subst e';omega
  have:=LR (j:=i) om k;omega
 refine⟨⟨λj hj=>?_,λi j s hj ti k=>?_,?_⟩,λj hj f=>?_,λi j hi hj ti k hl=>?_,λj hj=>?_,?_,λj hj f c=>?_,h.turns,h.le⟩
 .obtain⟨i,h1,h2,h3,h4⟩:=hs j hj;have:=h.log.CH i h1;show((EL d j).turn=0/\C0 (EL d j).key=true/\C0 (EL d j).val=true)\/(0<(EL d j).turn/\(EL d j).turn<=d.turns/\Ch (EL d j).key=true/\(EL d j).val.ok=true/\(EL d j).val.kind≠0);rw[h4];exact this
 .have l:j<K0 d:=hj;obtain⟨a,a1,a2,a3,a4⟩:=hs i om;obtain⟨b,b1,b2,b3,b4⟩:=hs j l;show(EL d i).turn<(EL d j).turn;rw[a4,b4];exact h.log.ord a b (g a b a1 b1 a2 b2 om) b1 a2 b2
 .show((A8 (Co d)<|K0 d).length:Int)=d.live;rw[fS (K0 d) (λj hj=>?_)]
  .exact h.log.CX
  obtain⟨i,h1,h2,h3,h4⟩:=hs j hj;show(EL d j).turn≠0;rw[h4];exact h2
 .obtain⟨i,h1,h2,h3,h4⟩:=hs j hj;show K (EL d j).key;rw[h4];exact h.keys i h1 h2
 .obtain⟨a,a1,a2,a3,a4⟩:=hs i hi;obtain⟨b,b1,b2,b3,b4⟩:=hs j hj;have hl:AH (EL d i).key (EL d j).key=true:=hl;rw[a4,b4]at hl;have:=h.Kn a b a1 b1 a2 b2 hl;subst this;omega
 .rcases h.ints j hj with e|⟨e1,e2,e3,t,u⟩
  .left;show(if 0<d.I j then(CF d (d.I j-1).toNat:Int)+1 else d.I j)=0;rw[C3 om];exact e
  right;have v:(Co d).I j=(CF d (d.I j-1).toNat:Int)+1:=DD e1;have o:=q (d.I j-1).toNat om e3;have p:(Co d).at ((Co d).I j)=d.at (d.I j):=by
   show EL d ((Co d).I j-1).toNat=d.L (d.I j-1).toNat;rw[v,show((CF d (d.I j-1).toNat:Int)+1-1).toNat=CF d (d.I j-1).toNat by omega];exact o.2
  rw[p];exact⟨om,by show _<=((K0 d:Nat):Int);omega,e3,t,u⟩
 .rcases h.last with e|e
  .exact .inl e
  right;show 0<(if 0<d.I (d.m-1)then(CF d (d.I (d.m-1)-1).toNat:Int)+1 else d.I (d.m-1));omega
 obtain⟨i,h1,h2,h3,h4⟩:=hs j hj;have c:AA d.m (EL d j).key:=c;show(if 0<d.I ((EL d j).key.num-1).toNat then(CF d (d.I ((EL d j).key.num-1).toNat-1).toNat:Int)+1 else _)=_;rw[h4]at c ⊢;have:=h.small i h1 h2 c;rw[this,DD om,show((i:Int)+1-1).toNat=i by omega,h3]
def Core.KY(h:Core K d):(K0 d)=d.live:=h.log.CX
def Ka(h:Core K d):BV (Co d) (Co d).n+0<=500:=by
 have h1:=Yq (Co d) (Co d).n;have h2:=FW (Co d) (Co d).n;have h3:(Co d).n=K0 d:=rfl;have h4:=h.KY;have h5:=h.le;omega
def Ed(h:BW K hf d):BW K hf<|Ap hf d:=by
 rw[Ap];split
 .exact h
 exact LV (Gm h.core)<|Ka h.core
def B2(h:Core K d):(Ap hf d).live=d.live/\(Ap hf d).turns=d.turns/\(Ap hf d).m=d.m/\(((Ap hf d).n:Int)<8\/((Ap hf d).n:Int)<=2*d.live):=by
 rw[Ap];split
 .next e=>exact⟨rfl,rfl,rfl,e⟩
 have:=Fw (hf:=hf) (Gm h)<|Ka h;refine⟨this.live,this.turns,this.m,.inr ?_⟩;rw[this.n];have h4:=h.KY;show((K0 d:Nat):Int)<=_;omega
def DZ(h:Core K d)(Q:Pr->Prop):(∃i,i<(Ap hf d).n/\((Ap hf d).L i).turn≠0/\Q ((Ap hf d).L i))↔∃i,i<d.n/\(d.L i).turn≠0/\Q (d.L i):=by
 rw[Ap];split
 .exact Iff.rfl
 have e:=Fw (hf:=hf) (Gm h)<|Ka h;rw[e.n,e.L];constructor
 .rintro⟨j,hj,a,hq⟩;obtain⟨i,h1,h2,h3⟩:=F7 d.n<|show j<(A8 d d.n).length from hj;have h4:EL d j=d.L i:=by rw[<-h3];exact FN h1 h2
  have hq:Q<|EL d j:=hq;rw[h4]at hq;exact⟨i,h1,h2,hq⟩
 rintro⟨i,hi,a,hq⟩;refine⟨CF d i,LR hi a,?_,?_⟩
 .show(EL d<|CF d i).turn≠0;rw[show EL d (CF d i)=d.L i from FN hi a];exact a
 show Q (EL d<|CF d i);rw[show EL d (CF d i)=d.L i from FN hi a];exact hq
def Er(h:Core K d)(hn:Next d):Next<|Ap hf d:=by
 intro i hi a hc;rw[(B2 h).2.2.1]at hc;obtain⟨j,h1,h2,h3⟩:=(DZ h λp=>p.key.kind=2/\p.key.num=(d.m:Int)+1).1 ⟨i,hi,a,hc⟩;exact hn j h1 h2 h3
def KW:∀(k),(∀i,i<k->((d.L i).turn=0↔(c.L i).turn=0))->A8 d k=A8 c k:=by
 intro k
 induction k with
 |zero=>intro _;rfl
 |succ k ih=>
  intro h;have:=h k om;by_cases e:(d.L k).turn=0
  .rw[Cm e,Cm (this.1 e),ih (λi hi=>h i om)]
  rw[Bs e,Bs (λe'=>e (this.2 e')),ih (λi hi=>h i om)]
def B3(c:Dc)(k v:Vl):Dc:={c with n:=c.n+1,L:=AW c.L c.n ⟨k,v,c.turns+1⟩,live:=c.live+1,turns:=c.turns+1}
section
variable {K:Vl->Prop} {hf:Vl->Nat} {c:Dc} {k v:Vl}
theorem BN(h:i<c.n):(B3 c k v).L i=c.L i:=Ao _ _ om
theorem Cg:(B3 c k v).L c.n=⟨k,v,c.turns+1⟩:=Ax _ _ _
def OL(h:Lg c)(f:0<=c.turns)(hk:Ch k=true)(l:v.ok=true)(d:v.kind≠0):Lg<|B3 c k v:=by
 refine⟨λi hi=>?_,λi j a hj ti b=>?_,?_⟩
 .have hi:i<c.n+1:=hi;by_cases e:i=c.n
  .right;all_goals grind [B3,Cg,Core.turns]
  have:=h.CH i om;all_goals grind [B3,Entry,BN,Core.turns]
 .have hj:j<c.n+1:=hj;by_cases e:j=c.n
  .subst e;rw[BN a]at ti ⊢;rw[Cg];rcases h.CH i a with g|g;all_goals grind
  rw[BN om]at ti ⊢;rw[BN om]at b ⊢;exact h.ord i j a om ti b
 show((A8 (B3 c k v)<|c.n+1).length:Int)=c.live+1;rw[Bs (by rw[Cg];show c.turns+1≠0;omega),OR,Aao,KW (c:=c) c.n (λi hi=>by rw[BN hi])];have:((A8 c c.n).length:Int)=c.live:=h.CX;omega
def Ms(h:Core K c)(hk:K k):∀i,i<(B3 c k v).n->((B3 c k v).L i).turn≠0->K ((B3 c k v).L i).key:=by
 grind [B3,Cg,BN,Core.keys,DS.n]
def Mr(b:KeyLaw K hf)(h:Core K c)(hk:K k)(a:∀i,i<c.n->(c.L i).turn≠0->AH (c.L i).key k=false):∀i j,i<(B3 c k v).n->j<(B3 c k v).n->((B3 c k v).L i).turn≠0->((B3 c k v).L j).turn≠0->AH ((B3 c k v).L i).key ((B3 c k v).L j).key=true->i=j:=by
 grind [B3,Cg,BN,KeyLaw.symm,Core.keys,Core.Kn,BW.Kn]
def B5(c:Dc)(k v:Vl):Dc:={B3 c k v with I:=AW c.I (k.num-1).toNat ((c.n:Int)+1)}
def MN(h:FD c j){d}(hn:d.n=c.n+1)(a:∀i,i<c.n->d.L i=c.L i)(b:d.I j=c.I j):FD d j:=by
 grind [FD,DS.I]
def Sr(q:KeyLaw K hf)(h:BW K hf c)(hk:K k)(d:Ch k=true)(r:v.ok=true)(f:v.kind≠0)(g:∀i,i<c.n->(c.L i).turn≠0->AH (c.L i).key k=false)(hs:AA c.m k)(hl:c.live<500)(s:c.turns<1000000000000):BW K hf<|B5 c k v:=by
 have a:=OL h.log h.turns.1 d r f;obtain⟨k1,k2,k3⟩:=hs;refine(Core.UB ⟨⟨a.CH,a.ord,a.CX⟩,Ms h.core hk,Mr q h.core hk g,λj hj=>?_,?_,λi hi l b=>?_,⟨by show 0<=c.turns+1;have:=h.turns.1;omega,by show c.turns+1<=_;omega⟩,by show c.live+1<=500;omega⟩ ⟨h.sz,?_,h.used,h.half⟩)
 .by_cases e:j=(k.num-1).toNat
  .right;have t:(B5 c k v).I j=(c.n:Int)+1:=by subst e;exact Ax _ _ _
   have o:(B5 c k v).at ((B5 c k v).I j)=⟨k,v,c.turns+1⟩:=by grind [AH,B5,Cg,DS.L]
   rw[o];refine⟨om,by show _<=((c.n+1:Nat):Int);omega,?_,k1,by show k.num=_;omega⟩;show c.turns+1≠0;have:=h.turns.1;omega
  exact MN (h.ints j hj) rfl (λi hi=>BN hi) (Ao _ _ e)
 .rcases h.last with e|e
  .exact .inl e
  right;show 0<AW c.I (k.num-1).toNat ((c.n:Int)+1) (c.m-1);grind [Ch,AA,Ax,Ao]
 .have hi:i<c.n+1:=hi;show AW c.I (k.num-1).toNat ((c.n:Int)+1) _=_;by_cases e:i=c.n
  .subst e;have:(B5 c k v).L c.n=⟨k,v,c.turns+1⟩:=Cg;rw[this,Ax]
  have p:(B5 c k v).L i=c.L i:=BN om;rw[p]at l b ⊢;have b:AA c.m (c.L i).key:=b;grind [Ch,AA,Ao,KeyLaw.int,BW.keys,BW.small,Core.keys,DS.L]
 refine h.idx.congr (λi=>?_) (λi hi=>by rw[show(B5 c k v).L i=c.L i from BN hi.1]);unfold Uw;show(i<c.n+1/\((B3 c k v).L i).turn≠0/\¬AA c.m ((B3 c k v).L i).key)↔_;grind [Ch,AA,Cg,BN]
def B4(c:Dc)(k v:Vl):Dc:={B3 c k v with m:=c.m+1,I:=AW c.I c.m ((c.n:Int)+1)}
theorem P6{k}:AA (m+1) k↔AA m k\/(k.kind=2/\k.num=(m:Int)+1):=by
 grind [AA]
def Jf(l:KeyLaw K hf)(h:BW K hf c)(hk:K k)(b:Ch k=true)(o:v.ok=true)(d:v.kind≠0)(f:∀i,i<c.n->(c.L i).turn≠0->AH (c.L i).key k=false)(k1:k.kind=2)(k2:k.num=(c.m:Int)+1)(hl:c.live<500)(t:c.turns<1000000000000):BW K hf<|B4 c k v:=by
 have a:=OL h.log h.turns.1 b o d;have p:∀i,i<c.n->(c.L i).turn≠0->¬((c.L i).key.kind=2/\(c.L i).key.num=(c.m:Int)+1):=by grind [AH,KeyLaw.int,BW.keys]
 refine(Core.UB ⟨⟨a.CH,a.ord,a.CX⟩,Ms h.core hk,Mr l h.core hk f,λj hj=>?_,?_,λi hi q r=>?_,⟨by show 0<=c.turns+1;have:=h.turns.1;omega,by show c.turns+1<=_;omega⟩,by show c.live+1<=500;omega⟩ ⟨h.sz,?_,h.used,h.half⟩)
 .have hj:j<c.m+1:=hj;by_cases e:j=c.m
  .right;have u:(B4 c k v).I j=(c.n:Int)+1:=by subst e;exact Ax _ _ _
   have g:(B4 c k v).at ((B4 c k v).I j)=⟨k,v,c.turns+1⟩:=by grind [Ch,B4,Cg,DS.L]
   rw[g];refine⟨om,by show _<=((c.n+1:Nat):Int);omega,?_,k1,by show k.num=_;omega⟩;show c.turns+1≠0;have:=h.turns.1;omega
  exact MN (h.ints j om) rfl (λi hi=>BN hi) (Ao _ _ e)
 .right;show 0<AW c.I c.m ((c.n:Int)+1) (c.m+1-1);rw[show c.m+1-1=c.m by omega,Ax];omega
 .have hi:i<c.n+1:=hi;show AW c.I c.m ((c.n:Int)+1) _=_;by_cases e:i=c.n
  .subst e;have:(B4 c k v).L c.n=⟨k,v,c.turns+1⟩:=Cg;rw[this,show((Pr.mk k v (c.turns+1)).key.num-1).toNat=c.m by show(k.num-1).toNat=_;omega,Ax]
  have s:(B4 c k v).L i=c.L i:=BN om;grind [Ch,B4,AA,Ao,BW.small,DS.m]
 refine h.idx.congr (λi=>?_) (λi hi=>by rw[show(B4 c k v).L i=c.L i from BN hi.1]);unfold Uw;show(i<c.n+1/\((B3 c k v).L i).turn≠0/\¬AA (c.m+1) ((B3 c k v).L i).key)↔_;grind [AH,P6,Cg,BN]
end
def DW(d:Dc)(s:Nat):Dc:={d with m:=d.m+1,I:=AW d.I d.m (d.X s),X:=AW d.X s (-1)}
def Cy(hf:Vl->Nat):Nat->Dc->Dc
 |0,d=>d
 |f+1,d=>match A1 d (CM<|(d.m:Int)+1) (hf<|CM<|(d.m:Int)+1)with
  |none=>d
  |some s=>Cy hf f<|DW d s
def Gj{f}(h:A1 d (CM<|(d.m:Int)+1) (hf<|CM<|(d.m:Int)+1)=none):Cy hf f d=d:=by
 cases f with
 |zero=>rfl
 |succ f=>show(match A1 d (CM<|(d.m:Int)+1) (hf<|CM<|(d.m:Int)+1)with|none=>d|some s=>Cy hf f<|DW d s)=d;rw[h]
def Gk{f}(h:A1 d (CM<|(d.m:Int)+1) (hf<|CM<|(d.m:Int)+1)=some s):Cy hf (f+1) d=Cy hf f (DW d s):=by
 grind [CM,Cy,DW]
def FX(X:Nat->Int):Nat->Nat
 |0=>0
 |k+1=>if 0<X k then FX X k+1 else FX X k
def Od X k:FX X k<=k:=by
 induction k with
 |zero=>exact Be _
 |succ k ih=>
  show(if 0<X k then FX X k+1 else FX X k)<=k+1;by_cases e:0<X k
  .rw[DD e];omega
  rw[C3 e];omega
def K4(a:0<X s):∀k,FX (AW X s (-1)) k+(if s<k then 1 else 0)=FX X k:=by
 intro k
 induction k with
 |zero=>rfl
 |succ k ih=>
  show(if 0<AW X s (-1) k then FX (AW X s (-1)) k+1 else FX (AW X s (-1)) k)+_=(if 0<X k then FX X k+1 else FX X k);by_cases e:k=s
  .subst e;rw[Ax,C3 om,DD a,DD om];rw[C3 om]at ih;omega
  rw[Ao _ _ e];by_cases e2:s<k
  focus
   rw[DD (show s<k+1 by omega)];rw[DD e2]at ih
  rotate_left
  focus
   rw[C3 (show¬s<k+1 by omega)];rw[C3 e2]at ih
  all_goals
   by_cases e1:0<X k
   .rw[DD e1,DD e1];omega
   rw[C3 e1,C3 e1];omega
section
variable {K:Vl->Prop} {hf:Vl->Nat} {d:Dc}
def BW.slot(h:BW K hf d){v}{a s}(e:A1 d v a=some s):s<d.x/\0<d.X s/\Uw d (d.X s-1).toNat/\AH (d.L (d.X s-1).toNat).key v=true:=by
 obtain⟨h1,h2,h3,h4⟩:=Ny e;rcases h.idx.range s h1 with g|g|g;all_goals grind [Uw]
def ML(o:KeyLaw K hf)(h:BW K hf d){s}(e:A1 d (CM<|(d.m:Int)+1) (hf<|CM<|(d.m:Int)+1)=some s):BW K hf<|DW d s:=by
 obtain⟨h1,h2,h3,h4⟩:=h.slot e;have c:=F4 h4;have p:(d.L (d.X s-1).toNat).key.num=(d.m:Int)+1:=Gf h4;have a:∀i,i<d.n->(d.L i).turn≠0->(d.L i).key.kind=2->(d.L i).key.num=(d.m:Int)+1->i=(d.X s-1).toNat:=λi hi f g1 g2=>
  h.Kn _ _ hi h3.1 f h3.2.1 (o.int _ _ (h.keys i hi f) (h.keys _ h3.1 h3.2.1) g1 c om)
 refine Core.UB ⟨⟨h.log.CH,h.log.ord,h.log.CX⟩,h.keys,h.Kn,λj hj=>?_,?_,λi hi f b=>?_,h.turns,h.le⟩ ⟨h.sz,?_,?_,?_⟩
 .have hj:j<d.m+1:=hj;unfold FD;by_cases e:j=d.m
  .right;have k:(DW d s).I j=d.X s:=by subst e;exact Ax _ _ _
   rw[k];have l:(DW d s).at (d.X s)=d.L (d.X s-1).toNat:=rfl;rw[l];exact⟨h2,by show _<=(d.n:Int);have:=h3.1;omega,h3.2.1,c,om⟩
  have k:(DW d s).I j=d.I j:=Ao _ _ e;rw[k];exact h.ints j om
 .right;show 0<AW d.I d.m (d.X s) (d.m+1-1);rw[show d.m+1-1=d.m by omega,Ax];exact h2
 .have b:AA (d.m+1) (d.L i).key:=b;show AW d.I d.m (d.X s) ((d.L i).key.num-1).toNat=_;rcases P6.1 b with g|⟨g1,g2⟩
  .have:=g.2.1;have:=g.2.2;rw[Ao _ _ om];exact h.small i hi f g
  have:=a i hi f g1 g2;rw[g2,show((d.m:Int)+1-1).toNat=d.m by omega,Ax];omega
 .refine(h.idx.leave h1 h2).congr (λi=>?_) λ_ _=>rfl;unfold Uw;grind [CM,DW,AA,DS.n,DS.m]
 .show(Cj (AW d.X s (-1)) d.x:Int)=d.used;grind [CM,Gx,AW,Ax,BW.used]
 show 2*Cj (AW d.X s (-1)) d.x<=d.x;grind [CM,Gx,AW,Ax,BW.half]
def BW.nC(a:KeyLaw K hf)(h:BW K hf d)(e:A1 d (CM<|(d.m:Int)+1) (hf<|CM<|(d.m:Int)+1)=none):Next d:=by
 intro i hi b ⟨h1,h2⟩;obtain⟨s,_,_,g⟩:=h.found a (a.own<|(d.m:Int)+1) ⟨hi,b,λg=>oT g.2.2⟩<|a.int _ _ (h.keys i hi b) (a.own _) h1 rfl h2;rw[e]at g;cases g
def ZZ(a:KeyLaw K hf):∀(f) (d),BW K hf d->FX d.X d.x<f->BW K hf (Cy hf f d)/\Next (Cy hf f d)/\(Cy hf f d).n=d.n/\(Cy hf f d).L=d.L/\(Cy hf f d).live=d.live/\(Cy hf f d).turns=d.turns:=by
 intro f
 induction f with
 |zero=>intro d _ h;omega
 |succ f ih=>
  intro d h hp;cases e:A1 d (CM<|(d.m:Int)+1) (hf<|CM<|(d.m:Int)+1)with
  |none=>rw[Gj e];exact⟨h,h.nC a e,rfl,rfl,rfl,rfl⟩
  |some s=>
   rw[Gk e];obtain⟨h1,h2,h3,h4⟩:=h.slot e;have:=K4 h2 d.x;rw[DD h1]at this;exact ih _ (ML a h e)<|by show FX (AW d.X s (-1)) d.x<f;omega
end
noncomputable def CT(hf:Vl->Nat)(c:Dc):Dc:=if(c.x:Int)<2*(c.used+1)then A3 hf c 1 else c
open Classical in
noncomputable def Bx(hf:Vl->Nat)(c:Dc)(k v:Vl):Dc:=
 if AA c.m k then B5 c k v
 else if k.kind=2/\k.num=(c.m:Int)+1 then Cy hf (c.x+1) (B4 c k v)
 else AY hf (B3 (CT hf c) k v) k c.n
noncomputable def GF(hf:Vl->Nat)(d:Dc)(k v:Vl):Dc:=Bx hf (Ap hf d) k v
section
variable {K:Vl->Prop} {hf:Vl->Nat} {c d:Dc} {k v:Vl}
def Core.eU(h:Core K c):(BV c c.n:Int)<=c.live:=by
 have h1:=Yq c c.n;have h2:=h.KY;unfold K0 at h2;omega
def Hn(h:BW K hf c)(hl:c.live<500):BW K hf (CT hf c)/\2*(Cj (CT hf c).X (CT hf c).x+1)<=(CT hf c).x/\DS (CT hf c) c:=by
 rw[CT];split
 .have h1:=h.core.eU;grind [Cj,LV,Nv,Fw,BW.core]
 have:=h.used;exact⟨h,om,rfl,rfl,rfl,rfl,rfl,rfl⟩
def JV(w:KeyLaw K hf)(h:BW K hf c)(hn:Next c)(hk:K k)(o:Ch k=true)(A:v.ok=true)(p:v.kind≠0)(q:∀i,i<c.n->(c.L i).turn≠0->AH (c.L i).key k=false)(hl:c.live<500)(E:c.turns<1000000000000):
  BW K hf (Bx hf c k v)/\Next (Bx hf c k v)/\(Bx hf c k v).n=c.n+1/\(Bx hf c k v).L=AW c.L c.n ⟨k,v,c.turns+1⟩/\(Bx hf c k v).live=c.live+1/\(Bx hf c k v).turns=c.turns+1:=by
 rw[Bx];by_cases hs:AA c.m k
 .rw[DD hs];refine⟨Sr w h hk o A p q hs hl E,λi hi a=>?_,rfl,rfl,rfl,rfl⟩;have hi:i<c.n+1:=hi;by_cases e:i=c.n
  .subst e;rw[show(B5 c k v).L c.n=⟨k,v,c.turns+1⟩from Cg];rintro⟨_,g⟩;have:=hs.2.2;have g:k.num=(c.m:Int)+1:=g;omega
  rw[show(B5 c k v).L i=c.L i from BN om]at a ⊢;exact hn i om a
 rw[C3 hs];by_cases s:k.kind=2/\k.num=(c.m:Int)+1
 .rw[DD s];obtain⟨g1,g2,g3,g4,g5,g6⟩:=ZZ w (c.x+1) (B4 c k v) (Jf w h hk o A p q s.1 s.2 hl E) (by have:=Od c.X c.x;show FX c.X c.x<_;omega);exact⟨g1,g2,g3,g4,g5,g6⟩
 rw[C3 s];obtain⟨r1,r2,b⟩:=Hn h hl;generalize F:CT hf c=c' at r1 r2 b;have t:∀i,i<c'.n->(c'.L i).turn≠0->AH (c'.L i).key k=false:=by rw[b.n,b.L];exact q
 have l:=OL r1.log r1.turns.1 o A p;have H:¬Uw c' c.n:=by rintro⟨g,_⟩;have:=b.n;omega
 have B:(B3 c' k v).L c.n=⟨k,v,c'.turns+1⟩:=by rw[<-b.n];exact Cg
 have u:Idx hf (B3 c' k v).L c'.x c'.X<|Uw c':=r1.idx.congr (λ_=>Iff.rfl) (λi hi=>by rw[BN hi.1]);obtain⟨g1,g2,g3,g4,g5,g6,g7,g8,g9,g10⟩:=O1 (d:=B3 c' k v) (k:=k) u H (by rw[B]) (by show Cj c'.X c'.x<c'.x;omega) r1.used;have C:(B3 c' k v).x=c'.x:=rfl;have D:(B3 c' k v).X=c'.X:=rfl;rw[C]at g3 g10;rw[D]at g10;have r:=Core.of_same ⟨⟨l.CH,l.ord,l.CX⟩,Ms r1.core hk,Mr w r1.core hk t,λj hj=>MN (r1.ints j hj) rfl (λi hi=>BN hi) rfl,r1.last,λi hi a f=>by
   have hi:i<c'.n+1:=hi;by_cases e:i=c'.n
   .subst e;rw[Cg]at f;have f:AA c'.m k:=f;rw[b.m]at f;exact absurd f hs
   rw[BN om]at a f ⊢;exact r1.small i om a f,⟨by show 0<=c'.turns+1;have:=r1.turns.1;omega,by show c'.turns+1<=_;rw[b.turns];omega⟩,by show c'.live+1<=500;rw[b.live];omega⟩ ⟨g4,g5,g6,g7,g8,g9⟩
 refine⟨r.UB ⟨by rw[g3];exact r1.sz,?_,g2,by rw[g3];omega⟩,λi hi a=>?_,?_,?_,?_,?_⟩
 .rw[g5];refine g1.congr (λi=>?_) λ_ _=>rfl;rw[Uw,g4,g5,g6];show(i<c'.n+1/\((B3 c' k v).L i).turn≠0/\¬AA c'.m ((B3 c' k v).L i).key)↔_;by_cases e:i=c'.n
  .subst e;rw[Cg];constructor
   .rintro _;exact .inr b.n
   rintro _;refine⟨om,?_,?_⟩
   .show c'.turns+1≠0;have:=r1.turns.1;omega
   rw[b.m];exact hs
  constructor
  .rintro⟨e1,e2⟩;rw[BN om]at e2;exact .inl ⟨om,e2⟩
  rintro(⟨e1,e2⟩|e1)
  .rw[BN e1];exact⟨om,e2⟩
  rw[<-b.n]at e1;exact absurd e1 e
 .rw[g4]at hi;rw[g5]at a ⊢;rw[g6];have hi:i<c'.n+1:=hi;show¬(_/\_=(c'.m:Int)+1);rw[b.m];by_cases e:i=c'.n
  .subst e;rw[Cg];exact s
  rw[BN om]at a ⊢;rw[b.L]at a ⊢;exact hn i (by rw[<-b.n];omega) a
 .rw[g4];show c'.n+1=_;rw[b.n]
 .rw[g5];show AW c'.L c'.n ⟨k,v,c'.turns+1⟩=_;rw[b.L,b.n,b.turns]
 .rw[g8];show c'.live+1=_;rw[b.live]
 rw[g9];show c'.turns+1=_;rw[b.turns]
theorem Za(g:KeyLaw K hf)(h:Inv K hf d)(hk:K k)(b:Ch k=true)(l:v.ok=true)(c:v.kind≠0)(m:∀i,i<d.n->(d.L i).turn≠0->AH (d.L i).key k=false)(hl:d.live<500)(o:d.turns<1000000000000):Inv K hf<|GF hf d k v:=by
 obtain⟨c1,c2,c3,c4⟩:=B2 (hf:=hf) h.i0.core;have a:∀i,i<(Ap hf d).n->((Ap hf d).L i).turn≠0->AH ((Ap hf d).L i).key k=false:=by
  intro i hi f;cases e:AH ((Ap hf d).L i).key k
  .rfl
  obtain⟨j,g1,g2,g3⟩:=(DZ h.i0.core λp=>AH p.key k=true).1 ⟨i,hi,f,e⟩;grind
 obtain⟨g1,g2,g3,g4,g5,g6⟩:=JV g (Ed h.i0) (Er h.i0.core h.next) hk b l c a om om;refine⟨g1,g2,?_⟩;grind [Ch,GF,cU,Ap,DS.n]
end
def shrink(I:Nat->Int):Nat->Nat
 |0=>0
 |m+1=>if I m=0 then shrink I m else m+1
def JH(h:I m=0):shrink I (m+1)=shrink I m:=DD h
def JG(h:I m≠0):shrink I (m+1)=m+1:=C3 h
def JF I m:shrink I m<=m/\(shrink I m=0\/I (shrink I m-1)≠0)/\∀j,shrink I m<=j->j<m->I j=0:=by
 induction m with
 |zero=>exact⟨Be _,.inl rfl,λj _ h=>om⟩
 |succ m ih=>
  by_cases e:I m=0
  .rw[JH e];refine⟨om,ih.2.1,λj h1 h2=>?_⟩;by_cases e':j=m
   .subst e';exact e
   exact ih.2.2 j h1 om
  rw[JG e];exact⟨Be _,.inr<|by rw[show m+1-1=m by omega];exact e,λj h1 h2=>om⟩
def IY(d:Dc)(p:Nat):Dc:={d with L:=AW d.L p default,live:=d.live-1}
section
variable {K:Vl->Prop} {hf:Vl->Nat} {d:Dc} {p:Nat}
theorem Da(h:i≠p):(IY d p).L i=d.L i:=Ao _ _ h
theorem KN:(IY d p).L p=default:=Ax _ _ _
theorem Zc:(default:Pr).turn=0:=rfl
def B6(h:((IY d p).L i).turn≠0):i≠p/\(IY d p).L i=d.L i:=by
 grind [KN,Zc,Da]
def Ub(b:(d.L p).turn≠0):∀k,(A8 (IY d p) k).length+(if p<k then 1 else 0)=(A8 d k).length:=by
 intro k
 induction k with
 |zero=>rfl
 |succ k ih=>
  by_cases e:k=p
  .subst e;rw[Cm (qm KN),Bs b,OR,Aao,DD om];rw[C3 om]at ih;omega
  have a:(IY d p).L k=d.L k:=Da e;by_cases e0:(d.L k).turn=0
  focus
   rw[Cm (by rw[a];exact e0),Cm e0,<-ih]
  rotate_left
  focus
   rw[Bs (by rw[a];exact e0),Bs e0,OR,OR,Aao,<-ih]
  all_goals
   by_cases e2:p<k
   .rw[DD e2,DD (show p<k+1 by omega)]
   rw[C3 e2,C3 (show¬p<k+1 by omega)]
def Rb(c:KeyLaw K hf)(h:Lg d)(hp:p<d.n)(f:(d.L p).turn≠0):Lg<|IY d p:=by
 refine⟨λi hi=>?_,λi j a hj ti b=>?_,?_⟩
 .by_cases e:i=p
  .subst e;left;rw[KN];exact⟨rfl,c.none,c.none⟩
  have:=h.CH i hi;grind [IY,Entry,Da]
 .obtain⟨_,e1⟩:=B6 ti;obtain⟨_,e2⟩:=B6 b;rw[e1]at ti ⊢;rw[e2]at b ⊢;exact h.ord i j a hj ti b
 have h1:=Ub f d.n;rw[DD hp]at h1;have h2:((A8 d d.n).length:Int)=d.live:=h.CX;show((A8 (IY d p) d.n).length:Int)=d.live-1;omega
def goSmall(d:Dc)(p:Nat):Dc:={IY d p with m:=shrink (AW d.I ((d.L p).key.num-1).toNat 0) d.m,I:=AW d.I ((d.L p).key.num-1).toNat 0}
def Up(w:KeyLaw K hf)(h:BW K hf d)(hn:Next d)(hp:p<d.n)(v:(d.L p).turn≠0)(hs:AA d.m (d.L p).key):BW K hf (goSmall d p)/\Next (goSmall d p):=by
 have l:=Rb w h.log hp v;have x:=h.small p hp v hs;obtain⟨k1,k2,k3⟩:=hs;obtain⟨q,hq⟩:=qa<|((d.L p).key.num-1).toNat;obtain⟨s1,s2,A⟩:=JF (AW d.I q 0) d.m;have s:(goSmall d p).m=shrink (AW d.I q 0) d.m:=qm hq
 have r:(goSmall d p).I=AW d.I q 0:=qm hq
 rw[<-hq]at x;have still:∀i,i<d.n->(d.L i).turn≠0->i≠p->AA d.m (d.L i).key->((d.L i).key.num-1).toNat≠q/\AA (goSmall d p).m (d.L i).key:=by
  intro i hi a B b;have h1:=h.small i hi a b;have c:((d.L i).key.num-1).toNat≠q:=λe=>by rw[e]at h1;omega
  refine⟨c,b.1,b.2.1,?_⟩;have a2:=b.2.2;rw[s];by_cases e:(d.L i).key.num<=((shrink (AW d.I q 0) d.m:Nat):Int)
  .exact e
  have:=A ((d.L i).key.num-1).toNat om om;rw[Ao _ _ c]at this;omega
 have f:∀k:Vl,AA (goSmall d p).m k->AA d.m k:=λk g=>⟨g.1,g.2.1,by have:=g.2.2;rw[s]at this;omega⟩;refine⟨Core.UB ⟨⟨l.CH,l.ord,l.CX⟩,λi hi a=>?_,λi j hi hj ti t hl=>?_,λj hj=>?_,?_,λi hi a b=>?_,h.turns,by show d.live-1<=500;have:=h.le;omega⟩ ⟨h.sz,?_,h.used,h.half⟩,λi hi a hc=>?_⟩
 .obtain⟨_,e1⟩:=B6 a;have e1:(goSmall d p).L i=d.L i:=e1;rw[e1]at a ⊢;exact h.keys i hi a
 .obtain⟨_,e1⟩:=B6 ti;obtain⟨_,e2⟩:=B6 t;have e1:(goSmall d p).L i=d.L i:=e1;have e2:(goSmall d p).L j=d.L j:=e2;rw[e1]at ti hl;rw[e2]at t hl;exact h.Kn i j hi hj ti t hl
 .rw[FD,r];by_cases e:j=q
  .left;subst e;exact Ax _ _ _
  rw[Ao _ _ e];rcases h.ints j om with g|⟨g1,g2,g3,g4,g5⟩
  .exact .inl g
  right;have c:(d.I j-1).toNat≠p:=λe'=>by
   have g5:(d.L (d.I j-1).toNat).key.num=j+1:=g5;rw[e']at g5;omega
  have u:(goSmall d p).at (d.I j)=d.at (d.I j):=Da c;rw[u];exact⟨g1,g2,g3,g4,g5⟩
 .rw[s,r];rcases s2 with e|e
  .exact .inl e
  right;by_cases e0:shrink (AW d.I q 0) d.m=0
  focus
   have hj:shrink (AW d.I q 0) d.m-1<d.m:=om
  rotate_left
  focus
   have hj:shrink (AW d.I q 0) d.m-1<d.m:=om
  all_goals
   by_cases e1:shrink (AW d.I q 0) d.m-1=q
   .rw[e1,Ax]at e;exact absurd rfl e
   rw[Ao _ _ e1]at e ⊢;rcases h.ints _ hj with g|g
   .exact absurd g e
   exact g.1
 .obtain⟨e0,e1⟩:=B6 a;have e1:(goSmall d p).L i=d.L i:=e1;rw[e1]at a b ⊢;have o:=f _ b;rw[r,Ao _ _ (still i hi a e0 o).1];exact h.small i hi a o
 .refine h.idx.congr (λi=>?_) λi hi=>?_
  .rw[Uw];constructor
   .rintro⟨g1,g2,g3⟩;obtain⟨e0,e1⟩:=B6 g2;have e1:(goSmall d p).L i=d.L i:=e1;rw[e1]at g2 g3;exact⟨g1,g2,λg=>g3 (still i g1 g2 e0 g).2⟩
   rintro⟨g1,g2,g3⟩;have c:i≠p:=λe=>by subst e;exact g3 ⟨k1,k2,k3⟩
   have e1:(goSmall d p).L i=d.L i:=Da c;rw[e1];exact⟨g1,g2,λg=>g3<|f _ g⟩
  have c:i≠p:=λe=>by subst e;exact hi.2.2 ⟨k1,k2,k3⟩
  rw[show(goSmall d p).L i=d.L i from Da c]
 obtain⟨e0,e1⟩:=B6 a;have e1:(goSmall d p).L i=d.L i:=e1;rw[e1]at a hc;rw[s]at hc;by_cases e:shrink (AW d.I q 0) d.m=d.m
 .rw[e]at hc;exact hn i hi a hc
 have b:AA d.m (d.L i).key:=⟨hc.1,om,om⟩;have:=(still i hi a e0 b).2.2.2;omega
def DQ(d:Dc)(p s:Nat):Dc:={IY d p with X:=AW d.X s (-1)}
def Ww(q:KeyLaw K hf)(h:BW K hf d)(hn:Next d)(hp:p<d.n)(r:(d.L p).turn≠0)(hs:¬AA d.m (d.L p).key){s}(k:s<d.x)(t:d.X s=p+1):BW K hf (DQ d p s)/\Next (DQ d p s):=by
 have b:=Rb q h.log hp r;have c:Cj (AW d.X s (-1)) d.x=Cj d.X d.x:=Gx (λj hj=>by
  by_cases e:j=s
  .subst e;rw[Ax];constructor<;>intro g<;>omega
  rw[Ao _ _ e])
 refine⟨Core.UB ⟨⟨b.CH,b.ord,b.CX⟩,λi hi a=>?_,λi j hi hj ti l hl=>?_,λj hj=>?_,h.last,λi hi a f=>?_,h.turns,by show d.live-1<=500;have:=h.le;omega⟩ ⟨h.sz,?_,?_,?_⟩,λi hi a hc=>?_⟩
 .obtain⟨_,e1⟩:=B6 a;have e1:(DQ d p s).L i=d.L i:=e1;rw[e1]at a ⊢;exact h.keys i hi a
 .obtain⟨_,e1⟩:=B6 ti;obtain⟨_,e2⟩:=B6 l;have e1:(DQ d p s).L i=d.L i:=e1;have e2:(DQ d p s).L j=d.L j:=e2;rw[e1]at ti hl;rw[e2]at l hl;exact h.Kn i j hi hj ti l hl
 .rcases h.ints j hj with g|⟨g1,g2,g3,g4,g5⟩
  .exact .inl g
  right;have hj:j<d.m:=hj;have o:(d.I j-1).toNat≠p:=λe'=>by
   have g4:(d.L (d.I j-1).toNat).key.kind=2:=g4;have g5:(d.L (d.I j-1).toNat).key.num=j+1:=g5;rw[e']at g4 g5;exact hs ⟨g4,om,om⟩
  have u:(DQ d p s).at (d.I j)=d.at (d.I j):=Da o;show 0<d.I j/\d.I j<=d.n/\((DQ d p s).at<|d.I j).turn≠0/\((DQ d p s).at<|d.I j).key.kind=2/\((DQ d p s).at<|d.I j).key.num=j+1;grind
 .obtain⟨e0,e1⟩:=B6 a;have e1:(DQ d p s).L i=d.L i:=e1;rw[e1]at a f ⊢;exact h.small i hi a f
 .refine(h.idx.leave k om).congr (λi=>?_) λi hi=>?_
  .rw[Uw];constructor
   .rintro⟨g1,g2,g3⟩;obtain⟨e0,e1⟩:=B6 g2;have e1:(DQ d p s).L i=d.L i:=e1;rw[e1]at g2 g3;exact⟨⟨g1,g2,g3⟩,om⟩
   rintro⟨⟨g1,g2,g3⟩,g4⟩;have e1:(DQ d p s).L i=d.L i:=Da om;rw[e1];exact⟨g1,g2,g3⟩
  rw[show(DQ d p s).L i=d.L i from Da (oT hi.2)]
 .show(Cj (AW d.X s (-1)) d.x:Int)=d.used;rw[c];exact h.used
 .show 2*Cj (AW d.X s (-1)) d.x<=d.x;rw[c];exact h.half
 obtain⟨e0,e1⟩:=B6 a;have e1:(DQ d p s).L i=d.L i:=e1;rw[e1]at a hc;exact hn i hi a hc
end
open Classical in
noncomputable def GG(hf:Vl->Nat)(d:Dc)(p:Nat):Dc:=
 if AA d.m (d.L p).key then goSmall d p
 else match A1 d (d.L p).key (hf (d.L p).key)with
  |none=>d
  |some s=>DQ d p s
noncomputable def Wv(hf:Vl->Nat)(d:Dc)(p:Nat):Dc:=Ap hf<|GG hf d p
def J0{p}(h:AA d.m (d.L p).key):GG hf d p=goSmall d p:=DD h
def Lu{p}(h:¬AA d.m (d.L p).key)(e:A1 d (d.L p).key (hf (d.L p).key)=some s):GG hf d p=DQ d p s:=by
 unfold GG;rw[C3 h,e]
section
variable {K:Vl->Prop} {hf:Vl->Nat} {d:Dc} {p:Nat}
def Fq(b:KeyLaw K hf)(h:BW K hf d)(hn:Next d)(hp:p<d.n)(a:(d.L p).turn≠0):BW K hf (GG hf d p)/\Next (GG hf d p)/\(GG hf d p).n=d.n/\(GG hf d p).L=AW d.L p default/\(GG hf d p).live=d.live-1/\(GG hf d p).turns=d.turns:=by
 by_cases hs:AA d.m (d.L p).key
 .rw[J0 hs];obtain⟨g1,g2⟩:=Up b h hn hp a hs;exact⟨g1,g2,rfl,rfl,rfl,rfl⟩
 obtain⟨s,h1,h2,h3⟩:=h.found b (h.keys p hp a) ⟨hp,a,hs⟩<|b.refl _<|h.keys p hp a;rw[Lu hs h3];obtain⟨g1,g2⟩:=Ww b h hn hp a hs h1 h2;exact⟨g1,g2,rfl,rfl,rfl,rfl⟩
theorem mH(a:KeyLaw K hf)(h:Inv K hf d)(hp:p<d.n)(b:(d.L p).turn≠0):Inv K hf<|Wv hf d p:=by
 obtain⟨g1,g2,g3,g4,g5,g6⟩:=Fq a h.i0 h.next hp b;obtain⟨c1,c2,c3,c4⟩:=B2 g1.core;refine⟨Ed g1,Er g1.core g2,?_⟩;rw[cU,Wv];rw[c1];omega
end
def II(d:Dc)(p:Nat)(v:Vl):Dc:={d with L:=AW d.L p ⟨(d.L p).key,v,(d.L p).turn⟩}
section
variable {K:Vl->Prop} {hf:Vl->Nat} {d:Dc} {p:Nat} {v:Vl}
theorem Gt i:((II d p v).L i).key=(d.L i).key:=by
 show(AW d.L p _ i).key=_;grind [Ax,Ao]
theorem Ei i:((II d p v).L i).turn=(d.L i).turn:=by
 show(AW d.L p _ i).turn=_;grind [Ax,Ao]
theorem iT(h:Inv K hf d)(hp:p<d.n)(m:(d.L p).turn≠0)(q:v.ok=true)(o:v.kind≠0):Inv K hf<|II d p v:=by
 have b:=h.i0;refine⟨Core.UB ⟨⟨λi hi=>?_,λi j k hj ti l=>?_,?_⟩,λi hi a=>?_,λi j hi hj ti l hl=>?_,λj hj=>?_,b.last,λi hi a f=>?_,b.turns,b.le⟩ ⟨b.sz,?_,b.used,b.half⟩,λi hi a hc=>?_,h.tight⟩
 .by_cases e:i=p
  .subst e;rcases b.log.CH i hi with g|g
   .exact absurd g.1 m
   right;grind [show(II d i v).L i=⟨(d.L i).key,v,(d.L i).turn⟩from Ax _ _ _,II]
  have:=b.log.CH i hi;unfold Entry at this ⊢;rw[show(II d p v).L i=d.L i from Ao _ _ e];exact this
 .rw[Ei]at ti l ⊢;rw[Ei];exact b.log.ord i j k hj ti l
 .show((A8 (II d p v) d.n).length:Int)=d.live;rw[KW (c:=d) d.n (λi _=>by rw[Ei])];exact b.log.CX
 .rw[Ei]at a;rw[Gt];exact b.keys i hi a
 .grind [II,Ei,Gt,BW.Kn]
 .have:=b.ints j hj;unfold FD Dc.at at this ⊢;rw[Ei,Gt];exact this
 .rw[Ei]at a;rw[Gt]at f ⊢;exact b.small i hi a f
 .refine b.idx.congr (λi=>?_) λi _=>Gt i;rw[Uw,Ei,Gt];exact Iff.rfl
 rw[Ei]at a;rw[Gt]at hc;exact h.next i hi a hc
end
open Classical in
noncomputable def Ca(hf:Vl->Nat)(d:Dc)(k v:Vl):Dc:=
 if 0<=Ay d k (hf k)then(if v.kind=0 then Wv hf d (Ay d k<|hf k).toNat else II d (Ay d k<|hf k).toNat v)
 else if v.kind≠0/\d.live<500/\d.turns<1000000000000 then GF hf d k v else d
def Og{k}(h:0<=Ay d k (hf k))(a:v.kind=0):Ca hf d k v=Wv hf d (Ay d k<|hf k).toNat:=by
 unfold Ca;rw[DD h,DD a]
def LP{k}(h:0<=Ay d k (hf k))(a:v.kind≠0):Ca hf d k v=II d (Ay d k<|hf k).toNat v:=by
 unfold Ca;rw[DD h,C3 a]
def Hk{k}(h:¬0<=Ay d k (hf k))(a:v.kind≠0/\d.live<500/\d.turns<1000000000000):Ca hf d k v=GF hf d k v:=by
 unfold Ca;rw[C3 h,DD a]
theorem Hl{k}(h:¬0<=Ay d k (hf k))(a:¬(v.kind≠0/\d.live<500/\d.turns<1000000000000)):Ca hf d k v=d:=by
 unfold Ca;rw[C3 h,C3 a]
def Jz{k}(a:KeyLaw K hf)(h:Inv K hf d)(hk:K k)(b:Ch k=true)(c:v.ok=true):Inv K hf<|Ca hf d k v:=by
 rcases h.i0.place a hk with⟨i,h1,h2,h3,h4⟩|⟨h1,h2⟩;all_goals grind [Ca,Ay,mH,iT,Za,Hl,Core.turns,DS.live]
theorem MB(h:NI x Z=true):(∃s m i t n j,Ieee.double.read x=.number s m i/\Ieee.double.read Z=.number t n j/\-1074<=i/\-1074<=j/\m<2^53/\n<2^53/\(i=-1074\/2^52<=m)/\(j=-1074\/2^52<=n)/\Fl.sc s m i=Fl.sc t n j)\/∃s,Ieee.double.read x=.infinity s/\Ieee.double.read Z=.infinity s:=by
 have h':(Ieee.double.order x Z==some .eq)=true:=h;rcases Fl.CB x with⟨s,m,i,b,hi,e,f,hc⟩|⟨s,b⟩|⟨s,t,b⟩
 .rcases Fl.CB Z with⟨t,n,j,a,hj,c,hn,d⟩|⟨t,a⟩|⟨t,u,a⟩
  .rw[Fl.BR b a hi hj]at h';all_goals grind
  .unfold Ieee.Format.order at h';rw[b,a]at h';cases t<;>simp[Ieee.Datum.order]at h'
  unfold Ieee.Format.order at h';rw[b,a]at h';simp[Ieee.Datum.order]at h'
 .rcases Fl.CB Z with⟨t,n,j,a,hj,c,hn,d⟩|⟨t,a⟩|⟨t,u,a⟩
  .unfold Ieee.Format.order at h';rw[b,a]at h';cases s<;>simp[Ieee.Datum.order]at h'
  .unfold Ieee.Format.order at h';cases s<;>cases t<;>simp[Ieee.Datum.order]at h'
   all_goals grind
  unfold Ieee.Format.order at h';rw[b,a]at h';simp[Ieee.Datum.order]at h'
 unfold Ieee.Format.order at h';rw[b]at h';simp[Ieee.Datum.order]at h'
theorem Gb{s t}{i j}(a:Ieee.double.read x=.number s m i)(hy:Ieee.double.read Z=.number t n j)(hi:-1074<=i)(hj:-1074<=j)(e:Fl.sc s m i=Fl.sc t n j):NI x Z=true:=by
 show(Ieee.double.order x Z==some .eq)=true;rw[Fl.BR a hy hi hj,Fl.G0];exact decide_eq_true e
theorem Yg{s}(a:Ieee.double.read x=.infinity s)(hy:Ieee.double.read Z=.infinity s):NI x Z=true:=by
 show(Ieee.double.order x Z==some .eq)=true;rw[Ieee.Format.order,a,hy];cases s<;>simp[Ieee.Datum.order]
theorem Ug(h:NI x Z=true):NI Z x=true:=by
 grind [MB,Gb,Yg]
theorem Rh{X}(h:NI x Z=true)(h':NI Z X=true):NI x X=true:=by
 grind [MB,Gb,Yg]
theorem eH{s t}{i j}(hi:-1074<=i)(hj:-1074<=j)(c:m<2^53)(hn:n<2^53)(hc:i=-1074\/2^52<=m)(a:j=-1074\/2^52<=n)(e:Fl.sc s m i=Fl.sc t n j)(d:Fl.sc s m i≠0):s=t/\m=n/\i=j:=by
 have pos:∀(m:Nat) (i:Int),0<=Fl.sc false m i/\Fl.sc false m i=((m*2^(i+1074).toNat:Nat):Int):=by
  intro m i;have:Fl.sc false m i=((m*2^(i+1074).toNat:Nat):Int):=by
   rw[Fl.sc,Fl.DN];simp
  omega
 have core:∀{m n:Nat} {i j:Int},-1074<=i->-1074<=j->m<2^53->n<2^53->(i=-1074\/2^52<=m)->(j=-1074\/2^52<=n)->Fl.sc false m i=Fl.sc false n j->Fl.sc false m i≠0->m=n/\i=j:=by
  intro m n i j hi hj c hn hc a e d;rw[(pos m i).2,(pos n j).2]at e;have e':m*2^(i+1074).toNat=n*2^(j+1074).toNat:=om;have le:∀{m n:Nat} {i j:Int},-1074<=i->m<2^53->(j=-1074\/2^52<=n)->m*2^(i+1074).toNat=n*2^(j+1074).toNat->¬i<j:=by
   intro m n i j hi c a e f;obtain⟨q,hq⟩:∃q:Nat,(j+1074).toNat=(i+1074).toNat+(q+1):=⟨(j+1074).toNat-(i+1074).toNat-1,om⟩;rw[hq,Aaq,AaN (2^(i+1074).toNat),<-So]at e;have g:=W9 (Of _) e;have h1:2<=2^(q+1):=by rw[AaB];have:=Of q;omega
   have h2:=Nat.mul_le_mul_left n h1;omega
  have b:i=j:=by grind
  subst b;exact⟨W9 (Of _) e',rfl⟩
 cases s<;>cases t
 .grind
 .have e1:=Fl.EG n j;grind
 .have e1:=Fl.EG m i;grind
 have e1:=Fl.EG m i;have e2:=Fl.EG n j;grind
def Ky(v:Vl):Prop:=Ch v=true/\Wf v
theorem rL(h:fz x=true)(h':fz Z=true):NI x Z=true:=by
 have h1:NI x 0=true:=h;grind [fz,NI,Rh,Ug]
theorem PA{a b}(h:AH a b=true):NI a.Ah b.Ah=true/\a.str.toList=b.str.toList/\a.ref=b.ref:=by
 grind [AH,NI]
theorem N7{a b}(h1:a.kind=b.kind)(h2:a.num=b.num)(h3:NI a.Ah b.Ah=true)(h4:a.str.toList=b.str.toList)(h5:a.ref=b.ref):AH a b=true:=by
 unfold AH;simp[h1,h2,h3,h4,h5]
def ZL(h:Ky v)(h3:v.kind=3):C1 v.Ah=false/\fz v.Ah=false:=(eO h.1 h.2).Ah h3 |>.2
theorem toList_inj{a b:ByteArray}(h:a.toList=b.toList):a.data.toList=b.data.toList:=by
 rw[<-AaU,<-AaU];exact h
theorem Cl:KeyLaw Ky hN:=by
 refine⟨λa h=>N7 rfl rfl (Yt h.1) rfl rfl,λa b _ _ h=>?_,λa b c _ _ _ h h'=>?_,λa b f hb h=>?_,λa b f hb k1 k2 k3=>?_,λn=>?_,?_⟩
 .grind [hN,PA,N7,F4,Gf,Ug]
 .grind [hN,PA,N7,F4,Gf,Rh]
 .obtain⟨h1,h2,h3⟩:=PA h;unfold hN;simp only[DK,F4 h,Gf h,h3];by_cases g:b.kind=4
  .grind [hN,toList_inj]
  rw[C3 g,C3 g];by_cases e3:b.kind=3
  .congr 1
   have hz:=(ZL f<|(F4 h).trans e3).2;unfold EE;rcases MB h1 with⟨s,m,i,t,n,j,g1,g2,g3,g4,g5,g6,g7,g8,e⟩|⟨s,g1,g2⟩
   .have k:Fl.sc s m i≠0:=by
     intro e0;have:NI a.Ah 0=true:=Gb g1 Fl.CD g3 om (by rw[e0,Fl.EA]);have d:NI a.Ah 0=false:=hz;rw[this]at d;cases d
    grind [hN,eH]
   rw[g1,g2]
  rw[C3 e3,C3 e3]
 .grind [Ky,fz,Ch,Vl.ok,Bf,N7,rL,KeyLaw.symm,Wf.str]
 .refine⟨?_,⟨by show 0<18446744073709551616;omega,by show(0:Nat)<=maxLen;omega⟩⟩;have hz:fz 0=true:=Gb Fl.CD Fl.CD om om rfl;simp[Ch,Vl.ok,Bf,CM,hz]
 have hz:fz 0=true:=Gb Fl.CD Fl.CD om om rfl;show C0 (⟨0,0,0,⟨#[]⟩,0⟩:Vl)=true;simp[C0,Vl.ok,Bf,hz]
def Yo:∀v,Ky v->YZ v (hN v):=λv h=>xR h.1 h.2
def N3:∀v,Ky v->Qt BZ v (hN v):=λv h=>vE h.1 h.2
def rM:fz 0=true:=oo
def sG(f:Wf v):∃(c:Int) (a:Vl),LC v.kind v.num v.Ah v.str v.ref=KV c a.kind a.num a.Ah a.str a.ref/\(c=0->Ky a):=by
 rw[LC];by_cases d:Bf v.kind v.num v.Ah v.str v.ref=true
 .rw[DD d];by_cases e:v.kind=0
  .rw[DD e];exact⟨1,⟨0,0,0,⟨#[]⟩,0⟩,rfl,λh=>om⟩
  rw[C3 e];by_cases h3:v.kind=3
  .rw[DD h3];by_cases hn:C1 v.Ah=true
   .rw[DD hn];exact⟨1,⟨0,0,0,⟨#[]⟩,0⟩,rfl,λh=>om⟩
   rw[C3 hn];by_cases b:Ce v.Ah=true
   .rw[DD b];refine⟨0,⟨2,KR v.Ah,0,⟨#[]⟩,0⟩,rfl,λ_=>⟨?_,⟨by show(0:Nat)<_;decide,To _⟩⟩⟩;simp[Ch,Vl.ok,Bf,rM]
   rw[C3 b];grind [Ky,Ch,Vl.ok]
  rw[C3 h3];grind [Ky,Ch,Vl.ok]
 rw[C3 d];exact⟨2,⟨0,0,0,⟨#[]⟩,0⟩,rfl,λh=>om⟩
def bU:Dc:=⟨0,λ_=>default,0,λ_=>0,0,λ_=>0,0,0,0⟩
theorem mW hf:∀(f) (d),(Cy hf f d).m<=d.m+f:=by
 intro f
 induction f with
 |zero=>intro d;exact Be _
 |succ f ih=>
  intro d;cases e:A1 d (CM<|(d.m:Int)+1) (hf<|CM<|(d.m:Int)+1)with
  |none=>rw[Gj e];omega
  |some s=>
   rw[Gk e];have:=ih<|DW d s;have h2:(DW d s).m=d.m+1:=rfl;omega
def Yb hf c k' p:(AY hf c k' p).m=c.m:=by
 grind [AY,Db,Small.x]
def Xo{k}(j:KeyLaw K hf)(h:Inv K hf d)(hk:K k):(Ca hf d k v).m<=d.m+4002:=by
 rcases h.i0.place j hk with⟨i,h1,h2,h3,h4⟩|⟨h1,h2⟩
 .have hp:0<=Ay d k (hf k):=om;have hi:(Ay d k<|hf k).toNat=i:=om;by_cases f:v.kind=0
  .rw[Og hp f,hi];have g:=Fq j h.i0 h.next h1 h2;have e:=(B2 (hf:=hf) g.1.core).2.2.1;show(Ap hf<|GG hf d i).m<=_;rw[e];by_cases hs:AA d.m (d.L i).key
   .rw[J0 hs];have:=(JF (AW d.I ((d.L i).key.num-1).toNat 0) d.m).1;show shrink (AW d.I ((d.L i).key.num-1).toNat 0) d.m<=_;omega
   obtain⟨s,_,_,l⟩:=h.i0.found j (h.i0.keys i h1 h2) ⟨h1,h2,hs⟩<|j.refl _<|h.i0.keys i h1 h2;rw[Lu hs l];show d.m<=_;omega
  rw[LP hp f];show d.m<=_;omega
 have hp:¬0<=Ay d k (hf k):=om;by_cases hc:v.kind≠0/\d.live<500/\d.turns<1000000000000
 .rw[Hk hp hc];rcases (B2 (hf:=hf) h.i0.core).2.2.1,(B2 (hf:=hf) h.i0.core).1,Ed h.i0 with⟨e,a,b⟩;show(Bx hf (Ap hf d) k v).m<=_;generalize Ap hf d=c at e b a;have a:c.live<500:=by rw[a];exact hc.2.1
  have n:c.x<=4000:=by
   rcases b.sz with h|h
   .omega
   exact h.2.1
  rw[Bx];split
  .show c.m<=_;omega
  split
  .grind [mW,B4,Small.x]
  rw[Yb];have o:=(Hn b a).2.2.m;show(CT hf c).m<=_;omega
 rw[Hl hp hc];omega
theorem Inv.small(h:Inv K hf d)(a:d.m<=4194304):Small d:=by
 refine⟨?_,a,?_⟩
 .have:=h.i0.le;rcases h.tight with h|h<;>omega
 rcases h.i0.sz with h|h;all_goals omega
def Fx(Q:Pr->Prop)(d:Dc):Prop:=∀i,i<d.n->Q (d.L i)
section
variable {Q:Pr->Prop} {hf:Vl->Nat} {d c:Dc} {k v:Vl}
theorem Fx.same(h:Fx Q d)(hn:c.n=d.n)(a:c.L=d.L):Fx Q c:=λi hi=>by rw[a];exact h i om
def Fx.yL(h:Fx Q d){p}{x}(a:Q x){n}(hn:∀i,i<n->i=p\/i<d.n){c}(hc:c.n=n)(b:c.L=AW d.L p x):Fx Q c:=λi hi=>by
 rw[b];by_cases e:i=p
 .subst e;rw[Ax];exact a
 rw[Ao _ _ e];rcases hn i om with e'|e'
 .exact absurd e' e
 exact h i e'
def KO p:(AY hf d k p).n=d.n/\(AY hf d k p).L=d.L:=by
 rw[AY];split<;>exact⟨rfl,rfl⟩
theorem K5(x:Nat):∀k,(Bp hf d x k).n=d.n/\(Bp hf d x k).L=d.L
 |0=>⟨rfl,rfl⟩
 |k+1=>by
  by_cases h:AZ d k
  .rw[D9 h];have h1:=KO (hf:=hf) (d:=Bp hf d x k) (k:=(d.L k).key) k;have h2:=K5 x k;exact⟨h1.1.trans h2.1,h1.2.trans h2.2⟩
  rw[Eg h];exact K5 x k
theorem IB more:(A3 hf d more).n=d.n/\(A3 hf d more).L=d.L:=by
 grind [A3,BV,CJ,K5]
theorem MK:∀(f:Nat) (d:Dc),(Cy hf f d).n=d.n/\(Cy hf f d).L=d.L
 |0,d=>⟨rfl,rfl⟩
 |f+1,d=>by
  cases h:A1 d (CM<|(d.m:Int)+1) (hf<|CM<|(d.m:Int)+1)with
  |none=>rw[Gj h];exact⟨rfl,rfl⟩
  |some s=>rw[Gk h];exact MK f<|DW d s
def Fx.pack(h:Fx Q d):Fx Q<|Co d:=λj hj=>by
 obtain⟨i,h1,h2,h3⟩:=F7 d.n hj;have e:EL d j=d.L i:=by rw[<-h3];exact FN h1 h2
 show Q (EL d j);rw[e];exact h i h1
def Fx.Lm(h:Fx Q d):Fx Q<|Ap hf d:=by
 rw[Ap];split
 .exact h
 exact h.pack.same (IB _).1 (IB _).2
def Fx.add(h:Fx Q c)(a:Q ⟨k,v,c.turns+1⟩):Fx Q<|B3 c k v:=h.yL a (n:=c.n+1) (λi hi=>om) rfl rfl
def RP:(CT hf c).n=c.n/\(CT hf c).L=c.L:=by
 grind [CT,IB]
def Fx.uT(h:Fx Q c)(a:∀t,Q ⟨k,v,t⟩):Fx Q<|Bx hf c k v:=by
 rw[Bx];split
 .exact(h.add<|a _).same rfl rfl
 split
 .exact(h.add<|a _).same (MK _ _).1 (MK _ _).2
 exact((h.same RP.1 RP.2).add<|a _).same (KO _).1 (KO _).2
def Fx.zM(h:Fx Q d)(b:Q default)p:Fx Q<|GG hf d p:=by
 have a:Fx Q<|IY d p:=λi hi=>by
  show Q (AW d.L p default i);by_cases e:i=p
  .subst e;rw[Ax];exact b
  rw[Ao _ _ e];exact h i hi
 rw[GG];split
 .exact a.same rfl rfl
 split
 .exact h
 exact a.same rfl rfl
def Fx.put(h:Fx Q d)(a:∀t,Q ⟨k,v,t⟩)(b:Q default)(hs:∀x,Q x->Q ⟨x.key,v,x.turn⟩):Fx Q<|Ca hf d k v:=by
 rw[Ca];split
 .split
  .exact(h.zM b _).Lm
  intro i hi;show Q (AW d.L _ _ i);by_cases e:i=(Ay d k<|hf k).toNat
  .subst e;rw[Ax];exact hs _<|h _ hi
  rw[Ao _ _ e];exact h i hi
 split
 .exact h.Lm.uT a
 exact h
end
def M9.put{hf}{d}{k v}(h:M9 d)(hk:Wf k)(a:Wf v):M9<|Ca hf d k v:=
 Fx.put (Q:=λp=>Wf p.key/\Wf p.val) h (λ_=>⟨hk,a⟩) ⟨⟨oo,oo⟩,⟨oo,oo⟩⟩ λx b=>⟨b.1,a⟩
def Td:Inv K hf bU:=
 ⟨⟨⟨λi hi=>(by cases hi),λi j _ hj=>(by cases hj),rfl⟩,λi hi=>(by cases hi),λi j hi=>(by cases hi),λj hj=>(by cases hj),.inl rfl,λi hi=>(by cases hi),.inl rfl,
  Idx.empty _ _ _ _ (λi h=>by cases h.1),rfl,Be _,⟨oo,oo⟩,oo⟩,λi hi=>(by cases hi),.inl oo⟩
def Has(d:Dc)(p:Pr):Prop:=∃i,i<d.n/\(d.L i).turn≠0/\d.L i=p
theorem Ip(h1:i<d.n)(h2:(d.L i).turn≠0):Has d<|d.L i:=⟨i,h1,h2,rfl⟩
section
variable {K:Vl->Prop} {hf:Vl->Nat} {d:Dc} {k v:Vl}
def Inv.entry(h:Inv K hf d){p}(hp:Has d p):0<p.turn/\p.turn<=d.turns/\p.val.ok=true/\p.val.kind≠0:=by
 obtain⟨i,h1,h2,rfl⟩:=hp;rcases h.i0.log.CH i h1 with e|e;all_goals grind
def Nc(h:Core K d)p:Has (Ap hf d) p↔Has d p:=DZ h λq=>q=p
def XR(d e:Dc)(k v:Vl):Prop:=
 (∃q,Has d q/\AH q.key k=true/\v.kind=0/\(∀p,Has e p↔Has d p/\AH p.key k=false)/\e.live=d.live-1/\e.turns=d.turns)\/
 (∃q,Has d q/\AH q.key k=true/\v.kind≠0/\(∀p,Has e p↔(Has d p/\AH p.key k=false)\/p=⟨q.key,v,q.turn⟩)/\e.live=d.live/\e.turns=d.turns)\/
 ((∀p,Has d p->AH p.key k=false)/\v.kind≠0/\(∀p,Has e p↔Has d p\/p=⟨k,v,d.turns+1⟩)/\e.live=d.live+1/\e.turns=d.turns+1)\/
 ((∀p,Has d p->AH p.key k=false)/\¬(v.kind≠0/\d.live<500/\d.turns<1000000000000)/\e=d)
theorem LG(a:KeyLaw K hf)(h:BW K hf d)(hk:K k){i}(h1:i<d.n)(h2:(d.L i).turn≠0)(h3:AH (d.L i).key k=true){j}(g1:j<d.n)(g2:(d.L j).turn≠0):AH (d.L j).key k=false↔j≠i:=by
 grind [KeyLaw.symm,KeyLaw.trans,BW.keys,BW.Kn,Core.Kn]
def LQ(g:KeyLaw K hf)(h:Inv K hf d)(hk:K k)(r:Ch k=true)(u:v.ok=true):XR d (Ca hf d k v) k v:=by
 rcases h.i0.place g hk with⟨i,h1,h2,h3,h4⟩|⟨h1,h2⟩
 .have hp:0<=Ay d k (hf k):=om;have hi:(Ay d k<|hf k).toNat=i:=om;by_cases f:v.kind=0
  .rw[Og hp f,hi];obtain⟨g1,g2,g3,g4,g5,g6⟩:=Fq g h.i0 h.next h1 h2;have c:=B2 (hf:=hf) g1.core;refine .inl ⟨d.L i,Ip h1 h2,h3,f,λp=>?_,c.1.trans g5,c.2.1.trans g6⟩;refine(Nc g1.core p).trans ?_;constructor
   .rintro⟨j,b,a,rfl⟩;rw[g4]at a ⊢;by_cases e:j=i
    .subst e;rw[Ax]at a;exact absurd rfl a
    grind [Ch,Ca,Ao,Ip,LG,Inv.i0]
   rintro⟨⟨j,b,a,rfl⟩,hl⟩;have e:=(LG g h.i0 hk h1 h2 h3 b a).1 hl;refine⟨j,om,?_,?_⟩
   .rw[g4,Ao _ _ e];exact a
   rw[g4,Ao _ _ e]
  rw[LP hp f,hi];refine .inr<|.inl ⟨d.L i,Ip h1 h2,h3,f,λp=>?_,rfl,rfl⟩;constructor
  .rintro⟨j,b,a,rfl⟩;by_cases e:j=i
   .subst e;right;exact Ax _ _ _
   left;have e2:(II d i v).L j=d.L j:=Ao _ _ e;rw[e2]at a ⊢;exact⟨Ip b a,(LG g h.i0 hk h1 h2 h3 b a).2 e⟩
  rintro(⟨⟨j,b,a,rfl⟩,hl⟩|rfl)
  .have e:=(LG g h.i0 hk h1 h2 h3 b a).1 hl;have e2:(II d i v).L j=d.L j:=Ao _ _ e;exact⟨j,b,by rw[e2];exact a,e2⟩
  have e2:(II d i v).L i=⟨(d.L i).key,v,(d.L i).turn⟩:=Ax _ _ _;exact⟨i,h1,by rw[e2];exact h2,e2⟩
 have hp:¬0<=Ay d k (hf k):=om;have l:∀p,Has d p->AH p.key k=false:=by
  rintro p ⟨i,s,i2,rfl⟩;exact h1 i s i2
 by_cases hc:v.kind≠0/\d.live<500/\d.turns<1000000000000
 .rw[Hk hp hc];rcases B2 (hf:=hf) h.i0.core,Ed h.i0,Er (hf:=hf) h.i0.core h.next with⟨c,m,t⟩;have o:=λp=>Nc (hf:=hf) h.i0.core p;have q:∀i,i<(Ap hf d).n->((Ap hf d).L i).turn≠0->AH ((Ap hf d).L i).key k=false:=λi s i2=>l _<|(o _).1<|Ip s i2;obtain⟨g1,g2,g3,g4,g5,g6⟩:=JV g m t hk r u hc.1 q (by rw[c.1];exact hc.2.1) (by rw[c.2.1];exact hc.2.2);have et:=c.2.1;refine .inr<|.inr<|.inl ⟨l,hc.1,λp=>?_,by rw[<-c.1];exact g5,by rw[<-et];exact g6⟩;show Has (Bx hf (Ap hf d) k v) p↔_;rw[<-et];constructor
  .rintro⟨j,b,a,rfl⟩;rw[g4]at a ⊢;grind [Ch,Ca,Ax,Ao,Ip]
  rintro(hp|rfl)
  .obtain⟨j,b,a,rfl⟩:=(o p).2 hp;refine⟨j,om,?_,?_⟩
   .rw[g4,Ao _ _ om];exact a
   rw[g4,Ao _ _ om]
  refine⟨(Ap hf d).n,om,?_,?_⟩
  .rw[g4,Ax];show(Ap hf d).turns+1≠0;have:=m.turns.1;omega
  rw[g4,Ax]
 grind [XR,Ca]
end
def Eb(d:Dc)(p:Int):Vl:=if 0<=p then(d.L p.toNat).val else default
open Classical in
noncomputable def Zw(d:Dc)(c:Int)(a:Vl):Vl:=if BI d (hD d)=0/\c=0 then Eb d (Ay d a<|hN a)else default
noncomputable def Cb(F:Nat->Br)(x:Tb)(k:Vl):Vl:=
 if x.shape<0 then Eb x.d (Ay x.d k<|hN k)
 else if k.kind=4/\0<=Bj F x.shape.toNat k.str then x.V (Bj F x.shape.toNat k.str).toNat else Cd
def ZM(n:Nat)(f:Nat->Br)(i:Nat)(key:ByteArray):Int:=Y6 (λj=>decide (0<j)&&(decide ((f j).parent=(i:Int))&&((f j).key.toList==key.toList))) n
def Es(n:Nat)(f:Nat->Br)(i:Nat)(key:ByteArray):Int:=if 0<=ZM n f i key then ZM n f i key else if(f i).count=12\/n=200 then -1 else n
def Fc(n:Nat)(f:Nat->Br)(i:Nat)(key:ByteArray):Nat:=if 0<=ZM n f i key then n else if(f i).count=12\/n=200 then n else n+1
def Fb(n:Nat)(f:Nat->Br)(i:Nat)(key:ByteArray):Nat->Br:=if 0<=ZM n f i key then f else if(f i).count=12\/n=200 then f else grown f n i key
def Yu{key}:NC n f i key j↔j<n/\(decide (0<j)&&(decide ((f j).parent=(i:Int))&&((f j).key.toList==key.toList)))=true:=by
 grind [NC]
def Uq n f i key:Ox n f i key (Fc n f i key) (Fb n f i key)<|Es n f i key:=by
 unfold Fc Fb Es;rcases Lk (λj=>decide (0<j)&&(decide ((f j).parent=(i:Int))&&((f j).key.toList==key.toList))) n 0 with h|⟨j,h1,h2,h3,h4,h5⟩
 .have hk:ZM n f i key=-1:=h;have c:∀j,¬NC n f i key j:=λj hj=>by
   obtain⟨a,b⟩:=Yu.1 hj;have:=Hd h j (To _) om;rw[this]at b;cases b
  grind [Ox,Fb]
 have hk:ZM n f i key=j:=h1;have d:(0:Int)<=(j:Int):=om;simp only[hk];exact .inl ⟨j,Yu.2 ⟨om,h4⟩,rfl,rfl,rfl⟩
def Lv{key}{r}(h4:F8 n f)(h:Ox n f i key n' f' r):n'=Fc n f i key/\f'=Fb n f i key/\r=Es n f i key:=h.unique h4<|Uq n f i key
noncomputable def Az(F:Nat->Br)(j:Nat)(W:Nat->Vl):Nat->Dc
 |0=>bU
 |i+1=>Ca hN (Az F j W i) (Bz<|DU F j i)<|W i
noncomputable def D6(d:Dc)(k v:Vl):Bool:=decide (v.kind≠0)&&(decide (Ay d k (hN k)<0)&&(decide (d.live=500)||decide (d.turns=1000000000000)))
noncomputable def DT(x:Tb)(d:Dc)(k v:Vl):Tb:=⟨-1,0,x.V,Ca hN d k v⟩
def Bm(s:AE)(t:Nat)(x:Tb):AE:={s with T:=AM s.T t x}
def E7(x:Tb)(i:Nat)(v:Vl):Tb:={x with V:=AM x.V i v}
def GH(x:Tb)(r:Int)(v:Vl):Tb:={x with shape:=r,nv:=x.nv+1,V:=AM x.V x.nv v}
inductive Way where
 |no|DU|grow|loose|Km|full
 deriving DecidableEq
noncomputable def BX(s:AE)(x:Tb)(k v:Vl):Way:=
 if v.kind=0/\(Cb s.F x k).kind=0 then .no
 else if 0<=x.shape then
  (if k.kind=4/\v.kind≠0 then
   (if 0<=Bj s.F x.shape.toNat k.str then .DU
    else if 0<=Es s.nf s.F x.shape.toNat k.str then .grow else .loose)
   else .loose)
 else if D6 x.d k v=true then .full else .Km
noncomputable def Ci(s:AE)(t:Nat)(k v:Vl):AE:=
 match BX s (s.T t) k v with
 |.no=>s
 |.DU=>Bm s t (E7 (s.T t) (Bj s.F (s.T t).shape.toNat k.str).toNat v)
 |.grow=>{Bm s t (GH (s.T t) (Es s.nf s.F (s.T t).shape.toNat k.str) v)with nf:=Fc s.nf s.F (s.T t).shape.toNat k.str,F:=Fb s.nf s.F (s.T t).shape.toNat k.str}
 |.loose=>Bm s t (DT (s.T t) (Az s.F (s.T t).shape.toNat (s.T t).V (s.T t).nv) k v)
 |.Km=>Bm s t (DT (s.T t) (s.T t).d k v)
 |.full=>s
noncomputable def Ct(s:AE)(t:Nat)(k v:Vl):Int:=if BX s (s.T t) k v=.full then 5 else 0
def Et(n:Int):Int:=if n<1000000000000 then n+1 else 1000000000000
def Lx(s:AE)(i t:Nat):Bool:=decide (0<=(s.T t).shape)&&decide ((s.T t).shape=(s.S i).shape)
noncomputable def En(s:AE)(i t:Nat):Si:=
 if Lx s i t=true then{s.S i with BO:=Et (s.S i).BO}
 else if 0<=(s.T t).shape/\0<=Bj s.F (s.T t).shape.toNat (s.S i).key then⟨(s.S i).key,(s.T t).shape,Bj s.F (s.T t).shape.toNat (s.S i).key,(s.S i).BO,Et (s.S i).misses⟩
 else{s.S i with misses:=Et (s.S i).misses}
noncomputable def Bd(s:AE)(i t:Nat):Int:=
 if Lx s i t=true then(s.S i).place else if 0<=(s.T t).shape then Bj s.F (s.T t).shape.toNat (s.S i).key else -1
noncomputable def A7(s:AE)(i t:Nat):AE:={s with S:=AM s.S i (En s i t)}
def Ja:Tb:=⟨0,0,λ_=>default,bU⟩
noncomputable def RL(s:AE)(t:Nat):Pl:=⟨bV s<|s.T t,jZ s<|s.T t,0⟩
noncomputable def BJ(s:AE)(a:Ac):AE:=
 if a.op=1 then(if s.nt=100 then s else{s with nt:=s.nt+1,T:=AM s.T s.nt Ja})
 else if a.op=7 then(if s.ns=50 then s else{s with ns:=s.ns+1,S:=AM s.S s.ns ⟨a.k.str,-1,0,0,0⟩})
 else if a.op=2 then Ci s a.t.toNat (CZ a.k) a.v
 else if a.op=8 then A7 s a.site.toNat a.t.toNat
 else if a.op=9 then
  (if 0<=Bd s a.site.toNat a.t.toNat/\a.v.kind≠0 then Bm (A7 s a.site.toNat a.t.toNat) a.t.toNat (E7 (s.T a.t.toNat) (Bd s a.site.toNat a.t.toNat).toNat a.v)
   else Ci (A7 s a.site.toNat a.t.toNat) a.t.toNat (Bz (s.S a.site.toNat).key) a.v)
 else s
noncomputable def Dh(s:AE)(a:Ac):An:=
 if a.op=1 then(if s.nt=100 then BD 5 else Dx s.nt)
 else if a.op=7 then(if s.ns=50 then BD 5 else Dx s.ns)
 else if a.op=2 then BD (Ct s a.t.toNat (CZ a.k) a.v)
 else if a.op=9 then
  (if 0<=Bd s a.site.toNat a.t.toNat/\a.v.kind≠0 then BD 0
   else BD (Ct (A7 s a.site.toNat a.t.toNat) a.t.toNat (Bz (s.S a.site.toNat).key) a.v))
 else if a.op=3 then FL (Cb s.F (s.T a.t.toNat)<|CZ a.k)
 else if a.op=8 then FL (if 0<=Bd s a.site.toNat a.t.toNat then(s.T a.t.toNat).V (Bd s a.site.toNat a.t.toNat).toNat else Cb s.F (s.T a.t.toNat) (Bz (s.S a.site.toNat).key))
 else(RL s a.t.toNat).ask a
noncomputable def AR(s:AE)(a:Ac):AE:=if H7 a s.nt s.ns=0 then BJ s a else s
noncomputable def Dg(s:AE)(a:Ac):An:=if H7 a s.nt s.ns=0 then Dh s a else BD (H7 a s.nt s.ns)
structure Wa (M:Nat) (s:AE) (t:Tb):Prop where
 way:(t.shape=-1/\t.nv=0/\Inv Ky hN t.d)\/∃j:Nat,t.shape=j/\j<s.nf/\t.nv=nf s.F j/\bare t.d/\∀i,i<t.nv->Jb (t.V i)=true/\Wf (t.V i)
 wf:M9 t.d
 m:t.d.m<=M
abbrev Qo(s:AE)(t:Tb):Prop:=Wa 4000000 s t
structure GA (M:Nat) (s:AE):Prop where
 f:Ar s.nf s.F=0
 nt:s.nt<=100
 ns:s.ns<=50
 t:∀i,i<s.nt->Wa M s (s.T i)
 si:∀i,i<s.ns->Ob s (s.S i)
abbrev Kl(s:AE):Prop:=GA 4000000 s
def Wa.mono{M}{s}(h:Wa M s t)(a:M<=M'):Wa M' s t:=⟨h.way,h.wf,GO h.m a⟩
def GA.mono{M}{s}(h:GA M s)(a:M<=M'):GA M' s:=⟨h.f,h.nt,h.ns,λi hi=>(h.t i hi).mono a,h.si⟩
theorem Qo.small{s}(h:Qo s t):Small t.d:=by
 have b:=h.m;rcases h.way with⟨_,_,a⟩|⟨j,_,_,_,hb,_⟩
 .exact a.small om
 obtain⟨b1,b2,b3,_⟩:=hb;exact⟨om,om,om⟩
theorem IZ(h:Ar n f=0){j}(hj:j<n):nf f j<=12:=by
 obtain⟨h1,h2,h3,h4,h5⟩:=Av h;have:=(Bh h2 (λj a b=>h3 j a b) j hj).2;unfold nf;omega
def Qo.nv{s}(h:Qo s t)(hf:Ar s.nf s.F=0):t.nv<=12:=by
 rcases h.way with⟨_,h1,_⟩|⟨j,_,h1,h2,_,_⟩;all_goals grind [IZ]
def Kc(h:Ar n f=0){j}(hj:j<n)key:Bj f j key=-1\/∃i:Nat,Bj f j key=i/\i<nf f j:=by
 grind [Ar,nf,Av,Vc,gQ]
def Ft(h:Inv Ky hN d):BI d (hD d)=0:=(h.sound Cl).zero
def ZK{k}(hk:Ky k):LC k.kind k.num k.Ah k.str k.ref=KV 0 k.kind k.num k.Ah k.str k.ref:=by
 grind [Ky,LC,Ch,Vl.ok]
def G4{s}(h:s.size<=4000):Ky<|Bz s:=by
 refine⟨?_,⟨by show 0<_;omega,by show s.size<=_;unfold maxLen;omega⟩⟩;rw[Ch,oH h];rfl
def Jh:cn 13826050856027422720=13826050856027422720:=oo
def He(K:Kd)(c:Cs):Vl×Cs:=
 if(Ab K 5 (EO K c).2).1=0 then({(EO K c).1 with kind:=(Ab K 11 (Ab K 5 (EO K c).2).2).1-1},(Ab K 11 (Ab K 5 (EO K c).2).2).2)
 else if(Ab K 5 (EO K c).2).1=1 then({(EO K c).1 with num:=(IQ K (Ab K 5 (EO K c).2).2).1},(IQ K (Ab K 5 (EO K c).2).2).2)
 else if(Ab K 5 (EO K c).2).1=2 then({(EO K c).1 with Ah:=13826050856027422720},(Ab K 5 (EO K c).2).2)
 else if(Ab K 5 (EO K c).2).1=3 then({(EO K c).1 with ref:=(Ab K 3 (Ab K 5 (EO K c).2).2).1-1},(Ab K 3 (Ab K 5 (EO K c).2).2).2)
 else((EO K c).1,(Ab K 5 (EO K c).2).2)
def XG(K:Kd)(c:Cs):Vl×Cs:=
 if(Ab K 4 c).1=0 then(Cd,(Ab K 4 c).2)else(⟨2,(Ab K 90 (Ab K 4 c).2).1,0,⟨#[]⟩,0⟩,(Ab K 90 (Ab K 4 c).2).2)
def bT(v:Vl):Prop:=v.str.size<=4000/\kW v.Ah
def VP(a:Ac):Prop:=bT a.k/\bT a.v
def Cc:bT Cd:=⟨To _,oo,oo⟩
def TH n:bT ⟨2,n,0,⟨#[]⟩,0⟩:=⟨To _,by show(0:Nat)<_;decide,by show(0:Nat)≠_;decide⟩
def T8{K}{c}(b Z)(w)(h:Cq K c b Z w)(hN:Z<=1099511600000):
  C9 42 #[Q9 b] w λe w'=>∃(kind num:Int) (Ah:Nat) (s:ByteArray) (ref:Int) (c':Cs),e=.returned (V kind num Ah s ref)/\s.size<=4000/\kW Ah/\He K c=(Bl ⟨kind,num,Ah,s,ref⟩,c')/\Cq K c' b (Z+20) w'/\Gr b w w':=by
 have i:=h.lt;have n0:¬w.heap.size=b:=om;have H:=O<|h.below ((BE w.heap.size w).alloc (Be _)<|.cells #[J 0,J 0,F9 0,E9,J 0] 32) i;clear h;go_enter func42,ntmps42;go_wp2_with fail;refine(fH b Z _ H om).mono ?_;rintro e w1 ⟨kind,num,Ah,s,ref,d1,rfl,j,hf,D,r,t⟩;have k:=O D;have q:w.heap.size<w1.heap.size:=by have:=t.size;simp at this;omega
 have P:¬w1.heap.size=b:=om;have u:B9 w1<|w1.alloc<|.cells #[J kind,J num,F9 Ah,.string s,J ref] 32:=n9;have E:=O<|r.below u r.lt;have F:=O<|t.trans<|Gr.Am u;clear D r t u H;go_wp2_with fail;refine(AF b (Z+10) 5 _ E om om om).mono ?_;rintro e w2 ⟨x,d2,rfl,U,W,I,L,A⟩;rcases O I,O A.gr,O<|F.trans A.gr,O L with⟨l,Q,C,M⟩;clear I L A F E;rcases(by omega:x=0\/x=1\/x=3\/x=2\/x=4)with rfl|rfl|rfl|h
 .go_wp2_with fail
  refine(AF b (Z+12) 11 _ M om om om).mono ?_;rintro e w3 ⟨X,d3,rfl,R,S,d,f,a⟩;rcases O d,O<|Q.trans a.gr,O<|C.trans a.gr,O f with⟨m,n,g,o⟩;clear d f a;obtain⟨T,B⟩:=n.box P oq;obtain⟨rc,rf⟩:=g.box n0 oq;go_wp2_with fail;exact Fs (v:=V (X-1) num Ah s ref) (by simp[results,results42,go_sem,rc]) rfl (M0 i ((BE w.heap.size w3).setCell (p:=y w1 0) (Aaa q) _) o om g j hf<|by simp[He,Bl,z k,z l,z m,Jh])
 .go_wp2_with fail
  refine(YX b (Z+12) _ M om).mono ?_;rintro e w3 ⟨X,d3,rfl,d,f,a⟩;rcases O d,O<|Q.trans a.gr,O<|C.trans a.gr,O f with⟨m,n,g,o⟩;clear d f a;obtain⟨T,B⟩:=n.box P oq;obtain⟨rc,rf⟩:=g.box n0 oq;go_wp2_with fail;exact Fs (v:=V kind X Ah s ref) (by simp[results,results42,go_sem,rc]) rfl (M0 i ((BE w.heap.size w3).setCell (p:=y w1 1) (Aaa q) _) o om g j hf<|by simp[He,Bl,z k,z l,z m,Jh])
 .go_wp2_with fail
  refine(AF b (Z+12) 3 _ M om om om).mono ?_;rintro e w3 ⟨X,d3,rfl,R,S,d,f,a⟩;rcases O d,O<|Q.trans a.gr,O<|C.trans a.gr,O f with⟨m,n,g,o⟩;clear d f a;obtain⟨T,B⟩:=n.box P oq;obtain⟨rc,rf⟩:=g.box n0 oq;go_wp2_with fail;exact Fs (v:=V kind num Ah s<|X-1) (by simp[results,results42,go_sem,rc]) rfl (M0 i ((BE w.heap.size w3).setCell (p:=y w1 4) (Aaa q) _) o om g j hf<|by simp[He,Bl,z k,z l,z m,Jh])
 obtain⟨T,B⟩:=Q.box P oq;obtain⟨rc,rf⟩:=C.box n0 oq;rcases h with rfl|rfl;all_goals go_wp2_with fail
 .exact Fs (v:=V kind num 13826050856027422720 s ref) (by simp[results,results42,go_sem,rc]) rfl (M0 i ((BE w.heap.size w2).setCell (p:=y w1 2) (Aaa q) _) M om C j oo<|by simp[He,Bl,z k,z l,Jh])
 exact Fs (v:=V kind num Ah s ref) (by simp[results,results42,go_sem,rc]) rfl (M0 i (BE _ _) M om C j hf<|by simp[He,Bl,z k,z l,Jh])
def pZ{K}{c}(b Z)(w)(h:Cq K c b Z w)(hN:Z<=1099511620000):
  C9 40 #[Q9 b] w λe w'=>∃(v:Vl) (c':Cs),e=.returned (Ga v)/\bT v/\XG K c=(Bl v,c')/\Cq K c' b (Z+4) w'/\Gr b w w':=by
 have a:=h.lt;have n0:¬w.heap.size=b:=om;have H:=O<|h.below ((BE w.heap.size w).alloc (Be _)<|.cells #[J 0,J 0,F9 0,E9,J 0] 32) a;clear h;go_enter func40,ntmps40;go_wp2_with fail;refine(AF b Z 4 _ H om om om).mono ?_;rintro e w1 ⟨x,d1,rfl,u,A,g,i,j⟩;rcases O g,O i,O j.gr with⟨k,l,d⟩;clear g i j H;by_cases x0:x=0
 .subst x0;obtain⟨rc,rf⟩:=d.box n0 oq;go_wp2_with fail;exact Fs (v:=Ga Cd) (by simp[results,results40,go_sem,rc,Cd]) rfl ⟨Cd,d1,rfl,Cc,by simp[XG,Bl,EU,Cd,z k],tU a (BE _ _) l om d _ _ _ _ _⟩
 have b0:(x==0)=false:=by simp[x0]
 go_wp2_with fail
 refine(AF b (Z+2) 90 _ l om om om).mono ?_;rintro e w2 ⟨X,d2,rfl,B,C,m,n,o⟩;rcases O m,O n,O (d.trans o.gr) with⟨r,p,s⟩;clear m n o;go_wp2_with fail;refine m9 (Fh X _) λw3 f=>?_;have t:=O<|p.below f p.lt;have q:=O<|s.trans<|Gr.Am f;clear f;obtain⟨rc,rf⟩:=q.box n0 oq;go_wp2_with fail;exact Fs (v:=Ga ⟨2,X,0,⟨#[]⟩,0⟩) (by simp[results,results40,go_sem,rc]) rfl ⟨⟨2,X,0,⟨#[]⟩,0⟩,d2,rfl,TH X,by simp[XG,Bl,EU,Cd,z k,z r,x0],tU a (BE _ _) t om q _ _ _ _ _⟩
section
open Go.Maps Keyed
def fI{B Z}(h:CE w f b0 n B Z M)(hid:∀i,i<n->Z i=i)(h1:DR n)(h2:Bw f)(h3:Bq n f){k}(hk:k<n){key}(o:key.size<=4000):
  ∃v,(∀q,(Instr.lookup 123 (.map<|M k) (Sh k key<|(f k).count+1) false).run prog (w.drewN q)=.ok v (w.drewN q))/\((∃j,NC n f k key j/\v=Q9 (B j))\/(v=.pointer none/\∀j,¬NC n f k key j)):=by
 have p:=Bh h2 (λj a b=>h3 j a b) k hk;have r:=h1.2;have w1:(Lit.int .i64 (k:Int)).wf=true:=oV om om;have w3:(Lit.int .i64<|(f k).count+1).wf=true:=oV om om;have w2:key.size<=maxLen:=od;cases e:M k with
 |none=>
  refine⟨.pointer none,Rz (s:=⟨k,key,(f k).count+1⟩) w1 w2 w3,.inr ⟨rfl,λj hK=>?_⟩⟩;refine h.bare k hk (hid k hk) e j hK.1 hK.2.1 (hid j hK.2.1) ?_;have hp:AJ f j=k:=by unfold AJ;rw[hK.2.2.1];rfl
  rw[hp];exact hid k hk
 |some m=>
  obtain⟨g,t,hK⟩:=h.kids k m hk (hid k hk) e;refine⟨g<|KG ⟨k,key,(f k).count+1⟩,PB t (s:=⟨k,key,(f k).count+1⟩) w1 w2 w3,?_⟩;rcases hK (KG ⟨k,key,(f k).count+1⟩)with⟨j,u,x,_,_,l,c⟩|⟨c,d⟩
  .refine .inl ⟨j,⟨u,x,?_,?_⟩,c⟩
   .have:=Sj l;rw[<-this]
   have:=Sj l;rw[<-this]
  refine .inr ⟨c,λj hK=>d j hK.1 hK.2.1 (hid j hK.2.1) ?_ ?_⟩
  .have hp:AJ f j=k:=by unfold AJ;rw[hK.2.2.1];rfl
   rw[hp];exact hid k hk
  have A:(f j).key=key:=WideShapes.bytes_inj (by rw[<-AaU,<-AaU];exact hK.2.2.2);have C:(f j).count=(f k).count+1:=by rw[(h3 j hK.1 hK.2.1).2.2.1,hK.2.2.1];rfl
  show Sh (f j).parent (f j).key (f j).count=_;rw[A,C,hK.2.2.1]
theorem Nodes.congr{K d:TypeId}{B Z:Nat->Nat}(h:Nodes P K d w f b0 k B Z M)(e:∀i,i<k->f' i=f i):Nodes P K d w f' b0 k B Z M where
 pos:=h.pos
 n0:=h.n0
 le:=h.le
 own:=h.own
 same:=λi hi=>by rw[e i hi,e _ (Aar (h.le i hi) hi)];exact h.same i hi
 one:=λi j hi hj e2=>h.one i j hi hj<|by rw[<-e i hi,<-e j hj];exact e2
 BH:=h.BH
 base:=h.base
 node:=λi hi hn=>by
  have a:=h.node i hi hn;have hp:Dm f' B i=Dm f B i:=by unfold Dm AJ;rw[e i hi]
  rw[e i hi,hp];exact a
 apart:=h.apart
 mbase:=h.mbase
 MJ:=h.MJ
 bare:=λi hi hn b j a hj c=>by
  have h1:=h.bare i hi hn b j a hj c;unfold AJ at*;rw[e j hj];exact h1
 kids:=λi m hi hn b=>by
  obtain⟨g,l,hK⟩:=h.kids i m hi hn b;refine⟨g,l,λv=>?_⟩;rcases hK v with⟨j,a1,a2,a3,a4,a5,n⟩|⟨a1,a2⟩
  .exact .inl ⟨j,a1,a2,a3,by unfold AJ at*;rw[e j a2];exact a4,by rw[e j a2];exact a5,n⟩
  exact .inr ⟨a1,λj b1 b2 b3 b4=>by rw[e j b2];exact a2 j b1 b2 b3<|by unfold AJ at*;rw[<-e j b2];exact b4⟩
def qG(n:Nat)(f:Nat->Br)(k:Nat)(key:ByteArray)(b0:Nat)(B:Nat->Nat)(w:Y)(e:Ending)(w':Y):Prop:=
 (∃j,NC n f k key j/\e=.returned (Q9<|B j)/\B9 w w')\/
 ((∀j,¬NC n f k key j)/\((f k).count=12\/n=200)/\e=.returned (.pointer none)/\B9 w w')\/
 ((∀j,¬NC n f k key j)/\(f k).count≠12/\n≠200/\∃r B' N' M',e=.returned (Q9 r)/\CE w' (grown f n k key) b0 (n+1) B' N' M'/\(∀i,i<n+1->N' i=i)/\B' n=r/\(∀i,i<n->B' i=B i)/\Sa b0 w w')
def Grown.after{w2}(h:B9 w w1)(h2:Grown a b0 w1 w2):Grown a b0 w w2:=
 ⟨h2.os.trans h.os,h2.tape.trans h.tape,h2.output.trans h.output,GO h.size h2.size,λb hb hc=>(h2.block b (A0 hb h.size) (by
  rcases hc with hc|hc
  .exact .inl hc
  refine .inr (λhN=>hc ?_);unfold Ej at*;rw[h.block b hb]at hN;exact hN)).trans (h.block b hb)⟩
def Ur{key}(h1:DR n)(h2:Bw f)(h3:Bq n f)(hk:k<n)(d:key.size<=4000)(g:(f k).count≠12):
  Bw (grown f n k key)/\(∀i,1<=i->i<=n->Y0 (grown f n k key) i)/\(∀i,i<n->grown f n k key i=f i)/\grown f n k key n=⟨k,key,(f k).count+1⟩:=by
 have h:=Bh h2 (λj a b=>h3 j a b) k hk;have e:∀i,i<n->grown f n k key i=f i:=λi hi=>by unfold grown;rw[C3 om]
 have en:grown f n k key n=⟨k,key,(f k).count+1⟩:=by unfold grown;rw[DD rfl]
 have c:0<n:=om;refine⟨by unfold Bw;rw[e 0 c];exact h2,λi a b=>?_,e,en⟩;by_cases hi:i=n
 .grind [Y0]
 grind [Bw,Bq,grown,Y0]
def Z2{key}{B Z}(h:CE w (grown f n k key) b0 (n+1) B Z M)(e:∀i,i<n->grown f n k key i=f i)(en:grown f n k key n=⟨k,key,(f k).count+1⟩)(h2:Bw f)(h4:F8 n f)(h3:Bq n f)(b:∀j,¬NC n f k key j):∀i,i<n+1->Z i=i:=by
 intro i hi;have c:=h.le i hi;rcases Nat.lt_or_eq_of_le c with d|heq
 .exfalso;have hs:=h.same i hi;have a:Z i<n:=om;rw[e _ a]at hs;have g:0<Z i:=by
   rcases Aas (Z i)with X|X
   .rw[X]at hs;have hp:=h2.1;rw[hs]at hp;by_cases Ko:i=n
    .grind [Bw,Bq]
    rw[e i om]at hp;have:=(h3 i om om).1;omega
   exact X
  by_cases Ko:i=n
  .rw[Ko,en]at hs;subst Ko;exact b (Z i) ⟨g,a,by rw[hs],by rw[hs]⟩
  rw[e i om]at hs;exact h4 i (Z i) g d om ⟨by rw[hs],by rw[hs]⟩
 exact heq
def Tf w{f}b0{n}B Z M(h:CE w f b0 n B Z M)(hid:∀i,i<n->Z i=i)(h1:DR n)(h2:Bw f)(h3:Bq n f)(h4:F8 n f)k(hk:k<n)key(F:key.size<=4000):
  C9 153 #[Q9 (B k),.string key,J n] w λe w'=>qG n f k key b0 B w e w':=by
 rcases h1.2,Bh h2 (λj a b=>h3 j a b) k hk,DH h hid hk,h.lt hk with⟨t,⟨ad,ae⟩,⟨n0,_,n3,_,S⟩,Q⟩;have hw:IntKind.i64.wrap ((f k).count+1)=(f k).count+1:=oj;obtain⟨W,u⟩:=qa<|(w.alloc<|.cells #[J (k:Int),.string key,J ((f k).count+1)] 108).drew;have g:B9 w W:=by rw[u];exact(n9).drew
 have af:W.heap.size=w.heap.size+1:=by rw[u];simp
 obtain⟨S0,S1,S2⟩:W.cell? (y w 0)=some (J (k:Int))/\W.cell? (y w 1)=some (.string key)/\W.cell? (y w 2)=some (J<|(f k).count+1):=by rw[u];simp[go_sem]
 have m5:=(g.cell<|by exact Q).trans S;have x:=h.below g;rcases fI x hid h1 h2 h3 hk F,O x,O<|qp h1<|qp h2<|qp h3 h4,O g with⟨⟨v,ag,hv⟩,R,E,P⟩;clear h h1 h2 h3 h4 g x;go_enter func153,ntmps153;go_wp2
 go_region
 rw[<-u];clear u n0 n3 S;rcases hv with⟨j,o,rfl⟩|⟨rfl,H⟩
 .have HK:=O o;clear o;go_wp2;go_quiet (fail);go_wp2;go_ret;exact .inl ⟨j,HK,rfl,below_drewN P _⟩
 have l:=O H;clear H;by_cases A:12<(f k).count+1
 .have I:decide (12<(f k).count+1)=true:=by simp[A]
  have m:Hid<|(f k).count=12:=O om;clear A;go_wp2;go_quiet (fail);go_wp2;go_ret;exact .inr<|.inl ⟨l,.inl m,rfl,below_drewN P _⟩
 have I:decide (12<(f k).count+1)=false:=ot;have m:Hid<|(f k).count≠12:=O om;clear A;by_cases p:200<=n
 .have C:decide ((200:Int)<=n)=true:=ot;have c:Hid<|n=200:=O om;clear p;go_wp2;go_quiet (fail);go_wp2;go_ret;exact .inr<|.inl ⟨l,.inr c,rfl,below_drewN P _⟩
 have C:decide ((200:Int)<=n)=false:=ot;have c:Hid<|n≠200:=O om;clear p;obtain⟨r2,T,e,en⟩:=Ur E.1 E.2.1 E.2.2.1 hk F m;have d:∀q,C9 117 #[Q9 (B k),Sh k key<|(f k).count+1,J n] (W.drewN q) λe w'=>∃r B' N' M',e=.returned (Q9 r)/\CE w' (grown f n k key) b0 (n+1) B' N' M'/\B' n=r/\(∀i,i<n->B' i=B i)/\Sa b0 (W.drewN q) w':=by
  intro q;have U:=Pj (W.drewN q) b0 n B Z M ((R.congr e).keep λb _=>rfl) t r2 T;rw[show AJ (grown f n k key) n=k from by unfold AJ;rw[en];simp,en]at U;exact U
 have HC:=O d;have V:=O<|qp e en;clear d r2 T e en;go_wp2;go_quiet (fail);go_wp2_with (fail);refine(HC _).mono ?_;rintro e w3 ⟨r,B',N',M',rfl,D,K,L,X⟩;have s:=Z2 D V.1 V.2 E.2.1 E.2.2.2 E.2.2.1 l;have HF:=O<|qp D<|qp s<|qp K<|qp L X;clear D s K L X;go_wp2;go_ret;obtain⟨a1,a2,a3,a4,a5⟩:=z HF;exact .inr<|.inr ⟨l,m,c,r,B',N',M',rfl,a1,a2,a3,a4,Grown.after P ⟨a5.os,a5.tape,a5.output,a5.size,a5.block⟩⟩
end
def Ae{e}{size}{v:V9}(h:w.ownsRow B e size v n xs)(hk:∀g,v.ownBlock=some g->w'.heap[g]?=w.heap[g]?):w'.ownsRow B e size v n xs:=by
 refine⟨h.1,?_⟩;rcases h.2 with hn|⟨g,cap,cur,a,hb,b,rest⟩
 .exact .inl hn
 exact .inr ⟨g,cap,cur,a,hb,(hk g<|qm a).trans b,rest⟩
structure BB (O:Nat->Prop) (w:Y) (O':Nat->Prop) (w':Y):Prop where
 os:w'.os=w.os
 tape:w'.tape=w.tape
 output:w'.output=w.output
 size:w.heap.size<=w'.heap.size
 block:∀k,k<w.heap.size->¬O k->w'.heap[k]?=w.heap[k]?
 own:∀k,O' k->O k\/w.heap.size<=k
def BB.refl Z w:BB Z w Z w:=⟨rfl,rfl,rfl,Be _,λ_ _ _=>rfl,λ_ h=>.inl h⟩
theorem BB.trans{Z a}{b}(h:BB Z w O' w')(g:BB O' w' a b):BB Z w a b:=
 ⟨g.os.trans h.os,g.tape.trans h.tape,g.output.trans h.output,GO h.size g.size,
  λk hk hn=>(g.block k (A0 hk h.size) (λe=>by
   rcases h.own k e with e|e
   .exact hn e
   omega)).trans (h.block k hk hn),
  λk e=>by
   rcases g.own k e with e|e
   .exact h.own k e
   exact .inr (GO h.size e)⟩
def BB.below{Z}{a:Y}(h:BB Z w O' w')(hb:B9 w' a):BB Z w O' a:=
 h.trans ⟨hb.os,hb.tape,hb.output,hb.size,λk hk _=>hb.block k hk,λ_ h=>.inl h⟩
def BB.Am{Z}(hb:B9 w w'):BB Z w Z w':=(BB.refl Z w).below hb
def GU{α}f i(a b:α):AM (AM f i a) i b=AM f i b:=by
 grind [AM,Aj,Ak]
def IM{α}(f:Nat->α)i:AM f i (f i)=f:=by
 grind [AM,Aj,Ak]
abbrev Hp(w:Y)(g o:Nat)(v:Vl):World:=((((w.setCell (G g o)<|J v.kind).setCell (G g<|o+1)<|J v.num).setCell (G g<|o+2)<|F9 v.Ah).setCell (G g<|o+3)<|.string v.str).setCell (G g<|o+4)<|J v.ref
def Ew w g o v{k}(hk:k≠g):(Hp w g o v).heap[k]?=w.heap[k]?:=by
 iterate 5 rw[At _ _ _ _ (by exact hk)]
def nW w g o v:(Hp w g o v).os=w.os/\(Hp w g o v).tape=w.tape/\(Hp w g o v).output=w.output/\(Hp w g o v).heap.size=w.heap.size:=by
 have hb:Below 0 w<|Hp w g o v:=by
  iterate 5 (refine On ?_ (To _) _)
  exact BE _ _
 exact⟨hb.os,hb.tape,hb.output,oq⟩
def Ha(w:Y)a v:(w.setCell a v).os=w.os/\(w.setCell a v).tape=w.tape/\(w.setCell a v).output=w.output/\(w.setCell a v).heap.size=w.heap.size:=by
 have hb:Below 0 w<|w.setCell a v:=(BE _ _).setCell (To _) _;exact⟨hb.os,hb.tape,hb.output,oq⟩
def Qs(w:Y)(b:Nat)(a:Ac):Prop:=w.heap[b]?=some (.cells (Bn a) 34 (0,0))
def IV(w:Y)(b:Nat):Prop:=w.heap[b]?=some (.cells bY 40 (0,0))
theorem Ai(h:w.heap[b]?=some o):b<w.heap.size:=by
 grind [BB.size]
def Qs.lt{a}(h:Qs w b a):b<w.heap.size:=Ai h
def IV.lt(h:IV w b):b<w.heap.size:=Ai h
def Qs.below{a}(h:Qs w b a)(hb:Below B w w')(c:b<B):Qs w' b a:=(hb.block b c).trans h
def IV.below(h:IV w b)(hb:Below B w w')(a:b<B):IV w' b:=(hb.block b a).trans h
def Qs.all{a}(h:Qs w b a):w.cell? (G b 0)=some (J a.op)/\w.cell? (G b 1)=some (J a.t)/\w.cell? (G b 2)=some (J a.site)/\w.cell? (G b 3)=some (J a.n)/\w.cell? (G b 4)=some (J a.k.kind)/\w.cell? (G b 5)=some (J a.k.num)/\w.cell? (G b 6)=some (F9 a.k.Ah)/\w.cell? (G b 7)=some (.string a.k.str)/\w.cell? (G b 8)=some (J a.k.ref)/\w.cell? (G b 9)=some (J a.v.kind)/\w.cell? (G b 10)=some (J a.v.num)/\w.cell? (G b 11)=some (F9 a.v.Ah)/\w.cell? (G b 12)=some (.string a.v.str)/\w.cell? (G b 13)=some (J a.v.ref):=by
 refine⟨?_,?_,?_,?_,?_,?_,?_,?_,?_,?_,?_,?_,?_,?_⟩;all_goals(rw[Hi w b _ _ _ _ h];rfl)
def boxes w a:∃W,W=(w.alloc<|.cells (Bn a) 34).alloc (.cells bY 40)/\B9 w W/\Qs W w.heap.size a/\IV W (w.heap.size+1)/\w.heap.size+1<W.heap.size:=by
 refine⟨_,rfl,(n9).alloc oq _,?_,?_,oq⟩
 .refine((BE (w.alloc<|.cells (Bn a) 34).heap.size _).alloc (Be _) _).block _ oq |>.trans (DO w _)
 have h:=DO (w.alloc<|.cells (Bn a) 34)<|.cells bY 40;rw[show(w.alloc (.cells (Bn a) 34)).heap.size=w.heap.size+1 by simp]at h;exact h
theorem Au{e}{size}{v:V9}(h:w.ownsRow B e size v n xs):∃a cp,v=.slice a n cp:=by
 rcases h.2 with hn|⟨g,cap,cur,b,hb,c,rest⟩;all_goals grind
def C8{c}(h:w.heap[c]?=some (.cells cs ty (0,0)))u:(w.setCell (G c j) u).heap[c]?=some (.cells (cs.setIfInBounds j u) ty (0,0)):=by
 simp[World.setCell,Aap,h]
def JD(f:Nat->List Value):Nat->List Value
 |0=>[]
 |n+1=>JD f n++f n
theorem CC{f:Nat->List Value}(hf:∀i,(f i).length=m):∀n,(JD f n).length=n*m
 |0=>by simp[JD]
 |n+1=>by rw[JD,OR,CC hf n,hf,Nat.succ_mul]
theorem IE{f:Nat->List Value}(hf:∀i,(f i).length=m):∀{n i j:Nat},i<n->j<m->(JD f n)[i*m+j]?=(f i)[j]?
 |0,i,j,hi,_=>om
 |n+1,i,j,hi,hj=>by
  rw[JD];rcases Nat.lt_or_eq_of_le (Nat.le_of_lt_succ hi)with h|h
  .rw[Aak (by rw[CC hf];calc i*m+j<i*m+m:=om
     _=(i+1)*m:=(Nat.succ_mul i m).symm
     _<=n*m:=Aat m h)]
   exact IE hf h hj
  subst h;rw[Aav (by rw[CC hf];omega),CC hf];congr 1;omega
theorem Dt{f g:Nat->List Value}:∀{n:Nat},(∀i,i<n->f i=g i)->JD f n=JD g n
 |0,_=>rfl
 |n+1,h=>by rw[JD,JD,Dt (λi hi=>h i om),h n om]
theorem IG{f:Nat->List Value}(hf:∀i,(f i).length=m){u:V9}:∀{n i j:Nat},i<n->j<m->(JD f n).set (i*m+j) u=JD (AM f i<|(f i).set j u) n
 |0,i,j,hi,_=>om
 |n+1,i,j,hi,hj=>by
  rw[JD,JD];rcases Nat.lt_or_eq_of_le (Nat.le_of_lt_succ hi)with h|h
  .rw[List.set_append_left _ _ (by rw[CC hf];calc i*m+j<i*m+m:=om
     _=(i+1)*m:=(Nat.succ_mul i m).symm
     _<=n*m:=Aat m h),IG hf h hj,Ak _ _ om]
  subst h;rw[List.set_append_right _ _ (by rw[CC hf];omega),CC hf,show i*m+j-i*m=j by omega,Aj];rw[Dt (f:=f) (g:=AM f i ((f i).set j u)) (λq hq=>(Ak _ _ om).symm)]
def JI(f:Nat->Si)(n:Nat):List Value:=JD (λi=>Hr<|f i) n
theorem Gu f n:(JI f n).length=n*5:=CC (m:=5) (λ_=>rfl) n
def Om{f}(hi:i<n)(hj:j<5):(JI f n)[i*5+j]?=(Hr<|f i)[j]?:=IE (m:=5) (λ_=>rfl) hi hj
theorem aO{f g}(h:∀i,i<n->f i=g i):JI f n=JI g n:=Dt λi hi=>by rw[h i hi]
theorem Vr f n x:JI f n++Hr x=JI (AM f n x) (n+1):=by
 grind [JI,AM,JD,Dt]
def YP{f}(hi:i<n)(hj:j<5){u:V9}{x}(a:Hr x=(Hr<|f i).set j u):(JI f n).set (i*5+j) u=JI (AM f i x) n:=by
 rw[JI,IG (m:=5) (λ_=>rfl) hi hj];grind [JI,AM,Dt,Aj]
abbrev M6(w:Y)(B:Nat)(v:V9)(n:Nat)(f:Nat->Si):Prop:=w.ownsRow B 57 5 v n<|JI f n
abbrev cL(w:Y)(B:Nat)(v:V9)(n:Nat)(Bk:Nat->Nat):Prop:=w.ownsRow B 122 1 v n<|ptrs Bk n
abbrev cT(w:Y)(B:Nat)(v:V9)(n:Nat)(Bk:Nat->Nat)(A:Nat->Ad)(s:AE):Prop:=w.ownsRow B 103 1 v n<|kL Bk A s n
def AD(B0 c:Nat)(vN vT vS:V9)(w:Y)(k:Nat):Prop:=k=c\/vN.ownBlock=some k\/vT.ownBlock=some k\/vS.ownBlock=some k\/(B0<=k/\Ej 125 w k)
def OZ(Z:Nat->Prop)(B0 c:Nat)(vN vT vS:V9)(w:Y)(k:Nat):Prop:=AD B0 c vN vT vS w k\/Z k
def Rd(Z:Nat->Prop)(w:Y)(A:Ad)(t:Tb):Prop:=
 ∀w',w.heap.size<=w'.heap.size->(∀k,k<w.heap.size->¬Z k->w'.heap[k]?=w.heap[k]?)->IX w' A.va t.nv t.V/\FJ w' A.la A.ia A.xa t.d
def Rd.now{Z}(h:Rd Z w A t):IX w A.va t.nv t.V/\FJ w A.la A.ia A.xa t.d:=h w (Be _) λ_ _ _=>rfl
def Rd.step{Z}(h:Rd Z w A t)(a:BB Z w O' w'):Rd O' w' A t:=λb hs hk=>
 h b (GO a.size hs) λk h1 h2=>(hk k (A0 h1 a.size) λe=>(a.own k e).elim h2 λe'=>absurd h1 om).trans<|a.block k h1 h2
structure Bg (Z:Nat->Prop) (w:Y) (c B0:Nat) (vN vT vS vU:V9) (Bk:Nat->Nat) (A:Nat->Ad) (s:AE):Prop where
 BH:w.heap[c]?=some (.cells #[vN,vT,vS,vU] 117 (0,0))
 ge:B0<=c
 n:cL w B0 vN s.nf Bk
 nd:∃N M,CE w s.F B0 s.nf Bk N M/\∀i,i<s.nf->N i=i
 t:cT w B0 vT s.nt Bk A s
 si:M6 w B0 vS s.ns s.S
 u:∃ua un uc,vU=.slice ua un uc
 z:∀k,Z k->k<w.heap.size
 rd:∀i,i<s.nt->Rd (OZ Z B0 c vN vT vS w) w (A i) (s.T i)
section
variable {Z:Nat->Prop} {w w':Y} {c B0:Nat} {vN vT vS vU:V9} {Bk:Nat->Nat} {A:Nat->Ad} {s:AE}
def Bg.lt(h:Bg Z w c B0 vN vT vS vU Bk A s):c<w.heap.size:=Ai h.BH
def Bg.cells(h:Bg Z w c B0 vN vT vS vU Bk A s):w.cell? (G c 0)=some vN/\w.cell? (G c 1)=some vT/\w.cell? (G c 2)=some vS/\w.cell? (G c 3)=some vU/\∀q,w.frozen? (G c q)=false:=
 by simp[World.cell?,World.frozen?,h.BH]
def Cv{e' b' Z:Nat}{v v':V9}{xs'}(h:w.ownsRow b e Z v n xs)(h':w.ownsRow b' e' i v' n' xs')(k:e≠e'){q}(hq:v.ownBlock=some q):v'.ownBlock≠some q:=by
 intro a;obtain⟨_,⟨c,_⟩|⟨g,cap,cur,c,_,hb,_⟩⟩:=h
 .rw[c]at hq;cases hq
 obtain⟨_,⟨hv',_⟩|⟨g',d,f,hv',_,j,_⟩⟩:=h'
 .rw[hv']at a;cases a
 rw[c]at hq;rw[hv']at a;cases hq;cases a;grind
def A5{Z}{v:V9}(h:w.ownsRow b e Z v n xs){q}(hq:v.ownBlock=some q):∃cur,w.heap[q]?=some (.cells cur e (0,0))/\b<=q:=by
 obtain⟨_,⟨a,_⟩|⟨g,cap,cur,a,hb,c,_⟩⟩:=h
 .rw[a]at hq;cases hq
 rw[a]at hq;cases hq;exact⟨cur,c,hb⟩
def EM{Z}{v:V9}(h:w.ownsRow b e Z v n xs)(a:e≠125){q}(hq:v.ownBlock=some q):¬Ej 125 w q:=by
 obtain⟨cur,hb,_⟩:=A5 h hq;grind [Ej]
def Bg.Bc(h:Bg Z w c B0 vN vT vS vU Bk A s){e b X n:Nat}{v:V9}{xs}(h':w.ownsRow b e X v n xs)(a:e≠117):v.ownBlock≠some c:=by
 intro hq;obtain⟨cur,hb,_⟩:=A5 h' hq;rw[h.BH]at hb;cases hb;exact a rfl
def Bg.GL(h:Bg Z w c B0 vN vT vS vU Bk A s):¬Ej 125 w c:=by
 rintro(⟨x,hc⟩|⟨es,x,hc⟩)
 .rw[h.BH]at hc;cases hc
 rw[h.BH]at hc;cases hc
def Bg.IC(h:Bg Z w c B0 vN vT vS vU Bk A s){k}(hk:AD B0 c vN vT vS w k):B0<=k/\k<w.heap.size:=by
 rcases hk with rfl|e|e|e|⟨e1,e2⟩
 .exact⟨h.ge,h.lt⟩
 .exact h.n.lt k e
 .exact h.t.lt k e
 .exact h.si.lt k e
 rcases e2 with⟨x,a⟩|⟨es,x,a⟩;all_goals grind
theorem Bg.next(h:Bg Z w c B0 vN vT vS vU Bk A s){a BT B1 d:V9}{b}{A'}{s'}
  (f:w'.os=w.os/\w'.tape=w.tape/\w'.output=w.output) (hz:w.heap.size<=w'.heap.size) (hb:∀k,k<w.heap.size->¬AD B0 c vN vT vS w k->w'.heap[k]?=w.heap[k]?)
  (o:∀k,a.ownBlock=some k->vN.ownBlock=some k\/w.heap.size<=k) (p:∀k,BT.ownBlock=some k->vT.ownBlock=some k\/w.heap.size<=k) (q:∀k,B1.ownBlock=some k->vS.ownBlock=some k\/w.heap.size<=k)
  (hc:w'.heap[c]?=some (.cells #[a,BT,B1,d] 117 (0,0))) (n':cL w' B0 a s'.nf b) (j:∃X M,CE w' s'.F B0 s'.nf b X M/\∀i,i<s'.nf->X i=i)
  (t':cT w' B0 BT s'.nt b A' s') (l:M6 w' B0 B1 s'.ns s'.S) (u':∃ua un uc,d=.slice ua un uc)
  (m:∀i,i<s'.nt->Rd (OZ Z B0 c vN vT vS w) w (A' i) (s'.T i)\/Rd (OZ Z B0 c a BT B1 w') w' (A' i) (s'.T i)):
  Bg Z w' c B0 a BT B1 d b A' s'/\BB (AD B0 c vN vT vS w) w (AD B0 c a BT B1 w') w':=by
 have g:BB (AD B0 c vN vT vS w) w (AD B0 c a BT B1 w') w':=by
  refine⟨f.1,f.2.1,f.2.2,hz,hb,λk hk=>?_⟩;by_cases t:k<w.heap.size
  .by_cases DM:AD B0 c vN vT vS w k
   .exact .inl DM
   rcases hk with e|e|e|e|⟨e1,e2⟩
   .exact .inl (.inl e)
   .exact(o k e).elim (λe=>.inl<|.inr<|.inl e) .inr
   .exact(p k e).elim (λe=>.inl<|.inr<|.inr<|.inl e) .inr
   .exact(q k e).elim (λe=>.inl<|.inr<|.inr<|.inr<|.inl e) .inr
   refine .inl<|.inr<|.inr<|.inr<|.inr ⟨e1,?_⟩;unfold Ej at*;grind
  exact .inr om
 have n:BB (OZ Z B0 c vN vT vS w) w (OZ Z B0 c a BT B1 w') w':=⟨g.os,g.tape,g.output,g.size,λk h1 h2=>g.block k h1 λe=>h2<|.inl e,λk e=>e.elim (λe=>(g.own k e).imp .inl id) λe=>.inl<|.inr e⟩;exact⟨⟨hc,h.ge,n',j,t',l,u',λk e=>A0 (h.z k e) hz,λi hi=>(m i hi).elim (λr=>r.step n) λr=>r⟩,g⟩
def LJ(h:Ej a w k):k<w.heap.size:=by
 grind [Ej]
def Bg.below(h:Bg Z w c B0 vN vT vS vU Bk A s)(hb:B9 w w'):Bg Z w' c B0 vN vT vS vU Bk A s/\BB (AD B0 c vN vT vS w) w (AD B0 c vN vT vS w') w':=by
 obtain⟨X,M,hN,hid⟩:=h.nd;exact h.next ⟨hb.os,hb.tape,hb.output⟩ hb.size (λk hk _=>hb.block k hk) (λ_ e=>.inl e) (λ_ e=>.inl e) (λ_ e=>.inl e) ((hb.block c h.lt).trans h.BH) (Xf h.n hb) ⟨X,M,hN.keep λb hn=>hb.block b<|LJ hn,hid⟩ (Xf h.t hb) (Xf h.si hb) h.u λi hi=>.inl<|h.rd i hi
def Rd.mono{Z}{A}(h:Rd Z w A t)(a:∀k,O' k->Z k):Rd O' w A t:=λw' hs hk=>h w' hs λk h1 h2=>hk k h1 λe=>h2<|a k e
def ZB(Z:Nat->Prop)(a b k:Nat):Prop:=Z k\/(a<=k/\k<b)
def Bg.enter(h:Bg Z w c B0 vN vT vS vU Bk A s)(hb:B9 w w'):Bg (ZB Z w.heap.size w'.heap.size) w' c B0 vN vT vS vU Bk A s/\BB (AD B0 c vN vT vS w) w (AD B0 c vN vT vS w') w':=by
 obtain⟨h1,b⟩:=h.below hb;refine⟨⟨h1.BH,h1.ge,h1.n,h1.nd,h1.t,h1.si,h1.u,λk e=>e.elim (λe=>h1.z k e) λe=>e.2,λi hi a hs hk=>?_⟩,b⟩;refine h.rd i hi a (GO hb.size hs) λk k1 k2=>(hk k (A0 k1 hb.size) λe=>?_).trans<|hb.block k k1;rcases e with e|e|e
 .exact(b.own k e).elim (λe=>k2<|.inl e) λe=>om
 .exact k2 (.inr e)
 omega
def Bg.leave{a}(h:Bg Z w c B0 vN vT vS vU Bk A s)(hz:∀k,a k->Z k):Bg a w c B0 vN vT vS vU Bk A s:=
 ⟨h.BH,h.ge,h.n,h.nd,h.t,h.si,h.u,λk e=>h.z k<|hz k e,λi hi=>(h.rd i hi).mono λk e=>e.imp id<|hz k⟩
theorem Bg.box(h:Bg Z w c B0 vN vT vS vU Bk A s){b}{cs}{ty}(hb:Z b)(p:B0<=b)(hn:¬AD B0 c vN vT vS w b)(a:w'.os=w.os/\w'.tape=w.tape/\w'.output=w.output/\w'.heap.size=w.heap.size)(hk:∀k,k≠b->w'.heap[k]?=w.heap[k]?)(hc:w'.heap[b]?=some (.cells cs ty (0,0)))(q:ty≠125):
  Bg Z w' c B0 vN vT vS vU Bk A s/\∀k,AD B0 c vN vT vS w' k->AD B0 c vN vT vS w k:=by
 have o:∀k,AD B0 c vN vT vS w' k->AD B0 c vN vT vS w k:=λk e=>by
  rcases e with e|e|e|e|⟨e1,e2⟩
  .exact .inl e
  .exact .inr (.inl e)
  .exact .inr (.inr<|.inl e)
  .exact .inr (.inr<|.inr<|.inl e)
  by_cases d:k=b
  .subst d;rcases e2 with⟨x,f⟩|⟨es,x,f⟩
   .rw[hc]at f;cases f;exact absurd rfl q
   rw[hc]at f;cases f
  refine .inr<|.inr<|.inr<|.inr ⟨e1,?_⟩;unfold Ej at*;rw[hk k d]at e2;exact e2
 have j:∀k,AD B0 c vN vT vS w k->w'.heap[k]?=w.heap[k]?:=λk e=>hk k λe'=>hn<|e'▸e;obtain⟨X,M,hN,hid⟩:=h.nd;refine⟨⟨(j c<|.inl rfl).trans h.BH,h.ge,Ae h.n λg e=>j g<|.inr<|.inl e,⟨X,M,hN.keep λb' r=>?_,hid⟩,Ae h.t λg e=>j g<|.inr<|.inr<|.inl e,Ae h.si λg e=>j g<|.inr<|.inr<|.inr<|.inl e,h.u,λk e=>by rw[a.2.2.2];exact h.z k e,λi hi l hs m=>?_⟩,o⟩
 .grind [AD]
 refine h.rd i hi l (by rw[<-a.2.2.2];exact hs) λk k1 k2=>(m k (by rw[a.2.2.2];exact k1) λe=>k2<|e.imp (o k) id).trans<|hk k λe=>k2<|.inr<|e▸hb
def Bg.fin{l}{a}{d i}{j}(h:Bg l w' c B0 d BT B1 i j A' s')(g:BB (AD B0 c vN vT vS w) w (AD B0 c d BT B1 w') w')(m:B0<=w.heap.size)
  {b} {cs} {ty} (hb:l b) (n:w.heap.size<=b) (hn:¬AD B0 c d BT B1 w' b) (o:∀k,Z k->l k) (f:a.os=w'.os/\a.tape=w'.tape/\a.output=w'.output/\a.heap.size=w'.heap.size) (hk:∀k,k≠b->a.heap[k]?=w'.heap[k]?) (hc:a.heap[b]?=some (.cells cs ty (0,0))) (p:ty≠125):
  Bg Z a c B0 d BT B1 i j A' s'/\BB (AD B0 c vN vT vS w) w (AD B0 c d BT B1 a) a:=by
 obtain⟨h1,q⟩:=h.box hb (GO m n) hn f hk hc p;exact⟨h1.leave o,⟨f.1.trans g.os,f.2.1.trans g.tape,f.2.2.1.trans g.output,by rw[f.2.2.2];exact g.size,λk k1 k2=>(hk k om).trans<|g.block k k1 k2,λk e=>g.own k<|q k e⟩⟩
def Bg.wM(h:Bg Z w c B0 vN vT vS vU Bk A s){ua}{un uc}:Bg Z (w.setCell (G c 3)<|.slice ua un uc) c B0 vN vT vS (.slice ua un uc) Bk A s/\BB (AD B0 c vN vT vS w) w (AD B0 c vN vT vS<|w.setCell (G c 3)<|.slice ua un uc) (w.setCell (G c 3)<|.slice ua un uc):=by
 obtain⟨X,M,hN,hid⟩:=h.nd;have a:∀k,k≠c->(w.setCell (G c 3)<|.slice ua un uc).heap[k]?=w.heap[k]?:=λk hk=>At _ _ _ _ (by exact hk);refine h.next ⟨rfl,rfl,rfl⟩ oq (λk _ hk=>a k λe=>hk<|.inl e) (λ_ e=>.inl e) (λ_ e=>.inl e) (λ_ e=>.inl e) ?_ (Ae h.n λg e=>a g λe'=>h.Bc h.n oo<|e'▸e) ⟨X,M,hN.keep λb hn=>a b λe=>h.GL<|e▸hn,hid⟩
  (Ae h.t λg e=>a g λe'=>h.Bc h.t oo<|e'▸e) (Ae h.si λg e=>a g λe'=>h.Bc h.si oo<|e'▸e) ⟨_,_,_,rfl⟩ λi hi=>.inl<|h.rd i hi
 exact(IH _ _ _ _ _ _ h.BH).trans oq
def Bg.drew(h:Bg Z w c B0 vN vT vS vU Bk A s):Bg Z w.drew c B0 vN vT vS vU Bk A s:=(h.below (BE _ _).drew).1
def BB.Uf{Z}(h:BB Z w (AD B0 c vN vT vS w') w'):BB Z w (AD B0 c vN vT vS w'.drew) w'.drew:=⟨h.os,h.tape,h.output,h.size,h.block,λk e=>h.own k e⟩
end
def Rt Bk A s n:(kL Bk A s n).length=n:=by simp[kL]
theorem Pn{Bk a}{A}{s}(h:∀i,i<n->AX Bk (A i) (s.T i)=AX a (A' i) (s'.T i)):kL Bk A s n=kL a A' s' n:=by
 exact List.map_congr_left λi hi=>h i<|List.mem_range.1 hi
def sF{Bk}{A}{s}{t}(a:t<n)a' x':(kL Bk A s n).set t (AX Bk a' x')=kL Bk (AM A t a') (Bm s t x') n:=by
 apply AaF;intro q;rw[List.getElem?_set];by_cases hq:q<n
 .by_cases e:t=q
  .subst e;rw[DD rfl,DD (by rw[Rt];exact hq),ME hq];show _=some (AX Bk (AM A t a' t)<|AM s.T t x' t);rw[Aj,Aj]
  rw[ME hq,ME hq];show _=some (AX Bk (AM A t a' q)<|AM s.T t x' q);grind [kL,AM,Bm]
 grind [kL,AM,Bm]
section
variable {Z:Nat->Prop} {w w' X w3:Y} {c B0:Nat} {vN vT vS vU:V9} {Bk:Nat->Nat} {A:Nat->Ad} {s:AE}
def Bg.CA(h:Bg Z w c B0 vN vT vS vU Bk A s){t}(d:t<s.nt):∃g cp,vT=.slice (some<|G g 0) s.nt cp/\g<w.heap.size/\B0<=g/\w.cell? (G g t)=some (AX Bk (A t)<|s.T t)/\∀q,w.frozen? (G g q)=false:=by
 obtain⟨hl,⟨b,e⟩|⟨g,cap,cur,b,hb,a,h1,h2,h3,h4⟩⟩:=h.t
 .omega
 refine⟨g,cap,b,(GC.1 a).1,hb,?_,λq=>by simp[World.frozen?,a]⟩;rw[Lo (b▸h.t) t om,ME d]
def Bg.Gs(h:Bg Z w c B0 vN vT vS vU Bk A s){g cp t}(f:vT=.slice (some<|G g 0) s.nt cp)(l:t<s.nt){a'}{x'}(m:Rd (OZ Z B0 c vN vT vS w) w a' x'):
  Bg Z (w.setCell (G g t)<|AX Bk a' x') c B0 vN vT vS vU Bk (AM A t a') (Bm s t x')/\BB (AD B0 c vN vT vS w) w (AD B0 c vN vT vS<|w.setCell (G g t)<|AX Bk a' x') (w.setCell (G g t)<|AX Bk a' x'):=by
 obtain⟨X,M,hN,hid⟩:=h.nd;have a:vT.ownBlock=some g:=qm f
 have d:∀k,k≠g->(w.setCell (G g t)<|AX Bk a' x').heap[k]?=w.heap[k]?:=λk hk=>At _ _ _ _ (by exact hk);have j:c≠g:=λe=>h.Bc h.t oo<|e▸a;refine h.next ⟨rfl,rfl,rfl⟩ oq (λk _ hk=>d k λe=>hk<|.inr<|.inr<|.inl<|e▸a) (λ_ e=>.inl e) (λ_ e=>.inl e) (λ_ e=>.inl e) ((d c j).trans h.BH) (Ae h.n λq e=>d q λe'=>Cv h.t h.n oo a<|e'▸e) ⟨X,M,hN.keep λb hn=>d b λe=>EM h.t oo a<|e▸hn,hid⟩ ?_
  (Ae h.si λq e=>d q λe'=>Cv h.t h.si oo a<|e'▸e) h.u λi hi=>?_
 .have h1:=(We (f▸h.t:w.ownsRow B0 103 1 (.slice (some<|G g 0) s.nt cp) s.nt<|kL Bk A s s.nt) t<|AX Bk a' x').1;rw[sF l]at h1;rw[<-f]at h1;exact h1
 show Rd _ _ (AM A t a' i) (AM s.T t x' i)\/_;grind [OZ,AM,Bm,Aj,Bg.rd]
def Bg.more(h:Bg Z w c B0 vN vT vS vU Bk A s)(b:B9 w X){row}(a:X.grownBy w3 row)(f:∀k,row=some k->k≠c):w3.heap[c]?=some (.cells #[vN,vT,vS,vU] 117 (0,0))/\∀q,q<w.heap.size->row≠some q->w3.heap[q]?=w.heap[q]?:=by
 have d:∀q,q<w.heap.size->row≠some q->w3.heap[q]?=w.heap[q]?:=λq hq h1=>(a.block q (A0 hq b.size) λe=>h1 e.symm).trans<|b.block q hq;grind [Bg.BH]
def Rd.empty{Z}{a}(h1:t.nv=0)(h2:t.d.n=0)(h3:t.d.m=0)(h4:t.d.x=0):Rd Z w a t:=λw' _ _=>⟨.inl h1,.inl h2,.inl h3,.inl h4⟩
def Bg.wH(h:Bg Z w c B0 vN vT vS vU Bk A s){g3 a}{a'}{x'}(j:B9 w X)(d:X.grownBy w3 vT.ownBlock)
  (r:w3.ownsRow B0 103 1 (.slice (some<|G g3 0) (s.nt+1) a) (s.nt+1)<|kL Bk A s s.nt++[AX Bk a' x']) (g:vT.ownBlock=some g3\/w.heap.size<=g3) (v:Rd (OZ Z B0 c vN vT vS w) w a' x'):
  w3.heap[c]?=some (.cells #[vN,vT,vS,vU] 117 (0,0))/\Bg Z (w3.setCell (G c 1)<|.slice (some<|G g3 0) (s.nt+1) a) c B0 vN (.slice (some<|G g3 0) (s.nt+1) a) vS vU Bk (AM A s.nt a') {s with nt:=s.nt+1,T:=AM s.T s.nt x'}/\BB (AD B0 c vN vT vS w) w (AD B0 c vN (.slice (some<|G g3 0) (s.nt+1) a) vS<|w3.setCell (G c 1)<|.slice (some<|G g3 0) (s.nt+1) a) (w3.setCell (G c 1)<|.slice (some<|G g3 0) (s.nt+1) a):=by
 obtain⟨W,M,hN,hid⟩:=h.nd;obtain⟨l,f⟩:=h.more j d λk e e'=>h.Bc h.t oo<|e'▸e;have m:∀k,k≠c->(w3.setCell (G c 1)<|.slice (some<|G g3 0) (s.nt+1) a).heap[k]?=w3.heap[k]?:=λk hk=>At _ _ _ _ (by exact hk);have o:g3≠c:=λe=>by
  rcases g with h1|h1
  .exact h.Bc h.t oo (e▸h1)
  have:=h.lt;omega
 refine⟨l,h.next ⟨d.os.trans j.os,d.tape.trans j.tape,d.output.trans j.output⟩ (by have:=j.size;have:=d.size;simp;omega) (λk p hk=>(m k λe=>hk<|.inl e).trans<|f k p λe=>hk<|.inr<|.inr<|.inl e) (λ_ e=>.inl e) (λk e=>by cases e;exact g) (λ_ e=>.inl e) ((IH _ _ _ _ _ _ l).trans oq)
  (Ae h.n λq e=>(m q λe'=>h.Bc h.n oo<|e'▸e).trans<|f q (h.n.lt q e).2<|Cv h.n h.t oo e) ⟨W,M,hN.keep λb hn=>(m b λe=>h.GL<|e▸hn).trans<|f b (LJ hn) λe=>EM h.t oo e hn,hid⟩ ?_
  (Ae h.si (λq e=>(m q (λe'=>h.Bc h.si oo (e'▸e))).trans (f q (h.si.lt q e).2 (Cv h.si h.t oo e)))) h.u (λi hi=>?_)⟩
 .refine Ae ?_ λq e=>m q (by cases e;exact o);have e:kL Bk (AM A s.nt a') {s with nt:=s.nt+1,T:=AM s.T s.nt x'} (s.nt+1)=kL Bk A s s.nt++[AX Bk a' x']:=by
   rw[<-SX];grind [kL,Rd,OZ,AM,AD,Pn]
  grind
 grind [kL,Rd,AM,Aj,Bg.rd]
def YF{Z}{ys}(h:w.ownsRow B e Z (S9 g n cp) n xs)(f:m<=n)(hl:ys.length=m*Z)(hp:ys<+:xs):w.ownsRow B e Z (S9 g m cp) m ys:=by
 obtain⟨c,⟨b,i⟩|⟨g',cap,cur,b,hb,a,h1,h2,h3,h4⟩⟩:=h
 .cases b
 cases b;refine⟨hl,.inr ⟨g,cp,cur,rfl,hb,a,om,h2,h3,?_⟩⟩;obtain⟨r,d⟩:=hp;have h5:(cur.toList.take<|n*Z).take (m*Z)=ys:=by rw[h4,<-d,<-hl];exact List.take_left
 grind
def Bg.xL(h:Bg Z w c B0 vN vT vS vU Bk A s){g cp m}(f:vT=.slice (some<|G g 0) s.nt cp)(o:m<=s.nt):
  Bg Z (w.setCell (G c 1)<|.slice (some<|G g 0) m cp) c B0 vN (.slice (some<|G g 0) m cp) vS vU Bk A {s with nt:=m}/\BB (AD B0 c vN vT vS w) w (AD B0 c vN (.slice (some<|G g 0) m cp) vS<|w.setCell (G c 1)<|.slice (some<|G g 0) m cp) (w.setCell (G c 1)<|.slice (some<|G g 0) m cp):=by
 obtain⟨X,M,hN,hid⟩:=h.nd;have l:vT.ownBlock=some g:=qm f
 have a:∀k,k≠c->(w.setCell (G c 1)<|.slice (some<|G g 0) m cp).heap[k]?=w.heap[k]?:=λk hk=>At _ _ _ _ (by exact hk);have d:g≠c:=λe=>h.Bc h.t oo<|e▸l;refine h.next ⟨rfl,rfl,rfl⟩ oq (λk _ hk=>a k λe=>hk<|.inl e) (λ_ e=>.inl e) (λk e=>by cases e;exact .inl l) (λ_ e=>.inl e) ((IH _ _ _ _ _ _ h.BH).trans oq) (Ae h.n λq e=>a q λe'=>h.Bc h.n oo<|e'▸e) ⟨X,M,hN.keep λb hn=>a b λe=>h.GL<|e▸hn,hid⟩ ?_
  (Ae h.si λq e=>a q λe'=>h.Bc h.si oo<|e'▸e) h.u λi hi=>.inl<|h.rd i (by have hi:i<m:=hi;omega)
 refine Ae (YF (f▸h.t:w.ownsRow B0 103 1 (.slice (some<|G g 0) s.nt cp) s.nt<|kL Bk A s s.nt) o (by rw[Rt];exact(Nat.mul_one m).symm) ?_) λq e=>a q (by cases e;exact d);refine List.IsPrefix.map _ ?_;obtain⟨j,hj⟩:∃j,s.nt=m+j:=⟨s.nt-m,om⟩;rw[hj];exact⟨(List.range j).map (m+·),by rw[List.range_add]⟩
def Bg.wG(h:Bg Z w c B0 vN vT vS vU Bk A s){g3 a}{x'}(j:B9 w X)(d:X.grownBy w3 vS.ownBlock)
  (r:w3.ownsRow B0 57 5 (.slice (some<|G g3 0) (s.ns+1) a) (s.ns+1)<|JI s.S s.ns++Hr x') (g:vS.ownBlock=some g3\/w.heap.size<=g3):
  w3.heap[c]?=some (.cells #[vN,vT,vS,vU] 117 (0,0))/\Bg Z (w3.setCell (G c 2)<|.slice (some<|G g3 0) (s.ns+1) a) c B0 vN vT (.slice (some<|G g3 0) (s.ns+1) a) vU Bk A {s with ns:=s.ns+1,S:=AM s.S s.ns x'}/\BB (AD B0 c vN vT vS w) w (AD B0 c vN vT (.slice (some<|G g3 0) (s.ns+1) a)<|w3.setCell (G c 2)<|.slice (some<|G g3 0) (s.ns+1) a) (w3.setCell (G c 2)<|.slice (some<|G g3 0) (s.ns+1) a):=by
 obtain⟨W,M,hN,hid⟩:=h.nd;obtain⟨l,f⟩:=h.more j d λk e e'=>h.Bc h.si oo<|e'▸e;have m:∀k,k≠c->(w3.setCell (G c 2)<|.slice (some<|G g3 0) (s.ns+1) a).heap[k]?=w3.heap[k]?:=λk hk=>At _ _ _ _ (by exact hk);have o:g3≠c:=λe=>by
  rcases g with h1|h1
  .exact h.Bc h.si oo (e▸h1)
  have:=h.lt;omega
 refine⟨l,h.next ⟨d.os.trans j.os,d.tape.trans j.tape,d.output.trans j.output⟩ (by have:=j.size;have:=d.size;simp;omega) (λk p hk=>(m k λe=>hk<|.inl e).trans<|f k p λe=>hk<|.inr<|.inr<|.inr<|.inl e) (λ_ e=>.inl e) (λ_ e=>.inl e) (λk e=>by cases e;exact g) ((IH _ _ _ _ _ _ l).trans oq)
  (Ae h.n λq e=>(m q λe'=>h.Bc h.n oo<|e'▸e).trans<|f q (h.n.lt q e).2<|Cv h.n h.si oo e) ⟨W,M,hN.keep λb hn=>(m b λe=>h.GL<|e▸hn).trans<|f b (LJ hn) λe=>EM h.si oo e hn,hid⟩
  (Ae h.t (λq e=>(m q (λe'=>h.Bc h.t oo (e'▸e))).trans (f q (h.t.lt q e).2 (Cv h.t h.si oo e)))) ?_ h.u (λi hi=>.inl (h.rd i hi))⟩
 refine Ae ?_ λq e=>m q (by cases e;exact o);grind [Hr,AM,Vr]
def Bg.xK(h:Bg Z w c B0 vN vT vS vU Bk A s){g cp m}(f:vS=.slice (some<|G g 0) s.ns cp)(o:m<=s.ns):
  Bg Z (w.setCell (G c 2)<|.slice (some<|G g 0) m cp) c B0 vN vT (.slice (some<|G g 0) m cp) vU Bk A {s with ns:=m}/\BB (AD B0 c vN vT vS w) w (AD B0 c vN vT (.slice (some<|G g 0) m cp)<|w.setCell (G c 2)<|.slice (some<|G g 0) m cp) (w.setCell (G c 2)<|.slice (some<|G g 0) m cp):=by
 obtain⟨X,M,hN,hid⟩:=h.nd;have l:vS.ownBlock=some g:=qm f
 have a:∀k,k≠c->(w.setCell (G c 2)<|.slice (some<|G g 0) m cp).heap[k]?=w.heap[k]?:=λk hk=>At _ _ _ _ (by exact hk);have d:g≠c:=λe=>h.Bc h.si oo<|e▸l;refine h.next ⟨rfl,rfl,rfl⟩ oq (λk _ hk=>a k λe=>hk<|.inl e) (λ_ e=>.inl e) (λ_ e=>.inl e) (λk e=>by cases e;exact .inl l) ((IH _ _ _ _ _ _ h.BH).trans oq) (Ae h.n λq e=>a q λe'=>h.Bc h.n oo<|e'▸e) ⟨X,M,hN.keep λb hn=>a b λe=>h.GL<|e▸hn,hid⟩
  (Ae h.t λq e=>a q λe'=>h.Bc h.t oo<|e'▸e) ?_ h.u λi hi=>.inl<|h.rd i hi
 refine Ae (YF (f▸h.si:w.ownsRow B0 57 5 (.slice (some<|G g 0) s.ns cp) s.ns<|JI s.S s.ns) o (Gu _ _) ?_) λq e=>a q (by cases e;exact d);obtain⟨j,hj⟩:∃j,s.ns=m+j:=⟨s.ns-m,om⟩;rw[hj];clear hj
 induction j with
 |zero=>exact List.prefix_refl _
 |succ j ih=>exact ih.trans<|List.prefix_append _ _
def Bg.Ex(h:Bg Z w c B0 vN vT vS vU Bk A s){i}(hi:i<s.ns):∃g cp,vS=.slice (some<|G g 0) s.ns cp/\g<w.heap.size/\B0<=g/\(∀j u,(Hr<|s.S i)[j]?=some u->w.cell? (G g<|i*5+j)=some u)/\∀q,w.frozen? (G g q)=false:=by
 obtain⟨hl,⟨b,d⟩|⟨g,cap,cur,b,hb,a,h1,h2,h3,h4⟩⟩:=h.si
 .omega
 refine⟨g,cap,b,(GC.1 a).1,hb,λj u hu=>?_,λq=>by simp[World.frozen?,a]⟩;have hj:j<5:=by have:=(SO.1 hu).1;exact this
 rw[Lo (b▸h.si) (i*5+j) om,Om hi hj,hu]
def Bg.Eh(h:Bg Z w c B0 vN vT vS vU Bk A s){g cp i j}(f:vS=.slice (some<|G g 0) s.ns cp)(hi:i<s.ns)(hj:j<5){u:V9}{x'}(m:Hr x'=(Hr<|s.S i).set j u):
  Bg Z (w.setCell (G g<|i*5+j) u) c B0 vN vT vS vU Bk A {s with S:=AM s.S i x'}/\BB (AD B0 c vN vT vS w) w (AD B0 c vN vT vS<|w.setCell (G g<|i*5+j) u) (w.setCell (G g<|i*5+j) u):=by
 obtain⟨X,M,hN,hid⟩:=h.nd;have a:vS.ownBlock=some g:=qm f
 have d:∀k,k≠g->(w.setCell (G g<|i*5+j) u).heap[k]?=w.heap[k]?:=λk hk=>At _ _ _ _ (by exact hk);have l:c≠g:=λe=>h.Bc h.si oo<|e▸a;refine h.next ⟨rfl,rfl,rfl⟩ oq (λk _ hk=>d k λe=>hk<|.inr<|.inr<|.inr<|.inl<|e▸a) (λ_ e=>.inl e) (λ_ e=>.inl e) (λ_ e=>.inl e) ((d c l).trans h.BH) (Ae h.n λq e=>d q λe'=>Cv h.si h.n oo a<|e'▸e) ⟨X,M,hN.keep λb hn=>d b λe=>EM h.si oo a<|e▸hn,hid⟩
  (Ae h.t λq e=>d q λe'=>Cv h.si h.t oo a<|e'▸e) ?_ h.u λi hi=>.inl<|h.rd i hi
 have h1:=(We (f▸h.si:w.ownsRow B0 57 5 (.slice (some<|G g 0) s.ns cp) s.ns<|JI s.S s.ns) (i*5+j) u).1;rw[YP hi hj m,<-f]at h1;exact h1
def Bg.EY(h:Bg Z w c B0 vN vT vS vU Bk A s){b}{cs}{ty}(hb:w.heap[b]?=some (.cells cs ty (0,0)))(h1:ty≠117)(h2:ty≠122)(h3:ty≠103)(h4:ty≠57)(h5:ty≠125):¬AD B0 c vN vT vS w b:=by
 rintro(rfl|e|e|e|⟨_,e⟩)
 .rw[h.BH]at hb;cases hb;exact h1 rfl
 .obtain⟨cur,hc,_⟩:=A5 h.n e;rw[hc]at hb;cases hb;exact h2 rfl
 .obtain⟨cur,hc,_⟩:=A5 h.t e;rw[hc]at hb;cases hb;exact h3 rfl
 .obtain⟨cur,hc,_⟩:=A5 h.si e;rw[hc]at hb;cases hb;exact h4 rfl
 rcases e with⟨x,a⟩|⟨es,x,a⟩;all_goals grind
theorem Bg.base(h:Bg Z w c B0 vN vT vS vU Bk A s):B0<=w.heap.size:=GO h.ge<|Aaa h.lt
end
def Mf(f:Nat->Vl)(n:Nat):List Value:=JD (λi=>H8<|f i) n
def IP f n:(Mf f n).length=n*5:=CC (m:=5) (f:=λi=>H8<|f i) (λ_=>rfl) n
def TD{f}(hi:i<n)(hj:j<5):(Mf f n)[i*5+j]?=(H8<|f i)[j]?:=IE (m:=5) (λ_=>rfl) hi hj
def Mg f n x:Mf f n++H8 x=Mf (AM f n x) (n+1):=by
 grind [Mf,H8,AM,JD,Aj,Dt,Ak]
theorem Ot(f:Nat->Vl):∀n,∀u∈Mf f n,u.oneCell'=true
 |0,u,h=>by cases h
 |n+1,u,h=>by
  rcases AaG.1 h with h|h
  .exact Ot f n u h
  simp only[H8,List.mem_cons,AaK,or_false]at h;rcases h with h|h|h|h|h<;>(rw[h];rfl)
abbrev Cf(w:Y)(B:Nat)(v:V9)(n:Nat)(f:Nat->Vl):Prop:=w.ownsRow B 32 5 v n<|Mf f n
def IX.news{off}{f}(h:∀i,i<n->Ks w b (off+i*5) (f i)):∀j u,(Mf f n)[j]?=some u->w.cell? (((G b off):Addr).add j)=some u:=λj u hu=>by
 have a:((G b off):Addr).add j=(G b<|off+j):=by unfold Addr.add;split<;>simp_all
 rw[a];have hj:j<n*5:=by
  have:=(SO.1 hu).1
  rwa [IP]at this
 obtain⟨i,r,hi,c,e⟩:∃i r,i<n/\r<5/\j=i*5+r:=⟨j/5,j%5,om,om,om⟩;subst e;rw[TD hi c]at hu;obtain⟨c0,c1,c2,c3,c4⟩:=h i hi;rw[<-Nat.add_assoc];rcases(by omega:r=0\/r=1\/r=2\/r=3\/r=4)with rfl|rfl|rfl|rfl|rfl
 .simp[H8]at hu;rw[<-hu];exact c0
 .simp[H8]at hu;rw[<-hu];exact c1
 .simp[H8]at hu;rw[<-hu];exact c2
 .simp[H8]at hu;rw[<-hu];exact c3
 simp[H8]at hu;rw[<-hu];exact c4
theorem Cf.at{f}(h:Cf w B (S9 g n cp) n f){i}(hi:i<n):Ks w g (i*5)<|f i:=by
 refine Ks.of λj u hu=>?_;have hj:j<5:=by have:=(SO.1 hu).1;exact this
 rw[Lo h (i*5+j) om,TD hi hj,hu]
def Cf.Hp{f:Nat->Vl}(h:Cf w B (S9 g n cp) n f){i:Nat}(hi:i<n)(v:Vl):Cf (Hp w g (i*5) v) B (S9 g n cp) n<|AM f i v:=by
 have b:=(We h (i*5+0)<|J v.kind).1;have h1:=(We b (i*5+1)<|J v.num).1;have h2:=(We h1 (i*5+2)<|F9 v.Ah).1;have h3:=(We h2 (i*5+3)<|.string v.str).1;have h4:=(We h3 (i*5+4)<|J v.ref).1;have hl:∀(q:Nat->List Value) (a:List Value),(∀j,(q j).length=5)->a.length=5->∀j,(AM q i a j).length=5:=λq a hq c j=>by
  unfold AM;split
  .exact c
  exact hq j
 have e:((((((Mf f n).set (i*5+0)<|J v.kind).set (i*5+1)<|J v.num).set (i*5+2)<|F9 v.Ah).set (i*5+3)<|.string v.str).set (i*5+4)<|J v.ref)=Mf (AM f i v) n:=by
  unfold Mf;rw[IG (m:=5) (λ_=>rfl) hi om];rw[IG (m:=5) (hl _ _ (λ_=>rfl) rfl) hi om,Aj,GU];rw[IG (m:=5) (hl _ _ (λ_=>rfl) rfl) hi om,Aj,GU];rw[IG (m:=5) (hl _ _ (λ_=>rfl) rfl) hi om,Aj,GU];rw[IG (m:=5) (hl _ _ (λ_=>rfl) rfl) hi om,Aj,GU];refine Dt λq hq=>?_;by_cases eq:q=i
  .subst eq;rw[Aj,Aj];rfl
  grind [AM,Ak]
 rw[e]at h4;exact h4
def Rd.tR{Z}(h:Cf w B (S9 g t.nv cp) t.nv t.V)(b:A.va=some (G g 0))(c:¬Z g)(f:bare t.d):Rd Z w A t:=λw' hs hk=>by
 obtain⟨d1,d2,d3,_⟩:=f;obtain⟨cur,hb,_⟩:=A5 h rfl;have a:=Ai hb;have h':=Ae h (λq e=>by cases e;exact hk g a c);refine⟨.inr ⟨g,0,b,A0 a hs,λi hi=>?_⟩,.inl d1,.inl d2,.inl d3⟩;rw[X9];exact Cf.at h' hi
def Fm a w:
  C9 8 #[I5 a] w (R9 (.bool<|Cx a) w):=by
 obtain⟨W,d,c,hk⟩:=Wb a w;have e:=O c;have HK:=O hk;have b:Hid<|B9 W W:=O<|BE _ _;obtain⟨l0,k0,k1,k2,k3,k4,f,g,i,j,v4,v5,v6,k,v8⟩:=hk W<|BE _ _;clear hk c;go_enter func8,ntmps8;go_upto_region 1 with fail
 rw[<-d];clear d;go_wp2_with (first|(go_at_call 24;refine m9 (BA _ _ _ _ _ _) λw3 hb=>?_;have b:=O<|show B9 W w3 from o9 b hb;obtain⟨l0,k0,k1,k2,k3,k4,f,g,i,j,v4,v5,v6,k,v8⟩:=z HK w3 b;clear hb)|(go_at_call 25;refine m9 (dH a _ _ _ _ _ _) λw3 hb=>?_;have b:=O<|show B9 W w3 from o9 b hb;obtain⟨l0,k0,k1,k2,k3,k4,f,g,i,j,v4,v5,v6,k,v8⟩:=z HK w3 b;clear hb));all_goals
  go_ret;refine⟨?_,o9 e<|z (by assumption:Hid<|B9 W _)⟩;clear HK;unfold Cx JB Vl.ok;first
   |(simp_all;done)
   |(rename_i h;rcases h with(((((h|h)|h)|h)|h)|h)|h<;>simp_all<;>omega)
def aU(w:Y)(cs:List Value)t i v u(a:v.oneCell'=true)(hi:cs[i]?=some u):(store (y w i) v).run P (w.alloc<|.cells cs.toArray t)=.ok () (w.alloc<|.cells (cs.set i v).toArray t):=by
 have h:=run_store P (w.alloc<|.cells cs.toArray t) (y w i) v .plain a;rw[h];have h1:(w.alloc<|.cells cs.toArray t).cell? (y w i)=some u:=by simp[hi]
 have h2:(w.alloc<|.cells cs.toArray t).frozen? (y w i)=false:=oq;have h3:(w.alloc<|.cells cs.toArray t).setCell (y w i) v=w.alloc (.cells (cs.set i v).toArray t):=oe;rw[h1,h2,h3];rfl
def Ea{P:Program}(w:Y)(t:TypeId):∀(vs pre old:List Value),vs.length=old.length->(∀v∈vs,v.oneCell'=true)->
  (storeCells (y w 0) vs pre.length).run P (w.alloc<|.cells (pre++old).toArray t)=.ok () (w.alloc<|.cells (pre++vs).toArray t)
 |[],pre,[],_,_=>by simp[storeCells]
 |v::vs,pre,o::old,hl,a=>by
  have h:=aU (P:=P) w (pre++o::old) t pre.length v o (a v oq) oq;have h2:=Ea w t vs (pre++[v]) old (by simpa using hl) (λx b=>a x<|by simp[b]) (P:=P);have e1:(pre++o::old).set pre.length v=(pre++[v])++old:=oq;rw[e1]at h;have e2:((y w 0):Addr).add pre.length=(y w pre.length):=by
   cases pre<;>simp[Addr.add]
  unfold storeCells;rw[e2];simp only[OR,Aac,VC,X9,List.append_assoc,Aau,Wx]at h h2 ⊢;simp[go_sem,h,h2]
def ED:Value:=.agg #[J 0,.nilFunc,J 0,.func (.func 50) #[] #[],J 25,.func (.func 51) #[] #[],J 9,.func (.func 52) #[] #[],J 5,.func (.func 53) #[] #[],J 1,.func (.func 54) #[] #[],J 1,.func (.func 55) #[] #[],J 8,.func (.func 56) #[] #[],J 3,.func (.func 57) #[] #[],J 19,.func (.func 58) #[] #[]]
def Vw w:(sizeOf 77).run prog w=.ok 20 w:=ou
def jK(w:Y):(Instr.storeAt 77 (Q9 w.heap.size) ED).run prog (w.alloc<|.cells #[J 0,.nilFunc,J 0,.nilFunc,J 0,.nilFunc,J 0,.nilFunc,J 0,.nilFunc,J 0,.nilFunc,J 0,.nilFunc,J 0,.nilFunc,J 0,.nilFunc,J 0,.nilFunc] 77)=.ok () (w.alloc<|.cells ED.cells 77):=by
 have h:=Ea (P:=prog) w 77 ED.cells.toList [] [J 0,.nilFunc,J 0,.nilFunc,J 0,.nilFunc,J 0,.nilFunc,J 0,.nilFunc,J 0,.nilFunc,J 0,.nilFunc,J 0,.nilFunc,J 0,.nilFunc,J 0,.nilFunc] rfl (by unfold ED;intro v b;simp[Value.cells]at b;rcases b with rfl|rfl|rfl|rfl|rfl|rfl|rfl|rfl|rfl|rfl|rfl|rfl|rfl|rfl|rfl|rfl|rfl|rfl|rfl|rfl<;>rfl);have hs:=Vw<|w.alloc<|.cells #[J 0,.nilFunc,J 0,.nilFunc,J 0,.nilFunc,J 0,.nilFunc,J 0,.nilFunc,J 0,.nilFunc,J 0,.nilFunc,J 0,.nilFunc,J 0,.nilFunc,J 0,.nilFunc] 77;unfold Instr.storeAt storeVar;simp only[Wx,VC]at h;have hn:¬(ED.cells.size≠20):=oo;simp only[AaM];have a:∀w',(Instr.sureAddr<|Q9 w.heap.size).run prog w'=.ok (y w 0) w':=λw'=>oe;simp[a,hn,h]
def fU(w:Y)(cs:List Value)t i u(hi:cs[i]?=some u):(load<|y w i).run P (w.alloc<|.cells cs.toArray t)=.ok u (w.alloc<|.cells cs.toArray t):=by
 simp[go_sem,hi]
def Kw{P:Program}(w:Y)(cs:List Value)(t:TypeId):∀(n i:Nat) (acc:Array Value),i+n=cs.length->
  (loadCellsFrom (y w 0) i n acc).run P (w.alloc<|.cells cs.toArray t)=.ok (acc++(cs.drop i).toArray) (w.alloc<|.cells cs.toArray t)
 |0,i,acc,h=>by
  have:cs.drop i=[]:=ot;simp[loadCellsFrom,this]
 |n+1,i,acc,h=>by
  have hi:i<cs.length:=om;have hl:=fU (P:=P) w cs t i cs[i] (by simp[hi]);have h2:=Kw w cs t n (i+1) (acc.push cs[i]) om (P:=P);have e2:((y w 0):Addr).add i=(y w i):=by
   cases i<;>simp[Addr.add]
  have e3:acc++(cs.drop i).toArray=acc.push cs[i]++(cs.drop<|i+1).toArray:=by
   rw[List.drop_eq_getElem_cons hi];simp
  unfold loadCellsFrom;rw[e2,e3];simp only[AaM];rw[hl];simp[h2]
def Af{rest}{o}{a}{t}{x Z}(b:o.guard=none)(c:o.op=.store t x Z)w'(d:(Instr.storeAt t (a.eval x)<|a.eval Z).run P w=.ok () w')(h:wpList P ops Q rest (a.put o.dst undef) w'):wpList P ops Q (o::rest) a w:=
 wpList_plain b λK hK=>by
  have e:(execOp a.eval o).run P w=.ok .skip w':=by
   rw[execOp,c];simp only[AaM];rw[d];rfl
  rw[Oper.wp,e];exact hK _ _ h
def MA w:
  C9 21 #[] w (R9 ED w):=by
 go_enter func21,ntmps21;go_wp2_with (first|(refine Af rfl rfl _ (jK w) ?_)|go_in);have a:∀w',(isAgg 77).run prog w'=.ok true w':=λw'=>ou;have hs:=Vw;have b:(loadCells (y w 0) 20).run prog (w.alloc<|.cells ED.cells 77)=.ok ED.cells (w.alloc<|.cells ED.cells 77):=by
  have h:=Kw (P:=prog) w ED.cells.toList 77 20 0 #[] oo;simpa[loadCells]using h
 refine Fs (v:=ED) ?_ rfl ⟨rfl,n9⟩;have c:Value.agg ED.cells=ED:=rfl;simp[results,results21,Act.put,loadVar,a,hs,b,asAddr,c]
structure Bu (w w':Y) (b:Nat) (cs:Array Value) (ty:TypeId):Prop where
 BH:w'.heap[b]?=some (.cells cs ty (0,0))
 other:∀k,k≠b->w'.heap[k]?=w.heap[k]?
 os:w'.os=w.os
 tape:w'.tape=w.tape
 output:w'.output=w.output
 size:w'.heap.size=w.heap.size
def Bu.below{w0:Y}(h:Bu w w' b cs ty){B}(hb:Below B w0 w)(a:B<=b):Below B w0 w':=
 ⟨h.os.trans hb.os,h.tape.trans hb.tape,h.output.trans hb.output,by rw[h.size];exact hb.size,λk hk=>(h.other k om).trans<|hb.block k hk⟩
def jR w b(cs:List Value)t i v u(hb:w.heap[b]?=some (.cells cs.toArray t (0,0)))(a:v.oneCell'=true)(hi:cs[i]?=some u):(store (G b i) v).run P w=.ok () (w.setCell (G b i) v)/\(w.setCell (G b i) v).heap[b]?=some (.cells (cs.set i v).toArray t (0,0)):=by
 have h:=run_store P w (G b i) v .plain a;have h1:w.cell? (G b i)=some u:=by simp[World.cell?,hb,hi]
 have h2:w.frozen? (G b i)=false:=by simp[World.frozen?,hb]
 refine⟨?_,(C8 hb v).trans oq⟩;rw[h,h1,h2];rfl
def KE{P:Program}(b:Nat)(t:TypeId):∀(vs pre old:List Value) (w:Y),w.heap[b]?=some (.cells (pre++old).toArray t (0,0))->vs.length=old.length->(∀v∈vs,v.oneCell'=true)->
  ∃w',(storeCells (G b 0) vs pre.length).run P w=.ok () w'/\Bu w w' b (pre++vs).toArray t
 |[],pre,[],w,hb,_,_=>⟨w,by simp[storeCells],hb,λ_ _=>rfl,rfl,rfl,rfl,rfl⟩
 |v::vs,pre,o::old,w,hb,hl,c=>by
  obtain⟨h,a⟩:=jR (P:=P) w b (pre++o::old) t pre.length v o hb (c v oq) oq;have e1:(pre++o::old).set pre.length v=(pre++[v])++old:=oq;rw[e1]at a;obtain⟨w',h2,h3⟩:=KE b t vs (pre++[v]) old (w.setCell (G b pre.length) v) a (by simpa using hl) (λx d=>c x<|by simp[d]) (P:=P);have e2:((G b 0):Addr).add pre.length=(G b pre.length):=by
   cases pre<;>simp[Addr.add]
  have so:=Ha w (G b pre.length) v;refine⟨w',?_,⟨by simpa using h3.BH,λk hk=>(h3.other k hk).trans<|At _ _ _ _<|by exact hk,h3.os.trans so.1,h3.tape.trans so.2.1,h3.output.trans so.2.2.1,h3.size.trans so.2.2.2⟩⟩;unfold storeCells;rw[e2];simp only[OR,Aac,VC,X9]at h2 ⊢;simp[go_sem,h,h2]
def BP{t}(hs:∀w,(sizeOf t).run prog w=.ok n w){w:Y}{b}{old vs:List Value}{ty}(hb:w.heap[b]?=some (.cells old.toArray ty (0,0)))(hl:vs.length=old.length)(hn:vs.length=n)(h1:∀v∈vs,v.oneCell'=true){v:V9}(c:v.cells=vs.toArray):
  ∃w',(Instr.storeAt t (Q9 b) v).run prog w=.ok () w'/\Bu w w' b vs.toArray ty:=by
 obtain⟨w',h,h3⟩:=KE (P:=prog) b ty vs [] old w hb hl h1;refine⟨w',?_,by simpa using h3⟩;unfold Instr.storeAt storeVar;simp only[VC]at h;have a:∀w',(Instr.sureAddr<|Q9 b).run prog w'=.ok (G b 0) w':=λw'=>oe;simp only[AaM];simp[a,hs,c,hn];exact h
def EN w:(sizeOf 156).run prog w=.ok 8 w:=ou
def jV w:(sizeOf 32).run prog w=.ok 5 w:=ou
def oI w:(sizeOf 40).run prog w=.ok 12 w:=ou
def cZ x:∀u∈Mx x,u.oneCell'=true:=by
 intro u h;simp only[Mx,List.mem_cons,AaK,or_false]at h;rcases h with rfl|rfl|rfl|rfl|rfl|rfl|rfl|rfl|rfl|rfl|rfl|rfl<;>rfl
def BL(h:IV w b)x:∃w',(Instr.storeAt 40 (Q9 b)<|H9 x).run prog w=.ok () w'/\Bu w w' b (Mx x).toArray 40:=
 BP (vs:=Mx x) oI h rfl rfl (cZ x) rfl
def A9{vs:List Value}(h:Bu w w' b vs.toArray ty):∀j u,vs[j]?=some u->w'.cell? (G b j)=some u:=λj u hu=>by
 rw[Hi w' b j _ _ _ h.BH];simpa using hu
section
variable {Z:Nat->Prop} {w:Y} {c B0:Nat} {vN vT vS:V9}
def Bg.KQ{b}{d f}{g}{rb l}{x}(h:Bg (ZB Z w.heap.size l) w1 c B0 d BT B1 f g A' s')(m:BB (AD B0 c vN vT vS w) w (AD B0 c d BT B1 w1) w1)(j:B0<=w.heap.size)(i:w.heap.size<=rb)(hz:rb<l)(n:IV w1 rb)(a:Bu w1 b rb (Mx x).toArray 40):
  Bg Z b c B0 d BT B1 f g A' s'/\BB (AD B0 c vN vT vS w) w (AD B0 c d BT B1 b) b:=
 h.fin m j (.inr ⟨i,hz⟩) i (h.EY n oo oo oo oo oo) (λk e=>.inl e) ⟨a.os,a.tape,a.output,a.size⟩ a.other a.BH oo
end
def An.read{x}(h:w.heap[b]?=some (.cells (Mx x).toArray 40 (0,0))):w.cell? (G b 0)=some (J x.code)/\w.cell? (G b 1)=some (J x.num)/\w.cell? (G b 2)=some (J x.key.kind)/\w.cell? (G b 3)=some (J x.key.num)/\w.cell? (G b 4)=some (F9 x.key.Ah)/\w.cell? (G b 5)=some (.string x.key.str)/\w.cell? (G b 6)=some (J x.key.ref)/\w.cell? (G b 7)=some (J x.val.kind)/\w.cell? (G b 8)=some (J x.val.num)/\w.cell? (G b 9)=some (F9 x.val.Ah)/\w.cell? (G b 10)=some (.string x.val.str)/\w.cell? (G b 11)=some (J x.val.ref):=by
 refine⟨?_,?_,?_,?_,?_,?_,?_,?_,?_,?_,?_,?_⟩<;>(rw[Hi w b _ _ _ _ h];rfl)
def BK{o}{a}{K}{E}{t}{x Z}(b:o.guard=none)(c:o.op=.store t x Z)w'(d:(Instr.storeAt t (a.eval x)<|a.eval Z).run P w=.ok () w')(h:K (a.put o.dst undef) w'):
  if Region.wanted o (yielded ops a.tmps)=true then Oper.wp P o a w K Q else E:=by
 have f:Region.wanted o (yielded ops a.tmps)=true:=by simp[Region.wanted,b]
 rw[DD f];have e:(execOp a.eval o).run P w=.ok .skip w':=by
  rw[execOp,c];simp only[AaM];rw[d];rfl
 rw[Oper.wp,e];exact h
def FP{P:Program}{fn:Func}{R:Ending->World->Prop}{a:Act}{w:Y}{p:Tmp}{ty t:TypeId}{g:Nat}{cs:Array Value}{fr:Nat×Nat}{d:TypeDesc}(h:fn.results=#[.cell p ty])(hu:P.underlying ty=some d)(b:w.heap[g]?=some (.cells cs t fr))(c:R (.returned<|.agg cs) w)(hp:a.tmps.getD p undef=Q9 g:=by rfl)(e:(match d with|.struct _|.array _ _=>true|_=>false)=true:=by rfl)(hi:(P.info? ty).map (·.size)=some cs.size:=by kernel_rfl)(hf:a.defers=[]:=by rfl):bodyPost P fn R .ret a w:=
 Fs (results_cell_row h a.tmps w g t cs fr d hp b hu e hi) hf c
def G9{P:Program}{fn:Func}{R:Ending->World->Prop}{a:Act}{w:Y}{p q:Tmp}{ty t:TypeId}{g:Nat}{cs:Array Value}{fr:Nat×Nat}{d:TypeDesc}{v:V9}(h:fn.results=#[.cell p ty,.tmp q])(hu:P.underlying ty=some d)(e:w.heap[g]?=some (.cells cs t fr))(f:R (.returned<|.tuple #[.agg cs,v]) w)(hp:a.tmps.getD p undef=Q9 g:=by rfl)(hq:a.tmps.getD q undef=v:=by rfl)(i:(match d with|.struct _|.array _ _=>true|_=>false)=true:=by rfl)(hi:(P.info? ty).map (·.size)=some cs.size:=by kernel_rfl)(hf:a.defers=[]:=by rfl):bodyPost P fn R .ret a w:=by
 refine Fs ?_ hf f;have b:a.tmps[p]?.getD undef=Q9 g:=by simpa using hp
 have c:a.tmps[q]?.getD undef=v:=by simpa using hq
 simp[results,h,b,c,asAddr,run_loadVar_row w g t ty cs fr d e hu i hi]
def zK:Ds:=⟨0,λ_=>default,0,λ_=>⟨#[]⟩⟩
def uC(x:An):Value:=H9 x
def Xy(w:Y)x:(Instr.storeAt 40 (Q9 w.heap.size)<|uC x).run prog (w.alloc<|.cells bY 40)=.ok () (w.alloc<|.cells (Mx x).toArray 40):=by
 have h:=Ea (P:=prog) w 40 (Mx x) [] bY.toList rfl (cZ x);have hs:=oI;unfold Instr.storeAt storeVar;simp only[Wx,VC]at h;have hc:(uC x).cells.toList=Mx x:=rfl;have hn:(uC x).cells.size=12:=rfl;simp only[AaM];have a:∀w',(Instr.sureAddr<|Q9 w.heap.size).run prog w'=.ok (y w 0) w':=λw'=>oe;simp[a,hs,hc,hn];exact h
end Go.Proofs.YtkpfgniijbgkoaaGreatDoor
