import Derived.Test.YtkpfgniijbgkoaaGreatDoorSSAA
set_option linter.all false
set_option maxHeartbeats 40000000
set_option maxRecDepth 100000
namespace Go.Proofs.YtkpfgniijbgkoaaGreatDoor
open Go.Proofs.Tryz
open Go.RowKit
variable {c o lc ic xc h k b n q m R B i bk R2 l x j Z:Nat}{la ia xa:Option Addr}{d:Dc}{v:Vl}{w w' a:Y}{H g E S:Nat->Nat}{p:Int}{s1 s2:V9}{K:Act->Prop}{T:World->Prop}
section
attribute [local go_sem] AB Aw
structure Ac where
 op:Int
 t:Int
 site:Int
 n:Int
 k:Vl
 v:Vl
abbrev qj(a:Ac):Array Value:=#[J a.op,J a.t,J a.site,J a.n,J a.k.kind,J a.k.num,F9 a.k.Ah,.string a.k.str,J a.k.ref,J a.v.kind,J a.v.num,F9 a.v.Ah,.string a.v.str,J a.v.ref]
abbrev I5(a:Ac):Value:=.agg<|qj a
def I8(v:Vl):Bool:=(v.kind==0)&&v.ok
def El(a:Ac)(t s n k v:Bool):Bool:=(t||a.t==0)&&(s||a.site==0)&&(n||a.n==0)&&(k||I8 a.k)&&(v||I8 a.v)
def JB(a:Ac):Bool:=!decide (a.t<0)&&!decide (100<=a.t)&&!decide (a.site<0)&&!decide (50<=a.site)&&!decide (a.n<0)&&!decide (1000000000000<a.n)&&a.k.ok&&a.v.ok
def Cx(a:Ac):Bool:=
 JB a&&(if a.op=1 then El a false false false false false
  else if a.op=2 then El a true false false true true
  else if a.op=3 then El a true false false true false
  else if a.op=4 then El a true false true false false
  else if a.op=5 then El a true false false false false
  else if a.op=6 then El a true false false false false
  else if a.op=7 then El a false false false true false&&a.k.kind==4
  else if a.op=8 then El a true true false false false
  else if a.op=9 then El a true true false false true
  else false)
def gB v w:
  C9 61 #[V v.kind v.num v.Ah v.str v.ref] w (R9 (.bool<|I8 v) w):=by
 by_cases h:v.kind=0
 .have hk:(v.kind==0)=true:=by simp[h]
  have a:Hid<|I8 v=v.ok:=O (by unfold I8;rw[hk];rfl);clear h;go_enter func61,ntmps61;go_wp2_with (go_at_call 24;refine m9 (BA v.kind v.num v.Ah v.str v.ref _) λw1 hb=>?_);go_ret;exact⟨ql a,(n9).trans<|hb.mono oq⟩
 have hk:(v.kind==0)=false:=by simp[h]
 have a:Hid<|I8 v=false:=O (by unfold I8;rw[hk];rfl);clear h;go_enter func61,ntmps61;go_wp2;go_ret;exact⟨ql a,n9⟩
def Wb(a)w:∃W,W=w.alloc (.cells (qj a) 34)/\B9 w W/\∀w',B9 W w'->w.heap.size<w'.heap.size/\w'.cell? (y w 0)=some (J a.op)/\w'.cell? (y w 1)=some (J a.t)/\w'.cell? (y w 2)=some (J a.site)/\w'.cell? (y w 3)=some (J a.n)/\w'.cell? (y w 4)=some (J a.k.kind)/\w'.cell? (y w 5)=some (J a.k.num)/\w'.cell? (y w 6)=some (F9 a.k.Ah)/\w'.cell? (y w 7)=some (.string a.k.str)/\w'.cell? (y w 8)=some (J a.k.ref)/\w'.cell? (y w 9)=some (J a.v.kind)/\w'.cell? (y w 10)=some (J a.v.num)/\w'.cell? (y w 11)=some (F9 a.v.Ah)/\w'.cell? (y w 12)=some (.string a.v.str)/\w'.cell? (y w 13)=some (J a.v.ref):=by
 refine⟨_,rfl,n9,λw' hb=>?_⟩;have hl:w.heap.size<(w.alloc<|.cells (qj a) 34).heap.size:=oq;have b:∀j u,(w.alloc<|.cells (qj a) 34).cell? (y w j)=some u->w'.cell? (y w j)=some u:=λj u h=>(hb.cell hl).trans h;refine⟨A0 hl hb.size,?_,?_,?_,?_,?_,?_,?_,?_,?_,?_,?_,?_,?_,?_⟩<;>(refine b _ _ ?_;simp)
def dH a t s n k v w:
  C9 25 #[I5 a,.bool t,.bool s,.bool n,.bool k,.bool v] w (R9 (.bool<|El a t s n k v) w):=by
 obtain⟨W,d,b,hk⟩:=Wb a w;have e:=O b;have HK:=O hk;have c:Hid<|B9 W W:=O<|BE _ _;obtain⟨l0,k0,k1,k2,k3,k4,f,g,h,i,v4,v5,v6,j,v8⟩:=hk W<|BE _ _;clear hk b;go_enter func25,ntmps25;go_upto_region 1 with fail
 rw[<-d];clear d;go_wp2_with (go_at_call 61;refine m9 (gB _ _) λw3 hb=>?_;have c:=O<|show B9 W w3 from o9 c hb;obtain⟨l0,k0,k1,k2,k3,k4,f,g,h,i,v4,v5,v6,j,v8⟩:=z HK w3 c;clear hb);all_goals
  go_ret;exact⟨by simp_all [El],o9 e<|z (by assumption:Hid<|B9 W _)⟩
def Jq(hD:Ia w c o la lc ia ic xa xc d)(l:Small d)(h3:D3 d)(h4:D4 d)(hh:YZ v h):
  C9 111 #[Pc c o,V v.kind v.num v.Ah v.str v.ref] w (R9 (J<|Ay d v h) w):=by
 have g:B9 w<|w.alloc<|.cells (qi v) 32:=n9;go_enter func111,ntmps111;go_wp2_with fail;refine m9 (GJ v (hD.below g) l) λw1 p=>?_;obtain⟨e,B⟩:=BF p;have F:w1.cell? (y w 0)=some (J v.kind):=by rw[e _ _ oq];simp[go_sem]
 have C:w1.cell? (y w 1)=some (J v.num):=by rw[e _ _ oq];simp[go_sem]
 have H:w1.cell? (y w 2)=some (F9 v.Ah):=by rw[e _ _ oq];simp[go_sem]
 have K:w1.cell? (y w 3)=some (.string v.str):=by rw[e _ _ oq];simp[go_sem]
 have L:w1.cell? (y w 4)=some (J v.ref):=by rw[e _ _ oq];simp[go_sem]
 have a:=o9 g p;by_cases hs:AA d.m v
 .rw[Al hs];obtain⟨k1,k2,k3⟩:=hs;obtain⟨q,hq⟩:∃q:Nat,v.num=(q:Int)+1:=⟨(v.num-1).toNat,om⟩;have r:q<d.m:=om;have u:Hid<|Ay d v h=d.I q-1:=O (by unfold Ay;rw[DD ⟨k1,k2,k3⟩,hq];congr 2;omega);obtain⟨b,off,rfl,i,hcs⟩:=hD.rows.ints.resolve_left om;rcases (a.cell i).trans (hcs q r),(hD.below a).c1,l.m,l.n with⟨e0,c1,M,hn⟩;have P:0<=d.I q/\d.I q<=d.n:=by
   rcases h3.1 q r with hh|hh
   .omega
   exact⟨om,hh.2.1⟩
  have x:IntKind.i64.wrap (d.I q-1)=d.I q-1:=oj;have D:IntKind.i64.wrap (q:Int)=q:=oj;rw[hq]at C;go_wp2_with fail;go_quiet (fail);go_wp2;go_ret;exact⟨by rw[z u];simp,AQ a _⟩
 rw[Ag hs];have u:Hid<|Ay d v h=jC d (A1 d v h):=O (by unfold Ay;rw[C3 hs]);go_wp2_with fail;refine m9 (KU (hD.below a) l h4 hh) λw2 A=>?_;have f:=o9 a A;cases j:A1 d v h with
 |none=>
  have k:Hid<|Ay d v h=-1:=O<|u.trans<|qm j;simp only[FR];go_wp2;go_ret;exact⟨ql k,f⟩
 |some s=>
  have k:Hid<|Ay d v h=d.X s-1:=O<|u.trans<|qm j;obtain⟨t,E⟩:=MV j;simp only[FR];obtain⟨b,off,rfl,i,hcs⟩:=hD.rows.index.resolve_left om;rcases (f.cell i).trans (hcs s t),(hD.below f).c2,l.n with⟨e0,c2,hn⟩;have Q:d.X s<=d.n:=by
   rcases h4.2.1 s t with hh|hh|hh<;>omega
  have x:IntKind.i64.wrap (d.X s-1)=d.X s-1:=oj;go_wp2;go_ret;exact⟨by rw[z k];simp,f⟩
def D5(d:Dc)(H:Nat->Nat):Prop:=∀i,i<d.n->(d.L i).turn≠0->CX d.I i d.m+CX d.X i d.x=1/\Ay d (d.L i).key (H i)=i/\¬((d.L i).key.kind=2/\(d.L i).key.num=(d.m:Int)+1)
def Z4(d:Dc)(H:Nat->Nat)(i:Nat):Prop:=(d.L i).turn≠0->CX d.I i d.m+CX d.X i d.x=1/\Ay d (d.L i).key (H i)=i/\¬((d.L i).key.kind=2/\(d.L i).key.num=(d.m:Int)+1)
def Tg(hk:k<d.n)(h:¬Z4 d H k):tells (D5 d H)=false:=Ag λh'=>h<|h' k hk
def MI(n:Nat)(hn:n<=4194304)w:
  (Instr.makeSlice 67 (J n)<|J n).run prog w=.ok (S9 w.heap.size n n) (w.alloc<|.cells (madeCells (Value.int .i64 0).cells n) 3):=by
 obtain⟨i,hi,hz,hs,hb⟩:=Ok N4;have:=run_make (P:=prog) w 67 3 i _ underlying67 hi hz .i64 .i64 n n om (Int.le_refl _) (by rw[hb];omega) om;simp only[NO,hs,Nat.mul_one]at this;exact this
def K1(w:Y)n:(w.alloc<|.cells (madeCells (Value.int .i64 0).cells n) 3).rowIs w.heap.size 3 n λ_=>J 0:=by
 have h:=World.rowIs_alloc w (madeCells (Value.int .i64 0).cells n) 3 (λ_=>J 0) (λi hi=>by
  rw[size_madeCells]at hi;rw[madeCells];simp[Value.cells,hi,Nat.mod_one])
 rw[size_madeCells]at h;exact h
def Mz f i k:CX f i k<=k:=by
 induction k with
 |zero=>exact Be _
 |succ k ih=>unfold CX;split<;>omega
def BG(w:Y)(b n:Nat)(g:Nat->Nat):Prop:=∃h,w.rowIs b 3 n h/\∀j,j<n->h j=J (g j)
def BG.cell(h:BG w b n g){j}(hj:j<n):w.cell? (G b j)=some (J<|g j):=by
 obtain⟨d,a,c⟩:=h;rw[a.cell hj,c j hj]
def BG.frozen(h:BG w b n g)j:w.frozen? (G b j)=false:=by
 obtain⟨c,a,d⟩:=h;exact a.frozen j
def BG.lt(h:BG w b n g):b<w.heap.size:=by
 obtain⟨c,a,d⟩:=h;exact a.lt
def BG.below(h:BG w b n g)(hb:B9 w w'):BG w' b n g:=by
 obtain⟨c,a,d⟩:=h;exact⟨c,a.of_block<|hb.block b a.lt,d⟩
def BG.bump(h:BG w b n g):BG (w.setCell (G b q)<|J<|(g q)+1) b n λj=>if j=q then g q+1 else g j:=by
 obtain⟨c,a,d⟩:=h;refine⟨_,a.set q _,λj hj=>?_⟩;grind
theorem BG.congr{g'}(h:BG w b n g)(e:∀j,j<n->g' j=g j):BG w b n g':=by
 grind [BG]
def UJ H{w}(hD:Ia w c o la lc ia ic xa xc d)(V:Small d)(h3:D3 d)(h4:D4 d)(hH:∀i,i<d.n->(d.L i).turn≠0->YZ (d.L i).key (H i)):
  C9 93 #[Pc c o] w (R9 (.bool<|tells<|D5 d H) w):=by
 rcases V.n,V.m,V.x,hD.c0,hD.c1,hD.lt with⟨hn,hm,hx,c0,c1,av⟩;have ak:=MI d.n hn;have Z:Hid<|BG (w.alloc<|.cells (madeCells (Value.int .i64 0).cells d.n) 3) w.heap.size d.n λj=>CX d.I j 0:=O ⟨_,K1 w d.n,λj hj=>rfl⟩;rcases O hD,O V,O hH with⟨T,HS,HH⟩;clear hD V hH;go_enter func93,ntmps93;go_wp2;clear c0 c1 ak;go_loopw [21] (λi wr=>∃k:Nat,k<=d.m/\i=J k/\BG wr w.heap.size d.n (λj=>CX d.I j k)/\B9 w wr) λi _=>d.m-(intOf i).toNat
 .exact⟨0,om,rfl,Z,n9⟩
 clear Z;obtain⟨k,hk,rfl,a,hb⟩:=hrel;by_cases f:k<d.m
 .obtain⟨b,off,rfl,A,hcs⟩:=T.rows.ints.resolve_left om;rcases (hb.cell A).trans (hcs k f),a.lt,O hb with⟨e0,af,g⟩;rcases h3.1 k f with hz|hz
  .have s:BG wr w.heap.size d.n λj=>CX d.I j<|k+1:=a.congr (λj hj=>by show(if _ then _ else _)=_;rw[C3 om]);rw[hz]at e0;clear hcs hb a hz;go_wp2;go_roundw
   .exact⟨k+1,om,ov,s,g⟩
   exact ow
  obtain⟨q,hq⟩:∃q:Nat,d.I k=(q:Int)+1:=⟨(d.I k-1).toNat,om⟩;have Q:q<d.n:=om;rcases a.cell Q,a.frozen q,Mz d.I q k with⟨r0,r1,l⟩;have s:Hid<|BG (wr.setCell (y w q)<|J<|(CX d.I q k:Int)+1) w.heap.size d.n λj=>CX d.I j<|k+1:=O (a.bump.congr (λj hj=>by
   show(if d.I k=(j:Int)+1 then _ else _)=(if j=q then _ else _);by_cases e:j=q
   .subst e;rw[DD hq,DD rfl]
   rw[C3 om,C3 e]))
  rw[hq]at e0;clear hcs hb a hz hq;go_wp2;go_roundw
  .exact⟨k+1,om,ov,s,g.setCell (by exact Be _) _⟩
  exact ow
 have r:k=d.m:=om;subst r;rcases O a,O hb,T.below hb with⟨s,g,hD⟩;have c2:=hD.c2;have l:=hD.lt;clear a hb hD hk f;go_wp2;clear c2;go_loopw [40] (λi wr=>∃k:Nat,k<=d.x/\i=J k/\BG wr w.heap.size d.n (λj=>CX d.I j d.m+CX d.X j k)/\B9 w wr) λi _=>d.x-(intOf i).toNat
 .exact⟨0,om,rfl,s,g⟩
 clear s g l;obtain⟨k,hk,rfl,a,hb⟩:=hrel;by_cases f:k<d.x
 .obtain⟨b,off,rfl,A,hcs⟩:=T.rows.index.resolve_left om;rcases (hb.cell A).trans (hcs k f),a.lt,O hb with⟨e0,af,g⟩;by_cases hz:0<d.X k
  case neg=>
   have s:BG wr w.heap.size d.n λj=>CX d.I j d.m+CX d.X j (k+1):=a.congr (λj hj=>by show _+(if _ then _ else _)=_;rw[C3 om]);have aw:decide (0<d.X k)=false:=ot;clear hcs hb a;go_wp2;go_roundw
   .exact⟨k+1,om,ov,s,g⟩
   exact ow
  obtain⟨q,hq⟩:∃q:Nat,d.X k=(q:Int)+1:=⟨(d.X k-1).toNat,om⟩;have Q:q<d.n:=by rcases h4.2.1 k f with hh|hh|hh<;>omega
  rcases a.cell Q,a.frozen q,Mz d.I q d.m,Mz d.X q k with⟨r0,r1,l,F⟩;have s:Hid<|BG (wr.setCell (y w q)<|J<|((CX d.I q d.m+CX d.X q k:Nat):Int)+1) w.heap.size d.n λj=>CX d.I j d.m+CX d.X j (k+1):=O (a.bump.congr (λj hj=>by
   show _+(if d.X k=(j:Int)+1 then _ else _)=(if j=q then _ else _);by_cases e:j=q
   .subst e;rw[DD hq,DD rfl];omega
   rw[C3 om,C3 e]))
  generalize ao:CX d.I q d.m+CX d.X q k=cc at r0 s;have ax:cc<=8388608:=om;rw[hq]at e0;clear hcs hb a hz hq ao l F;go_wp2;go_roundw
  .exact⟨k+1,om,ov,s,g.setCell (by exact Be _) _⟩
  exact ow
 have r:k=d.x:=om;subst r;rcases O a,O hb,T.below hb with⟨s,g,hD⟩;have c0:=hD.c0;have l:=hD.lt;clear a hb hD hk f;go_wp2;clear c0;go_loopw [59] (λi wr=>∃k:Nat,k<=d.n/\i=J k/\BG wr w.heap.size d.n (λj=>CX d.I j d.m+CX d.X j d.x)/\(∀j,j<k->Z4 d H j)/\B9 w wr) λi _=>d.n-(intOf i).toNat
 .exact⟨0,om,rfl,s,λj hj=>om,g⟩
 clear s g l;obtain⟨k,hk,rfl,a,K,hb⟩:=hrel;have t:=O K;clear K;by_cases f:k<d.n
 case neg=>
  have r:k=d.n:=om;subst r;have R:=O<|Al (p:=D5 d H) λi hi=>t i hi;have g:=O hb;clear hb a;go_wp2;go_ret;exact⟨ql R,g⟩
 obtain⟨b,off,rfl,A,hcs⟩:=T.rows.log.resolve_left om;rcases (hcs k f).keep (λq=>hb.cell A),a.cell f,a.lt,T.below hb,O hb with⟨⟨e0,e1,e2,e3,e4,e5,e6,e7,e8,e9,ag⟩,r0,af,hD,g⟩;rcases hD.lt,hD.c1,hb.size with⟨l,c1,aq⟩;clear hcs hb;by_cases C:(d.L k).turn=0
 .have HO:Z4 d H k:=λh=>absurd C h;rw[C]at ag;clear C;go_wp2;go_roundw
  .exact⟨k+1,om,ov,a.below n9,λj hj=>(by by_cases e:j=k;exact e▸z HO;exact t j om),g.alloc g.size _⟩
  exact ow
 have ay:((d.L k).turn==0)=false:=by simp[C]
 by_cases u:CX d.I k d.m+CX d.X k d.x=1
 case neg=>
  have R:=O<|Tg (H:=H) f λh=>u (h C).1;have M:(((CX d.I k d.m+CX d.X k d.x:Nat):Int)!=1)=true:=ot;generalize CX d.I k d.m+CX d.X k d.x=cc at r0 M u;clear C u;go_wp2;go_ret;exact⟨ql R,g.alloc g.size _⟩
 have ah:=O u;rw[u]at r0;have ai:=O C;have ar:=z HH k f C;have M:(((1:Nat):Int)!=1)=false:=rfl;clear u C;obtain⟨W,U⟩:=qa<|wr.alloc<|.cells #[J (d.L k).key.kind,J (d.L k).key.num,F9 (d.L k).key.Ah,.string (d.L k).key.str,J (d.L k).key.ref,J (d.L k).val.kind,J (d.L k).val.num,F9 (d.L k).val.Ah,.string (d.L k).val.str,J (d.L k).val.ref,J (d.L k).turn] 168;have S:B9 wr W:=by rw[U];exact(BE _ _).alloc (Be _) _
 obtain⟨y0,y1⟩:W.cell? (y wr 0)=some (J (d.L k).key.kind)/\W.cell? (y wr 1)=some (J (d.L k).key.num):=by rw[U];simp[go_sem]
 have aj:wr.heap.size<W.heap.size:=by rw[U];simp
 go_wp2_with fail
 rw[<-U];clear U;refine m9 (Jq (hD.below S) HS h3 h4 ar) λw2 D=>?_;rcases (D.cell aj).trans y0,(D.cell aj).trans y1,o9 S D with⟨z0,z1,B⟩;rcases a.below B,g.trans<|B.mono aq,(B.cell l).trans c1,A0 l B.size with⟨P,E,az,F⟩;clear D B c1 y0 y1 e0 e1 e2 e3 e4 e5 e6 e7 e8 e9 ag r0;by_cases hp:Ay d (d.L k).key (H k)=(k:Int)
 case neg=>
  have R:=O<|Tg f λh=>hp (h ai).2.1;have au:(Ay d (d.L k).key (H k)!=(k:Int))=true:=by simp[hp]
  generalize Ay d (d.L k).key (H k)=pl at au;clear hp;go_wp2;go_ret;exact⟨ql R,E⟩
 rw[hp];have HP:=O hp;clear hp;by_cases DM:(d.L k).key.kind=2
 case neg=>
  have HO:Z4 d H k:=λ_=>⟨ah,HP,λh=>DM h.1⟩;have ad:((d.L k).key.kind==2)=false:=by simp[DM]
  clear DM;go_wp2_with fail;go_quiet (fail);go_wp2;go_roundw
  .exact⟨k+1,om,ov,P,λj hj=>(by by_cases e:j=k;exact e▸z HO;exact t j om),AQ E _⟩
  exact ow
 have ad:((d.L k).key.kind==2)=true:=by simp[DM]
 have hw:IntKind.i64.wrap ((d.m:Int)+1)=(d.m:Int)+1:=oj;by_cases v:(d.L k).key.num=(d.m:Int)+1
 .have R:=O<|Tg (H:=H) f λh=>(h ai).2.2 ⟨DM,v⟩;have ae:((d.L k).key.num==(d.m:Int)+1)=true:=by simp[v]
  clear DM v;go_wp2_with fail;go_quiet (fail);go_wp2;go_ret;exact⟨ql R,AQ E _⟩
 have HO:Z4 d H k:=λ_=>⟨ah,HP,λh=>v h.2⟩;have ae:((d.L k).key.num==(d.m:Int)+1)=false:=by simp[v]
 clear DM v;go_wp2_with fail;go_quiet (fail);go_wp2;go_roundw
 .exact⟨k+1,om,ov,P,λj hj=>(by by_cases e:j=k;exact e▸z HO;exact t j om),AQ E _⟩
 exact ow
end
section
attribute [local go_sem] AB Aw
open Classical in
noncomputable def BI(d:Dc)(H:Nat->Nat):Int:=
 if D1 d then if D2 d then if D3 d then if D4 d then if D5 d H then 0 else 5 else 4 else 3 else 2 else 1
theorem SF(h:¬D1 d):BI d H=1:=C3 h
theorem SG(h1:D1 d)(h:¬D2 d):BI d H=2:=by unfold BI;rw[DD h1,C3 h]
theorem SH(h1:D1 d)(h2:D2 d)(h:¬D3 d):BI d H=3:=by unfold BI;rw[DD h1,DD h2,C3 h]
theorem SI(h1:D1 d)(h2:D2 d)(h3:D3 d)(h:¬D4 d):BI d H=4:=by unfold BI;rw[DD h1,DD h2,DD h3,C3 h]
theorem SK(h1:D1 d)(h2:D2 d)(h3:D3 d)(h4:D4 d)(h:¬D5 d H):BI d H=5:=by unfold BI;rw[DD h1,DD h2,DD h3,DD h4,C3 h]
theorem N2(h1:D1 d)(h2:D2 d)(h3:D3 d)(h4:D4 d)(h:D5 d H):BI d H=0:=by unfold BI;rw[DD h1,DD h2,DD h3,DD h4,DD h]
structure Sound (d:Dc) (H:Nat->Nat):Prop where
 d1:D1 d
 d2:D2 d
 d3:D3 d
 d4:D4 d
 d5:D5 d H
def Hu(h:BI d H=0):Sound d H:=by
 unfold BI at h;split at h
 .next h1=>
  split at h
  .next h2=>
   split at h
   .next h3=>
    split at h
    .next h4=>
     split at h
     .next h5=>exact⟨h1,h2,h3,h4,h5⟩
     cases h
    cases h
   cases h
  cases h
 cases h
def Sound.zero(h:Sound d H):BI d H=0:=N2 h.d1 h.d2 h.d3 h.d4 h.d5
def Xv lc{ia:Option Addr}ic{xa:Option Addr}xc{d}H{w}(hD:FJ w la ia xa d)(k:Small d)(F:∀i,i<d.n->Ch (d.L i).key=true->YZ (d.L i).key (H i)):
  C9 46 #[Dv la lc ia ic xa xc d] w (R9 (J<|BI d H) w):=by
 have b:B9 w<|w.alloc<|.cells #[.slice la d.n lc,.slice ia d.m ic,.slice xa d.x xc,J d.used,J d.live,J d.turns] 69:=n9;go_enter func46,ntmps46;go_wp2_with fail;refine(Pt lc ic xc (hD.below b) k).mono ?_;rintro e w1 ⟨⟨c,v0,v1,v2,rfl,l,o⟩,C⟩;clear l;obtain⟨I,K,M,P,Q,R,rfl,rfl,rfl,E⟩:=o.ptr;have p:=o9 b C;go_wp2_with fail;refine m9 (UM E k) λw2 q=>?_;have f:=o9 p q;have r:=E.below q;by_cases h1:D1 d
 case neg=>
  rw[Ag h1];have a:=O<|SF (H:=H) h1;go_wp2;go_ret;exact⟨ql a,f⟩
 rw[Al h1];go_wp2_with fail;refine m9 (UK r k) λw3 s=>?_;have g:=o9 f s;have t:=r.below s;by_cases h2:D2 d
 case neg=>
  rw[Ag h2];have a:=O<|SG (H:=H) h1 h2;go_wp2;go_ret;exact⟨ql a,g⟩
 rw[Al h2];go_wp2_with fail;refine m9 (SY t k) λw4 u=>?_;have h:=o9 g u;have v:=t.below u;by_cases h3:D3 d
 case neg=>
  rw[Ag h3];have a:=O<|SH (H:=H) h1 h2 h3;go_wp2;go_ret;exact⟨ql a,h⟩
 rw[Al h3];go_wp2_with fail;refine m9 (QE v k h2) λw5 A=>?_;have j:=o9 h A;by_cases h4:D4 d
 case neg=>
  rw[Ag h4];have a:=O<|SI (H:=H) h1 h2 h3 h4;go_wp2;go_ret;exact⟨ql a,j⟩
 rw[Al h4];go_wp2_with fail;refine m9 (UJ H (z<|v.below A) k h3 h4 λi hi S=>z (O F) i hi (h2.pos hi S).2) λT D=>?_;have B:=o9 j D;by_cases h5:D5 d H
 .rw[Al h5];have a:=O<|N2 h1 h2 h3 h4 h5;go_wp2;go_ret;exact⟨ql a,B⟩
 rw[Ag h5];go_wp2;go_ret;exact⟨by rw[z (O (SK h1 h2 h3 h4 h5))];rfl,B⟩
end
section
attribute [local go_sem] AB Aw
theorem CU{P}{a}{m}f x Z:(store a (.func f x Z) m).run P w=stored P w a (.func f x Z) m:=run_store P w a _ m rfl
attribute [local go_sem] CU
structure Ic (R:Nat) (u w:Y):Prop where
 os:w.os=u.os
 tape:w.tape=u.tape
 output:w.output=u.output
 size:u.heap.size<=w.heap.size
 block:∀q,q<u.heap.size->q≠R->w.heap[q]?=u.heap[q]?
def Ic.refl R u:Ic R u u:=⟨rfl,rfl,rfl,Be _,λ_ _ _=>rfl⟩
theorem Ic.trans{b c}(h:Ic R a b)(h':Ic R b c):Ic R a c:=⟨h'.os.trans h.os,h'.tape.trans h.tape,h'.output.trans h.output,GO h.size h'.size,λq hq d=>(h'.block q (A0 hq h.size) d).trans<|h.block q hq d⟩
def Ic.alloc{b}(h:Ic R a b)o:Ic R a<|b.alloc o:=⟨h.os,h.tape,h.output,by simp;have:=h.size;omega,λq hq c=>(E1 _ _ _<|A0 hq h.size).trans<|h.block q hq c⟩
def Ic.setCell{b}(h:Ic R a b)o v:Ic R a<|b.setCell (G R o) v:=⟨h.os,h.tape,h.output,by simpa using h.size,λq hq c=>(At _ _ _ _<|by exact c).trans<|h.block q hq c⟩
def Ic.drew{b}(h:Ic R a b):Ic R a b.drew:=⟨h.os,h.tape,h.output,h.size,h.block⟩
def Ic.cell{b}(h:Ic R a b){q o}(hq:q<a.heap.size)(c:q≠R):b.cell? (G q o)=a.cell? (G q o):=As<|h.block q hq c
def Ic.frozen{b}(h:Ic R a b){q o}(hq:q<a.heap.size)(c:q≠R):b.frozen? (G q o)=a.frozen? (G q o):=GW<|h.block q hq c
def Ic.below{b}(h:Ic R a b)(c:B<=a.heap.size)(d:B<=R):Below B a b:=⟨h.os,h.tape,h.output,h.size,λk hk=>h.block k om om⟩
abbrev NH(p:Pr)(i:Nat):Array Value:=#[J p.key.kind,J p.key.num,F9 p.key.Ah,.string p.key.str,J p.key.ref,J p.val.kind,J p.val.num,F9 p.val.Ah,.string p.val.str,J p.val.ref,J p.turn,J (i:Int)]
abbrev jE(v:Vl)(e:Nat):Array Value:=#[J v.kind,J v.num,F9 v.Ah,.string v.str,J v.ref,Q9 e,.bool false]
abbrev Yi:Array Value:=#[J 0,J 0,F9 0,E9,J 0,.pointer none,.bool true]
structure BM (w:Y) (b:Nat) (p:Pr) (i:Nat):Prop where
 lt:b<w.heap.size
 k0:w.cell? (G b 0)=some (J p.key.kind)
 k1:w.cell? (G b 1)=some (J p.key.num)
 k2:w.cell? (G b 2)=some (F9 p.key.Ah)
 k3:w.cell? (G b 3)=some (.string p.key.str)
 k4:w.cell? (G b 4)=some (J p.key.ref)
 v0:w.cell? (G b 5)=some (J p.val.kind)
 v1:w.cell? (G b 6)=some (J p.val.num)
 v2:w.cell? (G b 7)=some (F9 p.val.Ah)
 v3:w.cell? (G b 8)=some (.string p.val.str)
 v4:w.cell? (G b 9)=some (J p.val.ref)
 tn:w.cell? (G b 10)=some (J p.turn)
 pl:w.cell? (G b 11)=some (J (i:Int))
 ob:w.heap[b]?=some (.cells (NH p i) 245 (0,0))
def BM.keep{p}(h:BM w b p i)(hs:w.heap.size<=w'.heap.size)(e:w'.heap[b]?=w.heap[b]?):BM w' b p i:=by
 have e':∀o,w'.cell? (G b o)=w.cell? (G b o):=λo=>As e;exact⟨A0 h.lt hs,(e' _).trans h.k0,(e' _).trans h.k1,(e' _).trans h.k2,(e' _).trans h.k3,(e' _).trans h.k4,(e' _).trans h.v0,(e' _).trans h.v1,(e' _).trans h.v2,(e' _).trans h.v3,(e' _).trans h.v4,(e' _).trans h.tn,(e' _).trans h.pl,e.trans h.ob⟩
def BM.drew{p}(h:BM w b p i):BM w.drew b p i:=h.keep (Be _) rfl
structure IW (w:Y) (b:Nat) (v:Vl) (e:Nat):Prop where
 lt:b<w.heap.size
 k0:w.cell? (G b 0)=some (J v.kind)
 k1:w.cell? (G b 1)=some (J v.num)
 k2:w.cell? (G b 2)=some (F9 v.Ah)
 k3:w.cell? (G b 3)=some (.string v.str)
 k4:w.cell? (G b 4)=some (J v.ref)
 pt:w.cell? (G b 5)=some (Q9 e)
 gn:w.cell? (G b 6)=some (.bool false)
 ob:w.heap[b]?=some (.cells (jE v e) 248 (0,0))
def IW.keep(h:IW w b v i)(hs:w.heap.size<=w'.heap.size)(e:w'.heap[b]?=w.heap[b]?):IW w' b v i:=by
 have e':∀o,w'.cell? (G b o)=w.cell? (G b o):=λo=>As e;exact⟨A0 h.lt hs,(e' _).trans h.k0,(e' _).trans h.k1,(e' _).trans h.k2,(e' _).trans h.k3,(e' _).trans h.k4,(e' _).trans h.pt,(e' _).trans h.gn,e.trans h.ob⟩
def CY(E:Nat->Nat)(p:Int):Option Addr:=if 0<p then some (G (E (p-1).toNat) 0)else none
def DX(S:Nat->Nat)(j:Nat)(p:Int):Option Addr:=if p=0 then none else some (G (S j) 0)
structure Q0 (w:Y) (b:Nat):Prop where
 lt:b<w.heap.size
 gn:w.cell? (G b 6)=some (.bool true)
 ob:w.heap[b]?=some (.cells Yi 248 (0,0))
def Q0.keep(h:Q0 w b)(hs:w.heap.size<=w'.heap.size)(e:w'.heap[b]?=w.heap[b]?):Q0 w' b:=
 ⟨A0 h.lt hs,(As e).trans h.gn,e.trans h.ob⟩
def DY(w:Y)(E S:Nat->Nat)(d:Dc)(j:Nat):Prop:=
 (0<d.X j->IW w (S j) (d.at<|d.X j).key (E (d.X j-1).toNat))/\(d.X j<0->Q0 w (S j))
abbrev Pe:Value:=.func (.func 154) #[] #[]
structure Kj (w:Y) (bk b c R2:Nat) (E S:Nat->Nat) (d:Dc):Prop where
 lt:bk<w.heap.size
 c0:∃a k,w.cell? (G bk 0)=some (.slice a d.n k)/\(0<d.n->a=some (G b 0))
 c1:∃k,w.cell? (G bk 1)=some (S9 c d.m k)
 c2:w.cell? (G bk 2)=some Pe
 c3:w.cell? (G bk 3)=some (S9 R2 d.x d.x)
 c4:w.cell? (G bk 4)=some (J d.used)
 c5:w.cell? (G bk 5)=some (J d.live)
 c6:w.cell? (G bk 6)=some (J d.turns)
 r0:∀i,i<d.n->w.cell? (G b i)=some (Q9<|E i)
 CH:∀i,i<d.n->BM w (E i) (d.L i) i
 inj:∀i j,i<d.n->j<d.n->E i=E j->i=j
 r1:∀i,i<d.m->w.cell? (G c i)=some (.pointer<|CY E<|d.I i)
 r2:∀j,j<d.x->w.cell? (G R2 j)=some (.pointer<|DX S j<|d.X j)
 sl:∀j,j<d.x->DY w E S d j
 l0:b<w.heap.size
 l1:c<w.heap.size
 l2:R2<w.heap.size
def Kj.below(h:Kj w bk b c R2 E S d)(hb:B9 w w'):Kj w' bk b c R2 E S d:=by
 have e:∀q o,q<w.heap.size->w'.cell? (G q o)=w.cell? (G q o):=λq o hq=>hb.cell hq;refine⟨A0 h.lt hb.size,by obtain⟨a,k,h1,h2⟩:=h.c0;exact⟨a,k,(e _ _ h.lt).trans h1,h2⟩,by obtain⟨k,h1⟩:=h.c1;exact⟨k,(e _ _ h.lt).trans h1⟩,(e _ _ h.lt).trans h.c2,(e _ _ h.lt).trans h.c3,(e _ _ h.lt).trans h.c4,(e _ _ h.lt).trans h.c5,(e _ _ h.lt).trans h.c6,λi hi=>(e _ _ h.l0).trans<|h.r0 i hi,λi hi=>(h.CH i hi).keep hb.size<|hb.block _ (h.CH i hi).lt,h.inj,λi hi=>(e _ _ h.l1).trans<|h.r1 i hi,λi hi=>(e _ _ h.l2).trans<|h.r2 i hi,λj hj=>⟨λhp=>((h.sl j hj).1 hp).keep hb.size<|hb.block _ ((h.sl j hj).1 hp).lt,λhp=>((h.sl j hj).2 hp).keep hb.size<|hb.block _ ((h.sl j hj).2 hp).lt⟩,A0 h.l0 hb.size,A0 h.l1 hb.size,A0 h.l2 hb.size⟩
def J4:(prog.info? 218).map (λi=>(i.zero,i.size,i.bytes))=some (some<|.pointer none,1,8):=ou
def Uz:(prog.info? 246).map (λi=>(i.zero,i.size,i.bytes))=some (some<|.pointer none,1,8):=ou
def J8{b a}(hu:prog.underlying b=some (.slice a))(hi:(prog.info? a).map (λi=>(i.zero,i.size,i.bytes))=some (some<|.pointer none,1,8))(n:Nat)(hn:n<=4194304)w:
  (Instr.makeSlice b (J n)<|J n).run prog w=.ok (S9 w.heap.size n n) (w.alloc<|.cells (madeCells (Value.pointer none).cells n) a):=by
 obtain⟨i,hi,hz,hs,hb⟩:=Ok hi;have:=run_make (P:=prog) w b a i _ hu hi hz .i64 .i64 n n om (Int.le_refl _) (by rw[hb];omega) om;simp only[NO,hs,Nat.mul_one]at this;exact this
def RB(w:Y)n a:(w.alloc<|.cells (madeCells (Value.pointer none).cells n) a).rowIs w.heap.size a n λ_=>.pointer none:=by
 have h:=World.rowIs_alloc w (madeCells (Value.pointer none).cells n) a (λ_=>.pointer none) (λi hi=>by
  rw[size_madeCells]at hi;rw[madeCells];simp[Value.cells,hi,Nat.mod_one])
 rw[size_madeCells]at h;exact h
def Dw(w:Y)(R n:Nat)(a:TypeId)(f:Nat->Option Addr):Prop:=∃g,w.rowIs R a n g/\∀i,i<n->g i=.pointer (f i)
def Dw.cell{a}{f}(h:Dw w R n a f){i}(hi:i<n):w.cell? (G R i)=some (.pointer<|f i):=by
 obtain⟨g,b,c⟩:=h;rw[b.cell hi,c i hi]
def Dw.frozen{a}{f}(h:Dw w R n a f)i:w.frozen? (G R i)=false:=by
 obtain⟨g,b,c⟩:=h;exact b.frozen i
def Dw.keep{a}{f}(h:Dw w R n a f)(e:w'.heap[R]?=w.heap[R]?):Dw w' R n a f:=by
 obtain⟨g,b,c⟩:=h;exact⟨g,b.of_block e,c⟩
def Dw.set{a}{f}(h:Dw w R n a f)p:Dw (w.setCell (G R q)<|.pointer p) R n a λi=>if i=q then p else f i:=by
 obtain⟨g,b,c⟩:=h;refine⟨_,b.set q _,λi hi=>?_⟩;grind
theorem Dw.congr{a}{f f'}(h:Dw w R n a f)(e:∀i,i<n->f' i=f i):Dw w R n a f':=by
 grind [Dw]
def Zf(w:Y)p k:BM (w.alloc<|.cells (NH p k) 245) w.heap.size p k:=
 ⟨oq,oq,oq,oq,oq,oq,oq,oq,oq,oq,oq,oq,oq,DO _ _⟩
structure Bk (w v:Y) (xa:T9) (xc:Nat) (d:Dc) (E:Nat->Nat) (s1 s2 a b:V9):Prop where
 below:B9 w v
 sz:w.heap.size+3<=v.heap.size
 a2:v.cell? (y w 2)=some (.slice xa d.x xc)
 a3:v.cell? (y w 3)=some (J d.used)
 b0:v.cell? (Y9 w 0)=some (S9 (w.heap.size+1+1) d.n d.n)
 b1:v.cell? (Y9 w 1)=some s1
 b2:v.cell? (Y9 w 2)=some s2
 b3:v.cell? (Y9 w 3)=some a
 b4:v.cell? (Y9 w 4)=some b
 b5:v.cell? (Y9 w 5)=some (J d.live)
 b6:v.cell? (Y9 w 6)=some (J d.turns)
 fz:∀o,v.frozen? (Y9 w o)=false
 ptr:Dw v (w.heap.size+1+1) d.n 218 λi=>some<|G (E i) 0
 CH:∀i,i<d.n->BM v (E i) (d.L i) i/\w.heap.size+3<=E i
def Bk.xP{v v'}{b c}(h:Bk w v xa xc d E s1 s2 b c)(a:Ic R v v')(f:w.heap.size+3<=R)(e:∀i,i<d.n->E i≠R):Bk w v' xa xc d E s1 s2 b c:=by
 have hz:=h.sz;have e0:∀o,v'.cell? (y w o)=v.cell? (y w o):=λo=>a.cell om om;have e1:∀o,v'.cell? (Y9 w o)=v.cell? (Y9 w o):=λo=>a.cell om om;exact⟨h.below.trans<|a.below om om,GO h.sz a.size,(e0 _).trans h.a2,(e0 _).trans h.a3,(e1 _).trans h.b0,(e1 _).trans h.b1,(e1 _).trans h.b2,(e1 _).trans h.b3,(e1 _).trans h.b4,(e1 _).trans h.b5,(e1 _).trans h.b6,λo=>(a.frozen om om).trans<|h.fz o,h.ptr.keep<|a.block _ om om,λi hi=>⟨(h.CH i hi).1.keep a.size<|a.block _ (h.CH i hi).1.lt<|e i hi,(h.CH i hi).2⟩⟩
def Bk.alloc{v}{a b}(h:Bk w v xa xc d E s1 s2 a b)o:Bk w (v.alloc o) xa xc d E s1 s2 a b:=
 h.xP ((Ic.refl _ _).alloc o) h.sz λi hi=>Nat.ne_of_lt (h.CH i hi).1.lt
def Bk.Th{v}{u f g a b c e:V9}(h:Bk w v xa xc d E s1 s2 f g)
  (g0:o≠0) (g5:o≠5) (g6:o≠6)
  (g1:(v.setCell (Y9 w o) u).cell? (Y9 w 1)=some a) (g2:(v.setCell (Y9 w o) u).cell? (Y9 w 2)=some b) (g3:(v.setCell (Y9 w o) u).cell? (Y9 w 3)=some c) (g4:(v.setCell (Y9 w o) u).cell? (Y9 w 4)=some e):Bk w (v.setCell (Y9 w o) u) xa xc d E a b c e:=by
 refine⟨h.below.setCell (by show _<=w.heap.size+1;omega) _,by simpa using h.sz,(Aq om).trans h.a2,(Aq om).trans h.a3,(Aa g0).trans h.b0,g1,g2,g3,g4,(Aa g5).trans h.b5,(Aa g6).trans h.b6,λq=>by rw[PC];exact h.fz q,h.ptr.keep<|At _ _ _ _<|by show w.heap.size+1+1≠w.heap.size+1;omega,λi hi=>⟨(h.CH i hi).1.keep oq<|At _ _ _ _<|by show E i≠w.heap.size+1;have:=(h.CH i hi).2;omega,(h.CH i hi).2⟩⟩
def Bk.iM{v}{a b}(h:Bk w v xa xc d E s1 s2 a b)u:Bk w (v.setCell (Y9 w 1) u) xa xc d E u s2 a b:=
 h.Th oo oo oo (ID _ _ _<|by rw[h.b1];rfl) ((Aa oo).trans h.b2) ((Aa oo).trans h.b3) ((Aa oo).trans h.b4)
def Bk.iN{v}{a b}(h:Bk w v xa xc d E s1 s2 a b)u:Bk w (v.setCell (Y9 w 2) u) xa xc d E s1 u a b:=
 h.Th oo oo oo ((Aa oo).trans h.b1) (ID _ _ _<|by rw[h.b2];rfl) ((Aa oo).trans h.b3) ((Aa oo).trans h.b4)
def Bk.Tm{v}{b a}(h:Bk w v xa xc d E s1 s2 b a)u:Bk w (v.setCell (Y9 w 3) u) xa xc d E s1 s2 u a:=
 h.Th oo oo oo ((Aa oo).trans h.b1) ((Aa oo).trans h.b2) (ID _ _ _<|by rw[h.b3];rfl) ((Aa oo).trans h.b4)
def Bk.yI{v}{a b}(h:Bk w v xa xc d E s1 s2 a b)u:Bk w (v.setCell (Y9 w 4) u) xa xc d E s1 s2 a u:=
 h.Th oo oo oo ((Aa oo).trans h.b1) ((Aa oo).trans h.b2) ((Aa oo).trans h.b3) (ID _ _ _<|by rw[h.b4];rfl)
def Dw.fresh(w:Y)n a:Dw (w.alloc<|.cells (madeCells #[.pointer none] n) a) w.heap.size n a λ_=>none:=by
 have:=RB w n a;exact⟨_,by simpa[Value.cells]using this,λi hi=>rfl⟩
def jD(w:Y)v e:IW (w.alloc<|.cells (jE v e) 248) w.heap.size v e:=
 ⟨oq,oq,oq,oq,oq,oq,oq,oq,DO _ _⟩
structure V8 (w:Y) (B bk a b R2:Nat) (E S:Nat->Nat) (d:Dc):Prop where
 e0:w.cell? (G bk 0)=some (S9 a d.n d.n)
 e1:w.cell? (G bk 1)=some (S9 b d.m d.m)
 fz:∀o,w.frozen? (G bk o)=false
 o0:Dw w a d.n 218 λi=>some<|G (E i) 0
 o1:Dw w b d.m 218 λi=>CY E<|d.I i
 o2:Dw w R2 d.x 246 λj=>DX S j<|d.X j
 zT:a≠b
 gb:B<=bk
 g0:bk<a
 g1:bk<b
 g2:bk<R2
 gE:∀i,i<d.n->bk<E i
 gS:∀j,j<d.x->d.X j≠0->R2<S j
def Iz lc{ia:Option Addr}ic{xa:Option Addr}xc{d}{w}(hD:FJ w la ia xa d)(hS:Small d)(h3:D3 d)(h4:D4 d):
  C9 139 #[Dv la lc ia ic xa xc d] w λe w'=>(∃bk R0 s R2 E S,e=.returned (Q9 bk)/\Kj w' bk R0 s R2 E S d/\V8 w' w.heap.size bk R0 s R2 E S d)/\B9 w w':=by
 rcases hS.n,hS.m,hS.x,O h3 with⟨hn,hm,hx,H3⟩;clear hS h3;have bx:=J8 underlying238 J4 d.n hn;go_enter func139,ntmps139;go_wp2_with fail;obtain⟨u1,g⟩:=qa<|((w.alloc<|.cells #[.slice la d.n lc,.slice ia d.m ic,.slice xa d.x xc,J d.used,J d.live,J d.turns] 69).alloc<|.cells #[S9 (w.heap.size+1+1) d.n d.n,N9,.nilFunc,N9,J 0,J d.live,J d.turns] 243).alloc<|.cells (madeCells #[.pointer none] d.n) 218;rw[<-g];have bz:u1.heap.size=w.heap.size+3:=by rw[g];simp
 have U:Hid<|B9 w u1:=O (by rw[g];exact((n9).alloc oq _).alloc ot _);have bd:Hid<|Dw u1 (w.heap.size+1+1) d.n 218 λ_=>none:=O (by
  rw[g];have:=RB ((w.alloc (.cells #[.slice la d.n lc,.slice ia d.m ic,.slice xa d.x xc,J d.used,J d.live,J d.turns] 69)).alloc (.cells #[S9 (w.heap.size+1+1) d.n d.n,N9,.nilFunc,N9,J 0,J d.live,J d.turns] 243)) d.n 218;exact⟨_,by simpa[Value.cells]using this,λi hi=>rfl⟩)
 obtain⟨a1,a2,a3,b0,b1,b2,b3,b4,b5,b6⟩:u1.cell? (y w 1)=some (.slice ia d.m ic)/\u1.cell? (y w 2)=some (.slice xa d.x xc)/\u1.cell? (y w 3)=some (J d.used)/\u1.cell? (Y9 w 0)=some (S9 (w.heap.size+1+1) d.n d.n)/\u1.cell? (Y9 w 1)=some (N9)/\u1.cell? (Y9 w 2)=some .nilFunc/\u1.cell? (Y9 w 3)=some (N9)/\u1.cell? (Y9 w 4)=some (J 0)/\u1.cell? (Y9 w 5)=some (J d.live)/\u1.cell? (Y9 w 6)=some (J d.turns):=by rw[g];simp[go_sem]
 have f1:∀o,u1.frozen? (Y9 w o)=false:=by intro o;rw[g];simp[go_sem]
 clear g bx;go_loopw [26] (λi wr=>∃(k:Nat) (E:Nat->Nat),k<=d.n/\i=J k/\Ic (w.heap.size+1+1) u1 wr/\Dw wr (w.heap.size+1+1) d.n 218 (λi=>if i<k then some (G (E i) 0)else none)/\(∀i,i<k->BM wr (E i) (d.L i) i/\w.heap.size+3<=E i)/\∀i j,i<k->j<k->E i=E j->i=j) λi _=>d.n-(intOf i).toNat
 .exact⟨0,λ_=>0,om,rfl,Ic.refl _ _,bd.congr λi hi=>C3 om,λi hi=>om,λi j hi=>om⟩
 clear bd;obtain⟨k,E,hk,rfl,a,p,hE,D⟩:=hrel;by_cases l:k<d.n
 .obtain⟨b,off,rfl,V,hcs⟩:=hD.log.resolve_left om;have bf:=U.trans<|a.below om om;rcases (hcs k l).keep (λq=>bf.cell V),a.size,O a,O p,O hE,O D,p.cell l,p.frozen k with⟨⟨e0,e1,e2,e3,e4,e5,e6,e7,e8,e9,b7⟩,cn,HF,HP,HE,HI,r0,r1⟩;have T:=(a.cell om om).trans b0;clear hcs a p hE D bf;go_wp2_with fail;obtain⟨W,B⟩:=qa<|wr.alloc<|.cells #[J (d.L k).key.kind,J (d.L k).key.num,F9 (d.L k).key.Ah,.string (d.L k).key.str,J (d.L k).key.ref,J (d.L k).val.kind,J (d.L k).val.num,F9 (d.L k).val.Ah,.string (d.L k).val.str,J (d.L k).val.ref,J (d.L k).turn] 168;rw[<-B];have y0:W.cell? (y wr 0)=some (J (d.L k).key.kind):=by rw[B];simp[go_sem]
  obtain⟨y1,y2,y3,y4,y5,y6,y7,y8,y9,cp⟩:W.cell? (y wr 1)=some (J (d.L k).key.num)/\W.cell? (y wr 2)=some (F9 (d.L k).key.Ah)/\W.cell? (y wr 3)=some (.string (d.L k).key.str)/\W.cell? (y wr 4)=some (J (d.L k).key.ref)/\W.cell? (y wr 5)=some (J (d.L k).val.kind)/\W.cell? (y wr 6)=some (J (d.L k).val.num)/\W.cell? (y wr 7)=some (F9 (d.L k).val.Ah)/\W.cell? (y wr 8)=some (.string (d.L k).val.str)/\W.cell? (y wr 9)=some (J (d.L k).val.ref)/\W.cell? (y wr 10)=some (J (d.L k).turn):=by rw[B];simp[go_sem]
  have ak:W.heap.size=wr.heap.size+1:=by rw[B];simp
  have ao:Ic (w.heap.size+1+1) wr W:=by rw[B];exact(Ic.refl _ _).alloc _
  have q0:=(ao.cell om om).trans T;have F:W.heap[w.heap.size+1+1]?=wr.heap[w.heap.size+1+1]?:=by rw[B];exact E1 _ _ _ om
  have aq:=O<|HP.keep F;rcases (aq.cell l),(aq.frozen k),O ao,O ak with⟨s0,s1,b8,b9⟩;have bg:w.heap.size+1<W.heap.size:=om;have ca:w.heap.size+1+1<W.heap.size:=om;clear B ao ak F e0 e1 e2 e3 e4 e5 e6 e7 e8 e9 b7 r0 r1 T;obtain⟨r,f⟩:=qa<|((W.setCell (Z9 w k)<|Q9 W.heap.size).alloc<|.cells #[J (d.L k).key.kind,J (d.L k).key.num,F9 (d.L k).key.Ah,.string (d.L k).key.str,J (d.L k).key.ref,J (d.L k).val.kind,J (d.L k).val.num,F9 (d.L k).val.Ah,.string (d.L k).val.str,J (d.L k).val.ref,J (d.L k).turn,J (k:Int)] 245).drew;have c:Ic (w.heap.size+1+1) wr r:=by rw[f];exact((b8.setCell _ _).alloc _).drew
  have bh:Dw r (w.heap.size+1+1) d.n 218 λi=>if i<k+1 then some (G ((λi=>if i=k then W.heap.size else E i) i) 0)else none:=by
   refine((aq.set (q:=k)<|some<|G W.heap.size 0).keep (w':=r) ?_).congr λi hi=>?_
   .rw[f];exact E1 _ _ _<|by simpa using ca
   by_cases e:i=k
   .subst e;simp
   simp only[e,Aad];by_cases e2:i<k
   .rw[DD om,DD e2]
   rw[C3 om,C3 e2]
  have bj:∀i,i<k+1->BM r ((λi=>if i=k then W.heap.size else E i) i) (d.L i) i/\w.heap.size+3<=(λi=>if i=k then W.heap.size else E i) i:=by
   intro i hi;by_cases e:i=k
   .subst e;simp only[if_true];refine⟨?_,om⟩;have:=Zf (W.setCell (Z9 w i)<|Q9 W.heap.size) (d.L i) i;rw[f];refine BM.drew ?_;simpa using this
   simp only[e,Aad];obtain⟨h1,h2⟩:=z HE i om;exact⟨h1.keep c.size<|c.block _ h1.lt om,h2⟩
  have bm:∀i j,i<k+1->j<k+1->(λi=>if i=k then W.heap.size else E i) i=(λi=>if i=k then W.heap.size else E i) j->i=j:=by
   intro i j hi hj he;have ak:=z b9;by_cases e:i=k
   .by_cases e2:j=k
    .omega
    simp only[e,e2,if_true,Aad]at he;have:=(HE j om).1.lt;omega
   by_cases e2:j=k
   .simp only[e,e2,if_true,Aad]at he;have:=(HE i om).1.lt;omega
   simp only[e,e2,Aad]at he;exact HI i j om om he
  have u:=O (⟨HF.trans c,bh,bj,bm⟩:Ic (w.heap.size+1+1) u1 r/\_/\_/\_);clear c bh bj bm
  go_region
  rw[<-f];clear f;go_wp2;go_roundw
  .exact⟨k+1,_,om,ov,u.1,u.2.1,u.2.2.1,u.2.2.2⟩
  exact ow
 have A:k=d.n:=om;subst A;have C:=p.congr λi hi=>(DD hi).symm;have bg:=a.size;have ar:=O<|U.trans<|a.below om om;have bn:=(a.cell om om).trans a1;have H:=(a.cell om om).trans a2;have K:=(a.cell om om).trans a3;have au:=(a.cell om om).trans b0;have av:=(a.cell om om).trans b1;have M:=(a.cell om om).trans b2;have P:=(a.cell om om).trans b3;have Q:=(a.cell om om).trans b4;have aw:=(a.cell om om).trans b5;have ax:=(a.cell om om).trans b6;have cf:∀o,wr.frozen? (Y9 w o)=false:=λo=>(a.frozen (o:=o) (q:=w.heap.size+1) om om).trans<|f1 o;have ag:w.heap.size+3<=wr.heap.size:=om;obtain⟨v1,bp⟩:=qa wr;rw[<-bp]at ar bn H K au av M P Q aw ax cf ag C hE ⊢;have HI:=O D;have cb:=J8 underlying238 J4 d.m hm;have ay:w.heap.size<v1.heap.size:=om;have az:w.heap.size+1<v1.heap.size:=om;have aM:Hid<|Bk w v1 xa xc d E N9 .nilFunc N9<|J 0:=O ⟨ar,ag,H,K,au,av,M,P,Q,aw,ax,cf,C,hE⟩;clear bp p C hE D a bg hk l a1 a2 a3 b0 b1 b2 b3 b4 b5 b6 f1 U bz ar;go_wp2_with fail;clear cb;obtain⟨u2,Z⟩:=qa<|(v1.setCell (Y9 w 1)<|S9 v1.heap.size d.m d.m).alloc<|.cells (madeCells #[.pointer none] d.m) 218;rw[<-Z];have HK:Hid<|Bk w u2 xa xc d E (S9 v1.heap.size d.m d.m) .nilFunc N9<|J 0:=O (by rw[Z];exact(aM.iM _).alloc _);have HQ:Hid<|Dw u2 v1.heap.size d.m 218 λ_=>none:=O (by rw[Z];have:=Dw.fresh (v1.setCell (Y9 w 1)<|S9 v1.heap.size d.m d.m) d.m 218;simpa using this);have bq:∀i,i<d.n->E i<v1.heap.size:=λi hi=>(aM.CH i hi).1.lt;have a6:=O bq;obtain⟨s,a7⟩:=qa v1.heap.size;have cq:u2.heap.size=s+1:=by rw[Z,a7];simp
 rw[<-a7]at HK HQ a6 ag ⊢;clear Z bq aM cf bn H K au av M P Q aw ax ay az a7;go_loopw [52] (λi wr=>∃k:Nat,k<=d.m/\i=J k/\Ic s u2 wr/\Dw wr s d.m 218 λi=>if i<k then CY E (d.I i)else none) λi _=>d.m-(intOf i).toNat
 .exact⟨0,om,rfl,Ic.refl _ _,HQ.congr λi hi=>C3 om⟩
 clear HQ;obtain⟨k,hk,rfl,a,p⟩:=hrel;have hK:=HK.xP a ag λi hi=>Nat.ne_of_lt<|a6 i hi;by_cases l:k<d.m
 .obtain⟨b,off,rfl,V,hcs⟩:=hD.ints.resolve_left om;rcases (hK.below.cell V).trans (hcs k l),O a,O p,a.size with⟨e0,HF,HP,ah⟩;rcases H3.1 k l with hz|hz
  .have u:Hid<|Dw wr s d.m 218 λi=>if i<k+1 then CY E (d.I i)else none:=O (p.congr (λi hi=>by
    by_cases e:i=k
    .subst e;simp[CY,hz]
    by_cases e2:i<k
    .rw[DD om,DD e2]
    rw[C3 om,C3 e2]))
   rw[hz]at e0;clear hcs a p hK hz;go_wp2;go_roundw
   .exact⟨k+1,om,ov,HF,u⟩
   exact ow
  obtain⟨q,hq⟩:∃q:Nat,d.I k=(q:Int)+1:=⟨(d.I k-1).toNat,om⟩;have ai:q<d.n:=om;rcases hK.b0,hK.b1,hK.ptr.cell ai,p.cell l,p.frozen k with⟨c0,c1,T,r0,r1⟩;have br:CY E (d.I k)=some (G (E q) 0):=by unfold CY;rw[DD om,hq];congr 3;omega
  have u:Hid<|Dw (wr.setCell (G s k)<|Q9<|E q).drew s d.m 218 λi=>if i<k+1 then CY E (d.I i)else none:=O ((p.set (q:=k)<|some<|G (E q) 0).congr (λi hi=>by
   by_cases e:i=k
   .subst e;simp[br]
   simp only[e,Aad];by_cases e2:i<k
   .rw[DD om,DD e2]
   rw[C3 om,C3 e2]))
  have cc:IntKind.i64.wrap (q:Int)=q:=oj;have cd:w.heap.size+1<wr.heap.size:=om;have DM:s<wr.heap.size:=om;rw[hq]at e0;clear hcs a p hK hz hq br;go_wp2_with fail
  go_region
  go_wp2;go_roundw
  .exact⟨k+1,om,ov,(HF.setCell _ _).drew,u⟩
  exact ow
 have A:k=d.m:=om;subst A;rcases O (p.congr λi hi=>(DD hi).symm),a.size,hK.a2,hK.a3,hK.b2,hK.b3,hK.b4,hK.fz,O hK,qa wr with⟨HQ,ah,H,K,M,P,Q,cf,aj,⟨v2,bt⟩⟩;rw[<-bt]at HQ H K M P Q cf aj ah ⊢;have cg:=J8 underlying239 Uz d.x hx;have ay:w.heap.size<v2.heap.size:=om;have az:w.heap.size+1<v2.heap.size:=om;have bu:s<v2.heap.size:=om;clear p a hK hk l bt HK;go_wp2_with fail;clear cg;obtain⟨u3,R⟩:=qa<|((((v2.setCell (Y9 w 2) Pe).setCell (Y9 w 3) N9).setCell (Y9 w 4)<|J d.used).setCell (Y9 w 3)<|S9 v2.heap.size d.x d.x).alloc<|.cells (madeCells #[.pointer none] d.x) 246;rw[<-R];have HK:Hid<|Bk w u3 xa xc d E (S9 s d.m d.m) Pe (S9 v2.heap.size d.x d.x)<|J d.used:=O (by rw[R];exact((((aj.iN _).Tm _).yI _).Tm _).alloc _);have a8:Hid<|Dw u3 v2.heap.size d.x 246 λ_=>none:=O (by rw[R];have:=Dw.fresh ((((v2.setCell (Y9 w 2) Pe).setCell (Y9 w 3) N9).setCell (Y9 w 4)<|J d.used).setCell (Y9 w 3)<|S9 v2.heap.size d.x d.x) d.x 246;simpa using this);have ch:Hid<|Dw u3 s d.m 218 λi=>CY E<|d.I i:=O (HQ.keep (by
  rw[R];refine(E1 _ _ _ (by simpa using bu)).trans ?_;exact(At _ _ _ _ (by show s≠w.heap.size+1;omega)).trans ((At _ _ _ _ (by show s≠w.heap.size+1;omega)).trans ((At _ _ _ _ (by show s≠w.heap.size+1;omega)).trans (At _ _ _ _ (by show s≠w.heap.size+1;omega))))))
 have ae:Hid<|∀i,i<d.n->E i<v2.heap.size:=O λi hi=>(aj.CH i hi).1.lt;obtain⟨R2,bb⟩:=qa v2.heap.size;have cm:u3.heap.size=R2+1:=by rw[R,bb];simp
 rw[<-bb]at HK a8 ae bu ah ⊢;clear R aj HQ a6 cf H K M P Q ay az bb;have bc:s≠R2:=om;have cj:w.heap.size+3<=R2:=om;go_loopw [91] (λi wr=>∃(k:Nat) (S:Nat->Nat),k<=d.x/\i=J k/\Ic R2 u3 wr/\Dw wr R2 d.x 246 (λj=>if j<k then DX S j (d.X j)else none)/\∀j,j<k->DY wr E S d j/\(d.X j≠0->R2<S j)) λi _=>d.x-(intOf i).toNat
 .exact⟨0,λ_=>0,om,rfl,Ic.refl _ _,a8.congr λi hi=>C3 om,λj hj=>om⟩
 clear a8;obtain⟨k,S,hk,rfl,a,p,t⟩:=hrel;have hK:=HK.xP a cj λi hi=>Nat.ne_of_lt<|ae i hi;have ah:=a.size;by_cases l:k<d.x
 .obtain⟨b,off,rfl,V,hcs⟩:=hD.index.resolve_left om;rcases (hK.below.cell V).trans (hcs k l),O a,O p,O t with⟨e0,HF,HP,cr⟩;have cd:w.heap.size+1<wr.heap.size:=om;have DM:R2<wr.heap.size:=om;rcases hK.b0,hK.b3,p.cell l,p.frozen k with⟨c0,c3,r0,r1⟩;by_cases T:d.X k=0
  .have u:Hid<|Dw wr R2 d.x 246 λj=>if j<k+1 then DX S j (d.X j)else none:=O (p.congr (λj hj=>by
    by_cases e:j=k
    .subst e;simp[DX,T]
    by_cases e2:j<k
    .rw[DD om,DD e2]
    rw[C3 om,C3 e2]))
   have ck:Hid<|∀j,j<k+1->DY wr E S d j/\(d.X j≠0->R2<S j):=O (λj hj=>by
    by_cases e:j=k
    .subst e;exact⟨⟨λh=>om,λh=>om⟩,λh=>absurd T h⟩
    exact t j om)
   rw[T]at e0;clear hcs a p hK t T;go_wp2;go_roundw
   .exact⟨k+1,S,om,ov,HF,u,ck⟩
   exact ow
  have ad:∀(W':Y) (sb:Nat),W'.heap[R2]?=(wr.setCell (G R2 k)<|Q9 sb).heap[R2]?->Dw W' R2 d.x 246 λj=>if j<k+1 then DX (λi=>if i=k then sb else S i) j (d.X j)else none:=by
   intro W' sb F;refine((p.set (q:=k)<|some<|G sb 0).keep F).congr λj hj=>?_;by_cases e:j=k
   .subst e;simp[DX,T]
   simp only[e,Aad,DX];by_cases e2:j<k
   .rw[DD om,DD e2]
   rw[C3 om,C3 e2]
  have ct:=O ad;rcases h4.2.1 k l with hs|hs|hs
  .exact absurd hs T
  .obtain⟨r,f⟩:=qa<|(wr.setCell (G R2 k)<|Q9 wr.heap.size).alloc<|.cells #[J 0,J 0,F9 0,E9,J 0,.pointer none,.bool true] 248;have c:Ic R2 wr r:=by rw[f];exact((Ic.refl _ _).setCell _ _).alloc _
   have u:Hid (Ic R2 u3 r/\Dw r R2 d.x 246 (λj=>if j<k+1 then DX (λi=>if i=k then wr.heap.size else S i) j (d.X j)else none)/\∀j,j<k+1->DY r E (λi=>if i=k then wr.heap.size else S i) d j/\(d.X j≠0->R2<(λi=>if i=k then wr.heap.size else S i) j)):=O ⟨a.trans c,ad r _<|by rw[f];exact E1 _ _ _<|by simpa using DM,λj hj=>by
    by_cases e:j=k
    .subst e;simp only[if_true];refine⟨⟨λh=>om,λ_=>?_⟩,λ_=>DM⟩;simp only[if_true];rw[f];exact⟨oq,oe,by have hg:=DO (wr.setCell (G R2 j)<|Q9 wr.heap.size)<|.cells Yi 248;simpa using hg⟩
    obtain⟨⟨h1,h2⟩,h3⟩:=t j om;refine⟨⟨λh=>?_,λh=>?_⟩,λh=>?_⟩
    .simp only[e,Aad];have:=h3 om;exact(h1 h).keep c.size (c.block _ (h1 h).lt om)
    .simp only[e,Aad];have:=h3 om;exact(h2 h).keep c.size (c.block _ (h2 h).lt om)
    simp only[e,Aad];exact h3 h⟩
   rw[hs]at e0;clear hcs a p hK t T hs ad c;go_wp2_with fail;rw[<-f];clear f;go_roundw
   .exact⟨k+1,_,om,ov,u.1,u.2.1,u.2.2⟩
   exact ow
  obtain⟨q,hq⟩:∃q:Nat,d.X k=(q:Int)+1:=⟨(d.X k-1).toNat,om⟩;have ai:q<d.n:=om;have p1:=hK.ptr.cell ai;obtain⟨cu,g0,g1,g2,g3,g4,_,_,_,_,_,_,_⟩:=(hK.CH q ai).1;have bw:(d.X k-1).toNat=q:=om;obtain⟨r,f⟩:=qa<|((wr.setCell (G R2 k)<|Q9 wr.heap.size).alloc<|.cells #[J (d.L q).key.kind,J (d.L q).key.num,F9 (d.L q).key.Ah,.string (d.L q).key.str,J (d.L q).key.ref,Q9<|E q,.bool false] 248).drew;have c:Ic R2 wr r:=by rw[f];exact(((Ic.refl _ _).setCell _ _).alloc _).drew
  have u:Hid (Ic R2 u3 r/\Dw r R2 d.x 246 (λj=>if j<k+1 then DX (λi=>if i=k then wr.heap.size else S i) j (d.X j)else none)/\∀j,j<k+1->DY r E (λi=>if i=k then wr.heap.size else S i) d j/\(d.X j≠0->R2<(λi=>if i=k then wr.heap.size else S i) j)):=O ⟨a.trans c,ad r _<|by rw[f];exact E1 _ _ _<|by simpa using DM,λj hj=>by
   by_cases e:j=k
   .subst e;refine⟨⟨λ_=>?_,λh=>om⟩,λ_=>by simpa using DM⟩;simp only[if_true];rw[f];have hn:=jD (wr.setCell (G R2 j)<|Q9 wr.heap.size) (d.L q).key<|E q;have cl:IW ((wr.setCell (G R2 j)<|Q9 wr.heap.size).alloc<|.cells #[J (d.L q).key.kind,J (d.L q).key.num,F9 (d.L q).key.Ah,.string (d.L q).key.str,J (d.L q).key.ref,Q9<|E q,.bool false] 248) wr.heap.size (d.L q).key<|E q:=by simpa using hn
    show IW _ _ (d.L (d.X j-1).toNat).key (E (d.X j-1).toNat);rw[bw];exact cl.keep (Be _) rfl
   obtain⟨⟨h1,h2⟩,h3⟩:=t j om;refine⟨⟨λh=>?_,λh=>?_⟩,λh=>?_⟩
   .simp only[e,Aad];have:=h3 om;exact(h1 h).keep c.size (c.block _ (h1 h).lt om)
   .simp only[e,Aad];have:=h3 om;exact(h2 h).keep c.size (c.block _ (h2 h).lt om)
   simp only[e,Aad];exact h3 h⟩
  have cc:IntKind.i64.wrap (q:Int)=q:=oj;rw[hq]at e0;clear hcs a p hK t T hs ad c hq bw;go_wp2_with fail
  go_region
  rw[<-f];clear f;go_wp2;go_roundw
  .exact⟨k+1,_,om,ov,u.1,u.2.1,u.2.2⟩
  exact ow
 have A:k=d.x:=om;subst A;have C:=p.congr λi hi=>(DD hi).symm;have hQ:=ch.keep<|a.block _ om bc;have af:Hid<|(Kj wr (w.heap.size+1) (w.heap.size+1+1) s R2 E S d/\V8 wr w.heap.size (w.heap.size+1) (w.heap.size+1+1) s R2 E S d)/\B9 w wr:=O ⟨⟨⟨om,⟨_,_,hK.b0,λ_=>rfl⟩,⟨_,hK.b1⟩,hK.b2,hK.b3,hK.b4,hK.b5,hK.b6,λi hi=>hK.ptr.cell hi,λi hi=>(hK.CH i hi).1,HI,λi hi=>hQ.cell hi,λi hi=>C.cell hi,λj hj=>(t j hj).1,om,om,om⟩,⟨hK.b0,hK.b1,hK.fz,hK.ptr,hQ,C,om,om,om,om,om,λi hi=>oT (hK.CH i hi).2,λj hj h0=>(t j hj).2 h0⟩⟩,hK.below⟩;clear p C a hK t hk l hQ;go_wp2;go_ret;exact⟨⟨_,_,_,_,_,_,rfl,af.1⟩,af.2⟩
def Iy lc{ia:Option Addr}ic{xa:Option Addr}xc{d}{w}(hD:FJ w la ia xa d)(c:Small d)(h3:D3 d)(h4:D4 d):
  C9 139 #[Dv la lc ia ic xa xc d] w λe w'=>(∃bk a b R2 E S,e=.returned (Q9 bk)/\Kj w' bk a b R2 E S d)/\B9 w w':=
 (Iz lc ic xc hD c h3 h4).mono λe w' h=>by
  obtain⟨⟨bk,a,b,R2,E,S,h1,h2,_⟩,h3⟩:=h;exact⟨⟨bk,a,b,R2,E,S,h1,h2⟩,h3⟩
end
structure Br where
 parent:Int
 key:ByteArray
 count:Int
instance:Inhabited Br:=⟨⟨0,⟨#[]⟩,0⟩⟩
abbrev Sh(p:Int)(k:ByteArray)(c:Int):Value:=.agg #[J p,.string k,J c]
def TX(w:Y)(a:T9)(n:Nat)(f:Nat->Br):Prop:=
 n=0\/∃b off,a=some (G b off)/\b<w.heap.size/\∀i,i<n->w.cell? (G b<|off+i*3)=some (J (f i).parent)/\w.cell? (G b<|off+i*3+1)=some (.string (f i).key)/\w.cell? (G b<|off+i*3+2)=some (J (f i).count)
def TX.below{a:Option Addr}{f}(h:TX w a n f)(hb:Below B w w')(d:B=w.heap.size):TX w' a n f:=by
 subst d;rcases h with h|⟨b,off,e,c,hc⟩
 .exact .inl h
 refine .inr ⟨b,off,e,A0 c hb.size,λi hi=>?_⟩;obtain⟨g,h1,h2⟩:=hc i hi;exact⟨(hb.cell<|by exact c).trans g,(hb.cell<|by exact c).trans h1,(hb.cell<|by exact c).trans h2⟩
def uK(n:Nat)(f:Nat->Br):Prop:=n<=1048576/\∀i,i<n->(f i).key.size<=1048576
def cellOf(f:Nat->Br)(j:Nat):Value:=
 if j%3=0 then J (f<|j/3).parent else if j%3=1 then .string (f<|j/3).key else J (f<|j/3).count
theorem Sz f i:cellOf f (i*3)=J (f i).parent:=by
 grind [cellOf]
theorem SA f i:cellOf f (i*3+1)=.string (f i).key:=by
 grind [cellOf]
theorem SB f i:cellOf f (i*3+2)=J (f i).count:=by
 grind [cellOf]
def BQ(w:Y)(b n:Nat)(f:Nat->Br):Prop:=∃(Z:Nat) (g:Nat->Value),n*3<=Z/\w.rowIs b 108 Z g/\∀j,j<n*3->g j=cellOf f j
def BQ.lt{f}(h:BQ w b n f):b<w.heap.size:=by obtain⟨_,_,_,h,_⟩:=h;exact h.lt
def BQ.cells{f}(h:BQ w b n f){i}(hi:i<n):
  w.cell? (G b<|i*3)=some (J (f i).parent)/\w.cell? (G b<|i*3+1)=some (.string (f i).key)/\w.cell? (G b<|i*3+2)=some (J (f i).count):=by
 obtain⟨Z,g,hN,a,c⟩:=h;exact⟨by rw[a.cell om,c _ om,Sz],by rw[a.cell om,c _ om,SA],by rw[a.cell om,c _ om,SB]⟩
def BQ.of_block{f}(h:BQ w b n f)(e:w'.heap[b]?=w.heap[b]?):BQ w' b n f:=by
 obtain⟨Z,g,hN,a,c⟩:=h;exact⟨Z,g,hN,a.of_block e,c⟩
def BQ.below{f}(h:BQ w b n f)(hb:Below B w w')(a:b<B):BQ w' b n f:=h.of_block<|hb.block b a
def BQ.alloc{f}(h:BQ w b n f)o:BQ (w.alloc o) b n f:=h.of_block<|E1 _ _ _ h.lt
theorem BQ.at{f}(h:BQ w b n f):TX w (some<|G b 0) n f:=
 .inr ⟨b,0,rfl,h.lt,λi hi=>by simpa using h.cells hi⟩
def J5:(prog.info? 108).map (λi=>(i.zero,i.size,i.bytes))=some (some<|Sh 0 ⟨#[]⟩ 0,3,32):=ou
section
attribute [local go_sem] AB Aw
structure Tb where
 shape:Int
 nv:Nat
 V:Nat->Vl
 d:Dc
structure Si where
 key:ByteArray
 shape:Int
 place:Int
 BO:Int
 misses:Int
structure AE where
 nf:Nat
 F:Nat->Br
 nt:Nat
 T:Nat->Tb
 ns:Nat
 S:Nat->Si
abbrev Ga(v:Vl):Value:=V v.kind v.num v.Ah v.str v.ref
abbrev SV(s:Si):Value:=.agg #[.string s.key,J s.shape,J s.place,J s.BO,J s.misses]
abbrev TV(va:T9)(vc:Nat)(la:T9)(lc:Nat)(ia:T9)(ic:Nat)(xa:T9)(xc:Nat)(t:Tb):Value:=.agg #[J t.shape,.slice va t.nv vc,.slice la t.d.n lc,.slice ia t.d.m ic,.slice xa t.d.x xc,J t.d.used,J t.d.live,J t.d.turns]
abbrev NF(a:T9)(b:Nat)(ta:T9)(tc:Nat)(sa:T9)(sc:Nat)(s:AE):Value:=.agg #[.slice a s.nf b,.slice ta s.nt tc,.slice sa s.ns sc]
structure Ks (w:Y) (b o:Nat) (p:Vl):Prop where
 c0:w.cell? (G b o)=some (J p.kind)
 c1:w.cell? (G b<|o+1)=some (J p.num)
 c2:w.cell? (G b<|o+2)=some (F9 p.Ah)
 c3:w.cell? (G b<|o+3)=some (.string p.str)
 c4:w.cell? (G b<|o+4)=some (J p.ref)
def Ks.keep{p}(h:Ks w b o p)(e:∀q,w'.cell? (G b q)=w.cell? (G b q)):Ks w' b o p:=
 ⟨(e _).trans h.c0,(e _).trans h.c1,(e _).trans h.c2,(e _).trans h.c3,(e _).trans h.c4⟩
def IX(w:Y)(a:T9)(n:Nat)(f:Nat->Vl):Prop:=
 n=0\/∃b off,a=some (G b off)/\b<w.heap.size/\∀i,i<n->Ks w b (off+i*5) (f i)
def IX.below{a:Option Addr}{f}(h:IX w a n f)(hb:Below B w w')(d:B=w.heap.size):IX w' a n f:=by
 subst d;rcases h with h|⟨b,off,e,c,hc⟩
 .exact .inl h
 exact .inr ⟨b,off,e,A0 c hb.size,λi hi=>(hc i hi).keep λq=>hb.cell c⟩
structure uM (w:Y) (b o:Nat) (p:Si):Prop where
 c0:w.cell? (G b o)=some (.string p.key)
 c1:w.cell? (G b<|o+1)=some (J p.shape)
 c2:w.cell? (G b<|o+2)=some (J p.place)
 c3:w.cell? (G b<|o+3)=some (J p.BO)
 c4:w.cell? (G b<|o+4)=some (J p.misses)
def uM.keep{p}(h:uM w b o p)(e:∀q,w'.cell? (G b q)=w.cell? (G b q)):uM w' b o p:=
 ⟨(e _).trans h.c0,(e _).trans h.c1,(e _).trans h.c2,(e _).trans h.c3,(e _).trans h.c4⟩
def Lh(w:Y)(a:T9)(n:Nat)(f:Nat->Si):Prop:=
 n=0\/∃b off,a=some (G b off)/\b<w.heap.size/\∀i,i<n->uM w b (off+i*5) (f i)
def Lh.below{a:Option Addr}{f}(h:Lh w a n f)(hb:Below B w w')(d:B=w.heap.size):Lh w' a n f:=by
 subst d;rcases h with h|⟨b,off,e,c,hc⟩
 .exact .inl h
 exact .inr ⟨b,off,e,A0 c hb.size,λi hi=>(hc i hi).keep λq=>hb.cell c⟩
structure Q7 (w:Y) (b o:Nat) (va:T9) (vc:Nat) (la:T9) (lc:Nat) (ia:T9) (ic:Nat) (xa:T9) (xc:Nat) (t:Tb):Prop where
 c0:w.cell? (G b o)=some (J t.shape)
 c1:w.cell? (G b<|o+1)=some (.slice va t.nv vc)
 c2:w.cell? (G b<|o+2)=some (.slice la t.d.n lc)
 c3:w.cell? (G b<|o+3)=some (.slice ia t.d.m ic)
 c4:w.cell? (G b<|o+4)=some (.slice xa t.d.x xc)
 c5:w.cell? (G b<|o+5)=some (J t.d.used)
 c6:w.cell? (G b<|o+6)=some (J t.d.live)
 c7:w.cell? (G b<|o+7)=some (J t.d.turns)
def Q7.WJ{va:Option Addr}{vc}{t}(h:Q7 w b o va vc la lc ia ic xa xc t)(e:∀j,j<8->w'.cell? (G b<|o+j)=w.cell? (G b<|o+j)):Q7 w' b o va vc la lc ia ic xa xc t:=
 ⟨(e 0 om).trans h.c0,(e 1 om).trans h.c1,(e 2 om).trans h.c2,(e 3 om).trans h.c3,(e 4 om).trans h.c4,(e 5 om).trans h.c5,(e 6 om).trans h.c6,(e 7 om).trans h.c7⟩
def cS(w:Y)(b o:Nat)(t:Tb):Prop:=
 ∃va vc la lc ia ic xa xc,Q7 w b o va vc la lc ia ic xa xc t/\IX w va t.nv t.V/\FJ w la ia xa t.d
def cS.below{t}(h:cS w b o t)(hb:B9 w w')(hl:b<w.heap.size):cS w' b o t:=by
 obtain⟨va,vc,la,lc,ia,ic,xa,xc,h1,h2,h3⟩:=h;exact⟨va,vc,la,lc,ia,ic,xa,xc,h1.WJ λq _=>hb.cell hl,h2.below hb rfl,h3.below hb⟩
def cR(w:Y)(a:T9)(n:Nat)(f:Nat->Tb):Prop:=
 n=0\/∃b off,a=some (G b off)/\b<w.heap.size/\∀i,i<n->cS w b (off+i*8) (f i)
def cR.below{a:Option Addr}{f}(h:cR w a n f)(hb:Below B w w')(d:B=w.heap.size):cR w' a n f:=by
 subst d;rcases h with h|⟨b,off,e,c,hc⟩
 .exact .inl h
 exact .inr ⟨b,off,e,A0 c hb.size,λi hi=>(hc i hi).below hb c⟩
structure Hc (s:AE):Prop where
 f:uK s.nf s.F
 nt:s.nt<=1048576
 nv:∀{i:Nat},i<s.nt->(s.T i).nv<=1048576
 Km:∀{i:Nat},i<s.nt->Small (s.T i).d
 n:s.ns<=1048576
end
section
open Go.RowKit Go.Shelf
section
variable {P:Program} {ops:Array Oper} {C:World->Prop} {md:Region.Mode}
theorem wpIn_of_quiet{o:Oper}{a}{d}{i}(j:∀c,o.op≠.defer c)(g:C w)(h:∀a w',C w'->K a->d a w')(hh:o.quiet P a C K):o.wpIn (Fence.wide.inRound l) n P a w d i:=by
 obtain⟨v,h1,h2⟩:=hh;have h3:=h1 w g;unfold Oper.quietAt at h3;refine⟨λ_ _=>trivial,?_⟩;show o.uponIn (Fence.wide.inRound l) n P a d i ((o.semAt (some l) a.eval).run P w);rw[Oper.semAt_some l _ _ j];generalize (execOp a.eval o).run P w=r at*;cases r with
 |ok x w'=>
  cases x<;>simp only[Oper.quietUpon]at h3<;>simp only[Oper.uponIn]
  case value u=>
   obtain⟨e1,e2⟩:=h3;rw[e1,e2];exact h _ _ g h2
  case skip=>
   obtain⟨e1,e2⟩:=h3;rw[e1,<-e2];exact h _ _ g h2
  case enter f args=>
   obtain⟨e1,hc⟩:=h3;rw[e1];refine⟨λhh=>(by cases hh),CallsIn.inRound l<|W0.2<|hc.mono λe k ⟨m,b⟩=>?_⟩;subst m;exact h _ _ b h2
 |halt x w'=>simp only[Oper.quietUpon]at h3
def GK(ops:Array Oper):Bool:=ops.all λo=>match o.op with|.defer _=>false|_=>true
def QY{a}{b}{c}(g:GK ops=true)(d:C w)(h:∀a w',C w'->K a->b a w')(hh:qOp P ops C i K a):wpOpIn (Fence.wide.inRound l) n P ops c i b a w:=by
 unfold qOp at hh;rw[wpOpIn];split
 .grind
 rename_i o e
 simp only[e]at hh;split
 .grind [GK,wpIn_of_quiet]
 rename_i f;simp only[f]at hh;exact⟨λ_ _=>trivial,h _ _ d hh⟩
def wpAnyIn_of_quiet{Q:Act->Prop}{e:Exit->Act->World->Prop}(f:GK ops=true)(c:∀a w,C w->Q a->e .normal a w):∀(fuel:Nat) (listed:Array Bool) (a:Act) (w:Y),C w->
  wpAnyQ P md ops C Q fuel listed a->wpAnyIn (Fence.wide.inRound l) n P md ops e fuel listed a w
 |0,_,_,_,b,h=>⟨h.1,c _ _ b h.2⟩
 |fuel+1,_,_,_,b,h=>⟨λg=>c _ _ b<|h.1 g,λi hi=>QY f b (λa' w' d=>wpAnyIn_of_quiet f c fuel _ a' w' d)<|h.2 i hi⟩
def wpIn_region_quiet{id}{Q}{a}(d:P.follows .mixedOrders=true)(b:Region.lexB .any ops=true)(e:GK ops=true)(f:C {w with drawn:=w.drawn+1})
  (h:wpQuiet P ops C (λa'=>∀w',C w'->Q .normal a' w') ops.toList a):(Code.region id ops true).wpIn (Fence.wide.inRound l) n P Q a w:=by
 simp only[Region.lexB,AaC]at b;refine wpIn_region_any d<|wpAnyIn_of_quiet e (Q:=λa'=>∀w',C w'->Q .normal a' w') (λ_ w' c h=>h w' c) _ _ _ _ f ?_;have:=wpAnyQ_lex b.1 ops.toList 0 (Array.replicate ops.size false) a oq (by simpa using b.2) h;simpa using this
end
end
section
open Go.RowKit Go.Shelf
attribute [local go_sem] AB Aw Oper.semAt_some
structure Qt (T:World->Prop) (v:Vl) (h:Nat):Prop where
 lt:h<18446744073709551616
 call:∀w:World,T w->C9 154 #[V v.kind v.num v.Ah v.str v.ref] w (R9 (.int .u64 (h:Int)) w)
def EJ(T:World->Prop):Prop:=∀w w',T w->B9 w w'->T w'
def Fk(x a0 f:Nat):List Nat:=(List.range f).map λj=>(a0+j)%x
def RS x a0 f:Fk x a0 (f+1)=Fk x a0 f++[(a0+f)%x]:=by
 unfold Fk;simp[List.range_succ]
theorem Nw x a0 f:(Fk x a0 f).length=f:=by simp[Fk]
theorem Vn{a0 f g}(h:f<=g):Fk x a0 f<+:Fk x a0 g:=by
 obtain⟨k,rfl⟩:∃k,g=f+k:=⟨g-f,om⟩
 induction k with
 |zero=>exact List.prefix_refl _
 |succ k ih=>
  rw[show f+(k+1)=(f+k)+1 by omega,RS];exact(ih om).trans (List.prefix_append _ _)
def Um p(v)w:
  C9 175 #[.pointer p,V v.kind v.num v.Ah v.str v.ref] w λe w'=>e=.returned (.func (.func 189) #[] #[Q9 w.heap.size,Q9 (w.heap.size+1)])/\w'=(w.alloc<|.cells #[.pointer p] 257).alloc (.cells (qi v) 32):=by
 go_enter func175,ntmps175;go_wp2;go_ret;exact⟨rfl,rfl⟩
def Jj(h:B9 w w'):w.grownBy w' none:=⟨h.os,h.tape,h.output,h.size,λk hk _=>h.block k hk⟩
def pD(d:Dc)(h:Nat)(xs:List {a:Nat//a<d.x}):Prop:=xs.map (·.1)=Fk d.x (h%d.x) d.x
def cP(d:Dc)(h:Nat)(xs:List {a:Nat//a<d.x}):Prop:=xs.map (·.1)<+:Fk d.x (h%d.x) d.x
def ND(d:Dc)(h j:Nat)(xs:List {a:Nat//a<d.x}):Prop:=xs.map (·.1)=Fk d.x (h%d.x) j
def ND.len{xs}(e:ND d h j xs):xs.length=j:=by
 grind [ND,Nw]
def ND.snoc{xs}(e:ND d h j xs)b:ND d h (j+1)<|xs++[⟨(h%d.x+j)%d.x,b⟩]:=by
 unfold ND at*;rw[Aaj,e,RS];rfl
def ND.pre{xs}(e:ND d h j xs)(hj:j<=d.x):cP d h xs:=by
 grind [ND,cP,Vn]
def Pb(n)(hn:1<=n){T}(q:EJ T)(bk R2 I kb)(d){v}{h}(n0)(hh:Qt T v h)(w)(U:T w)(hx:d.x<=4194304)
  (m0:w.cell? (G I 0)=some (.pointer<|some<|G bk 2)) (c2:w.cell? (G bk 2)=some Pe) (c3:w.cell? (G bk 3)=some (S9 R2 d.x d.x))
  (k0:w.cell? (G kb 0)=some (J v.kind)) (k1:w.cell? (G kb 1)=some (J v.num)) (k2:w.cell? (G kb 2)=some (F9 v.Ah)) (k3:w.cell? (G kb 3)=some (.string v.str)) (k4:w.cell? (G kb 4)=some (J v.ref)):
  SeqStopsK Fence.wide n prog 189 #[Q9 I,Q9 kb] (λa=>#[J (a.1:Int)]) (Below n0)
   (pD d h) (cP d h) d.x w:=λl Z Jx W b hJ L V X=>by
 rcases I9 _ _ m0,I9 _ _ c2,I9 _ _ k0 with⟨lm,lb,o⟩;rcases (b.cell lm).trans m0,(b.cell lb).trans c2,o7 b lb c3,(b.cell o).trans k0,o7 b o k1,o7 b o k2,o7 b o k3,o7 b o k4 with⟨m0,c2,c3,k0,k1,k2,k3,k4⟩;have ad:I<W.heap.size:=A0 lm b.size;have ae:bk<W.heap.size:=A0 lb b.size;have af:kb<W.heap.size:=A0 o b.size;rcases O (q _ _ U b),O V,O X with⟨HT,HY,H0⟩;clear L V U b X;refine callsIn_of_wp func189 rfl trivial ?_ rfl;simp only[ntmps189,Aaw,Aac,VC,Nat.reduceAdd,Nat.reduceSub,Aaf,Aae,Aax,Aam,Wx,Aau];by_cases f:d.x=0
 .have s:((d.x:Int)==0)=true:=by simp[f]
  have M:=O f;clear f;gi_wp2;refine Fs (AaE rfl _ _ _) rfl ?_;exact⟨⟨_,rfl⟩,.inl ⟨[],by unfold pD;rw[z M];rfl,H0⟩⟩
 have s:((d.x:Int)==0)=false:=by simp[f]
 have t:0<d.x:=om;gi_wp2;refine wpIn_wide.2 ?_;refine qr W ?_;(iterate 5 refine N (h:=?_));refine GS λK hK=>?_;go_simp;refine⟨_,λw' u=>qk u<|hh.call _<|q _ _ HT u,hK _ ?_⟩;clear hK K;obtain⟨a0,g⟩:=qa<|h%d.x;have P:(h:Int).tmod (d.x:Int)=(a0:Int):=by rw[g,Int.tmod_eq_emod_of_nonneg om];exact(Int.natCast_emod _ _).symm
 have ag:a0<d.x:=by rw[g];exact Tn _ t
 have A:=O g;clear g;refine N (h:=N (h:=N (h:=?_)));refine Hz ?_;intro w2 B;have C:=O<|(hJ) [] W w2 none H0 (Jj B) (λr e=>by cases e);clear B P m0 c2 c3 k0 k1 k2 k3 k4;gi_wp2
 gi_loopw [24] (λi wr=>∃(j:Nat) (pre:List {a:Nat//a<d.x}),j<=d.x/\i=.int .u64 (j:Int)/\ND d h j pre/\Z pre wr) λi _=>d.x-(intOf i).toNat
 case atStart=>exact⟨0,[],om,rfl,rfl,C⟩
 case round=>
  clear C;obtain⟨j,pre,hj,rfl,k,m⟩:=hrel;by_cases Q:j<d.x
  .obtain⟨a1,D⟩:=qa<|(a0+j)%d.x;have c:a1<d.x:=by rw[D];exact Tn _ t
   have ah:((a0:Int)+(j:Int)).tmod (d.x:Int)=(a1:Int):=by rw[D,Int.tmod_eq_emod_of_nonneg om,Int.natCast_emod,Int.natCast_add]
   obtain⟨fn,tmps,assign,body,hy,R⟩:=z HY pre ⟨a1,c⟩ wr m (by rw[k.len];exact Q);have E:Hid<|ND d h (j+1)<|pre++[⟨a1,c⟩]:=O (by
    have:=k.snoc (by rw[<-z A,<-D];exact c);simp only[<-z A,<-D]at this;exact this)
   clear k m D;dsimp only at hy;gi_wp2;refine R.mono ?_;rintro e W3 (⟨rfl,S,ai⟩|⟨rfl,F⟩)
   .clear hy R;gi_wp2;go_roundw
    .exact⟨j+1,_,om,ov,E,S⟩
    exact ow
   clear hy R;gi_wp2;refine Fs (AaE rfl _ _ _) rfl ?_;exact⟨⟨_,rfl⟩,.inr ⟨_,E.pre om,F⟩⟩
  have H:j=d.x:=om;subst H;gi_wp2;go_end0;exact⟨⟨_,rfl⟩,.inl ⟨pre,k,m⟩⟩
def Stop(d:Dc)(v:Vl)(a:Nat):Prop:=d.X a=0\/(0<d.X a/\AH (d.at<|d.X a).key v=true)
open Classical in
noncomputable def Ri(d:Dc)(v:Vl):List Nat->Option Nat
 |[]=>none
 |a::l=>if d.X a=0 then none else if 0<d.X a/\AH (d.at<|d.X a).key v=true then some a else Ri d v l
def Wr{l}(h:∀a∈l,¬Stop d v a):Ri d v l=none:=by
 induction l with
 |nil=>rfl
 |cons a l ih=>
  have h1:=h a oq;rw[Ri,C3 (λe=>h1 (.inl e)),C3 (λe=>h1 (.inr e))];exact ih λb hb=>h b<|by simp[hb]
def Ws{l f}{a}(h:∀b∈l,¬Stop d v b)(hp:l++[a]<+:f)(hs:Stop d v a):Ri d v f=if d.X a=0 then none else some a:=by
 obtain⟨r,rfl⟩:=hp
 induction l with
 |nil=>
  show(if _ then _ else _)=_;by_cases e:d.X a=0
  .rw[DD e,DD e]
  rw[C3 e,C3 e,DD (hs.resolve_left e)]
 |cons b l ih=>
  have h1:=h b oq;show(if _ then _ else _)=_;rw[C3 (λe=>h1 (.inl e)),C3 (λe=>h1 (.inr e))];exact ih λc hc=>h c<|by simp[hc]
def Vd(b:0<d.x):∀(f a),a<d.x->probe d v a f=Ri d v (Fk d.x a f):=by
 intro f
 induction f with
 |zero=>intro a _;rfl
 |succ f ih=>
  intro a c;have e:Fk d.x a (f+1)=a::Fk d.x ((a+1)%d.x) f:=by
   rw[Fk,List.range_succ_eq_map];simp only[List.map_cons,List.map_map,Aag,TC c];congr 1;apply List.map_congr_left;intro j _;simp only[Function.comp];rw[Nat.mod_add_mod];congr 1;omega
  rw[e];show(if _ then _ else _)=(if _ then _ else _);rw[ih _ (Tn _ b)]
def L0:A1 d v h=Ri d v (Fk d.x (h%d.x) d.x):=by
 rw[A1];by_cases a:d.x=0
 .rw[a];rfl
 rw[C3 a];exact Vd om _ _<|Tn _ om
def B7{W W':Y}(h:B9 W W'):KeepsOthers W W':=⟨h.size,λk o hk _=>(h.block k (GC.1 hk).1).trans hk⟩
def O4 T(ae:EJ T)bk R0 R1 R2 E S d v h(hh:Qt T v h)w(hT:T w)(hB:Kj w bk R0 R1 R2 E S d)(hS:Small d)(h4:D4 d):
  C9 158 #[.pointer (some<|G bk 2),V v.kind v.num v.Ah v.str v.ref] w (R9 (J<|FR<|A1 d v h) w):=by
 have hx:=hS.x;refine(W0 (n:=10)).1 ?_;refine callsIn_of_wp_marks func158 rfl trivial ?_ rfl;simp only[ntmps158,Aaw,Aac,VC,Nat.reduceAdd,Nat.reduceSub,Aaf,Aae,Aax,Aam,Wx,Aau];gi_wp2_with (refine⟨trivial,?_⟩;gi_at_call 175;refine(W0.2<|Um (some<|G bk 2) v _).mono ?_;rintro e w' ⟨rfl,rfl⟩);obtain⟨u,hu⟩:=qa<|((((w.alloc<|.cells #[.pointer (some<|G bk 2)] 257).alloc<|.cells (qi v) 32).alloc<|.cells #[J 0] 3).alloc<|.cells #[.pointer (some<|G bk 2)] 257).alloc<|.cells (qi v) 32;rw[<-hu];have zu:u.heap.size=w.heap.size+5:=by rw[hu];simp
 have bu:B9 w u:=by rw[hu];exact((((n9).alloc oq _).alloc ot _).alloc ot _).alloc ot _
 obtain⟨n0,i0,i1,i2,i3,i4,r0,r1,m0,j0,j1,j2,j3,j4⟩:u.cell? (y w 0)=some (.pointer<|some<|G bk 2)/\u.cell? (Y9 w 0)=some (J v.kind)/\u.cell? (Y9 w 1)=some (J v.num)/\u.cell? (Y9 w 2)=some (F9 v.Ah)/\u.cell? (Y9 w 3)=some (.string v.str)/\u.cell? (Y9 w 4)=some (J v.ref)/\u.cell? (Z9 w 0)=some (J 0)/\u.frozen? (Z9 w 0)=false/\u.cell? (G (w.heap.size+1+1+1) 0)=some (.pointer<|some<|G bk 2)/\u.cell? (G (w.heap.size+1+1+1+1) 0)=some (J v.kind)/\u.cell? (G (w.heap.size+1+1+1+1) 1)=some (J v.num)/\u.cell? (G (w.heap.size+1+1+1+1) 2)=some (F9 v.Ah)/\u.cell? (G (w.heap.size+1+1+1+1) 3)=some (.string v.str)/\u.cell? (G (w.heap.size+1+1+1+1) 4)=some (J v.ref):=by rw[hu];simp[go_sem]
 have t:=hB.below bu;have ai:=ae _ _ hT bu;clear hu;refine wpIn_rangeFunc_ownF rfl oo (gf:=189) (lb:=#[Q9 (w.heap.size+1+1+1),Q9 (w.heap.size+1+1+1+1)]) rfl trivial (enters_of func189 ou rfl)
  (Pb 9 oo ae bk R2 (w.heap.size+1+1+1) (w.heap.size+1+1+1+1) d w.heap.size hh u ai hx m0 t.c2 t.c3 j0 j1 j2 j3 j4) belowK_t (belowK_b om) (BE _ _) (λ_=>rfl)
  (λpre W=>((∀Z∈pre,¬Stop d v Z.1)/\W.cell? (y w 0)=some (.pointer<|some<|G bk 2)/\W.cell? (Y9 w 0)=some (J v.kind)/\W.cell? (Y9 w 1)=some (J v.num)/\W.cell? (Y9 w 2)=some (F9 v.Ah)/\W.cell? (Y9 w 3)=some (.string v.str)/\W.cell? (Y9 w 4)=some (J v.ref)/\W.cell? (Z9 w 0)=some (J 0)/\W.frozen? (Z9 w 0)=false)/\B9 w W)
  (λc pre W=>(c=.ret/\(∃i a,pre=i++[a]/\(∀Z∈i,¬Stop d v Z.1)/\Stop d v a.1/\W.cell? (Z9 w 0)=some (J<|FR<|if d.X a.1=0 then none else some a.1)))/\B9 w W)
  (OwnFrom.and (Own.from (λs A B row hs L M=>⟨hs.1,NB hs.2.1 L M,NB hs.2.2.1 L M,NB hs.2.2.2.1 L M,NB hs.2.2.2.2.1 L M,NB hs.2.2.2.2.2.1 L M,NB hs.2.2.2.2.2.2.1 L M,NB hs.2.2.2.2.2.2.2.1 L M,(frozen_kept hs.2.2.2.2.2.2.2.1 L M).trans hs.2.2.2.2.2.2.2.2⟩) _)<|ownFrom_below (Be _) om)
  (λc=>OwnFrom.and (Own.from (λs A B row hs L M=>⟨hs.1,by obtain⟨i,a,h1,h2,h3,h4⟩:=hs.2;exact⟨i,a,h1,h2,h3,NB h4 L M⟩⟩) _)<|ownFrom_below (Be _) om)
  ⟨⟨oq,n0,i0,i1,i2,i3,i4,r0,r1⟩,bu⟩
  ?a1 ?assign ?body ?done ?stop
 case assign=>
  intro l x W K hK;gi_wp2;exact hK
 case body=>
  rintro l pre ⟨a,ha⟩ W ⟨⟨hp,g0,e0,e1,e2,e3,U,F,s1⟩,m⟩ _;have P:=hB.below m;rcases P.c3,P.r2 a ha,P.sl a ha,I9 _ _ g0,I9 _ _ e0,I9 _ _ F with⟨c3,p0,q,z0,k,z2⟩;dsimp only at z0 k z2;have HP:=O hp;have j:=O m;clear P hp m n0 i0 i1 i2 i3 i4 r0 r1 m0 j0 j1 j2 j3 j4 t ai bu zu hB hT hh ae;rcases h4.2.1 a ha with hs|hs|hs
  .have H:Stop d v a:=.inl hs;have HS:=O H;rw[show DX S a (d.X a)=none from DD hs]at p0;have HX:Hid<|FR (if d.X a=0 then none else some a)=-1:=O (by rw[DD hs];rfl);clear q hs H;gi_wp2;exact⟨Q2 _ _ _,⟨rfl,pre,⟨a,ha⟩,rfl,HP,HS,by rw[z HX];exact ID _ _ _<|qm F⟩,j.setCell (p:=Z9 w 0) oy _⟩
  .have I:¬Stop d v a:=λh=>by rcases h with h|h<;>omega
   have HS:=O I;rw[show DX S a (d.X a)=some (G (S a) 0)from C3 om]at p0;obtain⟨ak,ar⟩:=q.2 om;clear q hs I;gi_wp2;refine wpIn_region_quiet (C:=λw'=>B9 W w') ou ou ou ((BE _ _).drew) ?_;show wpQuiet _ _ _ _ [_,_,_,_,_,_,_,_,_,_,_,_,_] _;(iterate 6 refine N (h:=?_));iterate 6 (go_big_quiet_step (fail))
   refine N (h:=?_);refine Hz ?_;intro w2 f;rcases B7 f,O f,(f.cell z0).trans g0,(f.cell k).trans e0,(f.cell k).trans e1,(f.cell k).trans e2,(f.cell k).trans e3,(f.cell k).trans U,(f.cell z2).trans F,(f.frozen z2).trans s1 with⟨HK,o,g0,e0,e1,e2,e3,U,F,s1⟩;clear f;gi_wp2;exact⟨HK,o.mono j.size,⟨λZ hy=>(AaG.1 hy).elim (HP Z) (λe=>by simp at e;subst e;exact HS),g0,e0,e1,e2,e3,U,F,s1⟩,o9 j o⟩
  rw[show DX S a (d.X a)=some (G (S a) 0)from C3 om]at p0;obtain⟨ak,f0,f1,f2,f3,f4,f5,f6⟩:=q.1 hs.1;have af:=hs.1;generalize Q:(d.at<|d.X a).key=g at*;cases R:AH g v
  .have I:¬Stop d v a:=λh=>by
    rcases h with h|h
    .omega
    rw[Q,R]at h;exact absurd h.2 oo
   have HS:=O I;have ao:(g.kind==v.kind&&(g.num==v.num&&((O9 g.Ah v.Ah==some .eq)&&(g.str.toList==v.str.toList&&g.ref==v.ref))))=false:=R;clear q hs I af Q;gi_wp2;refine wpIn_region_quiet (C:=λw'=>B9 W w') ou ou ou ((BE _ _).drew) ?_;show wpQuiet _ _ _ _ [_,_,_,_,_,_,_,_,_,_,_,_,_] _;(iterate 11 refine N (h:=?_));refine GS λK hK=>?_;go_simp;refine⟨.bool false,λw' aq=>?_,hK _ ?_⟩
   .by_cases q1:g.kind=v.kind<;>by_cases q2:g.num=v.num<;>by_cases q3:O9 g.Ah v.Ah=some Ordering.eq<;>by_cases q4:g.str.toList=v.str.toList<;>by_cases q5:g.ref=v.ref<;>simp_all
   clear hK K;refine N (h:=?_);refine Hz ?_;intro w2 f;rcases B7 f,O f,(f.cell z0).trans g0,(f.cell k).trans e0,(f.cell k).trans e1,(f.cell k).trans e2,(f.cell k).trans e3,(f.cell k).trans U,(f.cell z2).trans F,(f.frozen z2).trans s1 with⟨HK,o,g0,e0,e1,e2,e3,U,F,s1⟩;clear f;gi_wp2;exact⟨HK,o.mono j.size,⟨λZ hy=>(AaG.1 hy).elim (HP Z) (λe=>by simp at e;subst e;exact HS),g0,e0,e1,e2,e3,U,F,s1⟩,o9 j o⟩
  have H:Stop d v a:=.inr ⟨af,by rw[Q];exact R⟩;have HS:=O H;have HX:Hid<|FR (if d.X a=0 then none else some a)=(a:Int):=O (by rw[C3 om];rfl);have ao:(g.kind==v.kind&&(g.num==v.num&&((O9 g.Ah v.Ah==some .eq)&&(g.str.toList==v.str.toList&&g.ref==v.ref))))=true:=R;clear q hs H af Q;gi_wp2;refine wpIn_region_quiet (C:=λw'=>B9 W w') ou ou ou ((BE _ _).drew) ?_;show wpQuiet _ _ _ _ [_,_,_,_,_,_,_,_,_,_,_,_,_] _;(iterate 11 refine N (h:=?_));refine GS λK hK=>?_;go_simp;refine⟨.bool true,λw' aq=>?_,hK _ ?_⟩
  .by_cases q1:g.kind=v.kind<;>by_cases q2:g.num=v.num<;>by_cases q3:O9 g.Ah v.Ah=some Ordering.eq<;>by_cases q4:g.str.toList=v.str.toList<;>by_cases q5:g.ref=v.ref<;>simp_all
  clear hK K;refine N (h:=?_);refine Hz ?_;intro w2 f;rcases B7 f,O f,(f.cell z0).trans g0,(f.cell k).trans e0,(f.cell k).trans e1,(f.cell k).trans e2,(f.cell k).trans e3,(f.cell k).trans U,(f.cell z2).trans F,(f.frozen z2).trans s1 with⟨HK,o,g0,e0,e1,e2,e3,U,F,s1⟩;clear f;gi_wp2;exact⟨HK.trans<|Q2 _ _ _,⟨rfl,pre,⟨a,ha⟩,rfl,HP,HS,by rw[z HX];exact ID _ _ _<|qm F⟩,(o9 j o).setCell (p:=Z9 w 0) oy _⟩
 case done=>
  rintro D ys W hD aj ⟨⟨hp,_,_,_,_,_,_,ag,au⟩,m⟩ hK;have HR:Hid<|A1 d v h=none:=O (by
   rw[L0,<-show ys.map (·.1)=Fk d.x (h%d.x) d.x from aj];exact Wr (λa ha=>by obtain⟨Z,hy,rfl⟩:=List.mem_map.1 ha;exact hp Z hy))
  clear aj hp hh hB t;gi_wp2;have hK':=(Q2 W (Z9 w 0)<|J (-1)).same D _ hK rfl;refine⟨oq,.inl ⟨_,_,rfl,AaJ hK',?_⟩⟩;have ah:=NB (ID W (Z9 w 0) (J (-1))<|qm ag) (MM _ D<|.deferred none) (λr e=>by cases e;exact⟨_,hK',rfl⟩);refine⟨J (-1),?_,ql HR,(m.setCell (p:=Z9 w 0) oy _).trans<|belowK_b (w:=w) (Be _) _ D _ _ om hK' rfl rfl⟩;simp[results,f158,go_sem,ah]
 case stop=>
  rintro D c pre W hD ad ⟨⟨rfl,i,a,rfl,h1,h2,ag⟩,m⟩ hK;have HR:Hid<|A1 d v h=if d.X a.1=0 then none else some a.1:=O (by
   rw[L0];have hp:(i++[a]).map (·.1)<+:Fk d.x (h%d.x) d.x:=ad;rw[Aaj]at hp;exact Ws (λb hb=>by obtain⟨Z,hy,rfl⟩:=List.mem_map.1 hb;exact h1 Z hy) hp h2)
  clear ad h1 h2 hh hB t;gi_wp2;refine⟨oq,.inl ⟨_,_,rfl,AaJ hK,?_⟩⟩;have ah:=NB ag (MM _ D<|.deferred none) (λr e=>by cases e;exact⟨_,hK,rfl⟩);refine⟨J<|FR<|if d.X a.1=0 then none else some a.1,?_,ql HR,m.trans<|belowK_b (w:=w) (Be _) W D _ _ om hK rfl rfl⟩;simp[results,f158,go_sem,ah]
end
section
attribute [local go_sem] AB Aw
def Iu(d:Dc)(x:Int):Prop:=1<=x/\x<=d.n/\(d.at x).turn≠0
def Ee lc{ia:Option Addr}ic{xa:Option Addr}xc{d}x{w}(hD:FJ w la ia xa d)(e:Small d):
  C9 244 #[Dv la lc ia ic xa xc d,J x] w (R9 (.bool<|tells<|Iu d x) w):=by
 have hn:=e.n;by_cases h1:1<=x
 case neg=>
  have a:=O<|Ag (p:=Iu d x) λh=>h1 h.1;have g:decide (1<=x)=false:=by simp[h1]
  clear h1 hD e;go_enter func244,ntmps244;go_wp2;go_ret;exact⟨ql a,n9⟩
 by_cases h2:x<=(d.n:Int)
 case neg=>
  have a:=O<|Ag (p:=Iu d x) λh=>h2 h.2.1;clear hD e;go_enter func244,ntmps244;go_wp2;go_ret;exact⟨ql a,n9⟩
 obtain⟨q,hq⟩:∃q:Nat,x=(q:Int)+1:=⟨(x-1).toNat,om⟩;subst hq;have f:q<d.n:=om;obtain⟨b,off,rfl,i,hcs⟩:=hD.log.resolve_left om;have e0:=(hcs q f).tn;have hA:d.at ((q:Int)+1)=d.L q:=by unfold Dc.at;congr 1;omega
 by_cases c:(d.L q).turn=0
 .have a:=O<|Ag (p:=Iu d<|(q:Int)+1) λh=>h.2.2 (by rw[hA];exact c);rw[c]at e0;clear hD e hcs hA c;go_enter func244,ntmps244;go_wp2;go_ret;exact⟨ql a,n9⟩
 have a:=O<|Al (p:=Iu d<|(q:Int)+1) ⟨h1,h2,by rw[hA];exact c⟩;have j:((d.L q).turn !=0)=true:=by simp[c]
 clear hD e hcs hA c;go_enter func244,ntmps244;go_wp2;go_ret;exact⟨by rw[z a];simp,n9⟩
def Cr v(m:Nat)w(b:m<=4194304):
  C9 157 #[V v.kind v.num v.Ah v.str v.ref,J m] w (R9 (.bool<|tells<|AA m v) w):=by
 have a:=O (show tells (AA m v)=(v.kind==2&&(decide (1<=v.num)&&decide (v.num<=(m:Int)))) by unfold AA tells;simp;rfl);cases h1:v.kind==2<;>cases h2:decide (1<=v.num)<;>cases h3:decide (v.num<=(m:Int))<;>(rw[h1,h2,h3]at a;go_enter func157,ntmps157;go_wp2;go_ret;exact⟨by rw[z a];simp,n9⟩)
def N5(h:Ch v=true)(hk:v.kind=2):(O9 v.Ah 0==some .eq)=true/\v.str.toList.isEmpty=true/\v.ref=0:=by
 grind [Ch,Vl.ok,Bf,fz]
def SW lc{ia:Option Addr}ic{xa:Option Addr}xc{d}{w}(hD:FJ w la ia xa d)(W:Small d)(h2:D2 d):
  C9 240 #[Dv la lc ia ic xa xc d] w (R9 (.bool<|tells<|D3 d) w):=by
 rcases W.n,W.m,O hD,O W,O h2 with⟨hn,hm,X,Z,H2⟩;clear hD W h2;go_enter func240,ntmps240;go_wp2;go_loopw [10] (λi wr=>∃(k:Nat),k<=d.m/\i=J k/\(∀j,j<k->FD d j)/\w.heap.size<wr.heap.size/\wr.cell? (y w 0)=some (.slice la d.n lc)/\wr.cell? (y w 1)=some (.slice ia d.m ic)/\wr.cell? (y w 2)=some (.slice xa d.x xc)/\wr.cell? (y w 3)=some (J d.used)/\wr.cell? (y w 4)=some (J d.live)/\wr.cell? (y w 5)=some (J d.turns)/\B9 w wr) λi _=>d.m-(intOf i).toNat
 .exact⟨0,om,rfl,λj hj=>om,oq,oe,oe,oe,oe,oe,oe,n9⟩
 obtain⟨k,hk,rfl,v,f,c0,c1,c2,c3,c4,c5,hb⟩:=hrel;have g:=O v;clear v;by_cases D:k<d.m
 case neg=>
  have M:k=d.m:=om;subst M;by_cases l:d.m=0
  .have A:=O<|Al (p:=D3 d) ⟨g,.inl l⟩;have E:((d.m:Int)==0)=true:=by simp[l]
   have t:=O hb;clear hb l;go_wp2;go_ret;exact⟨ql A,t⟩
  have E:((d.m:Int)==0)=false:=ot;obtain⟨q,hq⟩:∃q,d.m=q+1:=⟨d.m-1,om⟩;obtain⟨b,off,rfl,F,hcs⟩:=X.ints.resolve_left l;have e0:=o7 hb F<|hcs q om;have ag:IntKind.i64.wrap ((d.m:Int)-1)=(q:Int):=oj;have ad:q<d.m:=om;have t:=O hb;clear hcs hb;have r:0<d.I q↔d.I q≠0:=by
   rcases z g q ad with h|h
   .omega
   omega
  by_cases hp:d.I q=0
  focus
   have A:=O (Ag (p:=D3 d) (λh=>by
    rcases h.2 with h|h
    .exact l h
    rw[hq]at h;exact(r.1 h) hp))
   have hd:(d.I q !=0)=false:=by simp[hp]
  rotate_left
  focus
   have A:=O<|Al (p:=D3 d) ⟨g,.inr<|by rw[hq];exact r.2 hp⟩;have hd:(d.I q !=0)=true:=by simp[hp]
  all_goals
   have HQ:=O hq;clear hp hq l r;go_wp2;go_ret;exact⟨by rw[z A];simp,t⟩
 obtain⟨b,off,ae,F,hcs⟩:=X.ints.resolve_left om;subst ae;rcases o7 hb F (hcs k D),O hb,O<|X.below hb,hb.size with⟨e0,t,H,o⟩;clear hcs hb;by_cases l:d.I k=0
 .have HO:Hid<|FD d k:=O<|.inl l;rw[l]at e0;clear l;go_wp2;go_roundw
  .exact⟨k+1,om,ov,λj hj=>(by by_cases e:j=k;exact e▸z HO;exact g j om),f,c0,c1,c2,c3,c4,c5,t⟩
  exact ow
 have E:(d.I k==0)=false:=by simp[l]
 by_cases hl:Iu d<|d.I k
 case neg=>
  have A:=O<|K2 D (λh=>by rcases h with h|h;exact l h;exact hl ⟨om,h.2.1,h.2.2.1⟩);have P:=O<|Ag hl;clear hl l;go_wp2_with fail;refine qr wr ?_;refine N (h:=N (h:=?_));refine GS λK hK=>?_;go_simp;apply Exists.intro;refine qp (λw' a=>?_)<|hK _ ?_
  .refine((z P)▸Ee lc ic xc (d.I k) (H.below a) Z).mono ?_;rintro e Q ⟨rfl,hb⟩;exact⟨rfl,o9 a hb⟩
  clear hK K;refine N (h:=N (h:=?_));iterate 12 (go_big_quiet_step (fail))
  refine N (h:=?_);refine Hz ?_;intro w2 c;have s:=O<|t.trans<|c.mono o;clear c;go_wp2;go_ret;exact⟨ql A,s⟩
 have P:=O<|Al hl;obtain⟨q,hq⟩:∃q:Nat,d.I k=(q:Int)+1:=⟨(d.I k-1).toNat,oT hl.1⟩;have R:q<d.n:=oT hl.2.1;have hA:d.at (d.I k)=d.L q:=by unfold Dc.at;rw[hq];congr 1;omega
 have u:(d.L q).turn≠0:=hA▸hl.2.2;have B:=(H2.pos R u).2;obtain⟨lb,lo,af,S,T⟩:=X.log.resolve_left om;subst af;obtain⟨e1,e2,e3,e4,e5,_,_,_,_,_,_⟩:=(T q R).keep λq=>t.cell (p:=G lb q) S;have ah:lb<wr.heap.size:=A0 S o;have U:Hid<|FD d k↔(d.L q).key.kind=2/\(d.L q).key.num=(k:Int)+1:=O ⟨λh=>by
   rcases h with h|h
   .omega
   rw[hA]at h;exact h.2.2.2,λh=>.inr ⟨om,om,by rw[hA];exact u,by rw[hA];exact h.1,by rw[hA];exact h.2⟩⟩
 rw[hq]at e0 E P;have ai:IntKind.i64.wrap (q:Int)=q:=oj;have aj:IntKind.i64.wrap ((k:Int)+1)=(k:Int)+1:=oj;rcases O hq,O B,O u with⟨HQ,C,ak⟩;clear T hl l hq hA B u;by_cases DM:(d.L q).key.kind=2/\(d.L q).key.num=(k:Int)+1
 .obtain⟨k1,k2⟩:=DM;have HO:Hid<|FD d k:=O<|U.2 ⟨k1,k2⟩;obtain⟨f1,f2,f3⟩:=N5 C k1;rw[k1]at e1;rw[k2]at e2;rw[f3]at e5;clear k1 k2 f3;go_wp2_with fail;refine qr wr ?_;refine N (h:=N (h:=?_));refine GS λK hK=>?_;go_simp;apply Exists.intro;refine qp (λw' a=>?_)<|hK _ ?_
  .refine((z P)▸Ee lc ic xc ((q:Int)+1) (H.below a) Z).mono ?_;rintro e Q ⟨rfl,hb⟩;exact⟨rfl,o9 a hb⟩
  clear hK K;(iterate 12 refine N (h:=?_));refine GS λK hK=>?_;go_simp;refine⟨_,λw' a=>qk a<|FU ((k:Int)+1) _,hK _ ?_⟩;clear hK K;refine N (h:=N (h:=?_));refine Hz ?_;intro w2 c;have s:=O<|t.trans<|c.mono o;have V:w.heap.size<w2.heap.size:=A0 f c.size;rcases o7 c f c0,o7 c f c1,o7 c f c2,o7 c f c3,o7 c f c4,o7 c f c5 with⟨g0,g1,g2,g3,g4,g5⟩;clear c c0 c1 c2 c3 c4 c5;go_wp2;go_roundw
  .exact⟨k+1,om,ov,λj hj=>(by by_cases e:j=k;exact e▸z HO;exact g j om),V,g0,g1,g2,g3,g4,g5,s⟩
  exact ow
 have A:=O<|K2 D λh=>DM<|U.1 h;by_cases k1:(d.L q).key.kind=2
 focus
  obtain⟨f1,f2,f3⟩:=N5 C k1;have k2:((d.L q).key.num==(k:Int)+1)=false:=by simp;exactλh=>DM ⟨k1,h⟩
  rw[k1]at e1;rw[f3]at e5;clear k1 DM f3
 rotate_left
 focus
  have ao:((d.L q).key.kind==2)=false:=by simp[k1]
  clear k1 DM
 all_goals
  go_wp2_with fail
  refine qr wr ?_;refine N (h:=N (h:=?_));refine GS λK hK=>?_;go_simp;apply Exists.intro;refine qp (λw' a=>?_) (hK _ ?_)
  .refine((z P)▸Ee lc ic xc ((q:Int)+1) (H.below a) Z).mono ?_;rintro e Q ⟨rfl,hb⟩;exact⟨rfl,o9 a hb⟩
  clear hK K;(iterate 12 refine N (h:=?_));refine GS λK hK=>?_;go_simp;refine⟨_,λw' a=>qk a<|FU ((k:Int)+1) _,hK _ ?_⟩;clear hK K;refine N (h:=N (h:=?_));refine Hz ?_;intro w2 c;have s:=O<|t.trans<|c.mono o;clear c;go_wp2;go_ret;exact⟨ql A,s⟩
end
section
open Go.RowKit Go.Shelf
attribute [local go_sem] AB Aw Oper.semAt_some
def Dr(E:Nat->Nat)(p:Int):Option Addr:=if 0<=p then some (G (E p.toNat) 0)else none
def Jy(h3:D3 d)(h4:D4 d)v h:-1<=Ay d v h/\Ay d v h<d.n:=by
 rw[Ay];by_cases hs:AA d.m v
 .rw[DD hs];have:=hs.2.1;have:=hs.2.2;rcases h3.1 (v.num-1).toNat om with hh|hh<;>omega
 rw[C3 hs];cases e:A1 d v h with
 |none=>exact⟨by show(-1:Int)<=-1;omega,by show(-1:Int)<_;omega⟩
 |some s=>
  obtain⟨h1,h2⟩:=MV e;show -1<=d.X s-1/\d.X s-1<d.n;rcases h4.2.1 s h1 with hh|hh|hh<;>omega
def JU(j:EJ T){bk Q R R2}{E S}{d}{v}{h}(hh:Qt T v h){w:Y}(hT:T w)(hB:Kj w bk Q R R2 E S d)(U:Small d)(h3:D3 d)(h4:D4 d):
  C9 142 #[.pointer (some<|G bk 0),V v.kind v.num v.Ah v.str v.ref] w (R9 (.pointer<|Dr E<|Ay d v h) w):=by
 have Z:=U.m;obtain⟨W,k⟩:=qa<|w.alloc<|.cells (qi v) 32;have f:B9 w W:=by rw[k];exact(BE _ _).alloc (Be _) _
 have g:=hB.below f;rcases g.c1,g.lt,g.l1 with⟨⟨k1,c1⟩,lb,l1⟩;have c:w.heap.size<W.heap.size:=by rw[k];simp
 obtain⟨q0,q1,q2,q3,q4⟩:W.cell? (y w 0)=some (J v.kind)/\W.cell? (y w 1)=some (J v.num)/\W.cell? (y w 2)=some (F9 v.Ah)/\W.cell? (y w 3)=some (.string v.str)/\W.cell? (y w 4)=some (J v.ref):=by rw[k];simp[go_sem]
 go_enter func142,ntmps142;go_wp2_with fail;rw[<-k];clear k;by_cases hs:AA d.m v
 .have r:=O<|Al hs;obtain⟨k1,k2,k3⟩:=hs;obtain⟨q,hq⟩:∃q:Nat,v.num=(q:Int)+1:=⟨(v.num-1).toNat,om⟩;have F:q<d.m:=om;have C:Hid<|Ay d v h=d.I q-1:=O (by unfold Ay;rw[DD ⟨k1,k2,k3⟩,hq];congr 2;omega);have D:=g.r1 q F;have hI:CY E (d.I q)=Dr E (d.I q-1):=by
   unfold CY Dr;by_cases e:0<d.I q
   .rw[DD e,DD om]
   rw[C3 e,C3 om]
  rw[hI]at D;have ad:IntKind.i64.wrap (q:Int)=q:=oj;have HQ:=O hq;clear k1 k2 k3 hI hq;refine qr W ?_;(iterate 6 refine N (h:=?_));refine GS λK hK=>?_;go_simp;apply Exists.intro;refine qp (λw' b=>?_)<|hK _ ?_
  .refine((z r)▸Cr v d.m _ Z).mono ?_;rintro e H ⟨rfl,hb⟩;exact⟨rfl,o9 b hb⟩
  clear hK K;refine Hz ?_;intro w2 a;rcases (a.cell lb).trans c1,(a.cell l1).trans D,(a.cell c).trans q1 with⟨ae,af,t⟩;rw[z HQ]at t;rcases A0 lb a.size,A0 l1 a.size,A0 c a.size,o9 f a with⟨L,ag,M,l⟩;go_wp2_with fail;go_quiet (fail);go_wp2;go_ret;exact⟨ql C,AQ l _⟩
 have r:=O<|Ag hs;have C:Hid<|Ay d v h=jC d (A1 d v h):=O (by unfold Ay;rw[C3 hs]);refine qr W ?_;(iterate 6 refine N (h:=?_));refine GS λK hK=>?_;go_simp;apply Exists.intro;refine qp (λw' b=>?_)<|hK _ ?_
 .refine((z r)▸Cr v d.m _ Z).mono ?_;rintro e H ⟨rfl,hb⟩;exact⟨rfl,o9 b hb⟩
 clear hK K;refine Hz ?_;intro w2 a;rcases (a.cell c).trans q0,(a.cell c).trans q1,(a.cell c).trans q2,(a.cell c).trans q3,(a.cell c).trans q4,A0 c a.size,A0 lb a.size,o9 f a,g.below a,O (j _ _ (z<|O<|j _ _ hT f) a) with⟨ah,t,ai,aj,ak,M,L,l,p,P⟩;go_wp2_with fail;refine qr w2 ?_;(iterate 4 refine N (h:=?_));refine GS λK hK=>?_;go_simp;refine⟨_,λw' b=>qk b<|O4 T j bk Q R R2 E S d v h hh _ (j _ _ P b) (p.below b) U h4,hK _ ?_⟩;clear hK K;refine N (h:=?_);refine Hz ?_;intro w3 u;have x:=o9 l u;have i:=p.below u;have c3:=i.c3;cases n:A1 d v h with
 |none=>
  have o:Hid<|Dr E (Ay d v h)=none:=O (by rw[z C,n];rfl);simp only[FR];go_wp2;go_ret;exact⟨ql o,x⟩
 |some s=>
  obtain⟨A,B⟩:=MV n;have D:=i.r2 s A;rw[show DX S s (d.X s)=some (G (S s) 0)from C3 om]at D;have p1:=((i.sl s A).1 B).pt;have o:Hid<|Dr E (Ay d v h)=some (G (E (d.X s-1).toNat) 0):=O (by
   rw[z C,n];show(if 0<=d.X s-1 then _ else _)=_;rw[DD om];rfl)
  simp only[FR];obtain⟨q,hq⟩:=qa<|(d.X s-1).toNat;rw[<-hq]at p1 o;clear n B hq;go_wp2;go_ret;exact⟨ql o,x⟩
abbrev M4(d:Dc):Type:={i:Nat//i<d.n/\(d.L i).turn≠0}
def A8(d:Dc)(k:Nat):List Nat:=(List.range k).filter λi=>(d.L i).turn !=0
def cK(d:Dc)(xs:List<|M4 d):Prop:=xs.map (·.1)=A8 d d.n
def TU(d:Dc)(xs:List<|M4 d):Prop:=xs.map (·.1)<+:A8 d d.n
def I6(d:Dc)(k:Nat)(xs:List<|M4 d):Prop:=xs.map (·.1)=A8 d k
theorem Cm(h:(d.L k).turn=0):A8 d (k+1)=A8 d k:=by
 unfold A8;rw[List.range_succ];simp[h]
theorem Bs(h:(d.L k).turn≠0):A8 d (k+1)=A8 d k++[k]:=by
 unfold A8;rw[List.range_succ];simp[h]
def FW d k:(A8 d k).length<=k:=by
 grind [A8]
theorem FB(h:k<=n):A8 d k<+:A8 d n:=by
 obtain⟨j,rfl⟩:∃j,n=k+j:=⟨n-k,om⟩
 induction j with
 |zero=>exact List.prefix_refl _
 |succ j ih=>
  refine(ih om).trans ?_;by_cases e:(d.L<|k+j).turn=0
  .rw[show k+(j+1)=k+j+1 by omega,Cm e];exact List.prefix_refl _
  rw[show k+(j+1)=k+j+1 by omega,Bs e];exact List.prefix_append _ _
def I6.pre{xs}(h:I6 d k xs)(hk:k<=d.n):TU d xs:=by
 grind [I6,TU,FB]
def PF:i∈A8 d k↔i<k/\(d.L i).turn≠0:=by
 unfold A8;simp[List.mem_filter]
def Iv bk w:
  C9 186 #[Q9 bk] w λe w'=>e=.returned (.func (.func 194) #[] #[Q9 w.heap.size])/\w'=w.alloc (.cells #[Q9 bk] 215):=by
 go_enter func186,ntmps186;go_wp2;go_ret;exact⟨rfl,rfl⟩
def LH(n)(hn:1<=n){bk v B R2}(x n0){E S}{d}{w}(C:Kj w bk v B R2 E S d)(D:Small d)(F:v<n0)(H:∀i,i<d.n->E i<n0)
  (m0:w.cell? (G x 0)=some (Q9 bk)):
  SeqStopsK Fence.wide n prog 194 #[Q9 x] (λa=>#[Q9 (E a.1)]) (Below n0)
   (cK d) (TU d) d.n w:=λl Z R W A T I K M=>by
 have m0:=(A.cell<|I9 _ _ m0).trans m0;have g:=C.below A;obtain⟨a0,k0,c0,s⟩:=g.c0;have P:=D.n;refine callsIn_of_wp func194 rfl trivial ?_ rfl;simp only[ntmps194,Aaw,Aac,VC,Nat.reduceAdd,Nat.reduceSub,Aaf,Aae,Aax,Aam,Wx,Aau];gi_wp2
 gi_loopw [10] (λi wr=>∃(k:Nat) (pre:List<|M4 d),k<=d.n/\i=J (k:Int)/\I6 d k pre/\Z pre wr/\Below n0 W wr) λi _=>d.n-(intOf i).toNat
 case atStart=>exact⟨0,[],om,rfl,rfl,z<|O M,BE _ _⟩
 case round=>
  obtain⟨k,pre,hk,rfl,c,j,f⟩:=hrel;by_cases b:k<d.n
  .obtain rfl:=z (O s) om;have U:=(f.cell F).trans<|g.r0 k b;have t0:=(f.cell<|z (O H) k b).trans (g.CH k b).tn;by_cases o:(d.L k).turn=0
   .have r:I6 d (k+1) pre:=by unfold I6;rw[Cm o];exact c
    rw[o]at t0;gi_wp2;refine⟨λ_ h=>(by cases h),?_⟩;gi_wp2;go_roundw
    .exact⟨k+1,pre,om,ov,r,j,f⟩
    exact ow
   have Q:((d.L k).turn !=0)=true:=by simp[o]
   obtain⟨fn,tmps,assign,body,hy,m⟩:=z (O K) pre ⟨k,b,o⟩ wr j (by
    have h1:=congrArg List.length c;rw[AaR]at h1;have:=FW d k;omega)
   have r:Hid<|I6 d (k+1)<|pre++[⟨k,b,o⟩]:=O (by
    unfold I6;rw[Bs o,Aaj,show pre.map (·.1)=A8 d k from c];rfl)
   dsimp only at hy;gi_wp2;refine m.mono ?_;rintro e V (⟨rfl,t,u⟩|⟨rfl,p⟩)
   .clear hy m;gi_wp2;go_roundw
    .exact⟨k+1,_,om,ov,r,t,f.trans u⟩
    exact ow
   clear hy m;gi_wp2;refine Fs (AaE rfl _ _ _) rfl ?_;exact⟨⟨_,rfl⟩,.inr ⟨_,r.pre om,p⟩⟩
  have q:k=d.n:=om;subst q;gi_wp2;go_end0;exact⟨⟨_,rfl⟩,.inl ⟨pre,c,j⟩⟩
end
section
attribute [local go_sem] AB Aw
def xS a b n m c c' w:(Instr.index 308 (.agg #[.slice a n c,.slice b m c'])<|J 0).run prog w=.ok (.slice a n c) w:=ou
def xU a b n m c c' w:(Instr.index 308 (.agg #[.slice a n c,.slice b m c'])<|J 1).run prog w=.ok (.slice b m c') w:=ou
def Qe lc{ia:Option Addr}ic{xa:Option Addr}xc{d}{w}(hD:FJ w la ia xa d)(p:Small d)(h3:D3 d)(h4:D4 d):
  C9 246 #[Dv la lc ia ic xa xc d] w λe w'=>(∃s,e=.returned (S9 s d.n d.n)/\BG w' s d.n λj=>CX d.I j d.m+CX d.X j d.x)/\B9 w w':=by
 rcases p.n,p.m,p.x with⟨hn,K,L⟩;rcases MI d.n hn,xS ia xa d.m d.x ic xc,xU ia xa d.m d.x ic xc with⟨B,C,D⟩;go_enter func246,ntmps246;go_wp2;obtain⟨u,hu⟩:=qa<|(w.alloc<|.cells #[.slice la d.n lc,.slice ia d.m ic,.slice xa d.x xc,J d.used,J d.live,J d.turns] 305).alloc<|.cells (madeCells #[J 0] d.n) 3;rw[<-hu];have r:B9 w u:=by rw[hu];exact(n9).alloc oq _
 have t:Hid<|BG u (w.heap.size+1) d.n λj=>0:=O (by
  rw[hu];have:=K1 (w.alloc (.cells #[.slice la d.n lc,.slice ia d.m ic,.slice xa d.x xc,J d.used,J d.live,J d.turns] 305)) d.n;exact⟨_,by simpa[Value.cells]using this,λj hj=>rfl⟩)
 go_loopw [20] (λi wr=>(i=J 0/\BG wr (w.heap.size+1) d.n (λj=>0)/\B9 w wr)\/(i=J 1/\BG wr (w.heap.size+1) d.n (λj=>CX d.I j d.m)/\B9 w wr)\/(i=J 2/\BG wr (w.heap.size+1) d.n (λj=>CX d.I j d.m+CX d.X j d.x)/\B9 w wr)) λi _=>2-(intOf i).toNat
 .exact .inl ⟨rfl,t,r⟩
 rcases hrel with⟨rfl,a,hb⟩|⟨rfl,a,hb⟩|⟨rfl,a,hb⟩
 .have c:=O a;have f:=O hb;go_wp2;go_loopw [25] (λi wr=>∃k:Nat,k<=d.m/\i=J k/\BG wr (w.heap.size+1) d.n (λj=>CX d.I j k)/\B9 w wr) λi _=>d.m-(intOf i).toNat
  .exact⟨0,om,rfl,c,f⟩
  obtain⟨k,hk,rfl,a,hb⟩:=hrel;by_cases g:k<d.m
  .obtain⟨b,off,rfl,l,hcs⟩:=hD.ints.resolve_left om;have e0:=(hb.cell l).trans<|hcs k g;have f:=O hb;rcases h3.1 k g with hz|hz
   .have c:BG wr (w.heap.size+1) d.n λj=>CX d.I j<|k+1:=a.congr (λj hj=>by show(if _ then _ else _)=_;rw[C3 om]);rw[hz]at e0;go_wp2;go_roundw
    .exact⟨k+1,om,ov,c,f⟩
    exact ow
   obtain⟨q,hq⟩:∃q:Nat,d.I k=(q:Int)+1:=⟨(d.I k-1).toNat,om⟩;have o:q<d.n:=om;rcases a.cell o,a.frozen q,Mz d.I q k with⟨r0,r1,v⟩;have c:Hid<|BG (wr.setCell (Y9 w q)<|J<|(CX d.I q k:Int)+1) (w.heap.size+1) d.n λj=>CX d.I j<|k+1:=O (a.bump.congr (λj hj=>by
    show(if d.I k=(j:Int)+1 then _ else _)=(if j=q then _ else _);by_cases e:j=q
    .subst e;rw[DD hq,DD rfl]
    rw[C3 om,C3 e]))
   rw[hq]at e0;go_wp2;go_roundw
   .exact⟨k+1,om,ov,c,f.setCell ox _⟩
   exact ow
  have h:k=d.m:=om;subst h;have c:=O a;have f:=O hb;go_wp2;go_roundw
  .exact .inr (.inl ⟨rfl,c,f⟩)
  simp[intOf]
 .have c:=O a;have f:=O hb;go_wp2;go_loopw [25] (λi wr=>∃k:Nat,k<=d.x/\i=J k/\BG wr (w.heap.size+1) d.n (λj=>CX d.I j d.m+CX d.X j k)/\B9 w wr) λi _=>d.x-(intOf i).toNat
  .exact⟨0,om,rfl,c,f⟩
  obtain⟨k,hk,rfl,a,hb⟩:=hrel;by_cases g:k<d.x
  .obtain⟨b,off,rfl,l,hcs⟩:=hD.index.resolve_left om;have e0:=(hb.cell l).trans<|hcs k g;have f:=O hb;by_cases hz:0<d.X k
   case neg=>
    have c:BG wr (w.heap.size+1) d.n λj=>CX d.I j d.m+CX d.X j (k+1):=a.congr (λj hj=>by show _+(if _ then _ else _)=_;rw[C3 om]);have E:decide (0<d.X k)=false:=ot;go_wp2;go_roundw
    .exact⟨k+1,om,ov,c,f⟩
    exact ow
   obtain⟨q,hq⟩:∃q:Nat,d.X k=(q:Int)+1:=⟨(d.X k-1).toNat,om⟩;have o:q<d.n:=by rcases h4.2.1 k g with hh|hh|hh<;>omega
   rcases a.cell o,a.frozen q,Mz d.I q d.m,Mz d.X q k with⟨r0,r1,v,A⟩;have c:Hid<|BG (wr.setCell (Y9 w q)<|J<|((CX d.I q d.m+CX d.X q k:Nat):Int)+1) (w.heap.size+1) d.n λj=>CX d.I j d.m+CX d.X j (k+1):=O (a.bump.congr (λj hj=>by
    show _+(if d.X k=(j:Int)+1 then _ else _)=(if j=q then _ else _);by_cases e:j=q
    .subst e;rw[DD hq,DD rfl];omega
    rw[C3 om,C3 e]))
   generalize F:CX d.I q d.m+CX d.X q k=cc at r0 c;have H:cc<=8388608:=om;rw[hq]at e0;go_wp2;go_roundw
   .exact⟨k+1,om,ov,c,f.setCell ox _⟩
   exact ow
  have h:k=d.x:=om;subst h;have c:=O a;have f:=O hb;go_wp2;go_roundw
  .exact .inr (.inr ⟨rfl,c,f⟩)
  simp[intOf]
 have c:=O a;go_wp2;go_ret;exact⟨⟨_,rfl,c⟩,z<|O hb⟩
def Js bk h i R2 E S d w(b:Kj w bk h i R2 E S d)(g:Small d):
  C9 172 #[Q9 bk] w (R9 (V 2 ((d.m:Int)+1) 0 ⟨#[]⟩ 0) w):=by
 rcases g.m,b.c1,b.lt with⟨l,⟨k1,c1⟩,j⟩;clear b g;go_enter func172,ntmps172;go_wp2_with (go_at_call 125;refine m9 (FU ((d.m:Int)+1) _) λw1 a=>?_;obtain⟨c,k⟩:=BF a;have e:=a.size;simp at e);refine Fs (v:=V 2 ((d.m:Int)+1) 0 ⟨#[]⟩ 0) (by simp[results,results172,go_sem,c]) rfl ⟨rfl,?_⟩;have f:=(n9).trans<|a.mono oq;exact(((((f.setCell (p:=y w 0) (Be _) _).setCell (p:=y w 1) (Be _) _).setCell (p:=y w 2) (Be _) _).setCell (p:=y w 3) (Be _) _).setCell (p:=y w 4) (Be _) _)
end
section
open Go.RowKit Go.Shelf
attribute [local go_sem] AB Aw Oper.semAt_some
def ZC:(prog.info? 245).map (λi=>i.size)=some 12:=ou
def Tc{f}(a:Kj w bk c f R2 E S d){p:Int}(h1:-1<=p)(h2:p<d.n){i}(hi:i<d.n):
  (binOp .neq 218 (.pointer<|Dr E p)<|Q9<|E i).run prog w=.ok (.bool<|decide (p≠i)) w:=by
 have hp:prog.underlying 218=some (.pointer 245):=underlying218;obtain⟨j,hj,hs⟩:=Option.map_eq_some_iff.1 ZC;unfold Dr;by_cases h:0<=p
 .rw[DD h];by_cases e:p=i
  .subst e;have hh:∀k:Nat,(Op.equalIn (k+1) 218 (Q9<|E i)<|Q9<|E i).run prog w=.ok true w:=λk=>by
    simp[Op.equalIn,run_underlying hp,sizeOf,typeInfo,hj,run_sameAddr_same]
   simp only[NO,binOp];simp[Op.equal,Op.maxDepth,hh 9999]
  have o1:=(a.CH p.toNat om).ob;have o2:=(a.CH i hi).ob;have b:((G (E p.toNat) 0):Addr)≠(G (E i) 0):=λg=>by
   have:=a.inj p.toNat i om hi (by simpa using g);omega
  have hh:∀k:Nat,(Op.equalIn (k+1) 218 (Q9<|E p.toNat)<|Q9<|E i).run prog w=.ok false w:=λk=>by
   simp[Op.equalIn,run_underlying hp,sizeOf,typeInfo,hj,hs,run_sameAddr_other w b o1 o2]
  simp only[binOp];simp[Op.equal,Op.maxDepth,hh 9999,e]
 rw[C3 h];have e:p≠i:=om;have hh:∀k:Nat,(Op.equalIn (k+1) 218 (.pointer none)<|Q9<|E i).run prog w=.ok false w:=λk=>by
  simp[Op.equalIn,run_underlying hp,sizeOf,typeInfo]
 simp only[binOp];simp[Op.equal,Op.maxDepth,hh 9999,e]
def NG(R:EJ T){la:Option Addr}lc{ia:Option Addr}ic{xa:Option Addr}xc{d}H{w:Y}(hT:T w)(hD:FJ w la ia xa d)(hS:Small d)(h2:D2 d)(h3:D3 d)(h4:D4 d)(hH:∀i,i<d.n->(d.L i).turn≠0->Qt T (d.L i).key (H i)):
  C9 242 #[Dv la lc ia ic xa xc d] w λe w'=>e=.returned (.bool<|tells<|D5 d H)/\Below w.heap.size w w':=by
 have hm:=hS.m;have ak:Below w.heap.size w<|(w.alloc<|.cells #[.slice la d.n lc,.slice ia d.m ic,.slice xa d.x xc,J d.used,J d.live,J d.turns] 305).alloc<|.cells #[.bool false] 4:=(n9).alloc oq _;refine(W0 (n:=20)).1 ?_;refine callsIn_of_wp_marks func242 rfl trivial ?_ rfl;simp only[ntmps242,Aaw,Aac,VC,Nat.reduceAdd,Nat.reduceSub,Aaf,Aae,Aax,Aam,Wx,Aau];rcases O hT,O hD,O hH with⟨HT,HD,HH⟩;clear hT hD hH;gi_wp2_with fail;refine⟨trivial,?_⟩;refine(W0.2<|Iy lc ic xc (HD.below ak) hS h3 h4).mono ?_;rintro e w1 ⟨⟨bk,R0,R1,R2,E,S,rfl,P⟩,ao⟩;obtain⟨g,bm⟩:=BF ao;have bu:w.heap.size+2<=w1.heap.size:=by have:=ao.size;simp at this;omega
 have y0:w.heap.size<w1.heap.size:=om;have y1:w.heap.size+1<w1.heap.size:=om;have a0:w1.cell? (G w.heap.size 0)=some (.slice la d.n lc):=by rw[g _ _ ot];simp[go_sem]
 have a1:w1.cell? (G w.heap.size 1)=some (.slice ia d.m ic):=by rw[g _ _ ot];simp[go_sem]
 have a2:w1.cell? (G w.heap.size 2)=some (.slice xa d.x xc):=by rw[g _ _ ot];simp[go_sem]
 have a3:w1.cell? (G w.heap.size 3)=some (J d.used):=by rw[g _ _ ot];simp[go_sem]
 have a4:w1.cell? (G w.heap.size 4)=some (J d.live):=by rw[g _ _ ot];simp[go_sem]
 have a5:w1.cell? (G w.heap.size 5)=some (J d.turns):=by rw[g _ _ ot];simp[go_sem]
 have b0:w1.cell? (G (w.heap.size+1) 0)=some (.bool false):=by rw[g _ _ oq];simp[go_sem]
 have b1:w1.frozen? (G (w.heap.size+1) 0)=false:=by rw[bm _ _ oq];simp[go_sem]
 have a6:=o9 ak ao;have k:=O P;clear ao g bm P;gi_wp2_with fail;refine⟨trivial,?_⟩;refine(W0.2<|Qe lc ic xc (HD.below<|a6.alloc om _) hS h3 h4).mono ?_;rintro e w2 ⟨⟨st,rfl,bn⟩,aq⟩;have bp:w1.heap.size<w2.heap.size:=by have:=aq.size;simp at this;omega
 have a7:=((BE w1.heap.size w1).alloc (Be _) _).trans<|aq.mono oq;have m2:w2.cell? (G w1.heap.size 0)=some (Q9 bk):=by rw[(BF aq).1 _ _ oq];simp[go_sem]
 clear aq a0 a1 a2 a3 a4 a5;gi_wp2_with fail;refine⟨trivial,?_⟩;refine(W0.2<|Js bk R0 R1 R2 E S d _ (k.below<|a7.alloc om _) hS).mono ?_;rintro e w3 ⟨rfl,ar⟩;have bq:w2.heap.size<w3.heap.size:=by have:=ar.size;simp at this;omega
 have af:w1.heap.size<w3.heap.size:=om;have a8:=((BE w2.heap.size w2).alloc (Be _) _).trans<|ar.mono oq;have m3:w3.cell? (G w1.heap.size 0)=some (Q9 bk):=o7 a8 bp m2;have s3:w3.cell? (G w2.heap.size 0)=some (S9 st d.n d.n):=by rw[(BF ar).1 _ _ oq];simp[go_sem]
 clear ar m2;gi_wp2_with fail;refine⟨trivial,?_⟩;refine(W0.2<|Iv bk _).mono ?_;rintro e w4 ⟨rfl,rfl⟩;gi_wp2_with fail;obtain⟨u,hu⟩:=qa<|(w3.alloc<|.cells #[J 2,J<|(d.m:Int)+1,F9 0,E9,J 0] 32).alloc<|.cells #[Q9 bk] 215;rw[<-hu];have zu:u.heap.size=w3.heap.size+2:=by rw[hu];simp
 have au:Below w3.heap.size w3 u:=by rw[hu];exact(n9).alloc oq _
 obtain⟨n0,n1,n2,n3,n4,br⟩:u.cell? (G w3.heap.size 0)=some (J 2)/\u.cell? (G w3.heap.size 1)=some (J<|(d.m:Int)+1)/\u.cell? (G w3.heap.size 2)=some (F9 0)/\u.cell? (G w3.heap.size 3)=some (E9)/\u.cell? (G w3.heap.size 4)=some (J 0)/\u.cell? (G (w3.heap.size+1) 0)=some (Q9 bk):=by rw[hu];simp[go_sem]
 clear hu;have bb:Below w2.heap.size w2 u:=a8.trans<|au.mono om;have U:Below w1.heap.size w1 u:=a7.trans<|bb.mono om;have V:Below w.heap.size w u:=a6.trans<|U.mono om;rcases o7 au af m3,o7 au bq s3,o7 U y1 b0,o8 U y1 b1,k.below U with⟨mu,su,ru,fu,av⟩;have bw:BG u st d.n λj=>CX d.I j d.m+CX d.X j d.x:=bn.below bb;have ag:w1.heap.size<u.heap.size:=om;have ah:w2.heap.size<u.heap.size:=om;have o:w3.heap.size<u.heap.size:=om;have ad:w.heap.size+1<u.heap.size:=om;clear bb U au m3 s3 b0 b1 k a7 a8 a6 HD bu y0 y1 bp bq af ak bn;generalize w1.heap.size=M1 at*;generalize w2.heap.size=M2 at*;refine wpIn_rangeFunc_ownF rfl oo (gf:=194) (lb:=#[Q9 (w3.heap.size+1)]) rfl trivial (enters_of func194 ou rfl)
  (LH 19 oo (w3.heap.size+1) u.heap.size av hS av.l0 (λi hi=>(av.CH i hi).lt) br) belowK_t (belowK_b<|Be _) (BE _ _) (λ_=>rfl)
  (λpre W=>(∀Z∈pre,Z4 d H Z.1)/\Below u.heap.size u W)
  (λc pre W=>(c=.ret/\(∃Z∈pre,¬Z4 d H Z.1)/\W.cell? (G (w.heap.size+1) 0)=some (.bool false))/\Below w.heap.size w W)
  (OwnFrom.and (ownFrom_pure _ λpre:List (M4 d)=>∀Z∈pre,Z4 d H Z.1)<|ownFrom_below (Be _)<|Be _)
  (λc=>OwnFrom.and (Own.from (λs A B row hs hg hr=>⟨hs.1,hs.2.1,NB hs.2.2 hg hr⟩) _)<|ownFrom_below (Be _) om)
  ⟨oq,BE _ _⟩
  ?a1 ?assign ?body ?done ?stop
 case assign=>
  intro l x W K hK;gi_wp2;exact hK
 case body=>
  rintro l pre ⟨i,hi,ht⟩ W ⟨hp,a⟩ _;rcases av.below a,o7 a ag mu,o7 a ah su,o7 a o n0,o7 a o n1,o7 a o n2,o7 a o n3,o7 a o n4,bw.below a with⟨P,m0,s0,g0,g1,g2,g3,g4,bc⟩;rcases bc.cell hi,bc.lt,P.CH i hi with⟨r0,b6,⟨b7,k0,k1,k2,k3,k4,_,_,_,_,_,_,pl⟩⟩;have b8:M1<W.heap.size:=A0 ag a.size;have b9:M2<W.heap.size:=A0 ah a.size;have ca:w3.heap.size<W.heap.size:=A0 o a.size;have Q:w.heap.size+1<W.heap.size:=A0 ad a.size;rcases o7 a ad ru,o8 a ad fu,O P with⟨t,aw,k⟩;rcases O (R _ _ HT<|V.trans<|a.mono om),z HH i hi ht,(h2.pos hi ht).2 with⟨bd,bx,ai⟩;clear P bc mu su n0 n1 n2 n3 n4 br;by_cases g:CX d.I i d.m+CX d.X i d.x=1
  case neg=>
   have ae:Hid<|¬Z4 d H i:=O λh=>g (h ht).1;have aj:(((CX d.I i d.m+CX d.X i d.x:Nat):Int)!=1)=true:=ot;generalize CX d.I i d.m+CX d.X i d.x=cc at r0 aj g;clear g;gi_wp2;refine wpIn_region_quiet (C:=λw'=>Below W.heap.size W w') ou ou ou ((BE _ _).drew) ?_;show wpQuiet _ _ _ _ [_,_,_,_,_,_,_,_,_,_,_,_,_,_,_,_,_,_,_,_,_,_,_,_,_,_,_,_] _;(iterate 9 refine N (h:=?_));iterate 9 (go_big_quiet_step (fail))
   refine N (h:=N (h:=?_));iterate 7 (go_big_quiet_step (fail))
   refine N (h:=?_);refine Hz ?_;intro w5 b;have HK:=B7 b;rcases V.trans ((o9 a b).mono om),o7 b Q t,o8 b Q aw with⟨q,v0,v1⟩;clear b;gi_wp2;exact⟨HK.trans<|Q2 _ _ _,⟨rfl,⟨⟨i,hi,ht⟩,oq,ae⟩,ID _ _ _<|qm v0⟩,q.setCell (p:=G (w.heap.size+1) 0) ox _⟩
  rw[g]at r0;have aj:(((1:Nat):Int)!=1)=false:=rfl;obtain⟨ax,ay⟩:=Jy h3 h4 (d.L i).key<|H i;have v:=λW' bz (b2:Kj W' bk R0 R1 R2 E S d)=>JU R bx bz b2 hS h3 h4;have az:Hid<|Z4 d H i↔Ay d (d.L i).key (H i)=(i:Int)/\¬((d.L i).key.kind=2/\(d.L i).key.num=(d.m:Int)+1):=O ⟨λh=>(h ht).2,λh _=>⟨g,h⟩⟩;generalize Ay d (d.L i).key (H i)=b3 at ax ay v az;have F:=O v;clear v g;by_cases bf:b3=(i:Int)
  case neg=>
   have ae:Hid<|¬Z4 d H i:=O λh=>bf (az.1 h).1;gi_wp2;refine wpIn_region_quiet (C:=λw'=>Below W.heap.size W w') ou ou ou ((BE _ _).drew) ?_;show wpQuiet _ _ _ _ [_,_,_,_,_,_,_,_,_,_,_,_,_,_,_,_,_,_,_,_,_,_,_,_,_,_,_,_] _;(iterate 12 refine N (h:=?_));refine N (h:=N (h:=N (h:=?_)));refine GS λK hK=>?_;go_simp;refine⟨_,λw' f=>qk f<|F _ (R _ _ bd f)<|k.below f,hK _ ?_⟩;clear hK K;refine N (h:=?_);refine GS λK hK=>?_;go_simp;refine⟨.bool true,λw' f=>?_,hK _ ?_⟩
   .rw[Tc ((z k).below f) ax ay hi];simp[bf]
   clear hK K;refine N (h:=N (h:=?_));iterate 7 (go_big_quiet_step (fail))
   refine N (h:=?_);refine Hz ?_;intro w5 b;have HK:=B7 b;rcases V.trans ((o9 a b).mono om),o7 b Q t,o8 b Q aw with⟨q,v0,v1⟩;clear b;gi_wp2;exact⟨HK.trans<|Q2 _ _ _,⟨rfl,⟨⟨i,hi,ht⟩,oq,ae⟩,ID _ _ _<|qm v0⟩,q.setCell (p:=G (w.heap.size+1) 0) ox _⟩
  subst bf;by_cases M:(d.L i).key.kind=2/\(d.L i).key.num=(d.m:Int)+1
  .have ae:Hid<|¬Z4 d H i:=O λh=>(az.1 h).2 M;have bg:=O M;have HF:=O<|N5 ai M.1;clear M ai;gi_wp2;refine wpIn_region_quiet (C:=λw'=>Below W.heap.size W w') ou ou ou ((BE _ _).drew) ?_;show wpQuiet _ _ _ _ [_,_,_,_,_,_,_,_,_,_,_,_,_,_,_,_,_,_,_,_,_,_,_,_,_,_,_,_] _;(iterate 12 refine N (h:=?_));refine N (h:=N (h:=N (h:=?_)));refine GS λK hK=>?_;go_simp;refine⟨_,λw' f=>qk f<|F _ (R _ _ bd f)<|k.below f,hK _ ?_⟩;clear hK K;refine N (h:=?_);refine GS λK hK=>?_;go_simp;refine⟨.bool false,λw' f=>?_,hK _ ?_⟩
   .rw[Tc ((z k).below f) ax ay hi];simp
   clear hK K;(iterate 8 refine N (h:=?_));refine GS λK hK=>?_;go_simp;refine⟨.bool true,λw' f=>?_,hK _ ?_⟩
   .obtain⟨x1,x2⟩:=z bg;obtain⟨x3,x4,x5⟩:=z HF;have b4:O9 (d.L i).key.Ah 0=some Ordering.eq:=by simpa using x3
    have b5:(d.L i).key.str.toList=[]:=List.isEmpty_iff.1 x4;simp only[x1,x2,x5,b4,b5,if_true];exact⟨trivial,trivial⟩
   clear hK K;refine N (h:=?_);refine Hz ?_;intro w5 b;have HK:=B7 b;rcases V.trans ((o9 a b).mono om),o7 b Q t,o8 b Q aw with⟨q,v0,v1⟩;clear b;gi_wp2;exact⟨HK.trans<|Q2 _ _ _,⟨rfl,⟨⟨i,hi,ht⟩,oq,ae⟩,ID _ _ _<|qm v0⟩,q.setCell (p:=G (w.heap.size+1) 0) ox _⟩
  have HO:Z4 d H i:=az.2 ⟨rfl,M⟩;have HP:=O hp;have bg:=O M;clear hp M;gi_wp2;refine wpIn_region_quiet (C:=λw'=>Below W.heap.size W w') ou ou ou ((BE _ _).drew) ?_;show wpQuiet _ _ _ _ [_,_,_,_,_,_,_,_,_,_,_,_,_,_,_,_,_,_,_,_,_,_,_,_,_,_,_,_] _;(iterate 12 refine N (h:=?_));refine N (h:=N (h:=N (h:=?_)));refine GS λK hK=>?_;go_simp;refine⟨_,λw' f=>qk f<|F _ (R _ _ bd f)<|k.below f,hK _ ?_⟩;clear hK K;refine N (h:=?_);refine GS λK hK=>?_;go_simp;refine⟨.bool false,λw' f=>?_,hK _ ?_⟩
  .rw[Tc ((z k).below f) ax ay hi];simp
  clear hK K;(iterate 8 refine N (h:=?_));refine GS λK hK=>?_;go_simp;refine⟨.bool false,λw' f=>?_,hK _ ?_⟩
  .have aM:=z bg;by_cases q1:(d.L i).key.kind=2
   .have q2:¬(d.L i).key.num=(d.m:Int)+1:=λh=>aM ⟨q1,h⟩;simp only[q1,q2,if_true,Aad];exact⟨trivial,trivial⟩
   simp only[q1,Aad];exact⟨trivial,trivial⟩
  clear hK K;refine N (h:=?_);refine Hz ?_;intro w5 b;have HK:=B7 b;have q:=O b;clear b;gi_wp2;exact⟨HK,q.mono a.size,λZ hy=>(AaG.1 hy).elim (HP Z) (λe=>by simp at e;subst e;exact HO),o9 a q⟩
 case done=>
  rintro D ys W hD bt ⟨hp,a⟩ hK;have HR:Hid<|tells (D5 d H)=true:=O (Al (λi hi ht=>by
   have hm:i∈ys.map (·.1):=by rw[show ys.map (·.1)=A8 d d.n from bt];exact PF.2 ⟨hi,ht⟩
   obtain⟨Z,hy,rfl⟩:=List.mem_map.1 hm;exact hp Z hy ht))
  have t:=o7 a ad ru;have aw:=o8 a ad fu;clear bt hp;gi_wp2;have hK':=(Q2 W (G (w.heap.size+1) 0)<|.bool true).same D _ hK rfl;refine⟨oq,.inl ⟨_,_,rfl,AaJ hK',?_⟩⟩;have bh:=NB (ID W (G (w.heap.size+1) 0) (.bool true)<|qm t) (MM _ D<|.deferred none) (λr e=>by cases e;exact⟨_,hK',rfl⟩);refine⟨.bool true,?_,ql HR,((V.trans<|a.mono om).setCell (p:=G (w.heap.size+1) 0) ox _).trans<|belowK_b (w:=w) (Be _) _ D _ _ om hK' rfl rfl⟩;simp[results,f242,go_sem,bh]
 case stop=>
  rintro D c pre W hD bj ⟨⟨rfl,⟨Z,hy,aM⟩,t⟩,a⟩ hK;have HR:Hid<|tells (D5 d H)=false:=O<|Tg Z.2.1 aM;clear bj aM hy;gi_wp2;refine⟨oq,.inl ⟨_,_,rfl,AaJ hK,?_⟩⟩;have bh:=NB t (MM _ D<|.deferred none) (λr e=>by cases e;exact⟨_,hK,rfl⟩);refine⟨.bool false,?_,ql HR,a.trans<|belowK_b (w:=w) (Be _) W D _ _ om hK rfl rfl⟩;simp[results,f242,go_sem,bh]
end
section
attribute [local go_sem] AB Aw
def yA(x:Int):Int:=IntKind.u64.wrap<|bits BinOp.and IntKind.u64 (x/2) 6148914691236517205+bits BinOp.and IntKind.u64 x 6148914691236517205
def yB(x:Int):Int:=IntKind.u64.wrap<|bits BinOp.and IntKind.u64 (x/4) 3689348814741910323+bits BinOp.and IntKind.u64 x 3689348814741910323
def yC(x:Int):Int:=bits BinOp.and IntKind.u64 (IntKind.u64.wrap<|x/16+x) 1085102592571150095
def yD(x:Int):Int:=IntKind.u64.wrap<|x+x/256
def yE(x:Int):Int:=IntKind.u64.wrap<|x+x/65536
def yF(x:Int):Int:=IntKind.u64.wrap<|x+x/4294967296
def pop(x:Int):Int:=bits BinOp.and IntKind.i64 (wrap64<|yF<|yE<|yD<|yC<|yB<|yA x) 127
def NL(x:Nat)(a:x<=4000)w:
  C9 248 #[.int .u64 x] w λe w'=>e=.returned (J<|pop x)/\w'=w:=by
 go_enter func248,ntmps248;go_wp2;go_ret;exact⟨rfl,rfl⟩
def Kz(x:Nat)(a:x<=4000)w:
  C9 245 #[.int .u64 x] w λe w'=>e=.returned (J<|pop x)/\w'=w:=by
 go_enter func245,ntmps245;go_wp2_with (go_at_call 248;refine(NL x a _).mono ?_;rintro e w1 ⟨rfl,rfl⟩);go_ret;exact⟨rfl,rfl⟩
def gR:∀k,k<12->pop ((2^k:Nat):Int)=1:=by decide +kernel
def nS:∀x:Nat,x<4001->pop (x)=1->x∈[1,2,4,8,16,32,64,128,256,512,1024,2048]:=by decide +kernel
def YJ(a:x<=4000):pop x=1↔Hb x:=by
 constructor
 .intro h;have:=nS x om h;simp only[List.mem_cons,AaK,or_false]at this;rcases this with h|h|h|h|h|h|h|h|h|h|h|h
  .exact⟨0,h⟩
  .exact⟨1,h⟩
  .exact⟨2,h⟩
  .exact⟨3,h⟩
  .exact⟨4,h⟩
  .exact⟨5,h⟩
  .exact⟨6,h⟩
  .exact⟨7,h⟩
  .exact⟨8,h⟩
  .exact⟨9,h⟩
  .exact⟨10,h⟩
  exact⟨11,h⟩
 rintro⟨k,rfl⟩;have hk:k<12:=by
  rcases Nat.lt_or_ge k 12 with h|h
  .exact h
  have:=AaD (n:=2) oo h;omega
 exact gR k hk
def Qy la lc ia ic xa xc{d}w(g:Small d):
  C9 238 #[Dv la lc ia ic xa xc d] w (R9 (.bool<|tells<|D1 d) w):=by
 have hn:=g.n;clear g;have c:∀o1 o2,B9 w<|(w.alloc o1).alloc o2:=λo1 o2=>(n9).alloc oq _;have b:=O c;clear c;by_cases h1:d.live<0
 .have a:=O<|Ag (p:=D1 d) (λh=>by unfold D1 at h;omega);go_enter func238,ntmps238;go_wp2;go_ret;exact⟨ql a,b _ _⟩
 by_cases h2:500<d.live
 .have a:=O<|Ag (p:=D1 d) (λh=>by unfold D1 at h;omega);go_enter func238,ntmps238;go_wp2;go_ret;exact⟨ql a,b _ _⟩
 by_cases h3:d.turns<0
 .have a:=O<|Ag (p:=D1 d) (λh=>by unfold D1 at h;omega);go_enter func238,ntmps238;go_wp2;go_ret;exact⟨ql a,b _ _⟩
 by_cases h4:1000000000000<d.turns
 .have a:=O<|Ag (p:=D1 d) (λh=>by unfold D1 at h;omega);go_enter func238,ntmps238;go_wp2;go_ret;exact⟨ql a,b _ _⟩
 by_cases h5:(d.n:Int)<=8
 .have a:=O<|Al (p:=D1 d) ⟨om,om,om,om,.inl h5⟩;go_enter func238,ntmps238;go_wp2;go_ret;exact⟨ql a,b _ _⟩
 have i:IntKind.i64.wrap (2*d.live)=2*d.live:=oj;by_cases e:(d.n:Int)<=2*d.live
 focus
  have a:=O<|Al (p:=D1 d) ⟨om,om,om,om,.inr e⟩;have f:decide ((d.n:Int)<=2*d.live)=true:=by simp[e]
 rotate_left
 focus
  have a:=O<|Ag (p:=D1 d) (λh=>by unfold D1 at h;omega);have f:decide ((d.n:Int)<=2*d.live)=false:=by simp[e]
 all_goals
  go_enter func238,ntmps238;go_wp2;go_ret;exact⟨by rw[z a];simp,b _ _⟩
def mF(h:fz x=true):NI x x=true:=by
 have h':(Ieee.double.order x 0==some .eq)=true:=h;show(Ieee.double.order x x==some .eq)=true;rcases Fl.CB x with⟨s,m,i,a,hi,b,c,_⟩|⟨s,a⟩|⟨s,t,a⟩
 .rw[Fl.BR a a hi hi];simp
 .unfold Ieee.Format.order at h';rw[a,Fl.CD]at h';cases s<;>simp[Ieee.Datum.order]at h'
 unfold Ieee.Format.order at h';rw[a]at h';simp[Ieee.Datum.order]at h'
def Yt(h:Ch v=true):NI v.Ah v.Ah=true:=by
 unfold Ch Vl.ok at h;simp only[AaC,ne_eq,Bool.not_eq_true',Bool.and_eq_false_iff,Bool.or_eq_false_iff,beq_eq_false_iff_ne]at h;obtain⟨⟨a,b⟩,h3⟩:=h;by_cases hk:v.kind=3
 .rcases h3 with h3|h3
  .exact absurd hk h3
  have:(O9 v.Ah v.Ah !=some .eq)=false:=h3.1;rw[NI];simpa using this
 have hz:fz v.Ah=true:=by grind [NI,Bf]
 exact mF hz
def ZD v w:
  C9 243 #[V v.kind v.num v.Ah v.str v.ref] w (R9 (.bool<|Ch v) w):=by
 rcases Pq v with⟨hk,b⟩|⟨hk,c,k,n,f,t,r,b,hc⟩
 .have e:=O b;have HK:=O hk;have g:(O9 v.Ah v.Ah==some .eq)=true:=Yt hk;clear hk b;go_enter func243,ntmps243;go_wp2_with (go_at_call 98;refine m9 (Gd v.kind v.num v.Ah v.str v.ref _) λw1 hb=>?_;rw[z e];obtain⟨hc,hf⟩:=BF hb;have hz:=hb.size;simp at hz;have d:w.heap.size<w1.heap.size:=om);go_ret;exact⟨by rw[z HK];simp,((n9).trans<|hb.mono oq).alloc om _⟩
 have e:=O b;have HK:=O hk;clear hk b;by_cases a:c=0
 .have h3:v.kind=3/\k=2:=hc.resolve_left λh=>h a;obtain⟨h3,rfl⟩:=h3;have i:((2:Int)==v.kind)=false:=qm h3
  subst a;clear h3 hc;go_enter func243,ntmps243;go_wp2_with (go_at_call 98;refine m9 (Gd v.kind v.num v.Ah v.str v.ref _) λw1 hb=>?_;rw[z e];obtain⟨hc,hf⟩:=BF hb;have hz:=hb.size;simp at hz;have d:w.heap.size<w1.heap.size:=om);go_ret;exact⟨by rw[z HK];simp,((n9).trans<|hb.mono oq).alloc om _⟩
 have j:(c==0)=false:=by simp[a]
 clear a hc;go_enter func243,ntmps243;go_wp2_with (go_at_call 98;refine m9 (Gd v.kind v.num v.Ah v.str v.ref _) λw1 hb=>?_;rw[z e];obtain⟨hc,hf⟩:=BF hb;have hz:=hb.size;simp at hz;have d:w.heap.size<w1.heap.size:=om);go_ret;exact⟨ql HK,((n9).trans<|hb.mono oq).alloc om _⟩
def N8 v:C0 v=(v.kind==0&&(v.num==0&&(fz v.Ah&&(v.str.toList.isEmpty&&v.ref==0)))):=by
 grind [C0,fz,Vl.ok,Bf]
def Ta lc{ia:Option Addr}ic{xa:Option Addr}xc{d}{w}(hD:FJ w la ia xa d)(S:Small d):
  C9 239 #[Dv la lc ia ic xa xc d] w (R9 (.bool<|tells<|D2 d) w):=by
 have hn:=S.n;clear S;go_enter func239,ntmps239;go_wp2;go_loopw [3,4,11] (λli l i wr=>∃(k:Nat) (live last:Int),k<=d.n/\i=J k/\l=J last/\li=J live/\CR d k=some (live,last)/\0<=live/\live<=k/\w.heap.size<wr.heap.size/\wr.cell? (y w 4)=some (J d.live)/\wr.cell? (y w 5)=some (J d.turns)/\B9 w wr) λ_ _ i _=>d.n-(intOf i).toNat
 .exact⟨0,0,0,om,rfl,rfl,rfl,rfl,om,om,oq,oe,oe,n9⟩
 obtain⟨k,live,last,hk,rfl,rfl,rfl,t,ad,ae,o,c4,c5,hb⟩:=hrel;have r:=O t;clear t;by_cases f:k<d.n
 case neg=>
  have D:k=d.n:=om;subst D;have j:=O hb;clear hb;by_cases B:live=d.live
  .have c:=O<|Al (p:=D2 d) ⟨last,by rw[<-B];exact r⟩;have P:(live==d.live)=true:=by simp[B]
   clear B;go_wp2;go_ret;exact⟨by rw[z c];simp,j⟩
  have c:=O<|Ag (p:=D2 d) (λ⟨l,e⟩=>by rw[z r]at e;simp only[Option.some.injEq,Prod.mk.injEq]at e;exact B e.1);have P:(live==d.live)=false:=by simp[B]
  clear B;go_wp2;go_ret;exact⟨by rw[z c];simp,j⟩
 obtain⟨b,off,rfl,Q,hcs⟩:=hD.log.resolve_left om;obtain⟨e0,e1,e2,e3,T,U,V,e7,e8,X,E⟩:=(hcs k f).keep λq=>hb.cell (p:=G b q) Q;have j:=O hb;clear hcs hb;by_cases C:(d.L k).turn=0
 .have s:=O<|Gg r C;rw[C]at E;clear C;by_cases hz:(C0 (d.L k).key&&C0 (d.L k).val)=true
  .have c:Hid<|CR d (k+1)=some (live,last):=O<|s.trans<|DD hz;rw[N8,N8]at hz;simp only[AaC,beq_iff_eq]at hz;obtain⟨⟨a0,a1,a2,a3,a4⟩,b0,b1,b2,b3,b4⟩:=hz;rw[a0]at e0;rw[a1]at e1;rw[a4]at T;rw[b0]at U;rw[b1]at V;rw[b4]at X;have af:(O9 (d.L k).key.Ah 0==some .eq)=true:=a2;have ag:(O9 (d.L k).val.Ah 0==some .eq)=true:=b2;clear a0 a1 a4 b0 b1 b4 a2 b2;go_wp2;go_roundw
   .exact⟨k+1,live,last,om,ov,rfl,rfl,c,om,om,ot,(It _ _ _<|by exact o).trans c4,(It _ _ _<|by exact o).trans c5,j.alloc j.size _⟩
   exact ow
  have c:=O<|Fi f<|s.trans<|C3 hz;rw[N8,N8]at hz;have HZ:=O hz;clear hz;go_wp2_with fail;all_goals first|(go_ret;exact⟨ql c,j.alloc j.size _⟩)|(exfalso;apply HZ;simp_all [fz])
 have s:=O<|Gh r C;have ah:((d.L k).turn==0)=false:=by simp[C]
 clear C;by_cases t1:(d.L k).turn<=last
 .have c:=O<|Fi f<|s.trans<|C3 (by unfold Eo;simp;intros;omega);go_wp2_with fail;go_ret;exact⟨ql c,j.alloc j.size _⟩
 by_cases t2:d.turns<(d.L k).turn
 .have c:=O<|Fi f<|s.trans<|C3 (by unfold Eo;simp;intros;omega);go_wp2_with fail;go_ret;exact⟨ql c,j.alloc j.size _⟩
 obtain⟨W,m⟩:=qa<|wr.alloc<|.cells #[J (d.L k).key.kind,J (d.L k).key.num,F9 (d.L k).key.Ah,.string (d.L k).key.str,J (d.L k).key.ref,J (d.L k).val.kind,J (d.L k).val.num,F9 (d.L k).val.Ah,.string (d.L k).val.str,J (d.L k).val.ref,J (d.L k).turn] 168;have F:B9 w W:=by rw[m];exact j.alloc j.size _
 have g:wr.heap.size<W.heap.size:=by rw[m];simp
 obtain⟨Z,y6,y7,y8,y9,H⟩:W.cell? (y wr 5)=some (J (d.L k).val.kind)/\W.cell? (y wr 6)=some (J (d.L k).val.num)/\W.cell? (y wr 7)=some (F9 (d.L k).val.Ah)/\W.cell? (y wr 8)=some (.string (d.L k).val.str)/\W.cell? (y wr 9)=some (J (d.L k).val.ref)/\W.cell? (y wr 10)=some (J (d.L k).turn):=by rw[m];simp[go_sem]
 have z4:W.cell? (y w 4)=some (J d.live):=by rw[m];exact(It _ _ _<|by exact o).trans c4
 have z5:W.cell? (y w 5)=some (J d.turns):=by rw[m];exact(It _ _ _<|by exact o).trans c5
 go_wp2_with fail
 rw[<-m];clear m;refine m9 (ZD (d.L k).key _) λw1 a=>?_;rcases o9 F a,o7 a g Z,o7 a g y6,o7 a g y7,o7 a g y8,o7 a g y9,o7 a g H with⟨u,x5,x6,x7,x8,x9,I⟩;have K:w.heap.size<W.heap.size:=om;have u4:=o7 a K z4;have u5:=o7 a K z5;have M:wr.heap.size<w1.heap.size:=A0 g a.size;clear a Z y6 y7 y8 y9 H z4 z5 e0 e1 e2 e3 T U V e7 e8 X E c4 c5;cases t3:Ch (d.L k).key
 .have c:=O<|Fi f<|s.trans<|C3 (by unfold Eo;simp[t3]);clear t1 t2;go_wp2_with fail;go_ret;exact⟨ql c,u⟩
 go_wp2_with fail
 refine m9 (Cu (d.L k).val.kind (d.L k).val.num (d.L k).val.Ah (d.L k).val.str (d.L k).val.ref _) λw2 h=>?_;rcases o9 u h,o7 h M x5,o7 h M I with⟨v,v5,ai⟩;have x:w.heap.size<w1.heap.size:=om;have s4:=o7 h x u4;have s5:=o7 h x u5;have R:w.heap.size<w2.heap.size:=A0 x h.size;clear h x5 x6 x7 x8 x9 I u4 u5;cases t4:(d.L k).val.ok
 .have c:=O<|Fi f<|s.trans<|C3 (by unfold Eo;simp[t4]);have A:Bf (d.L k).val.kind (d.L k).val.num (d.L k).val.Ah (d.L k).val.str (d.L k).val.ref=false:=t4;rw[A];clear t1 t2;go_wp2_with fail;go_ret;exact⟨ql c,v⟩
 have A:Bf (d.L k).val.kind (d.L k).val.num (d.L k).val.Ah (d.L k).val.str (d.L k).val.ref=true:=t4;rw[A];by_cases t5:(d.L k).val.kind=0
 .have c:=O<|Fi f<|s.trans<|C3 (by unfold Eo;simp[t5]);rw[t5]at v5;clear t1 t2 t5;go_wp2_with fail;go_ret;exact⟨ql c,v⟩
 have c:Hid<|CR d (k+1)=some (live+1,(d.L k).turn):=O<|s.trans<|DD (by unfold Eo;simp[t3,t4,t5];omega);have aj:((d.L k).val.kind==0)=false:=by simp[t5]
 clear t1 t2 t5;go_wp2;go_roundw
 .exact⟨k+1,live+1,(d.L k).turn,om,ov,rfl,ov,c,om,om,R,s4,s5,v⟩
 exact ow
def jA(h:¬GB d.x):d.x≠0/\(d.x<8\/4000<d.x\/(8<=d.x/\d.x<=4000/\¬Hb d.x)):=by
 grind [GB,Hb,Small.x]
def Ph lc{ia:Option Addr}ic{xa:Option Addr}xc{d}{w}(hD:FJ w la ia xa d)(U:Small d)(h2:D2 d):
  C9 241 #[Dv la lc ia ic xa xc d] w (R9 (.bool<|tells<|D4 d) w):=by
 rcases U.n,U.m,U.x,O hD,O U with⟨hn,hm,hx,HD,HS⟩;clear hD U h2;have V:∀o,B9 w<|w.alloc o:=λo=>n9;have A:=O V;clear V;by_cases l:GB d.x
 case neg=>
  have g:=O<|Oa (d:=d) l;obtain⟨E,h1⟩:=jA l;have W:((d.x:Int)!=0)=true:=by simp[E]
  clear l E;rcases h1 with h1|h1|⟨h1,h2,h3⟩
  .go_enter func241,ntmps241;go_wp2;go_ret;exact⟨ql g,A _⟩
  .have F:¬(d.x:Int)<8:=om;go_enter func241,ntmps241;go_wp2;go_ret;exact⟨ql g,A _⟩
  have hp:(pop (d.x:Int)!=1)=true:=by
   simp only[bne_iff_ne,ne_eq];exactλh=>h3<|(YJ h2).1 h
  have F:¬(d.x:Int)<8:=om;clear h3;generalize Z:pop (d.x:Int)=pp at hp;have P:=O Z;clear Z;go_enter func241,ntmps241;go_wp2_with (go_at_call 245;refine(Kz d.x h2 _).mono ?_;rintro e w1 ⟨rfl,rfl⟩;rw[z P]);go_ret;exact⟨ql g,A _⟩
 have aj:=O l;obtain⟨br,ak⟩:∃br:Bool,br=decide (d.x=0):=⟨_,rfl⟩;go_enter func241,ntmps241;clear ak;by_cases E:d.x=0
 .have W:((d.x:Int)!=0)=false:=by simp[E]
  have az:¬(0:Int)<d.x:=om;have B:=O E;clear E l;go_wp2_with fail;go_loopw [4,31] (λu i wr=>u=J 0/\i=J 0/\wr.cell? (y w 3)=some (J d.used)/\B9 w wr) λ_ _ _=>0
  .exact⟨rfl,rfl,oe,A _⟩
  obtain⟨rfl,rfl,c3,hb⟩:=hrel;have aM:(0:Int)<=d.x:=om;have t:=O hb;clear hb;by_cases hu:(0:Int)=d.used
  .have g:=O<|Al (p:=D4 d) ⟨.inl B,λj hj=>oT<|z B,by rw[z B];exact hu,by rw[z B];exact Be _⟩;rw[<-hu]at c3;clear hu;go_wp2;go_ret;exact⟨ql g,t⟩
  have g:=O<|Ag (p:=D4 d) (λh=>by have:=h.2.2.1;rw[z B]at this;exact hu this);have a6:((0:Int)==d.used)=false:=by simp[hu]
  clear hu;go_wp2;go_ret;exact⟨ql g,t⟩
 have H:8<=d.x/\d.x<=4000/\Hb d.x:=l.resolve_left E;have W:((d.x:Int)!=0)=true:=by simp[E]
 have F:¬(d.x:Int)<8:=om;have ao:=H.2.1;have a7:¬(4000:Int)<d.x:=om;have P:=O<|(YJ H.2.1).2 H.2.2;clear l E H;go_wp2_with (go_at_call 245;refine(Kz d.x ao _).mono ?_;rintro e w1 ⟨rfl,rfl⟩;rw[z P]);go_loopw [4,31] (λu i wr=>∃k:Nat,k<=d.x/\i=J k/\u=J (BS d k)/\(∀j,j<k->Gl d j)/\w.heap.size<wr.heap.size/\wr.cell? (y w 0)=some (.slice la d.n lc)/\wr.cell? (y w 1)=some (.slice ia d.m ic)/\wr.cell? (y w 2)=some (.slice xa d.x xc)/\wr.cell? (y w 3)=some (J d.used)/\wr.cell? (y w 4)=some (J d.live)/\wr.cell? (y w 5)=some (J d.turns)/\B9 w wr) λ_ i _=>d.x-(intOf i).toNat
 .exact⟨0,om,rfl,rfl,λj hj=>om,oq,oe,oe,oe,oe,oe,oe,A _⟩
 obtain⟨k,hk,rfl,rfl,M,f,c0,c1,c2,c3,c4,c5,hb⟩:=hrel;have a8:=R4 d k;have r:=O M;clear M;by_cases Q:k<d.x
 case neg=>
  have ad:k=d.x:=om;subst ad;have t:=O hb;clear hb;by_cases h1:(BS d d.x:Int)=d.used
  case neg=>
   have g:=O<|Ag (p:=D4 d) λh=>h1 h.2.2.1;have F:((BS d d.x:Int)==d.used)=false:=by simp[h1]
   clear h1;go_wp2;go_ret;exact⟨ql g,t⟩
  have F:((BS d d.x:Int)==d.used)=true:=by simp[h1]
  by_cases h2:2*BS d d.x<=d.x
  .have g:=O<|Al (p:=D4 d) ⟨aj,r,h1,h2⟩;have aq:decide (2*(BS d d.x:Int)<=d.x)=true:=ot;clear h1 h2;go_wp2;go_ret;exact⟨by rw[z g];simp,t⟩
  have g:=O<|Ag (p:=D4 d) λh=>h2 h.2.2.2;have aq:decide (2*(BS d d.x:Int)<=d.x)=false:=ot;clear h1 h2;go_wp2;go_ret;exact⟨by rw[z g];simp,t⟩
 obtain⟨b,off,ar,au,hcs⟩:=HD.index.resolve_left om;subst ar;rcases o7 hb au (hcs k Q),O hb,O<|HD.below hb,hb.size with⟨e0,t,R,s⟩;clear hcs hb;by_cases D:d.X k=0
 .have HO:Hid<|Gl d k:=O<|.inl D;have HU:Hid<|BS d (k+1)=BS d k:=O (by show(if d.X k=0 then _ else _)=_;rw[DD D]);rw[D]at e0;clear D;go_wp2;go_roundw
  .exact⟨k+1,om,ov,ql HU,λj hj=>(by by_cases e:j=k;exact e▸z HO;exact r j om),f,c0,c1,c2,c3,c4,c5,t⟩
  exact ow
 have HU:Hid<|BS d (k+1)=BS d k+1:=O (by show(if d.X k=0 then _ else _)=_;rw[C3 D]);by_cases S:d.X k=-1
 .have HO:Hid<|Gl d k:=O<|.inr<|.inl S;rw[S]at e0;clear D S;go_wp2;go_roundw
  .exact⟨k+1,om,ov,by rw[z HU];go_num,λj hj=>(by by_cases e:j=k;exact e▸z HO;exact r j om),f,c0,c1,c2,c3,c4,c5,t⟩
  exact ow
 have av:(d.X k==0)=false:=by simp[D]
 have aw:(d.X k==-1)=false:=by simp[S]
 by_cases hl:Iu d<|d.X k
 case neg=>
  have g:=O (PL Q (λh=>by
   rcases h with h|h|h
   .exact D h
   .exact S h
   exact hl ⟨om,h.2.1,h.2.2.1⟩))
  have HL:=O<|Ag hl;clear hl D S;go_wp2_with fail;refine qr wr ?_;refine N (h:=N (h:=?_));refine GS λK hK=>?_;go_simp;apply Exists.intro;refine qp (λw' a=>?_)<|hK _ ?_
  .refine((z HL)▸Ee lc ic xc (d.X k) (R.below a) HS).mono ?_;rintro e I ⟨rfl,hb⟩;exact⟨rfl,o9 a hb⟩
  clear hK K;refine N (h:=N (h:=?_));iterate 13 (go_big_quiet_step (fail))
  refine N (h:=?_);refine Hz ?_;intro w2 c;have C:=O<|t.trans<|c.mono s;clear c;go_wp2;go_ret;exact⟨ql g,C⟩
 have HL:=O<|Al hl;obtain⟨q,hq⟩:∃q:Nat,d.X k=(q:Int)+1:=⟨(d.X k-1).toNat,oT hl.1⟩;have ax:q<d.n:=oT hl.2.1;have hA:d.at (d.X k)=d.L q:=by unfold Dc.at;rw[hq];congr 1;omega
 have af:(d.L q).turn≠0:=hA▸hl.2.2;obtain⟨lb,lo,ay,ag,ah⟩:=HD.log.resolve_left om;subst ay;obtain⟨e1,e2,e3,e4,e5,_,_,_,_,_,_⟩:=(ah q ax).keep λq=>t.cell (p:=G lb q) ag;have bb:lb<wr.heap.size:=A0 ag s;have ai:Hid<|Gl d k↔¬AA d.m (d.L q).key:=O ⟨λh=>by
   rcases h with h|h|h
   .omega
   .omega
   rw[hA]at h;exact h.2.2.2,λh=>.inr (.inr ⟨om,om,by rw[hA];exact af,by rw[hA];exact h⟩)⟩
 rw[hq]at e0 av aw HL;have bc:IntKind.i64.wrap (q:Int)=q:=oj;clear ah hl D S hq hA af;by_cases v:AA d.m (d.L q).key
 .have g:=O<|PL Q λh=>ai.1 h v;have T:=O<|Al v;clear v;go_wp2_with fail;refine qr wr ?_;refine N (h:=N (h:=?_));refine GS λK hK=>?_;go_simp;apply Exists.intro;refine qp (λw' a=>?_)<|hK _ ?_
  .refine((z HL)▸Ee lc ic xc ((q:Int)+1) (R.below a) HS).mono ?_;rintro e I ⟨rfl,hb⟩;exact⟨rfl,o9 a hb⟩
  clear hK K;(iterate 12 refine N (h:=?_));refine N (h:=N (h:=?_));refine GS λK hK=>?_;go_simp;apply Exists.intro;refine qp (λw' a=>?_)<|hK _ ?_
  .refine((z T)▸Cr (d.L q).key d.m _ hm).mono ?_;rintro e I ⟨rfl,hb⟩;exact⟨rfl,o9 a hb⟩
  clear hK K;refine N (h:=?_);refine Hz ?_;intro w2 c;have C:=t.trans<|c.mono s;clear c;go_wp2;go_ret;exact⟨ql g,C⟩
 have HO:Hid<|Gl d k:=O<|ai.2 v;have T:=O<|Ag v;clear v;go_wp2_with fail;refine qr wr ?_;refine N (h:=N (h:=?_));refine GS λK hK=>?_;go_simp;apply Exists.intro;refine qp (λw' a=>?_)<|hK _ ?_
 .refine((z HL)▸Ee lc ic xc ((q:Int)+1) (R.below a) HS).mono ?_;rintro e I ⟨rfl,hb⟩;exact⟨rfl,o9 a hb⟩
 clear hK K;(iterate 12 refine N (h:=?_));refine N (h:=N (h:=?_));refine GS λK hK=>?_;go_simp;apply Exists.intro;refine qp (λw' a=>?_)<|hK _ ?_
 .refine((z T)▸Cr (d.L q).key d.m _ hm).mono ?_;rintro e I ⟨rfl,hb⟩;exact⟨rfl,o9 a hb⟩
 clear hK K;refine N (h:=?_);refine Hz ?_;intro w2 c;have C:=O<|t.trans<|c.mono s;have ae:w.heap.size<w2.heap.size:=A0 f c.size;rcases o7 c f c0,o7 c f c1,o7 c f c2,o7 c f c3,o7 c f c4,o7 c f c5 with⟨g0,g1,g2,g3,g4,g5⟩;clear c c0 c1 c2 c3 c4 c5;go_wp2;go_roundw
 .exact⟨k+1,om,ov,by rw[z HU];go_num,λj hj=>(by by_cases e:j=k;exact e▸z HO;exact r j om),ae,g0,g1,g2,g3,g4,g5,C⟩
 exact ow
end
section
open Go.RowKit Go.Shelf
attribute [local go_sem] AB Aw CU
def zO x w:(Instr.index 306 (.agg #[.func (.func 238) #[x] #[],.func (.func 239) #[x] #[],.func (.func 240) #[x] #[],.func (.func 241) #[x] #[],.func (.func 242) #[x] #[]])<|J 0).run prog w=.ok (.func (.func 238) #[x] #[]) w:=ou
def zP x w:(Instr.index 306 (.agg #[.func (.func 238) #[x] #[],.func (.func 239) #[x] #[],.func (.func 240) #[x] #[],.func (.func 241) #[x] #[],.func (.func 242) #[x] #[]])<|J 1).run prog w=.ok (.func (.func 239) #[x] #[]) w:=ou
def zQ x w:(Instr.index 306 (.agg #[.func (.func 238) #[x] #[],.func (.func 239) #[x] #[],.func (.func 240) #[x] #[],.func (.func 241) #[x] #[],.func (.func 242) #[x] #[]])<|J 2).run prog w=.ok (.func (.func 240) #[x] #[]) w:=ou
def zR x w:(Instr.index 306 (.agg #[.func (.func 238) #[x] #[],.func (.func 239) #[x] #[],.func (.func 240) #[x] #[],.func (.func 241) #[x] #[],.func (.func 242) #[x] #[]])<|J 3).run prog w=.ok (.func (.func 241) #[x] #[]) w:=ou
def zS x w:(Instr.index 306 (.agg #[.func (.func 238) #[x] #[],.func (.func 239) #[x] #[],.func (.func 240) #[x] #[],.func (.func 241) #[x] #[],.func (.func 242) #[x] #[]])<|J 4).run prog w=.ok (.func (.func 242) #[x] #[]) w:=ou
def Pg(p:EJ T){la:Option Addr}lc{ia:Option Addr}ic{xa:Option Addr}xc{d}H{w:Y}(A:T w)(hD:FJ w la ia xa d)(B:Small d)(C:∀i,i<d.n->Ch (d.L i).key=true->Qt T (d.L i).key (H i)):
  C9 235 #[Dv la lc ia ic xa xc d] w (R9 (J<|BI d H) w):=by
 rcases O p,O A,O hD,O B,O C with⟨q,D,v,r,E⟩;clear p A hD B C;go_enter func235,ntmps235;go_wp2_with fail;obtain⟨u,hu⟩:=qa<|((w.alloc<|.cells #[.slice la d.n lc,.slice ia d.m ic,.slice xa d.x xc,J d.used,J d.live,J d.turns] 69).alloc<|.cells #[.slice la d.n lc,.slice ia d.m ic,.slice xa d.x xc,J d.used,J d.live,J d.turns] 305).alloc<|.cells #[.func (.func 238) #[Dv la lc ia ic xa xc d] #[],.func (.func 239) #[Dv la lc ia ic xa xc d] #[],.func (.func 240) #[Dv la lc ia ic xa xc d] #[],.func (.func 241) #[Dv la lc ia ic xa xc d] #[],.func (.func 242) #[Dv la lc ia ic xa xc d] #[]] 306;rw[<-hu];have s:Hid<|B9 w u:=O (by rw[hu];exact((n9).alloc oq _).alloc ot _);clear hu;rcases zO (Dv la lc ia ic xa xc d),zP<|Dv la lc ia ic xa xc d,zQ<|Dv la lc ia ic xa xc d,zR<|Dv la lc ia ic xa xc d,zS (Dv la lc ia ic xa xc d) with⟨i0,I,i2,i3,i4⟩;go_loopw [21] (λi wr=>(i=J 0/\B9 w wr)\/(i=J 1/\D1 d/\B9 w wr)\/(i=J 2/\D1 d/\D2 d/\B9 w wr)\/(i=J 3/\D1 d/\D2 d/\D3 d/\B9 w wr)\/(i=J 4/\D1 d/\D2 d/\D3 d/\D4 d/\B9 w wr)\/(i=J 5/\D1 d/\D2 d/\D3 d/\D4 d/\D5 d H/\B9 w wr)) λi _=>5-(intOf i).toNat
 .exact .inl ⟨rfl,s⟩
 clear s;rcases hrel with⟨rfl,hb⟩|⟨rfl,h1,hb⟩|⟨rfl,h1,h2,hb⟩|⟨rfl,h1,h2,h3,hb⟩|⟨rfl,h1,h2,h3,h4,hb⟩|⟨rfl,h1,h2,h3,h4,h5,hb⟩
 .have k:=O hb;have a:=Qy la lc ia ic xa xc wr r;have l:=O a;clear hb a;go_wp2_with fail;refine l.mono ?_;rintro e w2 ⟨rfl,b⟩;have c:=O<|o9 k b;clear b l;by_cases hh:D1 d
  .rw[Al hh];have h:=O hh;clear hh;go_wp2_with fail;go_roundw
   .exact .inr (.inl ⟨rfl,h,c⟩)
   simp[intOf]
  rw[Ag hh];have f:=O<|SF (H:=H) hh;clear hh;go_wp2_with fail;go_ret;exact⟨ql f,c⟩
 .have k:=O hb;have a:=Ta lc ic xc (v.below hb) r;have l:=O a;have g:=O h1;clear hb a h1;go_wp2_with fail;refine l.mono ?_;rintro e w2 ⟨rfl,b⟩;have c:=O<|o9 k b;clear b l;by_cases hh:D2 d
  .rw[Al hh];have h:=O hh;clear hh;go_wp2_with fail;go_roundw
   .exact .inr (.inr<|.inl ⟨rfl,g,h,c⟩)
   simp[intOf]
  rw[Ag hh];have f:=O<|SG (H:=H) g hh;clear hh;go_wp2_with fail;go_ret;exact⟨ql f,c⟩
 .have k:=O hb;have a:=SW lc ic xc (v.below hb) r h2;rcases O a,O h1,O h2 with⟨l,g,j⟩;clear hb a h1 h2;go_wp2_with fail;refine l.mono ?_;rintro e w2 ⟨rfl,b⟩;have c:=O<|o9 k b;clear b l;by_cases hh:D3 d
  .rw[Al hh];have h:=O hh;clear hh;go_wp2_with fail;go_roundw
   .exact .inr (.inr<|.inr<|.inl ⟨rfl,g,j,h,c⟩)
   simp[intOf]
  rw[Ag hh];have f:=O<|SH (H:=H) g j hh;clear hh;go_wp2_with fail;go_ret;exact⟨ql f,c⟩
 .have k:=O hb;have a:=Ph lc ic xc (v.below hb) r h2;rcases O a,O h1,O h2,O h3 with⟨l,g,j,o⟩;clear hb a h1 h2 h3;go_wp2_with fail;refine l.mono ?_;rintro e w2 ⟨rfl,b⟩;have c:=O<|o9 k b;clear b l;by_cases hh:D4 d
  .rw[Al hh];have h:=O hh;clear hh;go_wp2_with fail;go_roundw
   .exact .inr (.inr<|.inr<|.inr<|.inl ⟨rfl,g,j,o,h,c⟩)
   simp[intOf]
  rw[Ag hh];have f:=O<|SI (H:=H) g j o hh;clear hh;go_wp2_with fail;go_ret;exact⟨ql f,c⟩
 .have k:=O hb;have a:=NG q lc ic xc H (q _ _ D hb) (v.below hb) r h2 h3 h4 λi hi F=>E i hi (h2.pos hi F).2;rcases O a,O h1,O h2,O h3,O h4 with⟨l,g,j,o,t⟩;clear hb a h1 h2 h3 h4;go_wp2_with fail;refine l.mono ?_;rintro e w2 ⟨rfl,b⟩;have c:=O<|o9 k b;clear b l;by_cases hh:D5 d H
  .rw[Al hh];have h:=O hh;clear hh;go_wp2_with fail;go_roundw
   .exact .inr (.inr<|.inr<|.inr<|.inr<|⟨rfl,g,j,o,t,h,c⟩)
   simp[intOf]
  rw[Ag hh];have f:=O<|SK (H:=H) g j o t hh;clear hh;go_wp2_with fail;go_ret;exact⟨ql f,c⟩
 have k:=O hb;have f:=O<|N2 (H:=H) h1 h2 h3 h4 h5;clear hb h1 h2 h3 h4 h5;go_wp2_with fail;go_ret;exact⟨ql f,k⟩
end
namespace Fl
open Ieee
def PI(B:Nat)(E:1074<=B)(neg)(a)(place)(m)(p)(n:a≠0)(v:-(B:Int)<=place)(w:m<2^53)(x:-1074<=p)(A:p<=971)
  (g:a*2^(place+(B)).toNat=m*2^(p+(B:Int)).toNat):
  ∃q l,double.read (double.nearest neg a place)=.number neg q l/\-1074<=l/\l<=971/\q*2^(l+(B:Int)).toNat=a*2^(place+(B:Int)).toNat:=by
 have hl:double.leastPlace=-1074:=oo;have hf:double.fractionBits=52:=rfl;have i:m≠0:=by
  intro e;subst e;have:=Of (place+(B:Int)).toNat;rw[Nat.zero_mul]at g;rcases Nat.mul_eq_zero.1 g with h|h<;>omega
 have t:a.log2+(place+(B:Int)).toNat=m.log2+(p+(B:Int)).toNat:=by
  rw[<-DG a _ n,<-DG m _ i,g]
 have u:m.log2<=52:=by
  have:=(Nat.log2_lt i).2 w;omega
 rw[Format.nearest,C3 n];dsimp only;rw[hf];obtain⟨last,b⟩:∃last:Int,last=max (place+↑a.log2-((52:Nat):Int)) double.leastPlace:=⟨_,rfl⟩;rw[<-b];have l1:-1074<=last:=om;have l2:last<=971:=om;obtain⟨kept,hk,k⟩:∃kept,Toward.even.cut neg (a <<< (place-last).toNat) (last-place).toNat=kept/\kept*2^(last+(B:Int)).toNat=a*2^(place+(B:Int)).toNat:=by
  by_cases hc:last<=place
  .refine⟨_,rfl,?_⟩;have e0:(last-place).toNat=0:=om;rw[e0,G3,Nat.shiftLeft_eq,So,<-Aaq];congr 2;omega
  .have e0:(place-last).toNat=0:=om;rw[e0,Nat.shiftLeft_zero];obtain⟨d,C⟩:=qa<|(last-place).toNat;rw[<-C];have o:d<=a.log2+2:=om;have j:∃q,a=q*2^d:=by
    obtain⟨c,D⟩:=qa<|(p-place).toNat;have e1:(p+(B:Int)).toNat=c+(place+(B:Int)).toNat:=om;rw[e1,Aaq,<-So]at g;have e2:=W9 (Of _) g;refine⟨m*2^(c-d),?_⟩;rw[e2,So,<-Aaq];congr 2;omega
   obtain⟨q,hq⟩:=j;refine⟨q,?_,?_⟩
   .unfold Toward.cut;dsimp only;rw[Nat.min_eq_left o,Nat.one_shiftLeft];have r:=Of d;have m1:a/2^d=q:=by rw[hq];exact Nat.mul_div_cancel _ r
    have m2:a%2^d=0:=by rw[hq];exact Nat.mul_mod_left _ _
    simp[m1,m2]
   rw[hq,So,<-Aaq];congr 2;omega
 rw[hk];have f:kept≠0:=by
  intro e;subst e;have:=Of (place+(B:Int)).toNat;rw[Nat.zero_mul]at k;rcases Nat.mul_eq_zero.1 k.symm with h|h<;>omega
 have s:kept.log2+(last+(B:Int)).toNat=a.log2+(place+(B:Int)).toNat:=by
  rw[<-DG a _ n,<-DG kept _ f,k]
 have k1:kept<2^53:=by
  apply(Nat.log2_lt f).1;omega
 have k2:last=-1074\/2^52<=kept:=by
  by_cases h:last=-1074
  .exact .inl h
  right;exact(Nat.le_log2 f).1 om
 exact⟨kept,last,MR neg kept last l1 l2 k1 k2,l1,l2,k⟩
def PH(B:Nat)(g:1074<=B){x Z}{s t}{m n}{i j}(k:double.read x=.number s m i)(hy:double.read Z=.number t n j)(o:m*n≠0)(b:-(B)<=i+j)
  (a) p (u:a<2^53) (d:-1074<=p) (e:p<=971) (f:(m*n)*2^(i+j+(B)).toNat=a*2^(p+(B:Int)).toNat):
  ∃r q l,floatBits .mul .f64 x Z=some r/\double.read r=.number (s^^t) q l/\-1074<=l/\l<=971/\q*2^(l+1074).toNat=a*2^(p+1074).toNat:=by
 obtain⟨q,l,h1,h2,h3,h4⟩:=PI B g (s^^t) (m*n) (i+j) a p o b u d e f;refine⟨double.nearest (s^^t) (m*n)<|i+j,q,l,?_,h1,h2,h3,?_⟩
 .show((double.read x).product<|double.read Z).map double.write=_;rw[k,hy];rfl
 have h:=h4.trans f;obtain⟨c,hc⟩:∃c:Nat,B=1074+c:=⟨B-1074,om⟩;have e1:(l+(B:Int)).toNat=(l+1074).toNat+c:=om;have e2:(p+(B:Int)).toNat=(p+1074).toNat+c:=om;rw[e1,e2,Aaq,Aaq,<-So,<-So]at h;exact W9 (Of c) h
def St(x m:Nat)(p:Int):Prop:=∃q l,double.read x=.number false q l/\-1074<=l/\l<=971/\q<2^53/\q*2^(l+1074).toNat=m*2^(p+1074).toNat
theorem pX{r}{l}(h1:double.read r=.number false q l)(h2:-1074<=l)(h3:l<=971)(h4:q*2^(l+1074).toNat=m*2^(p+1074).toNat):St r m p:=by
 rcases CB r with⟨s,b,i,a,_,_,c,_⟩|⟨s,a⟩|⟨s,t,a⟩
 all_goals grind [St]
def MX(h:St x m p)(a:m≠0):∃q l,double.read x=.number false q l/\-1074<=l/\l<=971/\q<2^53/\q≠0/\q*2^(l+1074).toNat=m*2^(p+1074).toNat:=by
 obtain⟨q,l,h1,h2,h3,h4,h5⟩:=h;refine⟨q,l,h1,h2,h3,h4,?_,h5⟩;intro e;subst e;rw[Nat.zero_mul]at h5;have:=Of (p+1074).toNat;rcases Nat.mul_eq_zero.1 h5.symm with h|h<;>omega
def pw q a b:q*2^a*2^b=q*2^(a+b):=by rw[So,<-Aaq]
def aQ(h:St x m p)(b:m≠0)(a:m<2^53)(hp:-1074<=p)(c:p<=970):∃r,floatBits .mul .f64 x 4611686018427387904=some r/\St r m (p+1):=by
 obtain⟨q,l,h1,h2,h3,h4,h5,d⟩:=MX h b;obtain⟨r,e,f,a1,a2,a3,a4,a5⟩:=PH 1200 om h1 iE om om m (p+1) a om om (by
  have e1:(l+-51+((1200:Nat):Int)).toNat=(l+1074).toNat+75:=om;have e2:(p+1+((1200:Nat):Int)).toNat=(p+1074).toNat+127:=om;rw[e2,<-pw m,<-d,<-lL,pw,pw];congr 2;omega)
 grind [pX]
def YQ(h:St x m p)(b:m≠0)(a:m<2^53)(hp:-1073<=p)(c:p<=972):∃r,floatBits .mul .f64 x 4602678819172646912=some r/\St r m (p-1):=by
 obtain⟨q,l,h1,h2,h3,h4,h5,d⟩:=MX h b;obtain⟨r,e,f,a1,a2,a3,a4,a5⟩:=PH 1200 om h1 aG om om m (p-1) a om om (by
  have e1:(l+-53+((1200:Nat):Int)).toNat=(l+1074).toNat+73:=om;have e2:(p-1+((1200:Nat):Int)).toNat=(p+1074).toNat+125:=om;rw[e2,<-pw m,<-d,<-lL,pw,pw];congr 2;omega)
 grind [pX]
theorem jL{r}(h:St x m p)(k:St Z n r):double.order x Z=some (compare ((m*2^(p+1074).toNat:Nat):Int) ((n*2^(r+1074).toNat:Nat):Int)):=by
 obtain⟨q,l,h1,h2,_,_,a⟩:=h;obtain⟨c,d,k1,k2,_,_,b⟩:=k;rw[BR h1 k1 h2 k2,Cw,Cw,a,b]
def Yk(h:St x m p)(o:m≠0):∃r,floatBits .mul .f64 x 4602678819172646912=some r/\(double.order r x==some .eq)=false:=by
 obtain⟨q,l,h1,h2,h3,h4,h5,u⟩:=MX h o;have hs:St x q l:=⟨q,l,h1,h2,h3,h4,rfl⟩;have fin:∀r n k,-1074<=k->floatBits .mul .f64 x 4602678819172646912=some r->St r n k->n*2^(k+1074).toNat<q*2^(l+1074).toNat->∃r,floatBits .mul .f64 x 4602678819172646912=some r/\(double.order r x==some .eq)=false:=by
  intro r n k _ d a s;refine⟨r,d,?_⟩;grind [jL a hs,G0,St]
 by_cases hl:-1073<=l
 .obtain⟨r,d,a⟩:=YQ hs h5 h4 hl om;refine fin r q (l-1) om d a ?_;have e:(l+1074).toNat=(l-1+1074).toNat+1:=om;rw[e,<-pw];have:0<q*2^(l-1+1074).toNat:=Nat.mul_pos om<|Of _;omega
 .have f:l=-1074:=om;subst f;have hz:((-1074:Int)+1074).toNat=0:=oo;refine⟨double.nearest (false^^false) (q*4503599627370496) (-1074+-53),?_,?_⟩
  .show((double.read x).product<|double.read 4602678819172646912).map double.write=_;rw[h1];rfl
  have hq:q*4503599627370496≠0:=om;have c:(q*4503599627370496).log2=q.log2+52:=by
   have:=DG q 52 h5;rw[lL]at this;exact this
  have j:=(Nat.log2_lt h5).2 h4;have key:double.read (double.nearest (false^^false) (q*4503599627370496) (-1074+-53))=.number false (q/2+(decide (q%2=1)&&(q/2%2==1)).toNat) (-1074):=by
   rw[Format.nearest,C3 hq];dsimp only;have hf:double.fractionBits=52:=rfl;have g:double.leastPlace=-1074:=oo;rw[hf,g,c];have b:max (-1074+-53+((q.log2+52:Nat):Int)-((52:Nat):Int)) (-1074)=-1074:=om;rw[b];have hcut:Toward.even.cut (false^^false) ((q*4503599627370496) <<< (-1074+-53- -1074:Int).toNat) (-1074-(-1074+-53):Int).toNat=q/2+(decide (q%2=1)&&(q/2%2==1)).toNat:=by
    rw[show(-1074+-53- -1074:Int).toNat=0 from by decide,show(-1074-(-1074+-53):Int).toNat=53 from by decide,Nat.shiftLeft_zero];unfold Toward.cut;dsimp only;rw[Nat.min_eq_left om,Nat.one_shiftLeft];have d1:q*4503599627370496/9007199254740992=q/2:=om;have d2:q*4503599627370496%9007199254740992=q%2*4503599627370496:=om;rw[d1,d2];have hb:q%2=0\/q%2=1:=om;rcases hb with h|h<;>simp[h]
   rw[hcut];have i:=MR (false^^false) (q/2+(decide (q%2=1)&&(q/2%2==1)).toNat) (-1074) om om (by
    have:(decide (q%2=1)&&(q/2%2==1)).toNat<=1:=Bool.toNat_le _;omega) (.inl rfl)
   exact i
  rw[BR key h1 om om,Cw,Cw,hz,Nat.mul_one,Nat.mul_one];have t:q/2+(decide (q%2=1)&&(q/2%2==1)).toNat≠q:=by
   by_cases h1:q=1
   .subst h1;decide
   have:(decide (q%2=1)&&(q/2%2==1)).toNat<=1:=Bool.toNat_le _;have hb:q%2=0\/q%2=1:=om;rcases hb with h|h
   .have:(decide (q%2=1)&&(q/2%2==1)).toNat=0:=by simp[h]
    omega
   omega
  grind
end Fl
def Zq x q l(a:Ieee.double.read x=.number false q l)(hl:-1074<=l)(i:l<=971)(hq:q<2^53):
  ∃r,(O9 x r==some .eq)=Qq x/\∀w,C9 107 #[F9 x] w λe w'=>e=.returned (F9 r)/\w'=w:=by
 by_cases f:My x=true
 .refine⟨x,?_,λw=>O8 w f⟩;have e:(O9 x x==some .eq)=true:=by
   show(Ieee.double.order x x==some .eq)=true;rw[Fl.BR a a hl hl];simp
  have hn:C1 x=false:=by
   show(!(O9 x x==some .eq))=false;rw[e];rfl
  rw[e];by_cases b:TP x=true
  .have c:VR x=true:=by
    show(Ieee.double.order x 14114281232179134464==some .gt||Ieee.double.order x 14114281232179134464==some .eq)=true;rw[Fl.BR a Fl.Gq hl om,Fl.P0,Fl.KK,Fl.Cw];have:=Fl.M8;simp only[Bool.or_eq_true,decide_eq_true_eq];left;omega
   exact(KI f hn c b).symm
  have c:9223372036854775808*Fl.U<=Fl.sc false q l:=by
   have h:(Ieee.double.order x 4890909195324358656==some .lt)=false:=(by simpa using b:TP x=false);rw[Fl.BR a Fl.Hm hl om,Fl.PY,Fl.Jg]at h;simpa using h
  have j:Qq x=decide (Fl.sc false q l=Fl.sg false (Fl.whole q l)*Fl.U):=by unfold Qq;rw[a]
  rw[j];have hu:=Fl.M8;by_cases d:(Fl.whole q l:Int)*Fl.U=Fl.sc false q l
  .have e:Fl.sg false (Fl.whole q l)=(Fl.whole q l:Int):=rfl;rw[e,d];simp
  have hs:=Fl.NA q l hq d;have hb:=Fl.E8 q l hl;have:((Fl.whole q l:Int)+1)*Fl.U<=9223372036854775808*Fl.U:=Int.mul_le_mul_of_nonneg_right om om;omega
 have g:My x=false:=by simpa using f
 exact O7 g
def wh(m:Nat)(p:Int):Prop:=∃Z,m*2^(p+1074).toNat=Z*2^((0:Int)+1074).toNat
def mQ(h:Fl.St x m p):Qq x=true↔wh m p:=by
 obtain⟨q,l,h1,h2,h3,h4,a⟩:=h;have b:Qq x=decide (Fl.sc false q l=Fl.sg false (Fl.whole q l)*Fl.U):=by unfold Qq;rw[h1]
 have e:Fl.sg false (Fl.whole q l)=(Fl.whole q l:Int):=rfl;rw[b,decide_eq_true_eq,e];constructor
 .intro k;refine⟨Fl.whole q l,?_⟩;rw[<-a];have k':=k;rw[Fl.Cw,<-e,<-Fl.Ho,Fl.Cw]at k';exact Int.ofNat.inj k'
 rintro⟨Z,hN⟩;have:=Fl.Ql q l Z h2<|a.trans hN;rw[this,<-show Fl.sg false Z=(Z:Int)from rfl,<-Fl.Ho];exact Fl.RQ false q l Z 0<|a.trans hN
def bO m p(hp:0<=p):wh m p:=by
 refine⟨m*2^p.toNat,?_⟩;rw[Fl.pw];congr 2;omega
def Uh(h:Fl.St x m p):∃r,((O9 x r==some .eq)=true↔wh m p)/\∀w,C9 107 #[F9 x] w λe w'=>e=.returned (F9 r)/\w'=w:=by
 obtain⟨q,l,h1,h2,h3,h4,b⟩:=id h;obtain⟨r,a,hc⟩:=Zq x q l h1 h2 h3 h4;exact⟨r,by rw[a];exact mQ h,hc⟩
set_option exponentiation.threshold 2000 in
def tY(h:wh m p)(b:m≠0)(hp:-1073<=p)(hn:¬wh m (p-1)):∃M,m*2^(p+1074).toNat=(2*M+1)*2^((0:Int)+1074).toNat:=by
 obtain⟨Z,hN⟩:=h;by_cases a:Z%2=1
 .exact⟨Z/2,by rw[hN];congr 1;omega⟩
 exfalso;apply hn;refine⟨Z/2,?_⟩;have e:(p+1074).toNat=(p-1+1074).toNat+1:=om;rw[e,<-Fl.pw]at hN;grind
def tX(h:wh m p)(f:m≠0)(a:m<2^53)(hp:-1074<=p):-53<p:=by
 obtain⟨Z,hN⟩:=h;apply Int.lt_of_not_ge;intro b;have d:Z≠0:=by
  intro e;subst e;rw[Nat.zero_mul]at hN;have:=Of (p+1074).toNat;rcases Nat.mul_eq_zero.1 hN with h|h<;>omega
 obtain⟨c,hc⟩:∃c:Nat,((0:Int)+1074).toNat=(p+1074).toNat+(53+c):=⟨(-p).toNat-53,om⟩;rw[hc,Nat.add_comm (p+1074).toNat,<-Fl.pw]at hN;have h2:=W9 (Of _) hN;rw[Aaq,AaN (2^53),<-So]at h2;omega
def sO{i}{M}(h:m*2^(p+1074).toNat=(2*M+1)*2^((0:Int)+1074).toNat)(hp:-1074<=p):TW m i M<|i-p:=by
 by_cases a:0<=p
 .refine⟨p.toNat,0,?_,om⟩;rw[show(p+1074).toNat=p.toNat+((0:Int)+1074).toNat from by omega,<-Fl.pw]at h;rw[W9 (Of _) h];simp
 refine⟨0,(-p).toNat,?_,om⟩;rw[show((0:Int)+1074).toNat=(-p).toNat+(p+1074).toNat from by omega,<-Fl.pw]at h;rw[<-W9 (Of _) h];simp
def Pv x w(h:(O9 x x !=some .eq)=false):
  C9 106 #[F9 x] w λe w'=>e=.returned (.bool false)/\w'=w:=by
 go_enter func106,ntmps106;go_wp2;go_ret;exact⟨rfl,rfl⟩
def Uc(n:Nat)(b:0<n)(hn:n<9007199254740992)w:
  C9 180 #[J (-(n))] w (R9 (.string ⟨(45::Lib.decDigits n).toArray⟩) w):=by
 have hl:=O0 n om;have a:(0:Int)<(n:Int):=om;go_enter func180,ntmps180;go_wp2_with (go_at_call 180;refine m9 (Ng n hn _) λw1 hb=>?_);go_ret;refine⟨Ke ?_,hb⟩;exact CL [45] (Lib.decDigits n)
def Nf n(h1:-9007199254740992<n)(h2:n<9007199254740992)w:
  C9 180 #[J n] w (R9 (.string ⟨(Lib.itoa n).toArray⟩) w):=by
 by_cases h:n<0
 .obtain⟨k,rfl⟩:∃k:Nat,n=-(k:Int):=⟨n.natAbs,om⟩;have e:Lib.itoa (-(k:Int))=45::Lib.decDigits k:=by unfold Lib.itoa;rw[DD h];simp
  rw[e];exact Uc k om om w
 obtain⟨k,rfl⟩:∃k:Nat,n=(k:Int):=⟨n.toNat,om⟩;have e:Lib.itoa (k:Int)=Lib.decDigits k:=by unfold Lib.itoa;rw[C3 h];simp
 exact Ng k om w
def eK s M E:Lt s (2*M+1) E=(if s then[45]else[])++Lib.itoa ((2*M+1:Nat):Int)++[112]++Lib.itoa E:=by
 rw[Lt];cases s
 .simp[Fl.sg]
 have e1:Lib.itoa (Fl.sg true<|2*M+1)=45::Lib.decDigits (2*M+1):=by
  grind [Lib.itoa,Fl.sg,Lt]
 have e2:Lib.itoa ((2*M+1:Nat):Int)=Lib.decDigits (2*M+1):=by
  rw[Lib.itoa];rw[C3 om];rfl
 rw[e1,e2];simp
def RV(S)(x X m r0)(i)(w)(hy:X=cond S (Op.negFloat .f64 x) x)(ad:Fl.St X m i)(t:m≠0)(j:m<2^53)(hi:-1074<=i)(aj:i<=971)
  (g1:(O9 x x !=some .eq)=false) (g2:(O9 x 0==some .lt)=S) (g3:(O9 x 0==some .eq)=false) (g4:(O9 X 0==some .eq)=false)
  (A:floatBits .mul .f64 X 4602678819172646912=some r0) (g5:(O9 r0 X==some .eq)=false):
  C9 163 #[F9 x] w λe w'=>(∃M E,TW m i M E/\e=.returned (.string ⟨((cond S [45] [])++Lib.itoa ((2*M+1:Nat):Int)++[112]++Lib.itoa E).toArray⟩))/\B9 w w':=by
 have n:∀w:World,(binOp .mul 30 (F9 X)<|F9 4602678819172646912).run prog w=.ok (F9 r0) w:=λw=>AaA w .mul 30 .f64 _ _ r0 A;have B:∀w:World,(Op.unary .neg<|F9 x).run prog w=.ok (F9<|Op.negFloat .f64 x) w:=λ_=>rfl;have G1:Hid<|(O9 x x !=some .eq)=false:=g1;clear A;cases S;all_goals
  dsimp only[cond]at hy ⊢;have hy:=hy.symm;subst hy;go_enter func163,ntmps163;go_wp2_with (go_at_call 106;refine(Pv x _ G1.out).mono ?_;rintro e w1 ⟨rfl,rfl⟩);clear n B g1 g2 g3 g4 g5 G1
  go_loop [0,4] (λf e=>∃k v:Nat,k<=1074/\f=F9 v/\e=J (k:Int)/\Fl.St v m (i+k)/\i+k<=971) (λ_ e=>(-(i+intOf e)).toNat)
  case atStart=>exact⟨0,_,om,rfl,rfl,by simpa using ad,om⟩
  case round=>
   obtain⟨k,v,hk,rfl,rfl,hs,hb⟩:=hrel;obtain⟨r,a,hc⟩:=Uh hs;have u:Hid (∀w:World,C9 107 #[F9 v] w λe w'=>e=.returned (F9 r)/\w'=w):=hc;have C:Hid<|Fl.St v m<|i+k:=hs;clear hc hs;by_cases b:wh m (i+k)
   .have t1:(O9 v r !=some .eq)=false:=by simpa using a.2 b
    have T:Hid<|wh m<|i+k:=b;clear a b;go_wp2_with (go_at_call 107;refine(u.out _).mono ?_;rintro e w1 ⟨rfl,rfl⟩);clear t1
    go_loop [0,4] (λf e=>∃(v:Nat) (E:Int),f=F9 v/\e=J E/\Fl.St v m (i-E)/\wh m (i-E)/\i-E<=971) (λ_ e=>(i-intOf e+60).toNat)
    case atStart=>exact⟨v,-(k:Int),rfl,ov,by rw[show i- -(k:Int)=i+k from by omega];exact C.out,by rw[show i- -(k:Int)=i+k from by omega];exact T.out,om⟩
    case round=>
     clear u C T;obtain⟨v,E,rfl,rfl,hs,V,hb⟩:=hrel;have ai:=tX V t j (by
      obtain⟨Z,hN⟩:=V;apply Int.le_of_not_gt;intro ak;obtain⟨q,l,_,_,_,hq,F,W⟩:=Fl.MX hs t;have e0:(i-E+1074).toNat=0:=om;rw[e0,Nat.pow_zero,Nat.mul_one]at hN;have ao:Z≠0:=by intro e;subst e;omega
      have:1*2^((0:Int)+1074).toNat<=Z*2^((0:Int)+1074).toNat:=Aat _ om;have aq:2^53<=2^((0:Int)+1074).toNat:=AaD om oo;omega)
     have ar:-3000<E:=om;have au:E<3000:=om;obtain⟨h,d,o⟩:=Fl.YQ hs t j om om;have p:∀w:World,(binOp .mul 30 (F9 v)<|F9 4602678819172646912).run prog w=.ok (F9 h) w:=λw=>AaA w .mul 30 .f64 _ _ h d;obtain⟨r,a,hc⟩:=Uh o;have u:Hid (∀w:World,C9 107 #[F9 h] w λe w'=>e=.returned (F9 r)/\w'=w):=hc;have C:Hid<|Fl.St v m<|i-E:=hs;have T:Hid<|wh m<|i-E:=V;have HH:Hid<|Fl.St h m<|i-E-1:=o;clear hc hs o d V;by_cases b:wh m (i-E-1)
     .have t1:(O9 h r==some .eq)=true:=a.2 b;have ae:Hid<|wh m<|i-E-1:=b;clear a b;go_wp2_with (go_at_call 107;refine(u.out _).mono ?_;rintro e w1 ⟨rfl,rfl⟩)
      go_round
      case rel=>exact⟨h,E+1,rfl,ov,by rw[show i-(E+1)=i-E-1 from by omega];exact HH.out,by rw[show i-(E+1)=i-E-1 from by omega];exact ae.out,om⟩
      case measure=>exact ow
     have t1:(O9 h r==some .eq)=false:=by
      rw[Bool.eq_false_iff];intro k;exact b (a.1 k)
     obtain⟨M,hM⟩:=tY T.out t om b;have HO:Hid<|TW m i M E:=by
      have:=sO (i:=i) hM om;rw[show i-(i-E)=E from by omega]at this;exact this
     obtain⟨q,l,H,s,af,hq,F,W⟩:=Fl.MX C.out t;have g:=Fl.Ql q l (2*M+1) s<|W.trans hM;have I:2*M+1<9007199254740992:=by
      by_cases av:0<l
      .exfalso;unfold Fl.whole at g;rw[DD om]at g;obtain⟨c,hc⟩:∃c,l.toNat=c+1:=⟨l.toNat-1,om⟩;rw[hc,AaB,<-So]at g;omega
      have:Fl.whole q l<=q:=by
       unfold Fl.whole;split
       .have:l=0:=om;subst this;simp
       exact Nat.div_le_self _ _
      omega
     have ag:∀w:World,(convert 30 2<|F9 v).run prog w=.ok (J ((2*M+1:Nat):Int)) w:=by
      intro w;have K:Fl.sc false q l=((2*M+1:Nat):Int)*Fl.U:=by rw[Fl.RQ false q l (2*M+1) 0 (W.trans hM),Fl.Ho];rfl
      have hu:=Fl.M8;have:=Fl.L9 H s (by
       rw[K];have:(0:Int)<=((2*M+1:Nat):Int)*Fl.U:=Int.mul_nonneg om om;omega) (by
       rw[K];exact Int.mul_lt_mul_of_pos_right om hu)
      rw[g]at this;exact run_convert_float_int w 30 2 .f64 .i64 v _ ou underlying2 this
     clear a b W H g hM hq F s af;generalize L:2*M+1=D at ag I;have P:Hid<|2*M+1=D:=L;clear L;have aw:=AaX (D:Int) om om;have ax:=AaX E om om;go_wp2_with (go_at_call 107;refine(u.out _).mono ?_;rintro e w1 ⟨rfl,rfl⟩);refine m9 (Nf (D:Int) om om _) λw2 Q=>?_;go_wp2_with fail
     refine m9 (Nf E om om _) λw3 ah=>?_;go_wp2_with fail
     go_ret;refine⟨⟨M,E,HO.out,Ke ?_⟩,o9 Q ah⟩;have e0:(⟨#[]⟩:ByteArray)++⟨(Lib.itoa (D:Int)).toArray⟩=⟨(Lib.itoa (D:Int)).toArray⟩:=CL [] _;first|(rw[P.out,e0,CL,CL];rfl)|(rw[P.out,CL,CL,CL];simp)
   have t1:(O9 v r !=some .eq)=true:=by
    rw[bne_iff_ne];intro e;apply b;apply a.1;rw[e];rfl
   have ay:i+k<0:=by
    apply Int.lt_of_not_ge;intro h;exact b (bO m _ h)
   obtain⟨v2,d,R⟩:=Fl.aQ C.out t j om om;have p:∀w:World,(binOp .mul 30 (F9 v)<|F9 4611686018427387904).run prog w=.ok (F9 v2) w:=λw=>AaA w .mul 30 .f64 _ _ v2 d;have H2:Hid<|Fl.St v2 m<|i+k+1:=R;clear a b d R;go_wp2_with (go_at_call 107;refine(u.out _).mono ?_;rintro e w1 ⟨rfl,rfl⟩)
   go_round
   case rel=>exact⟨k+1,v2,om,rfl,ov,by rw[show i+((k+1:Nat):Int)=i+k+1 from by omega];exact H2.out,om⟩
   case measure=>exact ow
def EE(x:Nat):List UInt8:=match Ieee.double.read x with
 |.infinity s=>(if s then[45]else[])++[105,110,102]
 |.number s m i=>Lt s (2*(m/2^Lib.ctz 64 m/2)+1)<|i+Lib.ctz 64 m
 |_=>[]
def U0 m i(a:m≠0)(b:m<2^53):TW m i (m/2^Lib.ctz 64 m/2)<|i+Lib.ctz 64 m:=by
 obtain⟨M,h1,_⟩:=Fl.OX false m om b;have e:Fl.uw false m=m:=rfl;rw[e]at h1;refine⟨0,Lib.ctz 64 m,?_,om⟩;generalize Lib.ctz 64 m=t at h1;have:m/2^t=2*M+1:=by rw[h1];exact Nat.mul_div_cancel_left _<|Of t
 rw[this,show 2*((2*M+1)/2)+1=2*M+1 from by omega,Nat.mul_one,AaN];exact h1
def ZF x w(h:(O9 x 9218868437227405311==some .gt)=true):
  C9 166 #[F9 x] w λe w'=>e=.returned (.string ⟨#[105,110,102]⟩)/\w'=w:=by
 have H:Hid<|(O9 x 9218868437227405311==some .gt)=true:=h;clear h;go_enter func166,ntmps166;go_wp2_with fail;refine(MD x _).mono ?_;rintro e w1 ⟨rfl,rfl⟩;rw[H.out];go_wp2_with fail;go_ret;exact⟨rfl,rfl⟩
def WI x w(h:(O9 x 9218868437227405311==some .gt)=false)(h2:(O9 (Op.negFloat .f64 x) 9218868437227405311==some .gt)=true):
  C9 166 #[F9 x] w λe w'=>e=.returned (.string ⟨#[45,105,110,102]⟩)/\w'=w:=by
 have H:Hid<|(O9 x 9218868437227405311==some .gt)=false:=h;have a:Hid<|(O9 (Op.negFloat .f64 x) 9218868437227405311==some .gt)=true:=h2;clear h h2;go_enter func166,ntmps166;go_wp2_with fail;refine(MD x _).mono ?_;rintro e w1 ⟨rfl,rfl⟩;rw[H.out];go_wp2_with fail;refine(Rs x _).mono ?_;rintro e w1 ⟨rfl,rfl⟩;rw[a.out];go_wp2_with fail;go_ret;exact⟨rfl,rfl⟩
def aT(x r0)(w)
  (g1:(O9 x x !=some .eq)=false) (g2:(O9 x 0==some .lt)=false) (g3:(O9 x 0==some .eq)=false)
  (a:floatBits .mul .f64 x 4602678819172646912=some r0) (g5:(O9 r0 x==some .eq)=true):
  C9 163 #[F9 x] w λe w'=>e=.returned (.string ⟨#[105,110,102]⟩)/\w'=w:=by
 have b:∀w:World,(binOp .mul 30 (F9 x)<|F9 4602678819172646912).run prog w=.ok (F9 r0) w:=λw=>AaA w .mul 30 .f64 _ _ r0 a;have c:Hid<|(O9 x x !=some .eq)=false:=g1;clear a;go_enter func163,ntmps163;go_wp2_with (go_at_call 106;refine(Pv x _ c.out).mono ?_;rintro e w1 ⟨rfl,rfl⟩);go_ret;exact⟨Ke<|CL [] _,rfl⟩
def XB(x r0)(w)
  (g1:(O9 x x !=some .eq)=false) (g2:(O9 x 0==some .lt)=true) (g4:(O9 (Op.negFloat .f64 x) 0==some .eq)=false)
  (a:floatBits .mul .f64 (Op.negFloat .f64 x) 4602678819172646912=some r0) (g5:(O9 r0 (Op.negFloat .f64 x)==some .eq)=true):
  C9 163 #[F9 x] w λe w'=>e=.returned (.string ⟨#[45,105,110,102]⟩)/\w'=w:=by
 have b:∀w:World,(binOp .mul 30 (F9<|Op.negFloat .f64 x)<|F9 4602678819172646912).run prog w=.ok (F9 r0) w:=λw=>AaA w .mul 30 .f64 _ _ r0 a;have c:∀w:World,(Op.unary .neg<|F9 x).run prog w=.ok (F9<|Op.negFloat .f64 x) w:=λ_=>rfl;have d:Hid<|(O9 x x !=some .eq)=false:=g1;clear a;go_enter func163,ntmps163;go_wp2_with (go_at_call 106;refine(Pv x _ d.out).mono ?_;rintro e w1 ⟨rfl,rfl⟩);go_ret;exact⟨Ke<|CL [45] [105,110,102],rfl⟩
def Ux(a:Ieee.double.read x=.infinity false):∃r0,floatBits .mul .f64 x 4602678819172646912=some r0/\(Ieee.double.order r0 x==some .eq)=true:=by
 refine⟨Ieee.double.write<|.infinity<|false^^false,?_,?_⟩
 .show((Ieee.double.read x).product<|Ieee.double.read 4602678819172646912).map Ieee.double.write=_;rw[a];rfl
 rw[Ieee.Format.order];have:Ieee.double.read (Ieee.double.write<|.infinity<|false^^false)=.infinity false:=oo;rw[a];rfl
def Qb{i}(h:Fl.St Z m i)(b:m≠0):(O9 Z 0==some .eq)=false/\(O9 Z 0==some .lt)=false/\(O9 Z Z !=some .eq)=false:=by
 obtain⟨q,l,h1,h2,h3,h4,h5,c⟩:=Fl.MX h b;have a:(0:Int)<((q*2^(l+1074).toNat:Nat):Int):=Int.ofNat_lt.2<|Nat.mul_pos om<|Of _;refine⟨?_,?_,?_⟩
 .show(Ieee.double.order Z 0==some .eq)=false;rw[Fl.BR h1 Fl.CD h2 om,Fl.G0,Fl.EA,Fl.Cw];simp only[decide_eq_false_iff_not];omega
 .show(Ieee.double.order Z 0==some .lt)=false;rw[Fl.BR h1 Fl.CD h2 om,Fl.Jg,Fl.EA,Fl.Cw];simp only[decide_eq_false_iff_not];omega
 show(!(Ieee.double.order Z Z==some .eq))=false;rw[Fl.BR h1 h1 h2 h2];simp
end Go.Proofs.YtkpfgniijbgkoaaGreatDoor
