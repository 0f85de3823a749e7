import Derived.Test.YtgmlkfgfjjggnaaGreatDoorSEAG
set_option linter.all false
set_option maxHeartbeats 40000000
set_option maxRecDepth 100000
namespace Go.Proofs.YtgmlkfgfjjggnaaGreatDoor
open Go.Proofs.Tryz
open Go.RowKit
attribute [local go_sem] AA Aw Cl
noncomputable def Sf(x:Tb):Int:=if x.shape=-1 then Fx x.d else 0
def RH(x:Tb):Int:=if x.shape=-1 then x.d.live else x.nv
theorem Kx(p:Nat)(A:Ad)(t:Tb)(w:Y):C9 344 #[B4 p A t] w (R9 (J 0) w):=by
 go_enter func344,ntmps344
 go_wp2;go_ret;exact⟨rfl,n9⟩
theorem Lv(p:Nat)(A:Ad)(t:Tb)(w:Y):C9 341 #[B4 p A t] w (R9 (J (t.nv:Int)) w):=by
 go_enter func341,ntmps341
 go_wp2;go_ret;exact⟨rfl,n9⟩
theorem J0(A:Ad)(t:Tb)(w:Y):C9 348 #[IJ A t] w (R9 (J t.d.live) w):=by
 go_enter func348,ntmps348
 go_wp2;go_ret;exact⟨rfl,n9⟩
theorem Jn(A:Ad)(t:Tb)(w:Y)(f:A8 w)(hA:Gy w A.la A.ia A.xa t.d)(g:Small t.d)(a:Rp t.d)(h:CE t.d (hD t.d)=0):C9 351 #[IJ A t] w (R9 (J (Fx t.d)) w):=by
 have hb:∀o,B9 w (w.alloc o):=fun o=>n9
 have j:Hid (∀o,C9 355 #[Dv A.la A.lc A.ia A.ic A.xa A.xc t.d] (w.alloc o) fun e w'=>e=.returned (J (Fx t.d))/\Below (w.alloc o).heap.size (w.alloc o) w'):=O (fun o=>W8 A.la A.lc A.ia A.ic A.xa A.xc t.d (w.alloc o) (AL _ _ f (hb o)) (hA.below (hb o)) g a h);have i:=O hb;clear f hA g a hb h
 go_enter func351,ntmps351
 go_wp2_with fail
 refine(j _).mono ?_;rintro e w1 ⟨rfl,b⟩;have c:=O ((i _).trans (b.mono (i _).size));clear b;go_wp2;go_ret;exact⟨rfl,c⟩
theorem Xg{s:AV}{B0:Nat}{Bk:Nat->Nat}{A:Ad}{x:Tb}(hx:O4 s x):
  (AF Bk A x=.iface 239 (IJ A x)/\∀w,Ue w s B0 Bk A x->C9 351 #[IJ A x] w (R9 (J (Sf x)) w))\/
  (∃p,AF Bk A x=.iface 236 (B4 p A x)/\∀w,Ue w s B0 Bk A x->C9 344 #[B4 p A x] w (R9 (J (Sf x)) w)):=by
 rcases hx.way with⟨h1,h2,h3⟩|⟨j,h1,h2,h3,h4,h5⟩
 ·have e:Sf x=Fx x.d:=C3 h1;rw[e];exact .inl ⟨C3 h1,fun w a=>Jn A x w a.tb a.d hx.small hx.wf (FW h3)⟩
 ·have e:Sf x=0:=Cs (by omega);rw[e];refine .inr ⟨Bk j,?_,fun w a=>Kx (Bk j) A x w⟩;unfold AF;rw[Cs (by omega),h1];rfl
theorem Rg(Z:Nat->Prop)(c B0:Nat)(vN vT vS vU:V9)(Bk:Nat->Nat)(A:Nat->Ad)(s:AV)(a:Ac)(t:Nat)(w:Y)(n:AZ Z w c B0 vN vT vS vU Bk A s)(hx:O4 s (s.T t))(hT:A8 w)(et:a.t=t)(ht:t<s.nt)(ad:s.nt<=100):
  C9 145 #[Q9 c,IC a] w (R9 (.tuple #[DS (B5 (Sf (s.T t))),Bp 0]) w):=by
 obtain⟨g,C,hv,D,ae,o,E⟩:=n.FI ht;subst hv;obtain⟨W,hW,d,hA,hR,hz⟩:=boxes w a;have F:=n.lt;have q:=(n.iJ hT ht).below d;have f:∀H,AF Bk (A t) (s.T t)=H->G3 c g w.heap.size t (S9 g s.nt C) H a.k W.drew:=fun H e=>by
  obtain⟨a0,a1,a2,a3,a4,a5,a6,a7,a8,a9⟩:=hA.all;rw[et]at a1;exact⟨(d.cell (p:=(G c 1)) F).trans n.cells.2.1,(d.cell (p:=(G g t)) D).trans (o.trans (by rw[e])),a1,a4,a5,a6,a7,a8⟩
 have I:=O q;have L:=O d;have HQ:=O hR;have M:=O f;have P:=O (Xg (B0:=B0) (Bk:=Bk) (A:=A t) hx);clear n hA hR q f hx hT o E d et
 go_enter func145,ntmps145
 go_wp2_with fail
 rw[<-hW];clear hW;rcases z P with⟨l,Q⟩|⟨p,l,Q⟩
 case' inl=>refine Da (G3 c g w.heap.size t (S9 g s.nt C) (.iface 239 (IJ (A t) (s.T t))) a.k) (by kernel_rfl) ?_
 case' inr=>refine Da (G3 c g w.heap.size t (S9 g s.nt C) (.iface 236 (B4 p (A t) (s.T t))) a.k) (by kernel_rfl) ?_
 all_goals
  have f:=z M _ l;have HC:=O Q;clear Q l;change wpAnyH _ _ _ _ _ _ _ _ (World.drew _);refine tz 0 (h:=tz 1 (h:=tz 2 (h:=tz 3 (h:=tz 4 (h:=tz 5 (h:=tz 6 (h:=tz 7 (h:=tz 8 (h:=?_)))))))));have zw:=L.size;refine ry 9 (fun K hK=>?_);go_simp;refine(HC _ (I.below (DD _ _).drew)).mono ?_;rintro e w3 ⟨rfl,b⟩;have b:B9 W w3:=Below.trans (DD _ _).drew b;have r:=f.keep (w':=w3) (b.block c (by omega)) (b.block g (by omega)) (b.block w.heap.size (by omega));obtain⟨B,m⟩:∃B,B=Sf (s.T t):=⟨_,rfl⟩;rw[<-m];have R:=O m;clear m;obtain⟨w4,j,i⟩:=CC (HQ.below b (by omega)) (B5 B);have u:=r.keep (w':=w4) (i.other c (by omega)) (i.other g (by omega)) (i.other w.heap.size (by omega));have S:=O b;have U:=O j;have x:=O i;refine hK.out _ _ r (fun _=>?_);clear hK K f b j i;refine tz 10 (h:=?_);refine ry 11 (fun K hK=>?_);refine Cm rfl rfl _ U ?_;refine hK.out _ _ u (fun af=>?_);clear hK K;refine tz 12 (h:=?_);refine FM ?_;obtain⟨r0,r1,r2,r3,r4,r5,r6,r7,r8,r9,V,X⟩:=An.read x.BR;go_wp2_with fail
  refine DO (v:=.tuple #[DS (B5 B),Bp 0]) (by simp[results,results145,go_sem,r0,r1,r2,r3,r4,r5,r6,r7,r8,r9,V,X,Bp]) rfl ⟨by rw[z R],?_⟩;exact x.below (L.trans (S.mono L.size)) (by omega)
theorem Xf{s:AV}{B0:Nat}{Bk:Nat->Nat}{A:Ad}{x:Tb}(hx:O4 s x):
  (AF Bk A x=.iface 239 (IJ A x)/\∀w,Ue w s B0 Bk A x->C9 348 #[IJ A x] w (R9 (J (RH x)) w))\/
  (∃p,AF Bk A x=.iface 236 (B4 p A x)/\∀w,Ue w s B0 Bk A x->C9 341 #[B4 p A x] w (R9 (J (RH x)) w)):=by
 rcases hx.way with⟨h1,h2,h3⟩|⟨j,h1,h2,h3,h4,h5⟩
 ·have e:RH x=x.d.live:=C3 h1;rw[e];exact .inl ⟨C3 h1,fun w a=>J0 A x w⟩
 ·have e:RH x=(x.nv:Int):=Cs (by omega);rw[e];refine .inr ⟨Bk j,?_,fun w a=>Lv (Bk j) A x w⟩;unfold AF;rw[Cs (by omega),h1];rfl
theorem SS(Z:Nat->Prop)(c B0:Nat)(vN vT vS vU:V9)(Bk:Nat->Nat)(A:Nat->Ad)(s:AV)(a:Ac)(t:Nat)(w:Y)(n:AZ Z w c B0 vN vT vS vU Bk A s)(hx:O4 s (s.T t))(hT:A8 w)(et:a.t=t)(ht:t<s.nt)(ad:s.nt<=100):
  C9 146 #[Q9 c,IC a] w (R9 (.tuple #[DS (B5 (RH (s.T t))),Bp 0]) w):=by
 obtain⟨g,C,hv,D,ae,o,E⟩:=n.FI ht;subst hv;obtain⟨W,hW,d,hA,hR,hz⟩:=boxes w a;have F:=n.lt;have q:=(n.iJ hT ht).below d;have f:∀H,AF Bk (A t) (s.T t)=H->G3 c g w.heap.size t (S9 g s.nt C) H a.k W.drew:=fun H e=>by
  obtain⟨a0,a1,a2,a3,a4,a5,a6,a7,a8,a9⟩:=hA.all;rw[et]at a1;exact⟨(d.cell (p:=(G c 1)) F).trans n.cells.2.1,(d.cell (p:=(G g t)) D).trans (o.trans (by rw[e])),a1,a4,a5,a6,a7,a8⟩
 have I:=O q;have L:=O d;have HQ:=O hR;have M:=O f;have P:=O (Xf (B0:=B0) (Bk:=Bk) (A:=A t) hx);clear n hA hR q f hx hT o E d et
 go_enter func146,ntmps146
 go_wp2_with fail
 rw[<-hW];clear hW;rcases z P with⟨l,Q⟩|⟨p,l,Q⟩
 case' inl=>refine Da (G3 c g w.heap.size t (S9 g s.nt C) (.iface 239 (IJ (A t) (s.T t))) a.k) (by kernel_rfl) ?_
 case' inr=>refine Da (G3 c g w.heap.size t (S9 g s.nt C) (.iface 236 (B4 p (A t) (s.T t))) a.k) (by kernel_rfl) ?_
 all_goals
  have f:=z M _ l;have HC:=O Q;clear Q l;change wpAnyH _ _ _ _ _ _ _ _ (World.drew _);refine tz 0 (h:=tz 1 (h:=tz 2 (h:=tz 3 (h:=tz 4 (h:=tz 5 (h:=tz 6 (h:=tz 7 (h:=tz 8 (h:=?_)))))))));have zw:=L.size;refine ry 9 (fun K hK=>?_);go_simp;refine(HC _ (I.below (DD _ _).drew)).mono ?_;rintro e w3 ⟨rfl,b⟩;have b:B9 W w3:=Below.trans (DD _ _).drew b;have r:=f.keep (w':=w3) (b.block c (by omega)) (b.block g (by omega)) (b.block w.heap.size (by omega));obtain⟨B,m⟩:∃B,B=RH (s.T t):=⟨_,rfl⟩;rw[<-m];have R:=O m;clear m;obtain⟨w4,j,i⟩:=CC (HQ.below b (by omega)) (B5 B);have u:=r.keep (w':=w4) (i.other c (by omega)) (i.other g (by omega)) (i.other w.heap.size (by omega));have S:=O b;have U:=O j;have x:=O i;refine hK.out _ _ r (fun _=>?_);clear hK K f b j i;refine tz 10 (h:=?_);refine ry 11 (fun K hK=>?_);refine Cm rfl rfl _ U ?_;refine hK.out _ _ u (fun af=>?_);clear hK K;refine tz 12 (h:=?_);refine FM ?_;obtain⟨r0,r1,r2,r3,r4,r5,r6,r7,r8,r9,V,X⟩:=An.read x.BR;go_wp2_with fail
  refine DO (v:=.tuple #[DS (B5 B),Bp 0]) (by simp[results,results146,go_sem,r0,r1,r2,r3,r4,r5,r6,r7,r8,r9,V,X,Bp]) rfl ⟨by rw[z R],?_⟩;exact x.below (L.trans (S.mono L.size)) (by omega)
section
attribute [local go_sem] Tu
def Fm(Z:Nat->Prop)(c B0:Nat)(vN vT vS:V9)(s':AV)(x0:An)(w:Y)(e:Ending)(w':Y):Prop:=
 ∃x g a b d f,e=.returned (.tuple #[DS x,Bp g])/\BG (Aq B0 c vN vT vS w) w (Aq B0 c a b d w') w'/\
  ((g=0/\x=x0/\∃Bk' A',AZ Z w' c B0 a b d f Bk' A' s')\/(g≠0/\x0=AO g/\Nu Z w' c B0 a b d f s'))
section
variable {Z:Nat->Prop} {w w2 w3 w4:Y} {c B0:Nat} {vN vT vS vU:V9} {Bk:Nat->Nat} {A:Nat->Ad} {s:AV} {t:Nat} {k v:Vl} {e:Ending}
theorem Fm.read(a:AZ Z w c B0 vN vT vS vU Bk A s)(hb:B9 w w2)(x:An):Fm Z c B0 vN vT vS s x w (.returned (.tuple #[DS x,Bp 0])) w2:=by
 obtain⟨m1,d1⟩:=a.below hb;exact⟨x,0,vN,vT,vS,vU,rfl,d1,.inl ⟨rfl,rfl,Bk,A,m1⟩⟩
theorem S8.eQ{rb m:Nat}(a:BG (Aq B0 c vN vT vS w) w (Aq B0 c vN vT vS w2) w2)(h:S8 (ZB Z w.heap.size m) c B0 vN vT vS s t k v w2 e w3)(b:B0<=w.heap.size)(d:w.heap.size<=rb)(hz:rb<m)(n:FK w3 rb)(f:Bt w3 w4 rb (EX (AO 0)).toArray 45):Fm Z c B0 vN vT vS (BO s t k v) (AO (C2 s t k v)) w (.returned (.tuple #[DS (AO 0),Bp (C2 s t k v)])) w4:=by
 obtain⟨g,i,j,l,_,o,h⟩:=h;rcases h with⟨e1,Bk',A',m3⟩|⟨e1,u3⟩
 ·obtain⟨f1,f2⟩:=m3.Jd (a.trans o) b d hz n f;exact⟨AO 0,_,g,i,j,l,rfl,f2,.inl ⟨e1,by rw[e1],Bk',A',f1⟩⟩
 ·obtain⟨f1,f2⟩:=u3.Jd (a.trans o) b d hz n f;exact⟨AO 0,_,g,i,j,l,rfl,f2,.inr ⟨e1,rfl,f1⟩⟩
end
def LV(ab:Nat)(t:Int)(k v:Vl)(W:Y):Prop:=W.cell? (G ab 1)=some (J t)/\W.cell? (G ab 4)=some (J k.kind)/\W.cell? (G ab 5)=some (J k.num)/\W.cell? (G ab 6)=some (F9 k.Ae)/\W.cell? (G ab 7)=some (.string k.str)/\W.cell? (G ab 8)=some (J k.ref)/\W.cell? (G ab 9)=some (J v.kind)/\W.cell? (G ab 10)=some (J v.num)/\W.cell? (G ab 11)=some (F9 v.Ae)/\W.cell? (G ab 12)=some (.string v.str)/\W.cell? (G ab 13)=some (J v.ref)
theorem LV.keep{ab:Nat}{t:Int}{k v:Vl}{W W':Y}(h:LV ab t k v W)(h1:W'.heap[ab]?=W.heap[ab]?):LV ab t k v W':=by
 have e:∀q,W'.cell? (G ab q)=W.cell? (G ab q):=fun q=>As (a:=(G ab q)) h1
 obtain⟨a0,a1,a2,a3,a4,a5,c,d,f,a9,b⟩:=h;exact⟨(e _).trans a0,(e _).trans a1,(e _).trans a2,(e _).trans a3,(e _).trans a4,(e _).trans a5,(e _).trans c,(e _).trans d,(e _).trans f,(e _).trans a9,(e _).trans b⟩
theorem Ys(Z:Nat->Prop)(c B0:Nat)(vN vT vS:V9)(Bk:Nat->Nat)(A:Nat->Ad)(s:AV)(a:Ac)(t:Nat)(w:Y)(D:AZ Z w c B0 vN vT vS (N9) Bk A s)(hG:V7 s)(hT:A8 w)(et:a.t=t)(ht:t<s.nt)(hk:Ky (Bw a.k))(hv:a.v.ok=true)(E:KI (Bw a.k) a.v)(F:5<=B0):
  C9 142 #[Q9 c,IC a] w fun e w'=>Fm Z c B0 vN vT vS (BO s t (Bw a.k) a.v) (AO (C2 s t (Bw a.k) a.v)) w e w':=by
 obtain⟨W,hW,m,hA,hR,hz⟩:=boxes w a;have af:=D.lt;have n:=D.base;obtain⟨hE,q⟩:=D.enter m;have r:LV w.heap.size (t:Int) a.k a.v W.drew:=by
  obtain⟨a0,a1,a2,a3,a4,a5,a6,a7,a8,a9,H,I,a12,L⟩:=hA.all;rw[et]at a1;exact⟨a1,a4,a5,a6,a7,a8,a9,H,I,a12,L⟩
 obtain⟨i,b⟩:∃i,i=Bw a.k:=⟨_,rfl⟩;have M:Hid (∀w2,B9 W w2->C9 203 #[Q9 c,J (t:Int),FQ i,FQ a.v] w2 fun e w3=>e=.returned (Bp (C2 s t i a.v))/\w3.heap[w.heap.size]?=w2.heap[w.heap.size]?/\FK w3 (w.heap.size+1)/\∀w4,Bt w3 w4 (w.heap.size+1) (EX (AO 0)).toArray 45->Fm Z c B0 vN vT vS (BO s t i a.v) (AO (C2 s t i a.v)) w (.returned (.tuple #[DS (AO 0),Bp (C2 s t i a.v)])) w4):=O (fun w2 h2=>by
  obtain⟨m2,d2⟩:=hE.below h2;refine(Nn _ c B0 vN vT vS Bk A s t i a.v w2 m2 hG ht (AL _ _ hT (m.trans (h2.mono (by omega)))) (by rw[b];exact hk) hv (by rw[b];exact E) F).mono ?_;intro e w3 hP;obtain⟨ag,ah,ai,aj,he,hd,_⟩:=id hP;have P:w2.heap[w.heap.size]?=some (.cells (Bn a) 51 (0,0)):=(h2.block _ (by omega)).trans hA;have u:w2.heap[w.heap.size+1]?=some (.cells Ns 45 (0,0)):=(h2.block _ (by omega)).trans hR;have d:FK w3 (w.heap.size+1):=(hd.boxes m2 u (.inr (.inr (.inl rfl)))).trans u;exact⟨he,hd.boxes m2 P (.inr (.inr (.inr rfl))),d,fun w4 h4=>S8.eQ (q.trans d2) hP n (by omega) (by omega) d h4⟩)
 have Q:=O b;rw[<-b];have lW:w.heap.size<W.heap.size:=by omega
 clear D hG hT et hk hv hE q hA hR m b
 go_enter func142,ntmps142
 go_wp2_with fail
 rw[<-hW];clear hW;refine H9 (LV w.heap.size (t:Int) a.k a.v) ?_;refine tz 0 (h:=tz 1 (h:=tz 2 (h:=tz 3 (h:=tz 4 (h:=tz 5 (h:=tz 8 (h:=tz 9 (h:=?_))))))));refine ry 6 (fun K hK=>?_);go_simp;refine m9 (Hm a.k.kind a.k.num a.k.Ae a.k.str a.k.ref _) fun w2 f=>?_
 have f:B9 W w2:=Below.trans (DD _ _).drew f;have o:=r.keep (W':=w2) (f.block _ lW);rw[BI,<-z Q];obtain⟨kc,x⟩:∃kc,kc=Cj a.k:=⟨_,rfl⟩;rw[<-x];clear x;have R:=O f;refine hK.out _ _ o (fun _=>?_);clear hK K r f;refine tz 7 (h:=?_);refine ry 10 (fun K hK=>?_);go_simp;refine(M _ R).mono ?_;rintro e w3 ⟨rfl,hab,d,g⟩;have B:=o.keep (W':=w3) hab;obtain⟨S,p⟩:∃S,S=C2 s t i a.v:=⟨_,rfl⟩;rw[<-p]at g ⊢;have T:=O p;obtain⟨w4,l,j⟩:=CC d (AO 0);have U:=O (g w4 j);have C:=B.keep (W':=w4) (j.other _ (by omega));have V:=O l;have X:=O j;refine hK.out _ _ B (fun _=>?_);clear hK K o hab d g l j p;refine ry 11 (fun K hK=>?_);refine Cm rfl rfl _ V ?_;refine hK.out _ _ C (fun _=>?_);clear hK K;refine tz 12 (h:=?_);refine FM ?_;obtain⟨r0,r1,r2,r3,r4,r5,r6,r7,r8,r9,ad,ae⟩:=An.read X.BR;go_wp2_with fail
 refine DO (v:=.tuple #[DS (AO 0),Bp S]) (by simp[results,results142,go_sem,r0,r1,r2,r3,r4,r5,r6,r7,r8,r9,ad,ae]) rfl ?_;have h:=z U;rw[z T]at h ⊢;exact h
end
def J4(c g ab t i:Nat)(vT a:V9)(W:Y):Prop:=W.cell? (G c 1)=some vT/\W.cell? (G g t)=some a/\W.cell? (G ab 1)=some (J (t:Int))/\W.cell? (G ab 2)=some (J (i:Int))
theorem J4.keep{c g ab t i:Nat}{vT b:V9}{w w':Y}(h:J4 c g ab t i vT b w)(hc:w'.heap[c]?=w.heap[c]?)(hg:w'.heap[g]?=w.heap[g]?)(d:w'.heap[ab]?=w.heap[ab]?):J4 c g ab t i vT b w':=by
 obtain⟨h1,h2,h3,h4⟩:=h;exact⟨(As (a:=(G c 1)) hc).trans h1,(As (a:=(G g t)) hg).trans h2,(As (a:=(G ab 1)) d).trans h3,(As (a:=(G ab 2)) d).trans h4⟩
theorem Yc(w:Y){vs:List Value}(a:vs.length=8)(h1:∀u∈vs,u.oneCell'=true):(Instr.storeAt 236 (Q9 w.heap.size) (.agg vs.toArray)).run prog (w.alloc (.cells B3 236))=.ok () (w.alloc (.cells vs.toArray 236)):=
 EW (old:=B3.toList) D7 w (by rw[a];rfl) a h1 rfl
theorem NQ(Z:Nat->Prop)(c B0:Nat)(vN vT vS vU:V9)(Bk:Nat->Nat)(A:Nat->Ad)(s:AV)(a:Ac)(t i:Nat)(w:Y)(hM:AZ Z w c B0 vN vT vS vU Bk A s)(I:V7 s)(hT:A8 w)(et:a.t=t)(L:t<s.nt)(ei:a.site=i)(hi:i<s.ns)(cq:5<=B0):
  C9 148 #[Q9 c,IC a] w fun e w'=>Fm Z c B0 vN vT vS (Ba s i t) (CL (if 0<=Bg s i t then(s.T t).V (Bg s i t).toNat else CX s.F (s.T t) (A7 (s.S i).key))) w e w':=by
 obtain⟨X,hX⟩:∃X,X=CL (if 0<=Bg s i t then(s.T t).V (Bg s i t).toNat else CX s.F (s.T t) (A7 (s.S i).key)):=⟨_,rfl⟩;rw[<-hX];have a7:=O hX;clear hX;obtain⟨g,E,bz,cr,ct,b0,b3⟩:=hM.FI L;subst bz;obtain⟨W,hW,ah,hA,hR,hz⟩:=boxes w a;have cu:=hM.lt;have ag:=hM.base;obtain⟨hE,a8⟩:=hM.enter ah;have hx:=I.t t L;have bb:=I.ns;have b4:=I.nt;have hf:=I.f;have bc:0<=Bg s i t->∃q:Nat,Bg s i t=q/\q<(s.T t).nv:=fun h=>by
  obtain⟨_,q,_,_,h1,h2,_⟩:=Gg I hi L h;exact⟨q,h1,h2⟩
 have ay:=O (OU _ c B0 vN _ vS vU Bk A s i t W hE hf hi bb L b4 hx (I.si i hi));obtain⟨a0,a1,a2,a3,_⟩:=hA.all;rw[et]at a1;rw[ei]at a2;have HA:=O hA;have HR:=O hR;have HE:=O hE;have b5:=O a8;have b6:=O (AL _ _ hT ah);have bd:=O bc;have b7:=O (QE (B0:=B0) (Bk:=Bk) (A:=A t) hf hx (F5 (I.si i hi).1));have lW:w.heap.size<W.heap.size:=by omega
 have lc:c<W.heap.size:=by omega
 have M:Hid (∀w3 P x,AZ (ZB Z w.heap.size W.heap.size) w3 c B0 vN (S9 g s.nt E) vS vU Bk A (Ba s i t)->BG (Aq B0 c vN (S9 g s.nt E) vS w) w (Aq B0 c vN (S9 g s.nt E) vS w3) w3->FK w3 (w.heap.size+1)->Bt w3 P (w.heap.size+1) (EX x).toArray 45->Fm Z c B0 vN (S9 g s.nt E) vS (Ba s i t) x w (.returned (.tuple #[DS x,Bp 0])) P):=O (fun w3 P x m3 d3 hr b8=>by
  obtain⟨f1,f2⟩:=m3.Jd d3 ag (by omega) (by omega) hr b8;exact⟨x,0,_,_,_,_,rfl,f2,.inl ⟨rfl,rfl,Bk,A,f1⟩⟩)
 clear hM I hT et ei hE a8 hA hR ah b0 b3 hx hf bc
 go_enter func148,ntmps148
 go_upto_region 1 with fail
 rw[<-hW];clear hW;go_wp2_with fail
 refine ay.mono ?_;rintro e w3 ⟨vs,h8,h1,rfl,bf,m3,d3⟩;have hab:=(d3.boxes HE HA (.inr (.inr (.inr rfl))));have bg:=(d3.boxes HE HR (.inr (.inr (.inl rfl))));have z3:=d3.size;obtain⟨b,H⟩:∃b,b=w3.alloc (.cells vs.toArray 236):=⟨_,rfl⟩;have l:B9 w3 b:=by rw[H];exact(DD _ _).alloc (A0 _) _
 have ai:b.heap[w3.heap.size]?=some (.cells vs.toArray 236 (0,0)):=by rw[H];exact BE _ _
 have Q:Hid ((Instr.storeAt 236 (Q9 w3.heap.size) (.agg vs.toArray)).run prog (w3.alloc (.cells B3 236))=.ok () b):=O (by rw[H];exact Yc w3 h8 h1);obtain⟨m4,d4⟩:=m3.below l;have bh:=(b5.trans d3).trans d4;have bj:FK b (w.heap.size+1):=(l.block _ (by omega)).trans (bg.trans HR);have b9:OW b w.heap.size a:=(l.block _ (by omega)).trans (hab.trans HA);have b1:b.cell? (y w 1)=some (J (t:Int)):=(As (a:=(y w 1)) ((l.block w.heap.size (by omega)).trans hab)).trans a1;have b2:b.cell? (y w 2)=some (J (i:Int)):=(As (a:=(y w 2)) ((l.block w.heap.size (by omega)).trans hab)).trans a2;have u:=O m4;have bk:=O bh;have aj:=O bj;have bm:=O bf;have ca:=O ai;have cb:Hid (A8 b):=O (by
  have h3:A8 w3:=b6.below (B:=B0) ⟨d3.os,d3.tape,d3.output,d3.size,fun q hq=>d3.block q (by omega) (fun e=>by have:=(HE.Lc e).1;omega)⟩ (by omega);exact AL _ _ h3 l)
 have z4:=Aj ai;obtain⟨fi,C⟩:∃fi,fi=Bg s i t:=⟨_,rfl⟩;rw[<-C]at bm bd ⊢;clear m3 d3 hab bg l ai H m4 d4 bh bj b9 bf a0 a1 a2 a3;by_cases R:0<=fi
 ·obtain⟨q,hq,cc⟩:=z bd R;obtain⟨j,hj,bn⟩:=z bm R;have bp:decide (0<=fi)=true:=by simp[R]
  have hc:=Et (p:=Bk j) (A:=A t) (t:=s.T t) (by rw[<-bn];exact ca);have p0:b.cell? (y w3 0)=some (.slice (A t).va (s.T t).nv (A t).vc):=hc 0 _ rfl;have hV:Hg b (A t).va (s.T t).nv (s.T t).V:=(u.rd t L).now.1;obtain⟨vb,off,bq,cv,br⟩:=hV.resolve_left (by omega);obtain⟨y0,y1,y2,y3,y4⟩:=br q cc;rw[bq]at p0;have bt:(fi.toNat)=q:=by omega
  have HR:Hid (X=CL ((s.T t).V q)):=O (by rw[z a7,<-C,C3 R,bt]);obtain⟨P,U,k⟩:=CC aj (CL ((s.T t).V q));have az:=O U;have cw:=O k;obtain⟨r0,r1,r2,r3,r4,r5,r6,r7,r8,r9,ak,ao⟩:=An.read k.BR;have aq:=O (M b P (CL ((s.T t).V q)) u bk aj k);rw[hq]at bp ⊢;generalize (s.T t).V q=x at*;clear hc hV br bq bn U k bt R C hq;go_upto_region 2 with(refine Ak rfl rfl _ Q ?_)
  go_wp2_with (refine Ak rfl rfl _ az ?_)
  refine DO (v:=.tuple #[DS (CL x),Bp 0]) (by simp[results,results148,go_sem,r0,r1,r2,r3,r4,r5,r6,r7,r8,r9,ak,ao,Bp]) rfl ?_;rw[z HR];exact aq
 ·have bp:decide (0<=fi)=false:=by simp[R]
  have cd:Hid (X=CL (CX s.F (s.T t) (A7 (s.S i).key))):=O (by rw[z a7,<-C,Cs R]);clear R C;have m:=z u;obtain⟨_,_,bu,ar,_,ad,_⟩:=m.FI (t:=t) L;have cg:Value.slice (some (G g 0)) s.nt E=_:=bu;clear bu;cases cg;have x1:=m.cells.2.1;have au:=m.lt;have ch:=O (Lh (ZB Z w.heap.size W.heap.size) c B0 vN (S9 g s.nt E) vS vU Bk A (Ba s i t) i);have cj:Hid (Ue b s B0 Bk (A t) (s.T t)):=O ⟨m.nd,(m.rd t L).now.1,(m.rd t L).now.2,cb⟩;have bw:((Ba s i t).S i).key=(s.S i).key:=by
   show(AM s.S i (Ej s i t) i).key=_;rw[Ah];unfold Ej
   split
   ·rfl
   ·split<;>rfl
  have ck:=O bw;have D:∀kv,AF Bk (A t) (s.T t)=kv->J4 c g w.heap.size t i (S9 g s.nt E) kv b.drew:=fun kv e=>⟨x1,ad.trans (by rw[<-e];rfl),b1,b2⟩
  have cl:=O D;clear m ad D bw x1 b1 b2;go_upto_region 4 with(refine Ak rfl rfl _ Q ?_)
  rcases z b7 with⟨av,hC⟩|⟨p,av,hC⟩
  case' inl=>refine Da (J4 c g w.heap.size t i (S9 g s.nt E) (.iface 239 (IJ (A t) (s.T t)))) (by kernel_rfl) ?_
  case' inr=>refine Da (J4 c g w.heap.size t i (S9 g s.nt E) (.iface 236 (B4 p (A t) (s.T t)))) (by kernel_rfl) ?_
  all_goals
   have D:=z cl _ av;have HC:=O hC;clear hC av;change wpAnyH _ _ _ _ _ _ _ _ (World.drew _);refine tz 0 (h:=tz 1 (h:=tz 2 (h:=tz 3 (h:=tz 4 (h:=tz 5 (h:=tz 6 (h:=tz 7 (h:=tz 8 (h:=tz 9 (h:=tz 10 (h:=tz 11 (h:=?_))))))))))));refine tz 13 (h:=tz 14 (h:=?_));refine ry 12 (fun K hK=>?_);go_simp;have ae:B9 b b.drew:=(DD _ _).drew;refine(ch _ (u.below ae).1 hi bb).mono ?_;rintro e P ⟨rfl,n⟩;have n:B9 b P:=Below.trans (DD _ _).drew n;have k:=D.keep (w':=P) (n.block c au) (n.block g ar) (n.block w.heap.size (by omega));rw[z ck];have o:=O n;refine hK.out _ _ k (fun _=>?_);clear hK K D n ae;refine ry 15 (fun K hK=>?_);go_simp;refine(HC _ (cj.below o)).mono ?_;rintro e w6 ⟨rfl,d⟩;have d:B9 b w6:=o.trans (d.mono o.size);have bx:=k.keep (w':=w6) ((d.block c au).trans (o.block c au).symm) ((d.block g ar).trans (o.block g ar).symm) ((d.block w.heap.size (by omega)).trans (o.block w.heap.size (by omega)).symm);obtain⟨gv,aw⟩:∃gv,gv=CX s.F (s.T t) (A7 (s.S i).key):=⟨_,rfl⟩;rw[<-aw];have cm:=O aw;obtain⟨m6,d6⟩:=u.below d;have ax:FK w6 (w.heap.size+1):=(d.block _ (by omega)).trans aj;obtain⟨w7,af,r⟩:=CC ax (CL gv);have aq:=O (M w6 w7 (CL gv) m6 (bk.trans d6) ax r);have z6:=d.size;have aM:=bx.keep (w':=w7) (r.other c (by omega)) (r.other g (by omega)) (r.other w.heap.size (by omega));have a6:=O af;have cn:=O r;refine hK.out _ _ bx (fun _=>?_);clear hK K k d m6 d6 ax af r aw;refine tz 16 (h:=?_);refine ry 17 (fun K hK=>?_);refine Cm rfl rfl _ a6 ?_;refine hK.out _ _ aM (fun _=>?_);clear hK K;refine tz 18 (h:=?_);refine FM ?_;obtain⟨r0,r1,r2,r3,r4,r5,r6,r7,r8,r9,ak,ao⟩:=An.read cn.BR;go_wp2_with fail
   refine DO (v:=.tuple #[DS (CL gv),Bp 0]) (by simp[results,results148,go_sem,r0,r1,r2,r3,r4,r5,r6,r7,r8,r9,ak,ao,Bp]) rfl ?_;rw[z cd,<-z cm];exact aq
def LW(ab rb p t:Nat)(v:Vl)(A:Ad)(x:Tb)(W:Y):Prop:=W.cell? (G ab 1)=some (J (t:Int))/\W.cell? (G ab 9)=some (J v.kind)/\W.cell? (G ab 10)=some (J v.num)/\W.cell? (G ab 11)=some (F9 v.Ae)/\W.cell? (G ab 12)=some (.string v.str)/\W.cell? (G ab 13)=some (J v.ref)/\
 W.cell? (G rb 0)=some (.slice A.va x.nv A.vc)/\W.cell? (G rb 1)=some (.slice A.la x.d.n A.lc)/\W.cell? (G rb 2)=some (.slice A.ia x.d.m A.ic)/\W.cell? (G rb 3)=some (.slice A.xa x.d.x A.xc)/\W.cell? (G rb 4)=some (J x.d.used)/\W.cell? (G rb 5)=some (J x.d.live)/\W.cell? (G rb 6)=some (J x.d.turns)/\W.cell? (G rb 7)=some (Q9 p)
theorem LW.keep{ab rb p t:Nat}{v:Vl}{A:Ad}{x:Tb}{W W':Y}(h:LW ab rb p t v A x W)(h1:W'.heap[ab]?=W.heap[ab]?)(h2:W'.heap[rb]?=W.heap[rb]?):LW ab rb p t v A x W':=by
 have e1:∀q,W'.cell? (G ab q)=W.cell? (G ab q):=fun q=>As (a:=(G ab q)) h1
 have e2:∀q,W'.cell? (G rb q)=W.cell? (G rb q):=fun q=>As (a:=(G rb q)) h2
 obtain⟨a0,a1,a2,a3,a4,a5,e,f,g,a9,b,c,a12,d⟩:=h;exact⟨(e1 _).trans a0,(e1 _).trans a1,(e1 _).trans a2,(e1 _).trans a3,(e1 _).trans a4,(e1 _).trans a5,(e2 _).trans e,(e2 _).trans f,(e2 _).trans g,(e2 _).trans a9,(e2 _).trans b,(e2 _).trans c,(e2 _).trans a12,(e2 _).trans d⟩
def LX(ab t i:Nat)(v:Vl)(W:Y):Prop:=W.cell? (G ab 1)=some (J (t:Int))/\W.cell? (G ab 2)=some (J (i:Int))/\W.cell? (G ab 9)=some (J v.kind)/\W.cell? (G ab 10)=some (J v.num)/\W.cell? (G ab 11)=some (F9 v.Ae)/\W.cell? (G ab 12)=some (.string v.str)/\W.cell? (G ab 13)=some (J v.ref)
theorem LX.keep{ab t i:Nat}{v:Vl}{W W':Y}(h:LX ab t i v W)(h1:W'.heap[ab]?=W.heap[ab]?):LX ab t i v W':=by
 have e1:∀q,W'.cell? (G ab q)=W.cell? (G ab q):=fun q=>As (a:=(G ab q)) h1
 obtain⟨a0,a1,a2,a3,a4,a5,b⟩:=h;exact⟨(e1 _).trans a0,(e1 _).trans a1,(e1 _).trans a2,(e1 _).trans a3,(e1 _).trans a4,(e1 _).trans a5,(e1 _).trans b⟩
theorem WM(s:AV)(i t:Nat):((Ba s i t).S i).key=(s.S i).key:=by
 show(AM s.S i (Ej s i t) i).key=_;rw[Ah];unfold Ej
 split
 ·rfl
 ·split<;>rfl
theorem NR(Z:Nat->Prop)(c B0:Nat)(vN vT vS:V9)(Bk:Nat->Nat)(A:Nat->Ad)(s:AV)(a:Ac)(t i:Nat)(w:Y)(hM:AZ Z w c B0 vN vT vS (N9) Bk A s)(hG:V7 s)(hT:A8 w)(et:a.t=t)(ht:t<s.nt)(ei:a.site=i)(hi:i<s.ns)(hv:a.v.ok=true)(cc:5<=B0):
  C9 149 #[Q9 c,IC a] w fun e w'=>Fm Z c B0 vN vT vS (if 0<=Bg s i t/\a.v.kind≠0 then Cg (Ba s i t) t (Dn (s.T t) (Bg s i t).toNat a.v)else BO (Ba s i t) t (A7 (s.S i).key) a.v) (if 0<=Bg s i t/\a.v.kind≠0 then AO 0 else AO (C2 (Ba s i t) t (A7 (s.S i).key) a.v)) w e w':=by
 obtain⟨S',aq⟩:∃S',S'=(if 0<=Bg s i t/\a.v.kind≠0 then Cg (Ba s i t) t (Dn (s.T t) (Bg s i t).toNat a.v)else BO (Ba s i t) t (A7 (s.S i).key) a.v):=⟨_,rfl⟩;obtain⟨X,hX⟩:∃X,X=(if 0<=Bg s i t/\a.v.kind≠0 then AO 0 else AO (C2 (Ba s i t) t (A7 (s.S i).key) a.v)):=⟨_,rfl⟩;rw[<-aq,<-hX];have ai:=O (And.intro aq hX);clear aq hX;obtain⟨W,hW,ar,hA,hR,hz⟩:=boxes w a;have dh:=hM.lt;have H:=hM.base;obtain⟨hE,bj⟩:=hM.enter ar;have hx:=hG.t t ht;have bk:=hG.ns;have bm:=hG.nt;have hf:=hG.f;have bf:=O4.nv hx hf;have bg:=O (OU _ c B0 vN vT vS _ Bk A s i t W hE hf hi bk ht bm hx (hG.si i hi));have cg:Hid (0<=Bg s i t->∃j q:Nat,(s.T t).shape=j/\j<s.nf/\Bg s i t=q/\q<(s.T t).nv/\BW s.F j (s.S i).key=q):=O (fun h=>Gg hG hi ht h);have ch:=O (Ij hG hi ht);have cj:=O (F5 (hG.si i hi).1);have ck:=O hx;have HA:=O hA;have HR:=O hR;have HE:=O hE;have cl:=O bj;have cm:=O (AL _ _ hT ar);have cn:=O hv;have di:=O (And.intro et ei);obtain⟨a0,a1,a2,a3,a4,a5,a6,a7,a8,a9,bn,bp,a12,bq⟩:=hA.all;rw[et]at a1;rw[ei]at a2;have lW:w.heap.size<W.heap.size:=by omega
 have lc:c<W.heap.size:=by omega
 clear hM hG hT et ei hE bj hA hR ar hx hf hv
 go_enter func149,ntmps149
 go_upto_region 1 with fail
 rw[<-hW];clear hW;go_wp2_with fail
 refine bg.mono ?_;rintro e w3 ⟨vs,h8,h1,rfl,br,m3,d3⟩;have hab:=(d3.boxes HE HA (.inr (.inr (.inr rfl))));have bt:=(d3.boxes HE HR (.inr (.inr (.inl rfl))));have z3:=d3.size;obtain⟨l,aj⟩:∃l,l=w3.alloc (.cells vs.toArray 236):=⟨_,rfl⟩;have E:B9 w3 l:=by rw[aj];exact(DD _ _).alloc (A0 _) _
 have au:l.heap[w3.heap.size]?=some (.cells vs.toArray 236 (0,0)):=by rw[aj];exact BE _ _
 have af:Hid ((Instr.storeAt 236 (Q9 w3.heap.size) (.agg vs.toArray)).run prog (w3.alloc (.cells B3 236))=.ok () l):=O (by rw[aj];exact Yc w3 h8 h1);obtain⟨m4,d4⟩:=m3.below E;have bu:=(cl.trans d3).trans d4;have av:FK l (w.heap.size+1):=(E.block _ (by omega)).trans (bt.trans HR);have aw:OW l w.heap.size a:=(E.block _ (by omega)).trans (hab.trans HA);have ag:l.heap[w.heap.size]?=W.heap[w.heap.size]?:=(E.block _ (by omega)).trans hab;have eb:∀q,l.cell? (y w q)=W.cell? (y w q):=fun q=>As (a:=(y w q)) ag
 have b1:=(eb 1).trans a1;have b2:=(eb 2).trans a2;have b9:=(eb 9).trans a9;have bw:=(eb 10).trans bn;have bx:=(eb 11).trans bp;have bz:=(eb 12).trans a12;have b0:=(eb 13).trans bq;have I:=O m4;have b3:=O bu;have b4:=O av;have b5:=O aw;have cq:=O br;have cr:=O au;have ct:Hid (A8 l):=O (by
  have h3:A8 w3:=cm.below (B:=B0) ⟨d3.os,d3.tape,d3.output,d3.size,fun q hq=>d3.block q (by omega) (fun e=>by have:=(HE.Lc e).1;omega)⟩ (by omega);exact AL _ _ h3 E)
 have z4:=Aj au;have ak:=Aj aw;have b6:=Aj av;clear m3 d3 hab bt E au aj m4 d4 bu av aw ag eb br a0 a1 a2 a3 a4 a5 a6 a7 a8 a9 bn bp a12 bq;by_cases b:0<=Bg s i t/\a.v.kind≠0
 ·obtain⟨j,q,hj,dj,hq,cu,_⟩:=z cg b.1;obtain⟨j',cv,b7⟩:=z cq b.1;have cw:j'=j:=by omega
  subst cw;have ax:decide (0<=Bg s i t)=true:=by simp[b.1]
  have cx:(a.v.kind !=0)=true:=by simp[b.2]
  have L:Hid (S'=Cg (Ba s i t) t (Dn (s.T t) q a.v)/\X=AO 0):=O (by rw[(z ai).1,(z ai).2,C3 b,C3 b,hq];exact⟨rfl,rfl⟩);have hr:l.heap[w3.heap.size]?=some (.cells (BT (Bk j') (A t) (s.T t)).toArray 236 (0,0)):=by rw[<-b7];exact cr
  have hc:=Et hr;have M:LW w.heap.size w3.heap.size (Bk j') t a.v (A t) (s.T t) l.drew:=⟨b1,b9,bw,bx,bz,b0,hc 0 _ rfl,hc 1 _ rfl,hc 2 _ rfl,hc 3 _ rfl,hc 4 _ rfl,hc 5 _ rfl,hc 6 _ rfl,hc 7 _ rfl⟩;have cy:Hid (Hg l (A t).va (s.T t).nv (s.T t).V):=O (I.rd t ht).now.1;have b8:bare (s.T t).d:=by
   rcases ck.way with⟨e,_⟩|⟨_,_,_,_,h,_⟩
   ·omega
   ·exact h
  have cz:=O b8;have cN:=O hr;have HJ:=O hj;rw[hq]at ax ⊢;clear b hq hc hr b7 hj cv b8;go_upto_region 3 with(refine Ak rfl rfl _ af ?_)
  refine H9 (LW w.heap.size w3.heap.size (Bk j') t a.v (A t) (s.T t)) ?_;refine tz 0 (h:=tz 1 (h:=tz 2 (h:=tz 3 (h:=tz 4 (h:=tz 5 (h:=tz 6 (h:=?_)))))));refine ry 7 (fun K hK=>?_);go_simp;refine(Rl (Bk j') (A t) (s.T t) q a.v _ (cy.below (w':=l.drew) (B:=l.heap.size) (DD _ _).drew rfl) cu bf).mono ?_;rintro e n ⟨⟨gg,cp,rfl,D⟩,g⟩;have g:B9 l n:=Below.trans (DD _ _).drew g;have x:=M.keep (W':=n) (g.block _ ak) (g.block _ z4);obtain⟨m5,d5⟩:=I.below g;have c0:=(D.lt gg rfl).1;have P:Rd (OZ (ZB Z w.heap.size W.heap.size) B0 c vN vT vS n) n {A t with va:=some (G gg 0),vc:=cp} (Dn (s.T t) q a.v):=Rd.dK (t:=Dn (s.T t) q a.v) D rfl (m5.Sq (w0:=l) (fun k e=>by have:=I.z k e;exact this) D c0) cz;have C:AF Bk {A t with va:=some (G gg 0),vc:=cp} (Dn (s.T t) q a.v)=.iface 236 (B4 (Bk j') {A t with va:=some (G gg 0),vc:=cp} (Dn (s.T t) q a.v)):=by
   unfold AF;rw[Cs (by show¬(s.T t).shape=-1;rw[z HJ];omega)];show Value.iface _ (B4 (Bk (s.T t).shape.toNat) _ _)=_;rw[z HJ];rfl
  have ca:=O (Hv _ c B0 vN vT vS Bk A (Ba s i t) t {A t with va:=some (G gg 0),vc:=cp} (Dn (s.T t) q a.v) n m5 ht bm P);rw[C]at ca;have ay:=O m5;have c3:=O (b3.trans d5);have o:=(g.block _ ak).trans b5;have p:=(g.block _ z4).trans cN;have m:FK n (w.heap.size+1):=(g.block _ b6).trans b4;have c4:=O (And.intro o (And.intro p m));refine hK.out _ _ x (fun _=>?_);clear hK K M g m5 d5 D P C o p m;refine tz 8 (h:=?_);refine ry 9 (fun K hK=>?_);go_simp;refine ca.mono ?_;rintro e w6 ⟨⟨uu,rfl⟩,c5,m6,d6,c6,_⟩;obtain⟨o,p,m⟩:=z c4;have ao:=x.keep (W':=w6) (d6.boxes ay o (.inr (.inr (.inr rfl)))) (d6.boxes ay p (.inl rfl));have Q:FK w6 (w.heap.size+1):=(d6.boxes ay m (.inr (.inr (.inl rfl)))).trans m;obtain⟨w7,r,u⟩:=CC Q (AO 0);obtain⟨f1,f2⟩:=m6.Jd (c3.trans d6) H (by omega) (by omega) Q u;have az:Hid (Fm Z c B0 vN vT vS (Cg (Ba s i t) t (Dn (s.T t) q a.v)) (AO 0) w (.returned (.tuple #[DS (AO 0),Bp 0])) w7):=O ⟨AO 0,0,_,_,_,_,rfl,f2,.inl ⟨rfl,rfl,Bk,_,f1⟩⟩;have R:=O r;have aM:=O u;refine hK.out _ _ ao (fun _=>?_);clear hK K x m6 d6 c6 o p m Q r u f1 f2;refine FM ?_;obtain⟨r0,r1,r2,r3,r4,r5,r6,r7,r8,r9,bb,bc⟩:=An.read aM.BR;go_wp2_with (refine Ak rfl rfl _ R ?_)
  refine DO (v:=.tuple #[DS (AO 0),Bp 0]) (by simp[results,results149,go_sem,r0,r1,r2,r3,r4,r5,r6,r7,r8,r9,bb,bc,Bp]) rfl ?_;rw[(z L).1,(z L).2];exact az
 ·have L:Hid (S'=BO (Ba s i t) t (A7 (s.S i).key) a.v/\X=AO (C2 (Ba s i t) t (A7 (s.S i).key) a.v)):=O (by rw[(z ai).1,(z ai).2,Cs b,Cs b];exact⟨rfl,rfl⟩);have M:LX w.heap.size t i a.v l.drew:=⟨b1,b2,b9,bw,bx,bz,b0⟩;obtain⟨kv,C⟩:∃kv,kv=A7 (s.S i).key:=⟨_,rfl⟩;have c7:=O (Lh (ZB Z w.heap.size W.heap.size) c B0 vN vT vS (N9) Bk A (Ba s i t) i);have c8:Hid (A7 ((Ba s i t).S i).key=kv):=O (by rw[WM,C]);have c9:Hid (∀n,B9 l n->C9 203 #[Q9 c,J (t:Int),FQ kv,FQ a.v] n fun e w6=>e=.returned (Bp (C2 (Ba s i t) t kv a.v))/\w6.heap[w.heap.size]?=n.heap[w.heap.size]?/\FK w6 (w.heap.size+1)/\∀w7,Bt w6 w7 (w.heap.size+1) (EX (AO 0)).toArray 45->Fm Z c B0 vN vT vS (BO (Ba s i t) t kv a.v) (AO (C2 (Ba s i t) t kv a.v)) w (.returned (.tuple #[DS (AO 0),Bp (C2 (Ba s i t) t kv a.v)])) w7):=O (fun n h5=>by
   obtain⟨m5,d5⟩:=I.below h5;refine(Nn _ c B0 vN vT vS Bk A (Ba s i t) t kv a.v n m5 ch ht (AL _ _ ct h5) (by rw[C];exact cj) cn (aK _ _) cc).mono ?_;intro e w6 hP;obtain⟨dk,dm,dn,c5,he,hd,_⟩:=id hP;have da:n.heap[w.heap.size]?=some (.cells (Bn a) 51 (0,0)):=(h5.block _ ak).trans b5;have P:n.heap[w.heap.size+1]?=some (.cells Ns 45 (0,0)):=(h5.block _ b6).trans b4;have U:FK w6 (w.heap.size+1):=(hd.boxes m5 P (.inr (.inr (.inl rfl)))).trans P;exact⟨he,hd.boxes m5 da (.inr (.inr (.inr rfl))),U,fun w7 h7=>S8.eQ (b3.trans d5) hP H (by omega) (by omega) U h7⟩)
  have dc:=O C;have ad:(0<=Bg s i t/\a.v.kind=0)\/¬0<=Bg s i t:=by
   by_cases h:0<=Bg s i t
   ·exact .inl ⟨h,Classical.not_not.1 (fun e=>b ⟨h,e⟩)⟩
   ·exact .inr h
  clear b C;obtain⟨fi,cb⟩:∃fi,fi=Bg s i t:=⟨_,rfl⟩;rw[<-cb]at ad ⊢;clear cb;rcases ad with⟨q1,q2⟩|q1
  case' inl=>
   have ax:decide (0<=fi)=true:=by simp[q1]
   have cx:(a.v.kind !=0)=false:=by simp[q2]
   clear q1 q2
  case' inr=>
   have ax:decide (0<=fi)=false:=by simp[q1]
   clear q1
  all_goals
   go_upto_region 5 with(refine Ak rfl rfl _ af ?_)
   refine H9 (LX w.heap.size t i a.v) ?_;refine tz 0 (h:=tz 1 (h:=tz 2 (h:=tz 3 (h:=tz 4 (h:=tz 5 (h:=tz 6 (h:=tz 8 (h:=tz 9 (h:=?_)))))))));refine ry 7 (fun K hK=>?_);go_simp;have ah:B9 l l.drew:=(DD _ _).drew;refine(c7 _ (I.below ah).1 hi bk).mono ?_;rintro e n ⟨rfl,g⟩;have g:B9 l n:=Below.trans (DD _ _).drew g;have x:=M.keep (W':=n) (g.block _ ak);rw[z c8];have dd:=O g;refine hK.out _ _ x (fun _=>?_);clear hK K M g ah;refine ry 10 (fun K hK=>?_);go_simp;refine(c9 _ dd).mono ?_;rintro e w6 ⟨rfl,hab,U,ae⟩;have ao:=x.keep (W':=w6) hab;obtain⟨cd,bd⟩:∃cd,cd=C2 (Ba s i t) t kv a.v:=⟨_,rfl⟩;rw[<-bd]at ae ⊢;have df:=O bd;obtain⟨w7,r,u⟩:=CC U (AO 0);have az:=O (ae w7 u);have bh:=ao.keep (W':=w7) (u.other _ (by omega));have R:=O r;have aM:=O u;refine hK.out _ _ ao (fun _=>?_);clear hK K x hab U ae r u bd;refine ry 11 (fun K hK=>?_);refine Cm rfl rfl _ R ?_;refine hK.out _ _ bh (fun _=>?_);clear hK K;refine tz 12 (h:=?_);refine FM ?_;obtain⟨r0,r1,r2,r3,r4,r5,r6,r7,r8,r9,bb,bc⟩:=An.read aM.BR;go_wp2_with fail
   refine DO (v:=.tuple #[DS (AO 0),Bp cd]) (by simp[results,results149,go_sem,r0,r1,r2,r3,r4,r5,r6,r7,r8,r9,bb,bc]) rfl ?_;rw[(z L).1,(z L).2,<-z dc];have h:=z az;rw[z df]at h ⊢;exact h
theorem Ts{c:Int}(h:c≠0):Bp c=.iface 267 (.agg #[J c]):=by unfold Bp;rw[Cs h]
section
section
variable {Z:Nat->Prop} {w w2 w3:Y} {c B0:Nat} {vN vT vS:V9} {Bk:Nat->Nat} {A:Nat->Ad} {s s':AV} {x0:An} {e:Ending}
theorem Fm.fin{rb m:Nat}(b:BG (Aq B0 c vN vT vS w) w (Aq B0 c vN vT vS w2) w2)(h:Fm (ZB Z w.heap.size m) c B0 vN vT vS s' x0 w2 e w3)(d:B0<=w.heap.size)(f:w.heap.size<=rb)(hz:rb<m)(n:FK w3 rb):
  ∃x a,e=.returned (.tuple #[DS x,Bp a])/\∀w4,Bt w3 w4 rb (EX x).toArray 45->Fm Z c B0 vN vT vS s' x0 w (.returned (.tuple #[DS x,Bp a])) w4:=by
 obtain⟨x,a,g,i,j,k,p,o,h⟩:=h;refine⟨x,a,p,fun w4 l=>?_⟩;rcases h with⟨e1,e2,Bk',A',m3⟩|⟨e1,e2,u3⟩
 ·obtain⟨f1,f2⟩:=m3.Jd (b.trans o) d f hz n l;exact⟨x,a,g,i,j,k,rfl,f2,.inl ⟨e1,e2,Bk',A',f1⟩⟩
 ·obtain⟨f1,f2⟩:=u3.Jd (b.trans o) d f hz n l;exact⟨x,a,g,i,j,k,rfl,f2,.inr ⟨e1,e2,f1⟩⟩
theorem Fm.dst{s':AV}(h:Fm Z c B0 vN vT vS s' x0 w2 e w3):∃a b d,BG (Aq B0 c vN vT vS w2) w2 (Aq B0 c a b d w3) w3:=by
 obtain⟨x,i,a,b,d,f,j,g,h⟩:=h;exact⟨_,_,_,g⟩
end
def Ed(a:Ac):Prop:=∀(Z:Nat->Prop) (c B0:Nat) (vN vT vS:V9) (Bk:Nat->Nat) (A:Nat->Ad) (s:AV) (w:Y),AZ Z w c B0 vN vT vS (N9) Bk A s->V7 s->A8 w->FL a s.nt s.ns=0->Wf a.k->5<=B0->
  ∃F:Nat,(∀w,(Instr.index 149 DP (J a.op)).run prog w=.ok (.agg #[J (jE a.op),.func (.func F) #[] #[]]) w)/\(∀args w,(callFunc F args).run prog w=.ok (.enter F args) w)/\∀w2,B9 w w2->C9 F #[Q9 c,IC a] w2 fun e w3=>Fm Z c B0 vN vT vS (Df s a) (FO s a) w2 e w3
theorem bC{a:Ac}(h:a.op=1):Ed a:=by
 intro Z c B0 vN vT vS Bk A s w n j o hc p q;obtain⟨c1,c2,c3,c4⟩:=Eg hc;obtain⟨r1,r2,C,D,E,F,H⟩:=BX c1;have g:∀w2,B9 w w2->AZ Z w2 c B0 vN vT vS (N9) Bk A s:=fun w2 h=>(n.below h).1
 have r:∀w2,B9 w w2->A8 w2:=fun w2 h=>AL _ _ o h
 have k:B7 a.op=true->∃t:Nat,a.t=t/\t<s.nt/\a.t.toNat=t:=fun h=>⟨a.t.toNat,by omega,by have:=c2 h;omega,rfl⟩
 have l:Cp a.op=true->∃i:Nat,a.site=i/\i<s.ns/\a.site.toNat=i:=fun h=>⟨a.site.toNat,by omega,by have:=c3 h;omega,rfl⟩
 refine⟨141,by rw[h];exact fun w=>by kernel_rfl,fun args w=>by kernel_rfl,fun w2 h2=>?_⟩;have m:Df s a=if s.nt=100 then s else{s with nt:=s.nt+1,T:=AM s.T s.nt SL}:=by unfold Df;rw[C3 h]
 have hN:FO s a=if s.nt=100 then AO 5 else B5 s.nt:=by unfold FO;rw[C3 h]
 obtain⟨f1,_⟩:=Au j.f;refine(NP Z c B0 vN vT vS Bk A s a w2 (g w2 h2) j.nt (by have:=f1.1;omega)).mono ?_;rintro e w3 ⟨b,d,A',m3,d3,e1,e2⟩;by_cases hn:s.nt=100
 ·obtain⟨e3,u,cu,v,x,B⟩:=e2 hn;rw[m,hN,C3 hn,C3 hn];refine⟨AO 0,5,vN,b,vS,d,e3,d3,.inr ⟨by decide,rfl,Bk,A',_,m3,.inr (.inl ⟨s.nt,u,cu,v,x,B,Nat.le_succ _,Nat.succ_pos _,by show s.nt+1<=200;omega,⟨rfl,rfl,rfl,rfl,fun i hi=>?_,fun _ _=>rfl⟩⟩)⟩⟩;exact Ag _ _ (by have hi:i<s.nt:=hi;omega)
 ·rw[m,hN,Cs hn,Cs hn];exact⟨B5 s.nt,0,vN,b,vS,d,e1 hn,d3,.inl ⟨rfl,rfl,Bk,A',m3⟩⟩
theorem bD{a:Ac}(h:a.op=2)(d:KI (Bw a.k) a.v):Ed a:=by
 intro Z c B0 vN vT vS Bk A s w m n o hc e f;obtain⟨c1,c2,c3,c4⟩:=Eg hc;obtain⟨r1,r2,u,p,x,B,C⟩:=BX c1;have g:∀w2,B9 w w2->AZ Z w2 c B0 vN vT vS (N9) Bk A s:=fun w2 h=>(m.below h).1
 have j:∀w2,B9 w w2->A8 w2:=fun w2 h=>AL _ _ o h
 have b:B7 a.op=true->∃t:Nat,a.t=t/\t<s.nt/\a.t.toNat=t:=fun h=>⟨a.t.toNat,by omega,by have:=c2 h;omega,rfl⟩
 have l:Cp a.op=true->∃i:Nat,a.site=i/\i<s.ns/\a.site.toNat=i:=fun h=>⟨a.site.toNat,by omega,by have:=c3 h;omega,rfl⟩
 refine⟨142,by rw[h];exact fun w=>by kernel_rfl,fun args w=>by kernel_rfl,fun w2 h2=>?_⟩;obtain⟨t,et,q,en⟩:=b (by simp[B7,h]);have r:Df s a=BO s t (Bw a.k) a.v:=by unfold Df;rw[Cs (by omega),Cs (by omega),C3 h,en]
 have hN:FO s a=AO (C2 s t (Bw a.k) a.v):=by unfold FO;rw[Cs (by omega),Cs (by omega),C3 h,en]
 rw[r,hN];exact Ys Z c B0 vN vT vS Bk A s a t w2 (g w2 h2) n (j w2 h2) et q (JE e (c4 (.inl h))) p d f
theorem bE{a:Ac}(h:a.op=3):Ed a:=by
 intro Z c B0 vN vT vS Bk A s w n e o hc g p;obtain⟨c1,c2,c3,c4⟩:=Eg hc;obtain⟨r1,r2,r,u,v,x,B⟩:=BX c1;have b:∀w2,B9 w w2->AZ Z w2 c B0 vN vT vS (N9) Bk A s:=fun w2 h=>(n.below h).1
 have j:∀w2,B9 w w2->A8 w2:=fun w2 h=>AL _ _ o h
 have d:B7 a.op=true->∃t:Nat,a.t=t/\t<s.nt/\a.t.toNat=t:=fun h=>⟨a.t.toNat,by omega,by have:=c2 h;omega,rfl⟩
 have l:Cp a.op=true->∃i:Nat,a.site=i/\i<s.ns/\a.site.toNat=i:=fun h=>⟨a.site.toNat,by omega,by have:=c3 h;omega,rfl⟩
 refine⟨143,by rw[h];exact fun w=>by kernel_rfl,fun args w=>by kernel_rfl,fun w2 h2=>?_⟩;obtain⟨t,et,m,en⟩:=d (by simp[B7,h]);have q:Df s a=s:=by unfold Df;rw[Cs (by omega),Cs (by omega),Cs (by omega),Cs (by omega),Cs (by omega)]
 have hN:FO s a=CL (CX s.F (s.T t) (Bw a.k)):=by unfold FO;rw[Cs (by omega),Cs (by omega),Cs (by omega),Cs (by omega),C3 h,en]
 rw[q,hN];refine m9 (Yr Z c B0 vN vT vS _ Bk A s a t w2 (b w2 h2) e.f (e.t t m) (j w2 h2) et m e.nt (JE g (c4 (.inr h)))) fun w3 hb=>?_
 exact Fm.read (b w2 h2) hb _
theorem bF{a:Ac}(h:a.op=4):Ed a:=by
 intro Z c B0 vN vT vS Bk A s w l e m hc o p;obtain⟨c1,c2,c3,c4⟩:=Eg hc;obtain⟨r1,r2,r,u,v,x,B⟩:=BX c1;have b:∀w2,B9 w w2->AZ Z w2 c B0 vN vT vS (N9) Bk A s:=fun w2 h=>(l.below h).1
 have g:∀w2,B9 w w2->A8 w2:=fun w2 h=>AL _ _ m h
 have d:B7 a.op=true->∃t:Nat,a.t=t/\t<s.nt/\a.t.toNat=t:=fun h=>⟨a.t.toNat,by omega,by have:=c2 h;omega,rfl⟩
 have j:Cp a.op=true->∃i:Nat,a.site=i/\i<s.ns/\a.site.toNat=i:=fun h=>⟨a.site.toNat,by omega,by have:=c3 h;omega,rfl⟩
 refine⟨144,by rw[h];exact fun w=>by kernel_rfl,fun args w=>by kernel_rfl,fun w2 h2=>?_⟩;obtain⟨t,et,k,en⟩:=d (by simp[B7,h]);have q:Df s a=s:=by unfold Df;rw[Cs (by omega),Cs (by omega),Cs (by omega),Cs (by omega),Cs (by omega)]
 have hN:FO s a=YM ((TV s t).next a.n):=by unfold FO;rw[Cs (by omega),Cs (by omega),Cs (by omega),Cs (by omega),Cs (by omega),Cs (by omega),en];unfold Pl.ask;rw[C3 h];rfl
 rw[q,hN];refine m9 (SR Z c B0 vN vT vS _ Bk A s a t w2 (b w2 h2) e.f (e.t t k) (g w2 h2) et k e.nt) fun w3 hb=>?_
 exact Fm.read (b w2 h2) hb _
theorem bG{a:Ac}(h:a.op=5):Ed a:=by
 intro Z c B0 vN vT vS Bk A s w k e l hc m n;obtain⟨c1,c2,c3,c4⟩:=Eg hc;obtain⟨r1,r2,p,q,r,u,v⟩:=BX c1;have b:∀w2,B9 w w2->AZ Z w2 c B0 vN vT vS (N9) Bk A s:=fun w2 h=>(k.below h).1
 have f:∀w2,B9 w w2->A8 w2:=fun w2 h=>AL _ _ l h
 have d:B7 a.op=true->∃t:Nat,a.t=t/\t<s.nt/\a.t.toNat=t:=fun h=>⟨a.t.toNat,by omega,by have:=c2 h;omega,rfl⟩
 have j:Cp a.op=true->∃i:Nat,a.site=i/\i<s.ns/\a.site.toNat=i:=fun h=>⟨a.site.toNat,by omega,by have:=c3 h;omega,rfl⟩
 refine⟨145,by rw[h];exact fun w=>by kernel_rfl,fun args w=>by kernel_rfl,fun w2 h2=>?_⟩;obtain⟨t,et,g,en⟩:=d (by simp[B7,h]);have o:Df s a=s:=by unfold Df;rw[Cs (by omega),Cs (by omega),Cs (by omega),Cs (by omega),Cs (by omega)]
 have hN:FO s a=B5 (Sf (s.T t)):=by unfold FO;rw[Cs (by omega),Cs (by omega),Cs (by omega),Cs (by omega),Cs (by omega),Cs (by omega),en];unfold Pl.ask;rw[Cs (by omega),Cs (by omega),Zz (e.t t g)];rfl
 rw[o,hN];refine m9 (Rg Z c B0 vN vT vS _ Bk A s a t w2 (b w2 h2) (e.t t g) (f w2 h2) et g e.nt) fun w3 hb=>?_
 exact Fm.read (b w2 h2) hb _
theorem bH{a:Ac}(h:a.op=6):Ed a:=by
 intro Z c B0 vN vT vS Bk A s w k e l hc m n;obtain⟨c1,c2,c3,c4⟩:=Eg hc;obtain⟨r1,r2,p,q,r,u,v⟩:=BX c1;have b:∀w2,B9 w w2->AZ Z w2 c B0 vN vT vS (N9) Bk A s:=fun w2 h=>(k.below h).1
 have f:∀w2,B9 w w2->A8 w2:=fun w2 h=>AL _ _ l h
 have d:B7 a.op=true->∃t:Nat,a.t=t/\t<s.nt/\a.t.toNat=t:=fun h=>⟨a.t.toNat,by omega,by have:=c2 h;omega,rfl⟩
 have j:Cp a.op=true->∃i:Nat,a.site=i/\i<s.ns/\a.site.toNat=i:=fun h=>⟨a.site.toNat,by omega,by have:=c3 h;omega,rfl⟩
 refine⟨146,by rw[h];exact fun w=>by kernel_rfl,fun args w=>by kernel_rfl,fun w2 h2=>?_⟩;obtain⟨t,et,g,en⟩:=d (by simp[B7,h]);have o:Df s a=s:=by unfold Df;rw[Cs (by omega),Cs (by omega),Cs (by omega),Cs (by omega),Cs (by omega)]
 have hN:FO s a=B5 (RH (s.T t)):=by unfold FO;rw[Cs (by omega),Cs (by omega),Cs (by omega),Cs (by omega),Cs (by omega),Cs (by omega),en];unfold Pl.ask;rw[Cs (by omega),C3 h,Zy (e.t t g)];rfl
 rw[o,hN];refine m9 (SS Z c B0 vN vT vS _ Bk A s a t w2 (b w2 h2) (e.t t g) (f w2 h2) et g e.nt) fun w3 hb=>?_
 exact Fm.read (b w2 h2) hb _
theorem bI{a:Ac}(h:a.op=7):Ed a:=by
 intro Z c B0 vN vT vS Bk A s w m n o hc p q;obtain⟨c1,c2,c3,c4⟩:=Eg hc;obtain⟨r1,r2,C,D,E,F,H⟩:=BX c1;have f:∀w2,B9 w w2->AZ Z w2 c B0 vN vT vS (N9) Bk A s:=fun w2 h=>(m.below h).1
 have r:∀w2,B9 w w2->A8 w2:=fun w2 h=>AL _ _ o h
 have g:B7 a.op=true->∃t:Nat,a.t=t/\t<s.nt/\a.t.toNat=t:=fun h=>⟨a.t.toNat,by omega,by have:=c2 h;omega,rfl⟩
 have j:Cp a.op=true->∃i:Nat,a.site=i/\i<s.ns/\a.site.toNat=i:=fun h=>⟨a.site.toNat,by omega,by have:=c3 h;omega,rfl⟩
 refine⟨147,by rw[h];exact fun w=>by kernel_rfl,fun args w=>by kernel_rfl,fun w2 h2=>?_⟩;have l:Df s a=if s.ns=50 then s else{s with ns:=s.ns+1,S:=AM s.S s.ns ⟨a.k.str,-1,0,0,0⟩}:=by unfold Df;rw[Cs (by omega),C3 h]
 have hN:FO s a=if s.ns=50 then AO 5 else B5 s.ns:=by unfold FO;rw[Cs (by omega),C3 h]
 refine(PY Z c B0 vN vT vS Bk A s a w2 (f w2 h2) n.ns).mono ?_;rintro e w3 ⟨b,d,m3,d3,e1,e2⟩;by_cases hn:s.ns=50
 ·obtain⟨e3,u,cu,v,x,B⟩:=e2 hn;rw[l,hN,C3 hn,C3 hn];refine⟨AO 0,5,vN,vT,b,d,e3,d3,.inr ⟨by decide,rfl,Bk,A,_,m3,.inr (.inr (.inl ⟨s.ns,u,cu,v,x,B,Nat.le_succ _,Nat.succ_pos _,by show s.ns+1<=200;omega,⟨rfl,rfl,rfl,rfl,fun _ _=>rfl,fun i hi=>?_⟩⟩))⟩⟩;exact Ag _ _ (by have hi:i<s.ns:=hi;omega)
 ·rw[l,hN,Cs hn,Cs hn];exact⟨B5 s.ns,0,vN,vT,b,d,e1 hn,d3,.inl ⟨rfl,rfl,Bk,A,m3⟩⟩
theorem bJ{a:Ac}(h:a.op=8):Ed a:=by
 intro Z c B0 vN vT vS Bk A s w k l m hc n f;obtain⟨c1,c2,c3,c4⟩:=Eg hc;obtain⟨r1,r2,r,u,v,x,B⟩:=BX c1;have g:∀w2,B9 w w2->AZ Z w2 c B0 vN vT vS (N9) Bk A s:=fun w2 h=>(k.below h).1
 have j:∀w2,B9 w w2->A8 w2:=fun w2 h=>AL _ _ m h
 have b:B7 a.op=true->∃t:Nat,a.t=t/\t<s.nt/\a.t.toNat=t:=fun h=>⟨a.t.toNat,by omega,by have:=c2 h;omega,rfl⟩
 have d:Cp a.op=true->∃i:Nat,a.site=i/\i<s.ns/\a.site.toNat=i:=fun h=>⟨a.site.toNat,by omega,by have:=c3 h;omega,rfl⟩
 refine⟨148,by rw[h];exact fun w=>by kernel_rfl,fun args w=>by kernel_rfl,fun w2 h2=>?_⟩;obtain⟨t,et,o,en⟩:=b (by simp[B7,h]);obtain⟨i,p,hi,e⟩:=d (by simp[Cp,h]);have q:Df s a=Ba s i t:=by unfold Df;rw[Cs (by omega),Cs (by omega),Cs (by omega),C3 h,en,e]
 have hN:FO s a=CL (if 0<=Bg s i t then(s.T t).V (Bg s i t).toNat else CX s.F (s.T t) (A7 (s.S i).key)):=by unfold FO;rw[Cs (by omega),Cs (by omega),Cs (by omega),Cs (by omega),Cs (by omega),C3 h,en,e]
 rw[q,hN];exact NQ Z c B0 vN vT vS _ Bk A s a t i w2 (g w2 h2) l (j w2 h2) et o p hi f
theorem bK{a:Ac}(h:a.op=9):Ed a:=by
 intro Z c B0 vN vT vS Bk A s w k l m hc n f;obtain⟨c1,c2,c3,c4⟩:=Eg hc;obtain⟨r1,r2,u,o,x,B,C⟩:=BX c1;have g:∀w2,B9 w w2->AZ Z w2 c B0 vN vT vS (N9) Bk A s:=fun w2 h=>(k.below h).1
 have j:∀w2,B9 w w2->A8 w2:=fun w2 h=>AL _ _ m h
 have b:B7 a.op=true->∃t:Nat,a.t=t/\t<s.nt/\a.t.toNat=t:=fun h=>⟨a.t.toNat,by omega,by have:=c2 h;omega,rfl⟩
 have d:Cp a.op=true->∃i:Nat,a.site=i/\i<s.ns/\a.site.toNat=i:=fun h=>⟨a.site.toNat,by omega,by have:=c3 h;omega,rfl⟩
 refine⟨149,by rw[h];exact fun w=>by kernel_rfl,fun args w=>by kernel_rfl,fun w2 h2=>?_⟩;obtain⟨t,et,p,en⟩:=b (by simp[B7,h]);obtain⟨i,q,hi,e⟩:=d (by simp[Cp,h]);have r:Df s a=if 0<=Bg s i t/\a.v.kind≠0 then Cg (Ba s i t) t (Dn (s.T t) (Bg s i t).toNat a.v)else BO (Ba s i t) t (A7 (s.S i).key) a.v:=by unfold Df;rw[Cs (by omega),Cs (by omega),Cs (by omega),Cs (by omega),C3 h,en,e]
 have hN:FO s a=if 0<=Bg s i t/\a.v.kind≠0 then AO 0 else AO (C2 (Ba s i t) t (A7 (s.S i).key) a.v):=by unfold FO;rw[Cs (by omega),Cs (by omega),Cs (by omega),C3 h,en,e]
 rw[r,hN];exact NR Z c B0 vN vT vS Bk A s a t i w2 (g w2 h2) l (j w2 h2) et p q hi o f
theorem Tp(a:Ac):Ed a:=by
 by_cases h:1<=a.op/\a.op<=9
 ·rcases(by omega:a.op=1\/a.op=2\/a.op=3\/a.op=4\/a.op=5\/a.op=6\/a.op=7\/a.op=8\/a.op=9)with h|h|h|h|h|h|h|h|h
  ·exact bC h
  ·exact bD h (aK _ _)
  ·exact bE h
  ·exact bF h
  ·exact bG h
  ·exact bH h
  ·exact bI h
  ·exact bJ h
  ·exact bK h
 ·intro Z c B0 vN vT vS Bk A s w e f g hc;obtain⟨c1,_⟩:=Eg hc;obtain⟨_,_,_,_,_,b,d⟩:=BX c1;exact absurd ⟨b,d⟩ h
def Fp(ab:Nat)(a:Ac)(W:Y):Prop:=W.cell? (G ab 0)=some (J a.op)/\W.cell? (G ab 1)=some (J a.t)/\W.cell? (G ab 2)=some (J a.site)/\W.cell? (G ab 3)=some (J a.n)/\W.cell? (G ab 4)=some (J a.k.kind)/\W.cell? (G ab 5)=some (J a.k.num)/\W.cell? (G ab 6)=some (F9 a.k.Ae)/\W.cell? (G ab 7)=some (.string a.k.str)/\W.cell? (G ab 8)=some (J a.k.ref)/\W.cell? (G ab 9)=some (J a.v.kind)/\W.cell? (G ab 10)=some (J a.v.num)/\W.cell? (G ab 11)=some (F9 a.v.Ae)/\W.cell? (G ab 12)=some (.string a.v.str)/\W.cell? (G ab 13)=some (J a.v.ref)
theorem Fp.of{ab:Nat}{a:Ac}{W:Y}(h:OW W ab a):Fp ab a W:=by
 obtain⟨a0,a1,a2,a3,a4,a5,e,f,g,a9,b,c,a12,d⟩:=h.all;exact⟨a0,a1,a2,a3,a4,a5,e,f,g,a9,b,c,a12,d⟩
theorem WD(x:Int)(fn:V9)(w:Y):(Instr.field 148 (.agg #[J x,fn]) 1).run prog w=.ok fn w:=by kernel_rfl
attribute [local go_sem] WD
theorem Yt(Z:Nat->Prop)(c B0:Nat)(vN vT vS:V9)(Bk:Nat->Nat)(A:Nat->Ad)(s:AV)(a:Ac)(w:Y)(L:AZ Z w c B0 vN vT vS (N9) Bk A s)(hG:V7 s)(hT:A8 w)(af:Wf a.k)(ag:5<=B0)(hD:Ed a):
  C9 113 #[Q9 c,IC a] w fun e w'=>Fm Z c B0 vN vT vS (FH s a) (Lk s a) w e w':=by
 have o:=O hD;clear hD;obtain⟨ta,tc,rfl⟩:=Ao L.t;obtain⟨sa,sc,rfl⟩:=Ao L.si;have ah:=hG.nt;have ai:=hG.ns;obtain⟨W,hW,l,hA,hR,hz⟩:=boxes w a;have bf:=L.lt;have i:=L.base;obtain⟨hE,P⟩:=L.enter l;obtain⟨_,c1,c2,_,_⟩:=hE.cells;obtain⟨a0,a1,a2,a3,a4,a5,a6,a7,a8,a9,aj,ak,a12,ao⟩:=hA.all;have aq:w.heap.size<W.heap.size:=by omega
 have ar:c<W.heap.size:=by omega
 have HT:=O (AL _ _ hT l);have HB:=O l;have HA:=O hA;have HQ:=O hR;have HG:=O hG;have HE:=O hE;have Q:=O P;clear L l hA hR hG hT hE P
 go_enter func113,ntmps113
 go_wp2_with fail
 rw[<-hW];clear hW;refine qr W ?_;refine N (h:=N (h:=N (h:=N (h:=N (h:=N (h:=N (h:=N (h:=N (h:=N (h:=N (h:=N (h:=?_))))))))))));refine GS (fun K hK=>?_);go_simp;refine⟨_,fun w' au=>qk au (Uj a s.nt s.ns _ ah ai),hK _ ?_⟩;clear hK K;refine N (h:=?_);refine GO ?_;intro w1 p;have M:=O p;have z1:=p.size;clear p a0 a1 a2 a3 a4 a5 a6 a7 a8 a9 aj ak a12 ao c1 c2 ar aq;by_cases hc:FL a s.nt s.ns=0
 case neg=>
  have b:Hid (FH s a=s/\Lk s a=AO (FL a s.nt s.ns)):=O (by unfold FH Lk;rw[Cs hc,Cs hc];exact⟨rfl,rfl⟩);have HC:=O hc;clear hc;rw[Ts (z HC)];obtain⟨m,R⟩:∃m,m=FL a s.nt s.ns:=⟨_,rfl⟩;rw[<-R]at HC b ⊢;clear R;have q:FK w1 (w.heap.size+1):=HQ.below M (by omega);obtain⟨w4,d,f⟩:=CC q (AO 0);obtain⟨m1,d1⟩:=HE.below M;have hu:Nu (ZB Z w.heap.size W.heap.size) w1 c B0 vN (.slice ta s.nt tc) (.slice sa s.ns sc) (N9) s:=⟨Bk,A,s,m1,.inl ⟨rfl,L0.refl s⟩⟩;obtain⟨f1,f2⟩:=hu.Jd (Q.trans d1) i (by omega) (by omega) q f;have r:Hid (Fm Z c B0 vN (.slice ta s.nt tc) (.slice sa s.ns sc) s (AO m) w (.returned (.tuple #[DS (AO 0),.iface 267 (.agg #[J m])])) w4):=O ⟨AO 0,m,_,_,_,_,by rw[Ts (z HC)],f2,.inr ⟨HC,rfl,f1⟩⟩;have u:=O d;obtain⟨r0,r1,r2,r3,r4,r5,r6,r7,r8,r9,B,C⟩:=An.read f.BR;clear q d f m1 d1 hu f1 f2;go_wp2_with (refine Ak rfl rfl _ u ?_)
  refine DO (v:=.tuple #[DS (AO 0),.iface 267 (.agg #[J m])]) (by simp[results,results113,go_sem,r0,r1,r2,r3,r4,r5,r6,r7,r8,r9,B,C]) rfl ?_;rw[(z b).1,(z b).2];exact r
 have b:Hid (FH s a=Df s a/\Lk s a=FO s a):=O (by unfold FH Lk;rw[C3 hc,C3 hc];exact⟨rfl,rfl⟩);obtain⟨m1,d1⟩:=HE.below M;obtain⟨F,bg,bh,j⟩:=o _ c B0 vN _ _ Bk A s w1 m1 HG (AL _ _ HT M) hc af ag;have D:OW w1 w.heap.size a:=HA.below M (by omega);have S:FK w1 (w.heap.size+1):=HQ.below M (by omega);have av:Fp w.heap.size a w1.drew:=Fp.of (W:=w1) D;have aw:=O D;have ax:=O S;have ay:=O m1;have az:=O (Q.trans d1);have o:=O j;rw[hc];clear hc m1 d1 D S j;have e0:Bp 0=.nilIface:=rfl;rw[e0];clear e0;go_wp2_with fail
 refine H9 (Fp w.heap.size a) ?_;refine tz 1 (h:=tz 2 (h:=tz 5 (h:=tz 6 (h:=?_))));refine ry 0 (fun K hK=>?_);go_simp;refine m9 (Ke _) fun w2 g=>?_
 have g:B9 w1 w2:=Below.trans (DD _ _).drew g;have E:OW w2 w.heap.size a:=aw.below g (by omega);have T:FK w2 (w.heap.size+1):=ax.below g (by omega);have U:Fp w.heap.size a w2:=Fp.of E;obtain⟨m2,d2⟩:=ay.below g;have V:=O m2;have aM:=O (az.trans d2);have X:=O E;have ae:=O T;have bb:=O (o w2 g);refine hK.out _ _ U (fun _=>?_);clear hK K av g m2 d2 E T;refine tz 3 (h:=tz 4 (h:=?_));refine ry 7 (fun K hK=>?_);go_simp;refine bb.mono ?_;intro e w3 hD;obtain⟨_,_,_,hd⟩:=hD.dst;have H:OW w3 w.heap.size a:=(hd.boxes V X (.inr (.inr (.inr rfl)))).trans X;have I:FK w3 (w.heap.size+1):=(hd.boxes V ae (.inr (.inr (.inl rfl)))).trans ae;have bc:Fp w.heap.size a w3:=Fp.of H;obtain⟨x,m,rfl,n⟩:=Fm.fin aM hD i (by omega) (by omega) I;obtain⟨w4,d,f⟩:=CC I x;have r:=O (n w4 f);have ad:Fp w.heap.size a w4:=Fp.of (W:=w4) ((f.other _ (by omega)).trans H);have u:=O d;have bd:=O f;refine hK.out _ _ bc (fun _=>?_);clear hK K U hD hd H I n d f;refine tz 8 (h:=tz 9 (h:=?_));refine ry 10 (fun K hK=>?_);refine Cm rfl rfl _ u ?_;refine hK.out _ _ ad (fun _=>?_);clear hK K;refine tz 11 (h:=?_);refine FM ?_;obtain⟨r0,r1,r2,r3,r4,r5,r6,r7,r8,r9,B,C⟩:=An.read bd.BR;go_wp2_with fail
 refine DO (v:=.tuple #[DS x,Bp m]) (by simp[results,results113,go_sem,r0,r1,r2,r3,r4,r5,r6,r7,r8,r9,B,C]) rfl ?_;rw[(z b).1,(z b).2];exact r
end
theorem Gc.dst{Z O':Nat->Prop}{w w':Y}(h:Gc w)(a:BG Z w O' w')(b:¬Z 0):Gc w':=
 (As (a.block _ h.lt b)).trans h
section
def aN(Z:Nat->Prop)(c B0:Nat)(vN vT vS:V9)(s':AV)(x:An)(w:Y)(e:Ending)(w':Y):Prop:=
 e=.returned (DS x)/\∃a b d f Bk' A',AZ Z w' c B0 a b d f Bk' A' s'/\BG (Aq B0 c vN vT vS w) w (Aq B0 c a b d w') w'
theorem Yq(Z:Nat->Prop)(c B0:Nat)(vN vT vS vU:V9)(Bk:Nat->Nat)(A:Nat->Ad)(s:AV)(a:Ac)(w:Y)(U:AZ Z w c B0 vN vT vS vU Bk A s)(hG:V7 s)(hT:A8 w)(au:Wf a.k)(av:5<=B0)(E:Gc w)(bp:0<B0)(hD:Ed a):
  C9 57 #[Q9 c,IC a] w fun e w'=>aN Z c B0 vN vT vS (FH s a) (Lk s a) w e w':=by
 obtain⟨W,hW,l,hA,hR,hz⟩:=boxes w a;have bq:=U.lt;have f:=U.base;obtain⟨hE,V⟩:=U.enter l;obtain⟨_,_,_,c3,cf⟩:=hE.cells;have f3:=cf 3;obtain⟨mU,r⟩:=hE.gG (ua:=none) (un:=0) (uc:=0);obtain⟨d,g⟩:∃d,d=W.setCell (G c 3) (N9):=⟨_,rfl⟩;rw[<-g]at mU r;have b:∀k,k≠c->d.heap[k]?=W.heap[k]?:=fun k hk=>by rw[g];exact At _ _ _ _ (by exact hk)
 have F:OW d w.heap.size a:=(b _ (by omega)).trans hA;have X:FK d (w.heap.size+1):=(b _ (by omega)).trans hR;have ad:A8 d:=by
  have m:A8 W:=AL _ _ hT l;exact m.below (B:=B0) ⟨r.os,r.tape,r.output,r.size,fun q hq=>r.block q (by omega) (fun e=>by have:=(hE.Lc e).1;omega)⟩ (by omega)
 have ae:Gc d:=(As (a:=(G 0 0)) (b 0 (by have:=U.ge;omega))).trans (E.below l E.lt);have aw:∃u,W.cell? (G c 3)=some u:=⟨_,c3⟩;obtain⟨a0,a1,a2,a3,a4,a5,a6,a7,a8,a9,ax,ay,a12,az⟩:=F.all;have aM:=O (Yt _ c B0 vN vT vS Bk A s a d mU hG ad au av hD);clear hD;have af:=O mU;have bb:=O (V.trans r);have br:=O F;have ag:=O X;have bc:=O ae;have ah:=O g;have z0:d.heap.size=W.heap.size:=by rw[g];simp
 have zc:c<W.heap.size:=by omega
 have bt:w.heap.size<d.heap.size:=by omega
 have bu:w.heap.size+1<d.heap.size:=by omega
 have zz:W.heap.size<=d.heap.size:=by omega
 clear U hG hT E l hA hR hE V mU r b F X ad ae cf z0 aw g
 go_enter func57,ntmps57
 go_upto_region 1 with fail
 rw[<-hW];clear hW;go_upto_region 2 with fail
 rw[<-z ah];clear ah c3 f3;go_wp2_with fail
 refine aM.mono ?_;rintro e w1 ⟨x,t,bw,bx,bz,b0,rfl,hd,i⟩;have ai:FK w1 (w.heap.size+1):=(hd.boxes af ag (.inr (.inr (.inl rfl)))).trans ag;have bd:=O ai;have aj:=O (bb.trans hd);have bf:=O i;have z1:d.heap.size<=w1.heap.size:=hd.size;have ak:Hid (Gc w1):=O (bc.dst hd (fun h=>by have:=(af.Lc h).1;omega));clear hd ai i a0 a1 a2 a3 a4 a5 a6 a7 a8 a9 ax ay a12 az;rw[show DS x=eE x from rfl];have HF:Hid (∀w4,w4=w1.alloc (.cells (EX x).toArray 45)->B9 w1 w4/\w4.heap[w1.heap.size]?=some (.cells (EX x).toArray 45 (0,0))):=O (fun w4 h=>by
  exact⟨by rw[h];exact(DD _ _).alloc (A0 _) _,by rw[h];exact BE _ _⟩)
 go_upto_region 3 with(refine Ak rfl rfl _ (X8 w1 x) ?_)
 generalize ao:w1.alloc (.cells (EX x).toArray 45)=w4;obtain⟨H,aq⟩:=z HF _ ao.symm;have n:=O aq;have I:=O H;have z4:=H.size;clear ao H aq HF;go_wp2_with fail
 refine m9 (RJ t _ (ak.below I (by have:=ak.lt;exact this))) fun w5 o=>?_
 have bg:Hid (w5.heap[w1.heap.size]?=some (.cells (EX x).toArray 45 (0,0))):=O ((o.block _ (Aj n)).trans n);have K:=O (I.trans (o.mono z4));have z5:w1.heap.size<w5.heap.size:=Be (Aj n) o.size;have ar:FK w5 (w.heap.size+1):=bd.below K (by omega);have p:=O ar;clear o n I ar;rcases z bf with⟨m,hx,Bk',A',m3⟩|⟨m,hx,u3⟩
 ·have d0:(t !=0)=false:=by simp[m]
  have d1:(t==0)=true:=by simp[m]
  obtain⟨m5,j⟩:=m3.below K;obtain⟨w6,C,L⟩:=CC p x;obtain⟨f1,f2⟩:=m5.Jd (aj.trans j) f (by omega) (by omega) p L;have M:Hid (aN Z c B0 vN vT vS (FH s a) (Lk s a) w (.returned (DS x)) w6):=O ⟨by rw[hx],_,_,_,_,_,_,f1,f2⟩;have P:=O C;obtain⟨r0,r1,r2,r3,r4,r5,r6,r7,r8,r9,Q,R⟩:=An.read L.BR;have bh:Hid (w5.heap[w1.heap.size]?=some (.cells #[J x.code,J x.num,J x.key.kind,J x.key.num,F9 x.key.Ae,.string x.key.str,J x.key.ref,J x.val.kind,J x.val.num,F9 x.val.Ae,.string x.val.str,J x.val.ref] 45 (0,0))):=O bg;clear m hx m3 m5 j C L f1 f2;go_wp2_with (first|(refine Aan rfl 45 _ rfl w1.heap.size rfl _ _ _ _ bh underlying45 rfl (by kernel_rfl) ?_)|(refine Ak rfl rfl _ P ?_))
  refine DO (v:=DS x) (by simp[results,results57,go_sem,r0,r1,r2,r3,r4,r5,r6,r7,r8,r9,Q,R]) rfl M
 ·have d0:(t !=0)=true:=by simp[m]
  have d1:(t==0)=false:=by simp[m]
  obtain⟨u5,j⟩:=u3.below K;have bj:=O (VO u5);have bk:=O hx;have bm:=O (aj.trans j);have bn:=O u5;clear m hx u3 u5 j;go_wp2_with fail
  refine bj.mono ?_;rintro e w6 ⟨⟨uu,rfl⟩,b1,b2,b3,b4,A2,m6,d6⟩;obtain⟨_,_,_,mu,_⟩:=z bn;have S:FK w6 (w.heap.size+1):=(d6.boxes mu p (.inr (.inr (.inl rfl)))).trans p;obtain⟨w7,D,T⟩:=CC S (AO t);obtain⟨f1,f2⟩:=m6.Jd (bm.trans d6) f (by omega) (by omega) S T;have M:Hid (aN Z c B0 vN vT vS (FH s a) (Lk s a) w (.returned (DS (AO t))) w7):=O ⟨by rw[z bk],_,_,_,_,_,_,f1,f2⟩;have P:=O D;obtain⟨r0,r1,r2,r3,r4,r5,r6,r7,r8,r9,Q,R⟩:=An.read T.BR;clear m6 d6 mu S D T f1 f2;go_wp2_with (refine Ak rfl rfl _ P ?_)
  refine DO (v:=DS (AO t)) (by simp[results,results57,go_sem,r0,r1,r2,r3,r4,r5,r6,r7,r8,r9,Q,R]) rfl M
noncomputable def CV(a:AV)(f:Nat->Ac):Nat->AV
 |0=>a
 |q+1=>FH (CV a f q) (f q)
noncomputable def Mg(a:AV)(f:Nat->Ac)(q:Nat):An:=Lk (CV a f q) (f q)
theorem SK{M:Nat}{s:AV}(j:Fg M s)(p:s.nt=0)(a:Ac)(b:Wf a.k)(c:Wf a.v):Fg M (FH s a):=by
 have h:=OM j a b c;refine⟨h.f,h.nt,h.ns,fun i hi=>⟨(h.t i hi).way,(h.t i hi).wf,?_⟩,h.si⟩;unfold FH at hi ⊢
 split at hi
 ·rename_i hc
  rw[C3 hc];obtain⟨c1,c2,c3,c4⟩:=Eg hc;obtain⟨r1,r2,q,r,u,_,_⟩:=BX c1;have g:B7 a.op=true->False:=fun e=>by have:=c2 e;omega
  unfold Df at hi ⊢
  split at hi
  ·rename_i h1
   rw[C3 h1];rw[Cs (by omega)]at hi ⊢;have hi:i<s.nt+1:=hi;show(AM s.T s.nt SL i).d.m<=M;rw[show i=s.nt by omega,Ah];exact P9 _
  ·rename_i h1
   rw[Cs h1]
   split at hi
   ·rename_i o
    rw[Cs (by have:=j.ns;intro e;rw[C3 e]at hi;omega)]at hi;have hi:i<s.nt:=hi;omega
   ·rename_i o
    by_cases h2:a.op=2
    ·exact(g (by rw[h2];rfl)).elim
    ·rw[Cs h2]at hi;by_cases l:a.op=8
     ·exact(g (by rw[l];rfl)).elim
     ·rw[Cs l]at hi;by_cases n:a.op=9
      ·exact(g (by rw[n];rfl)).elim
      ·rw[Cs n]at hi;omega
 ·omega
theorem N2{c:AV}(d:Fg 0 c)(b:c.nt=0){f:Nat->Ac}{n:Nat}(a:∀i,i<n->Wf (f i).k/\Wf (f i).v):∀q,q<=n->Fg (4002*(q-1)) (CV c f q)
 |0,_=>d
 |1,h=>SK d b _ (a 0 h).1 (a 0 h).2
 |q+2,h=>by
  have h1:=OM (N2 d b a (q+1) (by omega)) (f (q+1)) (a (q+1) h).1 (a (q+1) h).2;exact h1.mono (by simp;omega)
theorem Jt{a:AV}(d:Fg 0 a)(b:a.nt=0){f:Nat->Ac}{n:Nat}(c:∀i,i<n->Wf (f i).k/\Wf (f i).v)(hn:n<=1000){q:Nat}(hq:q<=n):V7 (CV a f q):=
 (N2 d b c q hq).mono (by omega)
theorem AZ.jQ{Z:Nat->Prop}{w w':Y}{c B0:Nat}{vN vT vS vU:V9}{Bk:Nat->Nat}{A:Nat->Ad}{s:AV}(h:AZ Z w c B0 vN vT vS vU Bk A s){b:Nat}{cs:Array Value}{ty:TypeId}(hb:Z b)(l:B0<=b)(hn:¬Aq B0 c vN vT vS w b)(hg:w.grownBy w' (some b))(hc:w'.heap[b]?=some (.cells cs ty (0,0)))(v:ty≠208):
  AZ Z w' c B0 vN vT vS vU Bk A s/\¬Aq B0 c vN vT vS w' b/\∀k,Aq B0 c vN vT vS w' k->Aq B0 c vN vT vS w k\/w.heap.size<=k:=by
 have hk:∀k,k<w.heap.size->k≠b->w'.heap[k]?=w.heap[k]?:=fun k h1 h2=>hg.block k h1 (fun e=>h2 (by cases e;rfl))
 have m:¬DU 208 w' b:=by
  rintro(⟨x,hx⟩|⟨es,x,hx⟩)
  ·rw[hc]at hx;cases hx;exact v rfl
  ·rw[hc]at hx;cases hx
 have o:∀k,Aq B0 c vN vT vS w' k->Aq B0 c vN vT vS w k\/w.heap.size<=k:=fun k e=>by
  rcases e with e|e|e|e|⟨e1,e2⟩
  ·exact .inl (.inl e)
  ·exact .inl (.inr (.inl e))
  ·exact .inl (.inr (.inr (.inl e)))
  ·exact .inl (.inr (.inr (.inr (.inl e))))
  ·by_cases a:k=b
   ·subst a;exact absurd e2 m
   ·by_cases p:k<w.heap.size
    ·refine .inl (.inr (.inr (.inr (.inr ⟨e1,?_⟩))));unfold DU at*;rw[hk k p a]at e2;exact e2
    ·exact .inr (by omega)
 have B:=h.z b hb;have j:∀k,Aq B0 c vN vT vS w k->w'.heap[k]?=w.heap[k]?:=fun k e=>hk k (h.Lc e).2 (fun e'=>hn (e'▸e))
 obtain⟨X,M,hN,hid⟩:=h.nd;refine⟨⟨(j c (.inl rfl)).trans h.BR,h.ge,Ai h.n (fun g e=>j g (.inr (.inl e))),⟨X,M,hN.keep (fun b' d=>?_),hid⟩,Ai h.t (fun g e=>j g (.inr (.inr (.inl e)))),Ai h.si (fun g e=>j g (.inr (.inr (.inr (.inl e))))),h.u,fun k e=>Be (h.z k e) hg.size,fun i hi q hs r=>?_⟩,fun e=>(o b e).elim hn (fun e=>by omega),o⟩
 ·by_cases f:b'=b
  ·subst f;exact absurd (.inr (.inr (.inr (.inr ⟨l,d⟩)))) hn
  ·exact hk b' (Hq d) f
 ·exact h.rd i hi q (FZ hg.size hs) (fun k k1 k2=>(r k (Be k1 hg.size) (fun e=>k2 (e.elim (fun e=>(o k e).elim .inl (fun e=>by omega)) .inr))).trans (hk k k1 (fun e=>k2 (.inr (e▸hb)))))
structure LZ (w:Y) (B c rb n:Nat) (a:AV) (f:Nat->Ac) (q:Nat) (wr:Y):Prop where
 wk:∃vN vT vS vU Bk A,AZ (fun k=>k=rb) wr c B vN vT vS vU Bk A (CV a f q)/\¬Aq B c vN vT vS wr rb
 row:wr.ownsRow B 45 12 (S9 rb q n) q (Mf (Mg a f) q)
 below:Below B w wr
theorem LZ.step{w:Y}{B c rb n:Nat}{b:AV}{f:Nat->Ac}{q:Nat}{wr w3 w4 g:Y}(d:w4.ownsRow B 45 12 (S9 rb q n) q (Mf (Mg b f) q))
  {vN vT vS vU:V9} {Bk:Nat->Nat} {A:Nat->Ad} (h:AZ (fun k=>k=rb) w4 c B vN vT vS vU Bk A (CV b f (q+1))) (hn:¬Aq B c vN vT vS w4 rb) (hb:Below B w w4)
  (h5:w4.grownBy g (some rb)) (a:g.ownsRow B 45 12 (S9 rb (q+1) n) (q+1) (Mf (Mg b f) q++EX (Mg b f q))):LZ w B c rb n b f (q+1) g:=by
 have i:=d.lt rb rfl;obtain⟨cur,hc,_⟩:=A3 a (q:=rb) rfl;obtain⟨m1,m2,_⟩:=h.jQ rfl i.1 hn h5 hc (by decide);exact⟨⟨_,_,_,_,_,_,m1,m2⟩,a,⟨h5.os.trans hb.os,h5.tape.trans hb.tape,h5.output.trans hb.output,FZ hb.size h5.size,fun k hk=>(h5.block k (by have:=hb.size;have:=h.base;omega) (fun e=>by cases e;omega)).trans (hb.block k hk)⟩⟩
abbrev iQ(c:Nat):Value:=.func (.func 57) #[Q9 c] #[]
theorem Pf(c B ab ag:Nat)(vN vT vS vU:V9)(Bk:Nat->Nat)(A:Nat->Ad)(d:AV)(n:Nat)(f:Nat->Ac)(w:Y)(hn:n<=1000)(hab:ab<B)(hcs:∀i,i<n->∀j u,(Bn (f i)).toList[j]?=some u->w.cell? (G ab (i*14+j))=some u)(hM:AZ (fun _=>False) w c B vN vT vS vU Bk A d)(hG:∀q,q<=n->V7 (CV d f q))(M:∀i,i<n->Wf (f i).k)(hT:A8 w)(Q:5<=B)(hE:Gc w)(hB:0<B)(hD:∀i,i<n->Ed (f i)):
  C9 69 #[iQ c,S9 ab n ag] w fun e w'=>e=.returned (S9 w.heap.size n n)/\LZ w B c w.heap.size n d f n w':=by
 have ah:=O hD;clear hD;have R:B<=w.heap.size:=hM.base;obtain⟨i0,S,ai,T,aj⟩:=Tn TF;obtain⟨W,bh,b,l⟩:=run_make_own (P:=prog) w B 60 45 i0 (.agg Ns) 12 underlying60 S ai T .i64 .i64 n (by rw[aj];omega) (by unfold maxLen;omega) R;have v:B9 w W:=Jw l (fun q e=>by cases e) (A0 _);have U:=(b.lt w.heap.size rfl).2;have H0:Hid (LZ w B c w.heap.size n d f 0 W):=O (by
  obtain⟨m1,d1⟩:=hM.enter v;refine⟨⟨vN,vT,vS,vU,Bk,A,m1.leave (fun k e=>.inr (by subst e;exact⟨A0 _,U⟩)),fun e=>?_⟩,b,v.mono R⟩;obtain⟨cur,hc,_⟩:=A3 b (q:=w.heap.size) rfl;rcases e with e|e|e|e|⟨_,e⟩
  ·exact m1.BS b (by decide) (by rw[e];rfl)
  ·exact DC m1.n b (by decide) e rfl
  ·exact DC m1.t b (by decide) e rfl
  ·exact DC m1.si b (by decide) e rfl
  ·exact Dp b (by decide) rfl e)
 obtain⟨rb,C⟩:∃rb,rb=w.heap.size:=⟨_,rfl⟩;have ak:=O hcs;have HE:=O hE;have HT:=O hT;have HG:=O hG;have ao:=O M;clear hcs hM hE hT hG M b l v
 go_enter func69,ntmps69
 go_wp2_with fail
 rw[<-C]at H0 U ⊢;have bf:B<=rb:=by omega
 go_loopw [5,13] (fun o ix wr=>∃(q:Nat),q<=n/\ix=J q/\o=S9 rb q n/\LZ w B c rb n d f q wr) (fun _ ix _=>n-(intOf ix).toNat)
 case atStart=>exact⟨0,P9 _,rfl,rfl,H0⟩
 case round=>
  have aq:=O C;clear H0 C;obtain⟨q,hq,rfl,rfl,D⟩:=hrel;have HR:=O D;have bj:w.heap.size<=wr.heap.size:=D.below.size;have bg:ab<wr.heap.size:=by omega
  by_cases E:q<n
  ·obtain⟨ar,au,av,aw,ax,A1,F,V⟩:=D.wk;have a:∀j u,(Bn (f q)).toList[j]?=some u->wr.cell? (G ab (q*14+j))=some u:=fun j u hu=>(D.below.cell (p:=(G ab (q*14+j))) hab).trans (ak q E j u hu)
   have b0:=a 0 _ rfl;have b1:=a 1 _ rfl;have b2:=a 2 _ rfl;have b3:=a 3 _ rfl;have b4:=a 4 _ rfl;have b5:=a 5 _ rfl;have b6:=a 6 _ rfl;have b7:=a 7 _ rfl;have b8:=a 8 _ rfl;have b9:=a 9 _ rfl;have ay:=a 10 _ rfl;have az:=a 11 _ rfl;have aM:=a 12 _ rfl;have a6:=a 13 _ rfl;rw[Nat.add_zero]at b0;have H:B9 wr (wr.alloc (.cells (Bn (f q)) 51)):=n9;obtain⟨m2,d2⟩:=F.below H;have h:=D.below.trans (H.mono (by omega:B<=wr.heap.size));have m:=O (Yq _ c B ar au av aw ax A1 (CV d f q) (f q) _ m2 (HG q hq) (HT.below h Q) (ao q E) Q (HE.below h hB) hB (ah q E));have X:=O d2;have Z:=O V;have bk:=O h;have ad:=O F;clear D a F V H m2 d2 h;go_wp2_with fail
   refine m.mono ?_;rintro e w3 ⟨rfl,bm,bn,bp,bq,br,A2,ae,I⟩;obtain⟨x,hx⟩:∃x,Mg d f q=x:=⟨_,rfl⟩;rw[show Lk (CV d f q) (f q)=x from hx];have a7:=O hx;have z3:wr.heap.size+1<=w3.heap.size:=by have:=I.size;simpa using this
   have a8:rb<wr.heap.size:=(HR.row.lt rb rfl).2;have af:Hid ((w3.alloc (.cells (EX x).toArray 45)).ownsRow B 45 12 (S9 rb q n) q (Mf (Mg d f) q)/\∀L,L.ownsRow B 45 12 (S9 rb (q+1) n) (q+1) (Mf (Mg d f) q++EX x)->(w3.alloc (.cells (EX x).toArray 45)).grownBy L (some rb)->LZ w B c rb n d f (q+1) L):=O (by
    have bb:B9 w3 (w3.alloc (.cells (EX x).toArray 45)):=n9;obtain⟨m4,d4⟩:=ae.below bb;have K:=(X.trans I).trans d4;have r:(w3.alloc (.cells (EX x).toArray 45)).ownsRow B 45 12 (S9 rb q n) q (Mf (Mg d f) q):=Ai HR.row (fun k e=>by cases e;exact K.block _ a8 Z);refine⟨r,fun L k1 k2=>LZ.step (w3:=w3) (wr:=wr) r m4 (fun e=>(K.own _ e).elim Z (fun e=>by omega)) ?_ k2 (by rw[z a7];exact k1)⟩;have hb:=HR.below;exact⟨K.os.trans hb.os,K.tape.trans hb.tape,K.output.trans hb.output,FZ hb.size K.size,fun k hk=>(K.block k (by omega) (fun e=>by have:=(ad.Lc e).1;omega)).trans (hb.block k hk)⟩)
   clear ae I hx b0 b1 b2 b3 b4 b5 b6 b7 b8 b9 ay az aM a6 m X ad;go_wp2_with (first|(at_builtin;refine wpList_append_fits _ rfl _ _ 60 rfl B 45 i0 12 underlying60 S T rb q n (Mf (Mg d f) q) rfl af.1 (y w3 0) 1 1 (EX x) rfl rfl (GP (BE w3 _)) (Pc x) (by omega) ?_;intro L g s;have bc:=O (af.2 L g s);clear g s)|go_in)
   go_roundw
   case rel=>exact⟨q+1,by omega,by go_num,rfl,bc⟩
   case measure=>simp[intOf];omega
  ·have bd:q=n:=by omega
   subst bd;clear D;go_wp2_with fail
   go_ret;rw[<-z aq];exact⟨rfl,HR⟩
theorem O5.of{f:Nat->Vl}{n B:Nat}{w:Y}{v:V9}(h:EZ w B v n f):O5 f n w v B w.heap.size:=by
 have b:=h.lt;obtain⟨hl,⟨c,d⟩|⟨g',cap,cur,c,hb,a,h1,h2,h3,h4⟩⟩:=h
 ·exact .inl ⟨d,c⟩
 ·subst c;refine .inr ⟨g',cap,cap*5,fun j=>(cur[j]?).getD undef,rfl,hb,(b g' rfl).2,⟨cur,a,h3,fun i hi=>by simp[Aaw (show i<cur.size by omega)]⟩,by omega,fun j hj=>?_⟩;have h5:=PX (f:=f) (n:=n) (i:=j/5) (j:=j%5) (by omega) (by omega);rw[show j/5*5+j%5=j by omega,<-h4,AaU,C3 hj,Array.getElem?_toList]at h5;show(cur[j]?).getD undef=_;rw[h5];rfl
theorem O0.news{w:Y}{a:Option Addr}{n:Nat}{f:Nat->Pr}(h:O0 w a n f):n=0\/∃d,a=some d/\∀j u,(pL f n)[j]?=some u->w.cell? (d.add j)=some u:=by
 rcases h with h|⟨b,off,e,g,hc⟩
 ·exact .inl h
 ·refine .inr ⟨_,e,fun j u hu=>?_⟩;have c:((G b off):Addr).add j=(G b (off+j)):=by unfold Addr.add;split<;>simp_all
  rw[c];have hj:j<n*11:=by
   have:=(On.1 hu).1
   rwa [DZ]at this
  obtain⟨i,r,hi,k,e⟩:∃i r,i<n/\r<11/\j=i*11+r:=⟨j/11,j%11,by omega,by omega,by omega⟩;subst e;rw[Kq hi k]at hu;obtain⟨c0,c1,c2,c3,c4,c5,c6,c7,m,o,l⟩:=hc i hi;rw[<-Nat.add_assoc];rcases r with _|_|_|_|_|_|_|_|_|_|_|r;all_goals first|(cases hu;assumption)|omega
theorem V5.news{w:Y}{a:Option Addr}{n:Nat}{f:Nat->Int}(h:V5 w a n f):n=0\/∃d,a=some d/\∀j u,(iL f n)[j]?=some u->w.cell? (d.add j)=some u:=by
 rcases h with h|⟨b,off,e,g,hc⟩
 ·exact .inl h
 ·refine .inr ⟨_,e,fun j u hu=>?_⟩;have c:((G b off):Addr).add j=(G b (off+j)):=by unfold Addr.add;split<;>simp_all
  rw[c];have hj:j<n:=by
   have:=(On.1 hu).1
   rwa [Cr]at this
  rw[GF hj]at hu;cases hu;exact hc j hj
theorem WZ(f:Nat->Int)(n:Nat):∀u∈iL f n,u.oneCell'=true:=by
 intro u hu;obtain⟨j,hj,rfl⟩:=List.getElem_of_mem hu;have a:j<n:=by rwa [Cr]at hj
 have:=GF (f:=f) a;rw[List.getElem?_eq_getElem hj]at this;rw[Aaj this];rfl
theorem Il{w W w':Y}{B:Nat}(hb:Below B w W)(a:B<=W.heap.size)(hg:W.grownBy w' none):Below B w w':=⟨hg.os.trans hb.os,hg.tape.trans hb.tape,hg.output.trans hb.output,FZ hb.size hg.size,fun k hk=>(hg.block k (by omega) (by simp)).trans (hb.block k hk)⟩
theorem fK:(prog.info? 92).map (·.size)=some 6:=by kernel_rfl
theorem Pg(la:T9)(lc:Nat)(ia:T9)(ic:Nat)(xa:T9)(xc:Nat)(d:Dc)(w:Y)(hD:Gy w la ia xa d)(hS:Small d):
  C9 356 #[Dv la lc ia ic xa xc d] w fun e w'=>(∃v0 v1 v2,e=.returned (Z0 v0 v1 v2 d)/\DV d w' v0 v1 v2 w.heap.size w'.heap.size)/\B9 w w':=by
 obtain⟨i0,bm,bn,bp,bq⟩:=Tn Gi;obtain⟨j0,ag,ah,ai,aj⟩:=Tn TG;have hn:=hS.n;have hm:=hS.m;have hx:=hS.x;obtain⟨W,hW⟩:∃W,W=(w.alloc (.cells #[.slice la d.n lc,.slice ia d.m ic,.slice xa d.x xc,J d.used,J d.live,J d.turns] 92)).alloc (.cells D0 92):=⟨_,rfl⟩;have S:B9 w W:=by rw[hW];exact(n9).alloc (by simp) _
 have ak:W.heap.size=w.heap.size+1+1:=by rw[hW];simp
 have b0:W.heap[w.heap.size]?=some (.cells #[.slice la d.n lc,.slice ia d.m ic,.slice xa d.x xc,J d.used,J d.live,J d.turns] 92 (0,0)):=by
  rw[hW];exact(Fs _ _ _ (by simp)).trans (BE _ _)
 have b1:W.heap[w.heap.size+1]?=some (.cells D0 92 (0,0)):=by
  rw[hW];have h1:=BE (w.alloc (.cells #[.slice la d.n lc,.slice ia d.m ic,.slice xa d.x xc,J d.used,J d.live,J d.turns] 92)) (.cells D0 92);simpa using h1
 have br:=O (O0.news (hD.log.below S rfl));have bt:=O S;have ao:=O (And.intro b0 b1);have aq:=O hD;clear S b0 b1 hD hS
 go_enter func356,ntmps356
 go_upto_region 2 with(at_builtin;rw[<-hW];refine Cn rfl _ _ 85 rfl w.heap.size 96 i0 PZ 11 104 underlying85 bm bn bp bq rfl (by decide) rfl la d.n lc (pL d.L d.n) rfl (DZ _ _) br (Xy _ _) (by unfold maxLen;omega) (by omega) (by omega) (w.heap.size+1+1) ak ?_;intro a1 c1 w1 o h p;have f:=(h.block w.heap.size (by omega) (by simp)).trans ao.1;have M:=(h.block (w.heap.size+1) (by omega) (by simp)).trans ao.2;have x0:w1.cell? (G w.heap.size 0)=some (.slice la d.n lc):=(by simp[World.cell?,f]);have xf:w1.frozen? (G w.heap.size 0)=false:=(by simp[World.frozen?,f]);have l0:=Aj f;have ar:=O (Il bt (by omega) h);have au:=O o;have T:=O p;have l:=O (And.intro f M);clear h o p f M)
 obtain⟨w2,i⟩:∃w2,w2=w1.setCell (G w.heap.size 0) (.slice a1 d.n c1):=⟨_,rfl⟩;rw[<-i];have o2:∀k,k≠w.heap.size->w2.heap[k]?=w1.heap[k]?:=fun k hk=>by rw[i];exact At _ _ _ _ (by exact hk)
 have e2:w2.heap[w.heap.size]?=some (.cells #[.slice a1 d.n c1,.slice ia d.m ic,.slice xa d.x xc,J d.used,J d.live,J d.turns] 92 (0,0)):=by rw[i];exact(GW _ _ _ _ _ _ l.1).trans (by simp)
 have f2:=(o2 (w.heap.size+1) (by omega)).trans l.2;have E:B9 w w2:=by rw[i];exact ar.setCell (A0 _) _
 have z2:w2.heap.size=w1.heap.size:=by rw[i];simp
 have ad:w.heap.size+1<w1.heap.size:=Aj l.2;have U:=O (Ai (w':=w2) au (fun q e=>o2 q (by have:=z T q e;omega)));have av:∀q,(Value.slice a1 d.n c1).ownBlock=some q->w.heap.size+1<q/\q<w2.heap.size:=fun q e=>⟨by have:=z T q e;omega,(U.lt q e).2⟩
 have aw:=O (V5.news (aq.ints.below E rfl));have y1:w2.cell? (G w.heap.size 1)=some (.slice ia d.m ic):=by simp[World.cell?,e2]
 have ly:=Aj e2;have V:w.heap.size<=w2.heap.size:=E.size;have ax:=O E;have j:=O (And.intro e2 f2);have r:=O av;clear i o2 e2 f2 E z2 ad av x0 xf l0 l au ar T ak;go_upto_region 3 with(at_builtin;refine Cn rfl _ _ 90 rfl w.heap.size 3 j0 (J 0) 1 8 underlying90 ag ah ai aj rfl (by decide) rfl ia d.m ic (iL d.I d.m) rfl (by rw[Cr,Nat.mul_one]) aw (WZ _ _) (by unfold maxLen;omega) (by omega) V w2.heap.size rfl ?_;intro a3 c3 w3 s g t;have f:=(g.block w.heap.size (Aj j.1) (by simp)).trans j.1;have M:=(g.block (w.heap.size+1) (Aj j.2) (by simp)).trans j.2;have x0:w3.cell? (G w.heap.size 1)=some (.slice ia d.m ic):=(by simp[World.cell?,f]);have xf:w3.frozen? (G w.heap.size 1)=false:=(by simp[World.frozen?,f]);have l0:=Aj f;have ay:=O (Il ax V g);have az:=O s;have aM:=O (Ai (w':=w3) U (fun q e=>g.block q (r q e).2 (by simp)));have F:=O t;have l:=O (And.intro f M);clear g s t f M)
 clear y1 ly;obtain⟨w4,u⟩:∃w4,w4=w3.setCell (G w.heap.size 1) (.slice a3 d.m c3):=⟨_,rfl⟩;rw[<-u];have o4:∀k,k≠w.heap.size->w4.heap[k]?=w3.heap[k]?:=fun k hk=>by rw[u];exact At _ _ _ _ (by exact hk)
 have e4:w4.heap[w.heap.size]?=some (.cells #[.slice a1 d.n c1,.slice a3 d.m c3,.slice xa d.x xc,J d.used,J d.live,J d.turns] 92 (0,0)):=by rw[u];exact(GW _ _ _ _ _ _ l.1).trans (by simp)
 have f4:=(o4 (w.heap.size+1) (by omega)).trans l.2;have H:B9 w w4:=by rw[u];exact ay.setCell (A0 _) _
 have ae:w.heap.size+1<w2.heap.size:=Aj j.2;have a6:=O (Ai (w':=w4) az (fun q e=>o4 q (by have:=z F q e;omega)));have a7:=O (Ai (w':=w4) aM (fun q e=>o4 q (by have:=(r q e).1;omega)));have a8:∀q,(Value.slice a3 d.m c3).ownBlock=some q->w.heap.size+1<q/\q<w4.heap.size/\w2.heap.size<=q:=fun q e=>⟨by have:=z F q e;omega,(a6.lt q e).2,by have:=z F q e;omega⟩
 have P:∀q,(Value.slice a1 d.n c1).ownBlock=some q->w.heap.size+1<q/\q<w4.heap.size/\q<w2.heap.size:=fun q e=>⟨(r q e).1,(a7.lt q e).2,(r q e).2⟩
 have bu:=O (V5.news (aq.index.below H rfl));have y2:w4.cell? (G w.heap.size 2)=some (.slice xa d.x xc):=by simp[World.cell?,e4]
 have ly:=Aj e4;have bb:w.heap.size<=w4.heap.size:=H.size;have bw:=O H;have A:=O (And.intro e4 f4);have b:=O (And.intro a8 P);clear u o4 e4 f4 H ae a8 P x0 xf l0 l az aM ay F U j r aw ax V;go_upto_region 4 with(at_builtin;refine Cn rfl _ _ 90 rfl w.heap.size 3 j0 (J 0) 1 8 underlying90 ag ah ai aj rfl (by decide) rfl xa d.x xc (iL d.X d.x) rfl (by rw[Cr,Nat.mul_one]) bu (WZ _ _) (by unfold maxLen;omega) (by omega) bb w4.heap.size rfl ?_;intro a5 c5 Z B c C;have f:=(c.block w.heap.size (Aj A.1) (by simp)).trans A.1;have M:=(c.block (w.heap.size+1) (Aj A.2) (by simp)).trans A.2;have x0:Z.cell? (G w.heap.size 2)=some (.slice xa d.x xc):=(by simp[World.cell?,f]);have xf:Z.frozen? (G w.heap.size 2)=false:=(by simp[World.frozen?,f]);have l0:=Aj f;have bx:=O (Il bw bb c);have bz:=O B;have b2:=O (Ai (w':=Z) a7 (fun q e=>c.block q (b.2 q e).2.1 (by simp)));have b3:=O (Ai (w':=Z) a6 (fun q e=>c.block q (b.1 q e).2.1 (by simp)));have K:=O C;have l:=O (And.intro f M);clear c B C f M)
 clear y2 ly;obtain⟨Q,D⟩:∃Q,Q=Z.setCell (G w.heap.size 2) (.slice a5 d.x c5):=⟨_,rfl⟩;rw[<-D];have o6:∀k,k≠w.heap.size->Q.heap[k]?=Z.heap[k]?:=fun k hk=>by rw[D];exact At _ _ _ _ (by exact hk)
 have e6:Q.heap[w.heap.size]?=some (.cells #[.slice a1 d.n c1,.slice a3 d.m c3,.slice a5 d.x c5,J d.used,J d.live,J d.turns] 92 (0,0)):=by rw[D];exact(GW _ _ _ _ _ _ l.1).trans (by simp)
 have f6:=(o6 (w.heap.size+1) (by omega)).trans l.2;have bc:B9 w Q:=by rw[D];exact bx.setCell (A0 _) _
 have af:w.heap.size+1<w4.heap.size:=Aj A.2;have bd:=Ai (w':=Q) bz (fun q e=>o6 q (by have:=z K q e;omega));have bf:=Ai (w':=Q) b3 (fun q e=>o6 q (by have:=(b.1 q e).1;omega));have bg:=Ai (w':=Q) b2 (fun q e=>o6 q (by have:=(b.2 q e).1;omega));obtain⟨w7,R,a⟩:=Q5 f6 a1 a3 a5 d.n d.m d.x c1 c3 c5 d;have bh:=Ai (w':=w7) bd (fun q e=>a.other q (by have:=z K q e;omega));have bj:=Ai (w':=w7) bf (fun q e=>a.other q (by have:=(b.1 q e).1;omega));have bk:=Ai (w':=w7) bg (fun q e=>a.other q (by have:=(b.2 q e).1;omega));have b4:Hid (DV d w7 (.slice a1 d.n c1) (.slice a3 d.m c3) (.slice a5 d.x c5) w.heap.size w7.heap.size):=O ⟨Lj.of bk,I3.of bj,I3.of bh,fun q e e'=>by
   have:=(b.1 q e').2.2;have:=(b.2 q e).2.2;omega,fun q e e'=>by
   have:=z K q e';have:=(b.2 q e).2.1;omega,fun q e e'=>by
   have:=z K q e';have:=(b.1 q e).2.1;omega⟩
 have b5:=O (a.below bc (by omega));have b6:=O R;have HX:=O e6;have r0:=Aa (vs:=[.slice a1 d.n c1,.slice a3 d.m c3,.slice a5 d.x c5,J d.used,J d.live,J d.turns]) a 0 _ rfl;have r1:=Aa (vs:=[.slice a1 d.n c1,.slice a3 d.m c3,.slice a5 d.x c5,J d.used,J d.live,J d.turns]) a 1 _ rfl;have r2:=Aa (vs:=[.slice a1 d.n c1,.slice a3 d.m c3,.slice a5 d.x c5,J d.used,J d.live,J d.turns]) a 2 _ rfl;have r3:=Aa (vs:=[.slice a1 d.n c1,.slice a3 d.m c3,.slice a5 d.x c5,J d.used,J d.live,J d.turns]) a 3 _ rfl;have r4:=Aa (vs:=[.slice a1 d.n c1,.slice a3 d.m c3,.slice a5 d.x c5,J d.used,J d.live,J d.turns]) a 4 _ rfl;have r5:=Aa (vs:=[.slice a1 d.n c1,.slice a3 d.m c3,.slice a5 d.x c5,J d.used,J d.live,J d.turns]) a 5 _ rfl;clear D o6 e6 f6 bc af bd bf bg bh bj bk R a x0 xf l0 l;go_wp2_with (first|(refine Aan rfl 92 _ rfl w.heap.size rfl _ _ _ _ HX underlying92 rfl fK ?_)|(refine Ak rfl rfl _ b6 ?_))
 refine DO (v:=Z0 (.slice a1 d.n c1) (.slice a3 d.m c3) (.slice a5 d.x c5) d) (by simp[results,results356,go_sem,r0,r1,r2,r3,r4,r5]) rfl ⟨⟨_,_,_,rfl,b4⟩,b5⟩
structure Nt (lo hi:Nat) (w:Y) (h:Hs) (t:Tb):Prop where
 v:O5 t.V t.nv w h.v lo hi
 l:Lj t.d.L t.d.n w h.l lo hi
 i:I3 t.d.I t.d.m w h.i lo hi
 x:I3 t.d.X t.d.x w h.x lo hi
 vl:∀q,h.v.ownBlock=some q->h.l.ownBlock≠some q
 vi:∀q,h.v.ownBlock=some q->h.i.ownBlock≠some q
 vx:∀q,h.v.ownBlock=some q->h.x.ownBlock≠some q
 li:∀q,h.l.ownBlock=some q->h.i.ownBlock≠some q
 lx:∀q,h.l.ownBlock=some q->h.x.ownBlock≠some q
 ix:∀q,h.i.ownBlock=some q->h.x.ownBlock≠some q
def Nf(h:Hs)(t:Tb):List Value:=[J t.shape,h.v,h.l,h.i,h.x,J t.d.used,J t.d.live,J t.d.turns]
theorem O5.own{f:Nat->Vl}{n:Nat}{w:Y}{v:V9}{lo hi:Nat}(h:O5 f n w v lo hi){b:Nat}(e:v.ownBlock=some b):lo<=b/\b<hi/\b<w.heap.size:=by
 rcases h with⟨_,rfl⟩|⟨b',a,Z,g,rfl,h2,h3,h4,_⟩
 ·cases e
 ·cases e;exact⟨h2,h3,We h4⟩
theorem I3.DQ{f:Nat->Int}{n:Nat}{w:Y}{v:V9}{lo hi:Nat}(h:I3 f n w v lo hi){b:Nat}(e:v.ownBlock=some b):lo<=b/\b<hi/\b<w.heap.size:=by
 rcases h with⟨_,rfl⟩|⟨b',a,Z,g,rfl,h2,h3,h4,_⟩
 ·cases e
 ·cases e;exact⟨h2,h3,We h4⟩
theorem Nt.own{lo hi:Nat}{w:Y}{h:Hs}{t:Tb}(H:Nt lo hi w h t){q:Nat}(e:h.own q):lo<=q/\q<hi/\q<w.heap.size:=by
 rcases e with e|e|e|e
 ·exact H.v.own e
 ·exact H.l.own e
 ·exact H.i.DQ e
 ·exact H.x.DQ e
theorem Nt.one{lo hi:Nat}{w:Y}{h:Hs}{t:Tb}(H:Nt lo hi w h t):∃a1 c1 a2 c2 a3 c3 a4 c4,h=⟨.slice a1 t.nv c1,.slice a2 t.d.n c2,.slice a3 t.d.m c3,.slice a4 t.d.x c4⟩:=by
 obtain⟨a1,c1,e1,_⟩:=H.v.at;obtain⟨a2,c2,e2,_⟩:=H.l.at;obtain⟨a3,c3,e3,_⟩:=H.i.Te;obtain⟨a4,c4,a,_⟩:=H.x.Te;cases h;simp only at e1 e2 e3 a;exact⟨a1,c1,a2,c2,a3,c3,a4,c4,by rw[e1,e2,e3,a]⟩
theorem Nt.keep{lo hi:Nat}{w w':Y}{h:Hs}{t:Tb}(H:Nt lo hi w h t)(hk:∀q,h.own q->w'.heap[q]?=w.heap[q]?):Nt lo hi w' h t:=
 ⟨H.v.keep (fun b e=>hk b (.inl e)),H.l.JB (fun b e=>hk b (.inr (.inl e))),H.i.JB (fun b e=>hk b (.inr (.inr (.inl e)))),H.x.JB (fun b e=>hk b (.inr (.inr (.inr e)))),H.vl,H.vi,H.vx,H.li,H.lx,H.ix⟩
theorem O5.wide{f:Nat->Vl}{n:Nat}{w:Y}{v:V9}{lo hi a c:Nat}(h:O5 f n w v lo hi)(h1:a<=lo)(h2:hi<=c):O5 f n w v a c:=by
 rcases h with h|⟨b,d,Z,g,e1,e2,e3,e⟩
 ·exact .inl h
 ·exact .inr ⟨b,d,Z,g,e1,by omega,by omega,e⟩
theorem Nt.wide{lo hi a b:Nat}{w:Y}{h:Hs}{t:Tb}(H:Nt lo hi w h t)(h1:a<=lo)(h2:hi<=b):Nt a b w h t:=
 ⟨H.v.wide h1 h2,H.l.wide h1 h2,H.i.wide h1 h2,H.x.wide h1 h2,H.vl,H.vi,H.vx,H.li,H.lx,H.ix⟩
abbrev Wc:Array Value:=#[J 0,N9,N9,N9,N9,J 0,J 0,J 0]
theorem Q7(w:Y):(sizeOf 94).run prog w=.ok 8 w:=by kernel_rfl
def Hb(a nb j:Nat)(va:T9)(n vc:Nat)(W:Y):Prop:=W.cell? (G a 7)=some (Q9 nb)/\W.cell? (G nb 0)=some (J (j:Int))/\W.cell? (G a 0)=some (.slice va n vc)
theorem Hb.keep{b nb j:Nat}{va:Option Addr}{n vc:Nat}{W W':Y}(h:Hb b nb j va n vc W)(h1:W'.heap[b]?=W.heap[b]?)(h2:W'.heap[nb]?=W.heap[nb]?):Hb b nb j va n vc W':=
 ⟨(As (a:=(G b 7)) h1).trans h.1,(As (a:=(G nb 0)) h2).trans h.2.1,(As (a:=(G b 0)) h1).trans h.2.2⟩
def Uh(t:Tb)(w:Y)(e:Ending)(w':Y):Prop:=(∃h,e=.returned (.agg (Nf h t).toArray)/\Nt w.heap.size w'.heap.size w' h t)/\B9 w w'
theorem Lx(A:Ad)(t:Tb)(s:AV)(b0:Nat)(B:Nat->Nat)(j:Nat)(w:Y)(hN:IE w s b0 B)(hj:j<s.nf)(hs:t.shape=j)(hn:t.nv<=12)(hb:bare t.d)(hV:Hg w A.va t.nv t.V):
  C9 345 #[B4 (B j) A t] w fun e w'=>Uh t w e w':=by
 obtain⟨i0,E,F,H,I⟩:=Tn Ki;obtain⟨W,r⟩:∃W,W=(w.alloc (.cells #[.slice A.va t.nv A.vc,.slice A.la t.d.n A.lc,.slice A.ia t.d.m A.ic,.slice A.xa t.d.x A.xc,J t.d.used,J t.d.live,J t.d.turns,Q9 (B j)] 236)).alloc (.cells Wc 94):=⟨_,rfl⟩;have b:B9 w W:=by rw[r];exact(n9).alloc (by simp) _
 have L:W.heap.size=w.heap.size+1+1:=by rw[r];simp
 have x0:W.cell? (y w 0)=some (.slice A.va t.nv A.vc):=by rw[r];simp[go_sem]
 have x7:W.cell? (y w 7)=some (Q9 (B j)):=by rw[r];simp[go_sem]
 have b1:W.heap[w.heap.size+1]?=some (.cells Wc 94 (0,0)):=by
  rw[r];have h1:=BE (w.alloc (.cells #[.slice A.va t.nv A.vc,.slice A.la t.d.n A.lc,.slice A.ia t.d.m A.ic,.slice A.xa t.d.x A.xc,J t.d.used,J t.d.live,J t.d.turns,Q9 (B j)] 236)) (.cells Wc 94);simpa using h1
 obtain⟨nl,n0,_⟩:=IE.cell (hN.below b) hj;have M:Hb w.heap.size (B j) j A.va t.nv A.vc W.drew:=⟨x7,n0,x0⟩;have C:t.nv=0\/∃ad,A.va=some ad/\∀j u,(OT t.V t.nv)[j]?=some u->W.cell? (ad.add j)=some u:=by
  rcases hV with h|⟨vb,off,P,Q,R⟩
  ·exact .inl h
  ·exact .inr ⟨_,P,Hg.news (w:=W) (fun i hi=>(R i hi).keep (fun q=>b.cell (p:=(G vb q)) Q))⟩
 have HF:Hid (∀a3 c3 w3,w3.ownsRow w.heap.size 43 5 (.slice a3 t.nv c3) t.nv (OT t.V t.nv)->W.drew.grownBy w3 none->(∀q,(Value.slice a3 t.nv c3).ownBlock=some q->q=w.heap.size+1+1)->
   Hb w.heap.size (B j) j A.va t.nv A.vc w3/\∃w4,(Instr.storeAt 94 (Q9 (w.heap.size+1)) (.agg #[J (j:Int),.slice a3 t.nv c3,N9,N9,N9,J 0,J 0,J 0])).run prog w3=.ok () w4/\Bt w3 w4 (w.heap.size+1) #[J (j:Int),.slice a3 t.nv c3,N9,N9,N9,J 0,J 0,J 0] 94/\Hb w.heap.size (B j) j A.va t.nv A.vc w4/\
   Uh t w (.returned (.agg #[J (j:Int),.slice a3 t.nv c3,N9,N9,N9,J 0,J 0,J 0])) w4):=O (by
  intro a3 c3 w3 h1 h2 h3;have hk:∀k,k<W.heap.size->w3.heap[k]?=W.heap[k]?:=fun k hk=>h2.block k hk (by simp)
  have ai:W.heap.size<=w3.heap.size:=h2.size;have g:Hb w.heap.size (B j) j A.va t.nv A.vc w3:=M.keep (hk _ (by omega)) (hk _ nl);obtain⟨d1,d2,d3,d4,d5,d6⟩:=hb;have S:B9 w w3:=⟨h2.os.trans b.os,h2.tape.trans b.tape,h2.output.trans b.output,by omega,fun k T=>(hk k (by omega)).trans (b.block k T)⟩;have U:w3.heap[w.heap.size+1]?=some (.cells Wc 94 (0,0)):=(hk _ (by omega)).trans b1;obtain⟨w4,k1,k2⟩:=BD (t:=94) (v:=.agg #[J (j:Int),.slice a3 t.nv c3,N9,N9,N9,J 0,J 0,J 0]) (old:=Wc.toList) (vs:=[J (j:Int),.slice a3 t.nv c3,N9,N9,N9,J 0,J 0,J 0]) Q7 U rfl rfl (by simp[Value.oneCell']) rfl;have X:=Ai (w':=w4) h1 (fun q e=>k2.other q (by have:=h3 q e;omega));have Z:B j≠w.heap.size+1:=by have:=(IE.cell hN hj).1;omega
  refine⟨g,w4,k1,k2,g.keep (k2.other _ (by omega)) (k2.other _ Z),⟨⟨.slice a3 t.nv c3,N9,N9,N9⟩,?_,?_⟩,k2.below S (by omega)⟩
  ·show _=Ending.returned (.agg #[J t.shape,.slice a3 t.nv c3,N9,N9,N9,J t.d.used,J t.d.live,J t.d.turns]);rw[hs,d4,d5,d6]
  ·exact⟨O5.of X,.inl ⟨d1,rfl⟩,.inl ⟨d2,rfl⟩,.inl ⟨d3,rfl⟩,(fun q _ e=>by cases e),(fun q _ e=>by cases e),(fun q _ e=>by cases e),(fun q e=>by cases e),(fun q e=>by cases e),(fun q e=>by cases e)⟩)
 have ae:=O C;have af:w.heap.size<=W.heap.size:=by omega
 clear hV hN hs hb C b b1 x0 x7 n0
 go_enter func345,ntmps345
 go_wp2_with fail
 rw[<-r];clear r;refine H9 (Hb w.heap.size (B j) j A.va t.nv A.vc) ?_;refine tz 0 (h:=tz 1 (h:=tz 2 (h:=tz 3 (h:=tz 4 (h:=tz 5 (h:=tz 6 (h:=tz 7 (h:=?_))))))));refine ry 8 (fun K hK=>?_);refine Gw _ rfl (.const (N9)) (.tmp 10) 89 rfl w.heap.size 43 i0 (V 0 0 0 ⟨#[]⟩ 0) 5 48 underlying89 E F H I rfl (by decide) (by simp[Act.eval]) A.va t.nv A.vc (OT t.V t.nv) (by simp[Act.eval]) (GZ _ _) ae (LP _ _) (by unfold maxLen;omega) (by omega) af (w.heap.size+1+1) L ?_;intro a3 c3 w3 c l f;obtain⟨g,w4,o,D,ag,hP⟩:=z HF a3 c3 w3 c l f;have ah:=O o;have HP:=O hP;have a:=O D;refine hK.out _ _ g (fun _=>?_);clear hK K c l f o hP D;simp only[Act.put,List.getElem_toArray,AaT,AaS,Aam,List.set_cons_succ,List.set_cons_zero];refine tz 9 (h:=?_);refine ry 10 (fun K hK=>?_);refine Cm rfl rfl _ ah ?_;refine hK.out _ _ ag (fun _=>?_);clear hK K;refine FM ?_;have r0:=Aa (vs:=[J (j:Int),.slice a3 t.nv c3,N9,N9,N9,J 0,J 0,J 0]) a 0 _ rfl;have r1:=Aa (vs:=[J (j:Int),.slice a3 t.nv c3,N9,N9,N9,J 0,J 0,J 0]) a 1 _ rfl;have r2:=Aa (vs:=[J (j:Int),.slice a3 t.nv c3,N9,N9,N9,J 0,J 0,J 0]) a 2 _ rfl;have r3:=Aa (vs:=[J (j:Int),.slice a3 t.nv c3,N9,N9,N9,J 0,J 0,J 0]) a 3 _ rfl;have r4:=Aa (vs:=[J (j:Int),.slice a3 t.nv c3,N9,N9,N9,J 0,J 0,J 0]) a 4 _ rfl;have r5:=Aa (vs:=[J (j:Int),.slice a3 t.nv c3,N9,N9,N9,J 0,J 0,J 0]) a 5 _ rfl;have r6:=Aa (vs:=[J (j:Int),.slice a3 t.nv c3,N9,N9,N9,J 0,J 0,J 0]) a 6 _ rfl;have r7:=Aa (vs:=[J (j:Int),.slice a3 t.nv c3,N9,N9,N9,J 0,J 0,J 0]) a 7 _ rfl;go_wp2_with fail
 refine DO (v:=.agg #[J (j:Int),.slice a3 t.nv c3,N9,N9,N9,J 0,J 0,J 0]) (by simp[results,results345,go_sem,r0,r1,r2,r3,r4,r5,r6,r7]) rfl HP
theorem J1(A:Ad)(t:Tb)(w:Y)(hs:t.shape=-1)(hn:t.nv=0)(hD:Gy w A.la A.ia A.xa t.d)(p:Small t.d):
  C9 352 #[IJ A t] w fun e w'=>Uh t w e w':=by
 obtain⟨W,j⟩:∃W,W=(w.alloc (.cells #[.slice A.va t.nv A.vc,.slice A.la t.d.n A.lc,.slice A.ia t.d.m A.ic,.slice A.xa t.d.x A.xc,J t.d.used,J t.d.live,J t.d.turns] 239)).alloc (.cells Wc 94):=⟨_,rfl⟩;have i:B9 w W:=by rw[j];exact(n9).alloc (by simp) _
 have k:W.heap.size=w.heap.size+1+1:=by rw[j];simp
 have b1:W.heap[w.heap.size+1]?=some (.cells Wc 94 (0,0)):=by
  rw[j];have h1:=BE (w.alloc (.cells #[.slice A.va t.nv A.vc,.slice A.la t.d.n A.lc,.slice A.ia t.d.m A.ic,.slice A.xa t.d.x A.xc,J t.d.used,J t.d.live,J t.d.turns] 239)) (.cells Wc 94);simpa using h1
 have r:=O (Pg A.la A.lc A.ia A.ic A.xa A.xc t.d W (hD.below i) p);have s:Hid (∀v0 v1 v2 w3,DV t.d w3 v0 v1 v2 W.heap.size w3.heap.size->B9 W w3->∃a0 c0 a1 c1 a2 c2 w4,v0=.slice a0 t.d.n c0/\v1=.slice a1 t.d.m c1/\v2=.slice a2 t.d.x c2/\(Instr.storeAt 94 (Q9 (w.heap.size+1)) (.agg #[J (-1),N9,.slice a0 t.d.n c0,.slice a1 t.d.m c1,.slice a2 t.d.x c2,J t.d.used,J t.d.live,J t.d.turns])).run prog w3=.ok () w4/\Bt w3 w4 (w.heap.size+1) #[J (-1),N9,.slice a0 t.d.n c0,.slice a1 t.d.m c1,.slice a2 t.d.x c2,J t.d.used,J t.d.live,J t.d.turns] 94/\
   Uh t w (.returned (.agg #[J (-1),N9,.slice a0 t.d.n c0,.slice a1 t.d.m c1,.slice a2 t.d.x c2,J t.d.used,J t.d.live,J t.d.turns])) w4):=O (by
  intro v0 v1 v2 w3 f g;obtain⟨a0,c0,a1,c1,a2,c2,rfl,rfl,rfl,-⟩:=f.at;have l:=(g.block (w.heap.size+1) (by omega)).trans b1;obtain⟨w4,k1,k2⟩:=BD (t:=94) (v:=.agg #[J (-1),N9,.slice a0 t.d.n c0,.slice a1 t.d.m c1,.slice a2 t.d.x c2,J t.d.used,J t.d.live,J t.d.turns]) (old:=Wc.toList) (vs:=[J (-1),N9,.slice a0 t.d.n c0,.slice a1 t.d.m c1,.slice a2 t.d.x c2,J t.d.used,J t.d.live,J t.d.turns]) Q7 l rfl rfl (by simp[Value.oneCell']) rfl;have a:DV t.d w4 (.slice a0 t.d.n c0) (.slice a1 t.d.m c1) (.slice a2 t.d.x c2) w.heap.size w4.heap.size:=(f.keep (fun b hb _=>k2.other b (by omega))).wide (by omega) (by rw[k2.size];exact A0 _);refine⟨a0,c0,a1,c1,a2,c2,w4,rfl,rfl,rfl,k1,k2,⟨⟨N9,.slice a0 t.d.n c0,.slice a1 t.d.m c1,.slice a2 t.d.x c2⟩,?_,⟨.inl ⟨hn,rfl⟩,a.log,a.ints,a.index,(fun q e=>by cases e),(fun q e=>by cases e),(fun q e=>by cases e),a.gW,a.gX,a.a12⟩⟩,k2.below (i.trans (g.mono (by omega))) (by omega)⟩;show _=Ending.returned (.agg #[J t.shape,N9,.slice a0 t.d.n c0,.slice a1 t.d.m c1,.slice a2 t.d.x c2,J t.d.used,J t.d.live,J t.d.turns]);rw[hs])
 clear hD p hs hn i b1 k
 go_enter func352,ntmps352
 go_wp2_with fail
 rw[<-j];clear j;refine r.mono ?_;rintro e w3 ⟨⟨v0,v1,v2,rfl,f⟩,g⟩;obtain⟨a0,c0,a1,c1,a2,c2,w4,rfl,rfl,rfl,h,c,u⟩:=z s v0 v1 v2 w3 f g;have o:=O h;have B:=O u;have r0:=Aa (vs:=[J (-1),N9,.slice a0 t.d.n c0,.slice a1 t.d.m c1,.slice a2 t.d.x c2,J t.d.used,J t.d.live,J t.d.turns]) c 0 _ rfl;have r1:=Aa (vs:=[J (-1),N9,.slice a0 t.d.n c0,.slice a1 t.d.m c1,.slice a2 t.d.x c2,J t.d.used,J t.d.live,J t.d.turns]) c 1 _ rfl;have r2:=Aa (vs:=[J (-1),N9,.slice a0 t.d.n c0,.slice a1 t.d.m c1,.slice a2 t.d.x c2,J t.d.used,J t.d.live,J t.d.turns]) c 2 _ rfl;have C:=Aa (vs:=[J (-1),N9,.slice a0 t.d.n c0,.slice a1 t.d.m c1,.slice a2 t.d.x c2,J t.d.used,J t.d.live,J t.d.turns]) c 3 _ rfl;have D:=Aa (vs:=[J (-1),N9,.slice a0 t.d.n c0,.slice a1 t.d.m c1,.slice a2 t.d.x c2,J t.d.used,J t.d.live,J t.d.turns]) c 4 _ rfl;have E:=Aa (vs:=[J (-1),N9,.slice a0 t.d.n c0,.slice a1 t.d.m c1,.slice a2 t.d.x c2,J t.d.used,J t.d.live,J t.d.turns]) c 5 _ rfl;have F:=Aa (vs:=[J (-1),N9,.slice a0 t.d.n c0,.slice a1 t.d.m c1,.slice a2 t.d.x c2,J t.d.used,J t.d.live,J t.d.turns]) c 6 _ rfl;have H:=Aa (vs:=[J (-1),N9,.slice a0 t.d.n c0,.slice a1 t.d.m c1,.slice a2 t.d.x c2,J t.d.used,J t.d.live,J t.d.turns]) c 7 _ rfl;clear f g h c u s r;go_wp2_with (refine Ak rfl rfl _ o ?_)
 refine DO (v:=.agg #[J (-1),N9,.slice a0 t.d.n c0,.slice a1 t.d.m c1,.slice a2 t.d.x c2,J t.d.used,J t.d.live,J t.d.turns]) (by simp[results,results352,go_sem,r0,r1,r2,C,D,E,F,H]) rfl B
theorem PM(f:Nat->Si):∀n,∀u∈Kz f n,u.oneCell'=true
 |0,u,h=>by cases h
 |n+1,u,h=>by
  rcases AaM.1 h with h|h
  ·exact PM f n u h
  ·simp only[M8,Aau,Aaq,or_false]at h;rcases h with h|h|h|h|h<;>(rw[h];rfl)
theorem L4.news{w:Y}{a:Option Addr}{n:Nat}{f:Nat->Si}(h:L4 w a n f):n=0\/∃d,a=some d/\∀j u,(Kz f n)[j]?=some u->w.cell? (d.add j)=some u:=by
 rcases h with h|⟨b,off,e,g,hc⟩
 ·exact .inl h
 ·refine .inr ⟨_,e,fun j u hu=>?_⟩;have c:((G b off):Addr).add j=(G b (off+j)):=by unfold Addr.add;split<;>simp_all
  rw[c];have hj:j<n*5:=by
   have:=(On.1 hu).1
   rwa [FG]at this
  obtain⟨i,r,hi,k,e⟩:∃i r,i<n/\r<5/\j=i*5+r:=⟨j/5,j%5,by omega,by omega,by omega⟩;subst e;rw[PL hi k]at hu;obtain⟨c0,c1,c2,c3,c4⟩:=hc i hi;rw[<-Nat.add_assoc];rcases r with _|_|_|_|_|r;all_goals first|(cases hu;assumption)|omega
theorem L5.news{w:Y}{B:Nat}{a:Option Addr}{n g:Nat}{f:Nat->Si}(h:L5 w B (.slice a n g) n f):n=0\/∃c,a=some c/\∀j u,(Kz f n)[j]?=some u->w.cell? (c.add j)=some u:=by
 obtain⟨hl,⟨d,i⟩|⟨g',cap,cur,d,hb,e,h1,h2,h3,h4⟩⟩:=id h
 ·exact .inl i
 ·cases d;refine .inr ⟨_,rfl,fun j u hu=>?_⟩;have hj:j<n*5:=by
   have:=(On.1 hu).1
   rwa [FG]at this
  have b:((G g' 0):Addr).add j=(G g' j):=by unfold Addr.add;split<;>simp_all
  rw[b,I9 h j hj];exact hu
theorem Wa.of{f:Nat->Si}{n B:Nat}{w:Y}{v:V9}(h:L5 w B v n f):Wa f n w v B w.heap.size:=by
 have b:=h.lt;obtain⟨hl,⟨c,d⟩|⟨g',cap,cur,c,hb,a,h1,h2,h3,h4⟩⟩:=h
 ·exact .inl ⟨d,c⟩
 ·subst c;refine .inr ⟨g',cap,cap*5,fun j=>(cur[j]?).getD undef,rfl,hb,(b g' rfl).2,⟨cur,a,h3,fun i hi=>by simp[Aaw (show i<cur.size by omega)]⟩,by omega,fun j hj=>?_⟩;have h5:=PL (f:=f) (n:=n) (i:=j/5) (j:=j%5) (by omega) (by omega);rw[show j/5*5+j%5=j by omega,<-h4,AaU,C3 hj,Array.getElem?_toList]at h5;show(cur[j]?).getD undef=_;rw[h5];rfl
theorem GV.of{f:Nat->Bf}{n B:Nat}{w:Y}{v:V9}(h:P5 w B v n f)(hn:0<n):GV f n w v B w.heap.size:=by
 have a:=h.lt;obtain⟨hl,⟨b,d⟩|⟨g',cap,cur,b,hb,c,h1,h2,h3,h4⟩⟩:=id h
 ·exact .inl ⟨d,b⟩
 ·subst b;obtain⟨k1,k2⟩:=P5.in h;exact .inr ⟨hn,g',cap,rfl,k1,(a g' rfl).2,k2⟩
def LS(a:Nat)(vN vT:V9)(W:Y):Prop:=W.cell? (G a 0)=some vN/\W.cell? (G a 1)=some vT
theorem PB(B0:Nat)(d:T9)(f nc:Nat)(g:T9)(tn tc:Nat)(sa:T9)(sc:Nat)(Bk:Nat->Nat)(A:Nat->Ad)(s:AV)(w:Y)(hB:B0<=w.heap.size)(ad:s.ns<=50)(hn:P4 w B0 (.slice d f nc) s.nf Bk)(p:IE w s B0 Bk)(t:P6 w B0 (.slice g tn tc) s.nt Bk A s)(V:L4 w sa s.ns s.S)(hr:∀w' (X:Nat->Prop),B9 w w'->(∀k,X k->B0<=k)->∀i,i<s.nt->Rd X w' (A i) (s.T i)):
  C9 56 #[.agg #[.slice d f nc,.slice g tn tc],.slice sa s.ns sc] w fun e w'=>(∃c vS,e=.returned (Q9 c)/\AZ (fun _=>False) w' c B0 (.slice d f nc) (.slice g tn tc) vS (N9) Bk A s)/\B9 w w':=by
 obtain⟨i0,u,x,B,C⟩:=Tn MB;obtain⟨W,o⟩:∃W,W=w.alloc (.cells #[.slice d f nc,.slice g tn tc] 118):=⟨_,rfl⟩;have j:B9 w W:=by rw[o];exact(DD _ _).alloc (A0 _) _
 have D:W.heap.size=w.heap.size+1:=by rw[o];simp
 have x0:W.cell? (y w 0)=some (.slice d f nc):=by rw[o];simp[go_sem]
 have x1:W.cell? (y w 1)=some (.slice g tn tc):=by rw[o];simp[go_sem]
 have ae:LS w.heap.size (.slice d f nc) (.slice g tn tc) W.drew:=⟨x0,x1⟩;have E:=O (L4.news (V.below j rfl));have HF:Hid (∀a3 c3 w3,w3.ownsRow B0 103 5 (.slice a3 s.ns c3) s.ns (Kz s.S s.ns)->W.drew.grownBy w3 none->(∀q,(Value.slice a3 s.ns c3).ownBlock=some q->q=w.heap.size+1)->
   LS w.heap.size (.slice d f nc) (.slice g tn tc) w3/\LS w.heap.size (.slice d f nc) (.slice g tn tc) (w3.alloc (.cells #[.slice d f nc,.slice g tn tc,.slice a3 s.ns c3,N9] 198))/\AZ (fun _=>False) (w3.alloc (.cells #[.slice d f nc,.slice g tn tc,.slice a3 s.ns c3,N9] 198)) w3.heap.size B0 (.slice d f nc) (.slice g tn tc) (.slice a3 s.ns c3) (N9) Bk A s/\B9 w (w3.alloc (.cells #[.slice d f nc,.slice g tn tc,.slice a3 s.ns c3,N9] 198))):=O (by
  intro a3 c3 w3 h1 h2 h3;have hk:∀k,k<W.heap.size->w3.heap[k]?=W.heap[k]?:=fun k hk=>h2.block k hk (by simp)
  have af:W.heap.size<=w3.heap.size:=h2.size;have F:B9 w w3:=⟨h2.os.trans j.os,h2.tape.trans j.tape,h2.output.trans j.output,by omega,fun k H=>(hk k (by omega)).trans (j.block k H)⟩;have b:B9 w (w3.alloc (.cells #[.slice d f nc,.slice g tn tc,.slice a3 s.ns c3,N9] 198)):=F.alloc (by omega) _;have I:LS w.heap.size (.slice d f nc) (.slice g tn tc) w3:=⟨(As (a:=(y w 0)) (hk w.heap.size (by omega))).trans x0,(As (a:=(y w 1)) (hk w.heap.size (by omega))).trans x1⟩;obtain⟨Z,M,L,P⟩:=p;refine⟨I,⟨(As (a:=(y w 0)) (Fs _ _ w.heap.size (by omega))).trans I.1,(As (a:=(y w 1)) (Fs _ _ w.heap.size (by omega))).trans I.2⟩,⟨BE _ _,by omega,AP hn b,⟨Z,M,L.below b,P⟩,AP t b,IH h1 _,⟨_,_,_,rfl⟩,fun k e=>e.elim,fun i hi=>?_⟩,b⟩;refine hr _ _ b (fun k e=>?_) i hi;rcases e with e|e
  ·rcases e with e|e|e|e|⟨e,_⟩
   ·omega
   ·exact(hn.lt k e).1
   ·exact(t.lt k e).1
   ·exact(h1.lt k e).1
   ·exact e
  ·exact e.elim)
 have Q:B0<=W.heap.size:=by omega
 clear hn p t V hr x0 x1 j
 go_enter func56,ntmps56
 go_wp2_with fail
 rw[<-o];clear o;refine H9 (LS w.heap.size (.slice d f nc) (.slice g tn tc)) ?_;refine tz 0 (h:=tz 1 (h:=?_));refine ry 2 (fun K hK=>?_);refine Gw _ rfl (.const (N9)) (.tmp 6) 40 rfl B0 103 i0 (.agg #[E9,J 0,J 0,J 0,J 0]) 5 48 underlying40 u x B C rfl (by decide) (by simp[Act.eval]) sa s.ns sc (Kz s.S s.ns) (by simp[Act.eval]) (FG _ _) E (PM _ _) (by unfold maxLen;omega) (by omega) Q (w.heap.size+1) D ?_;intro a3 c3 w3 l n m;obtain⟨R,U,r,b⟩:=z HF a3 c3 w3 l n m;have HM:=O (And.intro r b);refine hK.out _ _ R (fun _=>?_);clear hK K l n m r b;simp only[Act.put,List.getElem_toArray,AaT,AaS,Aam,List.set_cons_succ,List.set_cons_zero];refine tz 3 (h:=?_);refine ry 4 (fun K hK=>?_);go_simp;refine hK.out _ _ U (fun _=>?_);clear hK K;refine tz 5 (h:=?_);refine FM ?_;go_wp2_with fail
 refine DO (v:=Q9 w3.heap.size) (by simp[results,results56,go_sem]) rfl ⟨⟨_,_,rfl,HM.1⟩,HM.2⟩
theorem Yj(w:Y):(sizeOf 42).run prog w=.ok 3 w:=by kernel_rfl
theorem fJ:(prog.info? 42).map (·.size)=some 3:=by kernel_rfl
abbrev gR:Array Value:=#[N9,N9,N9]
theorem Sb{s:AV}{B0:Nat}{Bk:Nat->Nat}{A:Ad}{x:Tb}(hf:Ar s.nf s.F=0)(hx:O4 s x):
  (AF Bk A x=.iface 239 (IJ A x)/\∀w,IE w s B0 Bk->Hg w A.va x.nv x.V->Gy w A.la A.ia A.xa x.d->C9 352 #[IJ A x] w fun e w'=>Uh x w e w')\/
  (∃p,AF Bk A x=.iface 236 (B4 p A x)/\∀w,IE w s B0 Bk->Hg w A.va x.nv x.V->Gy w A.la A.ia A.xa x.d->C9 345 #[B4 p A x] w fun e w'=>Uh x w e w'):=by
 rcases hx.way with⟨h1,h2,h3⟩|⟨j,h1,h2,h3,h4,h5⟩
 ·exact .inl ⟨C3 h1,fun w _ _ a=>J1 A x w h1 h2 a hx.small⟩
 ·refine .inr ⟨Bk j,?_,fun w hn b _=>Lx A x s B0 Bk j w hn h2 h1 (O4.nv hx hf) h4 b⟩;unfold AF;rw[Cs (by omega),h1];rfl
structure IG (w:Y) (b:Nat) (vF vT vS:V9) (s:AV) (n k:Nat) (H:Nat->Hs) (L:Nat->Nat) (wr:Y):Prop where
 box:wr.heap[b]?=some (.cells #[vF,vT,vS] 42 (0,0))
 res:wr.heap[w.heap.size]?=some (.cells gR 42 (0,0))
 lt:w.heap.size<b
 CH:B9 w wr
 f:P5 wr w.heap.size vF n s.F
 si:L5 wr w.heap.size vS s.ns s.S
 t:wr.ownsRow w.heap.size 94 8 vT k (Ld (fun i=>Nf (H i) (s.T i)) k)
 rows:∀i,i<k->Nt (L i) (L (i+1)) wr (H i) (s.T i)
 lo:w.heap.size<=L 0
 mono:∀i,i<k->L i<=L (i+1)
 hi:L k<=wr.heap.size
theorem Lj.type{f:Nat->Pr}{n:Nat}{w:Y}{v:V9}{lo hi:Nat}(h:Lj f n w v lo hi){b:Nat}(e:v.ownBlock=some b):∃cs,w.heap[b]?=some (.cells cs 96 (0,0)):=by
 rcases h with⟨_,rfl⟩|⟨b',a,Z,g,rfl,h2,h3,⟨c,hc,_⟩,_⟩
 ·cases e
 ·cases e;exact⟨_,hc⟩
theorem O5.type{f:Nat->Vl}{n:Nat}{w:Y}{v:V9}{lo hi:Nat}(h:O5 f n w v lo hi){b:Nat}(e:v.ownBlock=some b):∃cs,w.heap[b]?=some (.cells cs 43 (0,0)):=by
 rcases h with⟨_,rfl⟩|⟨b',a,Z,g,rfl,h2,h3,⟨c,hc,_⟩,_⟩
 ·cases e
 ·cases e;exact⟨_,hc⟩
theorem I3.type{f:Nat->Int}{n:Nat}{w:Y}{v:V9}{lo hi:Nat}(h:I3 f n w v lo hi){b:Nat}(e:v.ownBlock=some b):∃cs,w.heap[b]?=some (.cells cs 3 (0,0)):=by
 rcases h with⟨_,rfl⟩|⟨b',a,Z,g,rfl,h2,h3,⟨c,hc,_⟩,_⟩
 ·cases e
 ·cases e;exact⟨_,hc⟩
theorem Nt.type{lo hi:Nat}{w:Y}{h:Hs}{t:Tb}(H:Nt lo hi w h t){q:Nat}(e:h.own q):∃cs ty,w.heap[q]?=some (.cells cs ty (0,0))/\(ty=43\/ty=96\/ty=3):=by
 rcases e with e|e|e|e
 ·obtain⟨cs,h⟩:=H.v.type e;exact⟨cs,_,h,.inl rfl⟩
 ·obtain⟨cs,h⟩:=H.l.type e;exact⟨cs,_,h,.inr (.inl rfl)⟩
 ·obtain⟨cs,h⟩:=H.i.type e;exact⟨cs,_,h,.inr (.inr rfl)⟩
 ·obtain⟨cs,h⟩:=H.x.type e;exact⟨cs,_,h,.inr (.inr rfl)⟩
section
variable {w:Y} {b:Nat} {vF vT vS:V9} {s:AV} {n k:Nat} {H:Nat->Hs} {L:Nat->Nat} {wr w' X w3:Y}
theorem IG.below(h:IG w b vF vT vS s n k H L wr)(hb:B9 wr w'):IG w b vF vT vS s n k H L w':=
 ⟨(hb.block _ (Aj h.box)).trans h.box,(hb.block _ (Aj h.res)).trans h.res,h.lt,h.CH.trans (hb.mono h.CH.size),AP h.f hb,AP h.si hb,AP h.t hb,fun i hi=>(h.rows i hi).keep (fun q e=>hb.block q ((h.rows i hi).own e).2.2),h.lo,h.mono,FZ h.hi hb.size⟩
theorem IG.shape(h:IG w b vF vT vS s n k H L wr)(u:B9 wr X)(hg:X.grownBy w3 vF.ownBlock){g3 a:Nat}(c:w3.ownsRow w.heap.size 205 3 (S9 g3 (n+1) a) (n+1) (ZJ s.F n++[J (s.F n).parent,.string (s.F n).key,J (s.F n).count]))(d:vF.ownBlock=some g3\/X.heap.size<=g3):
  w3.heap[b]?=some (.cells #[vF,vT,vS] 42 (0,0))/\IG w b (S9 g3 (n+1) a) vT vS s (n+1) k H L (w3.setCell (G b 0) (S9 g3 (n+1) a)):=by
 have hx:=h.below u;have j:∀(q:Nat) (cs:Array Value) (ty:TypeId),X.heap[q]?=some (Obj.cells cs ty (0,0))->ty≠205->w3.heap[q]?=X.heap[q]?:=fun q cs ty hq x=>hg.block q (Aj hq) (fun e=>by
  obtain⟨cur,hc,_⟩:=A3 hx.f e.symm;rw[hc]at hq;cases hq;exact x rfl)
 have o:∀q,q≠b->(w3.setCell (G b 0) (S9 g3 (n+1) a)).heap[q]?=w3.heap[q]?:=fun q hq=>At _ _ _ _ (by exact hq)
 have g:=(j _ _ _ hx.box (by decide)).trans hx.box;have A:=Aj hx.box;have l:g3≠b:=fun e=>by
  rcases d with h1|h1
  ·obtain⟨cur,hc,_⟩:=A3 hx.f h1;rw[e,hx.box]at hc;cases hc
  ·omega
 have p:∀{e Z m:Nat} {v:V9} {xs:List Value},X.ownsRow w.heap.size e Z v m xs->e≠205->e≠42->(w3.setCell (G b 0) (S9 g3 (n+1) a)).ownsRow w.heap.size e Z v m xs:=fun r h1 h2=>Ai r (fun q e=>by
  obtain⟨cur,hc,_⟩:=A3 r e;exact(o q (fun e'=>by rw[e',hx.box]at hc;cases hc;exact h2 rfl)).trans (j _ _ _ hc h1))
 have hz:=hg.size;refine⟨g,⟨(GW _ _ _ _ _ _ g).trans (by simp),(o _ (by have:=h.lt;omega)).trans ((j _ _ _ hx.res (by decide)).trans hx.res),h.lt,?_,?_,p hx.si (by decide) (by decide),p hx.t (by decide) (by decide),fun i hi=>(hx.rows i hi).keep (fun q e=>?_),h.lo,h.mono,by have:=hx.hi;simp;omega⟩⟩
 ·refine W0 ?_ (by show w.heap.size<=b;have:=h.lt;omega) _;exact⟨hg.os.trans hx.CH.os,hg.tape.trans hx.CH.tape,hg.output.trans hx.CH.output,by have:=hx.CH.size;omega,fun q hq=>(hg.block q (by have:=hx.CH.size;omega) (fun e=>by have:=(hx.f.lt q e.symm).1;omega)).trans (hx.CH.block q hq)⟩
 ·rw[X1 s.F n (s.F n) rfl]at c;exact Ai c (fun q e=>o q (by cases e;exact l))
 ·obtain⟨cs,ty,hc,hty⟩:=(hx.rows i hi).type e;refine(o q (fun e'=>?_)).trans (j _ _ _ hc ?_)
  ·rw[e',hx.box]at hc;cases hc;rcases hty with h|h|h<;>cases h
  ·rcases hty with rfl|rfl|rfl<;>decide
theorem IG.table(h:IG w b vF vT vS s n k H L wr)(A:B9 wr X){c:Hs}(C:Nt wr.heap.size X.heap.size X c (s.T k))(hg:X.grownBy w3 vT.ownBlock){g3 a:Nat}(d:w3.ownsRow w.heap.size 94 8 (S9 g3 (k+1) a) (k+1) (Ld (fun i=>Nf (H i) (s.T i)) k++Nf c (s.T k)))(j:vT.ownBlock=some g3\/X.heap.size<=g3):
  w3.heap[b]?=some (.cells #[vF,vT,vS] 42 (0,0))/\IG w b vF (S9 g3 (k+1) a) vS s n (k+1) (AM H k c) (fun i=>if i<=k then(if i=k then wr.heap.size else L i)else X.heap.size) (w3.setCell (G b 1) (S9 g3 (k+1) a)):=by
 have hx:=h.below A;have u:∀(q:Nat) (cs:Array Value) (ty:TypeId),X.heap[q]?=some (Obj.cells cs ty (0,0))->ty≠94->w3.heap[q]?=X.heap[q]?:=fun q cs ty hq D=>hg.block q (Aj hq) (fun e=>by
  obtain⟨cur,hc,_⟩:=A3 hx.t e.symm;rw[hc]at hq;cases hq;exact D rfl)
 have o:∀q,q≠b->(w3.setCell (G b 1) (S9 g3 (k+1) a)).heap[q]?=w3.heap[q]?:=fun q hq=>At _ _ _ _ (by exact hq)
 have l:=(u _ _ _ hx.box (by decide)).trans hx.box;have E:=Aj hx.box;have x:g3≠b:=fun e=>by
  rcases j with h1|h1
  ·obtain⟨cur,hc,_⟩:=A3 hx.t h1;rw[e,hx.box]at hc;cases hc
  ·omega
 have B:∀{e Z m:Nat} {v:V9} {xs:List Value},X.ownsRow w.heap.size e Z v m xs->e≠94->e≠42->(w3.setCell (G b 1) (S9 g3 (k+1) a)).ownsRow w.heap.size e Z v m xs:=fun p h1 h2=>Ai p (fun q e=>by
  obtain⟨cur,hc,_⟩:=A3 p e;exact(o q (fun e'=>by rw[e',hx.box]at hc;cases hc;exact h2 rfl)).trans (u _ _ _ hc h1))
 have hz:=hg.size;have r:∀{lo hi:Nat} {hq:Hs} {t:Tb},Nt lo hi X hq t->Nt lo hi (w3.setCell (G b 1) (S9 g3 (k+1) a)) hq t:=fun p=>p.keep (fun q e=>by
  obtain⟨cs,ty,hc,hty⟩:=p.type e;refine(o q (fun e'=>?_)).trans (u _ _ _ hc ?_)
  ·rw[e',hx.box]at hc;cases hc;rcases hty with h|h|h<;>cases h
  ·rcases hty with rfl|rfl|rfl<;>decide)
 refine⟨l,⟨(GW _ _ _ _ _ _ l).trans (by simp),(o _ (by have:=h.lt;omega)).trans ((u _ _ _ hx.res (by decide)).trans hx.res),h.lt,?_,B hx.f (by decide) (by decide),B hx.si (by decide) (by decide),?_,fun i hi=>?_,?_,fun i hi=>?_,?_⟩⟩
 ·refine W0 ?_ (by show w.heap.size<=b;have:=h.lt;omega) _;exact⟨hg.os.trans hx.CH.os,hg.tape.trans hx.CH.tape,hg.output.trans hx.CH.output,by have:=hx.CH.size;omega,fun q hq=>(hg.block q (by have:=hx.CH.size;omega) (fun e=>by have:=(hx.t.lt q e.symm).1;omega)).trans (hx.CH.block q hq)⟩
 ·have e:Ld (fun i=>Nf (AM H k c i) (s.T i)) (k+1)=Ld (fun i=>Nf (H i) (s.T i)) k++Nf c (s.T k):=by
   rw[Ld,Ah,D6 (f:=fun i=>Nf (AM H k c i) (s.T i)) (g:=fun i=>Nf (H i) (s.T i)) (fun i hi=>by rw[Ag _ _ (by omega)])]
  rw[e];exact Ai d (fun q e=>o q (by cases e;exact x))
 ·by_cases e:i=k
  ·subst e;rw[Ah,C3 (A0 _),C3 rfl,Cs (by omega)];exact r C
  ·rw[Ag _ _ e,C3 (by omega),Cs e];have h1:=r (hx.rows i (by omega));by_cases e2:i+1=k
   ·rw[C3 (by omega),C3 e2];have:=h.hi;rw[<-e2]at this;exact h1.wide (A0 _) this
   ·rw[C3 (by omega),Cs e2];exact h1
 ·show w.heap.size<=if 0<=k then(if 0=k then wr.heap.size else L 0)else X.heap.size
  rw[C3 (P9 _)]
  split
  ·exact h.CH.size
  ·exact h.lo
 ·have F:=h.hi;show(if i<=k then(if i=k then wr.heap.size else L i)else X.heap.size)<=(if i+1<=k then(if i+1=k then wr.heap.size else L (i+1))else X.heap.size);rw[C3 (by omega)];by_cases e:i=k
  ·rw[C3 e,Cs (by omega)];exact A.size
  ·rw[Cs e,C3 (by omega)];by_cases e2:i+1=k
   ·rw[C3 e2];have h3:=h.mono i (by omega);rw[e2]at h3;omega
   ·rw[Cs e2];exact h.mono i (by omega)
 ·show(if k+1<=k then(if k+1=k then wr.heap.size else L (k+1))else X.heap.size)<=_;rw[Cs (by omega)];simp;omega
theorem IG.whole(h:IG w b vF vT vS s s.nf s.nt H L wr)(hn:0<s.nf){w4:Y}(c:Bt wr w4 w.heap.size #[vF,vT,vS] 42):Uf w.heap.size w4.heap.size w4 vF vT vS s H/\B9 w w4:=by
 have D:∀{e Z m:Nat} {v:V9} {xs:List Value},wr.ownsRow w.heap.size e Z v m xs->e≠42->w4.ownsRow w.heap.size e Z v m xs:=fun r h1=>Ai r (fun q e=>by
  obtain⟨cur,hc,_⟩:=A3 r e;exact c.other q (fun e'=>by rw[e',h.res]at hc;cases hc;exact h1 rfl))
 have a:∀i,i<s.nt->Nt (L i) (L (i+1)) w4 (H i) (s.T i):=fun i hi=>(h.rows i hi).keep (fun q e=>c.other q (fun e'=>by
  obtain⟨cs,ty,hc,hty⟩:=(h.rows i hi).type e;rw[e',h.res]at hc;cases hc;rcases hty with h|h|h<;>cases h))
 have hmono:∀i j,i<=j->j<=s.nt->L i<=L j:=fun i j I=>by
  induction j with
  |zero=>
   intro _;have:i=0:=by omega
   subst this;exact A0 _
  |succ j ih=>
   intro hj;by_cases e:i=j+1
   ·subst e;exact A0 _
   ·exact FZ (ih (by omega) (by omega)) (h.mono j (by omega))
 have g:∀i,i<s.nt->Nt w.heap.size w4.heap.size w4 (H i) (s.T i):=fun i hi=>(a i hi).wide (FZ h.lo (hmono 0 i (P9 _) (by omega))) (by
  rw[c.size];exact FZ (hmono (i+1) s.nt (by omega) (A0 _)) h.hi)
 have n:=D h.t (by decide);have A:=D h.f (by decide);have B:=D h.si (by decide);have tt:∀i q,i<s.nt->(H i).own q->∀{e Z m:Nat} {v:V9} {xs:List Value},w4.ownsRow w.heap.size e Z v m xs->e≠43->e≠96->e≠3->v.ownBlock≠some q:=fun i q hi hq e Z m v xs r h1 h2 h3 k=>by
  obtain⟨cs,ty,hc,hty⟩:=(a i hi).type hq;obtain⟨cur,o,_⟩:=A3 r k;rw[hc]at o;cases o;rcases hty with h|h|h
  ·exact h1 h
  ·exact h2 h
  ·exact h3 h
 have d:∀i j q,i<s.nt->j<s.nt->(H i).own q->(H j).own q->i=j:=fun i j q hi hj h1 h2=>by
  have a1:=(a i hi).own h1;have a2:=(a j hj).own h2;rcases AaL i j with h3|h3|h3
  ·have:=hmono (i+1) j (by omega) (by omega);omega
  ·exact h3
  ·have:=hmono (j+1) i (by omega) (by omega);omega
 refine⟨⟨GV.of A hn,?_,Wa.of B,fun q e=>DC A n (by decide) e,fun q e=>DC A B (by decide) e,fun q i e hi k=>tt i q hi k A (by decide) (by decide) (by decide) e,fun q e=>DC B n (by decide) e,fun q i e hi k=>tt i q hi k B (by decide) (by decide) (by decide) e⟩,c.below h.CH (A0 _)⟩;have E:=n.lt;obtain⟨hl,⟨F,K⟩|⟨g',cap,cur,F,hb,p,h1,h2,h3,h4⟩⟩:=id n
 ·exact .inl ⟨K,F⟩
 ·subst F;refine .inr ⟨g',cap,cap*8,fun j=>(cur[j]?).getD undef,rfl,hb,(E g' rfl).2,⟨cur,p,h3,fun i hi=>by simp[Aaw (show i<cur.size by omega)]⟩,by omega,fun i hi=>?_,⟨fun i hi k=>tt i g' hi k n (by decide) (by decide) (by decide) rfl,d,fun i q hi=>(a i hi).vl q,fun i q hi=>(a i hi).vi q,fun i q hi=>(a i hi).vx q,fun i q hi=>(a i hi).li q,fun i q hi=>(a i hi).lx q,fun i q hi=>(a i hi).ix q⟩⟩;have hc:∀j u,(Nf (H i) (s.T i))[j]?=some u->w4.cell? (G g' (i*8+j))=some u:=fun j u hu=>by
   have hj:j<8:=(On.1 hu).1;rw[I9 n (i*8+j) (by omega),LM (m:=8) (fun _=>rfl) hi hj,hu]
  have C:=g i hi;exact⟨hc 0 _ rfl,hc 1 _ rfl,hc 2 _ rfl,hc 3 _ rfl,hc 4 _ rfl,hc 5 _ rfl,hc 6 _ rfl,hc 7 _ rfl,C.v,C.l,C.i,C.x⟩
end
end
def F2(nb:Nat)(p:Bf)(W:Y):Prop:=W.cell? (G nb 1)=some (J p.parent)/\W.cell? (G nb 2)=some (.string p.key)/\W.cell? (G nb 3)=some (J p.count)
theorem F2.keep{nb:Nat}{p:Bf}{W W':Y}(h:F2 nb p W)(hk:W'.heap[nb]?=W.heap[nb]?):F2 nb p W':=
 ⟨(As (a:=(G nb 1)) hk).trans h.1,(As (a:=(G nb 2)) hk).trans h.2.1,(As (a:=(G nb 3)) hk).trans h.2.2⟩
def E4(_:Y):Prop:=True
theorem IE.shape{w:Y}{s:AV}{b0:Nat}{B:Nat->Nat}(h:IE w s b0 B){j:Nat}(hj:j<s.nf):F2 (B j) (s.F j) w/\∃cs,w.heap[B j]?=some (.cells cs 208 (0,0)):=by
 obtain⟨Z,M,h1,h2⟩:=h;have a:=h1.node j hj (h2 j hj);refine⟨⟨a.cell (i:=1) (by omega),a.cell (i:=2) (by omega),a.cell (i:=3) (by omega)⟩,?_⟩;obtain⟨c,hc,_⟩:=a;exact⟨c,hc⟩
theorem AZ.fQ{Z:Nat->Prop}{w:Y}{c B0:Nat}{vN vT vS vU:V9}{Bk:Nat->Nat}{A:Nat->Ad}{s:AV}(h:AZ Z w c B0 vN vT vS vU Bk A s)(hn:0<s.nf):∃g d,vN=.slice (some (G g 0)) s.nf d/\g<w.heap.size/\∀i,i<s.nf->w.cell? (G g i)=some (.pointer (some (G (Bk i) 0))):=by
 obtain⟨hl,⟨b,e⟩|⟨g,cap,cur,b,hb,a,h1,h2,h3,h4⟩⟩:=h.n
 ·omega
 ·exact⟨g,cap,b,(E1.1 a).1,fun i hi=>by rw[I9 (b▸h.n) i (by omega),JM hi]⟩
theorem SW(Z:Nat->Prop)(c B0:Nat)(vN vT vS vU:V9)(Bk:Nat->Nat)(A:Nat->Ad)(s:AV)(w:Y)(hM:AZ Z w c B0 vN vT vS vU Bk A s)(hG:V7 s):
  C9 58 #[Q9 c] w fun e w'=>(∃vF bj Q H,e=.returned (.agg #[vF,bj,Q])/\Uf w.heap.size w'.heap.size w' vF bj Q s H)/\B9 w w':=by
 obtain⟨i0,b5,b6,b7,b8⟩:=Tn MB;obtain⟨k0,b9,ca,cb,cc⟩:=Tn US;obtain⟨t0,bk,bm,bn,bp⟩:=Tn UT;obtain⟨f1,_⟩:=Au hG.f;have ax:0<s.nf:=by have:=f1.1;omega
 have cr:s.nf<=200:=f1.2;have ct:=hG.ns;have cu:=hG.nt;obtain⟨gN,cN,rfl,cd,bq⟩:=hM.fQ ax;obtain⟨ta,tc,rfl⟩:=Ao hM.t;obtain⟨sa,sc,rfl⟩:=Ao hM.si;obtain⟨W,hW⟩:∃W,W=w.alloc (.cells gR 42):=⟨_,rfl⟩;have a7:B9 w W:=by rw[hW];exact(DD _ _).alloc (A0 _) _
 have cg:W.heap.size=w.heap.size+1:=by rw[hW];simp
 have b0:W.heap[w.heap.size]?=some (.cells gR 42 (0,0)):=by rw[hW];exact BE _ _
 have cv:=hM.lt;have bb:=(hM.below a7).1;have c2:=bb.cells.2.2.1;have br:=O (L5.news bb.si);have HM:=O hM;have HG:=O hG;have ch:=O bq;have cw:=O a7;have cx:=O b0;have lc:c<W.heap.size:=by omega
 have bg:w.heap.size<=W.heap.size:=by omega
 have bt:Hid (∀a1 c1 w1,w1.ownsRow w.heap.size 103 5 (.slice a1 s.ns c1) s.ns (Kz s.S s.ns)->W.grownBy w1 none->(∀q,(Value.slice a1 s.ns c1).ownBlock=some q->q=w.heap.size+1)->IG w w1.heap.size (N9) (N9) (.slice a1 s.ns c1) s 0 0 (fun _=>⟨.nilFunc,.nilFunc,.nilFunc,.nilFunc⟩) (fun _=>w.heap.size) (w1.alloc (.cells #[N9,N9,.slice a1 s.ns c1] 42))):=O (by
  intro a1 c1 w1 h1 h2 h3;have au:B9 w w1:=Il a7 (by omega) h2;have hz:=h2.size;have g:B9 w (w1.alloc (.cells #[N9,N9,.slice a1 s.ns c1] 42)):=au.alloc au.size _;refine⟨BE _ _,(Fs _ _ _ (by omega)).trans ((h2.block _ (by omega) (by simp)).trans b0),by omega,g,ON _ _ _ _,IH h1 _,ON _ _ _ _,fun i hi=>absurd hi (NO _),A0 _,fun i hi=>absurd hi (NO _),g.size⟩)
 clear hM bb hG bq a7 b0
 go_enter func58,ntmps58
 go_upto_region 1 with fail
 rw[<-hW];clear hW;go_upto_region 2 with(at_builtin;refine Cn rfl _ _ 40 rfl w.heap.size 103 i0 (.agg #[E9,J 0,J 0,J 0,J 0]) 5 48 underlying40 b5 b6 b7 b8 rfl (by decide) rfl sa s.ns sc (Kz s.S s.ns) rfl (FG _ _) br (PM _ _) (by unfold maxLen;omega) (by omega) bg (w.heap.size+1) cg ?_;intro a1 c1 w1 ah aq ai;have HI:=O (bt a1 c1 w1 ah aq ai);have zz:=aq.size;clear ah aq ai)
 obtain⟨w2,bu⟩:∃w2,w2=w1.alloc (.cells #[N9,N9,.slice a1 s.ns c1] 42):=⟨_,rfl⟩;rw[<-bu]at HI ⊢;obtain⟨l,bw⟩:∃l,l=w1.heap.size:=⟨_,rfl⟩;rw[<-bw]at HI ⊢;obtain⟨Q,ay⟩:∃Q,Q=Value.slice a1 s.ns c1:=⟨_,rfl⟩;rw[<-ay]at HI;have cq:w.heap.size<l:=HI.lt;have c0:=((HM.below HI.CH).1).cells.1;have cj:=((HM.below HI.CH).1).lt;clear bu bw ay c2 bt br lc zz;go_wp2_with fail
 go_loopw [20] (fun i wr=>∃(k:Nat) (vF:V9),k<=s.nf/\i=J k/\IG w l vF (N9) Q s k 0 (fun _=>⟨.nilFunc,.nilFunc,.nilFunc,.nilFunc⟩) (fun _=>w.heap.size) wr) (fun i _=>s.nf-(intOf i).toNat)
 case atStart=>exact⟨0,_,by omega,rfl,HI⟩
 case round=>
  clear HI c0 cj;obtain⟨k,vF,hk,rfl,a⟩:=hrel;have P:=(HM.below a.CH).1;have aj:=O a;have bz:=a.CH.size;by_cases I:k<s.nf
  ·
   obtain⟨bc,cs,hcs⟩:=IE.shape (w:=wr) (s:=s) P.nd I;have xN:wr.cell? (G gN k)=some (Q9 (Bk k)):=(a.CH.cell (p:=(G gN k)) cd).trans (ch k I);have cy:gN<wr.heap.size:=by omega
   have b1:=Aj hcs;obtain⟨u,B,rfl⟩:=Ao a.f;have C:=a.box;have y0:wr.cell? (G l 0)=some (.slice u k B):=by simp[World.cell?,C]
   have ar:=Aj C;have Cy:Bk k≠l:=fun e=>by rw[e,C]at hcs;cases hcs
   have az:F2 (Bk k) (s.F k) wr.drew:=bc;have a8:B9 wr ((wr.alloc (.cells #[J (s.F k).parent,.string (s.F k).key,J (s.F k).count] 205)).drew):=(n9).drew;have X:F2 (Bk k) (s.F k) (wr.alloc (.cells #[J (s.F k).parent,.string (s.F k).key,J (s.F k).count] 205)).drew:=bc.keep (a8.block _ b1);have yX:(wr.alloc (.cells #[J (s.F k).parent,.string (s.F k).key,J (s.F k).count] 205)).drew.cell? (G l 0)=some (.slice u k B):=(a8.cell (p:=(G l 0)) ar).trans y0;have yY:(wr.alloc (.cells #[J (s.F k).parent,.string (s.F k).key,J (s.F k).count] 205)).cell? (G l 0)=some (.slice u k B):=yX;have ad:=O a.f;have HF:Hid (∀g3 b w3,w3.ownsRow w.heap.size 205 3 (S9 g3 (k+1) b) (k+1) (ZJ s.F k++[J (s.F k).parent,.string (s.F k).key,J (s.F k).count])->(wr.alloc (.cells #[J (s.F k).parent,.string (s.F k).key,J (s.F k).count] 205)).drew.grownBy w3 (Value.ownBlock (.slice u k B))->(Value.ownBlock (.slice u k B)=some g3\/g3=(wr.alloc (.cells #[J (s.F k).parent,.string (s.F k).key,J (s.F k).count] 205)).drew.heap.size)->
     F2 (Bk k) (s.F k) w3/\F2 (Bk k) (s.F k) (w3.setCell (G l 0) (S9 g3 (k+1) b))/\w3.cell? (G l 0)=some (.slice u k B)/\w3.frozen? (G l 0)=false/\l<w3.heap.size/\IG w l (S9 g3 (k+1) b) (N9) Q s (k+1) 0 (fun _=>⟨.nilFunc,.nilFunc,.nilFunc,.nilFunc⟩) (fun _=>w.heap.size) (w3.setCell (G l 0) (S9 g3 (k+1) b))):=O (by
    intro g3 b w3 h1 h2 h3;obtain⟨p1,p2⟩:=a.shape a8 h2 h1 (h3.imp id (fun e=>by omega));have av:F2 (Bk k) (s.F k) w3:=X.keep (h2.block _ (Be b1 a8.size) (fun e=>by
     obtain⟨cur,hc,_⟩:=A3 a.f e.symm;rw[hc]at hcs;cases hcs))
    exact⟨av,av.keep (At _ _ _ _ (by exact Cy)),by simp[World.cell?,p1],by simp[World.frozen?,p1],Aj p1,p2⟩)
   clear P a bc hcs C aj;go_wp2_with fail
   refine H9 (F2 (Bk k) (s.F k)) ?_;refine tz 0 (h:=tz 1 (h:=tz 3 (h:=tz 4 (h:=tz 5 (h:=tz 6 (h:=?_))))));refine AaG (rs:=[2,7]) (by kernel_rfl) (by simp) ?_;refine RC rfl (fun K hK=>?armA) (RC rfl (fun K hK=>?armB) AaI)
   case' armA=>
    go_simp;refine hK.out _ _ az (fun _=>?_);clear hK K;refine ry 7 (fun K hK=>?_);go_simp;refine hK.out _ _ X (fun b2=>?_);clear hK K
   case' armB=>
    go_simp;refine hK.out _ _ X (fun b2=>?_);clear hK K;refine ry 2 (fun K hK=>?_);go_simp;refine hK.out _ _ X (fun _=>?_);clear hK K
   all_goals
    refine ry 8 (fun K hK=>?_);refine Aap _ rfl (.tmp 26) (.tmp 31) 36 rfl w.heap.size 205 k0 (Sh 0 ⟨#[]⟩ 0) 3 32 underlying36 b9 ca cb cc rfl (by decide) (.slice u k B) k (ZJ s.F k) (by simp[Act.eval]) (World.ownsRow.drew (IH ad _)) (y wr 0) 1 1 [J (s.F k).parent,.string (s.F k).key,J (s.F k).count] (by simp[Act.eval]) rfl (GP (w:=(wr.alloc (.cells #[J (s.F k).parent,.string (s.F k).key,J (s.F k).count] 205)).drew) (BE wr _)) (by simp[Value.oneCell']) (by decide) (by unfold maxLen;omega) (by omega) (by simp;omega) _ rfl ?_;intro g3 b w3 o D r aM;obtain⟨av,ae,x3,f3,b3,E⟩:=z HF g3 b w3 o D r;have af:=O E;clear o D r E;refine hK.out _ _ av (fun bh=>?_);clear hK K;simp only[Act.put,List.getElem_toArray,AaT,AaS,Aam,List.set_cons_succ,List.set_cons_zero];refine tz 9 (h:=tz 10 (h:=?_));refine ry 11 (fun K hK=>?_);go_simp;refine hK.out _ _ ae (fun _=>?_);clear hK K;refine FM ?_;clear av ae bh x3 f3 b2 az X yX yY y0 xN;obtain⟨w4,ag⟩:∃w4,w4=w3.setCell (G l 0) (S9 g3 (k+1) b):=⟨_,rfl⟩;rw[<-ag]at af ⊢;clear ag;go_wp2;go_roundw
    case rel=>exact⟨k+1,_,by omega,by go_num,af⟩
    case measure=>simp[intOf];omega
  ·have bd:k=s.nf:=by omega
   subst bd;have c1:=P.cells.2.1;have ck:=P.lt;clear P a I;go_wp2_with fail
   go_loopw [42] (fun i wr=>∃(k:Nat) (vT:V9) (H:Nat->Hs) (L:Nat->Nat),k<=s.nt/\i=J k/\IG w l vF vT Q s s.nf k H L wr) (fun i _=>s.nt-(intOf i).toNat)
   case atStart=>exact⟨0,_,_,_,by omega,rfl,aj⟩
   case round=>
    clear aj c1 ck bz;obtain⟨k,vT,H,L,hk,rfl,a⟩:=hrel;have P:=(HM.below a.CH).1;have R:=(HM.below a.CH.drew).1;have bz:=a.CH.size;have aj:=O a;by_cases I:k<s.nt
    ·obtain⟨gT,cz,cl,c5,_,xT,_⟩:=P.FI I;cases cl;obtain⟨u,B,rfl⟩:=Ao a.t;have C:=a.box;have ar:=Aj C;have y1:wr.cell? (G l 1)=some (.slice u k B):=by simp[World.cell?,C]
     have ad:=O a.t;have HF:Hid (∀w2 hh g3 b w3,Nt wr.heap.size w2.heap.size w2 hh (s.T k)->Below wr.heap.size wr.drew w2->w3.ownsRow w.heap.size 94 8 (S9 g3 (k+1) b) (k+1) (Ld (fun i=>Nf (H i) (s.T i)) k++Nf hh (s.T k))->(w2.alloc (.cells (Nf hh (s.T k)).toArray 94)).grownBy w3 (Value.ownBlock (.slice u k B))->(Value.ownBlock (.slice u k B)=some g3\/g3=(w2.alloc (.cells (Nf hh (s.T k)).toArray 94)).heap.size)->
       w3.cell? (G l 1)=some (.slice u k B)/\w3.frozen? (G l 1)=false/\l<w3.heap.size/\∃H' L',IG w l vF (S9 g3 (k+1) b) Q s s.nf (k+1) H' L' (w3.setCell (G l 1) (S9 g3 (k+1) b))):=O (by
      intro w2 hh g3 b w3 V hb h1 h2 h3;have au:B9 wr w2:=(DD _ _).drew.trans hb;have g:B9 wr (w2.alloc (.cells (Nf hh (s.T k)).toArray 94)):=au.alloc au.size _;have cm:Nt wr.heap.size (w2.alloc (.cells (Nf hh (s.T k)).toArray 94)).heap.size (w2.alloc (.cells (Nf hh (s.T k)).toArray 94)) hh (s.T k):=(V.keep (fun q e=>Fs _ _ _ (V.own e).2.2)).wide (A0 _) (by simp);obtain⟨p1,p2⟩:=a.table g cm h2 h1 (h3.imp id (fun e=>by omega));exact⟨by simp[World.cell?,p1],by simp[World.frozen?,p1],Aj p1,_,_,p2⟩)
     have dM:E4 wr.drew:=trivial;rcases Sb (B0:=B0) (Bk:=Bk) (A:=A k) HG.f (HG.t k I)with⟨aw,M⟩|⟨pk,aw,M⟩
     ·rw[aw]at xT;have HC:=O (M wr.drew R.nd (R.rd k I).now.1 (R.rd k I).now.2);clear aw M P R a C aj;go_wp2_with fail
      refine H9 E4 ?_;refine tz 0 (h:=tz 2 (h:=?_));refine AaG (rs:=[1,3]) (by kernel_rfl) (by simp) ?_;refine RC rfl (fun K hK=>?arm1A) (RC rfl (fun K hK=>?arm1B) AaI)
      case' arm1A=>
        go_simp;refine hK.out _ _ dM (fun _=>?_);clear hK K;refine ry 3 (fun K hK=>?_);go_simp;refine HC.mono ?_;rintro e w2 ⟨⟨hh,rfl,V⟩,g⟩;obtain⟨a1,c1,a2,c2,a3,c3,a4,c4,rfl⟩:=V.one;have j:B9 wr w2:=(DD _ _).drew.trans g;have z2:=j.size;have y2:w2.cell? (G l 1)=some (.slice u k B):=(j.cell (p:=(G l 1)) ar).trans y1;have y3:(w2.alloc (.cells #[J (s.T k).shape,.slice a1 (s.T k).nv c1,.slice a2 (s.T k).d.n c2,.slice a3 (s.T k).d.m c3,.slice a4 (s.T k).d.x c4,J (s.T k).d.used,J (s.T k).d.live,J (s.T k).d.turns] 94)).cell? (G l 1)=some (.slice u k B):=GD y2;have ak:=O (AP ad j);have ao:=O (fun g3 b w3=>HF w2 _ g3 b w3 V g);have U:E4 w2:=trivial;have e8:(Nf ⟨.slice a1 (s.T k).nv c1,.slice a2 (s.T k).d.n c2,.slice a3 (s.T k).d.m c3,.slice a4 (s.T k).d.x c4⟩ (s.T k)).toArray=#[J (s.T k).shape,.slice a1 (s.T k).nv c1,.slice a2 (s.T k).d.n c2,.slice a3 (s.T k).d.m c3,.slice a4 (s.T k).d.x c4,J (s.T k).d.used,J (s.T k).d.live,J (s.T k).d.turns]:=rfl;rw[e8];refine hK.out _ _ U (fun _=>?_);clear hK K V g j e8;refine ry 4 (fun K hK=>?_);go_simp;refine hK.out _ _ trivial (fun _=>?_);clear hK K
      case' arm1B=>
        go_simp;refine HC.mono ?_;rintro e w2 ⟨⟨hh,rfl,V⟩,g⟩;obtain⟨a1,c1,a2,c2,a3,c3,a4,c4,rfl⟩:=V.one;have j:B9 wr w2:=(DD _ _).drew.trans g;have z2:=j.size;have y2:w2.cell? (G l 1)=some (.slice u k B):=(j.cell (p:=(G l 1)) ar).trans y1;have y3:(w2.alloc (.cells #[J (s.T k).shape,.slice a1 (s.T k).nv c1,.slice a2 (s.T k).d.n c2,.slice a3 (s.T k).d.m c3,.slice a4 (s.T k).d.x c4,J (s.T k).d.used,J (s.T k).d.live,J (s.T k).d.turns] 94)).cell? (G l 1)=some (.slice u k B):=GD y2;have ak:=O (AP ad j);have ao:=O (fun g3 b w3=>HF w2 _ g3 b w3 V g);have U:E4 w2:=trivial;have e8:(Nf ⟨.slice a1 (s.T k).nv c1,.slice a2 (s.T k).d.n c2,.slice a3 (s.T k).d.m c3,.slice a4 (s.T k).d.x c4⟩ (s.T k)).toArray=#[J (s.T k).shape,.slice a1 (s.T k).nv c1,.slice a2 (s.T k).d.n c2,.slice a3 (s.T k).d.m c3,.slice a4 (s.T k).d.x c4,J (s.T k).d.used,J (s.T k).d.live,J (s.T k).d.turns]:=rfl;rw[e8];refine hK.out _ _ U (fun _=>?_);clear hK K V g j e8;refine AaG (rs:=[1,4]) (by kernel_rfl) (by simp) ?_;refine RC rfl (fun K hK=>?arm1C) (RC rfl (fun K hK=>?arm1D) AaI)
      case' arm1C=>
        go_simp;refine hK.out _ _ U (fun _=>?_);clear hK K;refine ry 4 (fun K hK=>?_);go_simp;refine hK.out _ _ trivial (fun _=>?_);clear hK K
      case' arm1D=>
        go_simp;refine hK.out _ _ trivial (fun _=>?_);clear hK K;refine ry 1 (fun K hK=>?_);go_simp;refine hK.out _ _ trivial (fun _=>?_);clear hK K
      all_goals
       clear HC HF ad;refine ry 5 (fun K hK=>?_);refine Aap _ rfl (.tmp 47) (.tmp 50) 39 rfl w.heap.size 94 t0 (.agg Wc) 8 128 underlying39 bk bm bn bp rfl (by decide) (.slice u k B) k (Ld (fun i=>Nf (H i) (s.T i)) k) (by simp[Act.eval]) (IH ak _) (y w2 0) 1 1 [J (s.T k).shape,.slice a1 (s.T k).nv c1,.slice a2 (s.T k).d.n c2,.slice a3 (s.T k).d.m c3,.slice a4 (s.T k).d.x c4,J (s.T k).d.used,J (s.T k).d.live,J (s.T k).d.turns] (by simp[Act.eval]) rfl (GP (BE w2 _)) (by simp[Value.oneCell']) (by decide) (by unfold maxLen;omega) (by omega) (by simp;omega) _ rfl ?_;intro g3 b w3 o D r aM;obtain⟨x3,f3,b3,H',L',E⟩:=z ao g3 b w3 o D r;have af:=O E;have bf:E4 w3:=trivial;clear o D r E ao ak y1 y2 y3 xT;refine hK.out _ _ bf (fun _=>?_);clear hK K;simp only[Act.put,List.getElem_toArray,AaT,AaS,Aam,List.set_cons_succ,List.set_cons_zero];refine tz 6 (h:=?_);refine ry 7 (fun K hK=>?_);go_simp;refine hK.out _ _ trivial (fun _=>?_);clear hK K;refine FM ?_;clear x3 f3;obtain⟨w4,ag⟩:∃w4,w4=w3.setCell (G l 1) (S9 g3 (k+1) b):=⟨_,rfl⟩;rw[<-ag]at af ⊢;clear ag;go_wp2;go_roundw
       case rel=>exact⟨k+1,_,_,_,by omega,by go_num,af⟩
       case measure=>simp[intOf];omega
     ·rw[aw]at xT;have HC:=O (M wr.drew R.nd (R.rd k I).now.1 (R.rd k I).now.2);clear aw M P R a C aj;go_wp2_with fail
      refine H9 E4 ?_;refine tz 0 (h:=tz 2 (h:=?_));refine AaG (rs:=[1,3]) (by kernel_rfl) (by simp) ?_;refine RC rfl (fun K hK=>?arm2A) (RC rfl (fun K hK=>?arm2B) AaI)
      case' arm2A=>
        go_simp;refine hK.out _ _ dM (fun _=>?_);clear hK K;refine ry 3 (fun K hK=>?_);go_simp;refine HC.mono ?_;rintro e w2 ⟨⟨hh,rfl,V⟩,g⟩;obtain⟨a1,c1,a2,c2,a3,c3,a4,c4,rfl⟩:=V.one;have j:B9 wr w2:=(DD _ _).drew.trans g;have z2:=j.size;have y2:w2.cell? (G l 1)=some (.slice u k B):=(j.cell (p:=(G l 1)) ar).trans y1;have y3:(w2.alloc (.cells #[J (s.T k).shape,.slice a1 (s.T k).nv c1,.slice a2 (s.T k).d.n c2,.slice a3 (s.T k).d.m c3,.slice a4 (s.T k).d.x c4,J (s.T k).d.used,J (s.T k).d.live,J (s.T k).d.turns] 94)).cell? (G l 1)=some (.slice u k B):=GD y2;have ak:=O (AP ad j);have ao:=O (fun g3 b w3=>HF w2 _ g3 b w3 V g);have U:E4 w2:=trivial;have e8:(Nf ⟨.slice a1 (s.T k).nv c1,.slice a2 (s.T k).d.n c2,.slice a3 (s.T k).d.m c3,.slice a4 (s.T k).d.x c4⟩ (s.T k)).toArray=#[J (s.T k).shape,.slice a1 (s.T k).nv c1,.slice a2 (s.T k).d.n c2,.slice a3 (s.T k).d.m c3,.slice a4 (s.T k).d.x c4,J (s.T k).d.used,J (s.T k).d.live,J (s.T k).d.turns]:=rfl;rw[e8];refine hK.out _ _ U (fun _=>?_);clear hK K V g j e8;refine ry 4 (fun K hK=>?_);go_simp;refine hK.out _ _ trivial (fun _=>?_);clear hK K
      case' arm2B=>
        go_simp;refine HC.mono ?_;rintro e w2 ⟨⟨hh,rfl,V⟩,g⟩;obtain⟨a1,c1,a2,c2,a3,c3,a4,c4,rfl⟩:=V.one;have j:B9 wr w2:=(DD _ _).drew.trans g;have z2:=j.size;have y2:w2.cell? (G l 1)=some (.slice u k B):=(j.cell (p:=(G l 1)) ar).trans y1;have y3:(w2.alloc (.cells #[J (s.T k).shape,.slice a1 (s.T k).nv c1,.slice a2 (s.T k).d.n c2,.slice a3 (s.T k).d.m c3,.slice a4 (s.T k).d.x c4,J (s.T k).d.used,J (s.T k).d.live,J (s.T k).d.turns] 94)).cell? (G l 1)=some (.slice u k B):=GD y2;have ak:=O (AP ad j);have ao:=O (fun g3 b w3=>HF w2 _ g3 b w3 V g);have U:E4 w2:=trivial;have e8:(Nf ⟨.slice a1 (s.T k).nv c1,.slice a2 (s.T k).d.n c2,.slice a3 (s.T k).d.m c3,.slice a4 (s.T k).d.x c4⟩ (s.T k)).toArray=#[J (s.T k).shape,.slice a1 (s.T k).nv c1,.slice a2 (s.T k).d.n c2,.slice a3 (s.T k).d.m c3,.slice a4 (s.T k).d.x c4,J (s.T k).d.used,J (s.T k).d.live,J (s.T k).d.turns]:=rfl;rw[e8];refine hK.out _ _ U (fun _=>?_);clear hK K V g j e8;refine AaG (rs:=[1,4]) (by kernel_rfl) (by simp) ?_;refine RC rfl (fun K hK=>?arm2C) (RC rfl (fun K hK=>?arm2D) AaI)
      case' arm2C=>
        go_simp;refine hK.out _ _ U (fun _=>?_);clear hK K;refine ry 4 (fun K hK=>?_);go_simp;refine hK.out _ _ trivial (fun _=>?_);clear hK K
      case' arm2D=>
        go_simp;refine hK.out _ _ trivial (fun _=>?_);clear hK K;refine ry 1 (fun K hK=>?_);go_simp;refine hK.out _ _ trivial (fun _=>?_);clear hK K
      all_goals
       clear HC HF ad;refine ry 5 (fun K hK=>?_);refine Aap _ rfl (.tmp 47) (.tmp 50) 39 rfl w.heap.size 94 t0 (.agg Wc) 8 128 underlying39 bk bm bn bp rfl (by decide) (.slice u k B) k (Ld (fun i=>Nf (H i) (s.T i)) k) (by simp[Act.eval]) (IH ak _) (y w2 0) 1 1 [J (s.T k).shape,.slice a1 (s.T k).nv c1,.slice a2 (s.T k).d.n c2,.slice a3 (s.T k).d.m c3,.slice a4 (s.T k).d.x c4,J (s.T k).d.used,J (s.T k).d.live,J (s.T k).d.turns] (by simp[Act.eval]) rfl (GP (BE w2 _)) (by simp[Value.oneCell']) (by decide) (by unfold maxLen;omega) (by omega) (by simp;omega) _ rfl ?_;intro g3 b w3 o D r aM;obtain⟨x3,f3,b3,H',L',E⟩:=z ao g3 b w3 o D r;have af:=O E;have bf:E4 w3:=trivial;clear o D r E ao ak y1 y2 y3 xT;refine hK.out _ _ bf (fun _=>?_);clear hK K;simp only[Act.put,List.getElem_toArray,AaT,AaS,Aam,List.set_cons_succ,List.set_cons_zero];refine tz 6 (h:=?_);refine ry 7 (fun K hK=>?_);go_simp;refine hK.out _ _ trivial (fun _=>?_);clear hK K;refine FM ?_;clear x3 f3;obtain⟨w4,ag⟩:∃w4,w4=w3.setCell (G l 1) (S9 g3 (k+1) b):=⟨_,rfl⟩;rw[<-ag]at af ⊢;clear ag;go_wp2;go_roundw
       case rel=>exact⟨k+1,_,_,_,by omega,by go_num,af⟩
       case measure=>simp[intOf];omega
    ·have bd:k=s.nt:=by omega
     subst bd;obtain⟨ga,gc,rfl⟩:=Ao a.f;obtain⟨u,B,rfl⟩:=Ao a.t;obtain⟨za,zc,rfl⟩:=Ao a.si;obtain⟨w4,a6,ae⟩:=BD (v:=.agg #[.slice ga s.nf gc,.slice u s.nt B,.slice za s.ns zc]) (old:=gR.toList) (vs:=[.slice ga s.nf gc,.slice u s.nt B,.slice za s.ns zc]) Yj a.res rfl rfl (by simp[Value.oneCell']) rfl;have cn:=O a6;have cp:=O a.box;have b4:=O (a.whole ax ae);have r0:=Aa (vs:=[.slice ga s.nf gc,.slice u s.nt B,.slice za s.ns zc]) ae 0 _ rfl;have r1:=Aa (vs:=[.slice ga s.nf gc,.slice u s.nt B,.slice za s.ns zc]) ae 1 _ rfl;have r2:=Aa (vs:=[.slice ga s.nf gc,.slice u s.nt B,.slice za s.ns zc]) ae 2 _ rfl;clear P R a aj a6 ae I;go_wp2_with (first|(refine Aan rfl 42 _ rfl l rfl _ _ _ _ cp underlying42 rfl fJ ?_)|(refine Ak rfl rfl _ cn ?_))
     refine DO (v:=.agg #[.slice ga s.nf gc,.slice u s.nt B,.slice za s.ns zc]) (by simp[results,results58,go_sem,r0,r1,r2]) rfl ⟨⟨_,_,_,_,rfl,b4.1⟩,b4.2⟩
def E0:AV:=⟨1,f1,0,fun _=>SL,0,fun _=>default⟩
theorem Qg:Ar 1 (fun _=>⟨-1,⟨#[]⟩,0⟩)=0:=Kg ⟨by decide,by decide⟩ ⟨rfl,by kernel_rfl,rfl⟩ (fun i h1 h2=>by omega) (fun i k h1 h2 h3=>by omega) (fun i t h1 h2=>by omega)
theorem Ie:Fg 0 E0:=⟨Qg,P9 _,P9 _,fun i hi=>absurd hi (NO _),fun i hi=>absurd hi (NO _)⟩
theorem Vx(w:Y):(sizeOf 62).run prog w=.ok 5 w:=by kernel_rfl
abbrev iN:Array Value:=#[.bool false,N9,N9,N9,N9]
theorem Wy{w:Y}{b lo hi:Nat}(h:GV f1 1 w (SB b) lo hi):Du w b E0.nf E0.F/\lo<=b:=by
 rcases h with⟨h,_⟩|⟨_,b',a,e,h1,h2,h3⟩
 ·cases h
 ·cases e;exact⟨h3,h1⟩
theorem Zf(b:Nat)(w:Y)(C:Du w b E0.nf E0.F)(L:A8 w):
  C9 55 #[ES (SB b)] w fun e w'=>(∃g m B v,e=.returned (.tuple #[.agg #[S9 g 1 m,v],J 0])/\P4 w' w.heap.size (S9 g 1 m) 1 B/\IE w' E0 w.heap.size B/\P6 w' w.heap.size v 0 B (fun _=>default) E0)/\B9 w w':=by
 have D:=C.lt;obtain⟨i0,hi,P,Q,R⟩:=Tn MA;obtain⟨W,c⟩:∃W,W=(w.alloc (.cells #[S9 b 1 1,N9,N9] 42)).alloc (.cells #[N9,N9] 118):=⟨_,rfl⟩;have k:B9 w W:=by rw[c];exact(n9).alloc (by simp) _
 have x0:W.cell? (y w 0)=some (S9 b 1 1):=by rw[c];simp[go_sem]
 have x1:W.cell? (y w 1)=some (N9):=by rw[c];simp[go_sem]
 have x2:W.cell? (y w 2)=some (N9):=by rw[c];simp[go_sem]
 have r0:W.cell? (Y9 w 0)=some (N9):=by rw[c];simp[go_sem]
 have r1:W.cell? (Y9 w 1)=some (N9):=by rw[c];simp[go_sem]
 have f0:W.frozen? (Y9 w 0)=false:=by rw[c];simp[go_sem]
 have n:W.frozen? (Y9 w 1)=false:=by rw[c];simp[go_sem]
 have o:w.heap.size<W.heap.size:=by rw[c];simp;omega
 have s:w.heap.size+1<W.heap.size:=by rw[c];simp
 have S:=O (C.below k D);have t:=O k;clear k C L
 go_enter func55,ntmps55
 go_wp2_with fail
 rw[<-c];clear c;refine(Oj b 1 1 f1 _ S (by decide)).mono ?_;rintro e w1 ⟨hj,a⟩;have y1:=(a.cell (p:=(y w 1)) o).trans x1;have y2:=(a.cell (p:=(y w 2)) o).trans x2;have K:=(a.cell (p:=(Y9 w 0)) s).trans r0;have s1:=(a.cell (p:=(Y9 w 1)) s).trans r1;have g0:=(a.frozen (p:=(Y9 w 0)) s).trans f0;have g1:=(a.frozen (p:=(Y9 w 1)) s).trans n;have T:w.heap.size<w1.heap.size:=Be o a.size;have U:w.heap.size+1<w1.heap.size:=Be s a.size;have E:=O (t.trans (a.mono t.size));rcases hj with⟨r,rfl,V,H⟩|⟨g,m,B,Z,M,rfl,h1,hN,hid,⟨f,h⟩,d⟩
 ·exact absurd (V.trans Qg) H
 have X:=O (And.intro hN (And.intro hid (And.intro f (And.intro h d))));clear h1 hN hid f h d a x0 x1 x2 r0 r1 f0 n;go_wp2_with fail
 go_loopw [6,35] (fun v i wr=>v=N9/\i=J 0/\wr=w1) (fun _ _ _=>0)
 case atStart=>exact⟨rfl,rfl,rfl⟩
 case round=>
  obtain⟨rfl,rfl,l⟩:=hrel;have l:=l.symm;subst l;go_wp2_with fail
  go_loopw [58] (fun i wr=>i=J 0/\wr=w1) (fun _ _=>0)
  case atStart=>exact⟨rfl,rfl⟩
  case round=>
   obtain⟨rfl,l⟩:=hrel;have l:=l.symm;subst l;go_wp2_with fail
   obtain⟨hN,hid,f,h,d⟩:=z X;refine DO (v:=.tuple #[.agg #[S9 g 1 m,N9],J 0]) (by simp[results,results55,go_sem,K,s1]) rfl ?_;have j:g≠w.heap.size+1:=fun e=>by
    have u:=d 0 (by decide);rw[e,K]at u;cases u
   have x:((w1.setCell (Y9 w 0) (S9 g 1 m)).setCell (Y9 w 1) (N9)).heap[g]?=w1.heap[g]?:=(At _ _ _ _ (by exact j)).trans (At _ _ _ _ (by exact j));have I:Nd w1 E0 W.heap.size g B Z M:=⟨hN,hid,f,d⟩;have A:=Nd.MZ (I.JC (fun b hb _=>(At _ _ _ _ (by show b≠w.heap.size+1;omega)).trans (At _ _ _ _ (by show b≠w.heap.size+1;omega))) x) (Aar o);refine⟨⟨g,m,B,_,rfl,Ai (MR h (Aar o)) (fun q e=>by cases e;exact x),⟨Z,M,A.ns,A.id⟩,ON _ _ _ _⟩,?_⟩;repeat(refine W0 ?_ (by show w.heap.size<=w.heap.size+1;omega) _)
   exact E
theorem cT(g a:Nat)(B:Nat->Nat)(b:T9)(tc B0:Nat)(w:Y)(f:B0<=w.heap.size)(hn:P4 w B0 (S9 g 1 a) 1 B)(d:IE w E0 B0 B)(h:P6 w B0 (.slice b 0 tc) 0 B (fun _=>default) E0):
  C9 56 #[.agg #[S9 g 1 a,.slice b 0 tc],N9] w fun e w'=>(∃c vS,e=.returned (Q9 c)/\AZ (fun _=>False) w' c B0 (S9 g 1 a) (.slice b 0 tc) vS (N9) B (fun _=>default) E0)/\B9 w w':=
 PB B0 _ _ _ _ _ _ none 0 B (fun _=>default) E0 w f (P9 _) hn d h (.inl rfl) (fun w' Z h1 h2 i hi=>absurd hi (NO _))
theorem Uf.forms{lo hi:Nat}{w:Y}{vF vT vS:V9}{s:AV}{H:Nat->Hs}(h:Uf lo hi w vF vT vS s H):∃i j c tc sa sc,vF=.slice i s.nf j/\vT=.slice c s.nt tc/\vS=.slice sa s.ns sc:=by
 obtain⟨i,j,hf⟩:=h.f.form;have d:∃c tc,vT=.slice c s.nt tc:=by
  rcases h.t with⟨e,a⟩|⟨b,k,Z,g,a,_⟩
  ·exact⟨none,0,by rw[a,e]⟩
  ·exact⟨_,_,a⟩
 have hs:∃c tc,vS=.slice c s.ns tc:=by
  rcases h.si with⟨e,a⟩|⟨b,k,Z,g,a,_⟩
  ·exact⟨none,0,by rw[a,e]⟩
  ·exact⟨_,_,a⟩
 obtain⟨c,tc,d⟩:=d;obtain⟨sa,sc,hs⟩:=hs;exact⟨_,_,_,_,_,_,hf,d,hs⟩
structure S3 (w w':Y) (n:Nat) (f:Nat->Ac) (va vF vT vS:V9) (H:Nat->Hs) (lo:Nat):Prop where
 row:w'.ownsRow w.heap.size 45 12 va n (Mf (Mg E0 f) n)
 st:Uf lo w'.heap.size w' vF vT vS (CV E0 f n) H
 lt:∀k,va.ownBlock=some k->k<lo
 ge:w.heap.size<=lo
 below:B9 w w'
theorem Jz(v:V9)(n:Nat)(f:Nat->Ac)(w:Y)(hA:Ud w v n f)(hn:n<=1000)(L:∀i,i<n->Wf (f i).k/\Wf (f i).v)(hT:A8 w)(hE:Gc w)(hD:∀i,i<n->Ed (f i)):
  C9 23 #[v] w fun e w'=>∃va vF vT vS H lo,e=.returned (.agg #[.bool true,va,vF,vT,vS])/\S3 w w' n f va vF vT vS H lo:=by
 have ar:=O hD;clear hD;obtain⟨ab,au,rfl,M,hcs⟩:=hA;obtain⟨W,P⟩:∃W,W=w.alloc (.cells iN 62):=⟨_,rfl⟩;have Q:B9 w W:=by rw[P];exact(DD _ _).alloc (A0 _) _
 have R:W.heap[w.heap.size]?=some (.cells iN 62 (0,0)):=by rw[P];exact BE _ _
 have av:W.heap.size=w.heap.size+1:=by rw[P];simp
 have aw:=hE.lt;have bc:=hT.sz;have d0:decide ((1000:Int)<(n:Int))=false:=by simp;omega
 have HB:=O Q;have ax:=O R;have ay:=O hcs;have HT:=O hT;have HE:=O hE;have C:=O L;have az:w.heap.size<W.heap.size:=by omega
 clear hcs Q R hT hE L av
 go_enter func23,ntmps23
 go_upto_region 1 with fail
 rw[<-P];clear P;go_wp2_with fail
 refine(RZ _).mono ?_;rintro e w1 ⟨⟨b,rfl,S⟩,s⟩;obtain⟨T,aM⟩:=Wy S;have D:=O (HB.trans (s.mono HB.size));have U:=O ((s.block _ az).trans ax);have z1:=s.size;have HJ:=O (Zf b w1 T (AL _ _ HT D));clear S T aM s;go_wp2_with fail
 refine HJ.mono ?_;rintro e w2 ⟨⟨g,cp,Bk,vt,rfl,V,Z,E⟩,o⟩;obtain⟨ta,tc,rfl⟩:=Ao E;have z2:=o.size;have m:B9 w2 (w2.alloc (.cells #[S9 g 1 cp,.slice ta 0 tc] 118)):=n9;obtain⟨X,K⟩:∃X,X=w2.alloc (.cells #[S9 g 1 cp,.slice ta 0 tc] 118):=⟨_,rfl⟩;have x0:X.cell? (y w2 0)=some (S9 g 1 cp):=by rw[K];simp[go_sem]
 have x1:X.cell? (y w2 1)=some (.slice ta 0 tc):=by rw[K];simp[go_sem]
 have lX:w2.heap.size<X.heap.size:=by rw[K];simp
 rw[<-K]at m;have ah:=O (D.trans ((o.trans (m.mono o.size)).mono D.size));have ad:=O ((m.block _ (by omega)).trans ((o.block _ (by omega)).trans U));have HO:=O (cT g cp Bk ta tc w1.heap.size X (by omega) (AP V m) (IE.below Z m) (AP E m));clear V Z E o m HJ;go_upto_region 4 with fail
 rw[<-K];clear K;go_wp2_with fail
 refine HO.mono ?_;rintro e w3 ⟨⟨c,vS,rfl,ai⟩,t⟩;have z3:=t.size;have l:=ah.trans (t.mono ah.size);have a6:=O l;have ae:=O ((t.block _ (by omega)).trans ad);have aj:=O (Pf c w1.heap.size ab au _ _ _ _ _ _ E0 n f w3 hn (by omega) (fun i hi j u hu=>(l.cell (p:=(G ab (i*14+j))) M).trans (ay i hi j u hu)) ai (fun q hq=>Jt Ie rfl C hn hq) (fun i hi=>(C i hi).1) (AL _ _ HT l) (by omega) (HE.below l aw) (by omega) ar);clear ai t l x0 x1 HO;go_wp2_with fail
 refine aj.mono ?_;rintro e w4 ⟨rfl,F⟩;obtain⟨bd,bf,bg,bh,bj,A4,ak,a7⟩:=F.wk;have z4:=F.below.size;have HS:=O (SW _ c _ _ _ _ _ _ _ (CV E0 f n) w4 ak (Jt Ie rfl C hn (A0 _)));have HR:=O F;have ao:=(F.row.lt _ rfl);have af:=O ((F.below.block w.heap.size (by omega)).trans ae);have aq:=O (a6.trans (F.below.mono (by omega)));clear F ak a7 aj;go_wp2_with fail
 refine HS.mono ?_;rintro e w5 ⟨⟨vF,vT,bk,H,rfl,I⟩,r⟩;obtain⟨x,A,d,h,sa,sc,rfl,rfl,rfl⟩:=I.forms;have z5:=r.size;obtain⟨w6,B,a⟩:=BD (v:=.agg #[.bool true,S9 w3.heap.size n n,.slice x (CV E0 f n).nf A,.slice d (CV E0 f n).nt h,.slice sa (CV E0 f n).ns sc]) (old:=iN.toList) (vs:=[.bool true,S9 w3.heap.size n n,.slice x (CV E0 f n).nf A,.slice d (CV E0 f n).nt h,.slice sa (CV E0 f n).ns sc]) Vx ((r.block _ (by omega)).trans af) rfl rfl (by simp[Value.oneCell']) rfl;have a8:Hid (S3 w w6 n f (S9 w3.heap.size n n) (.slice x (CV E0 f n).nf A) (.slice d (CV E0 f n).nt h) (.slice sa (CV E0 f n).ns sc) H w4.heap.size):=O (by
  have ag:=aq.trans (r.mono aq.size);refine⟨OC (Ai HR.row (fun k e=>?_)) (by omega),?_,fun k e=>by cases e;exact ao.2,by omega,a.below ag (A0 _)⟩
  ·cases e;exact(a.other w3.heap.size (by omega)).trans (r.block _ ao.2)
  ·rw[a.size];exact I.keep (fun q h1 _ _=>a.other q (by omega)))
 have bb:=O B;have r0:=Aa (vs:=[.bool true,S9 w3.heap.size n n,.slice x (CV E0 f n).nf A,.slice d (CV E0 f n).nt h,.slice sa (CV E0 f n).ns sc]) a 0 _ rfl;have r1:=Aa (vs:=[.bool true,S9 w3.heap.size n n,.slice x (CV E0 f n).nf A,.slice d (CV E0 f n).nt h,.slice sa (CV E0 f n).ns sc]) a 1 _ rfl;have r2:=Aa (vs:=[.bool true,S9 w3.heap.size n n,.slice x (CV E0 f n).nf A,.slice d (CV E0 f n).nt h,.slice sa (CV E0 f n).ns sc]) a 2 _ rfl;have r3:=Aa (vs:=[.bool true,S9 w3.heap.size n n,.slice x (CV E0 f n).nf A,.slice d (CV E0 f n).nt h,.slice sa (CV E0 f n).ns sc]) a 3 _ rfl;have r4:=Aa (vs:=[.bool true,S9 w3.heap.size n n,.slice x (CV E0 f n).nf A,.slice d (CV E0 f n).nt h,.slice sa (CV E0 f n).ns sc]) a 4 _ rfl;clear I r B a HS;go_wp2_with (refine Ak rfl rfl _ bb ?_)
 refine DO (v:=.agg #[.bool true,S9 w3.heap.size n n,.slice x (CV E0 f n).nf A,.slice d (CV E0 f n).nt h,.slice sa (CV E0 f n).ns sc]) (by simp[results,results23,go_sem,r0,r1,r2,r3,r4]) rfl ⟨_,_,_,_,_,_,rfl,a8⟩
section
abbrev iP:Ac:=⟨1,0,0,0,nov,nov⟩
abbrev YH(L:List Ac)(i:Nat):Ac:=L.getD i iP
section
variable (ka kb:ByteArray) (vA:Vl)
variable {ka kb vA} (Cy:ka.toList≠kb.toList) (h1:ka.size<=4000) (h2:kb.size<=4000) (hA:vA.ok=true) (dM:vA.kind≠0)
end
end
section
structure dY (s:AV) (n:Nat) (kb:ByteArray) (odd:Nat) (last:Vl):Prop where
 nt:s.nt=n+1
 le:n<=90
 n0:0<n
 ns:s.ns=1
 si:s.S 0=⟨kb,-1,0,0,0⟩
 kF:∀t,t<n->(s.T t).shape=2/\(s.T t).V 1=DA t
 kW:BW s.F 2 kb=1
 odd:(odd=0/\(s.T n).shape=0/\last=nov)\/(odd=1/\(s.T n).shape=3/\BW s.F 3 kb=0/\(s.T n).V 0=last)\/(odd=2/\(s.T n).shape=-1/\GB (s.T n).d (AE (s.T n).d (A7 kb) (hN (A7 kb)))=last)
section
variable {s:AV} {n odd:Nat} {kb:ByteArray} {last:Vl} (h:dY s n kb odd last)
include h
end
end
abbrev dS:Value:=.agg #[J 0,J 0,J 0,J 0,J 0,J 0,F9 0,E9,J 0,J 0,J 0,F9 0,E9,J 0]
theorem Xa:(prog.info? 51).map (fun i=>(i.zero,i.size,i.bytes))=some (some dS,14,128):=by kernel_rfl
def L9:List Ac->List Value
 |[]=>[]
 |a::L=>(Bn a).toList++L9 L
theorem Mb:∀L:List Ac,(L9 L).length=L.length*14
 |[]=>rfl
 |a::L=>by show((Bn a).toList++L9 L).length=_;rw[To,Mb L];simp;omega
theorem Ma:∀(L M:List Ac),L9 (L++M)=L9 L++L9 M
 |[],M=>rfl
 |a::L,M=>by show _++L9 (L++M)=_;rw[Ma L M];simp[L9]
theorem Ta:∀(L:List Ac) {i j:Nat},i<L.length->j<14->(L9 L)[i*14+j]?=(Bn (YH L i)).toList[j]?
 |a::L,0,j,_,hj=>by show((Bn a).toList++L9 L)[0*14+j]?=_;rw[PC (by simp;omega)];simp[YH]
 |a::L,i+1,j,hi,hj=>by
  show((Bn a).toList++L9 L)[(i+1)*14+j]?=_;rw[TO (by simp;omega),show(i+1)*14+j-(Bn a).toList.length=i*14+j by simp;omega,Ta L (by simpa using hi) hj];simp[YH]
theorem O7(a:Ac):∀u∈(Bn a).toList,u.oneCell'=true:=by simp[Value.oneCell']
theorem Tc:∀L:List Ac,∀u∈L9 L,u.oneCell'=true
 |[],u,h=>by cases h
 |a::L,u,h=>(AaM.1 (show u∈(Bn a).toList++L9 L from h)).elim (O7 a u) (Tc L u)
end Go.Proofs.YtgmlkfgfjjggnaaGreatDoor
