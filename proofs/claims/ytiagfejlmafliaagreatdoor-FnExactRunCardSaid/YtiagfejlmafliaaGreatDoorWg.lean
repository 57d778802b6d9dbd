import Derived.Test.YtiagfejlmafliaaGreatDoorWf
namespace Go.Proofs.YtiagfejlmafliaaGreatDoor
set_option linter.all false
open Go.Proofs.Tryz Pl
open Go.RowKit
set_option maxRecDepth 100000
set_option maxHeartbeats 16000000
open Pl (Ar)
open World renaming setCell->ez,alloc->ew
open List renaming range->eA,replicate->eE
open Option renaming some->a_,none->c_
open Bool renaming true->b_,false->d_
variable {ρ:Prop}
section
variable {u v v':Va}{l l':lI}{X:Prop}
structure M2(N:Nat)(B W:Wd)(p q:Option (Va × lI)):Prop where
 bl:Below N B W
 sz:N<=W.1.size
 hp:∀v l,p=a_ (v,l)->Oi N W v l
 hq:∀v l,q=a_ (v,l)->Oi N W v l
 ne:∀v l v' l',p=a_ (v,l)->q=a_ (v',l')->∀b,v.ownBlock=a_ b->¬v'.ownBlock=a_ b
section
variable {N:Nat} {B W W':Wd} {p q:Option (Va × lI)}
def M2.start(h:Below N B W)(hs:N<=W.1.size):M2 N B W c_ c_:=⟨h,hs,sI,sI,sI⟩
def M2.below(h:M2 N B W p q)(k:Bl W W'):M2 N B W' p q:=⟨nV h.bl k h.sz,jT h.sz k.size,λv l e=>(h.hp v l e).kp (.of k),λv l e=>(h.hq v l e).kp (.of k),h.ne⟩
def M2.aoi(h:M2 N B W c_ q)(k:Bl W W')(o:Oi W.1.size W' u l):M2 N B W' (a_ (u,l)) q :=
 have g:=h.below k;⟨g.bl,g.sz,λv l e=>by cases e;exact o.base h.sz,g.hq,λv l v' l' e e' b eb pU=>by cases e;have:=(o.lt eb).1;have:=((h.hq v' l' e').lt pU).2;omega⟩
def M2.aoh(h:M2 N B W p c_)(k:Bl W W')(o:Oi W.1.size W' u l):M2 N B W' p (a_ (u,l)) :=
 have g:=h.below k;⟨g.bl,g.sz,g.hp,λv l e=>by cases e;exact o.base h.sz,λv l v' l' e e' b eb pU=>by cases e';have:=(o.lt pU).1;have:=((h.hp v l e).lt eb).2;omega⟩
def M2.apk(h:M2 N B W (a_ (v,l)) q)(hg:W.grownBy W' v.ownBlock)(o:Oi N W' v' l')(ha:mY W v v'):M2 N B W' (a_ (v',l')) q:=by
 have ov:=h.hp v l rfl;have kk:Kp (λb=>¬v.ownBlock=a_ b) W W':=Kp.grown hg λb e q=>q e;refine⟨ov.fI h.bl hg h.sz,jT h.sz kk.sz,λu m e=>by cases e;exact o,λu m e=>(h.hq u m e).kp (kk.xw λb eb pU=>h.ne v l u m rfl e b pU eb),λu m u' m' e e' b eb pU=>?_⟩
 cases e
 rcases ha with ha|ha
 ·exact h.ne v l u' m' rfl e' b (ha ▸ eb) pU
 rw[ha] at eb;injection eb with eb;have:=((h.hq u' m' e').lt pU).2;omega
def M2.apj(h:M2 N B W p (a_ (v,l)))(hg:W.grownBy W' v.ownBlock)(o:Oi N W' v' l')(ha:mY W v v'):M2 N B W' p (a_ (v',l')):=by
 have ov:=h.hq v l rfl;have kk:Kp (λb=>¬v.ownBlock=a_ b) W W':=Kp.grown hg λb e q=>q e;refine⟨ov.fI h.bl hg h.sz,jT h.sz kk.sz,λu m e=>(h.hp u m e).kp (kk.xw λb eb pU=>h.ne u m v l e rfl b eb pU),λu m e=>by cases e;exact o,λu m u' m' e e' b eb pU=>?_⟩
 cases e'
 rcases ha with ha|ha
 ·exact h.ne u m v l e rfl b eb (ha ▸ pU)
 rw[ha] at pU;injection pU with pU;have:=((h.hp u m e).lt eb).2;omega
end
def Kb{w:Wd}{b c o:Nat}{z:Va}(h:¬b=c)(hc:w.cell? (Y b o)=a_ z)(x y:Va):((w.setCell (Y c 0) x).setCell (Y c 1) y).cell? (Y b o)=a_ z:=by
 rw[ZY _ _ _ _ λe=>h e.symm,ZY _ _ _ _ λe=>h e.symm,hc]
def al4 (h:X:=by
 refine tc 20 _ _ rfl rfl kF ((KM.o Wz ax ay dx dy ((Mz.hp _ _ rfl).ri.rw.jG λ_ _ _=>trivial)).mono ?_);rintro e Wy ⟨hb,rfl⟩;have My:=Mz.below hb;have TY:=TB.o.below My.bl;clear hb Mz;refine .inl ⟨_,rfl,S8.o _ My.bl,?_⟩
 cases hft:ft
 ·rw[hft] at eN
  have gC:=eN.o;rw[eB dC] at gC;subst gC;refine tk 21 (.agg nN) rfl (S8.o _ My.bl) (λ_ _=>kF) ?_;refine tk 22 (I 6) rfl (S8.o _ My.bl) (λ_ _=>kF) ?_;have ha:=(TY.a.eC (p:=(Y (w.1.size+1+1) 0)) J2 (nJ)).eC (p:=(Y (w.1.size+1+1) 1)) J2 (nJ);have hb:=(TY.b.eC (p:=(Y (w.1.size+1+1) 0)) sI (nJ)).eC (p:=(Y (w.1.size+1+1) 1)) sI (nJ);have SZ:=S8.o _ My.bl;have Q1:=Kb NG.o.1 SZ.2.2.1 (nJ) (nJ);have Q2:=Kb NG.o.2 SZ.2.2.2 (nJ) (nJ);refine ts 23 _ rfl rfl rfl (jf (pT (w.1.size+1+1)) (.agg nN) rfl kF kF (mU TY.r)) ⟨ha,hb,Q1,Q2⟩ ?_;refine tk 24 (I 6) rfl ⟨ha,hb,Q1,Q2⟩ (λ_ _=>kF) ?_;refine te ?_;obtain⟨c5,f5,z5⟩:=TY.r.all;have YB:=TY.bl;clear My TY ha hb SZ Q1 Q2 S8 TB KC KM RT RD;go_simp;go_wp2;refine eJ JK rfl ?_;exact pk
 rw[hft] at eN;have gC:=eN.o;rw[eD rfl] at gC;subst gC;refine tk 21 (.agg #[sX ax (q+1) ay,sX dx (l5+l7) dy]) rfl (S8.o _ My.bl) (λ_ _=>kF) ?_;refine tk 22 (I 0) rfl (S8.o _ My.bl) (λ_ _=>kF) ?_;have ha:=(TY.a.eC (p:=(Y (w.1.size+1+1) 0)) J2 (sX ax (q+1) ay)).eC (p:=(Y (w.1.size+1+1) 1)) J2 (sX dx (l5+l7) dy);have hb:=(TY.b.eC (p:=(Y (w.1.size+1+1) 0)) sI (sX ax (q+1) ay)).eC (p:=(Y (w.1.size+1+1) 1)) sI (sX dx (l5+l7) dy);have SZ:=S8.o _ My.bl;have Q1:=Kb NG.o.1 SZ.2.2.1 (sX ax (q+1) ay) (sX dx (l5+l7) dy);have Q2:=Kb NG.o.2 SZ.2.2.2 (sX ax (q+1) ay) (sX dx (l5+l7) dy);refine ts 23 _ rfl rfl rfl (jf (pT (w.1.size+1+1)) (.agg #[sX ax (q+1) ay,sX dx (l5+l7) dy]) rfl kF kF (mU TY.r)) ⟨ha,hb,Q1,Q2⟩ ?_;refine tk 24 (I 0) rfl ⟨ha,hb,Q1,Q2⟩ (λ_ _=>kF) ?_;refine te ?_;obtain⟨c5,f5,z5⟩:=TY.r.all;have YB:=TY.bl;have gP:RA (B.1.size<=·) Wy (sX ax (q+1) ay) (sX dx (l5+l7) dy) (hs::t1,da++db):=⟨(My.hp _ _ rfl).o (Kp.refl _ _) (jR _),(My.hq _ _ rfl).o (Kp.refl _ _) (jR _)⟩;have lr:=TB.o.r.lt;clear My TY ha hb SZ Q1 Q2 S8 TB KC KM RT RD;go_simp;go_wp2;refine eJ JK rfl ?_;exact SP.put (r:=.ok (hs::t1,da++db)) gP YB oM lr _ _):X:=h
def aii (h:X:=by
 have⟨g1,u1,TG,lF,xN⟩:=TC.o.ra.1.rw.at (i:=0) rfl;have⟨g2,u2,TF,kO,xM⟩:=TC.o.rb.1.rw.at (i:=0) rfl;rw[iz] at xN xM;subst TG TF;have pg1:=TC.o.ra.1.rw.eX (i:=0) rfl;have pg2:=TC.o.rb.1.rw.eX (i:=0) rfl;have ng1:¬g1=w.1.size+1+1:=oM;have ng2:¬g2=w.1.size+1+1:=oM;have NG:=zH (jA ng1 ng2);clear pg1 pg2 ng1 ng2;have H1:=zH TC.o.ra.1.tl;have H2:=zH TC.o.rb.1.tl;rw[show q+1-1=q by omega] at H1 H2;have vm:=zH λW=>mO (w:=W) (x:=sY g1 u1) (n:=q+1) (y:=y4) (l:=1) oM;have yJ:=zH λW=>mO (w:=W) (x:=sY g2 u2) (n:=q+1) (y:=y6) (l:=1) oM;rw[show q+1-1=q by omega] at vm yJ;generalize fU (sY g1 u1) 1 y4=xl,y4-1=yl,fU (sY g2 u2) 1 y6=xm,y6-1=ym at *;have SE:=zH (FO _ _ t1 t2 (H1.o.rw.kp (.of (show Bl wc wc.drew from by go_grown))) (H2.o.rw.kp (.of (show Bl wc wc.drew from by go_grown))) JT (by rw[E2.o];omega));have S9:Hid (∀W,Bl wc W->Bx W w.1.size #[sX (sY g1 u1) (q+1) y4,sX x5 l5 y5] 30/\Bx W (w.1.size+1) #[sX (sY g2 u2) (q+1) y6,sX x7 l7 y7] 30):=λW kk=>⟨(TC.o.below kk).a,(TC.o.below kk).b⟩;refine fT (S:=λW=>Bx W w.1.size #[sX (sY g1 u1) (q+1) y4,sX x5 l5 y5] 30/\Bx W (w.1.size+1) #[sX (sY g2 u2) (q+1) y6,sX x7 l7 y7] 30) kF (S9.o wc (jD _ _)) (λhS=>?_);refine tk 0 (pT w.1.size) rfl hS (λ_ _=>kF) ?_;refine tk 1 _ rfl hS (λ_ h=>fh _ _ rfl kF (kC h.1)) ?_;refine tk 2 (sX xl q yl) rfl hS (λW _=>ie rfl kF kF (vm.o W)) ?_;refine tk 3 (pT (w.1.size+1)) rfl hS (λ_ _=>kF) ?_;refine tk 4 _ rfl hS (λ_ h=>fh _ _ rfl kF (kC h.2)) ?_;refine tk 5 (sX xm q ym) rfl hS (λW _=>ie rfl kF kF (yJ.o W)) ?_;refine tc 6 _ _ rfl rfl kF (SE.o.mono ?_);rintro e B ⟨rfl,hb⟩;have KB:Bl wc B:=bv hb gG;have TB:=zH (TC.o.below KB);refine .inl ⟨_,rfl,S9.o _ KB,?_⟩;by_cases ht:t1=t2
 rotate_left
 ·rw[fH ht]
  have eN:r=.error 3:=by rw[hr.o,XN (by rw[E1.o,E2.o]) ht]
  subst eN;refine tk 7 (.bool b_) rfl (S9.o _ KB) (λ_ _=>kF) ?_;refine te ?_;obtain⟨c5,f5,z5⟩:=TB.o.r.all;have YB:=TB.o.bl;clear hS SE hb hr ht S9 TB TC KB xN xM H1 H2 vm yJ;go_simp;go_wp2;refine eJ JK rfl ?_;exact pk
 rw[fM ht];have eN:Hid (r=if Pl.fy ((h1+h2)::t1)=b_ then .ok ((h1+h2)::t1,da++db) else .error 6):=by show _=_;rw[hr.o,XO ht]
 refine tk 7 (.bool d_) rfl (S9.o _ KB) (λ_ _=>kF) ?_;refine te ?_;clear hS SE hb hr ht;go_simp;go_wp2_with fail;have lg1:g1<B.1.size:=by have:=KB.size;omega
 have lg2:g2<B.1.size:=by have:=KB.size;omega
 have S8:Hid (∀W,Bl B W->Bx W w.1.size #[sX (sY g1 u1) (q+1) y4,sX x5 l5 y5] 30/\Bx W (w.1.size+1) #[sX (sY g2 u2) (q+1) y6,sX x7 l7 y7] 30/\W.cell? (Y g1 u1)=a_ (I h1)/\W.cell? (Y g2 u2)=a_ (I h2)):=λW kk=>⟨(TB.o.below kk).a,(TB.o.below kk).b,((bv kk KB).cell (p:=(Y g1 u1)) lF).trans xN,((bv kk KB).cell (p:=(Y g2 u2)) kO).trans xM⟩;have QL:IntKind.i64.wrap (h1+h2)=h1+h2:=by rw[lj];omega
 refine fT (S:=λW=>Bx W w.1.size #[sX (sY g1 u1) (q+1) y4,sX x5 l5 y5] 30/\Bx W (w.1.size+1) #[sX (sY g2 u2) (q+1) y6,sX x7 l7 y7] 30/\W.cell? (Y g1 u1)=a_ (I h1)/\W.cell? (Y g2 u2)=a_ (I h2)) kF (S8.o B (jD _ _)) (λhS=>?_);refine tk 0 (pT w.1.size) rfl hS (λ_ _=>kF) ?_;refine tk 1 _ rfl hS (λ_ h=>fh _ _ rfl kF (kC h.1)) ?_;refine tk 2 (.pointer (sY g1 u1)) rfl hS (λ_ _=>nD (sX (sY g1 u1) (q+1) y4) (I ((0:Nat):Int)) rfl kF kF (qx (k:=0) oM)) ?_;refine tk 3 _ rfl hS (λ_ h=>fh _ _ rfl kF (nh h.2.2.1)) ?_;refine tk 4 (pT (w.1.size+1)) rfl hS (λ_ _=>kF) ?_;refine tk 5 _ rfl hS (λ_ h=>fh _ _ rfl kF (kC h.2.1)) ?_;refine tk 6 (.pointer (sY g2 u2)) rfl hS (λ_ _=>nD (sX (sY g2 u2) (q+1) y6) (I ((0:Nat):Int)) rfl kF kF (qx (k:=0) oM)) ?_;refine tk 7 _ rfl hS (λ_ h=>fh _ _ rfl kF (nh h.2.2.2)) ?_;refine tk 8 (I (h1+h2)) rfl hS (λ_ _=>by go_simp) ?_;refine tk 10 (pT w.1.size) rfl hS (λ_ _=>kF) ?_;refine tk 11 _ rfl hS (λ_ h=>fh _ _ rfl kF (kC h.1)) ?_;refine tk 12 (sX xl q yl) rfl hS (λW _=>ie rfl kF kF (vm.o W)) ?_;refine tk 14 (.pointer (sY w.1.size 1)) rfl hS (λ_ _=>kF) ?_;refine tk 15 _ rfl hS (λ_ h=>fh _ _ rfl kF (jY h.1)) ?_;refine tk 17 (.pointer (sY (w.1.size+1) 1)) rfl hS (λ_ _=>kF) ?_;refine tk 18 _ rfl hS (λ_ h=>fh _ _ rfl kF (jY h.2.1)) ?_;have KD:Bl B B.drew:=gG;have EL:Hid (([h1+h2]++t1).length=q+1):=by show _=_;simp[E1.o]
 have ED:Hid ((da++db).length=l5+l7):=by show _=_;rw[hJ,I5.o,I7.o]
 generalize h1+h2=hs at *;clear hS QL;have M0:M2 B.1.size B B.drew c_ c_:=.start KD KD.size;have RT:=zH λW (k:Bl B W)=>(H1.o.rw.kp (.of (bv k KB))).jG (Q:=λ_=>True) λ_ _ _=>trivial;have RD:=zH λW (k:Bl B W)=>(TB.o.below k).rb.2.rw;have KC:=zH λW (k:Bl B W)=>lG _ da W (TB.o.below k).ra.2.rw (by rw[I5.o];omega);have UB1:Hid ([hs].length+t1.length<=16777216):=by show _<=_;rw[E1.o];simp;omega
 have yC:Hid (da.length+db.length<=16777216):=by show _<=_;rw[I5.o,I7.o];omega
 have⟨ft,hft⟩:=jN (Pl.fy (hs::t1));rw[hft.o] at eN;have KM:Hid (∀W ax ay dx dy,Rw (λ_=>True) W (sX ax (q+1) ay) ([hs]++t1)->Cp 135 #[sX ax (q+1) ay,sX dx (l5+l7) dy] W (rC (.tuple #[if ft=b_ then .agg #[sX ax (q+1) ay,sX dx (l5+l7) dy] else .agg nN,I (if ft=b_ then 0 else 6)]) W)):=λW ax ay dx dy h=>by
  have:=Ax _ (sX dx (l5+l7) dy) (hs::t1) (da++db) h rfl;rw[hft.o] at this;exact this
 clear hft xN xM lF kO vm yJ H1 H2 S9 KD KB TC;generalize B.drew=W0 at *;refine iO 9 rfl ?_;have M1:=M0.aoi (W':=W0.alloc (.cells #[I hs] 3)) gG (Oi.one (jR _) hs);refine iL (sX (sY W0.1.size 0) 1 1) (W0.alloc (.cells #[I hs] 3)) rfl (n_ _ rfl kF) (S8.o _ M1.bl) ?_;generalize W0.alloc _=W1 at M1 ⊢;generalize W0.1.size=bl at M1 ⊢;refine iO 13 rfl ?_;refine zM rfl (.tmp 66) (.tmp 69) rfl kF kF (M1.hp _ _ rfl) (RT.o _ M1.bl) UB1.o M1.sz ?_;intro v' W2 ho hg ha;have⟨ax,ay,e4⟩:=ho.form;rw[EL.o] at e4;subst e4;have M2:=M1.apk hg ho ha;clear ho hg ha;refine⟨S8.o _ M2.bl,?_⟩;refine iO 16 rfl ?_;refine lC rfl kF ((KC.o W2 M2.bl).mono ?_);rintro e W3 ⟨hb,u,rfl,o⟩;have⟨cx,cy,e2⟩:=o.form;rw[I5.o] at e2;subst e2;have M3:=M2.aoh hb o;clear hb o;refine⟨_,rfl,S8.o _ M3.bl,?_⟩;refine iO 19 rfl ?_;refine zM rfl (.tmp 73) (.tmp 75) rfl kF kF (M3.hq _ _ rfl) (RD.o _ M3.bl) yC.o M3.sz ?_;intro v' Wz ho hg ha;have⟨dx,dy,e4⟩:=ho.form;rw[ED.o] at e4;subst e4;have Mz:=M3.apj hg ho ha;clear ho hg ha;refine⟨S8.o _ Mz.bl,?_⟩;exact al4):X:=h
section
variable {P:nK} {w:Wd}
def ajU.Yj(h:ρ:=by
 go_region_law (refine AI rfl (.tmp 18) (.tmp 20) rfl rfl rfl OA.o TK.o.rb.1.rw UB.o HZ.o ?_;intro v' w9 ho hg ha;have T5:=T4.o.below (OA.o.fI gG hg HZ.o);have⟨Rc,Ra,e4⟩:=ho.form;rw[PT.o] at ho e4;rw[fW,E3.o] at e4;subst e4;have T6:=zH (T5.Jv (B':=(h2::t3,db)) ⟨(ho.o (B0:=w.1.size+3) (Kp.refl _ _) (by have:=T4.o.r.lt;omega)).mono λb h _=>.inr h,T5.rb.2⟩);have⟨d0,d1,d2⟩:=T5.b.all;have d3:=T5.a.cf.1;have d4:=T5.a.lt;clear T5 ho hg ha)
 all_goals
  go_wp2;go_meet
  exact⟨m1,t1,h2,t3,q1,q2+1,x4,y4,Rc,Ra,T6,E1,E3,hr,oM,oM,oM,oM,oM,oM⟩
 ):ρ:=h
def ajT.Yj(h:ρ:=by
 go_region_law (refine AI rfl (.tmp 33) (.tmp 35) rfl rfl rfl OA.o TK.o.ra.1.rw UB.o HZ.o ?_;intro v' w9 ho hg ha;have T5:=T4.o.below (OA.o.fI gG hg HZ.o);have⟨Rc,Ra,e4⟩:=ho.form;rw[PT.o] at ho e4;rw[fW,E3.o] at e4;subst e4;have T6:=zH (T5.Jw (A':=(h1::t3,da)) ⟨(ho.o (B0:=w.1.size+3) (Kp.refl _ _) (by have:=T4.o.r.lt;omega)).mono λb h _=>.inr h,T5.ra.2⟩);have⟨d0,d1,d2⟩:=T5.a.all;have d3:=T5.b.cf.1;have d4:=T5.b.lt;clear T5 ho hg ha)
 all_goals
  go_wp2;go_meet
  exact⟨h1,t3,m2,t2,q1+1,q2,Rc,Ra,x6,y6,T6,E3,E2,hr,oM,oM,oM,oM,oM,oM⟩
 ):ρ:=h
def aiU.Ya(h:ρ:=by
 clear n1 n2 n3;exact Zf
 ):ρ:=h
def aiT.Ya(h:ρ:=by
 clear e1;exact Zf
 ):ρ:=h
def amC.lH(h:ρ:=by
 have KA:=zH λW (k:Bl w W)=>Nb _ _ a (h.kp (.of k)) (Pl.ok_eq ha).2.2.2.2;have KB:=zH λW (k:Bl w W)=>Nb _ _ b (h'.kp (.of k)) (Pl.ok_eq hb).2.2.2.2;have⟨r,HR⟩:∃r,Hid (r=Pl.cat a b):=⟨_,rfl⟩;rw[<- HR.o];unfold Pl.cat at HR;have LA:=zH (Pl.AG ha);have LB:=zH (Pl.AG hb);have OA:=zH (Pl.vy ha).1;have OB:=zH (Pl.vy hb).1;clear h h' ha hb;generalize a.1.length=p0,a.2.length=p1,b.1.length=p2,b.2.length=p3 at *;have E8:Hid (∀W,(((w.alloc (.cells #[sX x0 p0 y0,sX x1 p1 y1] 30)).alloc (.cells #[sX x2 p2 y2,sX x3 p3 y3] 30)).alloc (.cells nN 30))=W->C2 w W a b (sX x0 p0 y0) (sX x1 p1 y1) (sX x2 p2 y2) (sX x3 p3 y3)):=λW hW=>by
  exact Y'
 go_enter func139,ntmps139;go_wp2_with fail;generalize hW:ew (ew (ew w _) _) _=W0;have T0:=zH (E8.o _ hW);clear hW E8 H;refine(KA.o W0 T0.o.bl).mono ?_;rintro e w1 ⟨hb1,x4,l4,y4,x5,l5,y5,rfl,ra⟩;have T1:=T0.o.below hb1;have T2:=zH (T1.Jw (ra.mono (Q:=λb=>b<w.1.size\/w.1.size+3<=b) λb h _=>by have:=T0.o.r.lt;omega));obtain⟨c0,f0,z0⟩:=T1.a.all;obtain⟨c1,f1,z1⟩:=T1.b.all;clear T1 hb1 ra f1 KA;go_wp2_with fail;clear c0 f0 z0 c1 z1 T0;generalize ez (ez w1 _ _) _ _=W1 at *;refine(KB.o W1 T2.o.bl).mono ?_;rintro e w2 ⟨hb2,x6,l6,y6,x7,l7,y7,rfl,rb⟩;have T3:=T2.o.below hb2;have T4:=zH (T3.Jv (rb.mono (Q:=λb=>b<w.1.size\/w.1.size+3<=b) λb h _=>by have:=T2.o.r.lt;omega));obtain⟨c0,f0,z0⟩:=T3.a.all;obtain⟨c1,f1,z1⟩:=T3.b.all;obtain⟨_,_,m1,t1,e1,k1,gJ,aaR⟩:=LA.o;obtain⟨_,_,m2,t2,e2,k2,fY,aaQ⟩:=LB.o;have EV:=(Pl.ok_eq OA.o).2.2.2.2;have EU:=(Pl.ok_eq OB.o).2.2.2.2;have R3:=zH T3.r;clear T3 hb2 rb f0 T2 KB;generalize Pl.iw a=A,Pl.iw b=B at *;obtain⟨sa,da⟩:=A;obtain⟨sb,db⟩:=B;obtain rfl:sa=m1::t1:=e1;obtain rfl:sb=m2::t2:=e2;have i4:t1.length+1=l4:=T4.o.ra.1.rw.len;have i6:t2.length+1=l6:=T4.o.rb.1.rw.len;have i5:da.length=l5:=T4.o.ra.2.rw.len;have i7:db.length=l7:=T4.o.rb.2.rw.len;subst i4 i6;simp only at EV EU;rw[i5] at EV;rw[i7] at EU;have I5:=zH i5;have I7:=zH i7;clear LA LB OA OB i5 i7;have⟨q1,E1⟩:=jN (t1.length);have⟨q2,E2⟩:=jN (t2.length);rw[E1.o] at T4 k1 c0 ⊢;rw[E2.o] at T4 k2 ⊢;have j9:(q1=q2)\/(q2=q1+1)\/(q1=q2+1)\/(¬q1=q2/\¬q2=q1+1/\¬q1=q2+1):=oM;go_upto_if 17 with fail
 clear c0 z0 c1 f1 z1;generalize ez (ez w2 _ _) _ _=W1 at *;go_cut [] from 10 (λW=>∃h1 t1 h2 t2 qa qb x4 y4 x6 y6,Hid (C2 w W (h1::t1,da) (h2::t2,db) (sX x4 (qa+1) y4) (sX x5 l5 y5) (sX x6 (qb+1) y6) (sX x7 l7 y7))/\Hid (t1.length=qa)/\Hid (t2.length=qb)/\Hid (r=Pl.pH (h1::t1,da) (h2::t2,db))/\qa<=1000/\qb<=1000/\0<=h1/\h1<=1000/\0<=h2/\h2<=1000)
 case first =>
  clear R3;rcases j9 with e1|e1|e1|⟨n1,n2,n3⟩
  rotate_left 2
  ·have hr:Hid (r=Pl.pH (m1::t1,da) (1::m2::t2,db)):=by
    show _=_;rw[HR.o,Pl.kL,Pl.kL,eB JU,eD JU]
   have⟨h2,pO⟩:∃z:Int,1=z:=⟨1,rfl⟩;have⟨t3,ni⟩:∃t,m2::t2=t:=⟨_,rfl⟩;have E3:Hid (t3.length=q2+1):=by rw[<- ni];show _=_;simp[E2.o]
   rw[pO,ni] at hr;rw[ni] at T4;have PT:Hid ([1]++t3=h2::t3):=by show _=_;rw[pO];rfl
   have a1:0<=h2:=oM;have a2:h2<=1000:=oM;clear pO ni;have j0:((q1:Int)+1 == (q2:Int)+1+1)=b_:=by rw[uy];omega
   clear e1;obtain⟨c0,f0,z0⟩:=T4.o.b.all;open ajU in exact Zk
  ·open aiU in exact YR
  ·open aiT in exact YR
  have hr:Hid (r=Pl.pH (1::m1::t1,da) (m2::t2,db)):=by
   show _=_;rw[HR.o,Pl.kL,Pl.kL,eD JU,eB JU]
  have⟨h1,pO⟩:∃z:Int,1=z:=⟨1,rfl⟩;have⟨t3,ni⟩:∃t,m1::t1=t:=⟨_,rfl⟩;have E3:Hid (t3.length=q1+1):=by rw[<- ni];show _=_;simp[E1.o]
  rw[pO,ni] at hr;rw[ni] at T4;have PT:Hid ([1]++t3=h1::t3):=by show _=_;rw[pO];rfl
  have a1:0<=h1:=oM;have a2:h1<=1000:=oM;clear pO ni;have j0:((q1:Int)+1 == (q2:Int)+1+1)=d_:=by rw[gR];omega
  have j1:((q2:Int)+1 == (q1:Int)+1+1)=b_:=by rw[uy];omega
  clear e1;obtain⟨c0,f0,z0⟩:=T4.o.a.all;obtain⟨c1,f1,z1⟩:=T4.o.b.all;open ajT in exact Zk
 case rest =>
  clear T4 R3 E1 E2 HR j9 k1 k2 gJ aaR fY aaQ;obtain⟨h1,t1,h2,t2,qa,qb,x4,y4,x6,y6,TC,E1,E2,hr,b1,b2,b3,b4,b5,b6⟩:=hcut;by_cases hq:qa=qb
  rotate_left
  ·have hr:r=.error 2:=by rw[hr.o,Pl.pH,eD Jo]
   subst hr;have j2:((qa:Int)+1 != (qb:Int)+1)=b_:=by rw[iH];omega
   obtain⟨c0,f0,z0⟩:=TC.o.a.all;obtain⟨c1,f1,z1⟩:=TC.o.b.all;obtain⟨c5,f5,z5⟩:=TC.o.r.all;have YB:=TC.o.bl;go_wp2;refine eJ JK rfl ?_;exact ny
  obtain rfl:=hq;obtain⟨q,rfl⟩:∃z,z=qa:=⟨_,rfl⟩;have j2:((q:Int)+1 != (q:Int)+1)=d_:=sI;obtain⟨c0,f0,z0⟩:=TC.o.a.all;obtain⟨c1,f1,z1⟩:=TC.o.b.all;go_upto_region 9 with fail
  clear c0 f0 z0 c1 f1 z1 j2;exact aii
 ):ρ:=h
def aeU(v0 v1 v2 v3:Va)(a b:Ar)(h:RA P w v0 v1 a)(h':RA P w v2 v3 b)(ha:Pl.okB a=b_)(hb:Pl.okB b=b_):Cp 139 #[.agg #[v0,v1],.agg #[v2,v3]] w (SP w (Pl.cat a b)):=by
 have h:=h.mono (Q:=λb=>b<w.1.size) λb _ k=>k;have h':=h'.mono (Q:=λb=>b<w.1.size) λb _ k=>k;have H:=zH (jA h h');open amC in exact lO
end
end
variable {X:Prop}
def DU (h:X:=by
 go_enter func109,ntmps109;go_wp2_with fail;generalize hW:ew (ew (ew w _) _) _=W0;have V0:=mK hW;refine(KA.o _ V0.o.2.2.2.1).l λw1 hb=>?_;have V1:=zH (jA (V0.o.1.below hb) (jA (V0.o.2.1.below hb) (jA (V0.o.2.2.1.below hb) (bv hb V0.o.2.2.2.1))));obtain⟨c1,f1,z1⟩:=V1.o.2.1.all;go_wp2_with fail;refine(KB.o _ V1.o.2.2.2).l λw2 hb=>?_;have V2:=zH (jA (V1.o.1.below hb) (jA (V1.o.2.1.below hb) (jA (V1.o.2.2.1.below hb) (bv hb V1.o.2.2.2))));obtain⟨c0,f0,z0⟩:=V2.o.1.all;obtain⟨c1,f1,z1⟩:=V2.o.2.1.all;go_wp2_with fail;refine(KE.o _ V2.o.2.2.2).mono ?_;rintro e w3 ⟨hb,u0,u1,rfl,ra⟩;obtain⟨⟨x4,y4,rfl⟩,x5,y5,rfl⟩:=ra.eS;have V3:=zH (jA (V2.o.2.2.1.below hb) (jA (bv hb V2.o.2.2.2) (jA V2.o.2.2.1.lt ra)));obtain⟨c3,f3,z3⟩:=V3.o.1.all;go_wp2;refine eJ (by simp[results,results109,go_sem,c3];try rfl) rfl ?_;exact SP.put V3.o.2.2.2 V3.o.2.1 oM V3.o.2.2.1 _ _):X:=h
def ZP (h:X:=by
 have s6:=K6.size;have B6:=bv K6 V2.o.2.2.2;have R6:=zH (V2.o.2.2.1.below K6);have l6:=V2.o.2.2.1.lt;have R5:Hid (∀r x y,RA (w2.1.size<=·) (((w3.setCell (Y (w.1.size+1+1) 0) x).setCell (Y (w.1.size+1+1) 1) y).alloc (.cells #[I r] 3)) (sX (sY w2.1.size 0) 0 0) (sX (sY w3.1.size 0) 1 1) ([],[r])):=λr x y=>by
  have o1:=Oi.one (B:=w2.1.size) (w:=(w3.setCell (Y (w.1.size+1+1) 0) x).setCell (Y (w.1.size+1+1) 1) y) J2 r;rw[show ((w3.setCell (Y (w.1.size+1+1) 0) x).setCell (Y (w.1.size+1+1) 1) y).1.size=w3.1.size by simp] at o1;exact YI
 obtain⟨c3,f3,z3⟩:=R6.o.all;go_wp2;refine eJ Jb rfl ?_;exact⟨gG,_,_,rfl,(R5.o _ _ _).mono λb h _=>oM⟩):X:=h
def Pp (h:X:=by
 refine ta 11 rfl rfl (.tmp 96) (.tmp 105) rfl kF kF OA.o RX.o UB.o HZ.o ?_;intro v' w9 ho hg ha;have⟨R9,B9,Ag⟩:=hU.o.step hB.o hN hg ho ha;rw[er.o] at R9;have⟨xv,yv,e8⟩:=ho.form;rw[er.o,ek.o] at e8;subst e8;have B8:Bl w2 w9:=OA.o.fI (nV hB.o (show Bl wq _ from by go_grown) hN) hg HZ.o;refine⟨B8,?_⟩;refine tk 12 (.pointer (sY pb 1)) rfl B8 (λ_ _=>kF) ?_;refine ts 13 _ rfl rfl rfl (jf (.pointer (sY pb 1)) (sX xv (k+1) yv) rfl kF kF (Ju Ag)) B9.o ?_;refine te ?_;generalize w9.setCell _ _=Wy at *;go_simp;go_wp2;go_roundw
 case rel=>exact⟨k+1,_,gN,oM,B9,R9⟩
 simp[intOf];omega):X:=h
def anf.Qc(h:ρ:=by
 go_wp2_with fail;refine(KC.o w2 V2.o.2.2.2).mono ?_;rintro e w4 ⟨hb,u,rfl,o⟩;have⟨x9,y9,e2⟩:=o.form;rw[E2.o] at e2;subst e2;have R0:=zH (Ou.new o hb.size rfl);have H2:=zH hb;have s2:=hb.size;go_wp2_with fail;have H3:Hid (Bl w2 ((w4.alloc (.cells #[] 3)).alloc (.cells #[sX x9 p2 y9,sX (sY w4.1.size 0) 0 0] 30))):=bv (w:=w2) gG H2.o;have⟨pb,Ci⟩:∃n,w4.1.size+1=n:=⟨_,rfl⟩;rw[Ci] at R0 ⊢;go_loopw [9] (λi wr=>∃(k:Nat)(dv:Va),i=I (k:Int)/\k<=p3/\Hid (Bl w2 wr)/\Hid (Ou w2.1.size wr pb (sX x9 p2 y9) dv sb ((db.take k).map F))) (λi _=>p3-(intOf i).toNat)
 case atStart=>exact⟨0,_,rfl,vZ _,H3,R0⟩
 case round =>
  obtain⟨k,dv,rfl,hk,hB,hU⟩:=hrel;have ek0:Hid (((db.take k).map F).length=k):=by show _=_;rw[qU,jH,E3.o];omega
  have⟨xd,yd,e3⟩:=hU.o.o1.form;rw[ek0.o] at e3;subst e3;have hN:w2.1.size<=wr.1.size:=hB.o.size;have J:Hid (∀W,Bl w2 W->Bx W w.1.size #[sX x0 1 y0,sX x1 p1 y1] 30/\Bx W (w.1.size+1) #[sX x2 p2 y2,sX x3 p3 y3] 30/\Bl w W):=λW k=>⟨V2.o.1.below k,V2.o.2.1.below k,bv k V2.o.2.2.2⟩;obtain⟨c1,f1,z1⟩:=(J.o wr hB.o).2.1.all;by_cases fK:k=p3
  ·subst fK
   rw[mR (by rw[E3.o];omega)] at hU;obtain⟨c4,f4,z4⟩:=hU.o.bx.all;obtain⟨c3,f3,z3⟩:=(V2.o.2.2.1.below hB.o).all;have HR:=zH (V2.o.2.2.1.below hB.o);have YB:=(J.o wr hB.o).2.2;have sz:=V2.o.2.2.2.size;go_wp2;refine eJ Jb rfl ?_;exact⟨gG,_,_,rfl,hU.o.fin HR.o dC sz _ _⟩
  have eI:k<p3:=oM;have nC:(k:Int)<(p3:Int):=oM;have⟨z,hz⟩:=gF E3.o eI;go_wp2_with fail;obtain⟨gb,go,rfl,hgb,hgc⟩:=(RB.o w (jD _ _)).at hz;have JC:Hid (∀W,Bl w2 W->W.cell? (Y gb (go+k))=a_ (I z)):=λW k=>((J.o W k).2.2.cell (p:=(Y gb (go+_))) hgb).trans hgc;refine fT (S:=Bl w2) kF (nV hB.o (show Bl wr wr.drew from by go_grown) hN) (λhS=>?_);have KD:Bl wr wr.drew:=gG;have hB:=zH (nV hB.o KD hN);have hU:=zH (hU.o.below KD);have hN:=jT hN KD.size;generalize wr.drew=wq at *;refine tk 0 (.pointer (sY pb 1)) rfl hS (λ_ _=>kF) ?_;refine tk 2 (.pointer (sY w.1.size 1)) rfl hS (λ_ _=>kF) ?_;refine tk 3 _ rfl hS (λW k=>fh _ _ rfl kF (jY (J.o W k).1)) ?_;refine tk 4 (.pointer (sY (w.1.size+1) 1)) rfl hS (λ_ _=>kF) ?_;refine tk 5 _ rfl hS (λW k=>fh _ _ rfl kF (jY (J.o W k).2.1)) ?_;refine tk 6 (I (k:Int)) rfl hS (λ_ _=>kF) ?_;refine tk 7 (.pointer (sY gb (go+k))) rfl hS (λ_ _=>nD (sX (sY gb go) p3 y3) (I (k:Int)) rfl kF kF (qx eI)) ?_;refine tk 8 _ rfl hS (λW k=>fh _ _ rfl kF (nh (JC.o W k))) ?_;have OA:=zH (hU.o.o1.kp (w':=wq.alloc (.cells #[I (F z)] 3)) (.of gG));have RX:=zH (mV wq (F z));have HZ:Hid (w2.1.size<=(wq.alloc (.cells #[I (F z)] 3)).1.size):=by show _<=_;simp;omega
  have UB:Hid (((db.take k).map F).length+[F z].length<=16777216):=by show _<=_;rw[ek0.o];simp;omega
  have er:Hid ((db.take k).map F++[F z]=(db.take (k+1)).map F):=by show _=_;rw[Pl.vq hz];simp
  have ek:Hid (((db.take (k+1)).map F).length=k+1):=by show _=_;rw[qU,jH,E3.o];omega
  have SA:Bl w2 (wq.alloc (.cells #[I (F z)] 3)):=nV hB.o (show Bl wq _ from by go_grown) hN;have bxa:=hU.o.bx.al (.cells #[I (F z)] 3);refine D' 1 9 143 (sX xd k yd) #[sX x1 p1 y1,I z] rfl rfl rfl rfl hS (fh (.pointer (sY pb 1)) _ rfl kF (jY hU.o.bx)) kF kF ((KF.o wq z (J.o _ hB.o).2.2).mono ?_);rintro e wq ⟨rfl,rfl⟩;refine⟨_,rfl,hS,?_,?_⟩
  ·refine tv 10 (sX (sY wq.1.size 0) 1 1) (wq.alloc (.cells #[I (F z)] 3)) rfl rfl (n_ (F z) rfl kF) SA ?_
   exact Pp
  refine rlv 1 10 (sX xd k yd) (sX (sY wq.1.size 0) 1 1) (wq.alloc (.cells #[I (F z)] 3)) rfl rfl rfl rfl hS SA (fh (.pointer (sY pb 1)) _ rfl kF (jY hU.o.bx)) (n_ (F z) rfl kF) (n_ (F z) rfl kF) (fh (.pointer (sY pb 1)) _ rfl kF (jY bxa)) ?_ ?_
  ·exact Pp
  exact Pp
 ):ρ:=h
def ane.Qc(h:ρ:=by
 obtain⟨c3,f3,z3⟩:=V2.o.2.2.1.all;have YB:=V2.o.2.2.2;go_wp2;refine eJ Jb rfl ?_;exact SP.err gG
 ):ρ:=h
def anc.Qc(h:ρ:=by
 go_wp2_with fail;have K4:Bl w2 (w2.alloc (.cells #[] 3)):=gG;have O4:=zH (Oi.emp (w:=w2) (jR _));generalize w2.alloc _=W4 at *;refine(K1.o W4 (bv K4 V2.o.2.2.2)).k λw3 hb=>?_;rcases hq with ⟨rfl,rfl⟩|⟨rfl,rfl⟩
 ·have K6:=bv hb K4
  have O6:=zH (O4.o.kp (.of hb));go_wp2_with fail;refine(FU d_ _).mono ?_;rintro e w3 ⟨rfl,rfl⟩;exact ZP
 ·have K5:=bv hb K4
  have O5:=zH (O4.o.kp (.of hb));obtain⟨c0,f0,z0⟩:=(V2.o.1.below K5).all;obtain⟨c1,f1,z1⟩:=(V2.o.2.1.below K5).all;have K2':=zH (K2.o w3 (bv K5 V2.o.2.2.2));go_wp2_with fail;refine K2'.o.k λw4 hb=>?_;have K6:=bv hb K5;have O6:=zH (O5.o.kp (.of hb));obtain⟨w3,rfl⟩:∃z,z=w4:=⟨_,rfl⟩;obtain⟨q,rfl⟩:∃z,z=q2:=⟨_,rfl⟩;go_wp2_with fail;refine(FU q _).mono ?_;rintro e w3 ⟨rfl,rfl⟩;exact ZP
 ):ρ:=h
def anb.DM(h:ρ:=by
 generalize Pl.from_ a b=r at *;exact DU
 ):ρ:=h
def ana.DM(h:ρ:=by
 generalize Pl.cat a b=r at *;exact DU
 ):ρ:=h
def am9.DM(h:ρ:=by
 generalize Pl.take 3 a b=r at *;exact DU
 ):ρ:=h
def am8.DM(h:ρ:=by
 generalize Pl.take 2 a b=r at *;exact DU
 ):ρ:=h
def am7.DM(h:ρ:=by
 generalize Pl.td a b=r at *;exact DU
 ):ρ:=h
def ab7{P:nK}(f:Int)(v0 v1 v2 v3:Va)(a b:Ar)(w:Wd)(h:RA P w v0 v1 a)(h':RA P w v2 v3 b)(ha:Pl.okB a=b_)(hb:Pl.okB b=b_):Cp 109 #[I f,.agg #[v0,v1],.agg #[v2,v3]] w (SP w (Pl.rY f a b)):=by
 have KA:Hid (∀W,Bl w W->Cp 21 #[.agg #[v0,v1]] W (rC (.bool b_) W)):=λW k=>by have:=yQ v0 v1 (h.kp (.of k));rw[ha] at this;exact this
 have KB:Hid (∀W,Bl w W->Cp 21 #[.agg #[v2,v3]] W (rC (.bool b_) W)):=λW k=>by have:=yQ v2 v3 (h'.kp (.of k));rw[hb] at this;exact this
 have la:=(Pl.ok_eq ha).2.2.2.2;have la':=(Pl.ok_eq ha).2.2.2.1;have lb:=(Pl.ok_eq hb).2.2.2.2;have lb':=(Pl.ok_eq hb).2.2.2.1;have H:=zH h;have H':=zH h';obtain⟨⟨x0,y0,rfl⟩,x1,y1,rfl⟩:=h.eS;obtain⟨⟨x2,y2,rfl⟩,x3,y3,rfl⟩:=h'.eS;by_cases hf:1<=f/\f<=7
 rotate_left 1
 ·have hr:Pl.rY f a b=.error 9:=by unfold Pl.rY;repeat rw[eB oM]
  rw[hr];generalize a.1.length=p0,a.2.length=p1,b.1.length=p2,b.2.length=p3 at *;by_cases h1:f<1
  ·exact Y3
  have h7:7<f:=oM;exact Y3
 have hc:f=1\/f=2\/f=3\/f=4\/f=5\/f=7\/f=6:=oM;rcases hc with rfl|rfl|rfl|rfl|rfl|rfl|rfl
 ·show Calls _ _ _ _ (SP w (Pl.td a b))
  have KE:=zH λW (k:Bl w W)=>abM _ _ _ _ a b (h.kp (.of k)) (h'.kp (.of k)) ha hb;open am7 in exact DT
 ·show Calls _ _ _ _ (SP w (Pl.take 2 a b))
  have KE:=zH λW (k:Bl w W)=>Ve 2 _ _ _ _ a b (h.kp (.of k)) (h'.kp (.of k)) ha hb;open am8 in exact DT
 ·show Calls _ _ _ _ (SP w (Pl.take 3 a b))
  have KE:=zH λW (k:Bl w W)=>Ve 3 _ _ _ _ a b (h.kp (.of k)) (h'.kp (.of k)) ha hb;open am9 in exact DT
 ·show Calls _ _ _ _ (SP w (Pl.cat a b))
  have KE:=zH λW (k:Bl w W)=>aeU _ _ _ _ a b (h.kp (.of k)) (h'.kp (.of k)) ha hb;open ana in exact DT
 ·show Calls _ _ _ _ (SP w (Pl.from_ a b))
  have KE:=zH λW (k:Bl w W)=>adQ _ _ _ _ a b (h.kp (.of k)) (h'.kp (.of k)) ha hb;open anb in exact DT
 ·show Calls _ _ _ _ (SP w (.ok (Pl.B_ a b)))
  have⟨q,HQ⟩:∃q,Hid ((decide (a.1=b.1) && decide (a.2=b.2))=q):=⟨_,rfl⟩;rw[show Pl.B_ a b=([],[Pl.nW q]) by rw[<- HQ.o];rfl];have K1:=zH λW (k:Bl w W)=>FO _ _ a.1 b.1 (h.kp (.of k)).1.rw (h'.kp (.of k)).1.rw oM oM;have K2:=zH λW (k:Bl w W)=>FO _ _ a.2 b.2 (h.kp (.of k)).2.rw (h'.kp (.of k)).2.rw oM oM;have hq:decide (a.1=b.1)=d_/\q=d_\/decide (a.1=b.1)=b_/\decide (a.2=b.2)=q:=by
   rw[<- HQ.o]
   cases decide (a.1=b.1) <;> simp
  generalize a.1.length=p0,a.2.length=p1,b.1.length=p2,b.2.length=p3,decide (a.1=b.1)=q1,decide (a.2=b.2)=q2 at *;open anc in exact QE
 show Calls _ _ _ _ (SP w (if ¬a.1.length=1 then .error 2 else .ok (b.1,b.2.map (Pl.mN a.2))));have KC:=zH λW (k:Bl w W)=>lG _ b.1 W (h'.kp (.of k)).1.rw oM;have KF:=zH λW z (k:Bl w W)=>adS _ a.2 z (h.kp (.of k)).2.rw la;have RB:=zH λW (k:Bl w W)=>(h'.kp (.of k)).2.rw;obtain⟨sb,db⟩:=b;simp only at KC RB lb lb' KB ⊢;have⟨p2,E2⟩:=jN (sb.length);have⟨p3,E3⟩:=jN (db.length);rw[E2.o] at KC KB lb' ⊢;rw[E3.o] at RB KB lb ⊢;generalize a.1.length=p0,a.2.length=p1,Pl.mN a.2=F at *;by_cases h1:p0=1
 rotate_left
 ·rw[eD h1]
  have j2:((p0:Int) != 1)=b_:=by rw[iH];omega
  open ane in exact QE
 subst h1;rw[eB dC];open anf in exact QE
end Go.Proofs.YtiagfejlmafliaaGreatDoor
