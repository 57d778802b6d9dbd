import Derived.Test.YtiagfejlmafliaaGreatDoorRh
import Derived.Test.YtiagfejlmafliaaGreatDoorTs4
namespace Go.Proofs.YtiagfejlmafliaaGreatDoor
set_option linter.all false
open Go.Proofs.Tryz Pl
open Go.RowKit
set_option maxRecDepth 100000
set_option maxHeartbeats 16000000
open Pl (Ar)
open World renaming setCell->ez,alloc->ew
open List renaming range->eA,replicate->eE
open Option renaming some->a_,none->c_
open Bool renaming true->b_,false->d_
variable {ρ:Prop}
abbrev fA(f c s k d:Int):aV:=#[I f,I c,I s,I k,I d]
abbrev uC(L:Lm)(u:UV):aV:=#[I L.f,I L.c,.bool L.r,I L.s,u.ns,u.vs,u.fs,u.w0,u.w1,u.a0,u.a1,I u.own,I u.sk,.string u.sn,u.sc,u.sg,I u.cl]
abbrev tE(s:Sv)(an:oA)(cn:Nat):aV:=#[I s.k,sX an s.eF.length cn,.string (Pl.ba s.nm),I s.fn.k,I s.fn.a,I s.fn.b,.string (Pl.ba s.fn.nm)]
structure Fe(w:Wd)(c0 c1 c4 c5 c6:aV)(W:Wd):Prop where
 bl:Below w.1.size w W
 b0:Bx W w.1.size c0 64
 b1:Bx W (w.1.size+1) c1 62
 b2:Bx W (w.1.size+1+1) nN 30
 b3:Bx W (w.1.size+1+1+1) (fA 0 0 0 0 0) 64
 b4:Bx W (w.1.size+1+1+1+1) c4 118
 b5:Bx W (w.1.size+1+1+1+1+1) c5 30
 b6:Bx W (w.1.size+1+1+1+1+1+1) c6 30
section
variable {w W W':Wd} {c0 c1 c4 c5 c6:aV}
def Fe.call(h:Fe w c0 c1 c4 c5 c6 W)(hb:Bl W W'):Fe w c0 c1 c4 c5 c6 W' :=
 ⟨bv hb h.bl,h.b0.below hb,h.b1.below hb,h.b2.below hb,h.b3.below hb,h.b4.below hb,h.b5.below hb,h.b6.below hb⟩
def Fe.new(c0 c1 c4 c5 c6:aV):Fe w c0 c1 c4 c5 c6 (((((((w.alloc (.cells c0 64)).alloc (.cells c1 62)).alloc (.cells nN 30)).alloc (.cells (fA 0 0 0 0 0) 64)).alloc (.cells c4 118)).alloc (.cells c5 30)).alloc (.cells c6 30)) :=
 ⟨gG,.al (.al (.al (.al (.al (.al (.eK rfl) _) _) _) _) _) _,.al (.al (.al (.al (.al (.eK sI) _) _) _) _) _,.al (.al (.al (.al (.eK sI) _) _) _) _,.al (.al (.al (.eK sI) _) _) _,.al (.al (.eK sI) _) _,.al (.eK sI) _,.eK sI⟩
def Fe.st{f c s k d:Int}(h:Fe w (fA f c s k d) c1 c4 c5 c6 W)(f' c' s' k' d':Int):Fe w (fA f' c' s' k' d') c1 c4 c5 c6 (((((W.setCell (Y w.1.size 0) (I f')).setCell (Y w.1.size 1) (I c')).setCell (Y w.1.size 2) (I s')).setCell (Y w.1.size 3) (I k')).setCell (Y w.1.size 4) (I d')):=by
 have:=h.bl;exact⟨gG,((((h.b0.set 0 _).set 1 _).set 2 _).set 3 _).set 4 _,((((h.b1.eC sI _).eC sI _).eC sI _).eC sI _).eC sI _,((((h.b2.eC J2 _).eC J2 _).eC J2 _).eC J2 _).eC J2 _,((((h.b3.eC J2 _).eC J2 _).eC J2 _).eC J2 _).eC J2 _,((((h.b4.eC J2 _).eC J2 _).eC J2 _).eC J2 _).eC J2 _,((((h.b5.eC J2 _).eC J2 _).eC J2 _).eC J2 _).eC J2 _,((((h.b6.eC J2 _).eC J2 _).eC J2 _).eC J2 _).eC J2 _⟩
def Fe.all(h:Fe w c0 c1 c4 c5 c6 W):((∀o,W.cell? (Y w.1.size o)=c0[o]?)/\(∀o,W.frozen? (Y w.1.size o)=d_)/\w.1.size<W.1.size)/\((∀o,W.cell? (Y (w.1.size+1) o)=c1[o]?)/\(∀o,W.frozen? (Y (w.1.size+1) o)=d_)/\w.1.size+1<W.1.size)/\((∀o,W.cell? (Y (w.1.size+1+1) o)=#[Value.slice c_ 0 0,nJ][o]?)/\(∀o,W.frozen? (Y (w.1.size+1+1) o)=d_)/\w.1.size+1+1<W.1.size)/\((∀o,W.cell? (Y (w.1.size+1+1+1) o)=(fA 0 0 0 0 0)[o]?)/\(∀o,W.frozen? (Y (w.1.size+1+1+1) o)=d_)/\w.1.size+1+1+1<W.1.size)/\((∀o,W.cell? (Y (w.1.size+1+1+1+1) o)=c4[o]?)/\(∀o,W.frozen? (Y (w.1.size+1+1+1+1) o)=d_)/\w.1.size+1+1+1+1<W.1.size)/\((∀o,W.cell? (Y (w.1.size+1+1+1+1+1) o)=c5[o]?)/\(∀o,W.frozen? (Y (w.1.size+1+1+1+1+1) o)=d_)/\w.1.size+1+1+1+1+1<W.1.size)/\((∀o,W.cell? (Y (w.1.size+1+1+1+1+1+1) o)=c6[o]?)/\(∀o,W.frozen? (Y (w.1.size+1+1+1+1+1+1) o)=d_)/\w.1.size+1+1+1+1+1+1<W.1.size) :=
 ⟨h.b0.all,h.b1.all,h.b2.all,h.b3.all,h.b4.all,h.b5.all,h.b6.all⟩
end
def ani.Qd(h:ρ:=by
 refine(KN.o W2 F2.o.bl).mono ?_;rintro e w3 ⟨hb,u0,u1,rfl,ro⟩;obtain⟨⟨x0,y0,rfl⟩,x1,y1,rfl⟩:=ro.1.eS;have F4:=zH ((F2.o.call hb).call (W':=w3.alloc (.cells #[sX x0 a.1.length y0,sX x1 a.2.length y1] 30)) gG);have b7:Bx (w3.alloc (.cells #[sX x0 a.1.length y0,sX x1 a.2.length y1] 30)) w3.1.size #[sX x0 a.1.length y0,sX x1 a.2.length y1] 30:=.eK rfl;have R4:=zH (ro.kp (w':=w3.alloc (.cells #[sX x0 a.1.length y0,sX x1 a.2.length y1] 30)) eY);obtain⟨⟨c0,f0,z0⟩,⟨c1,f1,z1⟩,⟨c2,f2,z2⟩,⟨c3,f3,z3⟩,⟨c4,f4,z4⟩,⟨c5,f5,z5⟩,⟨c6,f6,z6⟩⟩:=(F2.o.call hb).all;go_wp2_with fail;generalize w3.alloc _=W4,w3.1.size=Z at *;obtain⟨c7,f7,z7⟩:=b7.all;obtain⟨⟨c0,f0,z0⟩,⟨c1,f1,z1⟩,⟨c2,f2,z2⟩,⟨c3,f3,z3⟩,⟨c4,f4,z4⟩,⟨c5,f5,z5⟩,⟨c6,f6,z6⟩⟩:=F4.o.all;go_region
 all_goals
  go_wp2;refine eJ JX rfl ?_;have:=F4.o.bl;have p2:¬P (w.1.size+1+1):=λh=>absurd (hP _ h) oM;have p3:¬P (w.1.size+1+1+1):=λh=>absurd (hP _ h) oM;exact⟨gG,gJ,_,_,rfl,(R4.o.kp eY).mono λb h _=>.inl h⟩
 ):ρ:=h
def anh.Qd(h:ρ:=by
 refine(KN.o W2 F2.o.bl).l λw3 hb=>?_;have F4:=zH ((F2.o.call hb).call (W':=w3.alloc (.cells nN 30)) gG);have b7:Bx (w3.alloc (.cells nN 30)) w3.1.size nN 30:=.eK rfl;obtain⟨⟨c0,f0,z0⟩,⟨c1,f1,z1⟩,⟨c2,f2,z2⟩,⟨c3,f3,z3⟩,⟨c4,f4,z4⟩,⟨c5,f5,z5⟩,⟨c6,f6,z6⟩⟩:=(F2.o.call hb).all;go_wp2_with fail;generalize w3.alloc _=W4,w3.1.size=Z at *;refine(wZ (mf+1) mc ms 0 0 10 W4).k λw5 hb=>?_;have F5:=zH (F4.o.call hb);replace b7:=b7.below hb;obtain⟨c7,f7,z7⟩:=b7.all;obtain⟨⟨c0,f0,z0⟩,⟨c1,f1,z1⟩,⟨c2,f2,z2⟩,⟨c3,f3,z3⟩,⟨c4,f4,z4⟩,⟨c5,f5,z5⟩,⟨c6,f6,z6⟩⟩:=F5.o.all;go_wp2_with fail;have F6:=zH (F5.o.st (mf+1) mc ms 2 10);have b8:Bx (((((w5.setCell (Y w.1.size 0) (I (mf+1))).setCell (Y w.1.size 1) (I mc)).setCell (Y w.1.size 2) (I ms)).setCell (Y w.1.size 3) (I 2)).setCell (Y w.1.size 4) (I 10)) Z nN 30:=((((b7.eC J2 _).eC J2 _).eC J2 _).eC J2 _).eC J2 _;generalize ez (ez (ez (ez (ez w5 _ _) _ _) _ _) _ _) _ _=W6 at *;obtain⟨c7,f7,z7⟩:=b8.all;obtain⟨⟨c0,f0,z0⟩,⟨c1,f1,z1⟩,⟨c2,f2,z2⟩,⟨c3,f3,z3⟩,⟨c4,f4,z4⟩,⟨c5,f5,z5⟩,⟨c6,f6,z6⟩⟩:=F6.o.all;go_region
 all_goals
  go_wp2;refine eJ JX rfl ?_;have:=F6.o.bl;exact⟨gG,gJ,sI,_,_,_,_,_,_,_,rfl⟩
 ):ρ:=h
def aeP{K:Ks}{P:nK}{w:Wd}{u:UV}{G:Gb}{own:List Ar}{eO:Option Pl.Tv}{d:Nat}(O:KO K)(L:Lm)(hL:kJ L)(m:Ms)(hm:gL m)(hP:∀b,P b->b<w.1.size)(h:Eu K P w u G own eO d)(c:List Sv)(b o cp i:Nat)(s:Sv)(hs:c[i]? = a_ s)(pN:c.length<=1048576)(fF:Pl.fj s=b_)(ha:Pl.ar s=0)(hb:b<w.1.size)(an:oA)(cn:Nat)(sp:jE w.1.size w b (o+i * 7) s an cn)
  (HN:s.k=1->¬L.f<=m.f->Cp 49 #[eW m.f m.c m.s 0 0,uV L u,sX (sY b o) c.length cp,I (i:Int)] w (EPost K P w (eG L (oK s.eF) ⟨m.f+1,m.c,m.s⟩))) :
  Cp 49 #[eW m.f m.c m.s 0 0,uV L u,sX (sY b o) c.length cp,I (i:Int)] w (EPost K P w (iQ L m (Pl.tU L (gH G.ns own) s))):=by
 have hq:¬(s.k=1/\¬L.f<=m.f)\/Cp 49 #[eW m.f m.c m.s 0 0,uV L u,sX (sY b o) c.length cp,I (i:Int)] w (EPost K P w (iQ L m (Pl.tU L (gH G.ns own) s))):=by
  by_cases hq:s.k=1/\¬L.f<=m.f
  ·right
   have:=HN hq.1 hq.2;unfold iQ Pl.tU;rw[eB hq.2,eB (by rw[hq.1];decide)];exact this
  exact .inl hq
 rcases hq with hq|hq
 rotate_left
 ·exact hq
 obtain⟨mf,mc,ms⟩:=m;obtain⟨lf,lc,lr,ls⟩:=L;obtain⟨k0,k1,k2,k3,k4,k5,k6,rn⟩:=sp;have Lx:(i:Int)<(c.length:Int):=by have:=(gQ.1 hs).1;omega
 have HE:=zH h;have hk:s.k=1\/s.k=2:=by unfold Pl.ar at ha;split at ha <;> first | assumption | (split at ha <;> omega)
 generalize hn:c.length=n at *;obtain⟨sk,eF,nm,fk,fa,fb,fn⟩:=s;simp only at k0 k1 k2 k3 k4 k5 k6 rn hk hq;have⟨q1,q2,q3,q4⟩:b<w.1.size+1/\b<w.1.size+1+1/\b<w.1.size+1+1+1/\b<w.1.size+1+1+1+1:=oM;go_enter func49,ntmps49;have F0:=zH (Fe.new (w:=w) (fA mf mc ms 0 0) (uC ⟨lf,lc,lr,ls⟩ u) (tE ⟨sk,eF,nm,⟨fk,fa,fb,fn⟩⟩ an cn) nN nN);unfold iQ;simp only;by_cases hf:lf<=mf
 ·rw[eD hf]
  rcases hk with rfl|rfl
  all_goals
   go_wp2_with fail;refine(Ay mf mc ms 0 0 ⟨lf,lc,lr,ls⟩ _ hm.f0 hm.f1).k λw1 hb1=>?_;rw[eD hf];have F1:=zH (F0.o.call hb1);obtain⟨⟨c0,f0,z0⟩,⟨c1,f1,z1⟩,⟨c2,f2,z2⟩,⟨c3,f3,z3⟩,⟨c4,f4,z4⟩,⟨c5,f5,z5⟩,⟨c6,f6,z6⟩⟩:=F1.o.all;go_wp2_with fail;have F2:=zH (F1.o.st mf mc ms 3 0);generalize ez (ez (ez (ez (ez w1 _ _) _ _) _ _) _ _) _ _=W2 at *;obtain⟨⟨c0,f0,z0⟩,⟨c1,f1,z1⟩,⟨c2,f2,z2⟩,⟨c3,f3,z3⟩,⟨c4,f4,z4⟩,⟨c5,f5,z5⟩,⟨c6,f6,z6⟩⟩:=F2.o.all;go_region
   all_goals
    go_wp2;refine eJ JX rfl ?_;have:=F2.o.bl;exact⟨gG,hm,sI,_,_,_,_,_,_,_,rfl⟩
 rw[eB hf];have gJ:gL ⟨mf+1,mc,ms⟩:=⟨by have:=hm.f0;simp only at this ⊢;omega,by have:=hL.f;simp only at this ⊢;omega,hm.c0,hm.c1,hm.s0,hm.s1⟩;have jv:=hm.f0;simp only at jv;rcases hk with rfl|rfl
 ·exact absurd ⟨rfl,oM⟩ hq
 simp only[Pl.tU,kI];have KN:=λ(W:Wd)(hb:Bl w W)=>adG ⟨lf,lc,lr,ls⟩ nm (HE.o.eG hb)
 cases hn:gH G.ns own nm with
 |none =>
  simp only[hn] at KN ⊢;replace KN:=zH KN;open anh in exact QF
 |some a =>
  simp only[hn] at KN ⊢;replace KN:=zH KN;open ani in exact QF
end Go.Proofs.YtiagfejlmafliaaGreatDoor
