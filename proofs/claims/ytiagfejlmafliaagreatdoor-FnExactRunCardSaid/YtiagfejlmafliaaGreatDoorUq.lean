import Derived.Test.YtiagfejlmafliaaGreatDoorRuf
import Derived.Test.YtiagfejlmafliaaGreatDoorWf
namespace Go.Proofs.YtiagfejlmafliaaGreatDoor
set_option linter.all false
open Go.Proofs.Tryz Pl
open Go.RowKit
set_option maxRecDepth 100000
set_option maxHeartbeats 16000000
open Pl (Ar)
open World renaming setCell->ez,alloc->ew
open List renaming range->eA,replicate->eE
open Option renaming some->a_,none->c_
open Bool renaming true->b_,false->d_
variable {ρ:Prop}
section
def Pl.Wh(k1:fS->Ar->Int × Ar)(k2:fS->Ar->Ar->Int × Ar)(L:Lm)(s:Pl.Tv)(p:List Pl.Tv)(G:Gb)(v:Option Ar)(m:Ms):iP k1 k2 L (s::p) G v m=if s.k=3 then iP k1 k2 L p ⟨G.ns,G.fs++[s]⟩ v m else jl (top k1 k2 L G s.code m) λa m=>if s.k=2 then iP k1 k2 L p ⟨G.ns++[(s.nm,a)],G.fs⟩ v m else iP k1 k2 L p G (a_ a) m:=rfl
def XC{o:Oper}{a:Act}{t:TypeId}{m x v:Operand}{M X V:Va}{w w':Wd}(gO:o.op=Op.mapUpdate t m x v)(hm:a.eval m=M)(hx:a.eval x=X)(hv:a.eval v=V)(hr:(Instr.mapUpdate t M X V).run prog w=.ok () w'):(execOp a.eval o).run prog w=.ok .skip w':=by
 simp[execOp,gO,hm,hx,hv,hr,Result.andThen]
def TI(s:Pl.Tv):Prop:=(s.k=1\/s.k=2\/s.k=3)/\s.nm.length<=1048576/\n6 s.code/\vg s.code/\(s.k=3->FI s)
abbrev XP(B:Nat)(w:Wd)(a:oA)(p:List Pl.Tv):Prop:=XL QT 4 (λb=>b<B) w a p
def XP.eG{B:Nat}{w w':Wd}{a:oA}{c:List Pl.Tv}(h:XP B w a c)(k:Below B w w'):XP B w' a c:=XL.mv mT h (N4 k)
structure Gm(M ba bf:Nat)(w w':Wd):Prop where
 os:w'.os=w.os
 tape:w'.tape=w.tape
 output:w'.output=w.output
 size:w.1.size<=w'.1.size
 block:∀b,b<w.1.size->¬b=M->¬b=ba->¬b=bf->w'.1[b]? = w.1[b]?
def Gm.grown{M ba bf q:Nat}{w W W':Wd}(h:Gm M ba bf w W)(g:W.grownBy W' (a_ q))(hq:q=M\/q=ba\/q=bf\/w.1.size<=q):Gm M ba bf w W' :=
 ⟨g.os.trans h.os,g.tape.trans h.tape,g.output.trans h.output,jT h.size g.size,λb hb n1 n2 n3=>(g.block b (jL hb h.size) J2).trans (h.block b hb n1 n2 n3)⟩
def Gm.below{M ba bf:Nat}{w W W':Wd}(h:Gm M ba bf w W)(k:Bl W W'):Gm M ba bf w W':=h.grown (q:=M) (iU k) (.inl rfl)
def xI(R:Wd->Prop)(M:Nat)(L:Lm)(w:Wd)(r:Pl.Rs)(e:Ending)(w':Wd):Prop:=R w'/\ib L r.2/\match r.1 with
 |.ok a=>Bx w' M (gn L r.2 0) 72/\∃u0 u1,e=rT (.agg #[u0,u1])/\O2 w.1.size w' u0 u1 a
 |.error (k,x)=>e=.panicked [iI k x]/\∃s',Bx w' M (gn L ⟨r.2.f,r.2.c,s'⟩ 0) 72
section
variable {K:Ks} {B:Nat} {w w':Wd} {f M bb ba bf:Nat} {L:Pl.Lm} {m:Pl.Ms}
abbrev Pw(B U:Nat)(w:Wd):nK:=λb=>b<w.1.size/\(b<B\/U<=b)
def akM.ι(h:ρ:=by
 have z60:=sizeOf60;have a60:=isAgg60;refine fT (S:=λw'=>w'.cell? (Y f 1)=a_ (pT bb)/\w'.cell? (Y bb 1)=a_ (.map (a_ bf))/\w'.cell? (Y Z 0)=a_ (I s.k)/\w'.cell? (Y Z 1)=a_ (.string (Pl.ba s.nm))/\w'.cell? (Y Z 2)=a_ (sX a1 s.code.length c1)/\w'.cell? (Y Z 3)=a_ (sX a2 s.gs.length c2)) kF ⟨df 1,db 1,dz 0,dz 1,dz 2,dz 3⟩ (λhS=>?_);refine tk 0 (pT f) rfl hS (λ_ _=>kF) ?_;refine tk 1 (pT f) rfl hS (λ_ _=>kF) ?_;refine tk 2 (.pointer (sY f 1)) rfl hS (λ_ _=>kF) ?_;refine tk 3 (pT bb) rfl hS (λw h=>by obtain⟨h0,h1,h2,h3,h4,h5⟩:=h;go_simp) ?_;refine tk 4 (pT bb) rfl hS (λ_ _=>kF) ?_;refine tk 5 (.pointer (sY bb 1)) rfl hS (λ_ _=>kF) ?_;refine tk 6 (.map (a_ bf)) rfl hS (λw h=>by obtain⟨h0,h1,h2,h3,h4,h5⟩:=h;go_simp) ?_;refine tk 7 (.pointer (sY Z 1)) rfl hS (λ_ _=>kF) ?_;refine tk 8 (.string (Pl.ba s.nm)) rfl hS (λw h=>by obtain⟨h0,h1,h2,h3,h4,h5⟩:=h;go_simp) ?_;refine tk 9 (.agg #[I s.k,.string (Pl.ba s.nm),sX a1 s.code.length c1,sX a2 s.gs.length c2]) rfl hS (λw h=>by obtain⟨h0,h1,h2,h3,h4,h5⟩:=h;go_simp) ?_;have⟨w2,eN,F3,Cy⟩:=(F1.o.below bd).func oM s S'.o tJ.o.2.1 a1 c1 a2 c2 (XS.eG X1.o (bd.mono oM)) (XG.eG X2.o (bd.mono oM));have g2:=C4 Cy;have Ac:=g2.size;have ja:Bx w2 f _ 108:=F3.b0;have jb:Bx w2 bb _ 105:=F3.b1;have jz:Bx w2 Z _ 60:=KZ.o.eX (g2.block Z KZ.o.lt J2);have j0:Bx w2 w.1.size _ 30:=R0.o.eX (g2.block _ R0.o.lt J2);have j1:Bx w2 (w.1.size+1) _ 30:=R1.o.eX (g2.block _ R1.o.lt J2);have jm:Bx w2 M _ 72:=yM.o.eX (g2.block M yM.o.lt J2);have F4:Hid (Pf K B (w.1.size+2) (k+1+1) (Pw B (w.1.size+2) w2) w2 f M bb ba bf ⟨G.ns,G.fs++[s]⟩):=F3.mono (λb hb=>⟨by have h1:b<wr.1.size:=hb.1;omega,hb.2⟩) (λb hb=>hb);have Q4:=zH (Q1.o.grown g2 (.inr (.inr (.inl rfl))));have B4:Hid (Below B w w2):=B1.o.trans (qd g2 oM oM);have TU:Hid (∀a,vo=a_ a->RO K (Pw B (w.1.size+2) w2) w2 (sX x0 p0 q0) (sX x1 p1 q1) a):=λa e=>by
  have h:=RV.o a e;have h2:=h.kp (w':=w2) ⟨g2.size,λb hb hl=>g2.block b hl (by have:=hb.2;simp;omega)⟩;exact h2.mono λb hb hl=>⟨hl,hb.2⟩
 have J0:=zH j0;have J1:=zH j1;have JM:=zH jm;refine ts 10 w2 rfl rfl rfl (XC rfl kF kF kF eN) ⟨ja.cf.1 1,jb.cf.1 1,jz.cf.1 0,jz.cf.1 1,jz.cf.1 2,jz.cf.1 3⟩ ?_;refine te ?_;clear hS eN F3 g2 Cy ja jb jz j0 j1 jm df ff zf db fb zb dz fz zz;go_simp;go_wp2;go_roundw
 case rel=>exact⟨k+1,_,vo,m',x0,x1,_,_,_,_,gN,rfl,oM,hm,hr,F4,JM,B4,J0,J1,TU,Q4⟩
 case measure=>simp[intOf];omega
 ):ρ:=h
def akL.ι(h:ρ:=by
 have KE:=KD.o _ _ G s.code a1 c1 m' ((F1.o.below bd).fi oM) tJ.o.2.2.1 tJ.o.2.2.2.1 (XS.eG X1.o (bd.mono oM)) (yM.o.below bd) hm.o;refine fT (S:=λw'=>w'.cell? (Y f 1)=a_ (pT bb)/\w'.cell? (Y bb 0)=a_ (.map (a_ ba))/\w'.cell? (Y Z 0)=a_ (I s.k)/\w'.cell? (Y Z 1)=a_ (.string (Pl.ba s.nm))/\w'.cell? (Y Z 2)=a_ (sX a1 s.code.length c1)/\w'.cell? (Y Z 3)=a_ (sX a2 s.gs.length c2)) kF ⟨df 1,db 0,dz 0,dz 1,dz 2,dz 3⟩ (λhS=>?_);refine tk 0 (pT f) rfl hS (λ_ _=>kF) ?_;refine tk 1 (pT f) rfl hS (λ_ _=>kF) ?_;refine tk 2 (.pointer (sY f 1)) rfl hS (λ_ _=>kF) ?_;refine tk 3 (pT bb) rfl hS (λw h=>by obtain⟨h0,h1,h2,h3,h4,h5⟩:=h;go_simp) ?_;refine tk 4 (pT bb) rfl hS (λ_ _=>kF) ?_;refine tk 5 (pT bb) rfl hS (λ_ _=>kF) ?_;refine tk 6 (.map (a_ ba)) rfl hS (λw h=>by obtain⟨h0,h1,h2,h3,h4,h5⟩:=h;go_simp) ?_;refine tk 7 (.pointer (sY Z 1)) rfl hS (λ_ _=>kF) ?_;refine tk 8 (.string (Pl.ba s.nm)) rfl hS (λw h=>by obtain⟨h0,h1,h2,h3,h4,h5⟩:=h;go_simp) ?_;refine tk 9 (pT f) rfl hS (λ_ _=>kF) ?_;refine tk 10 (.pointer (sY Z 2)) rfl hS (λ_ _=>kF) ?_;refine tk 11 (sX a1 s.code.length c1) rfl hS (λw h=>by obtain⟨h0,h1,h2,h3,h4,h5⟩:=h;go_simp) ?_;refine tc 12 58 #[pT f,sX a1 s.code.length c1] rfl rfl kF (KE.mono ?_);generalize top K.k1 K.k2 L G s.code m'=rr at hr ⊢;rintro e w1 h;obtain⟨q,m3⟩:=rr
 cases q with
 |error q =>
  obtain⟨g,jw,rfl,s',bm⟩:=h;have g':=C4 g;have hI:xI (Gm M ba bf w) M L w (.error q,m3) (.panicked [iI q.1 q.2]) w1:=⟨Q1.o.grown g' (.inl rfl),jw,rfl,s',bm⟩;have gC:r=(.error q,m3):=hr.o;rw[<- gC] at hI;exact .inr ⟨_,rfl,rfl,hI⟩
 |ok a =>
  obtain⟨g,jw,bm,u0,u1,rfl,ro⟩:=h;replace g:=C4 g;obtain⟨⟨y0,z0,rfl⟩,y1,z1,rfl⟩:=ro.1.eS;have gC:Hid (r=iP K.k1 K.k2 L (p.drop (k+1)) ⟨G.ns++[(s.nm,a)],G.fs⟩ vo m3):=hr.o;have gs:=g.size;have F2:Pf K B (w.1.size+2) (k+1) (Pw B (w.1.size+2) w1) w1 f M bb ba bf G:=(F1.o.kp g).mono (λb hb=>⟨by have h1:b<wr.1.size:=hb.1;omega,hb.2⟩) (λb hb=>hb);have Kr:RO K (Pw B (w.1.size+2) w1) w1 (sX y0 a.1.length z0) (sX y1 a.2.length z1) a:=ro.mono λb hb hl=>⟨hl,hb.elim (λh=>h.2) (λh=>.inr (by have:W.1.size<=b:=h;omega))⟩;have ka:Bx w1 f _ 108:=F2.b0;have kb:Bx w1 bb _ 105:=F2.b1;have kz:Bx w1 Z _ 60:=KZ.o.eX (g.block Z KZ.o.lt J2);have k0:Bx w1 w.1.size _ 30:=R0.o.eX (g.block _ R0.o.lt J2);have k1:Bx w1 (w.1.size+1) _ 30:=R1.o.eX (g.block _ R1.o.lt J2);have⟨w2,eN,F3,g2⟩:=F2.name oM s.nm tJ.o.2.1 _ _ a Kr;have Ac:=g2.size;have ja:Bx w2 f _ 108:=ka.eX (g2.block f ka.lt J2);have jb:Bx w2 bb _ 105:=kb.eX (g2.block bb kb.lt J2);have jz:Bx w2 Z _ 60:=kz.eX (g2.block Z kz.lt J2);have j0:Bx w2 w.1.size _ 30:=k0.eX (g2.block _ k0.lt J2);have j1:Bx w2 (w.1.size+1) _ 30:=k1.eX (g2.block _ k1.lt J2);have jm:Bx w2 M _ 72:=bm.eX (g2.block M bm.lt J2);have F4:Hid (Pf K B (w.1.size+2) (k+1+1) (Pw B (w.1.size+2) w2) w2 f M bb ba bf ⟨G.ns++[(s.nm,a)],G.fs⟩):=F3.mono (λb hb=>⟨by have h1:b<w1.1.size:=hb.1;omega,hb.2⟩) (λb hb=>hb);have Q4:=zH ((Q1.o.grown g (.inl rfl)).grown g2 (.inr (.inl rfl)));have B4:Hid (Below B w w2):=(B1.o.trans (qd g oM oM)).trans (qd g2 oM oM);have TU:Hid (∀a,vo=a_ a->RO K (Pw B (w.1.size+2) w2) w2 (sX x0 p0 q0) (sX x1 p1 q1) a):=λa e=>by
   have h:=RV.o a e;have h1:=h.kp (w':=w1) ⟨g.size,λb hb hl=>g.block b hl (by have:=hb.2;simp;omega)⟩;have h2:=h1.kp (w':=w2) ⟨g2.size,λb hb hl=>g2.block b hl (by have:=hb.2;simp;omega)⟩;exact h2.mono λb hb hl=>⟨hl,hb.2⟩
  have J0:=zH j0;have J1:=zH j1;have JM:=zH jm;have rI:=zH jw;refine .inl ⟨_,rfl,⟨ka.cf.1 1,kb.cf.1 0,kz.cf.1 0,kz.cf.1 1,kz.cf.1 2,kz.cf.1 3⟩,?_⟩;refine ts 13 w2 rfl rfl rfl (XC rfl kF kF kF eN) ⟨ja.cf.1 1,jb.cf.1 0,jz.cf.1 0,jz.cf.1 1,jz.cf.1 2,jz.cf.1 3⟩ ?_;refine te ?_;clear hS KE g jw bm ro Kr ka kb kz k0 k1 eN F3 g2 ja jb jz j0 j1 jm F2 hr df ff zf db fb zb dz fz zz;go_simp;go_wp2;go_roundw
  case rel=>exact⟨k+1,_,vo,m3,x0,x1,_,_,_,_,gN,rfl,oM,rI,gC,F4,JM,B4,J0,J1,TU,Q4⟩
  simp[intOf];omega
 ):ρ:=h
def acI(H:KI K)(O:KO K)(hL:kJ L){G0:Gb}(hf:Pf K B w.1.size 1 (λb=>b<B) w f M bb ba bf G0)(p:List Pl.Tv)(hp:∀s∈p,TI s)(hl:p.length<=1048576)(ap:oA)(cp:Nat)(hx:XP B w ap p)(hM:Bx w M (gn L m 0) 72)(hm:ib L m):
  Cp 34 #[pT f,sX ap p.length cp] w (xI (Gm M ba bf w) M L w (iP K.k1 K.k2 L p G0 c_ m)):=by
 have⟨r,HR⟩:∃r,Hid (r=iP K.k1 K.k2 L (p.drop 0) G0 c_ m):=⟨_,rfl⟩;rw[show iP K.k1 K.k2 L p G0 c_ m=iP K.k1 K.k2 L (p.drop 0) G0 c_ m from rfl,<- HR.o];have KD:Hid (∀(W:Wd)(P:nK) (G:Gb) (c:List Sv) ac cp (m:Ms),Fi K P B W f M G [] c_->n6 c->vg c->XS B W ac c->Bx W M (gn L m 0) 72->ib L m->Cp 58 #[pT f,sX ac c.length cp] W (gI K P M L 0 W (top K.k1 K.k2 L G c m))):=λW P G c ac cp m h1 h2 h3 h4 h5 h6=>al1 H O hL h1 c h2 h3 ac cp h4 h5 h6;have HO:=zH λa=>O.len a;have l0:=hf.l0;have n0:=zH hf.ne;have hBU:B<=w.1.size:=oM;have F0:Hid (Pf K B (w.1.size+2) 1 (Pw B (w.1.size+2) ((w.alloc (.cells nN 30)).alloc (.cells nN 30))) ((w.alloc (.cells nN 30)).alloc (.cells nN 30)) f M bb ba bf G0):=by
  have h:=hf.below (w':=(w.alloc (.cells nN 30)).alloc (.cells nN 30)) gG;have h2:Pf K B (w.1.size+2) 1 (λb=>b<B) ((w.alloc (.cells nN 30)).alloc (.cells nN 30)) f M bb ba bf G0:=⟨λb hb=>⟨by simp;omega,.inl hb⟩,λb hb=>hb,sI,oM,h.ne,h.b0,h.b1,h.ma,h.mf⟩;exact h2.mono (λb hb=>⟨by simp;omega,.inl hb⟩) (λb hb=>hb)
 have HX:=zH hx;have Ul:=zH hp;have HM:=zH hm;have BM:Hid (Bx ((w.alloc (.cells nN 30)).alloc (.cells nN 30)) M _ 72):=(hM.al _).al _;have KN:=zH λc=>yP c;have KY:=zH λc=>yN c;have⟨n,HN⟩:=jN (p.length);rw[HN.o] at hl;rw[HN.o];clear hf hx hp hm hM H O hL;go_enter func34,ntmps34;go_wp2_with fail;go_loopw [6,11] (λhv i wr=>∃(k:Nat)(G:Gb) (vo:Option Ar) (m':Ms) (x0 x1:oA) (p0 q0 p1 q1:Nat),i=I (k:Int)/\hv=.bool vo.isSome/\k<=n/\Hid (ib L m')/\Hid (r=iP K.k1 K.k2 L (p.drop k) G vo m')/\Hid (Pf K B (w.1.size+2) (k+1) (Pw B (w.1.size+2) wr) wr f M bb ba bf G)/\Hid (Bx wr M (gn L m' 0) 72)/\Hid (Below B w wr)/\Hid (Bx wr w.1.size nN 30)/\Hid (Bx wr (w.1.size+1) #[sX x0 p0 q0,sX x1 p1 q1] 30)/\Hid (∀a,vo=a_ a->RO K (Pw B (w.1.size+2) wr) wr (sX x0 p0 q0) (sX x1 p1 q1) a)/\Hid (Gm M ba bf w wr)) (λ_ i _=>n-(intOf i).toNat)
 case atStart=>exact⟨0,G0,c_,m,c_,c_,0,0,0,0,rfl,rfl,vZ _,HM,HR,F0,BM,(show Below B w _ from by go_grown),Bx.al (.eK rfl) _,.eK sI,(λa e=>by cases e),(show Gm M ba bf w _ from Gm.below ⟨rfl,rfl,rfl,jR _,λ_ _ _ _ _=>rfl⟩ gG)⟩
 obtain⟨k,G,vo,m',x0,x1,p0,q0,p1,q1,rfl,rfl,hk,hm,hr,hF,oU,hB,kE,hb1,hv,LO⟩:=hrel;clear HR F0 BM HM;have lz:=hb1.o.lt;obtain⟨d0,f0,z0⟩:=hF.o.b0.all;obtain⟨d1,f1,z1⟩:=hF.o.b1.all;clear f0 f1;by_cases fK:k=n
 ·have e:p.drop k=[]:=Be JH
  rw[e] at hr;clear d0 z0 d1 z1 e
  cases vo with
  |none =>
   have eN:Hid (r=(.error (2,12),m')):=hr.o;simp only[IA];go_wp2_with (go_at_call 59;refine(KY.o _ _).mono ?_;rintro e w' ⟨rfl,rfl⟩)
   have hI:xI (Gm M ba bf w) M L w (.error (2,12),m') (.panicked [iI 2 12]) _:=⟨LO.o,hm.o,rfl,m'.s,oU.o⟩;rw[<- eN.o] at hI;exact⟨rfl,hI⟩
  |some a =>
   have eN:Hid (r=(.ok a,m')):=hr.o;have ro:=hv.o a rfl;have oR:=HO.o a ro.2;have⟨⟨y0,z0,e0⟩,y1,z1,e1⟩:=ro.1.eS;have KC:=zH (FV _ _ a wr ro.1 oR.1 oR.2);obtain⟨d1,f1,D7⟩:=hb1.o.all;clear ro e0 e1 f1;simp only[IB];go_wp2_with (go_at_call 59;refine(KN.o _ _).mono ?_;rintro e w' ⟨rfl,rfl⟩)
   refine KC.o.mono ?_;rintro e w1 ⟨rz,u0,u1,rfl,o2⟩;obtain⟨y0,z0,rfl⟩:=o2.1.form;obtain⟨y1,z1,rfl⟩:=o2.2.1.form;have⟨e2,g2,l2⟩:=(kE.o.below rz).all;have OO:=zH o2;have jo:=zH rz;have yM:=zH (oU.o.below rz);have k0:=zH (kE.o.below rz);clear rz o2 d1 D7 KC;go_wp2;refine eJ (by simp[results,results34,go_sem,e2];try rfl) rfl ?_;rw[eN.o];have m1:=OO.o.1.ne k0.o dC;have m2:=OO.o.2.1.ne k0.o dC;have sB:=hB.o.size;have gm2:=(LO.o.below jo.o).grown (q:=w.1.size) ((ic w1 w.1.size 0 (sX y0 a.1.length z0)).trans (ic _ w.1.size 1 (sX y1 a.2.length z1))) oM;exact⟨gm2,hm.o,(yM.o.eC J2 _).eC J2 _,_,_,rfl,(OO.o.1.kp eY).base oM,(OO.o.2.1.kp eY).base oM,OO.o.2.2⟩
 have eI:(k:Int)<(n:Int):=oM;have iT:k<p.length:=by rw[HN.o];omega
 have⟨s,iF⟩:∃s,p[k]? = a_ s:=⟨_,fw iT⟩;have tN:p.drop k=s::p.drop (k+1):=by
  exact Qj
 have tJ:=zH (Ul.o s (my iF));rw[tN] at hr;obtain⟨bp,op,rfl,rk,a1,c1,a2,c2,t0,t1,t2,t3,xs,xg⟩:∃bp op,ap=sY bp op/\bp<B/\QT (λb=>b<B) wr bp (op+k * 4) s:=by
  rcases XP.eG HX.o hB.o with h|⟨b,o,h1,h2,h3⟩
  ·rw[h] at iF;simp at iF
  exact⟨b,o,h2,h1,h3 k s iF⟩
 have sB:=hB.o.size;have Ed:bp<wr.1.size:=oM;clear tN iF iT;have be:Bl wr (wr.alloc (.cells #[I s.k,.string (Pl.ba s.nm),sX a1 s.code.length c1,sX a2 s.gs.length c2] 60)):=gG;have Ah:Below B wr (wr.alloc (.cells #[I s.k,.string (Pl.ba s.nm),sX a1 s.code.length c1,sX a2 s.gs.length c2] 60)):=be.mono oM;have F1:=zH (hF.o.below be);have X1:Hid (XS B (wr.alloc (.cells #[I s.k,.string (Pl.ba s.nm),sX a1 s.code.length c1,sX a2 s.gs.length c2] 60)) a1 s.code):=XS.eG xs Ah;have X2:Hid (XG B (wr.alloc (.cells #[I s.k,.string (Pl.ba s.nm),sX a1 s.code.length c1,sX a2 s.gs.length c2] 60)) a2 s.gs):=XG.eG xg Ah;have yM:=zH (oU.o.below be);have B1:Hid (Below B w (wr.alloc (.cells #[I s.k,.string (Pl.ba s.nm),sX a1 s.code.length c1,sX a2 s.gs.length c2] 60))):=hB.o.trans Ah;have Q1:=zH (LO.o.below be);have R0:=zH (kE.o.below be);have R1:=zH (hb1.o.below be);have RV:Hid (∀a,vo=a_ a->RO K (Pw B (w.1.size+2) wr) (wr.alloc (.cells #[I s.k,.string (Pl.ba s.nm),sX a1 s.code.length c1,sX a2 s.gs.length c2] 60)) (sX x0 p0 q0) (sX x1 p1 q1) a):=λa e=>(hv.o a e).kp (.of be);have KZ:Hid (Bx (wr.alloc (.cells #[I s.k,.string (Pl.ba s.nm),sX a1 s.code.length c1,sX a2 s.gs.length c2] 60)) wr.1.size #[I s.k,.string (Pl.ba s.nm),sX a1 s.code.length c1,sX a2 s.gs.length c2] 60):=Bx.new _ _ _;clear hF oU hB kE hb1 hv xs xg be Ah LO;have nn:=n0.o;rw[Wh] at hr;generalize hZ:wr.1.size=Z at *;rcases tJ.o.1 with hk1|ji|iT
 rotate_left 1
 ·have e3:(s.k == 3)=d_:=gR.2 oM
  have e2:(s.k == 2)=b_:=uy.2 ji;rw[eB oM,show (λa m=>if s.k=2 then iP K.k1 K.k2 L (p.drop (k+1)) ⟨G.ns++[(s.nm,a)],G.fs⟩ vo m else iP K.k1 K.k2 L (p.drop (k+1)) G (a_ a) m)=λa m=>iP K.k1 K.k2 L (p.drop (k+1)) ⟨G.ns++[(s.nm,a)],G.fs⟩ vo m from by funext a m;rw[eD ji]] at hr;clear ji;open akL in exact Χ
 ·have e3:(s.k == 3)=b_:=uy.2 iT
  rw[eD iT] at hr;have S':=zH (tJ.o.2.2.2.2 iT);clear iT;open akM in exact Χ
 have e3:(s.k == 3)=d_:=gR.2 oM;have e2:(s.k == 2)=d_:=gR.2 oM;have e1:(s.k == 1)=b_:=uy.2 hk1;rw[eB oM,show (λa m=>if s.k=2 then iP K.k1 K.k2 L (p.drop (k+1)) ⟨G.ns++[(s.nm,a)],G.fs⟩ vo m else iP K.k1 K.k2 L (p.drop (k+1)) G (a_ a) m)=λa m=>iP K.k1 K.k2 L (p.drop (k+1)) G (a_ a) m from by funext a m;rw[eB oM]] at hr;have KE:=zH (KD.o _ _ G s.code a1 c1 m' (F1.o.fi oM) tJ.o.2.2.1 tJ.o.2.2.2.1 X1.o yM.o hm.o);clear hk1;generalize top K.k1 K.k2 L G s.code m'=rr at hr KE;go_wp2_with fail;clear t0 t1 t2 t3 d0 z0 d1 z1;generalize wr.alloc _=W at *;refine KE.o.mono ?_;rintro e w1 h;obtain⟨q,m3⟩:=rr
 cases q with
 |error q =>
  obtain⟨g,jw,rfl,s',bm⟩:=h;have hI:xI (Gm M ba bf w) M L w (.error q,m3) (.panicked [iI q.1 q.2]) w1:=⟨Q1.o.grown g (.inl rfl),jw,rfl,s',bm⟩;have gC:r=(.error q,m3):=hr.o;rw[<- gC] at hI;exact⟨rfl,hI⟩
 |ok a =>
  obtain⟨g,jw,bm,u0,u1,rfl,ro⟩:=h;obtain⟨⟨y0,z0,rfl⟩,y1,z1,rfl⟩:=ro.1.eS;have gC:Hid (r=iP K.k1 K.k2 L (p.drop (k+1)) G (a_ a) m3):=hr.o;have gs:=g.size;have sW:=B1.o.size;have lW:w.1.size+1<W.1.size:=R1.o.lt;have k0:Bx w1 w.1.size _ 30:=R0.o.eX (g.block _ R0.o.lt J2);have k1:Bx w1 (w.1.size+1) _ 30:=R1.o.eX (g.block _ R1.o.lt J2);have⟨e4,g4,l4⟩:=k1.all;have F2:Hid (Pf K B (w.1.size+2) (k+1+1) (Pw B (w.1.size+2) w1) w1 f M bb ba bf G):=((F1.o.kp g).mono (λb hb=>⟨by have h1:b<wr.1.size:=hb.1;have h2:=KZ.o.lt;omega,hb.2⟩) (λb hb=>hb)).up oM;have oY:Hid (RO K (Pw B (w.1.size+2) w1) w1 (sX y0 a.1.length z0) (sX y1 a.2.length z1) a):=ro.mono λb hb hl=>⟨hl,hb.elim (λh=>h.2) (λh=>.inr oM)⟩;have Au:=zH bm;have B2:Hid (Below B w w1):=B1.o.trans (qd g oM oM);have Q2:=zH (Q1.o.grown g (.inl rfl));have K0:=zH k0;have K1:=zH k1;have rI:=zH jw;clear g jw bm ro k0 k1 hr KE;go_wp2_with fail;have nb:¬Pw B (w.1.size+2) w1 (w.1.size+1):=λh=>by have:=h.2;omega
  have W2b:Below (w.1.size+1) w1 ((w1.setCell (Y (w.1.size+1) 0) (sX y0 a.1.length z0)).setCell (Y (w.1.size+1) 1) (sX y1 a.2.length z1)):=gG;have gsx:w1.grownBy ((w1.setCell (Y (w.1.size+1) 0) (sX y0 a.1.length z0)).setCell (Y (w.1.size+1) 1) (sX y1 a.2.length z1)) (a_ (w.1.size+1)):=(ic _ _ _ _).trans (ic _ _ _ _);have F3:=zH (F2.o.boxed gsx oM);have F4:Hid (Pf K B (w.1.size+2) (k+1+1) (Pw B (w.1.size+2) ((w1.setCell (Y (w.1.size+1) 0) (sX y0 a.1.length z0)).setCell (Y (w.1.size+1) 1) (sX y1 a.2.length z1))) ((w1.setCell (Y (w.1.size+1) 0) (sX y0 a.1.length z0)).setCell (Y (w.1.size+1) 1) (sX y1 a.2.length z1)) f M bb ba bf G):=F3.o.mono (λb hb=>⟨by simpa using hb.1,hb.2⟩) (λb hb=>hb);have R4:Hid (∀a',a_ a=a_ a'->RO K (Pw B (w.1.size+2) ((w1.setCell (Y (w.1.size+1) 0) (sX y0 a.1.length z0)).setCell (Y (w.1.size+1) 1) (sX y1 a.2.length z1))) ((w1.setCell (Y (w.1.size+1) 0) (sX y0 a.1.length z0)).setCell (Y (w.1.size+1) 1) (sX y1 a.2.length z1)) (sX y0 a.1.length z0) (sX y1 a.2.length z1) a'):=λa' e=>by
   injection e with e;subst e;exact(oY.o.kp (((Kp.refl _ _).set nb _).set nb _)).mono λb hb hl=>⟨hl,hb.2⟩
  have Q3:=zH (Q2.o.grown gsx oM);go_roundw
  case rel=>exact⟨k+1,G,a_ a,m3,y0,y1,_,_,_,_,gN,rfl,oM,rI,gC,F4,(Au.o.eC J2 _).eC J2 _,B2.o.trans (W2b.mono oM),(K0.o.eC sI _).eC sI _,(K1.o.set 0 _).set 1 _,R4,Q3⟩
  simp[intOf];omega
end
end
section
section
variable {K:Ks} {B:Nat} {w w':Wd} {M:Nat} {L:Pl.Lm} {m:Pl.Ms}
def abc(v0 v1:Va)(a:Ar)(h:RO K (λb=>b<B) w v0 v1 a)(hB:B<=M)(hM:M<w.1.size):Cp 33 #[pT M,.agg #[v0,v1]] w λe w'=>Bl w w'/\∃f bb ba bf,e=rT (pT f)/\(w.1.size<=ba/\w.1.size<=bf)/\Pf K B w'.1.size 1 (λb=>b<B) w' f M bb ba bf ⟨[([119],a)],[]⟩:=by
 obtain⟨⟨x,y,rfl⟩,x',y',rfl⟩:=h.1.eS;have qA:=@run_makeMap prog;have OM:=Om.new prog 9 (w.alloc (.cells #[sX x a.1.length y,sX x' a.2.length y'] 30));obtain⟨w1,s1,o1,t1⟩:=OM.store underlying9 underlying102 dC [119] dC (.agg #[sX x a.1.length y,sX x' a.2.length y']);have g1:(Instr.mapUpdate 102 (.map (a_ (w.1.size+1))) (.string ⟨#[119]⟩) (.agg #[sX x a.1.length y,sX x' a.2.length y'])).run prog ((w.alloc (.cells #[sX x a.1.length y,sX x' a.2.length y'] 30)).alloc (.map #[] 0))=.ok () w1:=by have h:=s1;simp at h;exact h
 have tg:=t1.grown;have s0:=tg.size;have BW:Bl w w1:=qu (B:=w.1.size) (a:=w) gG tg J2 (λk hk=>by injection hk with hk;simp at hk;omega);have HB:=zH BW;have sz:w.1.size+1<w1.1.size:=by simp at s0;omega
 have O1:Hid (Om prog 9 w1 (w.1.size+1) 1 (λx_1=>if x_1=[119] then a_ (.agg #[sX x a.1.length y,sX x' a.2.length y']) else c_)):=by refine zH ?_;simpa using o1
 have HH:=zH h;go_enter func33,ntmps33;go_wp2;go_returns
 have b1:=HB.o;have s1:=HB.o.size;refine⟨gG,w1.1.size+1+1,w1.1.size+1,w.1.size+1,w1.1.size,rfl,⟨oM,oM⟩,⟨λb hb=>⟨by simp;omega,.inl hb⟩,λb hb=>hb,jR _,by simp;omega,oM,.eK sI,.al (.eK sI) _,?_,?_⟩⟩
 ·refine⟨1,_,O1.o.eX (Below.block (B:=w1.1.size) gG _ O1.o.lt),oM,λz=>?_⟩
  have hn:mr [([119],a)] z=if z=[119] then a_ a else c_:=by
   have:=U_ [] [119] a z;simpa[mr,jP] using this
  rw[hn];by_cases hz:z=[119]
  ·simp only[eD hz];exact⟨_,_,rfl,HH.o.kp (.of gG)⟩
  simp only[eB hz]
 exact⟨0,_,(Om.new prog 9 w1).eX (Below.block (B:=w1.1.size+1) gG _ oM),oM,λz=>rfl⟩
def Gm.over{ba bf:Nat}{w1 w2:Wd}(h:Bl w w1)(g:Gm M ba bf w1 w2)(hb:w.1.size<=ba/\w.1.size<=bf):w.grownBy w2 (a_ M) :=
 have k:w.grownBy w1 c_:=iU h;⟨g.os.trans k.os,g.tape.trans k.tape,g.output.trans k.output,jT k.size g.size,λb hl hn=>(g.block b (jL hl k.size) (λe=>hn (by rw[e])) oM oM).trans (k.block b hl sI)⟩
def afP(H:KI K)(O:KO K)(hL:kJ L)(bm bw bq:Nat)(v0 v1:Va)(a:Ar)(h:RO K (λb=>b<B) w v0 v1 a)(hB:B<=M)(p:List Pl.Tv)(hp:∀s∈p,TI s)(hl:p.length<=1048576)(ap:oA)(cp:Nat)(hx:XP B w ap p)(hM:Bx w M (gn L m 0) 72)(hm:ib L m)
  (kb:B<=bm/\B<=bw/\B<=bq) (nb:¬bm=M/\¬bw=M/\¬bq=M) (b0:Bx w bm #[pT M] 70) (b1:Bx w bw #[v0,v1] 30) (b2:Bx w bq #[sX ap p.length cp] 34) :
  Cp 32 #[pT bm,pT bw,pT bq] w (xI (λw'=>w.grownBy w' (a_ M)) M L w (iP K.k1 K.k2 L p ⟨[([119],a)],[]⟩ c_ m)):=by
 obtain⟨⟨x,y,rfl⟩,x',y',rfl⟩:=h.1.eS;have lM:=hM.lt;have HH:=zH h;have HX:=zH hx;have BM:=zH hM;have K0:=zH b0;have K1:=zH b1;have K2:=zH b2;have KP:Hid (∀(W:Wd)(f bb ba bf:Nat),Pf K B W.1.size 1 (λb=>b<B) W f M bb ba bf ⟨[([119],a)],[]⟩->XP B W ap p->Bx W M (gn L m 0) 72->Cp 34 #[pT f,sX ap p.length cp] W (xI (Gm M ba bf W) M L W (iP K.k1 K.k2 L p ⟨[([119],a)],[]⟩ c_ m))):=λW f bb ba bf h1 h2 h3=>acI H O hL h1 p hp hl ap cp h2 h3 hm;generalize iP K.k1 K.k2 L p ⟨[([119],a)],[]⟩ c_ m=r at KP ⊢;go_enter func32,ntmps32;go_wp2_with fail;generalize hW:w.alloc _=W0;have BW:Hid (Bl w W0.drew):=by subst hW;exact(show Bl w _ from by go_grown)
 have r0:Hid (Bx W0.drew w.1.size nN 30):=by subst hW;exact Bx.eK rfl
 have c0:=K0.o.below BW.o;have c1:=K1.o.below BW.o;have c2:=K2.o.below BW.o;have D5:=sizeOf30;have E6:=isAgg30;refine fT (S:=λw'=>cL w' bm 0 (pT M)/\cL w' bw 0 (sX x a.1.length y)/\cL w' bw 1 (sX x' a.2.length y')/\cL w' bq 0 (sX ap p.length cp)) kF ⟨c0.cf.1 0,c1.cf.1 0,c1.cf.1 1,c2.cf.1 0⟩ (λhS=>?_);refine tk 0 (pT M) rfl hS (λw h=>by obtain⟨h0,h1,h2,h3⟩:=h;go_simp) ?_;refine tk 1 (.agg #[sX x a.1.length y,sX x' a.2.length y']) rfl hS (λw h=>by obtain⟨h0,h1,h2,h3⟩:=h;go_simp) ?_;refine tk 3 (sX ap p.length cp) rfl hS (λw h=>by obtain⟨h0,h1,h2,h3⟩:=h;go_simp) ?_;generalize W0.drew=W at *;refine tc 2 33 #[pT M,.agg #[sX x a.1.length y,sX x' a.2.length y']] rfl rfl kF ((abc _ _ a (HH.o.kp (.of BW.o)) hB (jL lM BW.o.size)).mono ?_);rintro e w1 ⟨hb1,f,bb,ba,bf,rfl,we,pf⟩;have sW:=BW.o.size;have aaY:w.1.size<=ba/\w.1.size<=bf:=oM;have B1:Bl w w1:=bv hb1 BW.o;have lw:=K0.o.lt;have e0:=K0.o.below B1;have e1:=K1.o.below B1;have e2:=K2.o.below B1;refine .inl ⟨_,rfl,⟨e0.cf.1 0,e1.cf.1 0,e1.cf.1 1,e2.cf.1 0⟩,?_⟩;have wB:B<=w.1.size:=oM;refine tc 4 _ _ rfl rfl kF ((KP.o w1 f bb ba bf pf (XP.eG HX.o (B1.mono wB)) (BM.o.below B1)).mono ?_);rintro e w2 hq;obtain⟨q,m3⟩:=r
 cases q with
 |error q =>
  obtain⟨gm,jw,rfl,s',E4⟩:=hq;exact .inr ⟨_,rfl,rfl,Gm.over B1 gm aaY,jw,rfl,s',E4⟩
 |ok z =>
  obtain⟨gm,jw,E4,u0,u1,rfl,o2⟩:=hq;obtain⟨p0,q0,rfl⟩:=o2.1.form;obtain⟨p1,q1,rfl⟩:=o2.2.1.form;have g2:=Gm.over B1 gm aaY;have pl0:=pf.l0;have tC:=g2.size;have szg:=gm.size;have f0:Bx w2 bm _ 70:=K0.o.eX (g2.block bm K0.o.lt (by simpa using nb.1));have f1:Bx w2 bw _ 30:=K1.o.eX (g2.block bw K1.o.lt (by simpa using nb.2.1));have f2:Bx w2 bq _ 34:=K2.o.eX (g2.block bq K2.o.lt (by simpa using nb.2.2));have r1:Bx w1 w.1.size _ 30:=r0.o.below hb1;have l1:=r1.lt;have l0:=r0.o.lt;have r2:Bx w2 w.1.size _ 30:=r1.eX (gm.block _ l1 oM oM oM);have nw:¬bm=w.1.size/\¬bw=w.1.size/\¬bq=w.1.size:=⟨by have:=K0.o.lt;omega,by have:=K1.o.lt;omega,by have:=K2.o.lt;omega⟩;have SS:cL w2 bm 0 (pT M)/\cL w2 bw 0 (sX x a.1.length y)/\cL w2 bw 1 (sX x' a.2.length y')/\cL w2 bq 0 (sX ap p.length cp):=⟨f0.cf.1 0,f1.cf.1 0,f1.cf.1 1,f2.cf.1 0⟩;refine .inl ⟨_,rfl,SS,?_⟩;have⟨ET,Cy,l2⟩:=r2.all;have m0:=o2.1.ne r2 dC;have m1:=o2.2.1.ne r2 dC;have j0:=(f0.eC (p:=(Y w.1.size 0)) (by simpa using nw.1) (sX p0 z.1.length q0)).eC (p:=(Y w.1.size 1)) (by simpa using nw.1) (sX p1 z.2.length q1);have j1:=(f1.eC (p:=(Y w.1.size 0)) (by simpa using nw.2.1) (sX p0 z.1.length q0)).eC (p:=(Y w.1.size 1)) (by simpa using nw.2.1) (sX p1 z.2.length q1);have j2:=(f2.eC (p:=(Y w.1.size 0)) (by simpa using nw.2.2) (sX p0 z.1.length q0)).eC (p:=(Y w.1.size 1)) (by simpa using nw.2.2) (sX p1 z.2.length q1);have jm:=(E4.eC (p:=(Y w.1.size 0)) J2 (sX p0 z.1.length q0)).eC (p:=(Y w.1.size 1)) J2 (sX p1 z.2.length q1);have gg:w.grownBy ((w2.setCell (Y w.1.size 0) (sX p0 z.1.length q0)).setCell (Y w.1.size 1) (sX p1 z.2.length q1)) (a_ M):=by
   have k:=(ic w2 w.1.size 0 (sX p0 z.1.length q0)).trans (ic _ w.1.size 1 (sX p1 z.2.length q1));exact⟨k.os.trans g2.os,k.tape.trans g2.tape,k.output.trans g2.output,jT g2.size k.size,λb hl hn=>(k.block b (jL hl g2.size) J2).trans (g2.block b hl hn)⟩
  have OO:=zH o2;have JM:=zH jm;have GG:=zH gg;have M0:=zH m0;have M1:=zH m1;have rI:=zH jw;refine ts 5 ((w2.setCell (Y w.1.size 0) (sX p0 z.1.length q0)).setCell (Y w.1.size 1) (sX p1 z.2.length q1)) rfl rfl rfl JQ ⟨j0.cf.1 0,j1.cf.1 0,j1.cf.1 1,j2.cf.1 0⟩ ?_;refine te ?_;go_simp;go_wp2;refine eJ (by simp[results,results32,go_sem,ET];try rfl) rfl ?_;have m0:=M0.o;have m1:=M1.o;have j8:w.1.size<=w1.1.size:=B1.size;exact⟨GG.o,rI.o,JM.o,_,_,rfl,(OO.o.1.kp eY).base j8,(OO.o.2.1.kp eY).base j8,OO.o.2.2⟩
end
end
def aa5(v:Va)(w:Wd):(Instr.typeAssert (.iface 74 v) 20 74 b_).run prog w=.ok (.tuple #[v,.bool b_]) w:=kF
def aax(w:Wd):(Instr.typeAssert .nilIface 20 74 b_).run prog w=.ok (.tuple #[.agg #[.int .i64 0,.int .i64 0],.bool d_]) w:=kF
def WN:(Array.replicate 15 undef:Array Va)=#[undef,undef,undef,undef,undef,undef,undef,undef,undef,undef,undef,undef,undef,undef,undef]:=rfl
def abk(p q:Nat)(k x:Int){v0 v1 v2 v3:Va}(DP:List PanicEntry)(w:Wd)(hp:Bx w p #[v0,v1] 30)(hq:Bx w q #[v2,v3] 74)(Ss:¬p=q):
  CallsD prog 57 #[.pointer (a_ ⟨p,0,c_⟩),.pointer (a_ ⟨q,0,c_⟩)] (.panicking (iI k x::DP)) w λe u' w' =>
   e=.returned (.tuple #[])/\u'=.panicking ({ v:=.iface 74 (.agg #[.int .i64 k,.int .i64 x]),recovered:=b_ }::DP)/\Gm p q q w w'/\Bx w' p #[.slice c_ 0 0,.slice c_ 0 0] 30/\Bx w' q #[.int .i64 k,.int .i64 x] 74:=by
 refine Iv func57 rfl λc₀ cs hu=>?_;apply wpS_seq
 apply Iu
 simp[wpOpsS,go_sem,recoverD,hu,ntmps57,Exit.thenS]
 refine It ?_;have Tu:=aa5;have qZ:=aax;rw[WN];simp
 obtain⟨c0,f0,l0⟩:=hp.all;obtain⟨c1,f1,l1⟩:=hq.all;go_wp2;generalize hW:w.alloc _=W0;have BW:Bl w W0.drew:=by subst hW;go_grown
 have r0:Bx W0.drew w.1.size #[.int .i64 k,.int .i64 x] 74:=by subst hW;exact Bx.eK rfl
 have uO:=hp.below BW;have Cg:=hq.below BW;have D5:=sizeOf30;have E6:=isAgg30;have z74:=sizeOf74;have a74:=isAgg74;refine fT (S:=λw'=>w'.cell? ⟨w.1.size,0,c_⟩=a_ (.int .i64 k)/\w'.cell? ⟨w.1.size,1,c_⟩=a_ (.int .i64 x)) kF ⟨r0.cf.1 0,r0.cf.1 1⟩ (λhS=>?_);refine tk 0 (.agg #[.slice c_ 0 0,.slice c_ 0 0]) rfl hS (λw h=>kF) ?_;refine tk 1 (.agg #[.int .i64 k,.int .i64 x]) rfl hS (λw h=>by obtain⟨h0,h1⟩:=h;go_simp) ?_;generalize W0.drew=W at *;have r1:=(r0.eC (p:=⟨p,0,c_⟩) J2 (.slice c_ 0 0)).eC (p:=⟨p,1,c_⟩) J2 (.slice c_ 0 0);have q1:=(Cg.eC (p:=⟨p,0,c_⟩) J2 (.slice c_ 0 0)).eC (p:=⟨p,1,c_⟩) J2 (.slice c_ 0 0);have p1:=(uO.set 0 (.slice c_ 0 0)).set 1 (.slice c_ 0 0);have g1:=(ic W p 0 (.slice c_ 0 0)).trans (ic _ p 1 (.slice c_ 0 0));obtain⟨c0,f0,l0'⟩:=uO.all;refine ts 2 ((W.setCell ⟨p,0,c_⟩ (.slice c_ 0 0)).setCell ⟨p,1,c_⟩ (.slice c_ 0 0)) rfl rfl rfl JQ ⟨r1.cf.1 0,r1.cf.1 1⟩ ?_;generalize hW1:ez (ez W _ _) _ _=W1 at *;have r2:=(r1.eC (p:=⟨q,0,c_⟩) J2 (.int .i64 k)).eC (p:=⟨q,1,c_⟩) J2 (.int .i64 x);have p2:=(p1.eC (p:=⟨q,0,c_⟩) J2 (.int .i64 k)).eC (p:=⟨q,1,c_⟩) J2 (.int .i64 x);have q2:=(q1.set 0 (.int .i64 k)).set 1 (.int .i64 x);have g2:=(ic W1 q 0 (.int .i64 k)).trans (ic _ q 1 (.int .i64 x));obtain⟨c0,f0,l0'⟩:=q1.all;refine ts 3 ((W1.setCell ⟨q,0,c_⟩ (.int .i64 k)).setCell ⟨q,1,c_⟩ (.int .i64 x)) rfl rfl rfl JQ ⟨r2.cf.1 0,r2.cf.1 1⟩ ?_;refine te ?_;have GM:Gm p q q w _:=((Gm.below ⟨rfl,rfl,rfl,jR _,λ_ _ _ _ _=>rfl⟩ BW).grown g1 (.inl rfl)).grown g2 (.inr (.inl rfl));show bodyPostS _ _ _ _ _ _ _ _ _;simp only[bodyPostS];refine⟨rfl,_,rfl,.tuple #[],by simp[results,results57],rfl,rfl,GM,p2,q2⟩
def ad2(p q:Addr)(w:Wd):
  CallsD prog 57 #[.pointer (a_ p),.pointer (a_ q)] .returning w λe u' w'=>e=.returned (.tuple #[])/\u'=.returning/\Bl w w':=by
 refine Iv func57 rfl λc₀ cs hu=>?_;apply wpS_seq
 apply Iu
 simp[wpOpsS,go_sem,recoverD,hu,ntmps57,Exit.thenS]
 refine It ?_;have Tu:=aa5;have qZ:=aax;rw[WN];simp
 go_wp2
 cases c₀
 have hB:Bl w (w.alloc (.cells #[.int .i64 0,.int .i64 0] 74)):=gG;simp_all[bodyPostS,results,results57]
def anY(M:Nat)(L:Lm)(w:Wd)(r:Pl.Rs)(e:Ending)(w':Wd):Prop:=w.grownBy w' (a_ M)/\ib L r.2/\∃u0 u1 k x s',e=.returned (.tuple #[.agg #[u0,u1],.agg #[.int .i64 k,.int .i64 x]])/\Bx w' M (gn L ⟨r.2.f,r.2.c,s'⟩ 0) 72/\match r.1 with
 |.ok a=>k=1/\x=0/\O2 w.1.size w' u0 u1 a
 |.error (k',x')=>k=k'/\x=x'/\u0=.slice c_ 0 0/\u1=.slice c_ 0 0
def ae2{M:Nat}{L:Lm}(f:Nat)(cap:Array Va)(r:Pl.Rs)(w:Wd)(hM:M<w.1.size)(sy:∀w,(callFunc f cap).run prog w=.ok (.enter f cap) w)
  (hk:∀W,Bl w W->Cp f cap W (xI (λw'=>W.grownBy w' (a_ M)) M L W r)) :
  Cp 31 #[.func (.func f) #[] cap] w (anY M L w r):=by
 have jv:∀(fn:Fn)(first cap:Array Va) (w:Wd),(Instr.makeFunc fn first cap).run prog w=.ok (.func fn first cap) w:=λ_ _ _ _=>rfl;have HK:=zH (hk ((w.alloc (.cells #[.slice c_ 0 0,.slice c_ 0 0] 30)).alloc (.cells #[.int .i64 0,.int .i64 0] 74)) gG);have BW:Hid (Bl w ((w.alloc (.cells #[.slice c_ 0 0,.slice c_ 0 0] 30)).alloc (.cells #[.int .i64 0,.int .i64 0] 74))):=(show Bl w _ from by go_grown);have r0:Hid (Bx ((w.alloc (.cells #[.slice c_ 0 0,.slice c_ 0 0] 30)).alloc (.cells #[.int .i64 0,.int .i64 0] 74)) w.1.size #[.slice c_ 0 0,.slice c_ 0 0] 30):=Bx.al (.eK rfl) _;have r1:Hid (Bx ((w.alloc (.cells #[.slice c_ 0 0,.slice c_ 0 0] 30)).alloc (.cells #[.int .i64 0,.int .i64 0] 74)) (w.1.size+1) #[.int .i64 0,.int .i64 0] 74):=Bx.eK sI;go_enter_defers func31,ntmps31
 go_wp2_with fail;generalize ew (ew w _) _=W at *;refine HK.o.mono ?_;rintro e w1 ⟨g,hm,h⟩;have gs:=g.size;have k0:=r0.o.eX (g.block _ r0.o.lt J2);have k1:=r1.o.eX (g.block _ r1.o.lt J2);have lW:=r1.o.lt;have g0:w.grownBy w1 (a_ M):=(iU BW.o:w.grownBy W (a_ M)).trans g;obtain⟨q,m3⟩:=r
 cases q with
 |error q =>
  obtain⟨rfl,s',bm⟩:=h;refine Ba (f:=57) (args:=#[.pointer (a_ ⟨w.1.size,0,c_⟩),.pointer (a_ ⟨w.1.size+1,0,c_⟩)]) sI J5 ?_;refine(abk w.1.size (w.1.size+1) q.1 q.2 [] _ k0 k1 oM).mono ?_;rintro e u' zL ⟨rfl,rfl,gm,j0,j1⟩;obtain⟨c0,f0,l0⟩:=j0.all;obtain⟨c1,f1,l1⟩:=j1.all;refine⟨.tuple #[.agg #[.slice c_ 0 0,.slice c_ 0 0],.agg #[.int .i64 q.1,.int .i64 q.2]],by simp[results,results31,go_sem,c0,c1];try rfl,?_,hm,_,_,_,_,s',rfl,bm.eX (gm.block _ oM oM oM oM),rfl,rfl,rfl,rfl⟩;exact⟨gm.os.trans g0.os,gm.tape.trans g0.tape,gm.output.trans g0.output,jT g0.size gm.size,λb hl hn=>(gm.block b oM oM oM oM).trans (g0.block b hl hn)⟩
 |ok a =>
  obtain⟨bm,u0,u1,rfl,o2⟩:=h;obtain⟨p0,q0,rfl⟩:=o2.1.form;obtain⟨p1,q1,rfl⟩:=o2.2.1.form;have OO:=zH o2;have M0:=zH (o2.1.ne k0 dC);have M1:=zH (o2.2.1.ne k0 dC);have N0:=zH (o2.1.ne k1 dC);have N1:=zH (o2.2.1.ne k1 dC);have BM:=zH bm;have G0:=zH g0;obtain⟨c0,f0,l0⟩:=k0.all;obtain⟨c1,f1,l1⟩:=k1.all;have J0:=zH ((((k0.set 0 (.slice p0 a.1.length q0)).set 1 (.slice p1 a.2.length q1)).eC (p:=⟨w.1.size+1,0,c_⟩) sI (.int .i64 1)).eC (p:=⟨w.1.size+1,1,c_⟩) sI (.int .i64 0));have J1:=zH ((((k1.eC (p:=⟨w.1.size,0,c_⟩) sI (.slice p0 a.1.length q0)).eC (p:=⟨w.1.size,1,c_⟩) sI (.slice p1 a.2.length q1)).set 0 (.int .i64 1)).set 1 (.int .i64 0));have JM:=zH ((((bm.eC (p:=⟨w.1.size,0,c_⟩) J2 (.slice p0 a.1.length q0)).eC (p:=⟨w.1.size,1,c_⟩) J2 (.slice p1 a.2.length q1)).eC (p:=⟨w.1.size+1,0,c_⟩) J2 (.int .i64 1)).eC (p:=⟨w.1.size+1,1,c_⟩) J2 (.int .i64 0));have m0:=M0.o;have m1:=M1.o;have n0:=N0.o;have n1:=N1.o;have O0:=zH ((((o2.1.kp (w':=w1.setCell ⟨w.1.size,0,c_⟩ (.slice p0 a.1.length q0)) eY).kp (w':=(w1.setCell ⟨w.1.size,0,c_⟩ (.slice p0 a.1.length q0)).setCell ⟨w.1.size,1,c_⟩ (.slice p1 a.2.length q1)) eY)));have O1:=zH ((((o2.2.1.kp (w':=w1.setCell ⟨w.1.size,0,c_⟩ (.slice p0 a.1.length q0)) eY).kp (w':=(w1.setCell ⟨w.1.size,0,c_⟩ (.slice p0 a.1.length q0)).setCell ⟨w.1.size,1,c_⟩ (.slice p1 a.2.length q1)) eY)));have P0:Hid (Oi W.1.size ((((w1.setCell ⟨w.1.size,0,c_⟩ (.slice p0 a.1.length q0)).setCell ⟨w.1.size,1,c_⟩ (.slice p1 a.2.length q1)).setCell ⟨w.1.size+1,0,c_⟩ (.int .i64 1)).setCell ⟨w.1.size+1,1,c_⟩ (.int .i64 0)) (.slice p0 a.1.length q0) a.1):=O0.o.kp eY;have P1:Hid (Oi W.1.size ((((w1.setCell ⟨w.1.size,0,c_⟩ (.slice p0 a.1.length q0)).setCell ⟨w.1.size,1,c_⟩ (.slice p1 a.2.length q1)).setCell ⟨w.1.size+1,0,c_⟩ (.int .i64 1)).setCell ⟨w.1.size+1,1,c_⟩ (.int .i64 0)) (.slice p1 a.2.length q1) a.2):=O1.o.kp eY;have GG:Hid (w.grownBy ((((w1.setCell ⟨w.1.size,0,c_⟩ (.slice p0 a.1.length q0)).setCell ⟨w.1.size,1,c_⟩ (.slice p1 a.2.length q1)).setCell ⟨w.1.size+1,0,c_⟩ (.int .i64 1)).setCell ⟨w.1.size+1,1,c_⟩ (.int .i64 0)) (a_ M)):=by
   have k:=(ic w1 w.1.size 0 (.slice p0 a.1.length q0)).trans (ic _ w.1.size 1 (.slice p1 a.2.length q1));have k2:=(ic ((w1.setCell ⟨w.1.size,0,c_⟩ (.slice p0 a.1.length q0)).setCell ⟨w.1.size,1,c_⟩ (.slice p1 a.2.length q1)) (w.1.size+1) 0 (.int .i64 1)).trans (ic _ (w.1.size+1) 1 (.int .i64 0));exact⟨k2.os.trans (k.os.trans g0.os),k2.tape.trans (k.tape.trans g0.tape),k2.output.trans (k.output.trans g0.output),jT g0.size (jT k.size k2.size),λb hl hn=>(k2.block b (by have:=k.size;(first|omega|(simp only[Y] at this;omega)|(simp at this ⊢;omega)|(simp;omega))) J2).trans ((k.block b oM J2).trans (g0.block b hl hn))⟩
  have LW:Hid (w.1.size<=W.1.size):=(by show _<=_;omega);go_wp2_with fail;refine Ba (f:=57) (args:=#[.pointer (a_ ⟨w.1.size,0,c_⟩),.pointer (a_ ⟨w.1.size+1,0,c_⟩)]) sI J5 ?_;refine(ad2 _ _ _).mono ?_;rintro e u' zL ⟨rfl,rfl,hb⟩;have j0:=J0.o.below hb;have j1:=J1.o.below hb;have⟨d0,h0,k0⟩:=j0.all;obtain⟨d1,h1,k1⟩:=j1.all;refine⟨.tuple #[.agg #[.slice p0 a.1.length q0,.slice p1 a.2.length q1],.agg #[.int .i64 1,.int .i64 0]],by simp[results,results31,go_sem,d0,d1];try rfl,GG.o.trans (iU hb),hm,_,_,_,_,m3.s,rfl,JM.o.below hb,rfl,rfl,?_⟩;exact⟨(P0.o.kp (.of hb)).base LW.o,(P1.o.kp (.of hb)).base LW.o,OO.o.2.2⟩
def mA(L:Lm):Bool:=decide (0<=L.f/\L.f<=100000/\0<=L.c/\L.c<=100000/\1<=L.s/\L.s<=2147483646)
def aha(L:Lm)(w:Wd):Cp 22 #[jO L] w (rC (.bool (mA L)) w):=by
 obtain⟨f,c,r,s⟩:=L;have⟨b,HB⟩:∃b,Hid (b=mA ⟨f,c,r,s⟩):=⟨_,rfl⟩;rw[<- HB.o];go_enter func22,ntmps22;exact Δ
def Uz(a:Int)(w:Wd):Cp 52 #[I a] w λe w'=>e=rT (.bool (decide (0<=a/\a<=100000)))/\w'=w:=by
 have⟨b,HB⟩:∃b,Hid (b=decide (0<=a/\a<=100000)):=⟨_,rfl⟩;rw[<- HB.o];go_enter func52,ntmps52;go_wp2
 all_goals
  go_returns
  rw[HB.o];simp at *
  try omega
def ahR(L:Lm)(w:Wd):Cp 28 #[jO L] w (rC (.bool (mA L)) w):=by
 obtain⟨f,c,r,s⟩:=L;have⟨b,HB⟩:∃b,Hid (b=mA ⟨f,c,r,s⟩):=⟨_,rfl⟩;rw[<- HB.o];have K1:=zH (Uz f);have K2:=zH (Uz c);go_enter func28,ntmps28;exact Δ
section
namespace Pl
structure Oc where
 k:Int
 x:Int
 a:Ar
 f:Int
 c:Int
def r9(r:Rs):Oc:=match r with
 |(.ok a,m)=>⟨1,0,a,m.f,m.c⟩
 |(.error (k,x),m)=>⟨k,x,([],[]),m.f,m.c⟩
def oc(b:Bool)(r:Rs):Oc:=if b then r9 r else ⟨0,0,([],[]),0,0⟩
end Pl
abbrev nF(o:Oc)(u0 u1:Va):Va:=.agg #[I o.k,I o.x,u0,u1,I o.f,I o.c]
def IZ(w:Wd)(o:Oc)(e:Ending)(w':Wd):Prop:=Below w.1.size w w'/\∃u0 u1,e=rT (nF o u0 u1)/\O2 w.1.size w' u0 u1 o.a
abbrev Fz(f:Nat)(a:Va)(w:Wd)(b:Bool):Prop:=∀W,Below w.1.size w W->Cp f #[a] W λe w'=>Below W.1.size W w'/\e=rT (.bool b)
def MJ(w:Wd)(ap:oA)(n cp:Nat)(x0:oA)(m0 y0:Nat)(x1:oA)(m1 y1:Nat)(L:Lm)(W:Wd):Prop:=Bx W w.1.size #[sX ap n cp] 34/\Bx W (w.1.size+1) #[sX x0 m0 y0,sX x1 m1 y1] 30/\Bx W (w.1.size+2) #[I L.f,I L.c,.bool L.r,I L.s] 37/\Bx W (w.1.size+3) #[I 0,I 0,nJ,nJ,I 0,I 0] 32
section
variable {K:Ks} {w:Wd} {L:Pl.Lm}
def MJ.below{ap:oA}{n cp:Nat}{x0:oA}{m0 y0:Nat}{x1:oA}{m1 y1:Nat}{W W':Wd}(h:MJ w ap n cp x0 m0 y0 x1 m1 y1 L W)(k:Bl W W'):MJ w ap n cp x0 m0 y0 x1 m1 y1 L W':=⟨h.1.below k,h.2.1.below k,h.2.2.1.below k,h.2.2.2.below k⟩
def acU(H:KI K)(O:KO K)(v0 v1:Va)(a:Ar)(h:RA (λb=>b<w.1.size) w v0 v1 a)(p:List Pl.Tv)(ap:oA)(cp:Nat)(hx:XP w.1.size w ap p)
  (ba bp:Bool) (CA:Fz 29 (.agg #[v0,v1]) w ba) (CP:Fz 30 (sX ap p.length cp) w bp) (ha:ba=b_->K.ok a) (hp:bp=b_->(∀s∈p,TI s)/\p.length<=1048576) :
  Cp 10 #[sX ap p.length cp,.agg #[v0,v1],jO L] w (IZ w (Pl.oc (mA L && ba && bp) (Pl.rn K.k1 K.k2 L p a))):=by
 obtain⟨⟨x0,y0,rfl⟩,x1,y1,rfl⟩:=h.eS;have KR:Hid (mA L=b_->ba=b_->bp=b_->∀W M bm,w.1.size<=M->w.1.size<=bm->¬bm=M->¬w.1.size=M->¬w.1.size+1=M->Bl w W->Bx W M (gn L ⟨0,0,L.s⟩ 0) 72->Bx W bm #[pT M] 70->Bx W (w.1.size+1) #[sX x0 a.1.length y0,sX x1 a.2.length y1] 30->Bx W w.1.size #[sX ap p.length cp] 34 ->
   Cp 32 #[pT bm,pT (w.1.size+1),pT w.1.size] W (xI (λw'=>W.grownBy w' (a_ M)) M L W (Pl.rn K.k1 K.k2 L p a))):=λh1 h2 h3 W M bm hM oU n1 n2 n3 kb b0 b1 b2 b3=>by
  have hl:0<=L.f/\L.f<=100000/\0<=L.c/\L.c<=100000/\1<=L.s/\L.s<=2147483646:=rS h1;exact afP (B:=w.1.size) H O ⟨hl.2.1,hl.2.2.2.1⟩ bm _ _ _ _ a ⟨h.kp (.of kb),ha h2⟩ hM p (hp h3).1 (hp h3).2 ap cp (XP.eG hx kb) b0 ⟨sI,hl.1,sI,hl.2.2.1,by simp;omega,by simp;omega⟩ ⟨oU,oM,oM⟩ ⟨n1,n3,n2⟩ b1 b2 b3
 have KL:Hid (∀W,Cp 28 #[jO L] W (rC (.bool (mA L)) W)):=λW=>ahR L W;have KA:=zH CA;have KP:=zH CP;generalize Pl.rn K.k1 K.k2 L p a=r at KR ⊢;obtain⟨o,HO⟩:∃o,Hid (o=Pl.oc (mA L && ba && bp) r):=⟨_,rfl⟩;rw[<- HO.o];generalize a.1.length=m0,a.2.length=m1,p.length=n at *;go_enter func10,ntmps10;go_wp2_with fail;have HB:Hid (Bl w ((((w.alloc (.cells #[sX ap n cp] 34)).alloc (.cells #[sX x0 m0 y0,sX x1 m1 y1] 30)).alloc (.cells #[I L.f,I L.c,.bool L.r,I L.s] 37)).alloc (.cells #[I 0,I 0,nJ,nJ,I 0,I 0] 32))):=(show Bl w _ from by go_grown);have HS:Hid (MJ w ap n cp x0 m0 y0 x1 m1 y1 L ((((w.alloc (.cells #[sX ap n cp] 34)).alloc (.cells #[sX x0 m0 y0,sX x1 m1 y1] 30)).alloc (.cells #[I L.f,I L.c,.bool L.r,I L.s] 37)).alloc (.cells #[I 0,I 0,nJ,nJ,I 0,I 0] 32))):=⟨.al (.al (.al (.eK sI) _) _) _,.al (.al (.eK sI) _) _,.al (.eK sI) _,.eK sI⟩;generalize ew (ew (ew (ew w _) _) _) _=W0 at *;refine(KL.o W0).l λw1 hb=>?_;replace HS:=zH (HS.o.below hb);replace HB:=zH (bv hb HB.o)
 cases hb1:mA L with
 |false =>
  exact Qz
 |true =>
  obtain⟨c3,f3,l3⟩:=HS.o.2.1.all;go_wp2_with fail;refine(KA.o w1 HB.o).l λw2 hb=>?_;replace HS:=zH (HS.o.below hb);replace HB:=zH (bv hb HB.o)
  cases ba with
  |false =>
   exact Qz
  |true =>
   obtain⟨c3,f3,l3⟩:=HS.o.1.all;go_wp2_with fail;refine(KP.o w2 HB.o).l λw3 hb=>?_;replace HS:=zH (HS.o.below hb);replace HB:=zH (bv hb HB.o)
   cases bp with
   |false =>
    exact Qz
   |true =>
    obtain⟨c3,f3,l3⟩:=HS.o.2.2.1.all;have jv:∀(fn:Fn)(first cap:aV) (w:Wd),(Instr.makeFunc fn first cap).run prog w=.ok (.func fn first cap) w:=λ_ _ _ _=>rfl;go_wp2_with fail;have l4:=HS.o.2.2.2.lt;have RR:=KR.o hb1 sI sI;generalize hW:ew (ew w3 _) _=W;have HW:Bl w3 W:=by subst hW;go_grown
    have bM:Bx W w3.1.size (gn L ⟨0,0,L.s⟩ 0) 72:=by subst hW;exact .al (.eK rfl) _
    have bB:Bx W (w3.1.size+1) #[pT w3.1.size] 70:=by subst hW;exact .eK sI
    have hs:=HS.o.below HW;have kW:=bv HW HB.o;have tB:=HB.o.size;have lM:=bB.lt;refine(ae2 (M:=w3.1.size) (L:=L) 32 _ r W oM (λ_=>rfl) (λW' kb=>RR W' w3.1.size (w3.1.size+1) tB oM oM oM oM (bv kb kW) (bM.below kb) (bB.below kb) (hs.2.1.below kb) (hs.1.below kb))).mono ?_;rintro e w4 ⟨g,hm,u0,u1,k,x,s',rfl,bm,hq⟩;have gs:=g.size;have HQ:Hid (⟨k,x,r.2.f,r.2.c⟩=((r9 r).k,(r9 r).x,(r9 r).f,(r9 r).c)/\O2 W.1.size w4 u0 u1 (r9 r).a):=by
     obtain⟨q,m⟩:=r
     cases q with
     |ok a=>obtain⟨rfl,rfl,o⟩:=hq;exact⟨rfl,o⟩
     |error q=>obtain⟨rfl,rfl,rfl,rfl⟩:=hq;exact⟨rfl,Oi.nil _,Oi.nil _,λb e=>by cases e⟩
    have⟨p0,q0,e0⟩:=HQ.o.2.1.form;obtain⟨p1,q1,e1⟩:=HQ.o.2.2.1.form;have k3:=hs.2.2.2.eX (g.block _ hs.2.2.2.lt J2);have kB:=bB.eX (g.block _ bB.lt sI);have K3:=zH k3;have KB:=zH kB;have KM:=zH bm;have G4:Hid (Bl w w4):=⟨g.os.trans kW.os,g.tape.trans kW.tape,g.output.trans kW.output,jT kW.size g.size,λb hb=>(g.block b (jL hb kW.size) J2).trans (kW.block b hb)⟩;have SW:Hid (w.1.size<=W.1.size/\W.1.size<=w4.1.size/\w.1.size+3<W.1.size):=⟨kW.size,gs,hs.2.2.2.lt⟩;generalize hn0:(r9 r).a.1.length=n0 at *;generalize hn1:(r9 r).a.2.length=n1 at *;subst e0 e1;generalize r.2.f=f',r.2.c=c' at *;have d3:=kW.size;have d4:=SW.o.2.2;have lX:=l3;have D5:=sizeOf30;have E6:=isAgg30;have z74:=sizeOf74;have a74:=isAgg74;go_wp2_with fail;have q0':=zH (HQ.o.2.1.ne K3.o dC);have q1':=zH (HQ.o.2.2.1.ne K3.o dC);generalize Cq:ew (ew w4 _) _=W4;have wL:Bl w4 W4.drew:=by subst Cq;go_grown
    have bX:Bx W4.drew w4.1.size #[sX p0 n0 q0,sX p1 n1 q1] 30:=by subst Cq;exact .al (.eK rfl) _
    have bY:Bx W4.drew (w4.1.size+1) #[I k,I x] 74:=by subst Cq;exact .eK sI
    have j3:=K3.o.below wL;have jB:=KB.o.below wL;have jM:=KM.o.below wL;have z32:=sizeOf32;have a32:=isAgg32;refine fT (S:=λw'=>cL w' (w4.1.size+1) 0 (I k)/\cL w' (w4.1.size+1) 1 (I x)/\cL w' w4.1.size 0 (sX p0 n0 q0)/\cL w' w4.1.size 1 (sX p1 n1 q1)/\cL w' (w3.1.size+1) 0 (pT w3.1.size)/\cL w' w3.1.size 4 (I f')/\cL w' w3.1.size 5 (I c')) kF ⟨bY.cf.1 0,bY.cf.1 1,bX.cf.1 0,bX.cf.1 1,jB.cf.1 0,jM.cf.1 4,jM.cf.1 5⟩ (λhS=>?_);refine tk 0 (pT (w4.1.size+1)) rfl hS (λ_ _=>kF) ?_;refine tk 1 (I k) rfl hS (λw h=>by obtain⟨h0,h1,h2,h3,h4,h5,h6⟩:=h;go_simp) ?_;refine tk 2 (.pointer (sY (w4.1.size+1) 1)) rfl hS (λ_ _=>kF) ?_;refine tk 3 (I x) rfl hS (λw h=>by obtain⟨h0,h1,h2,h3,h4,h5,h6⟩:=h;go_simp) ?_;refine tk 4 (.agg #[sX p0 n0 q0,sX p1 n1 q1]) rfl hS (λw h=>by obtain⟨h0,h1,h2,h3,h4,h5,h6⟩:=h;go_simp) ?_;refine tk 5 (pT w3.1.size) rfl hS (λw h=>by obtain⟨h0,h1,h2,h3,h4,h5,h6⟩:=h;go_simp) ?_;refine tk 6 (pT w3.1.size) rfl hS (λ_ _=>kF) ?_;refine tk 7 (.pointer (sY w3.1.size 4)) rfl hS (λ_ _=>kF) ?_;refine tk 8 (I f') rfl hS (λw h=>by obtain⟨h0,h1,h2,h3,h4,h5,h6⟩:=h;go_simp) ?_;refine tk 9 (pT w3.1.size) rfl hS (λw h=>by obtain⟨h0,h1,h2,h3,h4,h5,h6⟩:=h;go_simp) ?_;refine tk 10 (pT w3.1.size) rfl hS (λ_ _=>kF) ?_;refine tk 11 (.pointer (sY w3.1.size 5)) rfl hS (λ_ _=>kF) ?_;refine tk 12 (I c') rfl hS (λw h=>by obtain⟨h0,h1,h2,h3,h4,h5,h6⟩:=h;go_simp) ?_;refine tk 13 (.agg #[I k,I x,sX p0 n0 q0,sX p1 n1 q1,I f',I c']) rfl hS (λ_ _=>kF) ?_;generalize W4.drew=W5 at *;have⟨d3',f3',l3'⟩:=j3.all;have nn:∀(b:Nat) {cs:aV} {t:TypeId},¬b=w.1.size+3->Bx W5 b cs t->Bx ((((((W5.setCell (Y (w.1.size+3) 0) (I k)).setCell (Y (w.1.size+3) 1) (I x)).setCell (Y (w.1.size+3) 2) (sX p0 n0 q0)).setCell (Y (w.1.size+3) 3) (sX p1 n1 q1)).setCell (Y (w.1.size+3) 4) (I f')).setCell (Y (w.1.size+3) 5) (I c')) b cs t:=λb cs t hb hx=>(((((hx.eC JS _).eC JS _).eC JS _).eC JS _).eC JS _).eC JS _;have iX:=nn _ oM bX;have iY:=nn _ oM bY;have iB:=nn _ oM jB;have iM:=nn _ oM jM;refine ts 14 ((((((W5.setCell (Y (w.1.size+3) 0) (I k)).setCell (Y (w.1.size+3) 1) (I x)).setCell (Y (w.1.size+3) 2) (sX p0 n0 q0)).setCell (Y (w.1.size+3) 3) (sX p1 n1 q1)).setCell (Y (w.1.size+3) 4) (I f')).setCell (Y (w.1.size+3) 5) (I c')) rfl rfl rfl JQ ⟨iY.cf.1 0,iY.cf.1 1,iX.cf.1 0,iX.cf.1 1,iB.cf.1 0,iM.cf.1 4,iM.cf.1 5⟩ ?_;refine te ?_;go_simp;go_wp2;refine eJ (by simp[results,results10,go_sem,d3'];try rfl) rfl ?_;have e0:o=r9 r:=by rw[HO.o];simp[Pl.oc,hb1]
    have⟨oB,ho⟩:=HQ.o;simp only[kH] at oB;obtain⟨rfl,rfl,rfl,rfl⟩:=oB;subst e0;have Lc:=bv wL G4.o;have m0':=q0'.o;have m1':=q1'.o;have o0:=(ho.1.kp (.of wL)).base d3;have o1:=(ho.2.1.kp (.of wL)).base d3;exact⟨gG,_,_,rfl,o0.kp eY,o1.kp eY,ho.2.2⟩
end
end
section
section
variable {P:nK} {w:Wd}
def ajq.Ye(h:ρ:=by
 clear hb o5 K5 c0 z0;go_wp2;refine eJ (by simp[results,results263,go_sem,c5];try rfl) rfl ?_;exact KP.put V5.o.2.2.2 V5.o.2.2.1 (jR _) V5.o.1 V5.o.2.1 oM _ _
 ):ρ:=h
def amJ.lH(h:ρ:=by
 have⟨r,HR⟩:∃r,Hid (r=Pl.td a b):=⟨_,rfl⟩;rw[<- HR.o];unfold Pl.td at HR;have la:=(Pl.ok_eq ha).2.2.2.1;have ma:=(Pl.ok_eq ha).2.2.2.2;have mb:=(Pl.ok_eq hb).2.2.2.2;clear h h' ha hb;obtain⟨sa,da⟩:=a;obtain⟨sb,db⟩:=b;simp only at H H' la ma mb HR ⊢;have⟨p0,E0⟩:=jN (sa.length);obtain⟨p1,E1⟩:=jN (da.length);have⟨p3,E3⟩:=jN (db.length);generalize sb.length=p2 at *;rw[E0.o,E1.o] at H HR;rw[E0.o] at la;rw[E1.o] at ma;rw[E3.o] at H' mb HR;rw[E0.o,E1.o,E3.o];by_cases h1:1<p0
 ·have hr:r=.error 2:=by rw[HR.o,eD h1]
  subst hr;have d1:decide (1<(p0:Int))=b_:=fM oM;go_enter func263,ntmps263;exact O'
 rw[eB h1] at HR;have d1:decide (1<(p0:Int))=d_:=fH oM;clear h1;by_cases h2:3<p1
 ·have hr:r=.error 6:=by rw[HR.o,eD h2]
  subst hr;have d2:decide (3<(p1:Int))=b_:=fM oM;go_enter func263,ntmps263;go_wp2_with fail;refine(iV _ _).mono ?_;rintro e w' ⟨rfl,rfl⟩;go_wp2_with fail;refine(kY _ _).mono ?_;rintro e w' ⟨rfl,rfl⟩;exact⟨rfl,KP.err gG⟩
 rw[eB h2] at HR;have d2:decide (3<(p1:Int))=d_:=fH oM;have h3:p1<=3:=oM;clear h2;go_enter func263,ntmps263;go_wp2_with (go_at_call 229;refine(iV _ _).mono ?_;rintro e w' ⟨rfl,rfl⟩)
 generalize hW:ew (ew (ew w _) _) _=W0;have V0:=mK hW;clear hW d1 d2;have JJ:Hid (∀W,Bl W0 W->Bx W w.1.size #[sX x0 p0 y0,sX x1 p1 y1] 30/\Bx W (w.1.size+1) #[sX x2 p2 y2,sX x3 p3 y3] 30/\Bx W (w.1.size+1+1) nN 30/\Bl w W/\W0.1.size=w.1.size+1+1+1):=λW kk=>⟨V0.o.1.below kk,V0.o.2.1.below kk,V0.o.2.2.1.below kk,bv kk V0.o.2.2.2.1,V0.o.2.2.2.2⟩;clear V0;go_loopw [6,22] (λ_ i wr=>∃k:Nat,k<=p1/\i=I (k:Int)/\wr=W0/\Hid ((da.take k).all (λx=>decide (0<=x))=b_)) (λ_ i _=>p1-(intOf i).toNat)
 case atStart=>exact⟨0,vZ _,rfl,rfl,rfl⟩
 case round =>
  obtain⟨k,hk,rfl,rfl,hA⟩:=hrel;by_cases fK:k=p1
  rotate_left 1
  ·have⟨z,hz⟩:=gF E1.o (show k<p1 by omega)
   obtain⟨S0,S1,S2,S3,-⟩:=JJ.o wr (jD _ _);obtain⟨b1,o1,rfl,hb1,gE⟩:=(H.o.2.rw.kp (.of S3)).at hz;have eI:(k:Int)<(p1:Int):=oM;have AS:=Pl.Db (λx=>decide (0<=x)) hz;by_cases iC:z<0
   ·have hr:r=.error 1:=by rw[HR.o,eD (Pl.Du hz J2)]
    subst hr;have d0:decide (z<0)=b_:=fM iC;go_wp2_with fail;refine(kY _ _).mono ?_;rintro e w' ⟨rfl,rfl⟩;exact⟨rfl,KP.err S3⟩
   have d0:decide (z<0)=d_:=fH iC;have A2:Hid ((da.take (k+1)).all (λx=>decide (0<=x))=b_):=by show _=_;rw[AS,hA.o];simp;omega
   clear AS hz S0 S1 S2 S3 iC;go_wp2_with fail;refine(iV _ _).mono ?_;rintro e wr ⟨rfl,rfl⟩;go_wp2;go_roundw
   case rel=>exact⟨k+1,oM,gN,trivial,A2⟩
   simp[intOf];omega
  subst fK;obtain⟨C,rfl⟩:∃C,C=wr:=⟨wr,rfl⟩;have lV:da.all (λx=>decide (0<=x))=b_:=by have:=hA.o;rwa [mR (by rw[E1.o];exact jR _)] at this
  rw[eB (by simp[lV])] at HR;obtain⟨S0,S1,S2,S3,-⟩:=JJ.o C (jD _ _);obtain⟨c0,f0,z0⟩:=S0.all;have RD:=zH (H.o.2.rw.kp (.of S3));have NF:=zH (yO (w:=C) _ da RD.o);clear f0 S0 S1 S2 hA lV
  cases hft:Pl.fy da
  ·rw[hft,eD rfl] at HR
   have hr:=HR.o;subst hr;rw[hft] at NF;go_wp2_with fail;refine NF.o.mono ?_;rintro e w' ⟨rfl,he⟩;obtain rfl:e=.panicked [lR 6]:=he;exact⟨rfl,KP.err S3⟩
  rw[hft,eB dC] at HR;have fe:=Pl.g_ hft;have⟨N,HN⟩:=jN (Pl.eQ da);have es:Pl.eR da=(N:Int):=by rw[<- HN.o];simp[Pl.eQ,kl fe.2.1]
  have hN:N<=1000:=by have:=fe.2.2.1;omega
  rw[HN.o] at HR;have KC:Hid (Cp 54 #[sX x1 k y1] C λe w'=>e=rT (I (N:Int))/\w'=C):=by
   have:=qJ _ RD.o fe.2.2.2.2.2;rw[es] at this;exact this
  have MK:=zH λW=>n8 W N oM;rw[hft] at NF;clear fe es hft;by_cases hbad:0<N/\db=[]
  ·rw[eD hbad] at HR
   have hr:=HR.o;subst hr;have sj:p3=0:=by rw[<- E3.o,hbad.2];rfl
   subst sj;have d3:decide (0<(N:Int))=b_:=fM oM;obtain⟨c1,f1,z1⟩:=(JJ.o C (jD _ _)).2.1.all;have hNi:(0:Int)<(N:Int):=oM;clear f1 hbad;go_wp2_with fail;refine NF.o.mono ?_;rintro e C ⟨rfl,he⟩;obtain rfl:e=rT (.tuple #[]):=he;go_wp2_with (first | (go_at_call 54;refine KC.o.mono ?_;rintro e C ⟨rfl,rfl⟩) | (rw[MK.o]))
   refine(kY _ _).mono ?_;rintro e w' ⟨rfl,rfl⟩;exact⟨rfl,KP.err (show Bl w _ from by have:=S3;go_grown)⟩
  rw[eB hbad] at HR;have hr:=HR.o;subst hr;have j9:(N=0)\/(0<N/\0<p3):=by
   rcases rR N with h|h
   ·exact .inl h
   refine .inr ⟨h,?_⟩;rcases rR p3 with h'|h'
   ·exact absurd ⟨h,lP.1 (by rw[E3.o];exact h')⟩ hbad
   exact h'
  obtain⟨c1,f1,z1⟩:=(JJ.o C (jD _ _)).2.1.all;clear f1 hbad HR;go_wp2_with fail;refine NF.o.mono ?_;rintro e C ⟨rfl,he⟩;obtain rfl:e=rT (.tuple #[]):=he;have d3:(N=0->decide (0<(N:Int))=d_)/\(0<N->decide (0<(N:Int))=b_):=⟨λe=>by subst e;rfl,λe=>fM oM⟩;have d4:0<p3->((p3:Int) == 0)=d_:=λh=>by rw[gR];omega
  have hg:∃W1,C.alloc (.cells (Zr [] N) 3)=W1:=⟨_,rfl⟩;rcases j9 with h0|⟨h0,h0'⟩
  all_goals
   first | (have e3:=d3.1 h0;clear d3 d4;replace h0:¬0<N:=by omega) | (have e3:=d3.2 h0;have e4:=d4 h0';clear d3 d4)
   go_wp2_with (first | (go_at_call 54;refine KC.o.mono ?_;rintro e C ⟨rfl,rfl⟩) | (rw[MK.o]))
   refine(iV _ _).mono ?_;rintro e w9 ⟨rfl,rfl⟩;obtain⟨W1,hW⟩:=hg;rw[hW];have V1:=jV hW;clear hW e3;have B1:Hid (Bl C W1):=V1.o.2.1;go_wp2_with fail;go_loopw [8,49] (λ_ i wq=>∃k:Nat,k<=N/\i=I (k:Int)/\Hid (Bl C wq)/\Hid (Bx wq C.1.size (Zr ((eA k).map λi=>db.getD (i % p3) 0) N) 3)) (λ_ i _=>N-(intOf i).toNat)
   case atStart=>exact⟨0,vZ _,rfl,B1,V1.o.1⟩
   obtain⟨q,hq,rfl,hB,hX⟩:=hrel;obtain⟨T0,T1,T2,T3,-⟩:=JJ.o wr hB.o;have hD:=hX.o.lt;have TL:Hid (((eA q).map λi=>db.getD (i % p3) 0).length=q):=by show _=_;simp
   by_cases oP:q=N
   ·subst oP
    have oD:=zH (sM hX.o (B:=w.1.size) oM oM TL.o);obtain⟨c0,f0,z0⟩:=T0.all;have HS:=zH (jA T2 T3);clear T0 T1 T2 T3 f0;go_wp2_with fail;refine(qg E1.o oM sI J5 (H.o.2.rw.kp (.of (bv (w:=w) gG HS.o.2)))).mono ?_;open ajq in exact Y8
   by_cases apR:0<N
   rotate_left
   ·exfalso;omega
   have hqI:(q:Int)<(N:Int):=oM;have sj:0<p3:=oM;have⟨c,hc⟩:∃c,q % p3=c:=⟨_,rfl⟩;have jy:c<p3:=by rw[<- hc];exact zv _ sj
   have ht1:(q:Int).tmod (p3:Int)=(c:Int):=by rw[zA oM,<- hc];simp
   have Sn:¬p3=0:=oM;have⟨z,gy⟩:=gF E3.o jy;have Cm:db.getD (q % p3) 0=z:=by rw[hc,ig,gy];rfl
   obtain⟨b3,o3,rfl,eV,pQ⟩:=(H'.o.2.rw.kp (.of T3)).at gy;have⟨v9,kN⟩:=sN (l:=(eA q).map λi=>db.getD (i % p3) 0) (n:=N) (i:=q) (by rw[TL.o];omega) oM;have jd:wr.cell? (Y C.1.size q)=a_ (I v9):=(hX.o.cf.1 q).trans kN;have fD:=hX.o.cf.2;have X3:Hid (Bx (wr.setCell (Y C.1.size q) (I z)) C.1.size (Zr ((eA (q+1)).map λi=>db.getD (i % p3) 0) N) 3):=by
    have e:=um (l:=(eA q).map λi=>db.getD (i % p3) 0) (n:=N) (by rw[TL.o];omega) z;rw[TL.o] at e;rw[uv,mP,oH,Cm,PU,<- e];exact hX.o.set q _
   have B3:Hid (Bl C (wr.setCell (Y C.1.size q) (I z))):=hB.o.setCell sI _;have apS:(c:Int)<(p3:Int):=oM;have nb3:¬b3=C.1.size:=by
    obtain⟨b',o',e,hb',-⟩:=H'.o.2.rw.at gy;injection e with e;injection e with e1 e2;have:=(JJ.o C (jD _ _)).2.2.2.2;omega
   obtain⟨c1,f1,z1⟩:=T1.all;have nb1:¬w.1.size+1=C.1.size:=oM;clear T0 T1 T2 T3 kN hc gy Cm f1;go_wp2_with fail;go_region
   all_goals
    go_wp2;go_roundw
    case rel=>exact⟨q+1,by omega,by go_num,(show Below _ _ _ from by have:=B3.o;go_grown),X3.o⟩
    simp[intOf];omega
 ):ρ:=h
def acH(v0 v1 v2 v3:Va)(a b:Ar)(h:RA P w v0 v1 a)(h':RA P w v2 v3 b)(ha:Pl.okB a=b_)(hb:Pl.okB b=b_):Cp 263 #[.agg #[v0,v1],.agg #[v2,v3]] w (KP w (Pl.td a b)):=by
 have H:=zH h;have H':=zH h';open amJ in exact lO
end
end
variable {X:Prop}{Q:nK}{W:Wd}{D N n k s th l5 y5:Nat}{x5:oA}{db:lI}
def VV (h:X:=by
 obtain⟨S0,S1,S2,S3,S4,S5,S6,-⟩:=J.o w7 B7.o;have oD:=zH (y_ (B:=w.1.size) X7.o oM (show N<=1048576 by omega) (by
  have hlen:dd.length=k * s:=by
   rw[sF.o,Pl.ub (s:=s) λd hd=>by
    simp only[Pl.gq,mu] at hd;obtain⟨u,hu,rfl⟩:=hd;rw[<- HS.o];exact Pl.Gc (by rw[HS.o];exact HL.o) _]
   simp[Pl.gq]
  rw[hlen];exact HN.o))
 obtain⟨c5,f5,z5⟩:=S2.all;have Am:=zH (jA S2 (jA S3 S5));clear S0 S1 S2 S3 S4 S5;go_simp;go_wp2;refine eJ (by simp[results,results264,go_sem,c5];try rfl) rfl ?_;exact KP.put Am.o.2.2 oD.o (jR _) Am.o.1 Am.o.2.1 oM _ _):X:=h
def Vr (h:X:=by
 obtain⟨S0,S1,S2,S3,S4,S5,S6,-⟩:=J.o w7 B7.o;have oD:=zH (y_ (B:=w.1.size) X7.o oM (show N<=1048576 by omega) (by
  have hlen:dd.length=k * s:=by
   rw[sF.o,Pl.ub (s:=s) λd hd=>by
    simp only[Pl.gq,mu] at hd;obtain⟨u,hu,rfl⟩:=hd;rw[<- HS.o];exact Pl.Gc (by rw[HS.o];exact HL.o) _]
   simp[Pl.gq]
  rw[hlen];exact HN.o))
 obtain⟨c5,f5,z5⟩:=S2.all;have Am:=zH (jA S2 (jA S3 S5));clear S0 S1 S2 S3 S4 S5;go_wp2_with (refine iW rfl (D3 (.tmp 67) (.tmp 72) rfl rfl rfl C7.o) ?_)
 refine eJ (by simp[results,results264,go_sem,c5];try rfl) rfl ?_;exact KP.put Am.o.2.2 oD.o (jR _) Am.o.1 Am.o.2.1 oM _ _):X:=h
def ZS(Sd:min k n=th)(hN:k * s=N)(hl:db.length=n * s)(h5:Ri Q W (sX x5 l5 y5) db)(bd:Bx W D (Zr [] N) 3):
  ∃w',(Builtin.copy_ #[23,23] 3 #[sX (fU (sY D 0) ((k-th) * s) N) (k * s-(k-th) * s) (N-(k-th) * s),sX (fU x5 ((n-th) * s) y5) (n * s-(n-th) * s) (y5-(n-th) * s)]).run prog W=.ok (I ((th * s:Nat):Int)) w'/\Bx w' D (Zl (Pl.gq (n:Int) db s ((n:Int)-k) k).flatten) 3/\∀B w0,Below B w0 W->B<=D->Below B w0 w':=by
 rw[xH] at bd;have e5:n * s=l5:=by rw[<- hl];exact h5.rw.len
 have hc:=h5.cut (l:=(n-th) * s) (h:=n * s) (gv _ oM) oM;have e1:k * s-(k-th) * s=th * s:=by rw[<- DH];congr 1;omega
 have e2:n * s-(n-th) * s=th * s:=by rw[<- DH];congr 1;omega
 have e3:(k-th) * s+th * s=k * s:=by rw[<- Nat.add_mul];congr 1;omega
 have⟨w',hr,hx,hB⟩:=Hy 3 D ((k-th) * s) (k * s-(k-th) * s) (N-(k-th) * s) (n * s-(n-th) * s) (y5-(n-th) * s) (th * s) (fU (sY D 0) ((k-th) * s) N) (fU x5 ((n-th) * s) y5) _ _ bd hc.rw (by rw[e1,e2,A8]) (λhp=>by
  have:¬N=(k-th) * s:=oM;simp only[fU,eB this,vH,Addr.add,gY];split <;> simp_all) (by rw[vE];omega)
 refine⟨w',hr,?_,hB⟩;rw[Pl.afl hl k,Sd,hN];exact hx
def ZQ(Sd:min k n=th)(hN:k * s=N)(hl:db.length=n * s)(h5:Ri Q W (sX x5 l5 y5) db)(bd:Bx W D (Zr [] N) 3):
  ∃w',(Builtin.copy_ #[23,23] 3 #[sX (sY D 0) N N,sX (fU x5 (0 * s) y5) (th * s-0 * s) (y5-0 * s)]).run prog W=.ok (I ((th * s:Nat):Int)) w'/\Bx w' D (Zl (Pl.gq (n:Int) db s 0 k).flatten) 3/\∀B w0,Below B w0 W->B<=D->Below B w0 w':=by
 rw[xH] at bd;have e5:n * s=l5:=by rw[<- hl];exact h5.rw.len
 have hc:=h5.cut (l:=0 * s) (h:=th * s) sI Jh;have hle:th * s<=N:=by rw[<- hN];exact gv _ oM
 have⟨w',hr,hx,hB⟩:=Hy 3 D 0 N N (th * s-0 * s) (y5-0 * s) (th * s) (sY D 0) (fU x5 (0 * s) y5) _ _ bd hc.rw (by rw[py];omega) (λ_=>rfl) (by rw[vE];omega);refine⟨w',hr,?_,hB⟩;rw[Pl.afk hl k,Sd,hN];exact hx
section
variable {P:nK} {w:Wd}
def afm(v0 v1 v2 v3:Va)(a b:Ar)(h:RA P w v0 v1 a)(h':RA P w v2 v3 b)(ha:Pl.okB a=b_)(hb:Pl.okB b=b_):Cp 264 #[.agg #[v0,v1],.agg #[v2,v3]] w (KP w (Pl.take 2 a b)):=by
 have H:=zH h;obtain⟨⟨x0,y0,rfl⟩,x1,y1,rfl⟩:=h.eS;obtain⟨⟨x2,y2,rfl⟩,x3,y3,rfl⟩:=h'.eS;have SA:=zH λW (kb:Bl w W)=>wV _ _ a.1 (h.1.rw.kp (.of kb)) (rfl:Value.slice x1 a.2.length y1=_);have OB:=zH (Pl.vy hb);have KX:=zH λW (k:Bl w W)=>CZ _ _ b ((h'.mono (Q:=λb=>b<w.1.size) λb _ k=>k).kp (.of k)) (Pl.ok_eq hb).2.2.2.2;have⟨r,HR⟩:∃r,Hid (r=Pl.take 2 a b):=⟨_,rfl⟩;rw[<- HR.o];unfold Pl.take at HR;clear h h';by_cases h0:a.1=[]
 rotate_left
 ·have hr:r=.error 2:=by rw[HR.o,eD h0]
  subst hr;rw[fH h0] at SA;generalize a.1.length=p0,a.2.length=p1,b.1.length=p2,b.2.length=p3 at *;clear h0 H HR KX OB;go_enter func264,ntmps264;go_wp2_with fail;generalize hW:ew (ew (ew w _) _) _=W0;have V0:=mK hW;clear hW;refine(SA.o W0 V0.o.2.2.2.1).mono ?_;rintro e w1 ⟨rfl,hb⟩;have BW:=zH (bv hb V0.o.2.2.2.1);clear hb;go_wp2_with (go_at_call 229;refine(kY _ _).mono ?_;rintro e w' ⟨rfl,rfl⟩)
  exact⟨rfl,KP.err BW.o⟩
 have⟨x,hx,si,hv⟩:=Pl.ok_one ha h0;rw[eB (by simp[h0]),si] at HR;rw[fM h0] at SA;obtain⟨sa,da⟩:=a;obtain rfl:sa=[]:=h0;have xZ:=Pl.qh hv;have HV:=zH hv;have⟨q,HQ⟩:=jN (Pl.iw b);rw[HQ.o] at HR OB KX;obtain⟨sh,db⟩:=q;have⟨OK,m,row,e⟩:=OB.o;obtain rfl:sh=m::row:=e;have OK:=zH OK;obtain⟨n,rfl,hn,qD,-,hp,hl,eN⟩:=Pl.ke OK.o;have⟨s,HS⟩:=jN (Pl.eQ row);have es:Pl.eR row=(s:Int):=by rw[<- HS.o];simp[Pl.eQ,kl hp]
 have Li:=Pl.Wg qD eN;rw[es] at Li;rw[HS.o] at hl;have HL:=zH hl;obtain⟨k,hk⟩:∃k:Nat,x=k\/(x<0/\x=-(k:Int)):=⟨x.natAbs,oM⟩;have⟨dd,sF⟩:∃dd,Hid (dd=(Pl.gq (n:Int) db s (if x<0 then (n:Int)-k else 0) k).flatten):=⟨_,rfl⟩;have eP:Hid (r=if Pl.fy ((k:Int)::row)=b_ then .ok ((k:Int)::row,dd) else .error 6):=by
  have:=Pl.aed OK.o hk;rw[HS.o] at this;show _=_;rw[HR.o,sF.o];simp only[eD];exact this
 simp only at H hx SA;simp only[iA] at H SA ⊢;obtain⟨p1,E1⟩:=jN (da.length);rw[E1.o] at H SA ⊢;generalize b.1.length=p2,b.2.length=p3 at *;obtain⟨b1,o1,rfl,hb1,gE⟩:=H.o.2.rw.at hx;rw[iz] at gE;have rp:0<p1:=by have:=(gQ.1 hx).1;have:=E1.o;omega
 have aoS:(0:Int)<(p1:Int):=oM;have KA:Hid (∀W,Cp 232 #[I x] W λe w'=>w'=W/\e=rT (I (k:Int))):=λW=>by
  have:=Nr x HV.o 2 oM oM W;rw[show Pl.one (2:Nat) x=.ok (max x (-x)) from rfl,show max x (-x)=(k:Int) by omega] at this;exact this
 have hkb:(k:Int)<=3000000000:=oM;clear hx si hv HQ ha hb OB HR hp hl;go_enter func264,ntmps264;go_wp2_with fail;generalize hW:ew (ew (ew w _) _) _=W0;have V0:=mK hW;clear hW;refine(SA.o W0 V0.o.2.2.2.1).mono ?_;rintro e w1 ⟨rfl,hb⟩;have V1:=zH (jA (V0.o.1.below hb) (jA (V0.o.2.1.below hb) (jA (V0.o.2.2.1.below hb) (jA (bv hb V0.o.2.2.2.1) (show w.1.size+1+1<w1.1.size from (V0.o.2.2.1.below hb).lt)))));obtain⟨c1,f1,z1⟩:=V1.o.2.1.all;clear hb V0 f1 SA;go_wp2_with fail;refine(iV _ _).mono ?_;rintro e w1 ⟨rfl,rfl⟩;go_wp2_with fail;refine(KX.o w1 V1.o.2.2.2.1).mono ?_;rintro e w2 ⟨hb,x4,l4,y4,x5,l5,y5,rfl,ra⟩;have e4:row.length+1=l4:=ra.1.rw.len;subst e4;have e5:db.length=l5:=ra.2.rw.len;obtain⟨b4,o4,rfl,fZ,pP⟩:=ra.1.rw.at (i:=0) rfl;rw[iz] at pP;have⟨gh,E2⟩:=jN (row.length);have V2:=zH (jA (V1.o.1.below hb) (jA (V1.o.2.1.below hb) (jA (V1.o.2.2.1.below hb) (jA (bv hb V1.o.2.2.2.1) (jA V1.o.2.2.2.2 hb.size)))));have⟨yz,Ty,D7⟩:=V2.o.2.1.all;have H5:=zH e5;rw[E2.o] at ra eN ⊢;have R2:Hid (RA (λb=>b<w.1.size\/w1.1.size+2<=b) ((w2.setCell (Y (w.1.size+1) 0) (sX (sY b4 o4) (gh+1) y4)).setCell (Y (w.1.size+1) 1) (sX x5 l5 y5)) (sX (sY b4 o4) (gh+1) y4) (sX x5 l5 y5) ((n:Int)::row,db)):=(ra.mono (Q:=λb=>b<w.1.size\/w1.1.size+2<=b) λb h _=>oM).kp (((Kp.refl _ _).set (by have:=V2.o.2.2.2.2.1;simp;omega) _).set (by have:=V2.o.2.2.2.2.1;simp;omega) _);have J0:Hid (Bx ((w2.setCell (Y (w.1.size+1) 0) (sX (sY b4 o4) (gh+1) y4)).setCell (Y (w.1.size+1) 1) (sX x5 l5 y5)) w.1.size #[sX x0 0 y0,sX (sY b1 o1) p1 y1] 30/\Bx ((w2.setCell (Y (w.1.size+1) 0) (sX (sY b4 o4) (gh+1) y4)).setCell (Y (w.1.size+1) 1) (sX x5 l5 y5)) (w.1.size+1) #[sX (sY b4 o4) (gh+1) y4,sX x5 l5 y5] 30/\Bx ((w2.setCell (Y (w.1.size+1) 0) (sX (sY b4 o4) (gh+1) y4)).setCell (Y (w.1.size+1) 1) (sX x5 l5 y5)) (w.1.size+1+1) nN 30/\Bl w ((w2.setCell (Y (w.1.size+1) 0) (sX (sY b4 o4) (gh+1) y4)).setCell (Y (w.1.size+1) 1) (sX x5 l5 y5))):=⟨(V2.o.1.eC sI _).eC sI _,(V2.o.2.1.set 0 _).set 1 _,(V2.o.2.2.1.eC sI _).eC sI _,by have:=V2.o.2.2.2.1;go_grown⟩;clear hb ra c1 z1 e5 fZ pP;go_wp2_with fail;clear yz Ty D7;generalize hW:ez (ez w2 _ _) _ _=W3 at *;have Cb:b1<W3.1.size:=jL hb1 J0.o.2.2.2.size;have v_:=(J0.o.2.2.2.cell (p:=(Y b1 o1)) hb1).trans gE;have⟨b4',o4',e6,fZ,pP⟩:=R2.o.1.rw.at (i:=0) rfl;injection e6 with e6;injection e6 with e7 e8;subst e7 e8;rw[iz] at pP;have H2:=zH R2.o.1.tl;rw[show gh+1-1=gh by omega] at H2;have CL:=zH λW=>mO (w:=W) (x:=sY b4 o4) (n:=gh+1) (y:=y4) (l:=1) oM;rw[show gh+1-1=gh by omega] at CL;generalize fU (sY b4 o4) 1 y4=xl,y4-1=yl at *;have S3:Hid (∀W,Bl W3 W->Bx W w.1.size #[sX x0 0 y0,sX (sY b1 o1) p1 y1] 30/\Bx W (w.1.size+1) #[sX (sY b4 o4) (gh+1) y4,sX x5 l5 y5] 30/\cL W b1 o1 (I x)/\cL W b4 o4 (I (n:Int))):=λW kk=>⟨J0.o.1.below kk,J0.o.2.1.below kk,(kk.cell (p:=(Y b1 o1)) Cb).trans v_,(kk.cell (p:=(Y b4 o4)) fZ).trans pP⟩;clear hW;refine fT (S:=λW=>Bx W w.1.size #[sX x0 0 y0,sX (sY b1 o1) p1 y1] 30/\Bx W (w.1.size+1) #[sX (sY b4 o4) (gh+1) y4,sX x5 l5 y5] 30/\cL W b1 o1 (I x)/\cL W b4 o4 (I (n:Int))) kF (S3.o W3 (jD _ _)) (λhS=>?_);refine tk 0 (.pointer (sY w.1.size 1)) rfl hS (λ_ _=>kF) ?_;refine tk 1 _ rfl hS (λ_ h=>fh _ _ rfl kF (jY h.1)) ?_;refine tk 2 (.pointer (sY b1 o1)) rfl hS (λ_ _=>nD (sX (sY b1 o1) p1 y1) (I ((0:Nat):Int)) rfl kF kF (qx (k:=0) rp)) ?_;refine tk 3 _ rfl hS (λ_ h=>fh _ _ rfl kF (nh h.2.2.1)) ?_;refine tk 5 (pT (w.1.size+1)) rfl hS (λ_ _=>kF) ?_;refine tk 6 _ rfl hS (λ_ h=>fh _ _ rfl kF (kC h.2.1)) ?_;refine tk 7 (.pointer (sY b4 o4)) rfl hS (λ_ _=>nD (sX (sY b4 o4) (gh+1) y4) (I ((0:Nat):Int)) rfl kF kF (qx (k:=0) oM)) ?_;refine tk 8 _ rfl hS (λ_ h=>fh _ _ rfl kF (nh h.2.2.2)) ?_;refine tc 4 _ _ rfl rfl kF ((KA.o _).mono ?_);rintro e w9 ⟨rfl,rfl⟩;refine .inl ⟨_,rfl,hS,?_⟩;refine tk 9 (I (k:Int)) rfl hS (λ_ _=>kF) ?_;refine tk 10 (I (n:Int)) rfl hS (λ_ _=>kF) ?_;refine te ?_;have KD:Bl W3 W3.drew:=gG;have J1:Hid (∀W,Below W3.drew.1.size W3.drew W->Bx W w.1.size #[sX x0 0 y0,sX (sY b1 o1) p1 y1] 30/\Bx W (w.1.size+1) #[sX (sY b4 o4) (gh+1) y4,sX x5 l5 y5] 30/\Bx W (w.1.size+1+1) nN 30/\Bl w W/\Ri (λ_=>True) W (sX x5 l5 y5) db/\Rw (λ_=>True) W (sX xl gh yl) row/\w.1.size+1+1<W3.drew.1.size):=λW kk=>by
  have kw:=bv kk KD;exact⟨J0.o.1.below kw,J0.o.2.1.below kw,J0.o.2.2.1.below kw,bv kw J0.o.2.2.2,(R2.o.2.kp (.of kw)).mono λ_ _ _=>trivial,(H2.o.kp (.of kw)).rw.jG λ_ _ _=>trivial,by have:=J0.o.2.2.1.lt;have:=KD.size;omega⟩
 have CX:Hid (∀W,Below W3.drew.1.size W3.drew W->cL W b1 o1 (I x)/\b1<W.1.size):=λW kk=>⟨(S3.o W (bv kk KD)).2.2.1,by have:=(bv kk KD).size;omega⟩;clear hS S3 KD J0 R2 H2 V1 V2 v_ pP fZ gE KA KX Cb;generalize W3.drew=B at *;have c1:=(J1.o B (jD _ _)).2.1.cf.1;have z1:=(J1.o B (jD _ _)).2.1.lt;have EL:Hid (([(k:Int)]++row).length=gh+1):=by show _=_;simp[E2.o]
 go_simp;go_wp2_with (refine iW rfl (ie rfl rfl rfl (CL.o _)) ?_)
 generalize hW:ew (ew B _) _=W5;have V5:=jU hW;clear hW;obtain⟨c9,f9,z9⟩:=V5.o.2.1.all;have LK:Hid (Rw (λ_=>True) W5 (sX (sY B.1.size 0) 1 1) [(k:Int)]):=⟨_,1,rfl,.inr ⟨B.1.size,0,rfl,⟨trivial,V5.o.1.lt⟩,λi z hz=>by
  match i,hz with
  |0,hz=>injection hz with hz;rw[<- hz];exact V5.o.1.cf.1 0⟩⟩
 refine(xb EL.o oM z9 (c9 0) (c9 1) LK.o (J1.o _ V5.o.2.2.1).2.2.2.2.2.1).mono ?_;rintro e C ⟨hb,ax,ay,rfl,oS⟩;have Fb:Hid (Bl B C):=bv hb V5.o.2.2.1;have vQ:Hid (Oi w.1.size C (sX ax (gh+1) ay) ((k:Int)::row)):=oS.base (by have:=(J1.o W5 V5.o.2.2.1).2.2.2.1.size;omega);have NF:=zH (yO (w:=C) _ ((k:Int)::row) vQ.o.ri.rw);have KT:Hid (Cp 54 #[sX xl gh yl] C λe w'=>e=rT (I (s:Int))/\w'=C):=by
  have:=qJ _ (J1.o C Fb.o).2.2.2.2.2.1 qD;rw[es] at this;exact this
 have J:Hid (∀W,Bl C W->Bx W w.1.size #[sX x0 0 y0,sX (sY b1 o1) p1 y1] 30/\Bx W (w.1.size+1) #[sX (sY b4 o4) (gh+1) y4,sX x5 l5 y5] 30/\Bx W (w.1.size+1+1) nN 30/\Bl w W/\Ri (λ_=>True) W (sX x5 l5 y5) db/\Oi w.1.size W (sX ax (gh+1) ay) ((k:Int)::row)/\w.1.size+1+1<C.1.size/\cL W b1 o1 (I x)/\b1<W.1.size):=λW kk=>by
  have⟨S0,S1,S2,S3,S4,S5,S6⟩:=J1.o W (bv kk Fb.o);have⟨S7,S8⟩:=CX.o W (bv kk Fb.o);exact⟨S0,S1,S2,S3,S4,vQ.o.kp (.of kk),by have:=Fb.o.size;omega,S7,S8⟩
 clear hb oS V5 c9 f9 z9 LK J1 CX c1 z1 Fb vQ EL
 cases hft:Pl.fy ((k:Int)::row)
 ·rw[hft,eB dC] at eP
  have hr:=eP.o;subst hr;rw[hft] at NF;go_wp2_with fail;refine NF.o.mono ?_;rintro e w' ⟨rfl,he⟩;obtain rfl:e=.panicked [lR 6]:=he;exact⟨rfl,KP.err (J.o _ (jD _ _)).2.2.2.1⟩
 rw[hft,eD rfl] at eP;have hr:=eP.o;subst hr;rw[hft] at NF;have fe:=Pl.g_ hft;have⟨N,HN⟩:=jN (k * s);have hmul:(k:Int) * (s:Int)=(N:Int):=by rw[<- HN.o];simp
 have hN:N<=1000:=by have:=fe.2.2.1;rw[Pl.oF,es,hmul] at this;omega
 have hk1:k<=1000:=by
  have:=fe.2.2.2.2.1;simp only[vJ,fO] at this;have:=Pl.rM this.1;omega
 have MK:=zH λW=>n8 W N oM;have c1:=(J.o C (jD _ _)).2.1.cf.1;have z1:=(J.o C (jD _ _)).2.1.lt;have c0:=(J.o C (jD _ _)).1.cf.1;have z0:=(J.o C (jD _ _)).1.lt;have v_:=(J.o C (jD _ _)).2.2.2.2.2.2.2;obtain⟨Jy,Jx⟩:=v_;clear hft fe es eP;go_wp2_with fail;refine NF.o.mono ?_;rintro e C ⟨rfl,he⟩;obtain rfl:e=rT (.tuple #[]):=he;have hsg:(x<0/\k<=n)\/(x<0/\n<k)\/(¬x<0/\k<=n)\/(¬x<0/\n<k):=oM;rcases hsg with ⟨me,fK⟩|⟨me,fK⟩|⟨me,fK⟩|⟨me,fK⟩
 rotate_left 2
 ·have FZ:Hid (Pl.gq (n:Int) db s (if x<0 then (n:Int)-k else 0) k=Pl.gq (n:Int) db s 0 k):=by show _=_;rw[eB me]
  have pG:min k n=k:=oM;have pI:min (k:Int) (n:Int)=(k:Int):=oM;go_wp2_with (first | (refine iW rfl (ie rfl rfl rfl (CL.o _)) ?_) | (go_at_call 54;refine KT.o.mono ?_;rintro e C ⟨rfl,rfl⟩) | (rw[MK.o]))
  generalize hW:ew C _=W6;have V6:=jV hW;clear hW c0 z0 c1 z1 Jy Jx;have⟨w7,hr,tI,tT⟩:=ZQ (W:=W6) pG HN.o HL.o (J.o W6 V6.o.2.1).2.2.2.2.1 V6.o.1;have C7:=zH hr;have X7:Hid (Bx w7 C.1.size (Zl dd) 3):=by rw[sF.o,FZ.o];exact tI
  have B7:Hid (Bl C w7):=tT _ _ V6.o.2.1 (jR _);have e5:n * s=l5:=by rw[<- HL.o];exact(J.o W6 V6.o.2.1).2.2.2.2.1.rw.len
  have KB:=zH (pc (w:=W6) x5 l5 y5 db s 0 k ((J.o W6 V6.o.2.1).2.2.2.2.1) oM Jh JD oM oM);simp only[py,mw] at C7 KB;clear hr tI tT e5;refine KB.o.mono ?_;rintro e w9 ⟨rfl,rfl⟩;exact Vr
 ·have FZ:Hid (Pl.gq (n:Int) db s (if x<0 then (n:Int)-k else 0) k=Pl.gq (n:Int) db s 0 k):=by show _=_;rw[eB me]
  have pG:min k n=n:=oM;have pI:min (k:Int) (n:Int)=(n:Int):=oM;go_wp2_with (first | (refine iW rfl (ie rfl rfl rfl (CL.o _)) ?_) | (go_at_call 54;refine KT.o.mono ?_;rintro e C ⟨rfl,rfl⟩) | (rw[MK.o]))
  generalize hW:ew C _=W6;have V6:=jV hW;clear hW c0 z0 c1 z1 Jy Jx;have⟨w7,hr,tI,tT⟩:=ZQ (W:=W6) pG HN.o HL.o (J.o W6 V6.o.2.1).2.2.2.2.1 V6.o.1;have C7:=zH hr;have X7:Hid (Bx w7 C.1.size (Zl dd) 3):=by rw[sF.o,FZ.o];exact tI
  have B7:Hid (Bl C w7):=tT _ _ V6.o.2.1 (jR _);have e5:n * s=l5:=by rw[<- HL.o];exact(J.o W6 V6.o.2.1).2.2.2.2.1.rw.len
  have KB:=zH (pc (w:=W6) x5 l5 y5 db s 0 n ((J.o W6 V6.o.2.1).2.2.2.2.1) oM Jh JD oM oM);simp only[py,mw] at C7 KB;clear hr tI tT e5;refine KB.o.mono ?_;rintro e w9 ⟨rfl,rfl⟩;exact Vr
 ·have FZ:Hid (Pl.gq (n:Int) db s (if x<0 then (n:Int)-k else 0) k=Pl.gq (n:Int) db s ((n:Int)-k) k):=by show _=_;rw[eD me]
  have pG:min k n=k:=oM;have pI:min (k:Int) (n:Int)=(k:Int):=oM;go_wp2_with (first | (refine iW rfl (ie rfl rfl rfl (CL.o _)) ?_) | (go_at_call 54;refine KT.o.mono ?_;rintro e C ⟨rfl,rfl⟩) | (rw[MK.o]))
  generalize hW:ew C _=W6;have V6:=jV hW;clear hW c0 z0 c1 z1 Jy Jx;have⟨w7,hr,tI,tT⟩:=ZS (W:=W6.drew) pG HN.o HL.o (J.o W6 V6.o.2.1).2.2.2.2.1 V6.o.1;have C7:=zH hr;have X7:Hid (Bx w7 C.1.size (Zl dd) 3):=by rw[sF.o,FZ.o];exact tI
  have B7:Hid (Bl C w7):=tT _ _ (show Bl C W6.drew from V6.o.2.1.drew) (jR _);have e5:n * s=l5:=by rw[<- HL.o];exact(J.o W6 V6.o.2.1).2.2.2.2.1.rw.len
  have EK:=(y_ (B:=C.1.size) (l:=eE N 0) (by rw[<- xH];exact V6.o.1) (jR _) oM (by simp:_=N)).ri;have KA:=zH (pc (w:=W6.drew) (sY C.1.size 0) N N _ s (k-k) k EK oM Jt oM oM oM);have KB:=zH (pc (w:=W6.drew) x5 l5 y5 db s (n-k) n ((J.o W6 V6.o.2.1).2.2.2.2.1) oM oM JD oM oM);clear hr tI tT EK e5;have S6:=(J.o W6 V6.o.2.1).2.1;have d1:(k:Int)-(k:Int)=((k-k:Nat):Int):=oM;have d2:(n:Int)-(k:Int)=((n-k:Nat):Int):=oM;refine fT (S:=λW=>Bx W (w.1.size+1) #[sX (sY b4 o4) (gh+1) y4,sX x5 l5 y5] 30) kF S6 (λhS=>?_);refine tk 0 (sX (sY C.1.size 0) N N) rfl hS (λ_ _=>kF) ?_;refine tk 1 (I (s:Int)) rfl hS (λ_ _=>kF) ?_;refine tk 2 (I (k:Int)) rfl hS (λ_ _=>kF) ?_;refine tk 3 (I (k:Int)) rfl hS (λ_ _=>kF) ?_;refine tk 4 (I ((k-k:Nat):Int)) rfl hS (λ_ _=>by rw[<- d1];go_simp;first | rfl | (rw[lj];omega)) ?_;refine tk 5 (I (k:Int)) rfl hS (λ_ _=>kF) ?_;refine tk 7 (.pointer (sY (w.1.size+1) 1)) rfl hS (λ_ _=>kF) ?_;refine tk 8 _ rfl hS (λ_ h=>fh _ _ rfl kF (jY h)) ?_;refine tk 9 (I (s:Int)) rfl hS (λ_ _=>kF) ?_;refine tk 10 (I (n:Int)) rfl hS (λ_ _=>kF) ?_;refine tk 11 (I (k:Int)) rfl hS (λ_ _=>kF) ?_;refine tk 12 (I ((n-k:Nat):Int)) rfl hS (λ_ _=>by rw[<- d2];go_simp;first | rfl | (rw[lj];omega)) ?_;refine tk 13 (I (n:Int)) rfl hS (λ_ _=>kF) ?_;refine tc 6 _ _ rfl rfl kF (KA.o.mono ?_);rintro e w9 ⟨rfl,rfl⟩;refine .inl ⟨_,rfl,hS,?_⟩;refine tc 14 _ _ rfl rfl kF (KB.o.mono ?_);rintro e w9 ⟨rfl,rfl⟩;refine .inl ⟨_,rfl,hS,?_⟩;refine tv 15 _ w7 rfl rfl (D3 (.tmp 57) (.tmp 65) rfl kF kF C7.o) (J.o w7 B7.o).2.1 ?_;refine te ?_;clear C7 KA KB hS;exact VV
 have FZ:Hid (Pl.gq (n:Int) db s (if x<0 then (n:Int)-k else 0) k=Pl.gq (n:Int) db s ((n:Int)-k) k):=by show _=_;rw[eD me]
 have pG:min k n=n:=oM;have pI:min (k:Int) (n:Int)=(n:Int):=oM;go_wp2_with (first | (refine iW rfl (ie rfl rfl rfl (CL.o _)) ?_) | (go_at_call 54;refine KT.o.mono ?_;rintro e C ⟨rfl,rfl⟩) | (rw[MK.o]))
 generalize hW:ew C _=W6;have V6:=jV hW;clear hW c0 z0 c1 z1 Jy Jx;have⟨w7,hr,tI,tT⟩:=ZS (W:=W6.drew) pG HN.o HL.o (J.o W6 V6.o.2.1).2.2.2.2.1 V6.o.1;have C7:=zH hr;have X7:Hid (Bx w7 C.1.size (Zl dd) 3):=by rw[sF.o,FZ.o];exact tI
 have B7:Hid (Bl C w7):=tT _ _ (show Bl C W6.drew from V6.o.2.1.drew) (jR _);have e5:n * s=l5:=by rw[<- HL.o];exact(J.o W6 V6.o.2.1).2.2.2.2.1.rw.len
 have EK:=(y_ (B:=C.1.size) (l:=eE N 0) (by rw[<- xH];exact V6.o.1) (jR _) oM (by simp:_=N)).ri;have KA:=zH (pc (w:=W6.drew) (sY C.1.size 0) N N _ s (k-n) k EK oM Jt oM oM oM);have KB:=zH (pc (w:=W6.drew) x5 l5 y5 db s (n-n) n ((J.o W6 V6.o.2.1).2.2.2.2.1) oM oM JD oM oM);clear hr tI tT EK e5;have S6:=(J.o W6 V6.o.2.1).2.1;have d1:(k:Int)-(n:Int)=((k-n:Nat):Int):=oM;have d2:(n:Int)-(n:Int)=((n-n:Nat):Int):=oM;refine fT (S:=λW=>Bx W (w.1.size+1) #[sX (sY b4 o4) (gh+1) y4,sX x5 l5 y5] 30) kF S6 (λhS=>?_);refine tk 0 (sX (sY C.1.size 0) N N) rfl hS (λ_ _=>kF) ?_;refine tk 1 (I (s:Int)) rfl hS (λ_ _=>kF) ?_;refine tk 2 (I (k:Int)) rfl hS (λ_ _=>kF) ?_;refine tk 3 (I (n:Int)) rfl hS (λ_ _=>kF) ?_;refine tk 4 (I ((k-n:Nat):Int)) rfl hS (λ_ _=>by rw[<- d1];go_simp;first | rfl | (rw[lj];omega)) ?_;refine tk 5 (I (k:Int)) rfl hS (λ_ _=>kF) ?_;refine tk 7 (.pointer (sY (w.1.size+1) 1)) rfl hS (λ_ _=>kF) ?_;refine tk 8 _ rfl hS (λ_ h=>fh _ _ rfl kF (jY h)) ?_;refine tk 9 (I (s:Int)) rfl hS (λ_ _=>kF) ?_;refine tk 10 (I (n:Int)) rfl hS (λ_ _=>kF) ?_;refine tk 11 (I (n:Int)) rfl hS (λ_ _=>kF) ?_;refine tk 12 (I ((n-n:Nat):Int)) rfl hS (λ_ _=>by rw[<- d2];go_simp;first | rfl | (rw[lj];omega)) ?_;refine tk 13 (I (n:Int)) rfl hS (λ_ _=>kF) ?_;refine tc 6 _ _ rfl rfl kF (KA.o.mono ?_);rintro e w9 ⟨rfl,rfl⟩;refine .inl ⟨_,rfl,hS,?_⟩;refine tc 14 _ _ rfl rfl kF (KB.o.mono ?_);rintro e w9 ⟨rfl,rfl⟩;refine .inl ⟨_,rfl,hS,?_⟩;refine tv 15 _ w7 rfl rfl (D3 (.tmp 57) (.tmp 65) rfl kF kF C7.o) (J.o w7 B7.o).2.1 ?_;refine te ?_;clear C7 KA KB hS;exact VV
end
end Go.Proofs.YtiagfejlmafliaaGreatDoor
