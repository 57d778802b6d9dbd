import Derived.Test.YtiagfejlmafliaaGreatDoorWc
import Derived.Test.YtiagfejlmafliaaGreatDoorRub
import Derived.Test.YtiagfejlmafliaaGreatDoorRlb
namespace Go.Proofs.YtiagfejlmafliaaGreatDoor
set_option linter.all false
open Go.Proofs.Tryz Pl
open Go.RowKit
set_option maxRecDepth 100000
set_option maxHeartbeats 16000000
open Pl (Ar)
open World renaming setCell->ez,alloc->ew
open List renaming range->eA,replicate->eE
open Option renaming some->a_,none->c_
open Bool renaming true->b_,false->d_
section
structure KI(K:Ks):Prop where
 e1:K1 K 182 K.e1
 mo:K1 K 183 K.mo
 rd:K1 K 184 K.rd
 sc:K1 K 185 K.sc
 e2:K2 K 187 K.e2
 dy:K2 K 188 K.dy
 ou:K2 K 189 K.ou
 mC:K3 K 190 K.mC
section
variable {K:Ks} {P:nK} {w w':Wd}
def I4(K:Ks)(w:Wd)(r:Int × Ar)(e:Ending)(w':Wd):Prop:=Below w.1.size w w'/\if r.1=0 then ∃u0 u1,e=rT (.agg #[u0,u1])/\RA (w.1.size<=·) w' u0 u1 r.2/\K.ok r.2 else e=.panicked [iI 2 r.1]
def Vz(x0 x1:oA)(n0 y0 n1 y1:Nat)(w:Wd):Cp 181 #[.agg #[sX x0 n0 y0,sX x1 n1 y1],I 0] w (rB (.agg #[sX x0 n0 y0,sX x1 n1 y1]) w):=by
 have KN:=zH λc=>yP c;go_enter func181,ntmps181;go_wp2_with (go_at_call 59;refine(KN.o _ _).mono ?_;rintro e w' ⟨rfl,rfl⟩)
 refine eJ (by simp[results,results181,go_sem];try rfl) rfl ?_;exact⟨rfl,gG⟩
def VD(x0 x1:oA)(n0 y0 n1 y1:Nat)(c:Int)(hc:¬c=0)(w:Wd):Cp 181 #[.agg #[sX x0 n0 y0,sX x1 n1 y1],I c] w λe w'=>e=.panicked [iI 2 c]/\Bl w w':=by
 have KN:=zH λc=>yN c;have hb:(c != 0)=b_:=by simpa using hc
 go_enter func181,ntmps181;go_wp2_with (go_at_call 59;refine(KN.o _ _).mono ?_;rintro e w' ⟨rfl,rfl⟩)
 exact⟨rfl,rfl,gG⟩
def aet(H:KI K)(f:fS)(hf:f.k=5\/f.k=6\/f.k=7\/f.k=8)(v0 v1 v2 v3:Va)(a b:Ar)(w:Wd)(h:RO K P w v0 v1 a)(h':RO K P w v2 v3 b):Cp 158 #[EP f,.agg #[v0,v1],.agg #[v2,v3]] w (I4 K w (K.k2 f a b)):=by
 obtain⟨⟨x,y,rfl⟩,x',y',rfl⟩:=h.1.eS;obtain⟨⟨x2,y2,rfl⟩,x3,y3,rfl⟩:=h'.1.eS;obtain⟨k,fa,fb,nm⟩:=f;have HH:=zH (jA h h');have⟨r,HR⟩:∃r,K.k2 ⟨k,fa,fb,nm⟩ a b=r:=⟨_,rfl⟩;rw[HR];unfold Ks.k2 at HR;simp only at hf;rcases hf with rfl|rfl|rfl|rfl
 all_goals
  simp only[kI,oJ,Int.reduceEq] at HR;replace HR:=zH HR;go_enter func158,ntmps158;go_wp2_with fail
  first | refine(H.e2 _ fa _ _ _ _ a b _ (HH.o.1.kp (.of gG)) (HH.o.2.kp (.of gG))).mono ?_ | refine(H.ou _ fa _ _ _ _ a b _ (HH.o.1.kp (.of gG)) (HH.o.2.kp (.of gG))).mono ?_ | refine(H.mC _ fa fb _ _ _ _ a b _ (HH.o.1.kp (.of gG)) (HH.o.2.kp (.of gG))).mono ?_ | refine(H.dy _ fa _ _ _ _ a b _ (HH.o.1.kp (.of gG)) (HH.o.2.kp (.of gG))).mono ?_
  rintro e w1 h;rw[HR.o] at h;obtain⟨x0,y0,x1,y1,rfl,RR,hb⟩:=h.open;have HB:=zH (bv (w:=w) hb);have W0:Bx w1 (w.1.size+1+1+1) nN 30:=.below (.eK sI) hb;obtain⟨d0,f0,z0⟩:=W0.all;replace W0:=zH W0;by_cases hr:r.1=0
  rotate_left 1
  ·go_wp2_with fail
   refine(VD _ _ _ _ _ _ _ hr _).k λw2 hb=>?_;refine⟨rfl,bv hb HB.o,?_⟩;rw[eB hr]
  obtain⟨c,r⟩:=r;simp only at hr;subst hr;simp only at RR;go_wp2_with fail;refine(Vz _ _ _ _ _ _ _).k λw2 hb=>?_;have⟨e0,g0,l0⟩:=(W0.o.below hb).all;have p9:=zH hb;have o_:=zH (bv hb HB.o);go_wp2;refine eJ (by simp[results,results158,go_sem,e0];try rfl) rfl ?_;have:=o_.o;refine⟨gG,?_⟩;rw[eD rfl];exact⟨_,_,rfl,(RR.o.1.kp (((Kp.of p9.o).set sI _).set sI _)).mono λb h _=>by simp at h;omega,RR.o.2 trivial⟩
end
end
section
def sS(L:Lm)(a:Ar)(m:Ms):Pl.Rs:=match sQ L a m.s with
 |.error x=>(.error (2,x),m)
 |.ok (d,s)=>(.ok (a.1,d),⟨m.f,m.c,s⟩)
structure yE(w:Wd)(M:Nat)(L:Lm)(m:Ms)(dp:Int)(c0:aV)(n:Nat)(sd:Int)(acc:lI)(wr:Wd):Prop where
 g:w.grownBy wr (a_ M)
 bm:Bx wr M (gn L ⟨m.f,m.c,sd⟩ dp) 72
 b0:Bx wr w.1.size c0 30
 b1:Bx wr (w.1.size+1) nN 30
 bd:Bx wr (w.1.size+1+1) (Zr acc n) 3
def yE.QO{w wr:Wd}{M n:Nat}{L:Lm}{m:Ms}{dp sd:Int}{c0:aV}{acc:lI}(h:yE w M L m dp c0 n sd acc wr)(hM:M<w.1.size)(t:Int):yE w M L m dp c0 n t acc (wr.setCell (Y M 6) (I t)) :=
 ⟨h.g.trans (ic _ _ _ _),h.bm.set 6 _,h.b0.eC J2 _,h.b1.eC J2 _,h.bd.eC J2 _⟩
def yE.put{w wr:Wd}{M n:Nat}{L:Lm}{m:Ms}{dp sd:Int}{c0:aV}{acc:lI}(h:yE w M L m dp c0 n sd acc wr)(hM:M<w.1.size)(hl:acc.length<n)(t:Int):yE w M L m dp c0 n sd (acc++[t]) (wr.setCell (Y (w.1.size+1+1) acc.length) (I t)):=by
 refine⟨?_,h.bm.eC J2 _,h.b0.eC J2 _,h.b1.eC sI _,?_⟩
 ·refine⟨h.g.os,h.g.tape,h.g.output,by have:=h.g.size;simpa using this,λk hk e=>?_⟩
  rw[zC _ _ _ _ J2];exact h.g.block k hk e
 have:=h.bd.set acc.length (I t);rwa [um hl] at this
def ua{w W W':Wd}{r:Option Nat}(h:w.grownBy W r)(k:Below w.1.size W W'):w.grownBy W' r:=⟨k.os.trans h.os,k.tape.trans h.tape,k.output.trans h.output,jT h.size k.size,λb hb e=>(k.block b hb).trans (h.block b hb e)⟩
section
variable {K:Ks} {P:nK} {w:Wd} {M:Nat} {L:Pl.Lm} {m:Pl.Ms} {dp:Int}
def afS(O:KO K)(v0 v1:Va)(a:Ar)(h:RO K P w v0 v1 a)(hM:Bx w M (gn L m dp) 72)(hm:ib L m)(hP:∀b,P b->¬b=M):Cp 186 #[pT M,.agg #[v0,v1]] w (gI K P M L dp w (sS L a m)):=by
 obtain⟨⟨x,y,rfl⟩,x',y',rfl⟩:=h.1.eS;have hlen:=O.len a h.2;have HH:=zH h;have s0:=hm.s0;have s1:=hm.s1;have HM:=zH hm;have ltM:=hM.lt;have BM:=zH hM;have OK:Hid (∀d t,Pl.iy a.2 m.s=a_ (d,t)->K.ok (a.1,d)):=λd t e=>O.roll a m.s d t h.2 e;obtain⟨lf,lc,lr,ls⟩:=L;obtain⟨mf,mc,s⟩:=m;simp only at s0 s1;obtain⟨d0,f0,z0⟩:=hM.all;have KN:=zH λc=>yP c;have KY:=zH λc=>yN c;have HP:=zH hP
 cases lr with
 |false =>
  have hr:Hid (sS ⟨lf,lc,d_,ls⟩ a ⟨mf,mc,s⟩=(.error (2,11),⟨mf,mc,s⟩)):=rfl;rw[hr.o];go_enter func186,ntmps186;go_wp2_with (go_at_call 59;refine(KY.o _ _).mono ?_;rintro e w' ⟨rfl,rfl⟩)
  exact⟨rfl,iU gG,HM.o,rfl,s,(BM.o.al _).al _⟩
 |true =>
  have⟨r,hr⟩:∃r,Hid (r=sS ⟨lf,lc,b_,ls⟩ a ⟨mf,mc,s⟩):=⟨_,rfl⟩;rw[<- hr.o];have HR:Hid (r=match Pl.iy a.2 s with
   |none=>(.error (2,1),⟨mf,mc,s⟩)
   |some (d,t)=>(.ok (a.1,d),⟨mf,mc,t⟩)):=by
   rw[hr.o];unfold sS sQ;simp only[reduceCtorEq,oJ];cases Pl.iy a.2 s <;> rfl
  have HD:Hid (∀i x,a.2[i]? = a_ x->∃b o,x'=sY b o/\b<w.1.size/\¬b=M/\cL w b (o+i) (I x)):=λi x hx=>by
   obtain⟨q,k,e,_,_,h|⟨b,o,e',hb,hc⟩⟩:=HH.o.1.2
   ·rw[h] at hx;cases hx
   simp only[s7] at e;exact⟨b,o,e.1.trans e',hb.2,HP.o b hb.1,hc i x hx⟩
  have HK:Hid (Pl.iy a.2 s=qN a.2 0 s []):=(U7 a.2 s).symm;generalize Ti:a.2=da at *;generalize hL:da.length=n at *;have HL:=zH hL;have mk:=n8 ((w.alloc (.cells #[sX x a.1.length y,sX x' n y'] 30)).alloc (.cells nN 30)) n oM;go_enter func186,ntmps186;go_wp2_with (go_at_call 59;refine(KN.o _ _).mono ?_;rintro e w' ⟨rfl,rfl⟩)
  have R0:Hid (yE w M ⟨lf,lc,b_,ls⟩ ⟨mf,mc,s⟩ dp #[sX x a.1.length y,sX x' n y'] n s [] (((w.alloc (.cells #[sX x a.1.length y,sX x' n y'] 30)).alloc (.cells nN 30)).alloc (.cells (Zr [] n) 3))) :=
   ⟨iU gG,((BM.o.al _).al _).al _,.al (.al (.eK rfl) _) _,.al (.eK sI) _,.eK sI⟩
  go_loopw [22] (λi wr=>∃(k:Nat)(acc:lI) (sd:Int),i=I (k:Int)/\k<=n/\0<=sd/\sd<=2147483647/\Hid (acc.length=k)/\Hid (Pl.iy da s=qN da k sd acc)/\Hid (yE w M ⟨lf,lc,b_,ls⟩ ⟨mf,mc,s⟩ dp #[sX x a.1.length y,sX x' n y'] n sd acc wr)) (λi _=>n-(intOf i).toNat)
  case atStart=>exact⟨0,[],s,rfl,vZ _,s0,s1,rfl,HK,R0⟩
  obtain⟨k,acc,sd,rfl,hk,t0,t1,nL,pM,hR⟩:=hrel;obtain⟨dm,fm,zm⟩:=hR.o.bm.all;obtain⟨d0,f0,z0⟩:=hR.o.b0.all;obtain⟨d1,f1,z1⟩:=hR.o.b1.all;obtain⟨d2,f2,z2⟩:=hR.o.bd.all;by_cases fK:k=n
  ·subst fK
   have aaO:Hid (Pl.iy da s=a_ (acc,sd)):=pM.o.trans (Vu da k sd acc (by rw[HL.o];omega));have eN:Hid (r=(.ok (a.1,acc),⟨mf,mc,sd⟩)):=by rw[HR.o,aaO.o];rfl
   have LS:Hid (Ls (λb=>P b) (wr.alloc (.cells #[sX x a.1.length y] 23)) wr.1.size [a.1]):=⟨sI,λi zs hi=>by
    match i,hi with
    |0,hi =>
     cases hi
     refine⟨_,by simp[go_sem],(HH.o.1.1.rw.kp ⟨?_,?_⟩)⟩
     ·have:=hR.o.g.size;simp;exact Nat.le_succ_of_le this
     intro b hb eI;have:=hR.o.g.block b eI (by simpa using HP.o b hb);rw[<- this];exact(Below.block (B:=wr.1.size) gG b (jL eI hR.o.g.size))⟩
   go_wp2_with fail;refine(vp [a.1] _ _ _ LS.o sI J2).mono ?_;rintro e w1 ⟨hb,u,rfl,ho⟩;have HB:=zH (bv (w:=wr) hb);have HO:=zH ho;obtain⟨x0,y0,rfl⟩:=ho.form;have⟨e1,g1,l1⟩:=(hR.o.b1.below HB.o).all;simp only[DK,Iz,rU] at HO;go_wp2;refine eJ (by simp[results,results186,go_sem,e1];try rfl) rfl ?_;rw[eN.o];have gz:=hR.o.g.size;have hz:=HB.o.size;have HD2:=zH (sM (B:=w.1.size) (hR.o.bd.below HB.o) oM oM nL.o);have m1:=HO.o.ne (hR.o.b1.below HB.o) dC;have m2:=HD2.o.ne (hR.o.b1.below HB.o) dC;have fY:=HM.o;refine⟨ua hR.o.g (by have:=HB.o.mono gz;go_grown),⟨fY.f0,fY.f1,fY.c0,fY.c1,t0,t1⟩,((hR.o.bm.below HB.o).eC J2 _).eC J2 _,_,_,rfl,⟨(HO.o.out eY (jR _)).mono λb h _=>.inr (by simp at h;omega),(HD2.o.out eY (jR _)).mono λb h _=>.inr h⟩,OK.o _ _ aaO.o⟩
  have eI:(k:Int)<(n:Int):=oM;have⟨nk,Er⟩:∃nk,da[k]? = a_ nk:=⟨_,fw (by rw[HL.o];omega)⟩;obtain⟨bd,od,rfl,kU,hbM,kT⟩:=HD.o k nk Er;have kT:=(zy (w:=w) (a:=(Y bd (od+k))) (hR.o.g.block bd kU (by simpa using hbM))).trans kT;have eL:=zH (U8 da k sd nk acc Er);have zd:bd<wr.1.size:=jL kU hR.o.g.size;by_cases hn1:nk<1
  ·have eN:Hid (r=(.error (2,1),⟨mf,mc,s⟩)):=by rw[HR.o,pM.o,eL.o,eD hn1];rfl
   have yp:decide (nk<1)=b_:=fM hn1;go_wp2_with (go_at_call 59;refine(KY.o _ _).mono ?_;rintro e w' ⟨rfl,rfl⟩)
   rw[eN.o];exact⟨rfl,hR.o.g,HM.o,rfl,sd,hR.o.bm⟩
  have hn0:¬nk=0:=oM;have gC:Hid (Pl.iy da s=qN da (k+1) (sd * 48271 % 2147483647) (acc++[sd * 48271 % 2147483647 % nk])):=by
   show _=_;rw[pM.o,eL.o,eB hn1]
  have yp:decide (nk<1)=d_:=fH hn1;have R2:=zH ((hR.o.QO ltM (sd * 48271 % 2147483647)).put ltM (by rw[nL.o];omega) (sd * 48271 % 2147483647 % nk));rw[nL.o] at R2;have⟨vz,hvz⟩:=sN (l:=acc) (n:=n) (i:=k) (by rw[nL.o];exact hk) oM;have d2k:=(d2 k).trans hvz;go_wp2_with (go_at_call 59;refine(KN.o _ _).mono ?_;rintro e w' ⟨rfl,rfl⟩)
  go_roundw
  case rel=>exact⟨k+1,_,_,by go_num,by omega,by omega,by omega,by show _=_;simp[nL.o],gC,R2⟩
  simp[intOf];omega
end
end
section
variable {W w1:Wd}{M:Nat}{L:Lm}{dp:Int}{e:Ending}{m:Ms}
section
variable {K:Ks} {P:Nat->Prop} {w w':Wd}
def gI.base{r:Pl.Rs}(h:gI K P M L dp W r e w1)(k:Bl w W):gI K P M L dp w r e w1:=by
 obtain⟨g,hm,h⟩:=h;refine⟨(iU k).trans g,hm,?_⟩;obtain⟨q,m⟩:=r
 cases q with
 |error q=>exact h
 |ok a =>
  obtain⟨b,u0,u1,e,ro⟩:=h;exact⟨b,u0,u1,e,ro.mono λb hb _=>hb.imp id λh=>jT k.size h⟩
def gI.put{c:Nat}{a:Ar}(h:gI K P M L dp W (.ok a,m) e w1)(hc:w.1.size<=c)(mF:c<W.1.size)(hP:∀b,P b->b<w.1.size)(k:Bl w W)(hM:M<w.1.size)(x y:Va):gI K P M L dp w (.ok a,m) e ((w1.setCell ⟨c,0,c_⟩ x).setCell ⟨c,1,c_⟩ y):=by
 obtain⟨g,hm,b,u0,u1,e,ro⟩:=h;refine⟨ua ((iU k).trans g) gG,hm,(b.eC J2 _).eC J2 _,u0,u1,e,(ro.kp (((Kp.refl _ _).set ?_ _).set ?_ _)).mono λb hb _=>hb.imp id λh=>jT k.size h⟩
 all_goals exact λh=>h.elim (λh=>absurd (hP _ h) J2) (λh=>by simp at h;omega)
def aeu(H:KI K)(f:fS)(hf:f.k=1\/f.k=2\/f.k=3\/f.k=4)(fp:Va)(v0 v1:Va)(a:Ar)(w:Wd)(h:RO K P w v0 v1 a):Cp 157 #[fp,EP f,.agg #[v0,v1]] w (I4 K w (K.k1 f a)):=by
 obtain⟨⟨x,y,rfl⟩,x',y',rfl⟩:=h.1.eS;obtain⟨k,fa,fb,nm⟩:=f;have HH:=zH h;have⟨r,HR⟩:∃r,K.k1 ⟨k,fa,fb,nm⟩ a=r:=⟨_,rfl⟩;rw[HR];unfold Ks.k1 at HR;simp only at hf;rcases hf with rfl|rfl|rfl|rfl
 all_goals
  simp only[kI,oJ,Int.reduceEq] at HR;replace HR:=zH HR;go_enter func157,ntmps157;go_wp2_with fail
  first | refine(H.e1 _ fa _ _ a _ (HH.o.kp (.of gG))).mono ?_ | refine(H.mo _ fa _ _ a _ (HH.o.kp (.of gG))).mono ?_ | refine(H.rd _ fa _ _ a _ (HH.o.kp (.of gG))).mono ?_ | refine(H.sc _ fa _ _ a _ (HH.o.kp (.of gG))).mono ?_
  rintro e w1 h;rw[HR.o] at h;obtain⟨x0,y0,x1,y1,rfl,RR,hb⟩:=h.open;have HB:=zH (bv (w:=w) hb);have W0:Bx w1 (w.1.size+1+1) #[.slice c_ 0 0,.slice c_ 0 0] 30:=.below (.eK sI) hb;obtain⟨d0,f0,z0⟩:=W0.all;replace W0:=zH W0;by_cases hr:r.1=0
  rotate_left 1
  ·go_wp2_with fail
   refine(VD _ _ _ _ _ _ _ hr _).k λw2 hb=>?_;refine⟨rfl,bv hb HB.o,?_⟩;rw[eB hr]
  obtain⟨c,r⟩:=r;simp only at hr;subst hr;simp only at RR;go_wp2_with fail;refine(Vz _ _ _ _ _ _ _).k λw2 hb=>?_;have⟨e0,g0,l0⟩:=(W0.o.below hb).all;have p9:=zH hb;have o_:=zH (bv hb HB.o);go_wp2;refine eJ (by simp[results,results157,go_sem,e0];try rfl) rfl ?_;have:=o_.o;refine⟨gG,?_⟩;rw[eD rfl];exact⟨_,_,rfl,(RR.o.1.kp (((Kp.of p9.o).set sI _).set sI _)).mono λb h _=>by simp at h;omega,RR.o.2 trivial⟩
def adw{B f:Nat}{G:Gb}{own:List Ar}{eO:Option Pl.Tv}(O:KO K)(hf:Fi K P B w f M G own eO)(fn:fS)(hk:fn.k=9)(v0 v1:Va)(a:Ar)(h:RO K P w v0 v1 a)(hM:Bx w M (gn L m dp) 72)(hm:ib L m):Cp 157 #[.pointer (a_ ⟨f,0,c_⟩),EP fn,.agg #[v0,v1]] w (gI K P M L dp w (sS L a m)):=by
 obtain⟨⟨x,y,rfl⟩,x',y',rfl⟩:=h.1.eS;obtain⟨k,fa,fb,nm⟩:=fn;simp only at hk;subst hk;obtain⟨bb,ow,sp,b0,n0,_⟩:=hf.fr;have KR:Hid (∀W,Bl w W->Cp 186 #[.pointer (a_ ⟨M,0,c_⟩),.agg #[.slice x a.1.length y,.slice x' a.2.length y']] W (gI K P M L dp W (sS L a m))):=λW hW=>afS O _ _ a (h.kp (.of hW)) (hM.below hW) hm λb hb=>(hf.hp b hb).2;obtain⟨d0,f0,z0⟩:=b0.all;have B0:=zH b0;have lM:=hM.lt;have HP:=zH λb=>hf.hp b;generalize sS L a m=r at KR ⊢;go_enter func157,ntmps157;go_wp2_with fail;have D5:=sizeOf30;have E6:=isAgg30;generalize hW:ew (ew (ew w _) _) _=W;have BW:Hid (Bl w W.drew):=by subst hW;exact(show Bl w _ from by go_grown)
 have b1:Hid (Bx W.drew (w.1.size+1) #[.slice x a.1.length y,.slice x' a.2.length y'] 30):=by subst hW;exact Bx.al (.eK sI) _
 have b2:Hid (Bx W.drew (w.1.size+1+1) #[.slice c_ 0 0,.slice c_ 0 0] 30):=by subst hW;exact Bx.eK sI
 have b0:Hid (Bx W.drew f _ 108):=B0.o.below BW.o;refine fT (S:=λw'=>w'.cell? ⟨f,0,c_⟩=a_ (.pointer (a_ ⟨M,0,c_⟩))/\w'.cell? ⟨w.1.size+1,0,c_⟩=a_ (.slice x a.1.length y)/\w'.cell? ⟨w.1.size+1,1,c_⟩=a_ (.slice x' a.2.length y')) kF ⟨b0.o.cf.1 0,b1.o.cf.1 0,b1.o.cf.1 1⟩ (λhS=>?_);refine tk 0 (.pointer (a_ ⟨f,0,c_⟩)) rfl hS (λ_ _=>kF) ?_;refine tk 1 (.pointer (a_ ⟨f,0,c_⟩)) rfl hS (λ_ _=>kF) ?_;refine tk 2 (.pointer (a_ ⟨f,0,c_⟩)) rfl hS (λ_ _=>kF) ?_;refine tk 3 (.pointer (a_ ⟨M,0,c_⟩)) rfl hS (λw h=>by obtain⟨h0,h1,h2⟩:=h;go_simp) ?_;refine tk 4 (.agg #[.slice x a.1.length y,.slice x' a.2.length y']) rfl hS (λw h=>by obtain⟨h0,h1,h2⟩:=h;go_simp) ?_;refine tc 5 _ _ rfl rfl kF ((KR.o _ BW.o).mono ?_);rintro e w1 h;have HI:=zH h;obtain⟨q,m'⟩:=r
 cases q with
 |error q=>exact .inr ⟨_,h.2.2.1,rfl,h.2.2.1 ▸ h.base BW.o⟩
 |ok a' =>
  obtain⟨g,_,bm,u0,u1,rfl,ro⟩:=h;obtain⟨⟨p0,q0,rfl⟩,p1,q1,rfl⟩:=ro.1.eS;have k0:Bx w1 f _ 108:=b0.o.eX (g.block f b0.o.lt Jk);have k1:Bx w1 (w.1.size+1) _ 30:=b1.o.eX (g.block _ b1.o.lt J2);have k2:Bx w1 (w.1.size+1+1) _ 30:=b2.o.eX (g.block _ b2.o.lt J2);have⟨e0,g0,l0⟩:=k0.all;have⟨e1,g1,l1⟩:=k1.all;have⟨e2,g2,l2⟩:=k2.all;have l3:=b2.o.lt;refine .inl ⟨_,rfl,⟨e0 0,e1 0,e1 1⟩,?_⟩;refine ts 6 ((w1.setCell ⟨w.1.size+1+1,0,c_⟩ (.slice p0 a'.1.length q0)).setCell ⟨w.1.size+1+1,1,c_⟩ (.slice p1 a'.2.length q1)) rfl rfl rfl JQ ⟨by go_simp,by go_simp,by go_simp⟩ ?_;refine te ?_;go_simp;go_wp2;refine eJ (by simp[results,results157,go_sem,e2];try rfl) rfl ?_;exact(HI.o.put oM l3 (λb hb=>(HP.o b hb).1) BW.o lM _ _)
end
end
variable {ρ:Prop}
section
variable {B f M:Nat}{G:Gb}{own:List Ar}{eO:Option Pl.Tv}{L:Lm}{m:Ms}{dp:Int}
section
variable {K:Ks} {P:Nat->Prop} {w w':Wd}
def ak3.κ(h:ρ:=by
 have TA:=kS Af;have Tz:=kS ve;refine .inl ⟨_,rfl,⟨e1 3,e1 4,e1 5,e1 6,TA,Tz⟩,?_⟩;refine ts 7 ((w1.setCell ⟨w.1.size+1,0,c_⟩ (.slice p0 a'.1.length q0)).setCell ⟨w.1.size+1,1,c_⟩ (.slice p1 a'.2.length q1)) rfl rfl rfl JQ ⟨by go_simp,by go_simp,by go_simp,by go_simp,by go_simp,by go_simp⟩ ?_;refine te ?_;go_simp;go_wp2;refine eJ (by simp[results,results119,go_sem,e2];try rfl) rfl ?_;exact(HI.o.put oM l3 (λb hb=>(HP.o b hb).1) BW.o lM _ _)
 ):ρ:=h
def ajf.Yd(h:ρ:=by
 refine fT (S:=λw'=>w'.cell? ⟨w.1.size,3,c_⟩=a_ (.int .i64 s.fn.k)/\w'.cell? ⟨w.1.size,4,c_⟩=a_ (.int .i64 s.fn.a)/\w'.cell? ⟨w.1.size,5,c_⟩=a_ (.int .i64 s.fn.b)/\w'.cell? ⟨w.1.size,6,c_⟩=a_ (.string (Pl.ba s.fn.nm))/\w'.cell? ⟨S,o,c_⟩=a_ (.slice x0 a0.1.length y0)/\w'.cell? ⟨S,o+1,c_⟩=a_ (.slice z0 a0.2.length t0)) kF ⟨b1.o.cf.1 3,b1.o.cf.1 4,b1.o.cf.1 5,b1.o.cf.1 6,(BC.o Af),(BC.o ve)⟩ (λhS=>?_);refine tk 0 (.pointer (a_ ⟨f,0,c_⟩)) rfl hS (λ_ _=>kF) ?_;refine tk 1 (.pointer (a_ ⟨w.1.size,3,c_⟩)) rfl hS (λ_ _=>kF) ?_;refine tk 2 (.agg #[.int .i64 s.fn.k,.int .i64 s.fn.a,.int .i64 s.fn.b,.string (Pl.ba s.fn.nm)]) rfl hS (λw h=>by obtain⟨h0,h1,h2,h3,h4,h5⟩:=h;go_simp) ?_;refine tk 3 (.slice (a_ ⟨S,o,c_⟩) 1 cap) rfl hS (λ_ _=>kF) ?_;refine tk 4 (.pointer (a_ ⟨S,o,c_⟩)) rfl hS (λ_ _=>kF) ?_;refine tk 5 (.agg #[.slice x0 a0.1.length y0,.slice z0 a0.2.length t0]) rfl hS (λw h=>by obtain⟨h0,h1,h2,h3,h4,h5⟩:=h;go_simp) ?_;refine tc 6 _ _ rfl rfl kF ((KR.o _ BW.o).mono ?_);rintro e w1 h;have HI:=zH h;obtain⟨q,m'⟩:=r
 cases q with
 |error q=>exact .inr ⟨_,h.2.2.1,rfl,h.2.2.1 ▸ h.base BW.o⟩
 |ok a' =>
  open ak3 in exact aaf
 ):ρ:=h
def adA{L:Lm}{m:Ms}{dp:Int}(hf:Fi K P B w f M G own eO)(s:Sv)(hk:s.k=3)(an:Option Addr)(cn:Nat)(S o cap:Nat)(lS:S<w.1.size)(nS:¬S=M)(a0:Ar)(x0 z0:Option Addr)(y0 t0:Nat)(Af:w.cell? ⟨S,o,c_⟩=a_ (.slice x0 a0.1.length y0))(ve:w.cell? ⟨S,o+1,c_⟩=a_ (.slice z0 a0.2.length t0))(lM:M<w.1.size)(r:Pl.Rs)
  (KR:∀W,Bl w W->Cp 157 #[.pointer (a_ ⟨f,0,c_⟩),.agg #[.int .i64 s.fn.k,.int .i64 s.fn.a,.int .i64 s.fn.b,.string (Pl.ba s.fn.nm)],.agg #[.slice x0 a0.1.length y0,.slice z0 a0.2.length t0]] W (gI K P M L dp W r)):Cp 119 #[.pointer (a_ ⟨f,0,c_⟩),.agg #[.int .i64 s.k,.slice an s.eF.length cn,.string (Pl.ba s.nm),.int .i64 s.fn.k,.int .i64 s.fn.a,.int .i64 s.fn.b,.string (Pl.ba s.fn.nm)],.slice (a_ ⟨S,o,c_⟩) 1 cap] w (gI K P M L dp w r):=by
 have HP:=zH λb=>hf.hp b;replace KR:=zH KR;rw[hk];go_enter func119,ntmps119;go_wp2_with fail;have D5:=sizeOf30;have E6:=isAgg30;have z116:=sizeOf116;have a116:=isAgg116;generalize hW:ew (ew w _) _=W;have BW:Hid (Bl w W.drew):=by subst hW;exact(show Bl w _ from by go_grown)
 have b1:Hid (Bx W.drew w.1.size #[.int .i64 3,.slice an s.eF.length cn,.string (Pl.ba s.nm),.int .i64 s.fn.k,.int .i64 s.fn.a,.int .i64 s.fn.b,.string (Pl.ba s.fn.nm)] 118):=by subst hW;exact Bx.al (.eK rfl) _
 open ajf in exact Y7
def ak4.κ(h:ρ:=by
 have TA:=kS Af;have Tz:=kS ve;have f10:=kS wE;have f11:=kS pV;refine .inl ⟨_,rfl,⟨e1 3,e1 4,e1 5,e1 6,TA,Tz,f10,f11⟩,?_⟩;refine ts 9 ((w1.setCell ⟨w.1.size+1,0,c_⟩ (.slice p0 a'.1.length q0)).setCell ⟨w.1.size+1,1,c_⟩ (.slice p1 a'.2.length q1)) rfl rfl rfl JQ ⟨by go_simp,by go_simp,by go_simp,by go_simp,by go_simp,by go_simp,by go_simp,by go_simp⟩ ?_;refine te ?_;go_simp;go_wp2;refine eJ (by simp[results,results119,go_sem,e2];try rfl) rfl ?_;exact(HI.o.put oM l3 (λb hb=>(HP.o b hb).1) BW.o lM _ _)
 ):ρ:=h
def ajg.Yd(h:ρ:=by
 refine fT (S:=λw'=>w'.cell? ⟨w.1.size,3,c_⟩=a_ (.int .i64 s.fn.k)/\w'.cell? ⟨w.1.size,4,c_⟩=a_ (.int .i64 s.fn.a)/\w'.cell? ⟨w.1.size,5,c_⟩=a_ (.int .i64 s.fn.b)/\w'.cell? ⟨w.1.size,6,c_⟩=a_ (.string (Pl.ba s.fn.nm))/\w'.cell? ⟨S,o,c_⟩=a_ (.slice x0 a0.1.length y0)/\w'.cell? ⟨S,o+1,c_⟩=a_ (.slice z0 a0.2.length t0)/\w'.cell? ⟨S,o+2,c_⟩=a_ (.slice x1 a1.1.length y1)/\w'.cell? ⟨S,o+2+1,c_⟩=a_ (.slice z1 a1.2.length t1)) kF ⟨b1.o.cf.1 3,b1.o.cf.1 4,b1.o.cf.1 5,b1.o.cf.1 6,(BC.o Af),(BC.o ve),(BC.o wE),(BC.o pV)⟩ (λhS=>?_);refine tk 0 (.pointer (a_ ⟨w.1.size,3,c_⟩)) rfl hS (λ_ _=>kF) ?_;refine tk 1 (.agg #[.int .i64 s.fn.k,.int .i64 s.fn.a,.int .i64 s.fn.b,.string (Pl.ba s.fn.nm)]) rfl hS (λw h=>by obtain⟨h0,h1,h2,h3,h4,h5,h6,h7⟩:=h;go_simp) ?_;refine tk 2 (.slice (a_ ⟨S,o,c_⟩) 2 cap) rfl hS (λ_ _=>kF) ?_;refine tk 3 (.pointer (a_ ⟨S,o+2,c_⟩)) rfl hS (λ_ _=>kF) ?_;refine tk 4 (.agg #[.slice x1 a1.1.length y1,.slice z1 a1.2.length t1]) rfl hS (λw h=>by obtain⟨h0,h1,h2,h3,h4,h5,h6,h7⟩:=h;go_simp) ?_;refine tk 5 (.slice (a_ ⟨S,o,c_⟩) 2 cap) rfl hS (λ_ _=>kF) ?_;refine tk 6 (.pointer (a_ ⟨S,o,c_⟩)) rfl hS (λ_ _=>kF) ?_;refine tk 7 (.agg #[.slice x0 a0.1.length y0,.slice z0 a0.2.length t0]) rfl hS (λw h=>by obtain⟨h0,h1,h2,h3,h4,h5,h6,h7⟩:=h;go_simp) ?_;refine tc 8 _ _ rfl rfl kF ((KR.o _ BW.o).mono ?_);rintro e w1 h;have HI:=zH h;obtain⟨q,m'⟩:=r
 cases q with
 |error q=>exact .inr ⟨_,h.2.2.1,rfl,h.2.2.1 ▸ h.base BW.o⟩
 |ok a' =>
  open ak4 in exact aaf
 ):ρ:=h
def adz{L:Lm}{m:Ms}{dp:Int}(hf:Fi K P B w f M G own eO)(s:Sv)(hk:s.k=4)(an:Option Addr)(cn:Nat)(S o cap:Nat)(lS:S<w.1.size)(nS:¬S=M)(a0:Ar)(x0 z0:Option Addr)(y0 t0:Nat)(Af:w.cell? ⟨S,o,c_⟩=a_ (.slice x0 a0.1.length y0))(ve:w.cell? ⟨S,o+1,c_⟩=a_ (.slice z0 a0.2.length t0))(a1:Ar)(x1 z1:Option Addr)(y1 t1:Nat)(wE:w.cell? ⟨S,o+2,c_⟩=a_ (.slice x1 a1.1.length y1))(pV:w.cell? ⟨S,o+2+1,c_⟩=a_ (.slice z1 a1.2.length t1))(lM:M<w.1.size)(r:Pl.Rs)
  (KR:∀W,Bl w W->Cp 158 #[.agg #[.int .i64 s.fn.k,.int .i64 s.fn.a,.int .i64 s.fn.b,.string (Pl.ba s.fn.nm)],.agg #[.slice x1 a1.1.length y1,.slice z1 a1.2.length t1],.agg #[.slice x0 a0.1.length y0,.slice z0 a0.2.length t0]] W (gI K P M L dp W r)):Cp 119 #[.pointer (a_ ⟨f,0,c_⟩),.agg #[.int .i64 s.k,.slice an s.eF.length cn,.string (Pl.ba s.nm),.int .i64 s.fn.k,.int .i64 s.fn.a,.int .i64 s.fn.b,.string (Pl.ba s.fn.nm)],.slice (a_ ⟨S,o,c_⟩) 2 cap] w (gI K P M L dp w r):=by
 have HP:=zH λb=>hf.hp b;replace KR:=zH KR;rw[hk];go_enter func119,ntmps119;go_wp2_with fail;have D5:=sizeOf30;have E6:=isAgg30;have z116:=sizeOf116;have a116:=isAgg116;generalize hW:ew (ew w _) _=W;have BW:Hid (Bl w W.drew):=by subst hW;exact(show Bl w _ from by go_grown)
 have b1:Hid (Bx W.drew w.1.size #[.int .i64 4,.slice an s.eF.length cn,.string (Pl.ba s.nm),.int .i64 s.fn.k,.int .i64 s.fn.a,.int .i64 s.fn.b,.string (Pl.ba s.fn.nm)] 118):=by subst hW;exact Bx.al (.eK rfl) _
 open ajg in exact Y7
end
end
section
def kR(r:Int × Ar)(m:Ms):Pl.Rs:=if r.1=0 then (.ok r.2,m) else (.error (2,r.1),m)
def La(K:Ks)(L:Lm)(s:Sv)(vs:List Ar)(m:Ms):Pl.Rs:=match vs with
 |[]=>(.ok (oK s.eF),m)
 |[a]=>if s.fn.k=9 then sS L a m else kR (K.k1 s.fn a) m
 |w::a::_=>kR (K.k2 s.fn a w) m
def af1{f:fS}(h:rX f=b_)(hc:¬f.k=10):f.k=9\/f.k=1\/f.k=2\/f.k=3\/f.k=4:=by
 rw[OG] at h;unfold Pl.jk at h;rw[eB hc] at h;repeat' split at h
 all_goals first | (simp at h;omega) | (simp at h;done) | omega
def afh{f:fS}(h:rW f=b_)(hc:¬f.k=10):f.k=5\/f.k=6\/f.k=7\/f.k=8:=by
 rw[Oy] at h;unfold Pl.jk at h;rw[eB hc] at h;repeat' split at h
 all_goals first | (simp at h;omega) | (simp at h;done) | omega
abbrev q_(s:Sv)(an:oA)(cn:Nat):Va:=.agg #[I s.k,sX an s.eF.length cn,.string (Pl.ba s.nm),I s.fn.k,I s.fn.a,I s.fn.b,.string (Pl.ba s.fn.nm)]
section
variable {K:Ks} {P:nK} {w w':Wd} {B f M:Nat} {G:Pl.Gb} {own:List Ar} {eO:Option Pl.Tv} {L:Pl.Lm} {m:Pl.Ms} {dp:Int}
def I4.ip{r:Int × Ar}{e:Ending}(h:I4 K w r e w')(hM:Bx w M (gn L m dp) 72)(hm:ib L m):gI K P M L dp w (kR r m) e w':=by
 obtain⟨hb,h⟩:=h;unfold kR;split at h
 ·next hr=>rw[eD hr];obtain⟨u0,u1,e,ra,ok⟩:=h;exact⟨iU hb,hm,hM.below hb,u0,u1,e,ra.mono λb h _=>.inr h,ok⟩
 next hr=>rw[eB hr];exact⟨iU hb,hm,h,m.s,hM.below hb⟩
def adB(O:KO K)(hf:Fi K P B w f M G own eO)(s:Sv)(hk:s.k=1)(hn:k_ s.eF=b_)(an:oA)(hx:XI (λb=>b<B) w an s.eF)(af:oA)(cf:Nat)(hM:Bx w M (gn L m dp) 72)(hm:ib L m):
  Cp 119 #[pT f,q_ s an s.eF.length,sX af 0 cf] w (gI K P M L dp w (.ok (oK s.eF),m)):=by
 have fF:=O.eF _ hn;have hlen:=O.len _ fF;have HR:Hid (RO K P w (nJ) (sX an s.eF.length s.eF.length) ([],s.eF)\/True):=.inr trivial;have HI:Hid (Ri P w (sX an s.eF.length s.eF.length) s.eF):=⟨an,_,rfl,jR _,by have:=hlen.2;simp only[oK] at this;omega,hx.imp id λ⟨b,o,hb,e,hc⟩=>⟨b,o,e,⟨hf.pb b hb,jL hb hf.hs⟩,hc⟩⟩;have HB:=zH hM;have HM:=zH hm;have HK:=zH fF;have rq:s.eF.length<=1000:=by have:=hlen.2;simpa only [oK] using this
 have gr:1<=s.eF.length:=by unfold k_ at hn;simp only[fO,fQ] at hn;exact hn.1.2
 unfold oK at HK ⊢;unfold q_;rw[hk];by_cases h1:s.eF.length=1
 ·have⟨x,e⟩:=zx.1 h1
  obtain⟨bn,on,rfl,hbn,c0⟩:∃b o,an=sY b o/\b<w.1.size/\cL w b o (I x):=by
   obtain⟨a,k,e1,_,_,h|⟨b,o,e2,hb,hc⟩⟩:=HI.o
   ·rw[h] at h1;cases h1
   injection e1 with e1;exact⟨b,o,e1.trans e2,hb.2,hc 0 x (by rw[e];rfl)⟩
  rw[eD h1] at HK ⊢;rw[h1];rw[e] at HK ⊢;go_enter func119,ntmps119;go_wp2;refine eJ (by simp[results,results119,go_sem];try rfl) rfl ?_;refine⟨iU gG,HM.o,HB.o.below gG,_,_,rfl,⟨⟨c_,0,rfl,jR _,oM,.inl rfl⟩,_,1,rfl,sI,oM,.inr ⟨w.1.size+1+1+1,0,rfl,⟨.inr oM,sI⟩,λi y hy=>?_⟩⟩,HK.o⟩;match i,hy with
  |0,hy=>cases hy;simp[go_sem]
 rw[eB h1] at HK ⊢;have⟨n,HN⟩:=jN (s.eF.length);rw[HN.o] at h1 gr rq HI HK ⊢;have hb1:((n:Int) == 1)=d_:=by rw[gR];omega
 go_enter func119,ntmps119;go_wp2;refine eJ (by simp[results,results119,go_sem];try rfl) rfl ?_;refine⟨iU gG,HM.o,HB.o.below gG,_,_,rfl,⟨⟨_,1,rfl,sI,oM,.inr ⟨w.1.size+1+1+1,0,rfl,⟨.inr oM,sI⟩,λi y hy=>?_⟩⟩,(HI.o.kp (.of gG)).mono λb h _=>.inl h⟩,HK.o⟩;match i,hy with
 |0,hy=>cases hy;simp[go_sem]
end
end
section
def Fm(K:Ks)(P:nK)(M:Nat)(w:Wd)(fv:Va)(vs:List Ar):Prop:=∃a cap,fv=sX a vs.length cap/\(vs=[]\/∃S o,a=sY S o/\S<w.1.size/\¬S=M/\∀(i:Nat) x,vs[i]? = a_ x->∃u0 u1,w.cell? (Y S (o+i * 2))=a_ u0/\w.cell? (Y S (o+i * 2+1))=a_ u1/\RO K P w u0 u1 x)
section
variable {K:Ks} {P:nK} {w w':Wd} {B f M:Nat} {G:Pl.Gb} {own:List Ar} {eO:Option Pl.Tv} {L:Pl.Lm} {m:Pl.Ms} {dp:Int}
def Fm.eG{fv:Va}{vs:List Ar}(h:Fm K P M w fv vs)(k:Bl w w'):Fm K P M w' fv vs:=by
 obtain⟨a,cap,e,h⟩:=h;refine⟨a,cap,e,h.imp id λ⟨S,o,e,lS,nS,hc⟩=>⟨S,o,e,jL lS k.size,nS,λi x hx=>?_⟩⟩;have⟨u0,u1,h0,h1,r⟩:=hc i x hx;exact⟨u0,u1,(k.cell (p:=(Y S (o+i * 2))) lS).trans h0,(k.cell (p:=(Y S (o+i * 2+1))) lS).trans h1,r.kp (.of k)⟩
def ach(H:KI K)(O:KO K)(hf:Fi K P B w f M G own eO)(s:Sv)(hs:Pl.fj s=b_)(hk:¬s.k=2)(hc:¬s.fn.k=10)(an:oA)(hx:XI (λb=>b<B) w an s.eF)(vs:List Ar)(hv:vs.length=Pl.ar s)(fv:Va)(rv:Fm K P M w fv vs)(hM:Bx w M (gn L m dp) 72)(hm:ib L m):
  Cp 119 #[pT f,q_ s an s.eF.length,fv] w (gI K P M L dp w (La K L s vs m)):=by
 obtain⟨af,cf,rfl,rv⟩:=rv;have lM:=hM.lt;rcases vt hs with k|k|k|k
 ·have ha:Pl.ar s=0:=by simp[Pl.ar,k]
  rw[ha] at hv;obtain rfl:=lP.1 hv;have hn:k_ s.eF=b_:=by unfold Pl.fj at hs;rw[eD k] at hs;simp only[fO] at hs;exact hs.1.1
  exact adB O hf s k hn an hx af cf hM hm
 ·exact absurd k hk
 ·have ha:Pl.ar s=1:=by simp[Pl.ar,k]
  rw[ha] at hv;obtain⟨a,rfl⟩:=zx.1 hv;rcases rv with h|⟨S,o,rfl,lS,nS,mF⟩
  ·cases h
  have⟨u0,u1,c0,c1,r⟩:=mF 0 a rfl;obtain⟨⟨x0,y0,rfl⟩,x1,y1,rfl⟩:=r.1.eS;have e0:o+0 * 2=o:=oM;rw[e0] at c0 c1;have ho:rX s.fn=b_:=by unfold Pl.fj at hs;rw[eB oM,eB oM,eD k] at hs;simp only[fO] at hs;exact hs.1.1
  refine adA (m:=m) hf s k an s.eF.length S o cf lS nS a x0 x1 y0 y1 c0 c1 lM _ λW hW=>?_;show Calls _ _ _ _ (gI K P M L dp W (if s.fn.k=9 then sS L a m else kR (K.k1 s.fn a) m));split
  ·next h9=>exact adw O (hf.below hW) s.fn h9 _ _ a (r.kp (.of hW)) (hM.below hW) hm
  next h9=>exact(aeu H s.fn ((af1 ho hc).resolve_left h9) _ _ _ a W (r.kp (.of hW))).mono λe w' h=>h.ip (hM.below hW) hm
 have ha:Pl.ar s=2:=by simp[Pl.ar,k]
 rw[ha] at hv;match vs,hv with
 |[a,b],_ =>
  rcases rv with h|⟨S,o,rfl,lS,nS,mF⟩
  ·cases h
  have⟨u0,u1,c0,c1,r⟩:=mF 0 a rfl;have⟨u2,u3,c2,c3,r'⟩:=mF 1 b rfl;obtain⟨⟨x0,y0,rfl⟩,x1,y1,rfl⟩:=r.1.eS;obtain⟨⟨x2,y2,rfl⟩,x3,y3,rfl⟩:=r'.1.eS;have e0:o+0 * 2=o:=oM;have e1:o+1 * 2=o+2:=oM;rw[e0] at c0 c1;rw[e1] at c2 c3;have ho:rW s.fn=b_:=by unfold Pl.fj at hs;rw[eB oM,eB oM,eB oM,eD k] at hs;simp only[fO] at hs;exact hs.1.1
  refine adz (m:=m) hf s k an s.eF.length S o cf lS nS a x0 x1 y0 y1 c0 c1 b x2 x3 y2 y3 c2 c3 lM _ λW hW=>?_;exact(aet H s.fn (afh ho hc) _ _ _ _ b a W (r'.kp (.of hW)) (r.kp (.of hW))).mono λe w' h=>h.ip (hM.below hW) hm
def I_(K:Ks)(L:Lm)(nm:lJ->Option Ar)(call:lJ->List Ar->Ms->Pl.Rs)(s:Sv)(vs:List Ar)(m:Ms):Pl.Rs :=
 if s.k=2 then (match nm s.nm with
  |some a=>(.ok a,m)
  |none=>(.error (2,10),m))
 else if s.fn.k=10 then call s.fn.nm vs m else jl (La K L s vs m) λa m=>eG L a m
def Xu(L:Lm)(r:Int × Ar)(m:Ms):jl (kR r m) (λa m=>eG L a m)=fin L r m:=by unfold kR fin;split <;> rfl
def ael(L:Lm)(a:Ar)(m:Ms):jl (sS L a m) (λa m=>eG L a m)=Pl.roll L a m:=by
 unfold sS sQ Pl.roll
 cases L.r
 ·rfl
 simp only[reduceCtorEq,oJ]
 cases Pl.iy a.2 m.s <;> rfl
def ag8(s:Sv)(hs:Pl.fj s=b_)(nm:lJ->Option Ar)(call:lJ->List Ar->Ms->Pl.Rs)(vs:List Ar)(hv:vs.length=Pl.ar s)(m:Ms):I_ K L nm call s vs m=vO K.k1 K.k2 L nm call s vs.reverse m:=by
 unfold I_;rcases vt hs with k|k|k|k
 ·have ha:Pl.ar s=0:=by simp[Pl.ar,k]
  rw[ha] at hv;obtain rfl:=lP.1 hv;have hf:¬s.fn.k=10:=by
   unfold Pl.fj at hs;rw[eD k] at hs;simp only[fO,fQ] at hs;rw[hs.2];decide
  rw[eB oM,eB hf];simp[vO,Pl.tU,k,La,jl]
 ·have ha:Pl.ar s=0:=by simp[Pl.ar,k]
  rw[ha] at hv;obtain rfl:=lP.1 hv;rw[eD k];simp only[vO,Pl.tU,Iy,eD k]
  cases nm s.nm <;> rfl
 ·have ha:Pl.ar s=1:=by simp[Pl.ar,k]
  rw[ha] at hv;obtain⟨a,rfl⟩:=zx.1 hv;rw[eB oM];show _=qG K.k1 L call s a m;unfold qG;split
  ·rfl
  simp only[La];split
  ·exact ael L a m
  exact Xu L _ m
 have ha:Pl.ar s=2:=by simp[Pl.ar,k]
 rw[ha] at hv;match vs,hv with
 |[a,b],_ =>
  rw[eB oM];show _=Pl.mi K.k2 L call s b a m;unfold Pl.mi;split
  ·rfl
  exact Xu L _ m
end
end
section
section
variable {K:Ks} {P:nK} {w w':Wd} {B f M:Nat} {G:Pl.Gb} {own:List Ar} {eO:Option Pl.Tv} {L:Pl.Lm} {m:Pl.Ms} {dp:Int}
def aeb(hf:Fi K P B w f M G own eO)(s:Sv)(hk:s.k=2)(hl:s.nm.length<=1048576)(an:oA)(cn:Nat)(af:oA)(nf cf:Nat)(hM:Bx w M (gn L m dp) 72)(hm:ib L m):
  Cp 90 #[pT f,q_ s an cn,sX af nf cf] w (gI K P M L dp w (match gH G.ns own s.nm with
   |some a=>(.ok a,m)
   |none=>(.error (2,10),m))):=by
 have KA:Hid (∀W,Bl w W->Cp 117 #[pT f,.string (Pl.ba s.nm)] W (aaC K P W (gH G.ns own s.nm))):=λW hW=>afd (hf.below hW) s.nm hl;have HP:=zH λb=>hf.hp b;have HM:=zH hm;have BM:=zH hM;have lM:=hM.lt;unfold q_;rw[hk];generalize gH G.ns own s.nm=r at KA ⊢
 cases r with
 |none =>
  go_enter func90,ntmps90;go_wp2_with fail;refine(KA.o _ gG).l λw1 hb=>?_;exact⟨rfl,iU (bv hb),HM.o,rfl,m.s,BM.o.below (bv hb)⟩
 |some a =>
  go_enter func90,ntmps90;go_wp2_with fail;refine(KA.o _ gG).mono ?_;rintro e w1 ⟨hb,u0,u1,rfl,ro⟩;have HB:=zH (bv (w:=w) hb);have RR:=zH ro;obtain⟨⟨p0,q0,rfl⟩,p1,q1,rfl⟩:=ro.1.eS;have b2:Bx w1 (w.1.size+1) nN 30:=.below (.eK sI) hb;have⟨e2,g2,l2⟩:=b2.all;go_wp2;refine eJ Jf rfl ?_;have:=HB.o;refine⟨iU gG,HM.o,BM.o.below gG,_,_,rfl,(RR.o.kp (((Kp.refl _ _).set ?_ _).set ?_ _)).mono λb h _=>.inl h⟩
  all_goals exact λh=>absurd (HP.o _ h).1 sI
def aec(hf:Fi K P B w f M G own eO)(s:Sv)(hk:¬s.k=2)(hc:s.fn.k=10)(an:oA)(cn:Nat)(af:oA)(nf cf:Nat)(lM:M<w.1.size)(r:Pl.Rs)
  (KC:∀W,Bl w W->Cp 118 #[pT f,.string (Pl.ba s.fn.nm),sX af nf cf] W (gI K P M L dp W r)) :
  Cp 90 #[pT f,q_ s an cn,sX af nf cf] w (gI K P M L dp w r):=by
 have HP:=zH λb=>hf.hp b;have hb2:(s.k == 2)=d_:=gR.2 hk;replace KC:=zH KC;unfold q_;rw[hc];go_enter func90,ntmps90;go_wp2_with fail;generalize hW:ew (ew w _) _=W;have BW:Hid (Bl w W):=by subst hW;exact(show Bl w _ from by go_grown)
 have b2:Hid (Bx W (w.1.size+1) nN 30):=by subst hW;exact Bx.eK sI
 refine(KC.o _ BW.o).mono ?_;rintro e w1 h;have HI:=zH h;obtain⟨q,m'⟩:=r
 cases q with
 |error q =>
  obtain⟨_,_,rfl,_⟩:=h;exact⟨rfl,HI.o.base BW.o⟩
 |ok a' =>
  obtain⟨g,_,bm,u0,u1,rfl,ro⟩:=h;obtain⟨⟨p0,q0,rfl⟩,p1,q1,rfl⟩:=ro.1.eS;have k2:Bx w1 (w.1.size+1) _ 30:=b2.o.eX (g.block _ b2.o.lt J2);have⟨e2,g2,l2⟩:=k2.all;have l3:=b2.o.lt;go_wp2;refine eJ Jf rfl ?_;exact(HI.o.put oM l3 (λb hb=>(HP.o b hb).1) BW.o lM _ _)
def akT.P9(h:ρ:=by
 refine tk 4 (.pointer (sY Z 1)) rfl hS (λ_ _=>kF) ?_;refine tk 5 (sX p1 a.2.length q1) rfl hS (λw h=>by obtain⟨h0,h1⟩:=h;go_simp) ?_;refine tk 6 (I (a.2.length:Int)) rfl hS (λ_ _=>kF) ?_;refine tc 7 _ _ rfl rfl kF ((KU.o _ gG).mono ?_);rintro e w2 ⟨rfl,g2,bm⟩;have j0:Bx w2 f _ 108:=(k0.o.below gG).eX (g2.block f k0.o.lt Jk);have jZ:Bx w2 Z _ 30:=(kZ.o.below gG).eX (g2.block Z kZ.o.lt J2);have j2:Bx w2 (w.1.size+1) _ 30:=(k2.o.below gG).eX (g2.block _ k2.o.lt J2);have G2:=zH (G1.o.trans (C4 g2));have tW:=zH (Ak.o.kp (w':=w2) ⟨g2.size,λb hb hl=>g2.block b hl (by simp;rcases hb with h | h;exact(HP.o b h).2;omega)⟩);have Au:=zH bm;have⟨e0,g0,l0⟩:=j0.all;have⟨eZ,gZ,lZ⟩:=jZ.all;have⟨e2,Cy,l2⟩:=j2.all;refine .inl ⟨_,rfl,⟨e0 0,eZ 1⟩,?_⟩;refine te ?_;go_simp;go_wp2;refine eJ Jf rfl ?_;refine⟨ua G2.o gG,Fp.o,(Au.o.eC J2 _).eC J2 _,_,_,rfl,(tW.o.kp (((Kp.refl _ _).set ?_ _).set ?_ _)).mono λb h _=>h.imp id λh=>oM⟩
 all_goals exact λh=>h.elim (λh=>absurd (HP.o _ h).1 sI) (λh=>by simp at h;omega)
 ):ρ:=h
def akS.P9(h:ρ:=by
 refine tk 4 (.pointer (sY Z 1)) rfl hS (λ_ _=>kF) ?_;refine tk 5 (sX p1 n q1) rfl hS (λw h=>by obtain⟨h0,h1⟩:=h;go_simp) ?_;refine tk 6 (I (n:Int)) rfl hS (λ_ _=>kF) ?_;refine tc 7 _ _ rfl rfl kF ((KU.o _ gG).mono ?_);rintro e w2 ⟨rfl,hb⟩;have hb2:=iq hb;exact .inr ⟨_,rfl,rfl,G1.o.trans (iU hb2),hm.o,rfl,m'.s,kM.o.below hb2⟩
 ):ρ:=h
def afv(O:KO K)(hL:L.c<=100000)(hf:Fi K P B w f M G own eO)(s:Sv)(hk:¬s.k=2)(hc:¬s.fn.k=10)(an:oA)(cn:Nat)(af:oA)(nf cf:Nat)(lM:M<w.1.size)(r:Pl.Rs)
  (KC:∀W,Bl w W->Cp 119 #[pT f,q_ s an cn,sX af nf cf] W (gI K P M L dp W r)) :
  Cp 90 #[pT f,q_ s an cn,sX af nf cf] w (gI K P M L dp w (jl r λa m=>eG L a m)):=by
 have HP:=zH λb=>hf.hp b;have hb2:(s.k == 2)=d_:=gR.2 hk;have eV:(s.fn.k == 10)=d_:=gR.2 hc;obtain⟨bb,ow,sp,b0,n0,_⟩:=hf.fr;have B0:=zH b0;have HO:=zH λa=>O.len a;replace KC:=zH KC;unfold q_ at KC ⊢;obtain⟨q,m'⟩:=r
 cases q with
 |error q =>
  go_enter func90,ntmps90;go_wp2_with fail;refine(KC.o _ gG).mono ?_;rintro e w1 h;have HI:=zH h;obtain⟨_,_,rfl,_⟩:=h;exact⟨rfl,HI.o.base gG⟩
 |ok a =>
  show Calls _ _ _ _ (gI K P M L dp w (eG L a m'));go_enter func90,ntmps90;go_wp2_with fail;generalize hW:ew (ew w _) _=W;have BW:Hid (Bl w W):=by subst hW;exact(show Bl w _ from by go_grown)
  have b2:Hid (Bx W (w.1.size+1) nN 30):=by subst hW;exact Bx.eK sI
  refine(KC.o _ BW.o).mono ?_;rintro e w1 h;have HI:=zH h;obtain⟨g,hm,bm,u0,u1,rfl,ro⟩:=h;obtain⟨⟨p0,q0,rfl⟩,p1,q1,rfl⟩:=ro.1.eS;have hlen:=(HO.o a ro.2).2;have k2:Hid (Bx (w1.alloc (.cells #[sX p0 a.1.length q0,sX p1 a.2.length q1] 30)) (w.1.size+1) _ 30):=(b2.o.eX (g.block _ b2.o.lt J2)).al _;have k0:Hid (Bx (w1.alloc (.cells #[sX p0 a.1.length q0,sX p1 a.2.length q1] 30)) f _ 108):=((B0.o.below BW.o).eX (g.block f (jL B0.o.lt BW.o.size) Jk)).al _;have kM:Hid (Bx (w1.alloc (.cells #[sX p0 a.1.length q0,sX p1 a.2.length q1] 30)) M _ 72):=bm.al _;have kZ:Hid (Bx (w1.alloc (.cells #[sX p0 a.1.length q0,sX p1 a.2.length q1] 30)) w1.1.size #[sX p0 a.1.length q0,sX p1 a.2.length q1] 30):=.eK rfl;have G1:Hid (w.grownBy (w1.alloc (.cells #[sX p0 a.1.length q0,sX p1 a.2.length q1] 30)) (a_ M)):=ua ((iU BW.o).trans g) (by have h1:=g.size;have h2:=BW.o.size;have h3:=jT h2 h1;go_grown);have Ak:Hid (RO K (λb=>P b\/W.1.size<=b) (w1.alloc (.cells #[sX p0 a.1.length q0,sX p1 a.2.length q1] 30)) (sX p0 a.1.length q0) (sX p1 a.2.length q1) a):=ro.kp (Kp.alloc (Kp.refl _ _) _);have l3:=b2.o.lt;have lz:w.1.size+2<=w1.1.size:=by have:=g.size;omega
  have sz:=BW.o.size;replace hm:=zH hm;go_wp2_with fail;generalize w1.alloc _=W1,w1.1.size=Z at *;obtain⟨d0,f0,z0⟩:=k0.o.all;obtain⟨dz,fz,zz⟩:=kZ.o.all;by_cases hx:L.c<m'.c+a.2.length
  ·have e:eG L a m'=(.error (4,0),m'):=by unfold eG;rw[eD hx]
   have KU:Hid (∀W2,Bl W1 W2->Cp 120 #[pT M,I (a.2.length:Int)] W2 λe w'=>e=.panicked [iI 4 0]/\Bl W2 w'):=λW2 mH=>acz (kM.o.below mH) hm.o hL a.2.length hlen hx;rw[e];generalize hn:a.2.length=n at *;refine fT (S:=λw'=>cL w' f 0 (pT M)/\cL w' Z 1 (sX p1 n q1)) kF ⟨d0 0,dz 1⟩ (λhS=>?_);open akS in exact Qv
  have e:eG L a m'=(.ok a,⟨m'.f,m'.c+a.2.length,m'.s⟩):=by unfold eG;rw[eB hx]
  have KU:Hid (∀W2,Bl W1 W2->Cp 120 #[pT M,I (a.2.length:Int)] W2 λe w'=>e=rT (.tuple #[])/\W2.grownBy w' (a_ M)/\Bx w' M (gn L ⟨m'.f,m'.c+a.2.length,m'.s⟩ dp) 72):=λW2 mH=>acy (kM.o.below mH) hm.o hL a.2.length hlen hx;rw[e];have Fp:Hid (ib L ⟨m'.f,m'.c+a.2.length,m'.s⟩):=⟨hm.o.f0,hm.o.f1,by have:=hm.o.c0;simp only;omega,by simp only;omega,hm.o.s0,hm.o.s1⟩;refine fT (S:=λw'=>cL w' f 0 (pT M)/\cL w' Z 1 (sX p1 a.2.length q1)) kF ⟨d0 0,dz 1⟩ (λhS=>?_);open akT in exact Qv
end
end
section
variable {v:Va}{l:List Ar}
section
variable {K:Ks} {P:nK} {w w':Wd} {B f M:Nat} {G:Pl.Gb} {own:List Ar} {eO:Option Pl.Tv} {L:Pl.Lm} {m:Pl.Ms} {dp:Int}
def Sk(K:Ks)(P:nK)(B:Nat)(w:Wd)(v:Va)(l:List Ar):Prop:=∃xs,w.ownsRow B 30 2 v l.length xs/\∀(i:Nat) a,l[i]? = a_ a->∃u0 u1,xs[i * 2]? = a_ u0/\xs[i * 2+1]? = a_ u1/\RO K (λb=>P b/\¬v.ownBlock=a_ b) w u0 u1 a
def Sk.nil:Sk K P B w (nJ) []:=⟨[],IE _ _ _ _,λi a h=>by simp at h⟩
def Sk.form(h:Sk K P B w v l):∃ao cap,v=sX ao l.length cap:=let ⟨_,h,_⟩:=h;rL h
def Sk.lt(h:Sk K P B w v l){b:Nat}(e:v.ownBlock=a_ b):B<=b/\b<w.1.size:=let ⟨_,h,_⟩:=h;h.lt b e
def Sk.kp(h:Sk K P B w v l)(k:Kp (λb=>P b\/v.ownBlock=a_ b) w w'):Sk K P B w' v l:=by
 obtain⟨xs,ho,h⟩:=h;refine⟨xs,qi ho ⟨k.sz,λb hb hl=>k.bk b (.inr hb) hl⟩,λi a hi=>?_⟩;have⟨u0,u1,h0,h1,r⟩:=h i a hi;exact⟨u0,u1,h0,h1,r.kp ⟨k.sz,λb hb hl=>k.bk b (.inl hb.1) hl⟩⟩
def Sk.from{ao:oA}{cap j:Nat}(h:Sk K P B w (sX ao l.length cap) l)(hj:j<=l.length)(hM:¬(Value.slice ao l.length cap).ownBlock=a_ M):∀S o,ao=sY S o->Fm K (λb=>P b/\¬(Value.slice ao l.length cap).ownBlock=a_ b) M w (sX (sY S (o+j * 2)) (l.length-j) (cap-j)) (l.drop j):=by
 intro S o e;obtain⟨xs,ho,h⟩:=h;refine⟨_,_,by rw[qX],?_⟩;by_cases hl:l.length=0
 ·exact .inl (by rw[lP.1 hl];simp)
 have⟨g,eg,hB,hg,hc⟩:=yT ho oM;rw[e] at eg;injection eg with eg;injection eg with e1 e2;subst e1 e2;refine .inr ⟨S,_,rfl,hg,λh=>hM (by rw[e,<- h];rfl),λi x hx=>?_⟩;rw[PZ] at hx;have eI:=(gQ.1 hx).1;have⟨u0,u1,h0,h1,r⟩:=h (j+i) x hx;refine⟨u0,u1,?_,?_,r⟩
 ·rw[show 0+j * 2+i * 2=(j+i) * 2 by omega,hc _ oM,h0]
 rw[show 0+j * 2+i * 2+1=(j+i) * 2+1 by omega,hc _ oM,h1]
end
end
section
def aaF(w:Wd):(sizeOf (prog.elem 56)).run prog w=.ok 2 w:=kF
def IJ:prog.underlying 56=a_ (.slice (prog.elem 56)):=kF
def ah3{o:Oper}{a:Act}{x y:Operand}{ao:oA}{n cap k:Nat}(ho:o.op=Op.slice 56 x c_ (a_ y) c_)(hx:a.eval x=sX ao n cap)(hy:a.eval y=I (k:Int))(hk:k<=cap)(w:Wd):(execOp a.eval o).run prog w=.ok (.value (sX ao k cap)) w:=by
 have e:(Instr.sliceAt 56 (sX ao n cap) c_ (a_ (I (k:Int))) c_).run prog w=.ok (sX ao k cap) w:=by
  rw[zw _ _ _ _ _ _ IJ,run_slice_h _ _ _ _ _ IJ _ _ oM oM,aaF]
  cases ao <;> simp[Result.andThen,sliced,Addr.add]
 simp[execOp,ho,hx,hy,e,Result.andThen]
def ah2{o:Oper}{a:Act}{x y:Operand}{ao:oA}{n cap k:Nat}(ho:o.op=Op.slice 56 x (a_ y) c_ c_)(hx:a.eval x=sX ao n cap)(hy:a.eval y=I (k:Int))(hk:k<=n)(w:Wd):(execOp a.eval o).run prog w=.ok (.value (sX (if cap=k then ao else ao.map (·.add (k * 2))) (n-k) (cap-k))) w:=by
 have e:(Instr.sliceAt 56 (sX ao n cap) (a_ (I (k:Int))) c_ c_).run prog w=.ok (sX (if cap=k then ao else ao.map (·.add (k * 2))) (n-k) (cap-k)) w:=by
  rw[zw _ _ _ _ _ _ IJ,run_slice_l _ _ _ _ _ IJ _ _ oM oM,aaF];simp[Result.andThen,sliced]
 simp[execOp,ho,hx,hy,e,Result.andThen]
section
variable {K:Ks} {P:nK} {w w':Wd} {B f M:Nat} {G:Pl.Gb} {own:List Ar} {eO:Option Pl.Tv} {L:Pl.Lm} {m:Pl.Ms} {dp:Int}
def Sk.cap{ao:oA}{cap:Nat}{l:List Ar}(h:Sk K P B w (sX ao l.length cap) l):l.length<=cap:=by
 obtain⟨xs,ho,_⟩:=h;rcases ho.2 with ⟨e,h0⟩|⟨g,c,cur,e,_,_,h1,_⟩
 ·omega
 injection e with _ _ e3;omega
def Sk.fm{ao:oA}{cap j:Nat}{l:List Ar}(h:Sk K P B w (sX ao l.length cap) l)(hj:j<=l.length)(hM:¬(Value.slice ao l.length cap).ownBlock=a_ M):Fm K (λb=>P b/\¬(Value.slice ao l.length cap).ownBlock=a_ b) M w (sX (if cap=j then ao else ao.map (·.add (j * 2))) (l.length-j) (cap-j)) (l.drop j):=by
 by_cases hl:j=l.length
 ·subst hl
  exact⟨_,_,by rw[qX],.inl sI⟩
 have hc:=h.cap;rw[eB oM];obtain⟨xs,ho,h'⟩:=h;have⟨g,eg,_⟩:=yT ho oM;subst eg;have:=Sk.from (M:=M) ⟨xs,ho,h'⟩ hj hM g 0 rfl;by_cases hz:j=0
 ·subst hz;simpa[Addr.add] using this
 simpa[Addr.add,show ¬j * 2=0 by omega] using this
def RiM{P Q:nK}{w w':Wd}{v:Va}{zs:lI}(k:Kp P w w')(hq:∀q,P q->q<w.1.size->Q q)(h:Ri P w v zs):Ri Q w' v zs:=by
 obtain⟨a,c,e,h1,h2,h⟩:=h;exact⟨a,c,e,h1,h2,h.imp id λ⟨b,o,e,hl,hc⟩=>⟨b,o,e,⟨hq b hl.1 hl.2,jL hl.2 k.sz⟩,λi x hx=>(k.cell hl.1 hl.2).trans (hc i x hx)⟩⟩
def Sk.app{ao:oA}{cap j b c:Nat}{l:List Ar}{x0 x1:oA}{y0 y1:Nat}{a:Ar}(h:Sk K P B w (sX ao l.length cap) l)(hj:j<=l.length)(hl:l.length<=1048576)(el:Bx w b #[sX x0 a.1.length y0,sX x1 a.2.length y1] 30)(ro:RO K (λb=>P b/\¬(Value.slice ao l.length cap).ownBlock=a_ b) w (sX x0 a.1.length y0) (sX x1 a.2.length y1) a)(hB:B<=w.1.size)(ty:TypeId):
  ∃v' w',(Builtin.append_ #[56,56] ty #[sX ao j cap,sX (sY b 0) 1 c]).run prog w=.ok v' w'/\Sk K P B w' v' (l.take j++[a])/\w.grownBy w' (Value.slice ao l.length cap).ownBlock:=by
 obtain⟨xs,ho,h⟩:=h;have hlen:=ho.1;have⟨v',w',hr,ju,hg,wg⟩:=Dh Q8 (af0 ho hj dC) b c #[sX x0 a.1.length y0,sX x1 a.2.length y1] rfl el.cf.1 (by simp[Value.oneCell']) oM hB ty;have eo:(Value.slice ao j cap).ownBlock=(Value.slice ao l.length cap).ownBlock:=by cases ao <;> rfl
 rw[eo] at hg;have hq:∀q,P q/\¬(Value.slice ao l.length cap).ownBlock=a_ q->q<w.1.size->P q/\¬v'.ownBlock=a_ q:=λq hq eI=>⟨hq.1,λe=>by
  rcases wg with wg|wg
  ·exact hq.2 (by rw[<- eo,<- wg,e])
  rw[wg] at e;injection e with e;omega⟩
 have kp:Kp (λq=>P q/\¬(Value.slice ao l.length cap).ownBlock=a_ q) w w':=⟨hg.size,λq hq hl=>hg.block q hl λe=>hq.2 e.symm⟩;have mv:∀{u0 u1:Va} {z:Ar},RO K (λb=>P b/\¬(Value.slice ao l.length cap).ownBlock=a_ b) w u0 u1 z->RO K (λb=>P b/\¬v'.ownBlock=a_ b) w' u0 u1 z:=λ{u0 u1 z} r=>by
  have r1:=r.kp kp;exact⟨⟨RiM kp hq r.1.1,RiM kp hq r.1.2⟩,r.2⟩
 refine⟨v',w',hr,⟨_,by rw[show (l.take j++[a]).length=j+1 by simp;omega];exact ju,λi z hz=>?_⟩,hg⟩;have ht:(xs.take (j * 2)).length=j * 2:=by rw[jH];omega
 by_cases hi:i<j
 ·rw[pA J2,Ix hi] at hz
  obtain⟨p0,p1,h0,h1,r⟩:=h i z hz;refine⟨p0,p1,?_,?_,mv r⟩
  ·rw[pA oM,Ix oM,h0]
  rw[pA oM,Ix oM,h1]
 have Ey:i=j:=by
  have:=(gQ.1 hz).1;simp at this
  omega
 subst Ey;rw[oI J2] at hz;simp[uA hj] at hz
 subst hz;refine⟨_,_,?_,?_,mv ro⟩
 ·rw[oI oM,ht,qt];rfl
 rw[oI oM,ht,Iw];rfl
end
end
section
def I3(K:Ks)(L:Lm)(B f M:Nat)(G:Gb)(own:List Ar)(eO:Option Pl.Tv)(dp:Int)(call:lJ->List Ar->Ms->Pl.Rs):Prop:=∀(Q:nK)(W:Wd) (s:Sv) (an:oA) (vs:List Ar) (fv:Va) (m:Ms),Fi K Q B W f M G own eO->Pl.fj s=b_->s.nm.length<=1048576/\s.fn.nm.length<=1048576->XI (λb=>b<B) W an s.eF->vs.length=Pl.ar s->Fm K Q M W fv vs->Bx W M (gn L m dp) 72->ib L m->Cp 90 #[pT f,q_ s an s.eF.length,fv] W (gI K Q M L dp W (I_ K L (gH G.ns own) call s vs m))
def afj(s:Sv)(hs:Pl.fj s=b_)(an:oA)(cn:Nat)(w:Wd):Cp 89 #[q_ s an cn] w (rB (I (Pl.ar s:Int)) w):=by
 have e:(if s.k=3 then 1 else if s.k=4 then 2 else 0:Int)=(Pl.ar s:Int):=by
  rcases vt hs with k|k|k|k <;> simp[Pl.ar,k]
 rw[<- e];exact Vq s.k s.fn.k s.fn.a s.fn.b an s.eF.length cn (Pl.ba s.nm) (Pl.ba s.fn.nm) w
def Vv(l:List Ar)(n:Nat)(h:n<=l.length):(l.drop (l.length-n)).reverse=l.reverse.take n/\∀a,(l.take (l.length-n)++[a]).reverse=a::l.reverse.drop n:=by
 constructor
 ·rw[List.reverse_drop,show l.length-(l.length-n)=n by omega]
 intro a;rw[Bf,List.reverse_take,show l.length-(l.length-n)=n by omega];rfl
def NK{o:Oper}{a:Act}{s x:Operand}{ts:Array TypeId}{v u v':Va}{w w':Wd}(gO:o.op=Op.call { callee:=Callee.builtin Builtin.append,args:=#[s,x],argTypes:=ts })(hs:a.eval s=v)(hx:a.eval x=u)(hr:(Builtin.append_ ts o.type #[v,u]).run prog w=.ok v' w'):(execOp a.eval o).run prog w=.ok (.value v') w':=by
 simp[execOp,gO,resolve,invoke,builtin,hs,hx,hr,Result.andThen]
def Fm.mono{K:Ks}{P Q:nK}{M:Nat}{w:Wd}{fv:Va}{vs:List Ar}(h:Fm K P M w fv vs)(hq:∀b,P b->b<w.1.size->Q b):Fm K Q M w fv vs:=by
 obtain⟨a,cap,e,h⟩:=h;refine⟨a,cap,e,h.imp id λ⟨S,o,e,lS,nS,hc⟩=>⟨S,o,e,lS,nS,λi x hx=>?_⟩⟩;have⟨u0,u1,h0,h1,r⟩:=hc i x hx;exact⟨u0,u1,h0,h1,r.mono hq⟩
section
variable {K:Ks} {P:nK} {w w':Wd} {B f M:Nat} {G:Pl.Gb} {own:List Ar} {eO:Option Pl.Tv} {L:Pl.Lm} {m:Pl.Ms} {dp:Int}
def Pr{call:lJ->List Ar->Ms->Pl.Rs}(HS:I3 K L B f M G own eO dp call)(hL:kJ L)(hf:Fi K P B w f M G own eO)(c:List Sv)(hc:n6 c)(hn:vg c)(ac:oA)(cp:Nat)(hx:XS B w ac c)(hM:Bx w M (gn L m dp) 72)(hm:ib L m):
  Cp 58 #[pT f,sX ac c.length cp] w (gI K P M L dp w (oW K.k1 K.k2 L (gH G.ns own) call c m)):=by
 obtain⟨fF,t,ht⟩:=hc;rw[<- ahE K.k1 K.k2 L (gH G.ns own) call ht];have⟨r,HR⟩:∃r,Hid (r=r_ K.k1 K.k2 L (gH G.ns own) call c [] m):=⟨_,rfl⟩;rw[<- HR.o];have EN:Hid (sO (c.drop 0) ([]:List Ar).length):=sO.start ht;have HF:=zH hf;have HO:=zH fF.1;have HL:=zH fF.2;have HN:=zH hn;have HX:=zH hx;have HM:=zH hm;have lM:=hM.lt;have BM:=zH hM;have hLf:=hL.f;replace HS:=zH HS;obtain⟨bb,ow,sp,b0,n0,_⟩:=hf.fr;have B0:=zH b0;have⟨n,kQ⟩:=jN (c.length);have hn1:n<=1048576:=kQ.o ▸ HL.o;rw[kQ.o];go_enter func58,ntmps58;go_wp2_with fail;go_loopw [5,11] (λv i wr=>∃(k:Nat)(l:List Ar) (m':Ms) (ao:oA) (cap:Nat),v=sX ao l.length cap/\i=I (k:Int)/\k<=n/\l.length<=k/\Hid (ib L m')/\Hid (r=r_ K.k1 K.k2 L (gH G.ns own) call (c.drop k) l.reverse m')/\Hid (sO (c.drop k) l.length)/\Hid (Sk K (λb=>P b\/w.1.size+1<=b) (w.1.size+1) wr v l)/\Hid (w.grownBy wr (a_ M))/\Hid (Bx wr M (gn L m' dp) 72)/\Hid (Bx wr w.1.size nN 30)) (λ_ i _=>n-(intOf i).toNat)
 case atStart=>exact⟨0,[],m,c_,0,rfl,rfl,vZ _,jR _,HM,HR,EN,Sk.nil,iU gG,BM.o.al _,.eK rfl⟩
 obtain⟨k,l,m',ao,cap,rfl,rfl,hk,hlk,hm,hr,he,hs,hg,oU,hb⟩:=hrel;have j8:=hg.o.size;have lb:=hb.o.lt;have Cs:=zH λb=>HF.o.hp b;by_cases fK:k=n
 ·have e:c.drop k=[]:=Be (by rw[kQ.o];omega)
  rw[e] at hr he;have h1:=he.o.nil;obtain⟨a,rfl⟩:=zx.1 h1;have eN:Hid (r=(.ok a,m')):=hr.o;have⟨xs,ho,Eh⟩:=hs.o;obtain⟨g,rfl,Lz,SK,hc⟩:=yT ho sI;have⟨u0,u1,h0,Cw,ro⟩:=Eh 0 a rfl;have c0:=(hc 0 sI).trans h0;have c1:=(hc 1 sI).trans Cw;obtain⟨⟨p0,q0,rfl⟩,p1,q1,rfl⟩:=ro.1.eS;have RR:=zH ro;obtain⟨d2,f2,z2⟩:=hb.o.all;go_wp2_with fail;go_wp2;refine eJ (by simp[results,results58,go_sem,d2];try rfl) rfl ?_;rw[eN.o];refine⟨ua hg.o gG,hm.o,(oU.o.eC J2 _).eC J2 _,_,_,rfl,(RR.o.kp (((Kp.refl _ _).set ?_ _).set ?_ _)).mono λb h _=>h.1.imp id λh=>oM⟩
  all_goals exact λh=>h.1.elim (λh=>absurd (Cs.o _ h).1 sI) (λh=>by simp at h;omega)
 have eI:(k:Int)<(n:Int):=oM;have iT:k<c.length:=by rw[kQ.o];omega
 have⟨s,iF⟩:∃s,c[k]? = a_ s:=⟨_,fw iT⟩;have tN:c.drop k=s::c.drop (k+1):=by
  exact Qj
 have uE:=my iF;have fj:=zH (ga.1 HO.o s uE);have snm:=zH (HN.o s uE);rw[tN] at hr he;have⟨har,LI⟩:=he.o.step;have As:Hid (Below B w wr):=qd hg.o HF.o.hb HF.o.hs;obtain⟨bc,oc,rfl,lbc,an,yf,oB,rm,hq3,hq4,hq5,hq6,hqx⟩:∃bc oc,ac=sY bc oc/\bc<B/\QS (λb=>b<B) wr bc (oc+k * 7) s:=by
  rcases XS.eG HX.o As.o with h|⟨b,o,h1,h2,h3⟩
  ·rw[h] at iF;simp at iF
  exact⟨b,o,h2,h1,h3 k s iF⟩
 have HXI:=zH hqx;have Ed:bc<wr.1.size:=jL lbc (jT HF.o.hs j8);obtain⟨d0,f0,z0⟩:=(B0.o.eX (hg.o.block f B0.o.lt Jk):Bx wr f _ 108).all;replace LI:=zH LI;by_cases SQ:L.f<=m'.f
 ·have eN:Hid (r=(.error (3,0),m')):=by rw[hr.o];unfold r_ iQ;rw[eD SQ];exact rfl
  go_wp2_with fail;refine(ac8 (oU.o.al _) hm.o SQ).k λw1 hb1=>?_;have hb2:Bl wr w1:=bv hb1;have hI:gI K P M L dp w (.error (3,0),m') (.panicked [iI 3 0]) w1:=⟨ua hg.o (hb2.mono j8),hm.o,rfl,m'.s,oU.o.below hb2⟩;rw[<- eN.o] at hI;exact⟨rfl,hI⟩
 have eN:Hid (r=jl (vO K.k1 K.k2 L (gH G.ns own) call s (l.reverse.take (Pl.ar s)) ⟨m'.f+1,m'.c,m'.s⟩) λa m=>r_ K.k1 K.k2 L (gH G.ns own) call (c.drop (k+1)) (a::l.reverse.drop (Pl.ar s)) m):=by rw[hr.o];show iQ _ _ _=_;unfold iQ;rw[eB SQ]
 have S_:m'.f<L.f:=oM;have Fp:Hid (ib L ⟨m'.f+1,m'.c,m'.s⟩):=⟨by have:=hm.o.f0;simp only;omega,by simp only;omega,hm.o.c0,hm.o.c1,hm.o.s0,hm.o.s1⟩;go_wp2_with fail;refine(ac7 (oU.o.al _) hm.o hLf oM).mono ?_;rintro e w1 ⟨rfl,g1,bm1⟩;have kz:Bx w1 wr.1.size #[I s.k,sX an s.eF.length s.eF.length,.string (Pl.ba s.nm),I s.fn.k,I s.fn.a,I s.fn.b,.string (Pl.ba s.fn.nm)] 118:=(Bx.new wr _ _).eX (g1.block _ sI J2);have yM:=zH bm1;have GA:Hid (wr.grownBy w1 (a_ M)):=(iU gG).trans g1;obtain⟨dz,fz,zz⟩:=kz.all;have KZ:=zH kz;have KT:=zH (afj s fj.o an s.eF.length w1);unfold q_ at KT;go_wp2_with fail;refine KT.o.k λw2 hb2=>?_;have⟨j,Cj⟩:∃j,Hid (j=l.length-Pl.ar s):=⟨_,rfl⟩;have ej:((l.length:Int)-(Pl.ar s:Int))=(j:Int):=by rw[Cj.o];omega
 have hj:j<=l.length:=by rw[Cj.o];omega
 have hll:l.length<=1048576:=oM;have apW:Pl.ar s<=2:=QJ s;have eV:Bl w1 w2.drew:=⟨hb2.os,hb2.tape,hb2.output,hb2.size,hb2.block⟩;have GB:Hid (w.grownBy w2.drew (a_ M)):=(hg.o.trans GA.o).trans (iU eV);have Ue:Hid (Bx w2.drew wr.1.size #[I s.k,sX an s.eF.length s.eF.length,.string (Pl.ba s.nm),I s.fn.k,I s.fn.a,I s.fn.b,.string (Pl.ba s.fn.nm)] 118):=KZ.o.below eV;have Au:Hid (Bx w2.drew M (gn L ⟨m'.f+1,m'.c,m'.s⟩ dp) 72):=yM.o.below eV;have BR2:Hid (Bx w2.drew w.1.size nN 30):=(hb.o.eX (GA.o.block _ hb.o.lt J2)).below eV;have L_:Hid (Sk K (λb=>P b\/w.1.size+1<=b) (w.1.size+1) w2.drew (sX ao l.length cap) l):=hs.o.kp ⟨jT GA.o.size hb2.size,λb hb hl=>(hb2.block b (jL hl GA.o.size)).trans (GA.o.block b hl (by
  simp
  rcases hb with (h|h)|h
  ·exact(Cs.o b h).2
  ·omega
  have:=(hs.o.lt h).1;omega))⟩
 have SZ:Hid (wr.1.size<=w2.1.size):=jT GA.o.size hb2.size;have lzz:wr.1.size<w2.1.size:=jL zz hb2.size;have T9:=λb e=>hs.o.lt (b:=b) e;replace T9:=zH T9;have tZ:=zH As.o;have hwr:IntKind.i64.wrap ((l.length:Int)-(Pl.ar s:Int))=(j:Int):=by rw[ej];go_arith
 go_wp2_with fail;have nM:Hid (¬(Value.slice ao l.length cap).ownBlock=a_ M):=λe=>by have:=(L_.o.lt e).1;omega
 have OZ:Hid (∀b,(Value.slice ao l.length cap).ownBlock=a_ b->w.1.size+1<=b/\b<wr.1.size):=T9;have XW:Hid (XI (λb=>b<B) w2.drew an s.eF):=by
  have k1:=tZ.o;have k2:Below B w w2.drew:=qd GB.o HF.o.hb HF.o.hs;exact HXI.o.mv λb h=>⟨h,λo=>(k2.cell (p:=(Y b o)) h).trans (k1.cell (p:=(Y b o)) h).symm⟩
 have hjc:j<=cap:=jT hj L_.o.cap;obtain⟨dz,fz,zz⟩:=Ue.o.all;have apx:=sizeOf118;have apZ:=isAgg118;refine fT (S:=λw'=>cL w' wr.1.size 0 (I s.k)/\cL w' wr.1.size 1 (sX an s.eF.length s.eF.length)/\cL w' wr.1.size 2 (.string (Pl.ba s.nm))/\cL w' wr.1.size 3 (I s.fn.k)/\cL w' wr.1.size 4 (I s.fn.a)/\cL w' wr.1.size 5 (I s.fn.b)/\cL w' wr.1.size 6 (.string (Pl.ba s.fn.nm))) kF ⟨dz 0,dz 1,dz 2,dz 3,dz 4,dz 5,dz 6⟩ (λhS=>?_);refine tk 0 (sX ao l.length cap) rfl hS (λ_ _=>kF) ?_;refine tk 1 (I (j:Int)) rfl hS (λ_ _=>kF) ?_;refine tk 2 (sX ao j cap) rfl hS (λw _=>ah3 (n:=l.length) rfl kF kF hjc w) ?_;refine tk 3 (pT f) rfl hS (λ_ _=>kF) ?_;refine tk 4 (.agg #[I s.k,sX an s.eF.length s.eF.length,.string (Pl.ba s.nm),I s.fn.k,I s.fn.a,I s.fn.b,.string (Pl.ba s.fn.nm)]) rfl hS (λw h=>by obtain⟨h0,h1,h2,h3,h4,h5,h6⟩:=h;go_simp) ?_;refine tk 5 (sX ao l.length cap) rfl hS (λ_ _=>kF) ?_;refine tk 6 (I (j:Int)) rfl hS (λ_ _=>kF) ?_;refine tk 7 (sX (if cap=j then ao else ao.map (·.add (j * 2))) (l.length-j) (cap-j)) rfl hS (λw _=>ah2 (n:=l.length) (cap:=cap) (k:=j) rfl kF kF hj w) ?_;have hW:wr.1.size<=w2.drew.1.size:=Bc lzz;generalize w2.drew=W at *;have FQ:Fi K (λb=>(b<W.1.size/\(P b\/w.1.size+1<=b))/\¬(Value.slice ao l.length cap).ownBlock=a_ b) B W f M G own eO:=(HF.o.kp GB.o).mono (λb hb=>⟨⟨jL (Cs.o b hb).1 GB.o.size,.inl hb⟩,λe=>by have:=(OZ.o b e).1;have:=(Cs.o b hb).1;omega⟩) (λb hb=>⟨hb.1.1,hb.1.2.elim (λh=>(Cs.o b h).2) (λh=>oM)⟩);have FM:=(L_.o.fm (j:=j) hj nM.o).mono (Q:=λb=>(b<W.1.size/\(P b\/w.1.size+1<=b))/\¬(Value.slice ao l.length cap).ownBlock=a_ b) λb hb hl=>⟨⟨hl,hb.1⟩,hb.2⟩;have hv:(l.drop j).length=Pl.ar s:=by rw[qX,Cj.o];omega
 have HH:=HS.o _ W s an (l.drop j) _ _ FQ fj.o snm.o XW.o hv FM Au.o Fp.o;rw[ag8 s fj.o _ _ _ hv,show (l.drop j).reverse=l.reverse.take (Pl.ar s) by rw[Cj.o];exact(Vv l _ har).1] at HH;refine tc 8 90 #[pT f,.agg #[I s.k,sX an s.eF.length s.eF.length,.string (Pl.ba s.nm),I s.fn.k,I s.fn.a,I s.fn.b,.string (Pl.ba s.fn.nm)],sX (if cap=j then ao else ao.map (·.add (j * 2))) (l.length-j) (cap-j)] rfl rfl kF (HH.mono ?_);generalize vO K.k1 K.k2 L (gH G.ns own) call s (l.reverse.take (Pl.ar s)) ⟨m'.f+1,m'.c,m'.s⟩=rs at eN ⊢;rintro e w4 h;obtain⟨q,m3⟩:=rs
 cases q with
 |error q =>
  obtain⟨g,jw,rfl,s',bm⟩:=h;have hI:gI K P M L dp w (.error q,m3) (.panicked [iI q.1 q.2]) w4:=⟨GB.o.trans g,jw,rfl,s',bm⟩;have gC:r=(.error q,m3):=eN.o;rw[<- gC] at hI;exact .inr ⟨_,rfl,rfl,hI⟩
 |ok a =>
  obtain⟨g,jw,bm,u0,u1,rfl,ro⟩:=h;obtain⟨⟨p0,q0,rfl⟩,p1,q1,rfl⟩:=ro.1.eS;have gC:Hid (r=r_ K.k1 K.k2 L (gH G.ns own) call (c.drop (k+1)) (l.take j++[a]).reverse m3):=by rw[eN.o,Cj.o,(Vv l _ har).2 a];exact rfl
  have kz:Bx w4 wr.1.size #[I s.k,sX an s.eF.length s.eF.length,.string (Pl.ba s.nm),I s.fn.k,I s.fn.a,I s.fn.b,.string (Pl.ba s.fn.nm)] 118:=Ue.o.eX (g.block _ Ue.o.lt J2);have kr:Bx w4 w.1.size nN 30:=BR2.o.eX (g.block _ BR2.o.lt J2);have sk:Sk K (λb=>P b\/w.1.size+1<=b) (w.1.size+1) w4 (sX ao l.length cap) l:=L_.o.kp ⟨g.size,λb hb hl=>g.block b hl (by
   simp
   rcases hb with (h|h)|h
   ·exact(Cs.o b h).2
   ·omega
   have:=(OZ.o b h).1;omega)⟩
  have Kr:RO K (λb=>(P b\/w.1.size+1<=b)/\¬(Value.slice ao l.length cap).ownBlock=a_ b) w4 (sX p0 a.1.length q0) (sX p1 a.2.length q1) a:=ro.mono λb hb hl=>by
   rcases hb with h|h
   ·exact⟨h.1.2,h.2⟩
   exact⟨.inr oM,λe=>by have:=(OZ.o b e).2;omega⟩
  have be:Bl w4 (w4.alloc (.cells #[sX p0 a.1.length q0,sX p1 a.2.length q1] 30)):=gG;have⟨v',w5,Lj,sk5,g5⟩:=Sk.app (c:=1) (sk.kp (.of be)) hj hll (Bx.new w4 #[sX p0 a.1.length q0,sX p1 a.2.length q1] 30) (Kr.kp (.of be)) (by have:=GB.o.size;have:=g.size;simp;omega) 56;obtain⟨TR,Q9,rfl⟩:=sk5.form;have kz5:Bx w5 wr.1.size #[I s.k,sX an s.eF.length s.eF.length,.string (Pl.ba s.nm),I s.fn.k,I s.fn.a,I s.fn.b,.string (Pl.ba s.fn.nm)] 118:=(kz.al _).eX (g5.block _ (by have:=kz.lt;simp;omega) (λe=>by have:=(OZ.o _ e.symm).2;omega));have kr5:Bx w5 w.1.size nN 30:=(kr.al _).eX (g5.block _ (by have:=kr.lt;simp;omega) (λe=>by have:=(OZ.o _ e.symm).1;omega));have km5:Bx w5 M (gn L m3 dp) 72:=(bm.al _).eX (g5.block _ (by have:=bm.lt;simp;omega) (λe=>by have:=(OZ.o _ e.symm).1;omega));have g6:w.grownBy w5 (a_ M):=ua (GB.o.trans g) ⟨g5.os,g5.tape,g5.output,by have:=g5.size;simp at this;omega,λb hb=>by
   have h1:=GB.o.size;have h2:=g.size;have e1:=g5.block b J2 (λe=>by have:=(OZ.o _ e.symm).1;omega);exact e1.trans (be.block b oM)⟩
  have⟨e4,g4,l4⟩:=kz.all;have⟨e5,g5',l5⟩:=kz5.all;have rI:=zH jw;have SK5:=zH sk5;have G6:=zH g6;have KM5:=zH km5;have KR5:=zH kr5;refine .inl ⟨_,rfl,⟨e4 0,e4 1,e4 2,e4 3,e4 4,e4 5,e4 6⟩,?_⟩;refine tv 9 (sX (sY w4.1.size 0) 1 1) (w4.alloc (.cells #[sX p0 a.1.length q0,sX p1 a.2.length q1] 30)) rfl rfl JQ ⟨by go_simp,by go_simp,by go_simp,by go_simp,by go_simp,by go_simp,by go_simp⟩ ?_;refine tv 10 (.slice TR (l.take j++[a]).length Q9) w5 rfl rfl (NK rfl kF kF Lj) ⟨e5 0,e5 1,e5 2,e5 3,e5 4,e5 5,e5 6⟩ ?_;refine tk 11 (.slice TR (l.take j++[a]).length Q9) rfl ⟨e5 0,e5 1,e5 2,e5 3,e5 4,e5 5,e5 6⟩ (λ_ _=>kF) ?_;refine te ?_;have hlen:Hid ((l.take j++[a]).length=j+1):=by show _=_;simp;omega
  have EN2:Hid (sO (c.drop (k+1)) (l.take j++[a]).length):=by rw[hlen.o,Cj.o];exact LI.o
  generalize l.take j++[a]=l2 at *;go_simp;go_wp2;go_roundw
  case rel=>exact⟨k+1,l2,m3,TR,Q9,rfl,gN,oM,by rw[hlen.o];omega,rI,gC,EN2,SK5,G6,KM5,KR5⟩
  simp[intOf];omega
end
end
section
variable {call:lJ->List Ar->Ms->Pl.Rs}
def aaB(K:Ks)(L:Lm)(B f M:Nat)(G:Gb)(own:List Ar)(eO:Option Pl.Tv)(dp:Int)(call:lJ->List Ar->Ms->Pl.Rs):Prop:=∀(Q:nK)(W:Wd) (nm:lJ) (vs:List Ar) (fv:Va) (m:Ms),Fi K Q B W f M G own eO->nm.length<=1048576->(vs.length=1\/vs.length=2)->Fm K Q M W fv vs->Bx W M (gn L m dp) 72->ib L m->Cp 118 #[pT f,.string (Pl.ba nm),fv] W (gI K Q M L dp W (call nm vs m))
def Bz(d:lI):Ending:=if d=[1] then rT (.bool b_) else if d=[0] then rT (.bool d_) else .panicked [iI 2 1]
def Wu{d:lI}(h1:¬d=[1])(h0:¬d=[0]):Bz d=.panicked [iI 2 1]:=by unfold Bz;rw[eB h1,eB h0]
section
variable {K:Ks} {P:nK} {w w':Wd} {B f M:Nat} {G:Pl.Gb} {own:List Ar} {eO:Option Pl.Tv} {L:Pl.Lm} {m:Pl.Ms} {dp:Int}
def VW(H:KI K)(O:KO K)(hL:kJ L)(HC:aaB K L B f M G own eO dp call):I3 K L B f M G own eO dp call:=by
 intro Q W s an vs fv m hf hs hn hx hv rv hM hm;unfold I_;have ao3:=rv;obtain⟨af,cf,rfl,_⟩:=ao3;by_cases hk:s.k=2
 ·rw[eD hk]
  exact aeb hf s hk hn.1 an _ af _ cf hM hm
 rw[eB hk];by_cases hc:s.fn.k=10
 ·rw[eD hc]
  have zN:vs.length=1\/vs.length=2:=by
   rcases vt hs with k|k|k|k
   ·exfalso
    unfold Pl.fj at hs;rw[eD k] at hs;simp only[fO,fQ] at hs;rw[hs.2] at hc;exact absurd hc dC
   ·exact absurd k hk
   ·exact .inl (by rw[hv];simp[Pl.ar,k])
   exact .inr (by rw[hv];simp[Pl.ar,k])
  exact aec hf s hk hc an _ af _ cf hM.lt _ λW' hW=>HC Q W' s.fn.nm vs _ m (hf.below hW) hn.2 zN (rv.eG hW) (hM.below hW) hm
 rw[eB hc];refine afv O hL.c hf s hk hc an _ af _ cf hM.lt _ λW' hW=>?_;refine ach H O (hf.below hW) s hs hk hc an ?_ vs hv _ (rv.eG hW) (hM.below hW) hm;exact hx.mv λb h=>⟨h,λo=>hW.cell (p:=(Y b o)) (jL h hf.hs)⟩
def aeW(HS:I3 K L B f M G own eO dp call)(hL:kJ L)(hf:Fi K P B w f M G own eO)(c:List Sv)(hc:n6 c)(hn:vg c)(ac:oA)(cp:Nat)(hx:XS B w ac c)(hM:Bx w M (gn L m dp) 72)(hm:ib L m):
  Cp 180 #[pT f,sX ac c.length cp] w λe w'=>w.grownBy w' (a_ M)/\match oW K.k1 K.k2 L (gH G.ns own) call c m with
   |(.ok t,m')=>ib L m'/\Bx w' M (gn L m' dp) 72/\e=Bz t.2
   |(.error q,m')=>ib L m'/\e=.panicked [iI q.1 q.2]/\∃s',Bx w' M (gn L ⟨m'.f,m'.c,s'⟩ dp) 72:=by
 have KD:=zH (Pr HS hL hf c hc hn ac cp hx hM hm);generalize oW K.k1 K.k2 L (gH G.ns own) call c m=r at KD ⊢;have KN:=zH λc=>yP c;have KY:=zH λc=>yN c;obtain⟨q,m'⟩:=r
 cases q with
 |error q =>
  go_enter func180,ntmps180;go_wp2_with fail;refine KD.o.mono ?_;rintro e w1 ⟨g,hm,rfl,s',bm⟩;exact⟨rfl,g,hm,rfl,s',bm⟩
 |ok t =>
  obtain⟨sh,da⟩:=t;have⟨E,HE⟩:∃E,Hid (E=Bz da):=⟨_,rfl⟩;have⟨n,HN⟩:∃n,Hid (n=da.length):=⟨_,rfl⟩;simp only;rw[<- HE.o];by_cases hn:n=1
  rotate_left 1
  ·have hE:Hid (E=.panicked [iI 2 1]):=by
    rw[HE.o];exact Wu (λh=>hn (by rw[HN.o,h];rfl)) (λh=>hn (by rw[HN.o,h];rfl))
   have hb1:((n:Int) != 1)=b_:=by simp;omega
   go_enter func180,ntmps180;go_wp2_with fail;refine KD.o.mono ?_;rintro e w1 ⟨g,hm,bm,u0,u1,rfl,ro⟩;obtain⟨⟨p0,q0,rfl⟩,p1,q1,rfl⟩:=ro.1.eS;simp only;rw[<- HN.o];have HG:Hid (w.grownBy (w1.alloc (.cells #[sX p0 sh.length q0,sX p1 n q1] 30)) (a_ M)):=g.trans (iU gG);have HM:=zH hm;have BM:Hid (Bx (w1.alloc (.cells #[sX p0 sh.length q0,sX p1 n q1] 30)) M _ 72):=bm.al _;go_wp2_with (go_at_call 59;refine(KY.o _ _).mono ?_;rintro e w' ⟨rfl,rfl⟩)
   exact⟨rfl,HG.o,HM.o,BM.o,hE.o.symm⟩
  subst hn;obtain⟨v,rfl⟩:=zx.1 HN.o.symm;have HV:Hid ((v=1/\E=rT (.bool b_))\/(v=0/\E=rT (.bool d_))\/(¬v=1/\¬v=0/\E=.panicked [iI 2 1])):=by
   rw[HE.o];by_cases h1:v=1
   ·subst h1;exact .inl ⟨rfl,rfl⟩
   by_cases h0:v=0
   ·subst h0;exact .inr (.inl ⟨rfl,rfl⟩)
   exact .inr (.inr ⟨h1,h0,Wu (by simpa using h1) (by simpa using h0)⟩)
  go_enter func180,ntmps180;go_wp2_with fail;refine KD.o.mono ?_;rintro e w1 ⟨g,hm,bm,u0,u1,rfl,ro⟩;obtain⟨⟨p0,q0,rfl⟩,p1,q1,rfl⟩:=ro.1.eS;obtain⟨b,o,e1,hb,hc⟩:∃b o,p1=sY b o/\b<w1.1.size/\cL w1 b o (I v):=by
   obtain⟨a,k,e,_,_,h|⟨b,o,e',hb,hc⟩⟩:=ro.1.2
   ·cases h
   simp only[s7] at e;exact⟨b,o,e.1.trans e',hb.2,hc 0 v rfl⟩
  subst e1;have HG:Hid (w.grownBy (w1.alloc (.cells #[sX p0 sh.length q0,sX (sY b o) 1 q1] 30)) (a_ M)):=g.trans (iU gG);have HM:=zH hm;have BM:Hid (Bx (w1.alloc (.cells #[sX p0 sh.length q0,sX (sY b o) 1 q1] 30)) M _ 72):=bm.al _;rcases HV.o with ⟨rfl,hE⟩|⟨rfl,hE⟩|⟨h1,h0,hE⟩
  ·exact ZA
  ·exact ZA
  have b0:(v != 0)=b_:=by simpa using h0
  have b1:(v != 1)=b_:=by simpa using h1
  go_wp2_with (go_at_call 59;refine(KY.o _ _).mono ?_;rintro e w' ⟨rfl,rfl⟩)
  exact⟨rfl,HG.o,HM.o,BM.o,hE.symm⟩
end
end
section
section
variable {K:Ks} {P:nK} {w w':Wd} {B f M:Nat} {G:Pl.Gb} {own:List Ar} {eO:Option Pl.Tv} {L:Pl.Lm} {m:Pl.Ms} {dp:Int}
def agX{call:lJ->List Ar->Ms->Pl.Rs}(t:Pl.Tv)(HS:I3 K L B f M G own (a_ t) dp call)(hL:kJ L)(hf:Fi K P B w f M G own (a_ t))(hM:Bx w M (gn L m dp) 72)(hm:ib L m):
  Cp 156 #[pT f] w (gI K P M L dp w (nT (oW K.k1 K.k2 L (gH G.ns own) call) t.code t.gs m)):=by
 obtain⟨bb,ow,sp,b0,n0,n1,_,_,hFI,bt,a1,c1,a2,c2,rfl,nt,btx,xs,xg⟩:=hf.fr;have HF:=zH hf;have KH:Hid (∀W (c:List Sv) ac cp (m:Ms),w.grownBy W (a_ M)->n6 c->vg c->XS B W ac c->Bx W M (gn L m dp) 72->ib L m->Cp 180 #[pT f,sX ac c.length cp] W λe w'=>W.grownBy w' (a_ M)/\match oW K.k1 K.k2 L (gH G.ns own) call c m with
   |(.ok t,m')=>ib L m'/\Bx w' M (gn L m' dp) 72/\e=Bz t.2
   |(.error q,m')=>ib L m'/\e=.panicked [iI q.1 q.2]/\∃s',Bx w' M (gn L ⟨m'.f,m'.c,s'⟩ dp) 72):=λW c ac cp m g h1 h2 h3 h4 h5=>aeW HS hL (hf.kp g) c h1 h2 ac cp h3 h4 h5
 have KD:Hid (∀W (c:List Sv) ac cp (m:Ms),w.grownBy W (a_ M)->n6 c->vg c->XS B W ac c->Bx W M (gn L m dp) 72->ib L m->Cp 58 #[pT f,sX ac c.length cp] W (gI K P M L dp W (oW K.k1 K.k2 L (gH G.ns own) call c m))):=λW c ac cp m g h1 h2 h3 h4 h5=>Pr HS hL (hf.kp g) c h1 h2 ac cp h3 h4 h5;generalize oW K.k1 K.k2 L (gH G.ns own) call=ex at KH KD ⊢;have⟨r,HR⟩:∃r,Hid (r=nT ex t.code (t.gs.drop 0) m):=⟨_,rfl⟩;rw[show nT ex t.code t.gs m=nT ex t.code (t.gs.drop 0) m from rfl,<- HR.o];have HI:=zH hFI;have HX:=zH xs;have HG:=zH xg;have HM:=zH hm;have BM:=zH hM;have lM:=hM.lt;have B0:=zH b0;have BT:=zH btx;have hP:=zH λb=>hf.hp b;obtain⟨d0,f0,z0⟩:=b0.all;obtain⟨dt,ft,zt⟩:=btx.all;have hB:=zH (jA hf.hb hf.hs);have⟨n,HN⟩:=jN (t.gs.length);have hn1:n<=1048576:=HN.o ▸ hFI.1.2.2.1;rw[HN.o] at dt BT;go_enter func156,ntmps156;go_wp2_with fail;go_loopw [13] (λi wr=>∃(k:Nat)(m':Ms),i=I (k:Int)/\k<=n/\Hid (ib L m')/\Hid (r=nT ex t.code (t.gs.drop k) m')/\Hid (w.grownBy wr (a_ M))/\Hid (Bx wr M (gn L m' dp) 72)/\Hid (Bx wr w.1.size nN 30)) (λi _=>n-(intOf i).toNat)
 case atStart=>exact⟨0,m,rfl,vZ _,HM,HR,iU gG,BM.o.al _,.eK rfl⟩
 obtain⟨k,m',rfl,hk,hm,hr,hg,oU,hb⟩:=hrel;have j8:=hg.o.size;have kt:Bx wr bt _ 60:=BT.o.eX (hg.o.block bt BT.o.lt (by simpa using nt));have k0:Bx wr f _ 108:=B0.o.eX (hg.o.block f B0.o.lt Jk);have As:Hid (Below B w wr):=qd hg.o hB.o.1 hB.o.2;obtain⟨d0,f0,z0⟩:=k0.all;obtain⟨dt,ft,zt⟩:=kt.all;by_cases fK:k=n
 ·have e:t.gs.drop k=[]:=Be JH
  have eN:Hid (r=ex t.code m'):=by rw[hr.o,e];exact rfl
  have KE:=zH (KD.o wr t.code a1 c1 m' hg.o HI.o.1.2.1 HI.o.2.1 (XS.eG HX.o As.o) oU.o hm.o);generalize ex t.code m'=rr at eN KE;go_wp2_with fail;refine KE.o.mono ?_;rintro e w1 h;have HH:=zH h;obtain⟨q,m3⟩:=rr
  cases q with
  |error q =>
   obtain⟨g,jw,rfl,s',bm⟩:=h;have hI:gI K P M L dp w (.error q,m3) (.panicked [iI q.1 q.2]) w1:=⟨hg.o.trans g,jw,rfl,s',bm⟩;rw[<- eN.o] at hI;exact⟨rfl,hI⟩
  |ok a =>
   obtain⟨g,jw,bm,u0,u1,rfl,ro⟩:=h;obtain⟨⟨p0,q0,rfl⟩,p1,q1,rfl⟩:=ro.1.eS;have kb:Bx w1 w.1.size _ 30:=hb.o.eX (g.block _ hb.o.lt J2);have G2:=zH (hg.o.trans g);have rI:=zH jw;have FB:=zH bm;have RR:=zH ro;have lw:=hb.o.lt;have⟨e2,g2,l2⟩:=kb.all;go_wp2;refine eJ (by simp[results,results156,go_sem,e2];try rfl) rfl ?_;rw[eN.o];refine⟨ua G2.o gG,rI.o,(FB.o.eC J2 _).eC J2 _,_,_,rfl,(RR.o.kp (((Kp.refl _ _).set ?_ _).set ?_ _)).mono λb h _=>h.imp id λh=>oM⟩
   all_goals exact λh=>h.elim (λh=>absurd (hP.o _ h).1 sI) (λh=>by simp at h;omega)
 have eI:(k:Int)<(n:Int):=oM;have iT:k<t.gs.length:=by rw[HN.o];omega
 have⟨g,fR⟩:∃g,t.gs[k]? = a_ g:=⟨_,fw iT⟩;have tN:t.gs.drop k=g::t.gs.drop (k+1):=by
  rw[qW iT];rw[fw iT] at fR;injection fR with fR;rw[fR]
 have uE:=my fR;have gok:=zH (HI.o.1.2.2.2 g uE);have gnm:=zH (HI.o.2.2 g uE);have eN:Hid (r=jl (ex g.test m') λx m=>if x.2=[1] then ex g.eT m else if x.2=[0] then nT ex t.code (t.gs.drop (k+1)) m else (.error (2,1),m)):=by rw[hr.o,tN];exact rfl
 obtain⟨bg,og,rfl,lbg,t1,p1,t2,p2,c0,yz,x1,x2⟩:∃bg og,a2=sY bg og/\bg<B/\QG (λb=>b<B) wr bg (og+k * 2) g:=by
  rcases XG.eG HG.o As.o with h|⟨b,o,h1,h2,h3⟩
  ·rw[h] at fR;simp at fR
  exact⟨b,o,h2,h1,h3 k g fR⟩
 have Ed:bg<wr.1.size:=jL lbg (jT hB.o.2 j8);have be:Bl wr (wr.alloc (.cells #[sX t1 g.test.length p1,sX t2 g.eT.length p2] 91)):=gG;have G1:Hid (w.grownBy (wr.alloc (.cells #[sX t1 g.test.length p1,sX t2 g.eT.length p2] 91)) (a_ M)):=hg.o.trans (iU be);have Ah:Below B wr (wr.alloc (.cells #[sX t1 g.test.length p1,sX t2 g.eT.length p2] 91)):=be.mono (jT hB.o.2 j8);have KE:=zH (KH.o _ g.test t1 p1 m' G1.o gok.o.1 gnm.o.1 (XS.eG x1 Ah) (oU.o.below be) hm.o);have X2:=zH (XS.eG x2 Ah);have Bb:=zH (hb.o.below be);have Bg:Hid (Bx (wr.alloc (.cells #[sX t1 g.test.length p1,sX t2 g.eT.length p2] 91)) wr.1.size _ 91):=Bx.new _ _ _;generalize ex g.test m'=rr at eN KE;go_wp2_with fail;generalize wr.alloc _=W,hZ:wr.1.size=Z at *;refine KE.o.mono ?_;rintro e w1 ⟨g1,h⟩;have kb:Bx w1 w.1.size _ 30:=Bb.o.eX (g1.block _ Bb.o.lt J2);have kg:Bx w1 Z _ 91:=Bg.o.eX (g1.block _ Bg.o.lt J2);have G2:=zH (G1.o.trans g1);have X3:Hid (XS B w1 t2 g.eT):=XS.eG X2.o ⟨g1.os,g1.tape,g1.output,g1.size,λb hb=>g1.block b (jL hb (jT hB.o.2 G1.o.size)) (by simp;have:=hB.o.1;omega)⟩;have KB:=zH kb;have⟨dg,fg,zg⟩:=kg.all;obtain⟨q,m3⟩:=rr
 cases q with
 |error q =>
  obtain⟨jw,rfl,s',bm⟩:=h;have hI:gI K P M L dp w (.error q,m3) (.panicked [iI q.1 q.2]) w1:=⟨G2.o,jw,rfl,s',bm⟩;have gC:r=(.error q,m3):=eN.o;rw[<- gC] at hI;exact⟨rfl,hI⟩
 |ok x =>
  obtain⟨jw,bm,he⟩:=h;have rI:=zH jw;have FB:=zH bm;have gC:Hid (r=if x.2=[1] then ex g.eT m3 else if x.2=[0] then nT ex t.code (t.gs.drop (k+1)) m3 else (.error (2,1),m3)):=eN.o;unfold Bz at he;by_cases h1:x.2=[1]
  rotate_left 1
  ·rw[eB h1] at he gC
   by_cases h0:x.2=[0]
   ·rw[eD h0] at he gC
    subst he;go_wp2;go_roundw
    case rel=>exact⟨k+1,m3,gN,oM,rI,gC,G2,FB,KB⟩
    simp[intOf];omega
   rw[eB h0] at he gC;subst he;have hI:gI K P M L dp w (.error (2,1),m3) (.panicked [iI 2 1]) w1:=⟨G2.o,rI.o,rfl,m3.s,FB.o⟩;rw[<- gC.o] at hI;exact⟨rfl,hI⟩
  rw[eD h1] at he gC;subst he;have KF:=zH (KD.o w1 g.eT t2 p2 m3 G2.o gok.o.2 gnm.o.2 X3.o FB.o rI.o);generalize ex g.eT m3=rr at gC KF;go_wp2_with fail;refine KF.o.mono ?_;rintro e w2 h;obtain⟨q,m4⟩:=rr
  cases q with
  |error q =>
   obtain⟨g2,nI,rfl,s',bm⟩:=h;have hI:gI K P M L dp w (.error q,m4) (.panicked [iI q.1 q.2]) w2:=⟨G2.o.trans g2,nI,rfl,s',bm⟩;rw[<- gC.o] at hI;exact⟨rfl,hI⟩
  |ok a =>
   obtain⟨g2,nI,bm,u0,u1,rfl,ro⟩:=h;obtain⟨⟨p0,q0,rfl⟩,p3,q3,rfl⟩:=ro.1.eS;have kb:Bx w2 w.1.size _ 30:=KB.o.eX (g2.block _ KB.o.lt J2);have G3:=zH (G2.o.trans g2);have HM4:=zH nI;have BM4:=zH bm;have RR:=zH ro;have lw:=KB.o.lt;have⟨e2,Cy,l2⟩:=kb.all;go_wp2;refine eJ (by simp[results,results156,go_sem,e2];try rfl) rfl ?_;rw[gC.o];refine⟨ua G3.o gG,HM4.o,(BM4.o.eC J2 _).eC J2 _,_,_,rfl,(RR.o.kp (((Kp.refl _ _).set ?_ _).set ?_ _)).mono λb h _=>h.imp id λh=>oM⟩
   all_goals exact λh=>h.elim (λh=>absurd (hP.o _ h).1 sI) (λh=>by simp at h;omega)
end
end
section
section
variable {K:Ks} {P:nK} {w w':Wd} {B f M:Nat} {G:Pl.Gb} {own:List Ar} {eO:Option Pl.Tv} {L:Pl.Lm} {m:Pl.Ms} {dp:Int}
def UT(h:Bx w M (gn L m dp) 72)(h0:0<dp)(h1:dp<=50)(u:FrameMode):CallsD prog 154 #[pT M] u w λe u' w'=>u'=u/\(e=rT (.tuple #[])/\w'=w.setCell (Y M 7) (I (dp-1))):=by
 obtain⟨d0,f0,z0⟩:=h.all;go_enter_d func154,ntmps154
 exact mM
def VP(hf:Fi K P B w f M G own eO)(nm:lJ)(hn:nm.length<=1048576)(h:mX G.fs eO nm=c_)(fv:Va)(hM:Bx w M (gn L m dp) 72)(hm:ib L m):
  Cp 118 #[pT f,.string (Pl.ba nm),fv] w (gI K P M L dp w (.error (2,10),m)):=by
 have KF:=zH λW (hW:Bl w W)=>MN (hf.below hW) (jL hM.lt hW.size) nm hn;rw[h] at KF;have HM:=zH hm;have BM:=zH hM;go_enter_defers func118,ntmps118
 go_wp2_with fail;refine(KF.o _ gG).l λw1 hb=>?_;exact(show gI K P M L dp w (.error (2,10),m) (.panicked [iI 2 10]) w1 from ⟨iU (bv hb),HM.o,rfl,m.s,BM.o.below (bv hb)⟩)
def afa(hf:Fi K P B w f M G own eO)(nm:lJ)(hn:nm.length<=1048576)(t:Pl.Tv)(h:mX G.fs eO nm=a_ t)(fv:Va)(hM:Bx w M (gn L m 50) 72)(hm:ib L m):
  Cp 118 #[pT f,.string (Pl.ba nm),fv] w (gI K P M L 50 w (.error (2,13),m)):=by
 have KF:=zH λW (hW:Bl w W)=>MN (hf.below hW) (jL hM.lt hW.size) nm hn;rw[h] at KF;obtain⟨bb,ow,sp,b0,n0,_⟩:=hf.fr;have B0:=zH b0;have HM:=zH hm;have BM:=zH hM;go_enter_defers func118,ntmps118
 go_wp2_with fail;refine(KF.o _ gG).mono ?_;rintro e w1 ⟨hb,bt,rfl,nt,tb⟩;obtain⟨d0,f0,z0⟩:=(B0.o.below (bv hb)).all;have KE:=zH (acx (BM.o.below (bv hb)));have HB:=zH (bv (w:=w) hb);go_wp2_with fail;refine KE.o.k λw2 hb=>?_;exact(show gI K P M L 50 w (.error (2,13),m) (.panicked [iI 2 13]) w2 from ⟨iU (bv hb HB.o),HM.o,rfl,m.s,BM.o.below (bv hb HB.o)⟩)
def amB.P9(h:ρ:=by
 refine tk 4 (pT f) rfl hS (λ_ _=>kF) ?_;refine tk 5 (pT f) rfl hS (λ_ _=>kF) ?_;refine tk 6 (.pointer (sY f 1)) rfl hS (λ_ _=>kF) ?_;refine tk 7 (pT bb) rfl hS (λw h=>by obtain⟨h0,h1⟩:=h;go_simp) ?_;refine tk 8 (sX (sY S o) vs.length cf) rfl hS (λ_ _=>kF) ?_;refine tk 10 (pT bt) rfl hS (λ_ _=>kF) ?_;refine tc 9 _ _ rfl rfl kF ((KO.o _ (G2.o.trans (iU gG))).mono ?_);rintro e w3 ⟨hb,bo,rfl,RF,ma⟩;have o_:=zH (iq hb);have lb3:bo<w3.1.size:=let ⟨_,_,h,_⟩:=ma;h.lt;have e0:w3.cell? (Y f 0)=a_ (pT M):=(o_.o.cell (p:=(Y f 0)) z0).trans (d0 0);have e1:w3.cell? (Y f 1)=a_ (pT bb):=(o_.o.cell (p:=(Y f 1)) z0).trans (d0 1);have l0:f<w3.1.size:=jL z0 o_.o.size;refine .inl ⟨_,rfl,⟨e0,e1⟩,?_⟩;refine tk 11 (.agg #[pT M,pT bb,.map (a_ bo),pT bt]) rfl ⟨e0,e1⟩ (λ_ _=>kF) ?_;refine tv 12 (pT w3.1.size) (w3.alloc (.cells #[pT M,pT bb,.map (a_ bo),pT bt] 108)) rfl rfl JQ ⟨by go_simp,by go_simp⟩ ?_;refine tk 13 (pT w3.1.size) rfl ⟨by go_simp,by go_simp⟩ (λ_ _=>kF) ?_;refine te ?_;refine NoPanic.normal ?_;have be:Bl w3 (w3.alloc (.cells #[pT M,pT bb,.map (a_ bo),pT bt] 108)):=gG;have B5:Hid (Bl w2 (w3.alloc (.cells #[pT M,pT bb,.map (a_ bo),pT bt] 108))):=o_.o.trans (be.mono o_.o.size);have G5:Hid (w.grownBy (w3.alloc (.cells #[pT M,pT bb,.map (a_ bo),pT bt] 108)) (a_ M)):=G2.o.trans (iU B5.o);have F5:Hid (Fi K P B (w3.alloc (.cells #[pT M,pT bb,.map (a_ bo),pT bt] 108)) w3.1.size M G vs (a_ t)):=by
  obtain⟨n1,ba,bf,b1,n2,n3,ma1,mf1⟩:=BN.o;obtain⟨⟨fi,a1,c1,a2,c2,bx,x1,x2⟩,lt⟩:=T2.o;have h5:=HF.o.kp G5.o;have hP':∀b,P b->¬b=M:=λb h=>(hP.o b h).2;have kb:Below B w2 (w3.alloc (.cells #[pT M,pT bb,.map (a_ bo),pT bt] 108)):=B5.o.mono (jT HF.o.hs G2.o.size);have g2s:=G2.o.size;have g3s:=o_.o.size;refine⟨h5.hp,h5.hb,h5.hs,h5.pb,bb,_,_,Bx.new _ _ _,oM,n1,⟨ba,bf,b1.eX (G5.o.block bb b1.lt JG),n2,n3,ma1.kp G5.o n2 hP',mf1.kp G5.o n3 HF.o.hb HF.o.hs⟩,?_,fi,bt,a1,c1,a2,c2,rfl,nt,bx.below B5.o,XS.eG x1 kb,XG.eG x2 kb⟩;have mo:MA K P (w3.alloc (.cells #[pT M,pT bb,.map (a_ bo),pT bt] 108)) bo (pE vs):=ma.kp (M:=M) (iU be) (by have:=G2.o.size;simp at RF;omega) hP';match vs,hv with
  |[a],_=>exact⟨bo,rfl,by simp at RF;omega,mo⟩
  |[a,b],_=>exact⟨bo,rfl,by simp at RF;omega,mo⟩
 have R5:Hid (Bx (w3.alloc (.cells #[pT M,pT bb,.map (a_ bo),pT bt] 108)) w.1.size nN 30):=R2.o.below B5.o;have BM5:=zH (Au.o.below B5.o);have KB:=zH (HB.o _ P _ F5.o BM5.o);go_simp;go_wp2_with fail;generalize hW5:w3.alloc _=W5 at *;refine KB.o.mono ?_;rintro e w6 h;obtain⟨q,m'⟩:=r
 cases q with
 |error q =>
  obtain⟨g,oQ,rfl,s',bm⟩:=h;refine Ba (f:=154) (args:=#[pT M]) sI J5 ?_;refine(UT bm oM oM _).mono ?_;rintro e u' w7 ⟨rfl,rfl,rfl⟩;have k:=bm.set 7 (I (dp+1-1));exact(show gI K P M L dp w (.error q,m') (.panicked [iI q.1 q.2]) _ from ⟨(G5.o.trans g).trans (ic _ _ _ _),oQ,rfl,s',by simpa using k⟩)
 |ok a =>
  obtain⟨g,oQ,bm,u0,u1,rfl,ro⟩:=h;obtain⟨⟨p0,q0,rfl⟩,p1,q1,rfl⟩:=ro.1.eS;have kr:Bx w6 w.1.size nN 30:=R5.o.eX (g.block _ R5.o.lt J2);have lr:=R5.o.lt;have⟨e2,g2,l2⟩:=kr.all;have G6:=zH (G5.o.trans g);have BM6:=zH bm;have RR:=zH ro;have HM6:=zH oQ;go_wp2_with fail;have bmx:Bx ((w6.setCell (Y w.1.size 0) (sX p0 a.1.length q0)).setCell (Y w.1.size 1) (sX p1 a.2.length q1)) M _ 72:=(BM6.o.eC J2 _).eC J2 _;refine Ba (f:=154) (args:=#[pT M]) sI J5 ?_;refine(UT bmx oM oM _).mono ?_;rintro e u' w7 ⟨rfl,rfl,rfl⟩;have k:=bmx.set 7 (I (dp+1-1));have nMw:¬w.1.size=M:=oM;have aoj:¬M=w.1.size:=oM;refine⟨.agg #[sX p0 a.1.length q0,sX p1 a.2.length q1],by simp[results,results118,go_sem,e2,nMw,aoj],?_⟩;have gb:Below w.1.size w6 ((w6.setCell (Y w.1.size 0) (sX p0 a.1.length q0)).setCell (Y w.1.size 1) (sX p1 a.2.length q1)):=gG;refine⟨(ua G6.o gb).trans (ic _ _ _ _),HM6.o,by simpa using k,_,_,rfl,(RR.o.kp ((((Kp.refl _ _).set ?_ _).set ?_ _).set ?_ _)).mono λb h _=>h.imp id λh=>jT G5.o.size h⟩
  ·exact λh=>h.elim (λh=>absurd (hP.o _ h).1 sI) (λh=>by simp at h;omega)
  ·exact λh=>h.elim (λh=>absurd (hP.o _ h).1 sI) (λh=>by simp at h;omega)
  exact λh=>h.elim (λh=>(hP.o _ h).2 rfl) (λh=>by have:=G5.o.size;simp at h;omega)
 ):ρ:=h
def aie(hf:Fi K P B w f M G own eO)(nm:lJ)(hn:nm.length<=1048576)(t:Pl.Tv)(h:mX G.fs eO nm=a_ t)(vs:List Ar)(hv:vs.length=1\/vs.length=2)(fv:Va)(rv:Fm K P M w fv vs)(hM:Bx w M (gn L m dp) 72)(hm:ib L m)(h0:0<=dp)(h1:dp<50)(r:Pl.Rs)
  (HB:∀(f':Nat)(Q:nK) (W:Wd),Fi K Q B W f' M G vs (a_ t)->Bx W M (gn L m (dp+1)) 72->Cp 156 #[pT f'] W (gI K Q M L (dp+1) W r)) :
  Cp 118 #[pT f,.string (Pl.ba nm),fv] w (gI K P M L dp w r):=by
 have KF:=zH λW (hW:Bl w W)=>MN (hf.below hW) (jL hM.lt hW.size) nm hn;rw[h] at KF;have hfr:=hf.fr;obtain⟨bb,ow,sp,b0,n0,n1,⟨ba,bf,b1,n2,n3,ma,mf⟩,_,_⟩:=hfr;have B0:=zH b0;have BM:=zH hM;have HF:=zH hf;have lM:=hM.lt;have hP:=zH λb=>hf.hp b;obtain⟨af,cf,rfl,LF⟩:=rv;obtain⟨S,o,rfl,lS,nS,hc⟩:∃S o,af=sY S o/\S<w.1.size/\¬S=M/\∀(i:Nat) x,vs[i]? = a_ x->∃u0 u1,cL w S (o+i * 2) u0/\cL w S (o+i * 2+1) u1/\RO K P w u0 u1 x:=by
  rcases LF with h|h
  ·rw[h] at hv;simp at hv
  exact h
 have KO:Hid (∀W,w.grownBy W (a_ M)->Cp 155 #[sX (sY S o) vs.length cf] W λe w'=>Bl W w'/\∃b,e=rT (.map (a_ b))/\W.1.size<=b/\MA K P w' b (pE vs)):=λW g=>aca vs hv S o cf (jL lS g.size) λi a hi=>by
  have⟨u0,u1,e0,e1,r⟩:=hc i a hi;have hk:=g.block S lS (by simpa using nS);exact⟨u0,u1,(zy (w:=w) (a:=(Y S (o+i * 2))) hk).trans e0,(zy (w:=w) (a:=(Y S (o+i * 2+1))) hk).trans e1,r.kp ⟨g.size,λb pb hl=>g.block b hl (by simpa using (hP.o b pb).2)⟩⟩
 have BN:Hid (¬bb=M/\∃ba bf,Bx w bb #[.map (a_ ba),.map (a_ bf)] 105/\¬ba=M/\¬bf=M/\MA K P w ba (mr G.ns)/\MF B w bf (λx=>jP (·.nm) G.fs x G.fs.length)):=⟨n1,ba,bf,b1,n2,n3,ma,mf⟩;replace HB:=zH HB;go_enter_defers func118,ntmps118
 go_wp2_with fail;refine(KF.o _ gG).mono ?_;rintro e w1 ⟨hb,bt,rfl,nt,tb⟩;obtain⟨d0,f0,z0⟩:=(B0.o.below (bv hb)).all;have KE:=zH (acw (BM.o.below (bv hb)) h0 h1);have jo:=zH (bv (w:=w) hb);have TB:=zH tb;have R1:Hid (Bx w1 w.1.size nN 30):=(Bx.new w _ _).below hb;go_wp2_with fail;refine KE.o.mono ?_;rintro e w2 ⟨rfl,g2,E4⟩;have k0:Bx w2 f _ 108:=(B0.o.below jo.o).eX (g2.block f (jL B0.o.lt jo.o.size) Jk);have G2:Hid (w.grownBy w2 (a_ M)):=(iU jo.o).trans g2;have R2:Hid (Bx w2 w.1.size nN 30):=R1.o.eX (g2.block _ R1.o.lt J2);have Au:=zH E4;have T2:Hid (Tb B w2 bt t/\bt<w2.1.size):=by
  obtain⟨fi,a1,c1,a2,c2,bx,x1,x2⟩:=TB.o;have kb:Below B w1 w2:=⟨g2.os,g2.tape,g2.output,g2.size,λb hb=>g2.block b (jL hb (jT HF.o.hs jo.o.size)) (by simp;have:=HF.o.hb;omega)⟩;have jU:Bx w2 bt _ 60:=bx.eX (g2.block bt bx.lt (by simpa using nt));exact⟨⟨fi,a1,c1,a2,c2,jU,XS.eG x1 kb,XG.eG x2 kb⟩,jU.lt⟩
 obtain⟨d0,f0,z0⟩:=k0.all;go_wp2_with fail;refine wp_region_noPanic ?_;refine fT (S:=λw'=>cL w' f 0 (pT M)/\cL w' f 1 (pT bb)) kF ⟨d0 0,d0 1⟩ (λhS=>?_);open amB in exact Qv
end
end
section
section
variable {K:Ks} {P:nK} {w w':Wd} {B M:Nat} {G:Pl.Gb} {L:Pl.Lm}
def WM(H:KI K)(O:KO K)(hL:kJ L):∀(d:Nat),d<=50->∀(f:Nat)(own:List Ar) (eO:Option Pl.Tv),aaB K L B f M G own eO (50-(d:Int)) (ki K.k1 K.k2 L G d eO)
 |0,_,f,own,eO=>by
  intro Q W nm vs fv m hf hn hv rv hM hm;have e:ki K.k1 K.k2 L G 0 eO nm vs m=match mX G.fs eO nm with
   |none=>(.error (2,10),m)
   |some _=>(.error (2,13),m):=rfl
  rw[e]
  cases h:mX G.fs eO nm with
  |none=>exact VP hf nm hn h fv hM hm
  |some t=>exact afa hf nm hn t h fv hM hm
 |d+1,hd,f,own,eO=>by
  intro Q W nm vs fv m hf hn hv rv hM hm;have e:ki K.k1 K.k2 L G (d+1) eO nm vs m=match mX G.fs eO nm with
   |none=>(.error (2,10),m)
   |some t=>nT (oW K.k1 K.k2 L (gH G.ns vs) (ki K.k1 K.k2 L G d (a_ t))) t.code t.gs m:=rfl
  rw[e]
  cases h:mX G.fs eO nm with
  |none=>exact VP hf nm hn h fv hM hm
  |some t =>
   refine aie hf nm hn t h vs hv fv rv hM hm oM oM _ λf' Q W uW hM'=>?_;have e2:(50-((d+1:Nat):Int))+1=50-(d:Int):=oM;rw[e2] at hM' ⊢;exact agX t (VW H O hL (WM H O hL d oM f' vs (a_ t))) hL uW hM' hm
def al1(H:KI K)(O:KO K)(hL:kJ L){f:Nat}{m:Ms}(hf:Fi K P B w f M G [] c_)(c:List Sv)(hc:n6 c)(hn:vg c)(ac:oA)(cp:Nat)(hx:XS B w ac c)(hM:Bx w M (gn L m 0) 72)(hm:ib L m):
  Cp 58 #[pT f,sX ac c.length cp] w (gI K P M L 0 w (top K.k1 K.k2 L G c m)):=by
 have HC:=WM (B:=B) (M:=M) (G:=G) H O hL 50 (jR _) f [] c_;exact Pr (VW H O hL HC) hL hf c hc hn ac cp hx hM hm
end
end
section
namespace Pl
def Xp{α:Type}(k:α->List UInt8)(l r:List α)(x:lJ):∀n,n<=l.length->jP k (l++r) x n=jP k l x n
 |0,_=>rfl
 |n+1,h=>by
  simp only[jP];rw[pA oM,Xp k l r x n oM]
def Wo{α:Type}(k:α->List UInt8)(l:List α)(p:α)(x:lJ):jP k (l++[p]) x (l++[p]).length=if k p=x then a_ p else jP k l x l.length:=by
 rw[hJ,List.length_singleton,NC k _ x l.length p sI,Xp k l [p] x l.length (jR _)]
def U_(ns:List (lJ × Ar))(nm:lJ)(a:Ar)(x:lJ):mr (ns++[(nm,a)]) x=if x=nm then a_ a else mr ns x:=by
 unfold mr;rw[Wo];by_cases h:x=nm
 ·subst h;simp
 rw[eB (λe=>h e.symm),eB h]
end Pl
section
variable {K:Ks} {P Q:nK} {B c b:Nat} {w w':Wd} {f M:Nat} {G:Pl.Gb}
def pY.ma{g:lJ->Option Ar}(h:pY c K P w b g)(hc:c<=16777216):MA K P w b g:=by
 obtain⟨n,F,ho,hn,h⟩:=h;exact⟨n,F,ho,oM,h⟩
def sE.mf{g:lJ->Option Pl.Tv}(h:sE c B w b g)(hc:c<=16777216):MF B w b g:=by
 obtain⟨n,F,ho,hn,h⟩:=h;exact⟨n,F,ho,oM,h⟩
def pY.put{g:lJ->Option Ar}(h:pY c K P w b g)(hc:c<=16777216)(x:lJ)(hx:x.length<=1048576)(u0 u1:Va)(a:Ar)(ro:RO K P w u0 u1 a)(hP:¬P b):
  ∃w',(Instr.mapUpdate 102 (.map (a_ b)) (.string (Pl.ba x)) (.agg #[u0,u1])).run prog w=.ok () w'/\pY (c+1) K P w' b (λy=>if y=x then a_ a else g y)/\w.grownBy w' (a_ b):=by
 obtain⟨n,F,ho,hn,h⟩:=h;have⟨w',hr,ju,ht⟩:=ho.store underlying9 underlying102 J8 x J8 (.agg #[u0,u1]);have hg:=ht.grown;have kp:Kp P w w':=⟨hg.size,λq hq hl=>hg.block q hl (λe=>hP (by injection e with e;exact e ▸ hq))⟩;refine⟨w',hr,⟨_,_,ju,oM,λy=>?_⟩,hg⟩;by_cases hy:y=x
 ·simp only[hy,kI];exact⟨u0,u1,rfl,ro.kp kp⟩
 simp only[eB hy];have h:=h y
 cases hg:g y with
 |none=>rw[hg] at h;exact h
 |some z=>rw[hg] at h;obtain⟨p,q,e,r⟩:=h;exact⟨p,q,e,r.kp kp⟩
def sE.put{g:lJ->Option Pl.Tv}(h:sE c B w b g)(hc:c<=16777216)(t:Pl.Tv)(ht:FI t)(hx:t.nm.length<=1048576)(a1:oA)(c1:Nat)(a2:oA)(c2:Nat)(x1:XS B w a1 t.code)(x2:XG B w a2 t.gs)(hB:B<=b)(hs:B<=w.1.size):
  ∃w',(Instr.mapUpdate 103 (.map (a_ b)) (.string (Pl.ba t.nm)) (D9 t a1 c1 a2 c2)).run prog w=.ok () w'/\sE (c+1) B w' b (λy=>if y=t.nm then a_ t else g y)/\w.grownBy w' (a_ b):=by
 obtain⟨n,F,ho,hn,h⟩:=h;have⟨w',hr,ju,hm⟩:=ho.store underlying9 underlying103 J8 t.nm J8 (D9 t a1 c1 a2 c2);have hg:=hm.grown;have kb:=qd hg hB hs;refine⟨w',hr,⟨_,_,ju,oM,λy=>?_⟩,hg⟩;by_cases hy:y=t.nm
 ·simp only[hy,kI];exact⟨ht,a1,c1,a2,c2,rfl,XS.eG x1 kb,XG.eG x2 kb⟩
 simp only[eB hy];have h:=h y
 cases hg:g y with
 |none=>rw[hg] at h;exact h
 |some z=>rw[hg] at h;obtain⟨ok,p1,q1,p2,q2,e,r1,r2⟩:=h;exact⟨ok,p1,q1,p2,q2,e,XS.eG r1 kb,XG.eG r2 kb⟩
structure Pf(K:Ks)(B U c:Nat)(P:nK)(w:Wd)(f M bb ba bf:Nat)(G:Gb):Prop where
 hp:∀b,P b->b<w.1.size/\(b<B\/U<=b)
 pb:∀b,b<B->P b
 hs:U<=w.1.size
 l0:(B<=M/\M<U)/\(B<=f/\f<U)/\(B<=bb/\bb<U)/\(B<=ba/\ba<U)/\(B<=bf/\bf<U)
 ne:(¬f=M/\¬bb=M/\¬ba=M/\¬bf=M)/\(¬f=ba/\¬f=bf/\¬bb=ba/\¬bb=bf)/\¬ba=bf
 b0:Bx w f #[pT M,pT bb,.map c_,.pointer c_] 108
 b1:Bx w bb #[.map (a_ ba),.map (a_ bf)] 105
 ma:pY c K P w ba (mr G.ns)
 mf:sE c B w bf (λx=>jP (·.nm) G.fs x G.fs.length)
variable {U bb ba bf:Nat}
def Pf.fi(h:Pf K B U c P w f M bb ba bf G)(hc:c<=16777216):Fi K P B w f M G [] c_:=by
 have l:=h.l0;have n:=h.ne;refine⟨λb hb=>⟨(h.hp b hb).1,λe=>by have:=(h.hp b hb).2;omega⟩,l.1.1,by have:=h.hs;omega,h.pb,bb,_,_,h.b0,n.1.1,n.1.2.1,⟨ba,bf,h.b1,n.1.2.2.1,n.1.2.2.2,h.ma.ma hc,h.mf.mf hc⟩,rfl,rfl⟩
def Pf.kp(h:Pf K B U c P w f M bb ba bf G)(k:w.grownBy w' (a_ M)):Pf K B U c P w' f M bb ba bf G:=by
 have l:=h.l0;have n:=h.ne;have hs:=h.hs;have hP:∀b,P b->¬b=M:=λb hb e=>by have:=(h.hp b hb).2;omega
 exact⟨λb hb=>⟨jL (h.hp b hb).1 k.size,(h.hp b hb).2⟩,h.pb,jT hs k.size,l,n,h.b0.eX (k.block f h.b0.lt (by simpa using n.1.1)),h.b1.eX (k.block bb h.b1.lt (by simpa using n.1.2.1)),h.ma.kp k n.1.2.2.1 hP,h.mf.kp k n.1.2.2.2 l.1.1 oM⟩
def Pf.below(h:Pf K B U c P w f M bb ba bf G)(k:Bl w w'):Pf K B U c P w' f M bb ba bf G:=h.kp (iU k)
def Pf.mono(h:Pf K B U c P w f M bb ba bf G)(hq:∀b,P b->Q b)(hQ:∀b,Q b->b<w.1.size/\(b<B\/U<=b)):Pf K B U c Q w f M bb ba bf G :=
 ⟨hQ,λb hb=>hq b (h.pb b hb),h.hs,h.l0,h.ne,h.b0,h.b1,h.ma.mono hq,h.mf⟩
def Pf.up(h:Pf K B U c P w f M bb ba bf G){c':Nat}(hc:c<=c'):Pf K B U c' P w f M bb ba bf G :=
 ⟨h.hp,h.pb,h.hs,h.l0,h.ne,h.b0,h.b1,let ⟨n,F,ho,hn,h⟩:=h.ma;⟨n,F,ho,oM,h⟩,let ⟨n,F,ho,hn,h⟩:=h.mf;⟨n,F,ho,oM,h⟩⟩
def Pf.boxed{q:Nat}(h:Pf K B U c P w f M bb ba bf G)(k:w.grownBy w' (a_ q))(hq:¬q<B/\q<U/\¬q=f/\¬q=bb/\¬q=ba/\¬q=bf):Pf K B U c P w' f M bb ba bf G:=by
 have l:=h.l0;have n:=h.ne;have hs:=h.hs;exact⟨λb hb=>⟨jL (h.hp b hb).1 k.size,(h.hp b hb).2⟩,h.pb,jT hs k.size,l,n,h.b0.eX (k.block f h.b0.lt J2),h.b1.eX (k.block bb h.b1.lt J2),h.ma.kp (M:=q) k oM (λb hb e=>by have:=(h.hp b hb).2;omega),h.mf.kp (M:=q) k oM oM oM⟩
def Pf.name(h:Pf K B U c P w f M bb ba bf G)(hc:c<=16777216)(x:lJ)(hx:x.length<=1048576)(u0 u1:Va)(a:Ar)(ro:RO K P w u0 u1 a):
  ∃w',(Instr.mapUpdate 102 (.map (a_ ba)) (.string (Pl.ba x)) (.agg #[u0,u1])).run prog w=.ok () w'/\Pf K B U (c+1) P w' f M bb ba bf ⟨G.ns++[(x,a)],G.fs⟩/\w.grownBy w' (a_ ba):=by
 have l:=h.l0;have n:=h.ne;have hs:=h.hs;have⟨w',hr,hm,hg⟩:=h.ma.put hc x hx u0 u1 a ro (λe=>by have:=(h.hp ba e).2;omega);refine⟨w',hr,⟨λb hb=>⟨jL (h.hp b hb).1 hg.size,(h.hp b hb).2⟩,h.pb,jT hs hg.size,l,n,h.b0.eX (hg.block f h.b0.lt (by simp;exact n.2.1.1)),h.b1.eX (hg.block bb h.b1.lt (by simp;exact n.2.1.2.2.1)),?_,?_⟩,hg⟩
 ·have e:(λy=>if y=x then a_ a else mr G.ns y)=mr (G.ns++[(x,a)]):=by funext y;rw[U_]
  rw[<- e];exact hm
 have⟨m,F,ho,hn,hF⟩:=h.mf.kp (M:=ba) hg (λe=>n.2.2 e.symm) l.2.2.2.1.1 oM;exact⟨m,F,ho,oM,hF⟩
def Pf.func(h:Pf K B U c P w f M bb ba bf G)(hc:c<=16777216)(t:Pl.Tv)(ht:FI t)(hx:t.nm.length<=1048576)(a1:oA)(c1:Nat)(a2:oA)(c2:Nat)(x1:XS B w a1 t.code)(x2:XG B w a2 t.gs):
  ∃w',(Instr.mapUpdate 103 (.map (a_ bf)) (.string (Pl.ba t.nm)) (D9 t a1 c1 a2 c2)).run prog w=.ok () w'/\Pf K B U (c+1) P w' f M bb ba bf ⟨G.ns,G.fs++[t]⟩/\w.grownBy w' (a_ bf):=by
 have l:=h.l0;have n:=h.ne;have hs:=h.hs;have⟨w',hr,hm,hg⟩:=h.mf.put hc t ht hx a1 c1 a2 c2 x1 x2 l.2.2.2.2.1 oM;refine⟨w',hr,⟨λb hb=>⟨jL (h.hp b hb).1 hg.size,(h.hp b hb).2⟩,h.pb,jT hs hg.size,l,n,h.b0.eX (hg.block f h.b0.lt (by simp;exact n.2.1.2.1)),h.b1.eX (hg.block bb h.b1.lt (by simp;exact n.2.1.2.2.2)),?_,?_⟩,hg⟩
 ·have⟨m,F,ho,hn,hF⟩:=h.ma.kp (M:=bf) hg n.2.2 (λb hb e=>by have:=(h.hp b hb).2;omega)
  exact⟨m,F,ho,oM,hF⟩
 have e:(λy=>if y=t.nm then a_ t else jP (·.nm) G.fs y G.fs.length)=λy=>jP (·.nm) (G.fs++[t]) y (G.fs++[t]).length:=by
  funext y
  rw[Wo];by_cases h:y=t.nm
  ·subst h;simp
  rw[eB h,eB (λe=>h e.symm)]
 rw[<- e];exact hm
end
end
def sC{w w':Wd}{b:Nat}{cs:aV}{t:TypeId}(k:Bl w w')(h:Bx w b cs t):Bx w' b cs t:=h.below k
def agL{K:Ks}{P:nK}{w wr:Wd}{u:UV}{e2 e3:aV}{rr:Pl.Rs}{fu ce sd lf lc ls:Int}{lr:Bool}{Z k n b2 o2 c2 tl p1:Nat}{t1:oA}{v0 v1 v2:Va}(hP:∀b,P b->b<w.1.size)(hk:(k:Int)<(n:Int))(hn:n<=1048576)(hb2:b2<w.1.size)(hZ:w.1.size+6<=Z)(F0:Fc w (fA fu ce sd 0 0) (uC ⟨lf,lc,lr,ls⟩ u) e2 e3 wr)(b6:Bx wr Z #[v0,v1,v2,sX (sY b2 o2) n c2] 60)(hg:wr.cell? (Y b2 (o2+k * 2))=a_ (sX t1 tl p1))
  (KT:∀W,Bl wr W->Cp 23 #[eW fu ce sd 0 0,uV ⟨lf,lc,lr,ls⟩ u,sX t1 tl p1] W (EPost K P W rr))
  {K' K1 K2 K3:Act->Wd->Prop} {Q:Ending->Wd->Prop} {cH cR cU cI cT cQ cE cJ aG bU bj bG aC br aM bw bR bh b8 ch be aK aH ck bY bc bP a8 cA ci bQ az cw ct bI aS ca aN bq aP bi cm bF aU aZ bW aQ bN aL a6 co bA aB a7 bu aO cz bX cr cj bV aD aX bB bk aI a3 cc bJ bH bK aE bg bL cB cu bC bM bf bD aT a5 ae aq ag av ad af am aw ah au ap ac aj ai ab ak aa aR aF aY cq aA aJ aW bS a9 cg bT bz bE bO:Va}
  (HK:∀(cO cS cN cG cV cF cW cK cM cP cC cD:Va)(p q:Nat) (a0:oA) (n0 c0:Nat) (a1:oA) (n1 c1:Nat) (f5 c5 s5 k5 x5:Int) (wy:Wd),EPost K P wr rr (rT (.tuple #[.agg #[sX a0 n0 c0,sX a1 n1 c1],eW f5 c5 s5 k5 x5])) wy->Bx wy p #[sX a0 n0 c0,sX a1 n1 c1] 30->Bx wy q (fA f5 c5 s5 k5 x5) 64->wr.1.size<=p->wr.1.size<=q->Exit.then K' (Exit.inBlock 1 (Exit.then K1 (Exit.then K2 (Exit.inBlock 0 (Exit.then K3 (bodyPost prog Tryz.f75 Q)))))) .normal { tmps:=#[cH,cR,cU,cI,cT,cQ,pT w.1.size,pT (w.1.size+1),cE,cJ,aG,bU,bj,bG,pT Z,aC,I (k:Int),pT p,pT q,br,aM,bw,bR,bh,b8,ch,be,aK,aH,ck,bY,bc,bP,a8,cA,ci,bQ,az,cw,ct,bI,aS,ca,aN,bq,aP,bi,cm,bF,aU,aZ,bW,aQ,bN,aL,cO,cS,cN,cG,cV,cF,cW,cK,cM,cP,cC,cD,a6,co,bA,aB,a7,bu,aO,cz,bX,cr,cj,bV,aD,aX,bB,bk,aI,a3,cc,bJ,bH,bK,aE,bg,bL,cB,cu,bC,bM,bf,bD,aT,a5,ae,aq,ag,av,ad,af,am,aw,ah,au,ap,ac,aj,ai,ab,ak,aa],defers:=[] } wy) :
  Code.wp prog ((oO 14 (Tryz.f75.body.getD .skip)).getD .skip) (Exit.then K' (Exit.inBlock 1 (Exit.then K1 (Exit.then K2 (Exit.inBlock 0 (Exit.then K3 (bodyPost prog Tryz.f75 Q))))))) { tmps:=#[cH,cR,cU,cI,cT,cQ,pT w.1.size,pT (w.1.size+1),cE,cJ,aG,bU,bj,bG,pT Z,aC,I (k:Int),aR,aF,br,aM,bw,bR,bh,b8,ch,be,aK,aH,ck,bY,bc,bP,a8,cA,ci,bQ,az,cw,ct,bI,aS,ca,aN,bq,aP,bi,cm,bF,aU,aZ,bW,aQ,bN,aL,aY,cq,aA,aJ,aW,bS,a9,cg,bT,bz,bE,bO,a6,co,bA,aB,a7,bu,aO,cz,bX,cr,cj,bV,aD,aX,bB,bk,aI,a3,cc,bJ,bH,bK,aE,bg,bL,cB,cu,bC,bM,bf,bD,aT,a5,ae,aq,ag,av,ad,af,am,aw,ah,au,ap,ac,aj,ai,ab,ak,aa],defers:=[] } wr:=by
 conv=>arg 2;whnf
 replace KT:=zH KT;replace HK:=zH HK;have Et:=F0.b5.lt;have lZ:=b6.lt;replace F0:=zH F0;replace b6:=zH b6;obtain⟨d0,f0,z0⟩:=F0.o.b0.all;obtain⟨d1,f1,z1⟩:=F0.o.b1.all;obtain⟨d6,f6,z6⟩:=b6.o.all;have z7:b2<wr.1.size:=oM;have⟨i0,i1,i2,i3,i4,i5,i6,i7,i8,i9,i10,i11,i12,i13,i14,i15⟩:¬w.1.size=wr.1.size/\¬wr.1.size=w.1.size/\¬w.1.size=wr.1.size+1/\¬wr.1.size+1=w.1.size/\¬w.1.size+1=wr.1.size/\¬wr.1.size=w.1.size+1/\¬w.1.size+1=wr.1.size+1/\¬wr.1.size+1=w.1.size+1/\¬Z=wr.1.size/\¬wr.1.size=Z/\¬Z=wr.1.size+1/\¬wr.1.size+1=Z/\¬b2=wr.1.size/\¬wr.1.size=b2/\¬b2=wr.1.size+1/\¬wr.1.size+1=b2:=oM;have HP:=zH hP;go_region_held3 (λw'=>(cL w' w.1.size 0 (I fu)/\cL w' w.1.size 1 (I ce)/\cL w' w.1.size 2 (I sd)/\cL w' w.1.size 3 (I 0)/\cL w' w.1.size 4 (I 0))/\(cL w' (w.1.size+1) 0 (I lf)/\cL w' (w.1.size+1) 1 (I lc)/\cL w' (w.1.size+1) 2 (.bool lr)/\cL w' (w.1.size+1) 3 (I ls)/\cL w' (w.1.size+1) 4 u.ns/\cL w' (w.1.size+1) 5 u.vs/\cL w' (w.1.size+1) 6 u.fs/\cL w' (w.1.size+1) 7 u.w0/\cL w' (w.1.size+1) 8 u.w1/\cL w' (w.1.size+1) 9 u.a0/\cL w' (w.1.size+1) 10 u.a1/\cL w' (w.1.size+1) 11 (I u.own)/\cL w' (w.1.size+1) 12 (I u.sk)/\cL w' (w.1.size+1) 13 (.string u.sn)/\cL w' (w.1.size+1) 14 u.sc/\cL w' (w.1.size+1) 15 u.sg/\cL w' (w.1.size+1) 16 (I u.cl))/\cL w' Z 3 (sX (sY b2 o2) n c2)/\cL w' b2 (o2+k * 2) (sX t1 tl p1)) (go_keep) (first | (go_at_call 23;refine(KT.o _ gG).mono ?_;rintro e w1 hp;obtain⟨a0,n0,c0,a1,n1,c1,f5,c5,s5,k5,x5,rfl⟩:=hp.form;have HB:=zH (bv (w:=wr) hp.1);have⟨e0,g0,l0⟩:=(F0.o.call HB.o).b0.all;have⟨e1,g1,l1⟩:=(F0.o.call HB.o).b1.all;have⟨e6,g6,l6⟩:=(b6.o.below HB.o).all;have e7:=(HB.o.cell (p:=(Y b2 (o2+k * 2))) z7).trans hg;have l7:=jL z7 HB.o.size;have⟨hc,hf,hs,iF⟩:=Gn hp.1;have HQ:=zH hp))
 all_goals
  refine HK.o _ _ _ _ _ _ _ _ _ _ _ _ _ _ a0 n0 c0 a1 n1 c1 f5 c5 s5 k5 x5 _ ?_ ?_ ?_ ?_ ?_
  ·have:=HB.o
   have j8:=HB.o.size;exact HQ.o.move (by repeat' (first | with_reducible exact Kp.refl _ _ | with_reducible refine Kp.set ?_ ?_ _ | with_reducible refine Kp.alloc ?_ _ | exact λh=>h.elim (λh=>absurd (HP.o _ h) J6) (λh=>by simp at h;try omega))) gG (λb h=>h.imp id λh=>by simp at h;omega)
  ·first
    |(with_reducible refine Bx.al (Bx.eK ?_) _;rfl)
    |(with_reducible refine Bx.eK ?_;simp)
    |(have b:=(show Bx w1 wr.1.size nN 30 from sC HQ.o.1 (.eK rfl));exact .al ((b.set 0 _).set 1 _) _)
    |(have b:=(show Bx w1 wr.1.size nN 30 from sC HQ.o.1 (.al (.eK rfl) _));exact((((((b.set 0 _).set 1 _).fa _).fa _).fa _).fa _).fa _)
    |(have b:=(show Bx w1 (wr.1.size+1) nN 30 from sC HQ.o.1 (.eK sI));exact((((((b.set 0 _).set 1 _).fa _).fa _).fa _).fa _).fa _)
  ·first
    |(with_reducible refine Bx.al (Bx.eK ?_) _;rfl)
    |(with_reducible refine Bx.eK ?_;simp)
    |(have b:=(show Bx w1 wr.1.size (fA 0 0 0 0 0) 64 from sC HQ.o.1 (.eK rfl));exact .al (((((b.set 0 _).set 1 _).set 2 _).set 3 _).set 4 _) _)
    |(have b:=(show Bx w1 wr.1.size (fA 0 0 0 0 0) 64 from sC HQ.o.1 (.al (.eK rfl) _));exact((((((b.fa _).fa _).set 0 _).set 1 _).set 2 _).set 3 _).set 4 _)
    |(have b:=(show Bx w1 (wr.1.size+1) (fA 0 0 0 0 0) 64 from sC HQ.o.1 (.eK sI));exact((((((b.fa _).fa _).set 0 _).set 1 _).set 2 _).set 3 _).set 4 _)
  ·have:=HB.o.size
   first | exact this | exact jR _ | omega
  have:=HB.o.size
  first | exact this | exact jR _ | omega
end Go.Proofs.YtiagfejlmafliaaGreatDoor
