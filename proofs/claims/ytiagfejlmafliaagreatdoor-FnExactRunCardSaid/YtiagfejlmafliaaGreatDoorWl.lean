import Derived.Test.YtiagfejlmafliaaGreatDoorWf
import Derived.Test.YtiagfejlmafliaaGreatDoorRlb
namespace Go.Proofs.YtiagfejlmafliaaGreatDoor
set_option linter.all false
open Go.Proofs.Tryz Pl
open Go.RowKit
set_option maxRecDepth 100000
set_option maxHeartbeats 16000000
open World renaming setCell->ez,alloc->ew
open List renaming range->eA,replicate->eE
open Option renaming some->a_,none->c_
open Bool renaming true->b_,false->d_
section
variable {k:Int->Int}{F G:Nat->Int}{x y B n:Nat}{ok:Int->Prop}
def ab0(B0:Nat)(w0:Wd)(pa g off cap n:Nat)(k:Int->Int)(ok:Int->Prop)(hX:Cx B0 w0 pa g n k ok)(hn:n<=1000000):∀(K a m b:Nat)(f:Nat->Int) (w:Wd),b-a<=K->a<m->m<b->b<=n->fC g off n f w->(∀t,t<n->ok (f t))->nE k f a m->nE k f m b->Below B0 w0 w ->
  Cp 309 #[sX (sY g off) n cap,I (a:Int),I (m:Int),I (b:Int),cl pa] w (za g off n a m b k f w):=by
 intro K;induction K with
 |zero=>intro a m b f w h1 h2 h3;omega
 |succ K ih =>
  intro a m b f w h1 h2 h3 h4 hR fF sL sR hB;by_cases e1:m=a+1
  ·exact ahc B0 w0 pa g off cap n a m b k ok f w hX hR e1 h3 h4 hn fF sR hB
  by_cases e2:b=m+1
  ·exact afB B0 w0 pa g off cap n a m b k ok f w hX hR oM e2 h4 hn fF sL hB
  exact alr B0 w0 pa g off cap n a m b k ok f w hX hR oM oM h4 hn fF sL sR hB (λa' m' b' f' w' q1 q2 q3 q4 q5 q6 q7 q8 q9=>ih a' m' b' f' w' oM q2 q3 q4 q5 q6 q7 q8 q9)
namespace Pl
def Dn(k:Int->Int)(F:Nat->Int)(x y:Nat):Prop:=e_ F x y=im k x (y-x)
def Dn.congr(h:Dn k F x y)(e:∀t,x<=t->t<y->G t=F t):Dn k G x y:=(wY e).trans h
def Dn.srt(h:Dn k F x y):nE k F x y:=NM (by rw[h];exact Dc _ _ _)
def Dn.gW{z:Nat}(h1:Dn k F x y)(h2:Dn k F y z)(Le:x<=y)(Eg:y<=z)(e:e_ G x z=gW k (e_ F x y) (e_ F y z)):Dn k G x z:=by
 unfold Dn at h1 h2 ⊢;rw[e,h1,h2];have:=ahA k x (y-x) (z-y);rw[show x+(y-x)=y by omega,show y-x+(z-y)=z-x by omega] at this;exact this
def Al(B x:Nat):Prop:=∃r,x=r * B
def Di(hx:Al B x)(hy:Al B y)(h:x<y):x+B<=y:=by
 obtain⟨r,rfl⟩:=hx;obtain⟨q,rfl⟩:=hy;have:r<q:=Nat.lt_of_mul_lt_mul_right h;have:=gv B (show r+1<=q by omega);rw[iu] at this;exact this
def Og(B:Nat):Al B 0:=⟨0,sI⟩
def Pt(h:Al B x):Al B (x+B):=by
 obtain⟨r,rfl⟩:=h;exact⟨r+1,by rw[iu]⟩
def ZX(h:Al (2 * B) x):Al B x:=by
 obtain⟨r,rfl⟩:=h;exact⟨2 * r,by rw[PD 2 r,Nat.mul_assoc]⟩
def At(k:Int->Int)(F:Nat->Int)(n B p:Nat):Prop:=∀x,Al B x->p<=x->x<n->Dn k F x (min (x+B) n)
def CV(k:Int->Int)(F:Nat->Int)(n B p:Nat):Prop:=∀x,Al B x->x<p->x<n->Dn k F x (min (x+B) n)
def CV.all{p:Nat}(h:CV k F n B p)(hp:n<=p):At k F n B 0:=λx hx _ hn=>h x hx oM hn
end Pl
def alU(h:∀t:Nat,t<n->ok (t:Int))(hy:y<=n):∀z∈Pl.im k x (y-x),ok z:=by
 intro z hz;have:=Pl.N6 hz;by_cases Le:x<=y
 ·obtain⟨t,rfl⟩:=sZ (show 0<=z by omega)
  exact h t oM
 rw[show y-x=0 by omega] at hz
 cases hz
def aat(h:∀t:Nat,t<n->ok (t:Int))(hy:y<=n)(hF:∀t,t<n->ok (F t))(hd:Dn k G x y)(ho:∀t,(t<x\/y<=t)->G t=F t):∀t,t<n->ok (G t):=by
 intro t ht;by_cases mE:x<=t/\t<y
 ·have hm:G t∈e_ G x y:=OF mE.1 mE.2
  rw[hd] at hm;exact alU h hy _ hm
 rw[ho t oM];exact hF t ht
structure Sx(B0:Nat)(w0:Wd)(g off n:Nat)(ok:Int->Prop)(w:Wd)(F:Nat->Int)(wr:Wd):Prop where
 r:fC g off n F wr
 o:∀t,t<n->ok (F t)
 g:Gr g w wr
 b:Below B0 w0 wr
def adk(B0:Nat)(w0:Wd)(pa g off cap n:Nat)(k:Int->Int)(ok:Int->Prop)(f:Nat->Int)(w:Wd)(hX:Cx B0 w0 pa g n k ok)(hR:fC g off n f w)(hn:n<=1000000)(hid:∀t,t<n->f t=(t:Int))(hB:Below B0 w0 w):
  Cp 298 #[sX (sY g off) n cap,I (n:Int),cl pa] w λe w'=>e=rT (.tuple #[])/\(∃f',fC g off n f' w'/\e_ f' 0 n=Pl.im k 0 n)/\Gr g w w':=by
 have HX:=zH hX;have yH:Hid (B0<=w.1.size):=jT hX.g (Bc hR.1);have S0:Hid (Sx B0 w0 g off n ok w f w):=⟨hR,λt ht=>by rw[hid t ht];exact hX.ok t ht,Gr.refl _ _,hB⟩;have HID:=zH hid;have KI:Hid (∀(F:Nat->Int)(W:Wd) (p q:Nat),Sx B0 w0 g off n ok w F W->p<=q->q<=n->(∀t,p<=t->t<n->F t=(t:Int))->Cp 308 #[sX (sY g off) n cap,I (p:Int),I (q:Int),cl pa] W λe w'=>e=rT (.tuple #[])/\∃F',Sx B0 w0 g off n ok w F' w'/\Dn k F' p q/\∀t,(t<p\/q<=t)->F' t=F t):=λF W p q hs Ss hq hd =>
  (abN B0 w0 pa g off cap n p q k ok F W HX.o hs.r Ss hq hn (λt h1 h2=>hd t h1 oM) hs.b).mono λe w' ⟨he,⟨F',r',d',o'⟩,g'⟩ =>
   ⟨he,F',⟨r',aat HX.o.ok hq hs.o d' o',hs.g.trans g',g'.eG hs.b HX.o.g (jT yH.o hs.g.size)⟩,d',o'⟩
 have KM:Hid (∀(F:Nat->Int)(W:Wd) (x y z:Nat),Sx B0 w0 g off n ok w F W->x<y->y<z->z<=n->Dn k F x y->Dn k F y z->Cp 309 #[sX (sY g off) n cap,I (x:Int),I (y:Int),I (z:Int),cl pa] W λe w'=>e=rT (.tuple #[])/\∃F',Sx B0 w0 g off n ok w F' w'/\Dn k F' x z/\∀t,(t<x\/z<=t)->F' t=F t):=λF W x y z hs Le Eg hz d1 d2 =>
  (ab0 B0 w0 pa g off cap n k ok HX.o hn (z-x) x y z F W (jR _) Le Eg hz hs.r hs.o d1.srt d2.srt hs.b).mono λe w' ⟨he,⟨F',r',d',o'⟩,g'⟩=>by
   have dd:=d1.gW d2 oM oM d';exact⟨he,F',⟨r',aat HX.o.ok hz hs.o dd o',hs.g.trans g',g'.eG hs.b HX.o.g (jT yH.o hs.g.size)⟩,dd,o'⟩
 go_enter func298,ntmps298;go_wp2_with fail;go_loopw [7,8] (λva vb wr=>∃(p:Nat)(F:Nat->Int),Hid (Al 20 p)/\p<=n/\va=I (p:Int)/\vb=I ((p:Int)+20)/\Hid (Sx B0 w0 g off n ok w F wr)/\Hid (CV k F n 20 p)/\Hid (∀t,p<=t->t<n->F t=(t:Int))) (λva _ _=>n-(intOf va).toNat)
 case atStart=>exact⟨0,f,Og _,vZ _,rfl,rfl,S0,λx _ h=>oM,λt _ ht=>HID.o t ht⟩
 obtain⟨p,F,u7,Ch,rfl,rfl,SX,wD,hI⟩:=hrel;by_cases hle:p+20<=n
 ·have QW:(p:Int)+20<=(n:Int):=oM
  have Mm:=zH (KI.o F wr p (p+20) SX.o oM hle hI.o);rw[show ((p+20:Nat):Int)=(p:Int)+20 by omega] at Mm;go_wp2_with fail;refine Mm.o.mono ?_;rintro e w2 ⟨rfl,F',iF,v7,ju⟩;have S2:=zH iF;have B2:Hid (CV k F' n 20 (p+20)):=λx hx eI vU=>by
   by_cases tH:x<p
   ·have:=Di hx u7.o tH
    exact(wD.o x hx tH vU).congr λt _ t2=>ju t (.inl oM)
   have:x=p:=by
    exact IS
   subst this;rw[uA hle];exact v7
  have I2:Hid (∀t,p+20<=t->t<n->F' t=(t:Int)):=λt h1 h2=>(ju t (.inr h1)).trans (hI.o t oM h2);have A2:=zH (Pt u7.o);go_wp2;go_roundw
  case rel=>exact⟨p+20,F',A2,hle,gN,gN,S2,B2,I2⟩
  simp[intOf];omega
 have QW:¬(p:Int)+20<=(n:Int):=oM;have Mm:=zH (KI.o F wr p n SX.o Ch (jR _) hI.o);go_wp2_with fail;refine Mm.o.mono ?_;rintro e w2 ⟨rfl,F',iF,v7,ju⟩;have S2:=zH iF;have B2:Hid (At k F' n 20 0):=λx hx _ vU=>by
  by_cases tH:x<p
  ·have:=Di hx u7.o tH
   exact(wD.o x hx tH vU).congr λt _ t2=>ju t (.inl oM)
  have:x=p:=by
   exact IS
  subst this;rw[Dv oM];exact v7
 go_wp2_with fail;go_loopw [6,7,8,9] (λvB _ _ _ wr=>∃(B:Nat)(F:Nat->Int),0<B/\B<=2 * n+20/\vB=I (B:Int)/\Hid (Sx B0 w0 g off n ok w F wr)/\Hid (At k F n B 0)) (λvB _ _ _ _=>n-(intOf vB).toNat)
 case atStart=>exact⟨20,F',oM,oM,rfl,S2,B2⟩
 obtain⟨B,F,yx,Tt,rfl,SX,wD⟩:=hrel;by_cases eI:B<n
 rotate_left 1
 ·have nC:¬(B:Int)<(n:Int):=oM
  have HE:Hid (e_ F 0 n=Pl.im k 0 n):=by
   show _=_;by_cases h0:0<n
   ·have:=wD.o 0 (Og _) (jR _) h0
    rw[Dv oM] at this;exact this
   rw[yU F oM,show n=0 by omega];rfl
  go_wp2_with fail;go_end0
  exact⟨rfl,⟨F,SX.o.r,HE.o⟩,SX.o.g⟩
 have nC:(B:Int)<(n:Int):=oM;go_wp2_with fail;go_loopw [7,8] (λva vb wr=>∃(p:Nat)(F:Nat->Int),Hid (Al (2 * B) p)/\p<=n/\va=I (p:Int)/\vb=I ((p:Int)+2 * (B:Int))/\Hid (Sx B0 w0 g off n ok w F wr)/\Hid (CV k F n (2 * B) p)/\Hid (At k F n B p)) (λva _ _=>n-(intOf va).toNat)
 case atStart=>exact⟨0,F,Og _,vZ _,rfl,gN,SX,λx _ h=>oM,wD⟩
 obtain⟨p,F,u7,Ch,rfl,rfl,SX,hBo,wD⟩:=hrel;have D1:Hid (p<n->Dn k F p (min (p+B) n)):=λh=>wD.o p (ZX u7.o) (jR _) h;have D2:Hid (p+B<n->Dn k F (p+B) (min (p+B+B) n)):=λh=>wD.o (p+B) (Pt (ZX u7.o)) oM h;by_cases hle:p+2 * B<=n
 ·have QW:(p:Int)+2 * (B:Int)<=(n:Int):=oM
  have Fa:=zH (KM.o F wr p (p+B) (p+2 * B) SX.o oM oM hle (by have:=D1.o oM;rw[uA oM] at this;exact this) (by have:=D2.o oM;rw[uA oM,show p+B+B=p+2 * B by omega] at this;exact this));rw[show ((p+B:Nat):Int)=(p:Int)+(B:Int) by omega,show ((p+2 * B:Nat):Int)=(p:Int)+2 * (B:Int) by omega] at Fa;go_wp2_with fail;refine Fa.o.mono ?_;rintro e w3 ⟨rfl,F',iF,v7,ju⟩;have S2:=zH iF;have B2:Hid (CV k F' n (2 * B) (p+2 * B)):=λx hx eI vU=>by
   by_cases tH:x<p
   ·have:=Di hx u7.o tH
    exact(hBo.o x hx tH vU).congr λt _ t2=>ju t (.inl oM)
   have:x=p:=by
    exact IS
   subst this;rw[uA hle];exact v7
  have B3:Hid (At k F' n B (p+2 * B)):=λx hx eI vU=>(wD.o x hx oM vU).congr λt t1 _=>ju t (.inr oM);have A2:=zH (Pt u7.o);go_wp2;go_roundw
  case rel=>exact⟨p+2 * B,F',A2,hle,gN,gN,S2,B2,B3⟩
  simp[intOf];omega
 have QW:¬(p:Int)+2 * (B:Int)<=(n:Int):=oM;have wJ:Hid (∀F',Dn k F' p n->(∀t,t<p->F' t=F t)->At k F' n (2 * B) 0):=λF' v7 ju x hx _ vU=>by
  by_cases tH:x<p
  ·have:=Di hx u7.o tH
   exact(hBo.o x hx tH vU).congr λt _ t2=>ju t oM
  have:x=p:=by
   exact IS
  subst this;rw[Dv oM];exact v7
 by_cases hm:p+B<n
 ·have oQ:(p:Int)+(B:Int)<(n:Int):=oM
  have Fa:=zH (KM.o F wr p (p+B) n SX.o oM hm (jR _) (by have:=D1.o oM;rw[uA oM] at this;exact this) (by have:=D2.o hm;rw[Dv oM] at this;exact this));rw[show ((p+B:Nat):Int)=(p:Int)+(B:Int) by omega] at Fa;go_wp2_with fail;refine Fa.o.mono ?_;rintro e w3 ⟨rfl,F',iF,v7,ju⟩;have S2:=zH iF;have B2:=zH (wJ.o F' v7 (λt ht=>ju t (.inl ht)));go_wp2;go_roundw
  case rel=>exact⟨2 * B,F',oM,oM,by congr 1;omega,S2,B2⟩
  simp[intOf];omega
 have oQ:¬(p:Int)+(B:Int)<(n:Int):=oM;have B2:Hid (At k F n (2 * B) 0):=wJ.o F (by
  by_cases hp:p<n
  ·have:=D1.o hp
   rw[Dv oM] at this;exact this
  unfold Dn;rw[yU F oM,show n-p=0 by omega];rfl) (λ_ _=>rfl)
 go_wp2;go_roundw
 case rel=>exact⟨2 * B,F,oM,oM,by congr 1;omega,SX,B2⟩
 simp[intOf];omega
def abo(B0:Nat)(w0:Wd)(pa g off cap n:Nat)(k:Int->Int)(ok:Int->Prop)(f:Nat->Int)(w:Wd)(hX:Cx B0 w0 pa g n k ok)(hR:fC g off n f w)(hn:n<=1000000)(hid:∀t,t<n->f t=(t:Int))(hB:Below B0 w0 w):
  Cp 280 #[sX (sY g off) n cap,cl pa] w λe w'=>e=rT (.tuple #[])/\(∃f',fC g off n f' w'/\e_ f' 0 n=Pl.im k 0 n)/\Gr g w w':=by
 have K:=zH (adk B0 w0 pa g off cap n k ok f w hX hR hn hid hB);go_enter func280,ntmps280;go_wp2_with fail;refine K.o.mono ?_;rintro e w' ⟨rfl,h,hg⟩;have H:=zH h;have HG:=zH hg;go_wp2_with fail;go_end0
 exact⟨rfl,H.o,HG.o⟩
end
open Pl (Ar)
section
variable {g n:Nat}{zs:lI}
def fC.ri{f:Nat->Int}{w:Wd}{P:nK}(h:fC g 0 n f w)(hP:P g)(e:e_ f 0 n=zs)(hn:n<=1000000):Ri P w (sX (sY g 0) n n) zs:=by
 subst e;have hl:(e_ f 0 n).length=n:=by rw[yV];rfl
 refine⟨_,n,by rw[hl],oM,oM,.inr ⟨g,0,rfl,⟨hP,h.1⟩,λi x hx=>?_⟩⟩;have hi:=(gQ.1 hx).1;rw[yW oM,gY] at hx;injection hx with hx;rw[<- hx];exact(h.2 i oM).1
def G7{w:Wd}(h:Bx w g (Zl zs) 3)(e:zs.length=n):fC g 0 n (λt=>zs.getD t 0) w:=by
 refine⟨h.lt,λt ht=>⟨?_,h.cf.2 _⟩⟩;rw[gY,h.cf.1 t];simp[Zl,ig,fw (show t<zs.length by omega)]
section
variable {P:nK} {w:Wd}
def aeY(v0 v1:Va)(a:Ar)(h:RA P w v0 v1 a)(gr:a.2.length<=1000):Cp 241 #[.agg #[v0,v1]] w (KP w (if a.1.length=1 then .ok ([(a.2.length:Int)],Pl.im (Pl.mW a.2) 0 a.2.length) else .error 2)):=by
 have jv:=jv;have H:=zH h;obtain⟨⟨x0,y0,rfl⟩,x1,y1,rfl⟩:=h.eS;obtain⟨sh,da⟩:=a;simp only at H gr ⊢;have⟨r,HR⟩:∃r:Except Int Ar,Hid (r=if sh.length=1 then .ok ([(da.length:Int)],Pl.im (Pl.mW da) 0 da.length) else .error 2):=⟨_,rfl⟩;rw[<- HR.o];by_cases hs:sh.length=1
 rotate_left
 ·have hr:r=.error 2:=by rw[HR.o,eB hs]
  subst hr;have gu:((sh.length:Int) != 1)=b_:=by rw[iH];omega
  generalize sh.length=p0,da.length=p1 at *;go_enter func241,ntmps241;exact O'
 rw[eD hs] at HR;have⟨n,E1⟩:=jN (da.length);have gu:((sh.length:Int) != 1)=d_:=by rw[bne_eq_false_iff_eq];omega
 rw[E1.o] at H gr HR ⊢;have hr:=HR.o;subst hr;have CX:Hid (∀W pa,Bl w W->cL W pa 1 (sX x1 n y1)->pa<W.1.size->Ux W.1.size W pa (Pl.mW da) (λx=>0<=x/\x<n)):=λW pa kb hc hp=>by
  by_cases hz:n=0
  ·intro x y W hx
   omega
  have⟨z,gy⟩:=gF E1.o (show 0<n by omega);obtain⟨b,o,rfl,hb,-⟩:=H.o.2.rw.at gy;rw[<- E1.o] at hc ⊢;refine adU pa b o y1 (sX x0 sh.length y0) da W W.1.size (jL hb kb.size) hp hc λi hi=>?_;have⟨v,hv⟩:=gF E1.o (show i<n by rw[<- E1.o];exact hi);have⟨b',o',e,hb',mF⟩:=H.o.2.rw.at hv;injection e with e;injection e with e1 e2;subst e1 e2;rw[(kb.cell (p:=(Y b (o+i))) hb).trans mF,ig,hv];rfl
 generalize sh.length=p0 at *;go_enter func241,ntmps241;go_wp2_with (go_at_call 229;refine(iV _ _).mono ?_;rintro e w' ⟨rfl,rfl⟩)
 generalize hW:ew (ew w _) _=W0;have V0:=jU hW;refine(UC n W0 oM).mono ?_;rintro e w2 ⟨hb2,rfl,jU⟩;have HC:=CX.o W0 w.1.size V0.o.2.2.1 (V0.o.1.cf.1 1) V0.o.1.lt;have KS:=zH (abo W0.1.size W0 w.1.size W0.1.size 0 n n (Pl.mW da) (λx=>0<=x/\x<n) _ w2 ⟨HC,jR _,λt ht=>⟨oM,oM⟩⟩ (G7 jU sI) oM (λt ht=>by simp[ig,ht]) hb2);have B2:=zH hb2;go_wp2_with fail;refine KS.o.mono ?_;rintro e w3 ⟨rfl,⟨f3,gC,hs3⟩,zX⟩;have B3:=zH (zX.eG B2.o (jR _) B2.o.size);have R3:=zH (gC.ri (P:=(W0.1.size<=·)) (jR _) hs3 oM);go_wp2_with fail;refine(Aw w3 _ n n oM).mono ?_;rintro e w5 ⟨hb,rfl,o5⟩;have V5:=zH (jA ((V0.o.2.1.below B3.o).below hb) (jA (bv hb (bv B3.o V0.o.2.2.1)) (jA (o5.o (B0:=W0.1.size) (Kp.refl _ _) (by have:=B3.o.size;omega)) (jA (R3.o.kp (.of hb)) V0.o.2.2.2))));obtain⟨c5,f5,z5⟩:=V5.o.1.all;go_wp2;refine eJ (by simp[results,results241,go_sem,c5];try rfl) rfl ?_;exact KP.pass (w0:=W0) ⟨V5.o.2.2.1,V5.o.2.2.2.1⟩ V5.o.2.1 oM (by have:=V5.o.2.2.2.2;omega) _ _
end
end
namespace Pl
def gU:List Nat->Nat->List Nat
 |[],_=>[]
 |d::ds,i=>i % d::gU ds (i / d)
def Xd(ds:List Nat):∀i,(gU ds i).length=ds.length:=by
 induction ds with
 |nil=>intro i;rfl
 |cons d ds ih=>intro i;rw[gU,fW,ih];rfl
def pF:List Nat->List Nat->List Nat
 |d::ds,p::ps=>if p+1<d then (p+1)::ps else 0::pF ds ps
 |_,_=>[]
def ahO(ds:List Nat)(h:∀d∈ds,0<d):∀i,pF ds (gU ds i)=gU ds (i+1):=by
 induction ds with
 |nil=>intro i;rfl
 |cons d ds ih =>
  intro i;have hd:=h d sI;rw[gU,pF,gU];have e:=Nat.div_add_mod i d;by_cases hc:i % d+1<d
  ·rw[eD hc]
   have e1:(i+1) % d=i % d+1:=by
    rw[Nat.add_mod,Dz (show 1<d by omega),Dz hc]
   have e2:(i+1) / d=i / d:=by
    have h1:=Nat.div_add_mod (i+1) d;rw[e1] at h1;have h2:d * ((i+1) / d)=d * (i / d):=oM;exact Nat.eq_of_mul_eq_mul_left hd h2
   rw[e1,e2]
  rw[eB hc];have hm:=zv i hd;have e0:i+1=d * (i / d+1):=by rw[Nat.mul_add];omega
  have e1:(i+1) % d=0:=by rw[e0,Nat.mul_mod_right]
  have e2:(i+1) / d=i / d+1:=by rw[e0,Nat.mul_div_cancel_left _ hd]
  rw[e1,e2,ih (λx hx=>h x (mx _ hx))]
def Wj(ds:List Nat):gU ds 0=eE ds.length 0:=by
 induction ds with
 |nil=>rfl
 |cons d ds ih=>rw[gU,Nat.zero_mod,Nat.zero_div,ih];rfl
def alE(ds:List Nat)(h:∀d∈ds,0<d):∀i t,t<ds.length->(gU ds i).getD t 0<ds.getD t 0:=by
 induction ds with
 |nil=>intro i t ht;simp at ht
 |cons d ds ih =>
  intro i t ht
  cases t with
  |zero=>exact zv _ (h d sI)
  |succ t=>exact ih (λx hx=>h x (mx _ hx)) (i / d) t Jr
def ln(ds:List Nat):Nat:=ds.foldr (· * ·) 1
def ev:List Nat->List Nat->Nat
 |s::ss,q::qs=>q * ln ss+ev ss qs
 |_,_=>0
def anR(ds:List Nat)(h:∀d∈ds,0<d):∀qs:List Nat,qs.length=ds.length->(∀t,t<ds.length->qs.getD t 0<ds.getD t 0)->ev ds qs<ln ds:=by
 induction ds with
 |nil=>intro qs _ _;cases qs <;> exact Nat.one_pos
 |cons d ds ih =>
  intro qs hl hq
  cases qs with
  |nil=>simp at hl
  |cons q qs =>
   have h1:=ih (λx hx=>h x (mx _ hx)) qs Js (λt ht=>hq (t+1) Jr);have h2:q<d:=hq 0 sI;show q * ln ds+ev ds qs<d * ln ds;have h3:=gv (ln ds) (show q+1<=d by omega);rw[iu] at h3;omega
def ahP(ds:List Nat):∀(j:Nat)(qs:List Nat),qs.length=ds.length->j<ds.length->(∀t,t<j->¬qs.getD t 0+1<ds.getD t 0)->qs.getD j 0+1<ds.getD j 0->∀t,(pF ds qs).getD t 0=if t<j then 0 else if t=j then qs.getD j 0+1 else qs.getD t 0:=by
 induction ds with
 |nil=>intro j qs _ hj;simp at hj
 |cons d ds ih =>
  intro j qs hl hj hw hn t
  cases qs with
  |nil=>simp at hl
  |cons q qs =>
   cases j with
   |zero =>
    have Lq:q+1<d:=hn;rw[pF,eD Lq,eB oM]
    cases t with
    |zero=>rfl
    |succ t=>rw[eB oM];rfl
   |succ j =>
    have h0:¬q+1<d:=hw 0 oM;rw[pF,eB h0]
    cases t with
    |zero=>rw[eD oM];rfl
    |succ t =>
     have:=ih j qs Js (by simpa using hj) (λt ht=>hw (t+1) oM) hn t;show (pF ds qs).getD t 0=_;rw[this];simp only[Nat.add_lt_add_iff_right,Nat.add_right_cancel_iff];rfl
def agp(ds:List Nat):∀(qs:List Nat),qs.length=ds.length->(∀t,t<ds.length->¬qs.getD t 0+1<ds.getD t 0)->∀t,(pF ds qs).getD t 0=0:=by
 induction ds with
 |nil=>intro qs hl _ t;cases qs <;> rfl
 |cons d ds ih =>
  intro qs hl hw t
  cases qs with
  |nil=>simp at hl
  |cons q qs =>
   have h0:¬q+1<d:=hw 0 sI;rw[pF,eB h0]
   cases t with
   |zero=>rfl
   |succ t=>exact ih qs Js (λt ht=>hw (t+1) Jr) t
end Pl
variable {ρ:Prop}
def fC.other{g g' off n:Nat}{f:Nat->Int}{w w':Wd}(h:fC g' off n f w)(hg:Gr g w w')(gu:¬g'=g):fC g' off n f w':=by
 have hb:=hg.block g' h.1 (by intro e;injection e with e;exact gu e);have hc:∀o,w'.cell? (Y g' o)=w.cell? (Y g' o):=λo=>by simp only[World.cell?,hb]
 have hf:∀o,w'.frozen? (Y g' o)=w.frozen? (Y g' o):=λo=>by simp only[World.frozen?,hb]
 exact⟨jL h.1 hg.size,λt ht=>⟨(hc _).trans (h.2 t ht).1,(hf _).trans (h.2 t ht).2⟩⟩
def pC(f:Nat->Int)(n i:Nat):Nat->Int:=λt=>if t<i\/n-i<=t then f (n-1-t) else f t
def aem{f:Nat->Int}{n i:Nat}(h:i<n-1-i):jr (jr (pC f n i) i (pC f n i (n-1-i))) (n-1-i) (pC f n i i)=pC f n (i+1):=by
 have e1:pC f n i (n-1-i)=f (n-1-i):=by unfold pC;rw[eB oM]
 have e2:pC f n i i=f i:=by unfold pC;rw[eB oM]
 rw[e1,e2];funext t
 unfold jr pC;by_cases h1:t=n-1-i
 ·subst h1
  rw[eD rfl,eD oM];congr 1;omega
 rw[eB h1];by_cases h2:t=i
 ·subst h2
  rw[eD rfl,eD oM]
 rw[eB h2];by_cases h3:t<i\/n-i<=t
 ·rw[eD h3,eD oM]
 by_cases h4:t<i+1\/n-(i+1)<=t
 ·exfalso;omega
 rw[eB h3,eB h4]
def akR.IG(h:ρ:=by
 have NW:Hid (fC g off n (pC f n (i+1)) (((wr.setCell (Y g (off+i)) (I (G j))).setCell (Y g (off+j)) (I (G i))).drew)/\Gr g w (((wr.setCell (Y g (off+i)) (I (G j))).setCell (Y g (off+j)) (I (G i))).drew)):=by
  refine⟨?_,(GG.o.trans ((Gr.set _ _ _ _).trans (Gr.set _ _ _ _))).drew⟩;rw[<- SX.o];exact((RR.o.set _ mE).set _ gD).drew
 have HJ:=zH hj;go_wp2_with fail;go_region
 all_goals go_wp2
 go_roundw
 case rel=>exact⟨i+1,by have:=HJ.o;omega,gN,by have:=HJ.o;congr 1;omega,NW.o.1,NW.o.2⟩
 case measure=>simp[intOf];omega
 ):ρ:=h
def acG(g off cap n:Nat)(f:Nat->Int)(w:Wd)(hR:fC g off n f w)(hn:n<=1000000)(h0:0<n):
  Cp 278 #[sX (sY g off) n cap] w λe w'=>e=rT (.tuple #[])/\fC g off n (λt=>f (n-1-t)) w'/\Gr g w w':=by
 have HR:Hid (fC g off n (pC f n 0) w):=hR.congr λt ht=>by unfold pC;rw[eB oM]
 go_enter func278,ntmps278;go_wp2_with fail;go_loopw [2,3] (λvi vj wr=>∃i:Nat,2 * i<=n/\vi=I (i:Int)/\vj=I ((n:Int)-1-(i:Int))/\Hid (fC g off n (pC f n i) wr)/\Hid (Gr g w wr)) (λvi _ _=>n-(intOf vi).toNat)
 case atStart=>exact⟨0,oM,rfl,gN,HR,Gr.refl _ _⟩
 obtain⟨i,hi,rfl,rfl,RR,GG⟩:=hrel;by_cases eI:i<n-1-i
 ·have nC:(i:Int)<(n:Int)-1-(i:Int):=oM
  have SX:=zH (aem (f:=f) eI);have⟨G,hG⟩:∃G,pC f n i=G:=⟨_,rfl⟩;rw[hG] at RR SX;have⟨j,hj⟩:∃j,n-1-i=j:=⟨_,rfl⟩;have zS:(n:Int)-1-(i:Int)=(j:Int):=oM;rw[hj] at SX;rw[zS] at nC ⊢;have gD:j<n:=oM;have mE:i<n:=oM;open akR in exact IV
 have nC:¬(i:Int)<(n:Int)-1-(i:Int):=oM;have RE:Hid (fC g off n (λt=>f (n-1-t)) wr):=RR.o.congr λt ht=>by
  unfold pC;by_cases h3:t<i\/n-i<=t
  ·rw[eD h3]
  rw[eB h3];congr 1;omega
 go_wp2_with fail;go_end0
 exact⟨rfl,RE.o,GG.o⟩
def reverse_nil(ao:oA)(cap:Nat)(w:Wd):Cp 278 #[sX ao 0 cap] w λe w'=>e=rT (.tuple #[])/\w'=w:=by
 go_enter func278,ntmps278;go_wp2_with fail;go_loopw [2,3] (λvi vj wr=>vi=I 0/\vj=I (-1)/\wr=w) (λ_ _ _=>0)
 case atStart=>exact⟨rfl,gN,rfl⟩
 obtain⟨rfl,rfl,rfl⟩:=hrel;go_wp2_with fail;go_end0
 exact⟨rfl,rfl⟩
section
variable {ds:List Nat}
namespace Pl
def jJ(sh:lI):List Nat:=sh.map Int.toNat
def Xc(sh:lI)(h:∀x∈sh,0<=x):(ln (jJ sh):Int)=eR sh:=by
 induction sh with
 |nil=>rfl
 |cons x sh ih =>
  rw[oF,<- ih (λy hy=>h y (mx _ hy))];have:=h x sI;show ((x.toNat * ln (jJ sh):Nat):Int)=_;rw[Int.natCast_mul,kl this]
def ac4{sh:lI}(h:gV sh=b_):∀x∈sh,0<=x/\x<=1000:=by
 simp only[gV,fO,ga] at h;exact λx hx=>rM (h.2 x hx)
def VX(sh:lI)(h:∀x∈sh,0<=x)(t:Nat):((jJ sh).getD t 0:Int)=sh.getD t 0:=by
 unfold jJ;rw[List.getD,List.getD,qo]
 cases e:sh[t]? with
 |none=>rfl
 |some x =>
  show ((x.toNat:Nat):Int)=x;exact kl (h x (my e))
def afE(sh:lI)(j:Nat):(jJ sh).drop j=jJ (sh.drop j):=by unfold jJ;rw[List.map_drop]
def anS{qs:List Nat}{j:Nat}(hj:j<ds.length)(hl:qs.length=ds.length):ev (ds.drop j) (qs.drop j)=qs.getD j 0 * ln (ds.drop (j+1))+ev (ds.drop (j+1)) (qs.drop (j+1)):=by
 rw[qW hj,qW (show j<qs.length by omega),ev,List.getD,fw (show j<qs.length by omega)];rfl
def ae0(ds:List Nat):∀(j:Nat)(qs:List Nat),qs.length=ds.length->j<ds.length->(∀t,t<j->¬qs.getD t 0+1<ds.getD t 0)->qs.getD j 0+1<ds.getD j 0->ev ds (pF ds qs)=(qs.getD j 0+1) * ln (ds.drop (j+1))+ev (ds.drop (j+1)) (qs.drop (j+1)):=by
 induction ds with
 |nil=>intro j qs _ hj;simp at hj
 |cons d ds ih =>
  intro j qs hl hj hw hn
  cases qs with
  |nil=>simp at hl
  |cons q qs =>
   cases j with
   |zero =>
    have Lq:q+1<d:=hn;rw[pF,eD Lq,ev];rfl
   |succ j =>
    have h0:¬q+1<d:=hw 0 oM;rw[pF,eB h0,ev,py,gY];exact ih j qs Js (by simpa using hj) (λt ht=>hw (t+1) oM) hn
def adY(ds:List Nat):∀(qs:List Nat),qs.length=ds.length->(∀t,t<ds.length->¬qs.getD t 0+1<ds.getD t 0)->ev ds (pF ds qs)=0:=by
 induction ds with
 |nil=>intro qs hl _;cases qs <;> rfl
 |cons d ds ih =>
  intro qs hl hw
  cases qs with
  |nil=>simp at hl
  |cons q qs =>
   have h0:¬q+1<d:=hw 0 sI;rw[pF,eB h0,ev,py,gY];exact ih qs Js (λt ht=>hw (t+1) Jr)
def ahp(h:∀d∈ds,0<d)(j:Nat):ln (ds.drop j)<=ln ds:=by
 induction ds generalizing j with
 |nil=>simp
 |cons d ds ih =>
  cases j with
  |zero=>exact jR _
  |succ j =>
   have h1:=ih (λx hx=>h x (mx _ hx)) j;have h2:=gv (ln ds) (show 1<=d from h d sI);show ln (ds.drop j)<=d * ln ds;omega
def afV(h:0<ln ds):∀d∈ds,0<d:=by
 induction ds with
 |nil=>intro d hd;cases hd
 |cons x ds ih =>
  have h1:0<x * ln ds:=h;intro d hd;rcases qR.1 hd with rfl|hd
  ·exact Nat.pos_of_mul_pos_right h1
  exact ih (Nat.pos_of_mul_pos_left h1) d hd
def Pz(q:List Nat)(n j:Nat):Nat->Int:=λt=>if n-j<=t then 0 else (q.getD (n-1-t) 0:Int)
def dt(da:lI)(F:Nat->Nat)(i:Nat):Nat->Int:=λt=>if t<i then da.getD (F t) 0 else 0
def ah6(da:lI)(F:Nat->Nat)(i:Nat):jr (dt da F i) i (da.getD (F i) 0)=dt da F (i+1):=by
 funext t
 unfold jr dt;by_cases h:t=i
 ·rw[eD h,eD oM,h]
 rw[eB h];by_cases h2:t<i
 ·rw[eD h2,eD oM]
 rw[eB h2,eB oM]
def ais(q:List Nat)(n j:Nat)(h:j<n):jr (Pz q n j) (n-1-j) 0=Pz q n (j+1):=by
 funext t
 unfold jr Pz;by_cases h1:t=n-1-j
 ·rw[eD h1,eD oM]
 rw[eB h1];by_cases h2:n-j<=t
 ·rw[eD h2,eD oM]
 rw[eB h2,eB oM]
def agZ(f:Nat->Int)(k:Nat)(x y:Int):jr (jr f k x) k y=jr f k y:=by
 funext t
 unfold jr;by_cases h:t=k
 ·rw[eD h,eD h]
 rw[eB h,eB h,eB h]
end Pl
end
def Pl.afc{sh:lI}(h:Pl.gV sh=b_)(k:Nat):Pl.gV (sh.drop k)=b_:=by
 simp only[Pl.gV,fO,fQ,ga] at h ⊢;exact⟨by rw[qX];omega,λx hx=>h.2 x (Dy hx)⟩
def tF(sh:lI)(n j:Nat):Nat->Int:=λt=>if n-j<=t then Pl.eR (sh.drop (n-t)) else 0
def afy{sh:lI}{n j:Nat}(h:j<n):jr (tF sh n j) (n-1-j) (Pl.eR (sh.drop (j+1)))=λt=>if t<n then tF sh n (j+1) t else tF sh n j t:=by
 funext t
 unfold jr tF;by_cases h1:t=n-1-j
 ·subst h1
  rw[eD rfl,eD oM,eD oM,show n-(n-1-j)=j+1 by omega]
 rw[eB h1];by_cases h2:t<n
 ·rw[eD h2]
  by_cases h3:n-j<=t
  ·rw[eD h3,eD oM]
  rw[eB h3,eB oM]
 rw[eB h2]
def UO{P:nK}(x:oA)(n cap:Nat)(sh:lI)(w:Wd)(hl:sh.length=n)(h3:n<=3)(qC:Pl.gV sh=b_)(h:Ri P w (sX x n cap) sh):
  Cp 279 #[sX x n cap] w λe w'=>e=rT (sX (sY w.1.size 0) n n)/\fC w.1.size 0 n (λt=>Pl.eR (sh.drop (n-t))) w'/\Bl w w':=by
 have KC:Hid (∀(j:Nat) W,j<n->Bl w W->Cp 54 #[sX (fU x (j+1) cap) (n-(j+1)) (cap-(j+1))] W λe w'=>e=rT (I (Pl.eR (sh.drop (j+1))))/\w'=W):=λj W hj hb=>by
  have hc:=(h.kp (.of hb)).cut (l:=j+1) (h:=n) oM (jR _);have e:(sh.drop (j+1)).take (n-(j+1))=sh.drop (j+1):=mR (by rw[qX,hl];omega);rw[e] at hc;exact qJ _ hc.rw (afc qC _)
 have CU:=zH λ(j:Nat)(hj:j<n) W=>mO (w:=W) (x:=x) (n:=n) (y:=cap) (l:=j+1) oM;have MK:=zH λW=>n8 W n oM;go_enter func279,ntmps279;go_wp2_with (rw[MK.o])
 generalize hW:ew w _=W0;have V0:=jV hW;have R1:Hid (fC w.1.size 0 n (tF sh n 0) W0):=by
  have:=V0.o.1;rw[xH] at this;refine(G7 this sI).congr λt ht=>?_;unfold tF;rw[eB oM];simp[ig,ht]
 go_loopw [4,10] (λ_ i wr=>∃j:Nat,j<=n/\i=I (j:Int)/\Hid (fC w.1.size 0 n (tF sh n j) wr)/\Hid (Bl w wr)) (λ_ i _=>n-(intOf i).toNat)
 case atStart=>exact⟨0,vZ _,rfl,R1,V0.o.2.1⟩
 obtain⟨j,hj,rfl,RR,BB⟩:=hrel;by_cases eI:j<n
 rotate_left 1
 ·have nC:¬(j:Int)<(n:Int):=oM
  have RE:Hid (fC w.1.size 0 n (λt=>Pl.eR (sh.drop (n-t))) wr):=RR.o.congr λt ht=>by
   unfold tF;rw[eD oM]
  go_wp2;go_returns
  exact⟨rfl,RE.o,BB.o⟩
 have nC:(j:Int)<(n:Int):=oM;have⟨q,HQ⟩:=jN (n-1-j);have xK:(n:Int)-1-(j:Int)=(q:Int):=by have:=HQ.o;omega
 have oP:q<n:=by have:=HQ.o;omega
 have hfw:wr.frozen? (Y w.1.size q)=d_:=by have:=(RR.o.2 q oP).2;rw[gY] at this;exact this
 have jS:cL wr w.1.size q (I (tF sh n j q)):=by have:=(RR.o.2 q oP).1;rw[gY] at this;exact this
 generalize tF sh n j q=x0 at jS;have NW:Hid (fC w.1.size 0 n (tF sh n (j+1)) (wr.setCell (Y w.1.size q) (I (Pl.eR (sh.drop (j+1)))))/\Bl w (wr.setCell (Y w.1.size q) (I (Pl.eR (sh.drop (j+1)))))):=by
  refine⟨?_,BB.o.setCell sI _⟩;have:=RR.o.set (k:=n-1-j) (Pl.eR (sh.drop (j+1))) oM;rw[afy eI,gY,HQ.o] at this;exact this.congr λt ht=>by rw[eD ht]
 have K1:=zH (KC.o j wr eI BB.o);have C1:=zH (CU.o j eI);have e1:((j+1:Nat):Int)=(j:Int)+1:=oM;rw[e1] at C1;generalize Pl.eR (sh.drop (j+1))=px,fU x (j+1) cap=ax,n-(j+1)=an,cap-(j+1)=ac at *;go_wp2_with (first | (refine iW rfl (ie rfl rfl rfl (C1.o _)) ?_) | (go_at_call 54;refine K1.o.mono ?_;rintro e wr ⟨rfl,rfl⟩))
 go_roundw
 case rel=>exact⟨j+1,oM,gN,NW.o.1,NW.o.2⟩
 simp[intOf];omega
section
variable {wb W:Wd}{B g3 o3 g4 g5 g7 n N k:Nat}{D St A:Nat->Int}
structure mL(wb:Wd)(B g3 o3 g4 g5 g7 n N:Nat)(D St P A:Nat->Int)(W:Wd):Prop where
 r3:fC g3 o3 n D W
 r4:fC g4 0 n St W
 r5:fC g5 0 n P W
 r7:fC g7 0 N A W
 b:Below B wb W
def mL.aaH{P:Nat->Int}(h:mL wb B g3 o3 g4 g5 g7 n N D St P A W)(hB:B<=g3)(Cv:g3<g4)(Cu:g4<g5)(Ct:g5<g7)(hk:k<n)(x:Int):mL wb B g3 o3 g4 g5 g7 n N D St (jr P k x) A (W.setCell (Y g5 k) (I x)):=by
 have hg:=Gr.set W g5 k (I x);have h5:=h.r5.set x hk;rw[gY] at h5;exact⟨h.r3.other hg oM,h.r4.other hg oM,h5,h.r7.other hg oM,h.b.setCell (by show B<=g5;omega) _⟩
def mL.aod{P:Nat->Int}(h:mL wb B g3 o3 g4 g5 g7 n N D St P A W)(hB:B<=g3)(Cv:g3<g4)(Cu:g4<g5)(Ct:g5<g7)(hk:k<N)(x:Int):mL wb B g3 o3 g4 g5 g7 n N D St P (jr A k x) (W.setCell (Y g7 k) (I x)):=by
 have hg:=Gr.set W g7 k (I x);have h7:=h.r7.set x hk;rw[gY] at h7;exact⟨h.r3.other hg oM,h.r4.other hg oM,h.r5.other hg oM,h7,h.b.setCell (by show B<=g7;omega) _⟩
def mL.drewN{P:Nat->Int}(q:Nat)(h:mL wb B g3 o3 g4 g5 g7 n N D St P A W):mL wb B g3 o3 g4 g5 g7 n N D St P A (W.drewN q):=⟨h.r3,h.r4,h.r5,h.r7,gx h.b q⟩
def mL.place{P P':Nat->Int}(h:mL wb B g3 o3 g4 g5 g7 n N D St P A W)(e:∀t,t<n->P t=P' t):mL wb B g3 o3 g4 g5 g7 n N D St P' A W:=⟨h.r3,h.r4,h.r5.congr e,h.r7,h.b⟩
def aeZ{Q:Nat->Prop}(v0 v1:Va)(sh da:List Int)(w:Wd)(h:RA Q w v0 v1 (sh,da))(fF:Pl.okB (sh,da)=b_)(hr:0<sh.length)(S Dd:List Int)(hS:sh.reverse=S)(hDd:((eA da.length).map λi=>da.getD (Pl.ev (jJ sh) (gU (jJ sh) i)) 0)=Dd):
  Cp 240 #[.agg #[v0,v1]] w (KP w (.ok (S,Dd))):=by
 have HR:=zH h;obtain⟨⟨x0,c0,rfl⟩,a1,c1,rfl⟩:=h.eS;simp only at HR ⊢;obtain⟨QX,hlen,-,hm0,gJ⟩:=Pl.ok_eq fF;simp only at QX hlen hm0 gJ;have qC:=(Pl.g_ QX).2.2.2.2.2;have zO:=ac4 qC;have Fk:Hid (ln (jJ sh)=da.length):=by
  have e1:=Xc sh (λx hx=>(zO x hx).1);rw[<- hlen] at e1;exact_mod_cast e1
 have Mq:=zH zO;have⟨z0,iC⟩:∃z,sh[0]? = a_ z:=⟨_,fw hr⟩;obtain⟨b0,o0,rfl,kE,-⟩:=HR.o.1.rw.at iC;have⟨b1,o1,Tk⟩:∃b1 o1:Nat,0<da.length->a1=a_ (Y b1 o1):=by
  by_cases hd:0<da.length
  ·obtain⟨b1,o1,e,-⟩:=HR.o.2.rw.at (fw hd)
   exact⟨b1,o1,λ_=>e⟩
  exact⟨0,0,λh=>absurd h hd⟩
 have HA1:=zH Tk;have HC:Hid (∀i,i<da.length->b1<w.1.size/\w.cell? (Y b1 (o1+i))=a_ (I (da.getD i 0))):=λi hi=>by
  have h1:=HR.o.2.rw;rw[Tk oM] at h1;obtain⟨b,o,e,hb,hc⟩:=h1.at (fw hi);injection e with e;injection e with e1 e2;subst e1 e2;exact⟨hb,by rw[hc,ig,fw hi];rfl⟩
 clear Tk;have⟨wb,R'⟩:∃wb,wb=(w.alloc (.cells #[.slice (a_ (Y b0 o0)) sh.length c0,.slice a1 da.length c1] 30)).alloc (.cells #[nJ,nJ] 30):=⟨_,rfl⟩;have V0:=jU R'.symm;have WS:wb.1.size=w.1.size+1+1:=V0.o.2.2.2;have PB:Hid (∀W,Bl wb W->(W.cell? (Y w.1.size 0)=a_ (.slice (a_ (Y b0 o0)) sh.length c0)/\W.cell? (Y w.1.size 1)=a_ (.slice a1 da.length c1))/\(W.cell? (Y (w.1.size+1) 0)=a_ (nJ)/\W.cell? (Y (w.1.size+1) 1)=a_ (nJ)/\∀o,W.frozen? (Y (w.1.size+1) o)=d_)/\Bl w W):=λW hb =>
  ⟨⟨(V0.o.1.below hb).cf.1 0,(V0.o.1.below hb).cf.1 1⟩,⟨(V0.o.2.1.below hb).cf.1 0,(V0.o.2.1.below hb).cf.1 1,(V0.o.2.1.below hb).cf.2⟩,bv hb V0.o.2.2.1⟩
 have KJ:Hid (∀b W,Bl wb W->b<W.1.size->W.cell? (Y b 0)=a_ (.slice (a_ (Y b0 o0)) sh.length c0)->Cp 91 #[.slice (a_ (Y b 0)) 1 1] W λe w'=>∃g off cap,e=.returned (.slice (a_ (Y g off)) sh.length cap)/\(W.1.size<=g/\sh.length<=cap/\cap<=9223372036854775807/\off=0)/\fC g off sh.length (λt=>sh.getD t 0) w'/\Bl W w'):=λb W hb eI oT=>by
  refine(qg (n:=sh.length) rfl oM eI oT (HR.o.1.rw.kp (.of (PB.o W hb).2.2))).mono ?_;rintro e w' ⟨hb',x',y',rfl,o⟩;have hcp:=o.ri.cap;obtain⟨g,rfl,tM,lF,-,LD,-⟩:=o.at iC;refine⟨g,0,y',rfl,⟨tM,hcp.1,hcp.2.1,rfl⟩,⟨lF,λt ht=>⟨?_,LD _⟩⟩,hb'⟩;obtain⟨g',e,-,-,hc,-⟩:=o.at (fw ht);injection e with e;injection e with e1 e2;subst e1;show _=a_ (Value.int .i64 (sh.getD t 0));rw[gY,hc,ig,fw ht];rfl
 have KS:Hid (∀W,Bl wb W->Cp 279 #[.slice (a_ (Y b0 o0)) sh.length c0] W λe w'=>e=.returned (.slice (a_ (Y W.1.size 0)) sh.length sh.length)/\fC W.1.size 0 sh.length (λt=>Pl.eR (sh.drop (sh.length-t))) w'/\Bl W w'):=λW hb=>UO _ _ _ sh W rfl oM qC (HR.o.1.kp (.of (PB.o W hb).2.2));have HSS:=zH hS;have sF:=zH hDd;clear h fF hlen QX qC zO hS hDd iC V0;have⟨ds,LJ⟩:∃ds,jJ sh=ds:=⟨_,rfl⟩;have Ut:=zH LJ;rw[LJ] at Fk sF;have tX:Hid (ds.length=sh.length):=by show _=_;rw[<- LJ];unfold jJ;simp
 clear LJ;have⟨n,hn⟩:∃n,sh.length=n:=⟨_,rfl⟩;have⟨N,hN⟩:∃N,da.length=N:=⟨_,rfl⟩;have Hn:=zH hn;have HN:=zH hN;rw[hn] at hm0 hr PB KJ KS tX;rw[hN] at gJ Fk PB HC sF;rw[hn,hN] at R' ⊢;have Mi:=zH λW=>n8 W n oM;have Ua:=zH λW=>n8 W N oM;clear hn hN;have B0:Hid (Bl wb (wb.alloc (.cells #[.slice (a_ (Y b0 o0)) n c0] 23))):=(jD _ _).alloc (jR _) _;have KJ':=zH (KJ.o wb.1.size (wb.alloc (.cells #[.slice (a_ (Y b0 o0)) n c0] 23)) B0.o sI J5);go_enter func240,ntmps240;go_wp2_with fail;go_step3
 go_wp2_with fail;rw[<- R',<- WS];refine KJ'.o.mono ?_;rintro e w3 ⟨g3,o3,Ke,rfl,zX,gC,eV⟩;have B3:=zH (B0.o.trans (eV.mono sI));have HC3:=zH zX.2;replace zX:=zX.1;have apO:wb.1.size+1<=g3:=by simpa using zX
 have KR:=zH (acG g3 o3 Ke n _ w3 gC oM hr);clear gC eV zX KJ KJ' B0;go_wp2_with fail;refine KR.o.mono ?_;rintro e w4 ⟨rfl,hr4,aaU⟩;have B4:=zH (aaU.eG B3.o (show wb.1.size<=g3 by omega) B3.o.size);have T8:=zH hr4;have K5:=zH (KS.o w4 B4.o);have Af:=(PB.o _ B4.o).1.1;clear hr4 aaU KR B3;go_wp2_with fail;refine K5.o.mono ?_;rintro e w5 ⟨rfl,Lj,kV⟩;have B5:=zH (B4.o.trans (kV.mono B4.o.size));have R35:=zH (T8.o.eG kV);have Me:=zH Lj;have Cv:g3<w4.1.size:=T8.o.1;have⟨g4,hg4⟩:∃g4,w4.1.size=g4:=⟨_,rfl⟩;rw[hg4] at Me Cv ⊢;clear Lj kV K5 T8 Af hg4 B4;have ve:=(PB.o _ B5.o).1.2;have z01:w.1.size<w5.1.size:=by have:=B5.o.size;omega
 go_wp2_with (rw[Mi.o])
 generalize hW:ew w5 _=w6;have V6:=jV hW;clear hW;have ML:Hid (Bl w5 w6):=V6.o.2.1;have B6:=zH (B5.o.trans (ML.o.mono B5.o.size));have R36:=zH (R35.o.eG ML.o);have R46:=zH (Me.o.eG ML.o);have Md:Hid (fC w5.1.size 0 n (λ_=>0) w6):=by
  have:=V6.o.1;rw[xH] at this;refine(G7 this sI).congr λt ht=>?_;simp[ig,ht]
 have Cu:g4<w5.1.size:=Me.o.1;have⟨g5,hg5⟩:∃g5,w5.1.size=g5:=⟨_,rfl⟩;rw[hg5] at Md Cu ⊢;clear ML R35 Me B5 hg5 V6;go_wp2_with (rw[Ua.o])
 generalize hW:ew w6 _=w7;have V7:=jV hW;clear hW;have FC:Hid (Bl w6 w7):=V7.o.2.1;have T7:Hid (fC w6.1.size 0 N (λ_=>0) w7):=by
  have:=V7.o.1;rw[xH] at this;refine(G7 this sI).congr λt ht=>?_;simp[ig,ht]
 have Ct:g5<w6.1.size:=Md.o.1;have⟨g7,SN⟩:∃g7,w6.1.size=g7:=⟨_,rfl⟩;have F7:Hid (mL wb wb.1.size g3 o3 g4 g5 g7 n N (λt=>sh.getD (n-1-t) 0) (λt=>Pl.eR (sh.drop (n-t))) (Pz (gU ds 0) n 0) (Pl.dt da (λi=>Pl.ev ds (gU ds i)) 0) w7):=by
  rw[SN] at T7;refine⟨R36.o.eG FC.o,R46.o.eG FC.o,(Md.o.eG FC.o).congr λt ht=>?_,T7.o.congr λt _=>?_,B6.o.trans (FC.o.mono B6.o.size)⟩
  ·unfold Pz
   rw[eB oM,Wj,List.getD,List.getElem?_replicate];split <;> rfl
  unfold Pl.dt;rw[eB oM]
 rw[SN] at Ct ⊢;clear FC R36 R46 Md T7 B6 SN ve V7;have tU:Hid (Pl.ev ds (gU ds 0)=0):=by
  show _=_;rw[Wj];have:∀l:List Nat,Pl.ev l (eE l.length 0)=0:=λl=>by
   induction l with
   |nil=>rfl
   |cons d l ih=>show 0 * ln l+Pl.ev l (eE l.length 0)=0;rw[ih];omega
  exact this ds
 go_wp2_with fail;go_step3
 go_wp2_with fail;go_loopg [6,8,9,28] N (λg vs _ _ vi wr=>∃i:Nat,i+g=N/\vi=I (i:Int)/\vs=I ((Pl.ev ds (gU ds i):Nat):Int)/\Hid (mL wb wb.1.size g3 o3 g4 g5 g7 n N (λt=>sh.getD (n-1-t) 0) (λt=>Pl.eR (sh.drop (n-t))) (Pz (gU ds i) n 0) (Pl.dt da (λi=>Pl.ev ds (gU ds i)) i) wr))
 case atStart=>exact⟨0,oM,rfl,by rw[tU.o];rfl,F7⟩
 clear F7 tU;obtain⟨i,hig,rfl,rfl,FS⟩:=hrel
 cases gk with
 |zero =>
  have iN:i=N:=oM;have kz:¬((i:Int)<(N:Int)):=oM;have ZR:=zH (PB.o wr FS.o.b);have OR:Hid (RA (wb.1.size<=·) wr (.slice (a_ (Y g3 o3)) n Ke) (.slice (a_ (Y g7 0)) N N) (S,Dd)):=by
   have lS:S.length=n:=by rw[<- HSS.o,ld];exact Hn.o
   have lD:Dd.length=N:=by rw[<- sF.o];simp
   refine⟨⟨_,Ke,by rw[lS],by rw[lS];exact HC3.o.1,HC3.o.2.1,.inr ⟨g3,o3,rfl,⟨oM,FS.o.r3.1⟩,λt x hx=>?_⟩⟩,⟨_,N,by rw[lD],by rw[lD];exact jR _,oM,.inr ⟨g7,0,rfl,⟨oM,FS.o.r7.1⟩,λt x hx=>?_⟩⟩⟩
   ·have ht:t<n:=by have:=(gQ.1 hx).1;simp only at this;omega
    simp only at hx;rw[<- HSS.o,PG (by rw[Hn.o];exact ht),Hn.o] at hx;rw[(FS.o.r3.2 t ht).1];show a_ (Value.int .i64 (sh.getD (n-1-t) 0))=_;rw[ig,hx];rfl
   have ht:t<N:=by have:=(gQ.1 hx).1;simp only at this;omega
   simp only at hx;rw[<- sF.o,qo,uw ht] at hx;injection hx with hx;rw[(FS.o.r7.2 t ht).1,<- hx];unfold Pl.dt;rw[eD oM]
  have j8:wb.1.size<=wr.1.size:=FS.o.b.size;have r0:=ZR.o.2.1.1;have r1:=ZR.o.2.1.2.1;have f2:=ZR.o.2.1.2.2;clear iN FS;go_wp2_with fail;try rw[PE]
  refine eJ (v:=.agg #[.slice (a_ (Y g3 o3)) n Ke,.slice (a_ (Y g7 0)) N N]) (by simp[results,results240,go_sem,r0,r1]) rfl ?_;exact KP.pass (w0:=wb) OR.o ZR.o.2.2 oM oM _ _
 |succ gg =>
  have nC:(i:Int)<(N:Int):=oM;have ZR:=zH (PB.o wr FS.o.b);have Mu:Hid (∀d∈ds,0<d):=afV (by rw[Fk.o];omega);have⟨q,hq⟩:∃q,gU ds i=q:=⟨_,rfl⟩;have HQL:Hid (q.length=n):=by show _=_;rw[<- hq,Xd];exact tX.o
  have HQT:Hid (∀t,t<n->q.getD t 0<ds.getD t 0):=λt ht=>by rw[<- hq];exact alE ds Mu.o i t (by rw[tX.o];exact ht)
  have Kg:Hid (pF ds q=gU ds (i+1)):=by show _=_;rw[<- hq];exact ahO ds Mu.o i
  have Sf:Pl.ev ds q<N:=by rw[<- Fk.o];exact anR ds Mu.o q Jj (λt ht=>HQT.o t (by rw[<- tX.o];exact ht))
  have wM:=zH (ah6 da (λi=>Pl.ev ds (gU ds i)) i);rw[hq] at FS wM ⊢;clear hq;have⟨s,hs⟩:∃s,Pl.ev ds q=s:=⟨_,rfl⟩;have HSE:=zH hs;rw[hs] at Sf wM ⊢;clear hs;have cd:wr.cell? (Y b1 (o1+s))=a_ (I (da.getD s 0)):=(ZR.o.2.2.cell (p:=(Y b1 (o1+s))) (HC.o s Sf).1).trans (HC.o s Sf).2;have ve:=ZR.o.1.2;rw[HA1.o JH] at ve;have c7:∃x7,wr.cell? (Y g7 i)=a_ (I x7):=⟨_,by have:=(FS.o.r7.2 i oM).1;rw[gY] at this;exact this⟩;obtain⟨x7,c7⟩:=c7;have f7:wr.frozen? (Y g7 i)=d_:=by have:=(FS.o.r7.2 i oM).2;rw[gY] at this;exact this
  have FK:Hid (mL wb wb.1.size g3 o3 g4 g5 g7 n N (λt=>sh.getD (n-1-t) 0) (λt=>Pl.eR (sh.drop (n-t))) (Pz q n 0) (Pl.dt da (λi=>Pl.ev ds (gU ds i)) (i+1)) (wr.setCell (Y g7 i) (I (da.getD s 0)))):=by
   rw[<- wM.o];exact FS.o.aod oM Cv Cu Ct oM _
  have hsi:(s:Int)<(N:Int):=oM;clear FS wM ZR;generalize da.getD s 0=xs at *;go_wp2_with fail;generalize wr.setCell _ _=wk at *;clear cd ve c7 f7 hsi;go_loopg [6,9] n (λgi vs vc w2=>∃(j e:Nat),j+gi=n/\vc=I ((n:Int)-1-(j:Int))/\vs=I (e:Int)/\Hid (Pl.ev (ds.drop j) (q.drop j)=e)/\e<=N/\Hid (∀t,t<j->¬q.getD t 0+1<ds.getD t 0)/\Hid (mL wb wb.1.size g3 o3 g4 g5 g7 n N (λt=>sh.getD (n-1-t) 0) (λt=>Pl.eR (sh.drop (n-t))) (Pz q n j) (Pl.dt da (λi=>Pl.ev ds (gU ds i)) (i+1)) w2))
  case atStart=>exact⟨0,s,oM,gN,rfl,HSE,oM,λt ht=>oM,FK⟩
  clear FK;obtain⟨j,e,hjg,rfl,rfl,HE,heN,HW,FS⟩:=hrel
  cases gk with
  |zero =>
   have jn:j=n:=oM;have jz:¬((0:Int)<=(n:Int)-1-(j:Int)):=oM;have e0:e=0:=by
    rw[<- HE.o,A_ (by rw[tX.o];omega)];rfl
   have HV:Hid (Pl.ev ds (gU ds (i+1))=0):=by
    show _=_;rw[<- Kg.o];exact adY ds q Jj (λt ht=>HW.o t (by rw[tX.o] at ht;omega))
   have FE:Hid (mL wb wb.1.size g3 o3 g4 g5 g7 n N (λt=>sh.getD (n-1-t) 0) (λt=>Pl.eR (sh.drop (n-t))) (Pz (gU ds (i+1)) n 0) (Pl.dt da (λi=>Pl.ev ds (gU ds i)) (i+1)) wr):=FS.o.place λt ht=>by
    unfold Pz;rw[eD oM,eB oM,<- Kg.o,agp ds q Jj (λt ht=>HW.o t (by rw[tX.o] at ht;omega))];rfl
   subst e0;clear FS jn HE;go_wp2_with fail;go_roundg gg
   case rel=>exact⟨i+1,oM,gN,by rw[HV.o];rfl,FE⟩
   omega
  |succ gi =>
   have gD:j<n:=oM;have jz:(0:Int)<=(n:Int)-1-(j:Int):=oM;have⟨t0,Lh⟩:∃t0,n-1-j=t0:=⟨_,rfl⟩;have Lf:n-1-t0=j:=oM;have x_:t0<n:=oM;have htc:(n:Int)-1-(j:Int)=(t0:Int):=oM;have apC:(t0:Int)<(n:Int):=oM;have⟨qj,uN⟩:∃qj,q.getD j 0=qj:=⟨_,rfl⟩;obtain⟨st,eL⟩:∃st,ln (ds.drop (j+1))=st:=⟨_,rfl⟩;have⟨dj,yn⟩:∃dj,ds.getD j 0=dj:=⟨_,rfl⟩;have hqd:qj<dj:=by rw[<- uN,<- yn];exact HQT.o j gD
   have aoM:st<=N:=by rw[<- eL,<- Fk.o];exact ahp Mu.o _
   have ao5:dj<=1000:=by
    have h1:=VX sh (λx hx=>(Mq.o x hx).1) j;rw[Ut.o,yn] at h1;have h2:sh.getD j 0∈sh:=by
     rw[List.getD,fw (by rw[Hn.o];exact gD)];exact lh _
    have:=(Mq.o _ h2).2;omega
   have⟨e',yj⟩:∃e',Pl.ev (ds.drop (j+1)) (q.drop (j+1))=e':=⟨_,rfl⟩;have Us:Hid (e=qj * st+e'):=by
    show _=_;rw[<- HE.o,anS (by rw[tX.o];exact gD) Jj,uN,eL,yj]
   have apP:e'<=N:=by
    have h1:=Us.o;have h2:=Nat.le_add_left e' (qj * st);omega
   have c5:wr.cell? (Y g5 t0)=a_ (I (qj:Int)):=by
    have:=(FS.o.r5.2 t0 x_).1;rw[gY] at this;rw[this];unfold Pz;rw[eB oM,Lf,uN]
   have f5:wr.frozen? (Y g5 t0)=d_:=by have:=(FS.o.r5.2 t0 x_).2;rw[gY] at this;exact this
   have c4:wr.cell? (Y g4 t0)=a_ (I (st:Int)):=by
    have:=(FS.o.r4.2 t0 x_).1;rw[gY] at this;rw[this];show a_ (Value.int .i64 (Pl.eR (sh.drop (n-t0))))=_;rw[show n-t0=j+1 by omega,<- Xc _ (λx hx=>(Mq.o x (Dy hx)).1),<- afE,Ut.o,eL]
   have c3:wr.cell? (Y g3 (o3+t0))=a_ (I (dj:Int)):=by
    rw[(FS.o.r3.2 t0 x_).1];show a_ (Value.int .i64 (sh.getD (n-1-t0) 0))=_;rw[Lf,<- VX sh (λx hx=>(Mq.o x hx).1) j,Ut.o,yn]
   have n45:¬g4=g5:=oM;have n35:¬g3=g5:=oM;have n54:¬g5=g4:=oM;have n53:¬g5=g3:=oM;have S1:Hid (mL wb wb.1.size g3 o3 g4 g5 g7 n N (λt=>sh.getD (n-1-t) 0) (λt=>Pl.eR (sh.drop (n-t))) (jr (Pz q n j) t0 ((qj:Int)+1)) (Pl.dt da (λi=>Pl.ev ds (gU ds i)) (i+1)) (wr.setCell (Y g5 t0) (I ((qj:Int)+1)))):=FS.o.aaH oM Cv Cu Ct x_ _;by_cases hc:qj+1<dj
   ·have mF:(qj:Int)+1<(dj:Int):=oM
    have kT:decide ((qj:Int)+1<(dj:Int))=b_:=fM mF;have HV:Hid (Pl.ev ds (gU ds (i+1))=e+st):=by
     show _=_;rw[<- Kg.o,ae0 ds j q Jj (by rw[tX.o];exact gD) HW.o (by rw[uN,yn];exact hc),uN,eL,yj,Us.o,iu];omega
    have FE:Hid (∀qq,mL wb wb.1.size g3 o3 g4 g5 g7 n N (λt=>sh.getD (n-1-t) 0) (λt=>Pl.eR (sh.drop (n-t))) (Pz (gU ds (i+1)) n 0) (Pl.dt da (λi=>Pl.ev ds (gU ds i)) (i+1)) ((wr.setCell (Y g5 t0) (I ((qj:Int)+1))).drewN qq)):=λqq=>(S1.o.place λt ht=>by
     have mE:=ahP ds j q Jj (by rw[tX.o];exact gD) HW.o (by rw[uN,yn];exact hc) (n-1-t);rw[Kg.o] at mE;unfold jr Pz;rw[eB (show ¬n-0<=t by omega),mE,uN];by_cases h1:t=t0
     ·rw[eD h1,eB oM,eD oM]
      rfl
     rw[eB h1];by_cases h2:n-j<=t
     ·rw[eD h2,eD oM];rfl
     rw[eB h2,eB oM,eB oM]).drewN qq
    clear S1 FS uN eL yn yj Lh Lf HE;go_wp2_with fail;go_quiet (fail)
    go_wp2_with fail;go_roundg gg
    case rel=>exact⟨i+1,oM,gN,by rw[HV.o];go_num,FE.o _⟩
    omega
   have mF:¬(qj:Int)+1<(dj:Int):=oM;have kT:decide ((qj:Int)+1<(dj:Int))=d_:=fH mF;have Tf:dj=qj+1:=oM;have⟨mm,qA⟩:∃mm:Nat,st * dj=mm:=⟨_,rfl⟩;have apH:(st:Int) * (dj:Int)=(mm:Int):=by rw[<- qA];exact(Int.natCast_mul st dj).symm
   have hem:e+st=mm+e':=by
    rw[<- qA,Tf,Us.o,Nat.mul_add,Ii,PD st qj];omega
   have hmb:mm<=1000000:=by
    rw[<- qA];exact jT (IF aoM ao5) oM
   have HW':Hid (∀t,t<j+1->¬q.getD t 0+1<ds.getD t 0):=λt ht=>by
    by_cases h1:t=j
    ·rw[h1,uN,yn];exact hc
    exact HW.o t oM
   have HE':=zH yj;have S2:Hid (∀qq,mL wb wb.1.size g3 o3 g4 g5 g7 n N (λt=>sh.getD (n-1-t) 0) (λt=>Pl.eR (sh.drop (n-t))) (Pz q n (j+1)) (Pl.dt da (λi=>Pl.ev ds (gU ds i)) (i+1)) (((wr.setCell (Y g5 t0) (I ((qj:Int)+1))).drewN qq).setCell (Y g5 t0) (I 0))):=λqq=>by
    have:=(S1.o.drewN qq).aaH oM Cv Cu Ct x_ 0;rw[agZ,<- Lh,ais q n j gD,Lh] at this;exact this
   clear S1 FS uN eL yn yj Lh Lf HE qA Tf;go_wp2_with fail;go_quiet (fail)
   go_wp2_with fail;go_quiet (fail)
   go_wp2_with fail;go_roundg gi
   case rel=>exact⟨j+1,e',oM,gN,by congr 1;omega,HE',oM,HW',S2.o _⟩
   omega
end
section
namespace Pl
def WZ(sh:lI)(i:Nat):∀t,t<=sh.length->∀k,(gU (jJ (sh.drop t)) (quo sh.reverse i t)).getD k 0=(gU (jJ sh) i).getD (t+k) 0
 |0,_,k=>by simp[quo]
 |t+1,h,k=>by
  have ih:=WZ sh i t oM (k+1);rw[show t+1+k=t+(k+1) by omega,<- ih,qW (show t<sh.length by omega)];simp only[jJ,oH,gU,Dx,quo];have e:(sh.reverse.getD (sh.reverse.length-1-t) 0)=sh[t]:=by
   rw[Gi sh (by rw[ld];omega),ld,show sh.length-1-(sh.length-1-t)=t by omega,ig,fw oM];rfl
  rw[e]
def ahr{sh:lI}(i:Nat){k:Nat}(hk:k<sh.length):(gS sh.reverse i sh.length).reverse.getD k 0=(((gU (jJ sh) i).getD k 0:Nat):Int):=by
 have hl:(gS sh.reverse i sh.length).length=sh.length:=by rw[yX,ld]
 rw[Gi _ (by rw[hl];exact hk),hl];have h0:=WZ sh i k oM 0;rw[iz,qW hk] at h0;simp only[jJ,oH,gU,AZ] at h0;simp only[gS,ld,ig,qo,uw (show sh.length-1-k<sh.length by omega),vH,Dw];rw[eD oM,show sh.length-1-(sh.length-1-k)=k by omega];show ((_:Nat):Int)=(((gU (jJ sh) i).getD k 0:Nat):Int);rw[show (gU (jJ sh) i).getD k 0=_ from h0.symm];congr 2
 have e:sh.reverse[sh.length-1-k]? = a_ sh[k]:=by rw[PG oM,show sh.length-1-(sh.length-1-k)=k by omega,fw hk]
 rw[e];rfl
def alR{sh:lI}(h:∀x∈sh,0<=x)(h3:sh.length<=3){qs:List Nat}(hl:qs.length=sh.length){ps:lI}(hp:∀k,k<sh.length->ps.getD k 0=((qs.getD k 0:Nat):Int)):hor sh ps sh.length=((ev (jJ sh) qs:Nat):Int):=by
 have nn:∀x∈sh,((x.toNat:Nat):Int)=x:=λx hx=>kl (h x hx);match sh,qs,hl,h3 with
 |[],[],_,_=>rfl
 |[a],[p],_,_ =>
  have:=hp 0 sI;simp only[hor,fW,iA,this,AZ];simp[ev,jJ,ln]
 |[a,b],[p,q],_,_ =>
  have h0:=hp 0 sI;have h1:=hp 1 sI;have nb:=nn b sI;simp only[AZ,Dx] at h0 h1;simp only[hor,fW,iA,h0,h1,AZ,Dx];simp[ev,jJ,ln,nb]
 |[a,b,c],[p,q,r],_,_ =>
  have h0:=hp 0 sI;have h1:=hp 1 sI;have h2:=hp 2 sI;have nb:=nn b sI;have nc:=nn c sI;simp only[AZ,Dx] at h0 h1 h2;simp only[hor,fW,iA,h0,h1,h2,AZ,Dx];simp[ev,jJ,ln,nb,nc,Int.add_mul,Int.mul_assoc,Int.add_assoc]
def alZ{sh da:lI}(h:okB (sh,da)=b_)(i:Nat):yy sh da i=da.getD (ev (jJ sh) (gU (jJ sh) i)) 0:=by
 have e:=ok_eq h;have f:=g_ e.1;have nn:∀x∈sh,0<=x:=λx hx=>(rM (ga.1 f.2.2.2.2.1 x hx)).1;unfold yy;rw[alR nn e.2.2.2.1 (qs:=gU (jJ sh) i) (by rw[Xd];simp[jJ]) λk hk=>ahr i hk,qp]
end Pl
section
variable {P:nK} {w:Wd}
def amv.sK(h:ρ:=by
 obtain⟨c2,f2,z2⟩:=V0.o.2.2.1.all;refine(qg (zs:=[]) (n:=0) rfl oM z2 (c2 0) (HR.o.1.rw.kp (.of V0.o.2.2.2.1))).mono ?_;rintro e B ⟨hb,x2,y2,rfl,o2⟩;have VB:=zH (jA (V0.o.1.below hb) (jA (V0.o.2.1.below hb) (jA (bv hb V0.o.2.2.2.1) (o2.base (B':=w.1.size) (by have:=V0.o.2.2.2.2;omega)))));go_wp2_with fail;refine(reverse_nil _ _ _).mono ?_;rintro e B ⟨rfl,rfl⟩;obtain⟨c1,f1,z1⟩:=VB.o.1.all;go_wp2_with fail;refine(UO x0 0 c0 [] B rfl oM dC (HR.o.1.kp (.of VB.o.2.2.1))).mono ?_;rintro e C ⟨rfl,-,hb⟩;have VC:=zH (jA (VB.o.1.below hb) (jA (VB.o.2.1.below hb) (jA (bv hb VB.o.2.2.1) (VB.o.2.2.2.kp (.of hb)))));obtain⟨c1,f1,z1⟩:=VC.o.1.all;generalize B.1.size=gb;go_wp2_with (first | rw[MK0.o] | rw[Mi.o])
 generalize hW:ew (ew C _) _=W7;have V7:=jU hW;have J:Hid (∀W,Below (C.1.size+1) W7 W->Bx W w.1.size #[sX x0 0 c0,sX (sY b1 o1) 1 cd] 30/\Bx W (w.1.size+1) nN 30/\Bl w W/\Oi w.1.size W (sX x2 0 y2) []/\w.1.size+1<C.1.size):=λW kk=>by
  have k7:=V7.o.2.2.1.trans (kk.mono (show C.1.size<=C.1.size+1 by omega));exact⟨VC.o.1.below k7,VC.o.2.1.below k7,bv k7 VC.o.2.2.1,VC.o.2.2.2.kp (.of k7),VC.o.2.1.lt⟩
 have X7:Hid (Bx W7 (C.1.size+1) (Zr [] 1) 3):=V7.o.2.1;go_step3
 go_wp2_with fail;go_loopg [6,8,9,28] 1 (λg vs _ _ vi wr=>∃i:Nat,i+g=1/\vi=I (i:Int)/\vs=I 0/\Hid (Below (C.1.size+1) W7 wr)/\Hid (Bx wr (C.1.size+1) (Zr (if i=0 then [] else [z]) 1) 3))
 case atStart=>exact⟨0,oM,rfl,rfl,jD _ _,X7⟩
 case round =>
  obtain⟨i,hig,rfl,rfl,hB,hX⟩:=hrel;have⟨S0,S1,S2,S3,S4⟩:=J.o wr hB.o
  cases gk with
  |zero =>
   obtain rfl:i=1:=oM;have o7:=zH (sM hX.o (B:=w.1.size) oM oM rfl);obtain⟨c5,f5,z5⟩:=S1.all;have HS:=zH (jA S1 (jA S2 S3));go_wp2_with fail;try rw[PE]
   refine eJ (by simp[results,results240,go_sem,c5];try rfl) rfl ?_;exact KP.put HS.o.2.2 o7.o (jR _) HS.o.1 HS.o.2.1 oM _ _
  |succ g =>
   obtain rfl:i=0:=oM;have tM:g=0:=oM;rw[eD rfl] at hX;have⟨v9,kN⟩:=sN (l:=[]) (n:=1) (i:=0) sI oM;have jd:wr.cell? (Y (C.1.size+1) 0)=a_ (I v9):=(hX.o.cf.1 0).trans kN;have⟨_,fD,zD⟩:=hX.o.all;obtain⟨c1,f1,z1⟩:=S0.all;have kT:=(S2.cell (p:=(Y b1 o1)) hb1).trans gE;have X3:Hid (Bx (wr.setCell (Y (C.1.size+1) 0) (I z)) (C.1.size+1) (Zr [z] 1) 3):=by
    have e:=um (l:=[]) (n:=1) sI z;have:=hX.o.set 0 (I z);rw[show ([]:lI).length=0 from rfl] at e;rw[e] at this;exact this
   have B3:Hid (Below (C.1.size+1) W7 (wr.setCell (Y (C.1.size+1) 0) (I z))):=hB.o.setCell sI _;have Cb:b1<wr.1.size:=jL hb1 S2.size;go_wp2_with fail;generalize wr.setCell _ _=wk at *;go_loopw [6,9] (λvs v wq=>vs=I 0/\v=I (-1)/\wq=wk) (λ_ _ _=>0)
   case atStart=>exact⟨rfl,gN,rfl⟩
   obtain⟨rfl,rfl,rfl⟩:=hrel;go_wp2_with fail;go_roundg g
   case rel=>exact⟨1,oM,gN,rfl,B3,X3⟩
   omega
 ):ρ:=h
def agx(v0 v1:Va)(a:Ar)(h:RA P w v0 v1 a)(ha:Pl.okB a=b_):Cp 240 #[.agg #[v0,v1]] w (KP w (.ok (Pl.flip a))):=by
 obtain⟨sh,da⟩:=a;by_cases hr:0<sh.length
 ·exact aeZ v0 v1 sh da w h ha hr _ _ rfl (by
   show _=(eA da.length).map (yy sh da);exact A9 λi _=>(alZ ha i).symm)
 obtain rfl:sh=[]:=lP.1 oM;have HR:=zH h;obtain⟨⟨x0,c0,rfl⟩,a1,cd,rfl⟩:=h.eS;have⟨z,hz,gX,hv⟩:=Pl.ok_one ha rfl;have e1:=(Pl.ok_eq ha).2.1;simp only[Pl.eR,Io] at e1;simp only at HR hz gX;obtain⟨b1,o1,rfl,hb1,gE⟩:=HR.o.2.rw.at hz;have hl:da.length=1:=oM;have Ti:da=[z]:=by
  match da,hl,hz with
  |[y],_,h=>simpa using h
 have S_:Pl.flip ([],da)=([],[z]):=by rw[Ti];rfl
 rw[S_,hl];rw[hl] at HR;simp only[iA] at HR ⊢;rw[iz] at gE;have MK0:=zH λW=>n8 W 0 oM;have Mi:=zH λW=>n8 W 1 oM;simp only[Int.natCast_zero,Int.natCast_one] at MK0 Mi;go_enter func240,ntmps240;go_wp2_with fail;go_step3
 open amv in exact sT
end
end
namespace Pl
def ahJ{f g:Int}{x y:lI}{n:Nat}(hg:fN g=b_)(lx:x.length=n)(ly:y.length=n)(hn:n<=1000)(hx:x.all fB=b_)(hy:y.all fB=b_):
  (uD f g x y=match el (two g) ([(n:Int)],x) ([(n:Int)],y) with
   |.error c=>.error c
   |.ok m=>match red f m with
    |.error c=>.error c
    |.ok r=>.ok (r.2.getD 0 0))/\(∀m,el (two g) ([(n:Int)],x) ([(n:Int)],y)=.ok m->okB m=b_/\m.1=[(n:Int)])/\okB ([(n:Int)],x)=b_/\okB ([(n:Int)],y)=b_:=by
 have ox:okB ([(n:Int)],x)=b_:=by have:=xj (l:=x) oM (ga.1 hx);rwa [lx] at this
 have oy:okB ([(n:Int)],y)=b_:=by have:=xj (l:=y) oM (ga.1 hy);rwa [ly] at this
 refine⟨?_,?_,ox,oy⟩
 ·rw[Pq ox oy,uD]
  cases hm:eU (jK (two g)) (x.zip y) with
  |error c=>rfl
  |ok z =>
   have:z.length=n:=by rw[qK hm,zu];omega
   simp only[wS,this];rfl
 intro m hm;have e:=QH hg ox oy;rw[hm] at e;refine⟨e,?_⟩;rw[Pq ox oy] at hm
 cases hz:eU (jK (two g)) (x.zip y) with
 |error c=>rw[hz] at hm;cases hm
 |ok z=>rw[hz] at hm;injection hm with hm;rw[<- hm]
def alQ{fL row da db:lI}{k t H N:Nat}(F:InF fL k t row da db H N)(hf:fy (fL++row)=b_):∃h t':Nat,mq fL=h/\mq row=t'/\h<=1001/\t'<=1001/\N=h * t'/\(0<h->0<t'->t=t'/\H=h)/\fL.all jc=b_/\row.all jc=b_/\N<=1000:=by
 have e:=g_ hf;have hi:fL.all jc=b_/\row.all jc=b_:=by have:=e.2.2.2.2.1;rw[DL,fO] at this;exact this
 have bi:gV fL=b_:=by
  have:=e.2.2.2.1;rw[hJ] at this;rw[gV,hi.1,Bool.and_true,fQ];omega
 have b1:=Nw fL hi.1;have b2:=Nw row hi.2;have p1:=uc fL bi;have p2:=uc row F.br;rw[F.hp] at p1;rw[F.tt] at p2;have hN:N<=1000:=by have:=e.2.2.1;rw[F.pn] at this;omega
 have nn:=F.nn;have⟨h,eh⟩:=sZ b1.1;have⟨t',et⟩:=sZ b2.1;rw[eh] at p1 b1;rw[et] at p2 b2;have key:(0<H->0<t->h=H/\t'=t)/\(H=0->h=0)/\(t=0->t'=0):=by
  refine⟨λz y=>?_,λz=>oM,λz=>oM⟩;have:=xD t z;have:=Nat.le_mul_of_pos_right H y;omega
 refine⟨h,t',eh,et,oM,oM,?_,?_,hi.1,hi.2,hN⟩
 ·rcases rR H with z|z
  ·rw[nn,key.2.1 z,z];simp
  rcases rR t with y|y
  ·rw[nn,key.2.2 y,y];simp
  rw[nn,(key.1 z y).1,(key.1 z y).2]
 intro a b;have:=key.1 oM oM;omega
end Pl
section
variable {ops:Array Oper} {Q:Exit->Act->Wd->Prop} {S:Wd->Prop} {fuel:Nat} {listed:Array Bool} {a:Act} {w:Wd}
def spl{i d:Nat}{o:Oper}{t:TypeId}{p:Operand}(q v:Va)(ho:o.op=Op.load t p/\o.dst=a_ d/\o.guard=c_)(hp:a.eval p=q)(hr:(Instr.loadAt t q).run prog w=.ok v w)(hS:S w)(h:wpAnyH prog .any ops Q S fuel (listed.setIfInBounds i b_) (a.put (a_ d) v) w):Sp ops Q S fuel listed i o a w:=iL v w ho.2.2 (fh q v ho.1 hp hr) hS (by rw[ho.2.1];exact h)
def aoe(i j:Nat){oj:Oper}(t:TypeId)(p:Operand)(d:Nat)(ei:(ops[i]?).map (λo=>(o.op,o.dst,o.guard))=a_ (Op.load t p,a_ d,c_))(ej:ops[j]? = a_ oj)(hi:∀o,(o.op=Op.load t p/\o.dst=a_ d/\o.guard=c_)->Sp ops Q S fuel listed i o a w)(hj:Sp ops Q S fuel listed j oj a w)(hr:Region.ready .any ops listed=[i,j]:=by kernel_rfl):wpAnyH prog .any ops Q S (fuel+1) listed a w:=by
 cases h:ops[i]? with
 |none=>rw[h] at ei;cases ei
 |some o =>
  rw[h] at ei;simp only[vH,kh,kH] at ei;exact gT i j h ej (hi o ei) hj hr
def aof(i:Nat)(t:TypeId)(p:Operand)(d:Nat)(ei:(ops[i]?).map (λo=>(o.op,o.dst,o.guard))=a_ (Op.load t p,a_ d,c_))(hi:∀o,(o.op=Op.load t p/\o.dst=a_ d/\o.guard=c_)->Sp ops Q S fuel listed i o a w)(hr:Region.ready .any ops listed=[i]:=by kernel_rfl):wpAnyH prog .any ops Q S (fuel+1) listed a w:=by
 cases h:ops[i]? with
 |none=>rw[h] at ei;cases ei
 |some o =>
  rw[h] at ei;simp only[vH,kh,kH] at ei;exact iO i h (hi o ei) hr
end
def Xw{X:Prop}(h:X:=by
 refine iO 7 rfl ?_;refine zM rfl (.tmp 155) (.tmp 160) rfl kF kF (U6.o _ KA.o).2.1 (mV _ z) J2 (U6.o _ KA.o).2.2.2 ?_;intro v' w9 ho EC ha;have kg:Kp (λb=>¬(Value.slice xd acc.length yd).ownBlock=a_ b) _ w9:=Kp.grown EC λb e q=>q e;have S9:=jA ((S6.o _ KA.o).1.kp kg (λe=>(NB _ e).1 rfl)) ((zy (kg.bk b7 (λe=>(NB _ e).2 rfl) (U6.o _ KA.o).2.2.1)).trans (S6.o _ KA.o).2);have⟨R9,B9,bz⟩:=hU.step hB hB.size EC ho ha KA.o;have⟨xv,yv,e9⟩:=ho.form;subst e9;refine⟨S9,?_⟩;refine tk 8 (.pointer (sY pb 1)) rfl S9 (λ_ _=>kF) ?_ (hQ:=λc a w h=>HQ c a _ _ w h);refine ts 9 (w9.setCell (Y pb 1) (.slice xv (acc++[z]).length yv)) rfl rfl rfl (jf (.pointer (sY pb 1)) (.slice xv (acc++[z]).length yv) rfl kF kF (Ju bz)) ⟨S9.1.eC (by simpa using NP.1) _,(rZ (by simpa using NP.2) _).trans S9.2⟩ ?_;refine te ?_;try unfold sX at R9;try unfold sX at B9;generalize Value.slice xv (acc++[z]).length yv=vv at R9 B9 ⊢;generalize w9.setCell _ _=W9 at R9 B9 ⊢;go_simp;exact HK _ _ _ _ _ _ _ _ _ _ _ R9 B9):X:=h
def ahK{Q:Exit->Act->Wd->Prop}{N p4 pb wF b7 o7 pK uH:Nat}{B W6:Wd}{ax:oA}{ay:Nat}{dv xP:Va}{sh acc:lI}{z:Int}{t0 t1 t2 t3 t4 t5 t6 t7 t8 t9 ct cg bY dD cV bQ cu dK cX du cY dM b8 bO bR ci dc cC dA dq cT bU dp cQ dQ dG cR dm ck ca cI cD dg cm c8 dL cF bW dN bX dO dk bT cE dr cw bN dH bV cS cZ cr dP dE dF cq cJ cU dI c9 cK ch dh bM cz dB cG dj cB dl cM cW cj bP cA cN bS dn de ce cO dw dJ cc co cP cH di a8 a9 aT av a3 aA bF aK aF aN aj bA au bh bf aJ bD a5 ag a6 bB am ap bc aE bC a7 aI bw aC aw ad bH bL bJ aX bi br aV aa bu aO bI az aW aM ab bG bj aL aQ aZ ae aG aD aP aR aY aH aS bE bq ac bK:Va}
  (hU:Ou N W6 pb (sX ax p4 ay) dv sh acc) (hB:Below N B W6) (hN:N=B.1.size) (aaZ:acc.length<=1000000) (X6:Bx W6 wF #[xP,sX (sY b7 o7) pK uH] 30) (EJ:W6.cell? (Y b7 o7)=a_ (I z)) (l7:b7<W6.1.size) (hl:0<pK)
  (HQ:∀c (a:Act) (n:Nat) v w,Q (.panic c) (a.put (a_ n) v) w->Q (.panic c) a w) (NB:∀b,dv.ownBlock=a_ b->¬b=wF/\¬b=b7) (NP:¬wF=pb/\¬b7=pb)
  (HK:∀(be af ah bg ak ai aq aB aU v':Va)(W9:Wd),Hid (Ou N W9 pb (sX ax p4 ay) v' sh (acc++[z]))->Hid (Below N B W9)->Q .normal { tmps:=#[t0,t1,t2,t3,t4,t5,t6,t7,t8,t9,ct,cg,pT pb,bY,dD,cV,bQ,cu,dK,cX,pT wF,du,cY,dM,b8,bO,bR,ci,dc,cC,dA,dq,cT,bU,dp,cQ,dQ,dG,cR,dm,ck,ca,cI,cD,dg,cm,c8,dL,cF,bW,dN,bX,dO,dk,bT,cE,dr,cw,bN,dH,bV,cS,cZ,cr,dP,dE,dF,cq,cJ,cU,dI,c9,cK,ch,dh,bM,cz,dB,cG,dj,cB,dl,cM,cW,cj,bP,cA,cN,bS,dn,de,ce,cO,dw,dJ,cc,co,cP,cH,di,a8,a9,aT,av,a3,aA,bF,aK,aF,aN,aj,bA,au,bh,bf,aJ,bD,a5,ag,a6,bB,am,ap,bc,aE,bC,a7,aI,bw,aC,aw,ad,bH,bL,bJ,aX,bi,br,aV,aa,bu,aO,bI,az,aW,aM,ab,bG,bj,aL,aQ,aZ,ae,aG,be,af,ah,bg,ak,ai,aq,aB,aU,bK],defers:=[] } W9) :
  Code.wp prog ((oO 30 (Tryz.f108.body.getD .skip)).getD .skip) Q { tmps:=#[t0,t1,t2,t3,t4,t5,t6,t7,t8,t9,ct,cg,pT pb,bY,dD,cV,bQ,cu,dK,cX,pT wF,du,cY,dM,b8,bO,bR,ci,dc,cC,dA,dq,cT,bU,dp,cQ,dQ,dG,cR,dm,ck,ca,cI,cD,dg,cm,c8,dL,cF,bW,dN,bX,dO,dk,bT,cE,dr,cw,bN,dH,bV,cS,cZ,cr,dP,dE,dF,cq,cJ,cU,dI,c9,cK,ch,dh,bM,cz,dB,cG,dj,cB,dl,cM,cW,cj,bP,cA,cN,bS,dn,de,ce,cO,dw,dJ,cc,co,cP,cH,di,a8,a9,aT,av,a3,aA,bF,aK,aF,aN,aj,bA,au,bh,bf,aJ,bD,a5,ag,a6,bB,am,ap,bc,aE,bC,a7,aI,bw,aC,aw,ad,bH,bL,bJ,aX,bi,br,aV,aa,bu,aO,bI,az,aW,aM,ab,bG,bj,aL,aQ,aZ,ae,aG,aD,aP,aR,aY,aH,aS,bE,bq,ac,bK],defers:=[] } W6:=by
 conv=>arg 2;whnf
 subst hN;obtain⟨xd,yd,rfl⟩:=hU.o1.form;have S6:Hid (∀W,Bl W6 W->Bx W wF #[xP,sX (sY b7 o7) pK uH] 30/\cL W b7 o7 (I z)):=λW kk=>⟨X6.below kk,(kk.cell (p:=(Y b7 o7)) l7).trans EJ⟩;have U6:Hid (∀W,Bl W6 W->Bx W pb #[sX ax p4 ay,sX xd acc.length yd] 30/\Oi B.1.size W (sX xd acc.length yd) acc/\b7<W.1.size/\B.1.size<=W.1.size):=λW kk=>⟨hU.bx.below kk,(hU.below kk).o1,jL l7 kk.size,jT hB.size kk.size⟩;refine fT (S:=λW=>Bx W wF #[xP,sX (sY b7 o7) pK uH] 30/\cL W b7 o7 (I z)) kF ⟨X6,EJ⟩ (λhS=>?_);refine tk 0 (.pointer (sY pb 1)) rfl hS (λ_ _=>kF) ?_ (hQ:=λc a w h=>HQ c a _ _ w h);refine tk 2 (.pointer (sY wF 1)) rfl hS (λ_ _=>kF) ?_ (hQ:=λc a w h=>HQ c a _ _ w h);refine tk 3 (sX (sY b7 o7) pK uH) rfl hS (λ_ h=>fh (.pointer (sY wF 1)) _ rfl kF (jY h.1)) ?_ (hQ:=λc a w h=>HQ c a _ _ w h);refine tk 4 (.pointer (sY b7 o7)) rfl hS (λ_ _=>nD (sX (sY b7 o7) pK uH) (I ((0:Nat):Int)) rfl kF kF (qx (k:=0) hl)) ?_ (hQ:=λc a w h=>HQ c a _ _ w h);refine tk 5 (I z) rfl hS (λ_ h=>fh (.pointer (sY b7 o7)) _ rfl kF (nh h.2)) ?_ (hQ:=λc a w h=>HQ c a _ _ w h);have KD:Hid (Bl W6 W6.drew):=(show Below _ _ _ from by go_grown);generalize W6.drew=Wd at *;have KA:Hid (Bl W6 (Wd.alloc (.cells #[I z] 3))):=bv (show Bl Wd _ from by go_grown) KD.o;refine aoe 1 6 23 (.tmp 154) 155 rfl rfl (λo ho=>?_) ?_
 ·refine spl (.pointer (sY pb 1)) _ ho kF (jY (U6.o _ KD.o).1) (S6.o _ KD.o) ?_
  refine iO 6 rfl ?_;refine iL (sX (sY Wd.1.size 0) 1 1) (Wd.alloc (.cells #[I z] 3)) rfl (n_ _ rfl kF) (S6.o _ KA.o) ?_;exact Xw
 refine iL (sX (sY Wd.1.size 0) 1 1) (Wd.alloc (.cells #[I z] 3)) rfl (n_ _ rfl kF) (S6.o _ KA.o) ?_;refine aof 1 23 (.tmp 154) 155 rfl (λo ho=>?_);refine spl (.pointer (sY pb 1)) _ ho kF (jY (U6.o _ KA.o).1) (S6.o _ KA.o) ?_;exact Xw
end Go.Proofs.YtiagfejlmafliaaGreatDoor
