import Derived.Test.YtiagfejlmafliaaGreatDoorWc
namespace Go.Proofs.YtiagfejlmafliaaGreatDoor
set_option linter.all false
open Go.Proofs.Tryz Pl
open Go.RowKit
set_option maxRecDepth 100000
set_option maxHeartbeats 16000000
open Pl (Ar)
open World renaming setCell->ez,alloc->ew
open List renaming range->eA,replicate->eE
open Option renaming some->a_,none->c_
open Bool renaming true->b_,false->d_
variable {ρ:Prop}
namespace Pl
def td(a b:Ar):Except Int Ar:=if 1<a.1.length then .error 2 else if 3<a.2.length then .error 6 else if a.2.all (λx=>decide (0<=x))=d_ then .error 1 else if fy a.2=d_ then .error 6
 else if 0<eQ a.2/\b.2=[] then .error 3 else .ok (a.2,(eA (eQ a.2)).map λi=>b.2.getD (i % b.2.length) 0)
end Pl
def aen{X:Prop}(h:X:=by
 have eI:(j:Int)<(n:Int):=oM;have hp:0<p3:=sj.o oM;have SG:j % p3<p3:=zv _ hp;have⟨z,hz⟩:=gF E3.o SG;obtain⟨bb,ob,rfl,we,EI⟩:=(H'.o.2.rw.kp (.of S3)).at hz;have Sn:¬p3=0:=oM;have aoU:(j:Int).tmod (p3:Int)=((j % p3:Nat):Int):=by rw[zA oM];simp
 have⟨m,HM⟩:=jN (j % p3);rw[HM.o] at aoU EI SG;have apI:(m:Int)<(p3:Int):=oM;have hN:B.1.size<=wr.1.size:=hB.o.size;have UB:Hid (acc.length+[z].length<=16777216):=by show _<=_;rw[nL];simp;omega
 have j_:Hid (acc++[z]=(eA (j+1)).map (λi=>db.getD (i % p3) 0)):=by
  show _=_;rw[uv,mP,hE.o];simp[ig,hz]
 have OA:=zH (hU.o.o1.kp (w':=(wr.alloc (.cells #[I z] 3)).drew) eY);have RX:=zH ((mV wr z).kp (w':=(wr.alloc (.cells #[I z] 3)).drew) eY);have HZ:Hid (B.1.size<=((wr.alloc (.cells #[I z] 3)).drew).1.size):=by show _<=_;simp;omega
 have QY:=zH (show (acc++[z]).length=j+1 by simp[nL]);go_wp2_with fail;go_region_law (refine AI rfl (.tmp 65) (.tmp 75) rfl rfl rfl OA.o RX.o UB.o HZ.o ?_;intro v' w9 ho hg ha;have⟨R9,B9,bz⟩:=hU.o.step hB.o hN hg ho ha;have⟨xv,yv,e4⟩:=ho.form;rw[QY.o] at e4;subst e4;have⟨d2,g2,l2⟩:=bz.all)
 all_goals
  go_wp2;go_roundw
  case rel=>exact⟨j+1,_,_,gN,oM,j_,B9,R9⟩
  simp[intOf];omega):X:=h
def amE.lH(h:ρ:=by
 obtain⟨_,_,_,la,ma⟩:=Pl.ok_eq ha;have⟨_,_,_,lb,mb⟩:=Pl.ok_eq hb;obtain⟨sa,da⟩:=a;obtain⟨sb,db⟩:=b;simp only at H H' la ma lb mb ⊢;have⟨r,HR⟩:∃r,Hid (r=Pl.td (sa,da) (sb,db)):=⟨_,rfl⟩;rw[<- HR.o];have⟨p0,E0⟩:=jN (sa.length);obtain⟨p1,E1⟩:=jN (da.length);have⟨p2,E2⟩:=jN (sb.length);have⟨p3,E3⟩:=jN (db.length);rw[E0.o,E1.o] at H;rw[E2.o,E3.o] at H';rw[E0.o] at la;rw[E1.o] at ma;rw[E2.o] at lb;rw[E3.o] at mb;rw[E0.o,E1.o,E2.o,E3.o];unfold Pl.td at HR;simp only[E0.o,E1.o] at HR;by_cases h1:1<p0
 ·have hr:r=.error 2:=by rw[HR.o,eD h1]
  subst hr;have Cw:(1:Int)<(p0:Int):=oM;exact YJ
 rw[eB h1] at HR;by_cases h3:3<p1
 ·have hr:r=.error 6:=by rw[HR.o,eD h3]
  subst hr;have Cw:¬((1:Int)<(p0:Int)):=oM;have h3':(3:Int)<(p1:Int):=oM;exact YJ
 rw[eB h3] at HR;have Cw:¬((1:Int)<(p0:Int)):=oM;have h3':¬((3:Int)<(p1:Int)):=oM;have h3n:p1<=3:=oM;go_enter func137,ntmps137;go_wp2_with fail;generalize hW:ew (ew (ew w _) _) _=B;have V0:=mK hW;have J:Hid (∀W,Bl B W->Bx W w.1.size #[sX x0 p0 y0,sX x1 p1 y1] 30/\Bx W (w.1.size+1) #[sX x2 p2 y2,sX x3 p3 y3] 30/\Bx W (w.1.size+1+1) nN 30/\Bl w W/\w.1.size+1+1<B.1.size):=λW k=>⟨V0.o.1.below k,V0.o.2.1.below k,V0.o.2.2.1.below k,bv k V0.o.2.2.2.1,V0.o.2.2.1.lt⟩;have⟨S0,S1,S2,S3,S4⟩:=J.o B (jD _ _);obtain⟨c0,f0,z0⟩:=S0.all;obtain⟨c2,f2,z2⟩:=S2.all;have HS:=zH (jA S2 (jA S3 S4));go_loop [6] (λi=>∃k:Nat,k<=p1/\i=I (k:Int)/\Hid ((da.take k).all (λx=>decide (0<=x))=b_)) (λi=>p1-(intOf i).toNat)
 case atStart=>exact⟨0,vZ _,rfl,rfl⟩
 case round =>
  obtain⟨k,hk,rfl,hA⟩:=hrel;by_cases fK:k<p1
  ·have eI:(k:Int)<(p1:Int):=oM
   have⟨z,hz⟩:=gF E1.o fK;obtain⟨ba,oa,rfl,yq,zY⟩:=(H.o.2.rw.kp (.of S3)).at hz;have hs:=zH (Pl.Db (λx=>decide (0<=x)) hz);by_cases iC:z<0
   ·have hr:r=.error 1:=by rw[HR.o,eD (Pl.Du hz J2)]
    subst hr;exact OY
   go_wp2;go_round
   case rel=>exact⟨k+1,by omega,by go_num,by show _=_;rw[hs.o,hA.o];simp;omega⟩
   simp[intOf];omega
  have yi:k=p1:=oM;subst yi;have lV:da.all (λx=>decide (0<=x))=b_:=by have:=hA.o;rwa [mR (by rw[E1.o];exact jR _)] at this
  rw[eB (by rw[lV];simp)] at HR;go_wp2_with fail;refine(lG _ da B (H.o.2.rw.kp (.of S3)) JT).mono ?_;rintro e w2 ⟨hb,u,rfl,o⟩;have⟨x4,y4,e2⟩:=o.form;rw[E1.o] at e2;subst e2;have B2:=zH hb;have O2:=zH o;have s2:=hb.size;go_wp2_with fail;refine(Ax (P:=λ_=>True) _ _ da [] ((O2.o.ri.rw.jG λ_ _ _=>trivial).kp (.of gG)) rfl).l λw3 hb=>?_;have B3:=zH (bv hb (bv (w:=B) gG B2.o));have O3:=zH ((O2.o.kp (.of (by go_grown:Bl w2 (w2.alloc (.cells #[] 3))))).kp (.of hb));have M3:=zH ((Oi.emp (B:=B.1.size) (w:=w2) s2).kp (.of hb));have A3:Hid (∀b,(Value.slice x4 k y4).ownBlock=a_ b->(Value.slice (sY w2.1.size 0) 0 0).ownBlock=a_ b->False):=λb e e'=>by have:=(O2.o.lt e).2;simp[Value.ownBlock] at e';omega
  have s3:=B3.o.size;have⟨S0,S1,S2,S3,S4⟩:=J.o _ B3.o;obtain⟨c2,f2,z2⟩:=S2.all;have HS:=zH (jA S2 (jA S3 S4))
  cases hf:Pl.fy da
  ·have hr:r=.error 6:=by rw[HR.o,eD hf]
   subst hr;simp only[Ih,oJ];exact OY
  rw[eB (by rw[hf];simp)] at HR;have⟨fc,g0,g1,g2,g3,g4⟩:=Pl.g_ hf;have⟨n,HN⟩:∃n:Nat,Hid (Pl.eR da=n):=⟨(Pl.eR da).toNat,by show _=_;omega⟩;have eP:Hid (r=if 0<n/\db=[] then .error 3 else .ok (da,(eA n).map λi=>db.getD (i % p3) 0)):=by
   show _=_;rw[HR.o];simp only[Pl.eQ,HN.o,qp,E3.o]
  have hn:n<=1000:=by rw[HN.o] at g1;omega
  have KP:Hid (∀W,Rw (λ_=>True) W (sX x4 k y4) da->Cp 48 #[sX x4 k y4] W λe w'=>e=rT (I (n:Int))/\w'=W):=λW hv=>by have:=wU _ hv oM g3;rw[fc,HN.o] at this;exact this
  simp only[kI];have W4:Hid (Rw (λ_=>True) (w3.alloc (.cells #[sX x4 k y4,sX (sY w2.1.size 0) 0 0] 30)) (sX x4 k y4) da):=(O3.o.ri.rw.jG λ_ _ _=>trivial).kp (.of gG);have U4:Hid (Ou B.1.size (w3.alloc (.cells #[sX x4 k y4,sX (sY w2.1.size 0) 0 0] 30)) w3.1.size (sX x4 k y4) (sX (sY w2.1.size 0) 0 0) da []):=⟨.eK rfl,(O3.o).kp (.of gG),M3.o.kp (.of gG),A3.o,s3⟩;have B4:Hid (Bl B (w3.alloc (.cells #[sX x4 k y4,sX (sY w2.1.size 0) 0 0] 30))):=bv (w:=B) gG B3.o;go_wp2_with fail;generalize w3.alloc _=W5,w3.1.size=Z at *;refine(KP.o W5 W4.o).mono ?_;rintro e W5 ⟨rfl,rfl⟩;have⟨S0,S1,S2,S3,S4⟩:=J.o _ B4.o;obtain⟨c1,f1,z1⟩:=S1.all;obtain⟨c2,f2,z2⟩:=S2.all;have HS:=zH (jA S2 (jA S3 S4));by_cases hbad:0<n/\db=[]
  ·have hr:r=.error 3:=by rw[eP.o,eD hbad]
   subst hr;have sj:p3=0:=by rw[<- E3.o,hbad.2];rfl
   subst sj;have hn0:(0:Int)<(n:Int):=oM;exact OY
  rw[eB hbad] at eP;have sj:0<n->0<p3:=λhn0=>by
   rcases rR p3 with h|h
   ·exact absurd ⟨hn0,lP.1 (E3.o.trans h)⟩ hbad
   exact h
  replace sj:=zH sj;have hor:(¬((0:Int)<(n:Int))/\n=n)\/((0:Int)<(n:Int)/\((p3:Int) == 0)=d_):=by
   rcases rR n with h|h
   ·exact .inl ⟨oM,rfl⟩
   have:=sj.o h;exact .inr ⟨oM,by simp;omega⟩
  rcases hor with ⟨hn0,-⟩|⟨hn0,hpe⟩
  all_goals
   go_wp2_with fail;go_loopw [10] (λi wr=>∃(j:Nat)(acc:lI) (dv:Va),i=I (j:Int)/\j<=n/\Hid (acc=(eA j).map (λi=>db.getD (i % p3) 0))/\Hid (Bl B wr)/\Hid (Ou B.1.size wr Z (sX x4 k y4) dv da acc)) (λi _=>n-(intOf i).toNat)
   case atStart=>exact⟨0,[],_,rfl,vZ _,rfl,B4,U4⟩
   obtain⟨j,acc,dv,rfl,hj,hE,hB,hU⟩:=hrel;have⟨S0,S1,S2,S3,S4⟩:=J.o _ hB.o;obtain⟨c1,f1,z1⟩:=S1.all;obtain⟨c2,f2,z2⟩:=S2.all;have HS:=zH (jA S2 (jA S3 S4));have⟨xd,yd,e7⟩:=hU.o.o1.form;have nL:acc.length=j:=by rw[hE.o];simp
   rw[nL] at e7;subst e7;obtain⟨c3,f3,z3⟩:=hU.o.bx.all;by_cases gD:j=n
   ·subst gD
    have hr:r=.ok (da,acc):=by rw[eP.o,hE.o]
    subst hr;go_wp2;refine eJ (by simp[results,results137,go_sem, *];try rfl) rfl ?_;exact Ha
   first | (exfalso;omega) | exact aen
 ):ρ:=h
def abM{P:nK}{w:Wd}(v0 v1 v2 v3:Va)(a b:Ar)(h:RA P w v0 v1 a)(h':RA P w v2 v3 b)(ha:Pl.okB a=b_)(hb:Pl.okB b=b_):Cp 137 #[.agg #[v0,v1],.agg #[v2,v3]] w (SP w (Pl.td a b)):=by
 have H:=zH h;have H':=zH h';open amE in exact lO
end Go.Proofs.YtiagfejlmafliaaGreatDoor
