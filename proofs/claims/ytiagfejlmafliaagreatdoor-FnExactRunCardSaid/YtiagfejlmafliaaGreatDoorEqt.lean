import Derived.Test.YtiagfejlmafliaaGreatDoorUq
import Derived.Test.YtiagfejlmafliaaGreatDoorWl
namespace Go.Proofs.YtiagfejlmafliaaGreatDoor
set_option linter.all false
open Go.Proofs.Tryz Pl
open Go.RowKit
set_option maxRecDepth 100000
set_option maxHeartbeats 16000000
open Pl (Ar)
open World renaming setCell->ez,alloc->ew
open List renaming range->eA,replicate->eE
open Option renaming some->a_,none->c_
open Bool renaming true->b_,false->d_
variable {ρ:Prop}
section
namespace Pl
def tG(da:lI)(s n k:Nat):lI:=((eA k).map λi=>rowAt da s (n-1-i)).flatten
def afH{da:lI}{s n t:Nat}(h:t<n):tG da s n (n-t)=tG da s n (n-(t+1))++rowAt da s t:=by
 unfold tG;rw[show n-t=n-(t+1)+1 by omega,uv,mP,vL];simp[show n-1-(n-(t+1))=t by omega]
def ahh{da:lI}{s n k:Nat}(hl:da.length=n * s)(hk:k<=n):(tG da s n k).length=k * s:=by
 unfold tG;rw[ub (s:=s) λd hd=>?_]
 ·simp
 simp only[mu,qV] at hd;obtain⟨i,hi,rfl⟩:=hd;exact rK (by rw[hl];exact gv _ oM)
end Pl
section
variable {P:nK} {w:Wd}
def ak0.pe(h:ρ:=by
 refine(SA.o W0 V0.o.2.2.1).k λB hb=>?_;have J:Hid (∀W,Bl B W->Bx W w.1.size #[sX (sY b0 o0) (p0+1) y0,sX x1 p1 y1] 30/\Bx W (w.1.size+1) nN 30/\Bl w W/\w.1.size<=B.1.size):=λW kk=>⟨(V0.o.1.below hb).below kk,(V0.o.2.1.below hb).below kk,bv kk (bv hb V0.o.2.2.1),(bv hb V0.o.2.2.1).size⟩;have⟨S0,S1,S2,hz⟩:=J.o B (jD _ _);obtain⟨c1,f1,z1⟩:=S0.all;have jS:=(S2.cell (p:=(Y b0 o0)) kE).trans hc0;have zb:b0<B.1.size:=jL kE S2.size;replace KC:=zH (KC.o B S2);go_wp2_with (first | (refine iW rfl (ie rfl rfl rfl (C0.o _)) ?_) | (go_at_call 54;refine KC.o.mono ?_;rintro e B ⟨rfl,rfl⟩) | (rw[MK.o]))
 generalize hW:ew B _=W1;have V1:=jV hW;go_loopw [4,5] (λdv i wr=>∃q:Nat,q<=n/\i=I ((q:Int)-1)/\Hid (Bl B wr)/\Hid (Oi B.1.size wr dv (tG da s n (n-q)))) (λ_ i _=>(intOf i+1).toNat)
 case atStart=>exact⟨n,jR _,rfl,V1.o.2.1,by rw[qt];exact Gy V1.o.1 (jR _) oM⟩
 case round =>
  obtain⟨q,hq,rfl,hB,hO⟩:=hrel;obtain⟨S0,S1,S2,-⟩:=J.o wr hB.o;obtain⟨c1,f1,z1⟩:=S0.all;have CQ:=zH (jA S1 S2);have sw:=hB.o.size;have⟨qq,HQ⟩:=jN ((tG da s n (n-q)).length);have⟨xd,yd,e9⟩:=hO.o.form;rw[HQ.o] at e9;subst e9
  cases q with
  |zero =>
   have hr:=eP.o;subst hr;rw[mw] at hO;have e1:(((0:Nat):Int)-1)=-1:=rfl;rw[e1];go_wp2_with fail;refine(qg EL.o oM sI J5 (H.o.1.rw.kp (.of (bv (w:=w) gG CQ.o.2)))).mono ?_;rintro e w5 ⟨hb,x5,y5,rfl,o5⟩;have K5:Bl wr w5:=bv hb;have V5:=zH (jA (CQ.o.1.below K5) (jA (bv K5 CQ.o.2) (jA (hO.o.kp (.of K5)) (o5.base (B':=B.1.size) J2))));obtain⟨c5,f5,z5⟩:=V5.o.1.all;go_wp2;refine eJ (by simp[results,results239,go_sem,c5];try rfl) rfl ?_;exact KP.put V5.o.2.2.2 V5.o.2.2.1 hz V5.o.1 V5.o.2.1 oM _ _
  |succ t =>
   have ht:t<n:=oM;have e1:(((t+1:Nat):Int)-1)=(t:Int):=oM;rw[e1];have ST:=zH (afH (da:=da) (s:=s) ht);have K1:=zH (KR.o wr t S2 ht);have UB:Hid ((tG da s n (n-(t+1))).length+(Pl.rowAt da s t).length<=16777216):=by have h1:=RL.o (n-(t+1)) oM;have h2:=RT.o t ht;show _<=_;omega
   go_wp2_with fail;refine K1.o.mono ?_;rintro e w' ⟨rfl,x',y',rfl,tK⟩;have RR:=zH tK.rw;go_wp2_with (at_builtin;refine nu rfl (.tmp 27) (.tmp 34) rfl rfl rfl hO.o RR.o UB.o sw ?_)
   intro v' w9 ho hg ha;have B9:=zH (Oi.fI hO.o hB.o hg sw);have O9:Hid (Oi B.1.size w9 v' (tG da s n (n-t))):=by rw[ST.o];exact ho
   go_wp2;go_roundw
   case rel=>exact⟨t,oM,gN,B9,O9⟩
   simp[intOf]
 ):ρ:=h
def akZ.pe(h:ρ:=by
 refine(SA.o W0 V0.o.2.2.1).k λw1 hb=>?_;have V1:=zH (jA (V0.o.1.below hb) (jA (V0.o.2.1.below hb) (bv hb V0.o.2.2.1)));obtain⟨c1,f1,z1⟩:=V1.o.1.all;go_wp2_with fail;refine(CO.o w1 V1.o.2.2).mono ?_;rintro e w2 ⟨hb,u0,u1,rfl,o2⟩;obtain⟨x4,y4,rfl⟩:=o2.1.form;obtain⟨x5,y5,rfl⟩:=o2.2.1.form;have V2:=zH (jA (V1.o.2.1.below hb) (jA (bv hb V1.o.2.2) (jA o2 V1.o.2.2.size)));obtain⟨c2,f2,z2⟩:=V2.o.1.all;go_wp2;refine eJ (by simp[results,results239,go_sem,c2];try rfl) rfl ?_;exact KP.QP V2.o.2.2.1 V2.o.2.2.2 V2.o.1 V2.o.2.1 oM _ _
 ):ρ:=h
def aiC.XZ(h:ρ:=by
 have KC:Hid (∀W,Bl w W->Cp 54 #[sX z9 p0 k9] W λe w'=>e=rT (I (s:Int))/\w'=W):=λW kb=>by
  have:=qJ _ (H0.o.rw.kp (.of kb)) qD;rw[es] at this;exact this
 have KR:Hid (∀W (t:Nat),Bl w W->t<n->Cp 258 #[sX x1 p1 y1,I (s:Int),I (t:Int),I ((t:Int)+1)] W λe w'=>w'=W/\∃x' y',e=rT (sX x' s y')/\Ri P W (sX x' s y') (Pl.rowAt da s t)):=λW t kb ht=>by
  have hh:=H.o.2.kp (.of kb);have h1:(t+1) * s<=n * s:=gv _ ht;have h2:=SD.o;have h3:=xD s (show 0<n by omega);have:=pc x1 p1 y1 da s t (t+1) hh oM oM oM oM oM;exact YT
 have RL:Hid (∀k,k<=n->(tG da s n k).length<=1000):=λk hk=>by
  rw[ahh HL.o hk];have h1:k * s<=n * s:=gv _ hk;have:=SD.o;omega
 have RT:Hid (∀t,t<n->(Pl.rowAt da s t).length<=1000):=λt ht=>by
  rw[Pl.rK (by rw[HL.o];exact gv _ ht)];have h2:=SD.o;have h3:=xD s (show 0<n by omega);omega
 have MK:=zH λW=>Gx W p1 oM;go_enter func239,ntmps239;open ak0 in exact pj
 ):ρ:=h
def ajL.Dk(h:ρ:=by
 have CO:=zH λW (kb:Bl w W)=>FV _ _ a W (h.kp (.of kb)) JV (Pl.ok_eq ha).2.2.2.2;have ma:=(Pl.ok_eq ha).2.2.2.2;obtain⟨sh,da⟩:=a;simp only at H SA CO ma ⊢;obtain⟨p1,E1⟩:=jN (da.length);rw[E1.o] at H SA CO ma ⊢
 cases sh with
 |nil =>
  rw[show Pl.rev ([],da)=([],da) from rfl];rw[fM rfl] at SA;simp only[iA] at H SA CO ⊢;go_enter func239,ntmps239;open akZ in exact pj
 |cons m row =>
  rw[fH sI] at SA;obtain⟨n,rfl,hn,qD,hf,hp,hl,eN⟩:=Pl.ke HA.o;have⟨s,HS⟩:=jN (Pl.eQ row);rw[HS.o] at hl;have es:Pl.eR row=(s:Int):=by rw[<- HS.o];simp[Pl.eQ,kl hp]
  have nj:=(Pl.uc row qD).1.2;rw[es] at nj;have HL:=zH hl;have SD:Hid (p1=n * s):=by show _=_;rw[<- E1.o];exact hl
  have⟨r,HR⟩:∃r,Hid (r=Pl.rev ((n:Int)::row,da)):=⟨_,rfl⟩;rw[<- HR.o];have eP:Hid (r=((n:Int)::row,tG da s n n)):=by show _=_;rw[HR.o,<- HS.o];rfl
  have H0:=zH H.o.1.tl;obtain⟨b0,o0,rfl,kE,hc0⟩:=H.o.1.rw.at (i:=0) rfl;rw[iz] at hc0;have⟨p0,E0⟩:=jN (row.length);have EL:Hid (((n:Int)::row).length=p0+1):=by show _=_;simp[E0.o]
  open aiC in exact YF
 ):ρ:=h
def ahn(v0 v1:Va)(a:Ar)(h:RA P w v0 v1 a)(ha:Pl.okB a=b_):Cp 239 #[.agg #[v0,v1]] w (KP w (.ok (Pl.rev a))):=by
 have H:=zH h;have HA:=zH ha;open ajL in exact Dr
end
end
section
section
variable {P:nK} {w:Wd}
def amK.lH(h:ρ:=by
 clear h h' ha hb;generalize a.1.length=p0,a.2.length=p1,b.1.length=p2,b.2.length=p3,decide (a.2=b.2)=d1 at *
 cases hd:decide (a.1=b.1)
 ·rw[hd] at K0
  simp only[Bool.false_and];go_enter func287,ntmps287;go_wp2_with fail;refine(K0.o _ gG).k λw1 hb=>?_;have BW:=zH (bv (w:=w) hb);clear hb;go_wp2;go_returns
  exact⟨rfl,BW.o⟩
 ·rw[hd] at K0
  simp only[vI];go_enter func287,ntmps287;go_wp2_with fail;generalize hW:ew (ew w _) _=W0;have V0:=jU hW;clear hW;refine(K0.o _ V0.o.2.2.1).k λw1 hb=>?_;have BW:=zH (bv hb V0.o.2.2.1);obtain⟨c0,f0,z0⟩:=(V0.o.1.below hb).all;obtain⟨c1,f1,z1⟩:=(V0.o.2.1.below hb).all;clear hb f0 f1 V0;go_wp2_with fail;refine(K1.o _ BW.o).k λw2 hb=>?_;have BW2:=zH (bv hb BW.o);clear hb c0 z0 c1 z1;go_wp2;go_returns
  exact⟨rfl,BW2.o⟩
 ):ρ:=h
def abp(v0 v1 v2 v3:Va)(a b:Ar)(h:RA P w v0 v1 a)(h':RA P w v2 v3 b)(ha:Pl.okB a=b_)(hb:Pl.okB b=b_):Cp 287 #[.agg #[v0,v1],.agg #[v2,v3]] w (rB (.bool (decide (a.1=b.1) && decide (a.2=b.2))) w):=by
 have K0:=zH λW (kb:Bl w W)=>Gg _ _ a.1 b.1 (h.1.rw.kp (.of kb)) (h'.1.rw.kp (.of kb)) JV (by have:=(Pl.ok_eq hb).2.2.2.1;omega);have K1:=zH λW (kb:Bl w W)=>Gg _ _ a.2 b.2 (h.2.rw.kp (.of kb)) (h'.2.rw.kp (.of kb)) (by have:=(Pl.ok_eq ha).2.2.2.2;omega) (by have:=(Pl.ok_eq hb).2.2.2.2;omega);open amK in exact lO
def amL.lH(h:ρ:=by
 unfold Pl.B_;clear h h' ha hb;generalize a.1.length=p0,a.2.length=p1,b.1.length=p2,b.2.length=p3,(decide (a.1=b.1) && decide (a.2=b.2))=d at *;go_enter func269,ntmps269;go_wp2_with fail;generalize hW:ew (ew (ew w _) _) _=W0;have V0:=mK hW;clear hW;refine(KS.o _ V0.o.2.2.2.1).k λw1 hb=>?_;have V1:=zH (jA (V0.o.2.2.1.below hb) (bv hb V0.o.2.2.2.1));clear hb V0;go_wp2_with fail;refine(Vo d _).mono ?_;rintro e w1 ⟨rfl,rfl⟩;go_wp2_with fail;refine(U5 w1 (Pl.nW d)).mono ?_;rintro e w5 ⟨hb,rfl,o5⟩;have V5:=zH (jA (V1.o.1.below hb) (jA (bv hb V1.o.2) (o5.base (B':=w.1.size) (by have:=V1.o.2.size;omega))));obtain⟨c5,f5,z5⟩:=V5.o.1.all;clear hb o5;go_wp2;refine eJ (by simp[results,results269,go_sem,c5];try rfl) rfl ?_;exact KP.put (Oi.nil _) V5.o.2.2 (jR _) V5.o.1 V5.o.2.1 oM _ _
 ):ρ:=h
def aeG(v0 v1 v2 v3:Va)(a b:Ar)(h:RA P w v0 v1 a)(h':RA P w v2 v3 b)(ha:Pl.okB a=b_)(hb:Pl.okB b=b_):Cp 269 #[.agg #[v0,v1],.agg #[v2,v3]] w (KP w (.ok (Pl.B_ a b))):=by
 have KS:=zH λW (kb:Bl w W)=>abp _ _ _ _ a b (h.kp (.of kb)) (h'.kp (.of kb)) ha hb;open amL in exact lO
end
namespace Pl
def agw{l:lI}{v:Int}{n k:Nat}{q:Int}(e:l.length=n)(hk:k<n)(hq:l[k]? = a_ q):pS l v (n-k)=if q=v then k else pS l v (n-(k+1)):=by
 rw[show n-k=(n-(k+1))+1 by omega];simp only[pS,e];rw[show n-(n-(k+1)+1)=k by omega,hq];simp
end Pl
section
variable {P:nK} {w:Wd}
def ajr.Ye(h:ρ:=by
 clear hb o5 K5 c1 z1;go_wp2_with fail;try rw[PE]
 refine eJ (by simp[results,results268,go_sem,c5];try rfl) rfl ?_;exact KP.put V5.o.2.2.2 V5.o.2.2.1 (jR _) V5.o.1 V5.o.2.1 oM _ _
 ):ρ:=h
def amM.lH(h:ρ:=by
 have⟨r,HR⟩:∃r,Hid (r=Pl.find a b):=⟨_,rfl⟩;rw[<- HR.o];have ma:=(Pl.ok_eq ha).2.2.2.2;have lb:=(Pl.ok_eq hb).2.2.2.1;have mb:=(Pl.ok_eq hb).2.2.2.2;clear h h' ha hb;obtain⟨sa,da⟩:=a;obtain⟨sb,db⟩:=b;simp only at H H' ma lb mb ⊢;unfold Pl.find at HR;simp only at HR;have⟨la,E1⟩:=jN (da.length);have⟨p2,E2⟩:=jN (sb.length);have⟨m,E3⟩:=jN (db.length);rw[E1.o] at H ma ⊢;rw[E2.o] at H' lb ⊢;rw[E3.o] at H' mb ⊢;by_cases hs:sa.length=1
 rotate_left
 ·have hr:r=.error 2:=by rw[HR.o,eD hs]
  subst hr;have gu:((sa.length:Int) != 1)=b_:=by rw[iH];omega
  generalize sa.length=p0 at *;go_enter func268,ntmps268;go_wp2_with fail;go_step3
  exact O'
 have hr:r=.ok (sb,db.map (Pl.mN da)):=by rw[HR.o,eB (by simp[hs])]
 subst hr;have gu:((sa.length:Int) != 1)=d_:=by rw[bne_eq_false_iff_eq];omega
 generalize sa.length=p0 at *;have MK:=zH λW=>n8 W m oM;clear hs HR;go_enter func268,ntmps268;go_wp2_with fail;go_step3
 go_wp2_with (first | (go_at_call 229;refine(iV _ _).mono ?_;rintro e w' ⟨rfl,rfl⟩) | (rw[MK.o]))
 generalize hW:ew (ew (ew (ew w _) _) _) _=W0;have V0:=yA hW;clear hW;have J:Hid (∀W,Below (w.1.size+3) W0 W->Bx W w.1.size #[sX x0 p0 y0,sX x1 la y1] 30/\Bx W (w.1.size+1) #[sX x2 p2 y2,sX x3 m y3] 30/\Bx W (w.1.size+1+1) nN 30/\Bl w W):=λW kk=>⟨V0.o.1.bn kk oM,V0.o.2.1.bn kk oM,V0.o.2.2.1.bn kk oM,V0.o.2.2.2.2.1.trans (kk.mono oM)⟩;have X0:Hid (Bx W0 (w.1.size+1+1+1) (Zr [] m) 3):=V0.o.2.2.2.1;have c1:=(J.o W0 (jD _ _)).2.1.cf.1;have z1:=(J.o W0 (jD _ _)).2.1.lt;clear V0;go_wp2_with fail;go_step3
 go_wp2_with fail;clear c1 z1;go_loopg [6,7,8,9,22] m (λg _ _ _ _ s22 wr=>∃k:Nat,k+g=m/\s22=I (k:Int)/\Hid (Bx wr (w.1.size+1+1+1) (Zr ((db.take k).map (Pl.mN da)) m) 3)/\Hid (Below (w.1.size+3) W0 wr))
 case atStart=>exact⟨0,oM,rfl,X0,jD _ _⟩
 case round =>
  clear X0;obtain⟨k,hkg,rfl,hX,hB⟩:=hrel;have⟨S0,S1,S2,S3⟩:=J.o wr hB.o;have hD:=hX.o.lt;have TL:Hid (((db.take k).map (Pl.mN da)).length=k):=by show _=_;rw[qU,jH,E3.o];omega
  cases gk with
  |zero =>
   obtain rfl:k=m:=oM;have kz:¬((k:Int)<(k:Int)):=oM;obtain⟨c1,f1,z1⟩:=S1.all;have oD:Hid (Oi w.1.size wr (sX (sY (w.1.size+1+1+1) 0) k k) (db.map (Pl.mN da))):=by
    have:=sM hX.o (B:=w.1.size) oM oM TL.o;rwa [mR (by rw[E3.o];exact jR _)] at this
   have HS:=zH (jA S2 S3);clear S0 S1 S2 S3 f1;go_wp2_with fail;refine(qg E2.o oM sI J5 (H'.o.1.rw.kp (.of (bv (w:=w) gG HS.o.2)))).mono ?_;open ajr in exact Y8
  |succ g =>
   have eI:(k:Int)<(m:Int):=oM;have⟨x,hx⟩:=gF E3.o (show k<m by omega);obtain⟨b3,o3,rfl,eV,pQ⟩:=(H'.o.2.rw.kp (.of S3)).at hx;obtain⟨c0,f0,z0⟩:=S0.all;have⟨v9,kN⟩:=sN (l:=(db.take k).map (Pl.mN da)) (n:=m) (i:=k) (by rw[TL.o];omega) oM;have jd:wr.cell? (Y (w.1.size+1+1+1) k)=a_ (I v9):=(hX.o.cf.1 k).trans kN;have fD:=hX.o.cf.2;have NX:Hid (∀y,Pl.mN da x=y->Bx (wr.setCell (Y (w.1.size+1+1+1) k) (I y)) (w.1.size+1+1+1) (Zr ((db.take (k+1)).map (Pl.mN da)) m) 3/\Below (w.1.size+3) W0 (wr.setCell (Y (w.1.size+1+1+1) k) (I y))):=λy hy=>by
    refine⟨?_,hB.o.setCell sI _⟩;have e:=um (l:=(db.take k).map (Pl.mN da)) (n:=m) (by rw[TL.o];omega) y;rw[TL.o] at e;rw[Pl.vq hx,mP,oH,hy,PU,<- e];exact hX.o.set k _
   have HD1:=zH (H.o.2.rw.kp (.of S3));clear S0 S1 S2 S3 kN hx f0;go_wp2_with fail;rename Wd=>wk
   go_loopg [8,9,30] la (λgi _ _ s30 wq=>∃p:Nat,p+gi=la/\s30=I (p:Int)/\wq=wk/\Hid (Pl.mN da x=(Pl.pS da x (la-p):Nat)))
   case atStart=>exact⟨0,by omega,rfl,rfl,by show _=_;unfold Pl.mN;rw[E1.o];rfl⟩
   obtain⟨p,hpg,rfl,rfl,hF⟩:=hrel;rename Wd=>wk
   cases gk with
   |zero =>
    obtain rfl:p=la:=oM;have pz:¬((p:Int)<(p:Int)):=oM;have NY:=zH (NX.o (p:Int) (by rw[hF.o,qt,Pl.pS,E1.o]));clear pQ;exact Y0
   |succ gi =>
    have pt:(p:Int)<(la:Int):=oM;have⟨q,hq⟩:=gF E1.o (show p<la by omega);obtain⟨b1,o1,rfl,hb1,gE⟩:=HD1.o.at hq;have hs:=agw (v:=x) E1.o (show p<la by omega) hq;by_cases he:q=x
    ·subst he
     rw[eD rfl] at hs;have NY:=zH (NX.o (p:Int) (by rw[hF.o,hs]));have te:(q == q)=b_:=sI;clear hs hq c0 z0 pQ;exact Y0
    rw[eB he] at hs;have te:(q == x)=d_:=by rw[gR];exact he
    have hF2:Hid (Pl.mN da x=(Pl.pS da x (la-(p+1)):Nat)):=by show _=_;rw[hF.o,hs]
    clear hs hq he c0 z0 pQ jd fD;go_wp2_with fail;go_roundg gi
    case rel=>exact⟨p+1,oM,gN,rfl,hF2⟩
    omega
 ):ρ:=h
def agA(v0 v1 v2 v3:Va)(a b:Ar)(h:RA P w v0 v1 a)(h':RA P w v2 v3 b)(ha:Pl.okB a=b_)(hb:Pl.okB b=b_):Cp 268 #[.agg #[v0,v1],.agg #[v2,v3]] w (KP w (Pl.find a b)):=by
 have H:=zH h;have H':=zH h';open amM in exact lO
end
end
section
namespace Pl
def drop_eq{n k:Nat}{row db:lI}(h:okB ((n:Int)::row,db)=b_){x:Int}(hx:x=k\/(x<0/\x=-(k:Int))):(if (3:Int)=2 then (if x<0 then span (n:Int) row db (n+x) n else span (n:Int) row db 0 x) else if (n:Int)<=x\/(n:Int)<=-x then span (n:Int) row db 0 0 else if x<0 then span (n:Int) row db 0 (n+x) else span (n:Int) row db x n)
  = .ok ((((if x<0 then n-min k n else n)-(if x<0 then 0 else min k n):Nat):Int)::row,(db.drop ((if x<0 then 0 else min k n) * eQ row)).take ((if x<0 then n-min k n else n) * eQ row-(if x<0 then 0 else min k n) * eQ row)):=by
 rw[eB dC];have LU:=Ng h (i:=0) (j:=0) (jR _) (vZ _);simp only[qt,py,A7] at LU;by_cases me:x<0
 ·simp only[eD me]
  by_cases hb:(n:Int)<=x\/(n:Int)<=-x
  ·rw[eD hb,show min k n=n by omega]
   simp only[qt,py,A7];exact LU
  rw[eB hb,show min k n=k by omega];have:=Ng h (i:=0) (j:=n-k) (vZ _) oM;rw[show (n:Int)+x=((n-k:Nat):Int) by omega];exact this
 simp only[eB me];by_cases hb:(n:Int)<=x\/(n:Int)<=-x
 ·rw[eD hb,show min k n=n by omega]
  simp only[qt,A7];exact LU
 rw[eB hb,show min k n=k by omega];have:=Ng h (i:=k) (j:=n) oM (jR _);rw[show ((k:Nat):Int)=x by omega] at this;exact this
end Pl
def Gl{X:Prop}(h:X:=by
 have KD:Bl w9 w9.drew:=gG;have sD:=KD.size;generalize w9.drew=Wd at *;have K3:Bl w9 (Wd.alloc (.cells #[I (sz:Int)] 3)):=gG;refine tv 3 (sX (sY Wd.1.size 0) 1 1) _ rfl rfl (n_ _ rfl kF) (S9.o _ K3) ?_;have LK:=mV Wd (sz:Int);have s3:=K3.size;generalize Wd.alloc _=TT,Wd.1.size=bl at *;have K7:Bl w9 (TT.alloc (.cells #[sX (sY bl 0) 1 1,sX xl gh yl] 23)):=gG;refine tv 7 (sX (sY TT.1.size 0) 2 2) _ rfl rfl (D4 rfl kF kF) (S9.o _ K7) ?_;refine tc 8 91 #[sX (sY TT.1.size 0) 2 2] rfl rfl kF ((xb (EL.o (sz:Int)) oM sI J5 J5 (LK.kp eY) (J1.o _ K7).2.2.2.2.2.1).mono ?_);rintro e W8 ⟨hb,ax,ay,rfl,oS⟩;have K8:=bv hb K7;refine .inl ⟨_,rfl,S9.o _ K8,?_⟩;refine tc 14 258 _ rfl rfl kF ((KB.o W8 K8).mono ?_);rintro e wz ⟨rfl,rfl⟩;refine .inl ⟨_,rfl,S9.o _ K8,?_⟩;have s8:=K8.size;have K9:Bl w9 (wz.alloc (.cells #[sX xc lc yc] 23)):=gG;refine tv 15 (sX (sY wz.1.size 0) 1 1) _ rfl rfl (Kc rfl kF) (S9.o _ K9) ?_;refine tc 16 91 #[sX (sY wz.1.size 0) 1 1] rfl rfl kF ((qg lcl.o.1 (by have:=lcl.o.2;omega) sI J5 (RC.o _ K9).rw).mono ?_);rintro e W9 ⟨hb9,dx,dy,rfl,oD⟩;have Ka:=bv hb9 K9;have T:=J1.o _ Ka;have tB:=(J1.o w9 (jD _ _)).2.2.2.1.size;have kS:=(Kp.of (P:=λb=>(Value.slice ax (gh+1) ay).ownBlock=a_ b) (show Bl wz W9 from bv hb9));have kX:=zH (KP.put (w:=w) (N:=w.1.size) ((oS.base (by have:=K7.size;omega)).kp kS) (oD.base (by have:=K9.size;omega)) (jR _) T.2.2.1 T.2.2.2.1 (show w.1.size<=w.1.size+1+1 by omega) (sX ax (gh+1) ay) (sX dx lc dy));refine .inl ⟨_,rfl,T.2.1,?_⟩;refine tk 17 (.agg #[sX ax (gh+1) ay,sX dx lc dy]) rfl T.2.1 (λ_ _=>kF) ?_;refine ts 18 _ rfl rfl rfl (jf (pT (w.1.size+1+1)) (.agg #[sX ax (gh+1) ay,sX dx lc dy]) rfl kF kF (mU T.2.2.1)) ((T.2.1.eC sI _).eC sI _) ?_;refine te ?_;obtain⟨c5,f5,z5⟩:=T.2.2.1.all;go_simp;go_wp2;refine eJ (by simp[results,results265,go_sem,c5];try rfl) rfl ?_;exact kX.o):X:=h
section
variable {P:nK} {w:Wd}
def akp.GQ(h:ρ:=by
 refine tk 12 (I (n:Int)) rfl hS (λ_ _=>kF) ?_;refine tk 13 (I (n:Int)) rfl hS (λ_ _=>kF) ?_;exact Gl
 ):ρ:=h
def ako.GQ(h:ρ:=by
 refine tk 12 (I (k:Int)) rfl hS (λ_ _=>kF) ?_;refine tk 13 (I (n:Int)) rfl hS (λ_ _=>kF) ?_;exact Gl
 ):ρ:=h
def akn.GQ(h:ρ:=by
 refine tk 12 (I 0) rfl hS (λ_ _=>kF) ?_;refine tk 13 (I 0) rfl hS (λ_ _=>kF) ?_;exact Gl
 ):ρ:=h
def akm.GQ(h:ρ:=by
 refine tk 12 (I 0) rfl hS (λ_ _=>kF) ?_;refine tk 13 (I ((n-k:Nat):Int)) rfl hS (λ_ _=>kF) ?_;exact Gl
 ):ρ:=h
def ai9.GJ(h:ρ:=by
 refine tk 1 (I (n:Int)) rfl hS (λ_ _=>kF) ?_;open akp in exact Hq
 ):ρ:=h
def ai8.GJ(h:ρ:=by
 refine tk 1 (I (k:Int)) rfl hS (λ_ _=>kF) ?_;open ako in exact Hq
 ):ρ:=h
def ai7.GJ(h:ρ:=by
 refine tk 1 (I (n:Int)) rfl hS (λ_ _=>kF) ?_;open akn in exact Hq
 ):ρ:=h
def ai6.GJ(h:ρ:=by
 refine tk 1 (I (k:Int)) rfl hS (λ_ _=>kF) ?_;open akm in exact Hq
 ):ρ:=h
def aiH.GH(h:ρ:=by
 generalize fU x5 (n * s) y5=xc,y5-n * s=yc at *;open ai9 in exact Hc
 ):ρ:=h
def aiG.GH(h:ρ:=by
 generalize fU x5 (k * s) y5=xc,y5-k * s=yc at *;open ai8 in exact Hc
 ):ρ:=h
def aiF.GH(h:ρ:=by
 generalize fU x5 (0 * s) y5=xc,y5-0 * s=yc at *;open ai7 in exact Hc
 ):ρ:=h
def aiE.GH(h:ρ:=by
 generalize fU x5 (0 * s) y5=xc,y5-0 * s=yc at *;open ai6 in exact Hc
 ):ρ:=h
def anp.anU(h:ρ:=by
 have n4:¬b4=w.1.size+1:=by have:=ra.1.rw.eX (i:=0) rfl;have:=V2.o.2.2.2.2.1;omega
 have apQ:=(V2.o.2.2.2.1.cell (p:=(Y b1 o1)) hb1).trans gE;have nb1:¬b1=w.1.size+1:=oM;have lb0:b1<w2.1.size:=by have:=V2.o.2.2.2.1.size;omega
 have⟨c0',f0',z0'⟩:=V2.o.1.all;go_wp2_with fail;generalize hW:ez (ez w2 _ _) _ _=W3 at *;have Cb:b1<W3.1.size:=jL hb1 J0.o.2.2.2.size;have v_:=(J0.o.2.2.2.cell (p:=(Y b1 o1)) hb1).trans gE;have⟨b4',o4',e6,fZ,pP⟩:=R2.o.1.rw.at (i:=0) rfl;injection e6 with e6;injection e6 with e7 e8;subst e7 e8;rw[iz] at pP;have H2:=zH R2.o.1.tl;rw[show gh+1-1=gh by omega] at H2;have CL:=zH λW=>mO (w:=W) (x:=sY b4 o4) (n:=gh+1) (y:=y4) (l:=1) oM;rw[show gh+1-1=gh by omega] at CL;generalize fU (sY b4 o4) 1 y4=xl,y4-1=yl at *;have S3:Hid (∀W,Bl W3 W->Bx W w.1.size #[sX x0 0 y0,sX (sY b1 o1) p1 y1] 30/\Bx W (w.1.size+1) #[sX (sY b4 o4) (gh+1) y4,sX x5 l5 y5] 30/\W.cell? (Y b1 o1)=a_ (I x)/\W.cell? (Y b4 o4)=a_ (I (n:Int))):=λW kk=>⟨J0.o.1.below kk,J0.o.2.1.below kk,(kk.cell (p:=(Y b1 o1)) Cb).trans v_,(kk.cell (p:=(Y b4 o4)) fZ).trans pP⟩;have J1:Hid (∀W,Bl W3 W->Bx W w.1.size #[sX x0 0 y0,sX (sY b1 o1) p1 y1] 30/\Bx W (w.1.size+1) #[sX (sY b4 o4) (gh+1) y4,sX x5 l5 y5] 30/\Bx W (w.1.size+1+1) nN 30/\Bl w W/\Ri (λ_=>True) W (sX x5 l5 y5) db/\Rw (λ_=>True) W (sX xl gh yl) row/\w.1.size+1+1<W3.1.size):=λW kw =>
  ⟨J0.o.1.below kw,J0.o.2.1.below kw,J0.o.2.2.1.below kw,bv kw J0.o.2.2.2,(R2.o.2.kp (.of kw)).mono λ_ _ _=>trivial,(H2.o.kp (.of kw)).rw.jG λ_ _ _=>trivial,J0.o.2.2.1.lt⟩
 have KT:Hid (Cp 54 #[sX xl gh yl] W3 λe w'=>e=rT (I (s:Int))/\w'=W3):=by
  have:=qJ _ (J1.o W3 (jD _ _)).2.2.2.2.2.1 qD;rw[es] at this;exact this
 have e5:n * s=l5:=by rw[<- HL.o];exact(J1.o W3 (jD _ _)).2.2.2.2.1.rw.len
 have hl5:l5<=1000:=by have:=(Pl.ok_eq OK.o).2.2.2.2;rw[<- e5,<- HL.o];exact this
 have MB:=zH e5;have c1:=(J1.o W3 (jD _ _)).2.1.cf.1;have z1:=(J1.o W3 (jD _ _)).2.1.lt;have c0:=(J1.o W3 (jD _ _)).1.cf.1;have z0:=(J1.o W3 (jD _ _)).1.lt;have EL:Hid (∀z:Int,([z]++row).length=gh+1):=λz=>by simp[E2.o]
 refine(KA.o _).mono ?_;rintro e w9 ⟨rfl,rfl⟩;have hsg:(x<0/\k<=n)\/(x<0/\n<k)\/(¬x<0/\k<=n)\/(¬x<0/\n<k):=oM;rcases hsg with ⟨me,fK⟩|⟨me,fK⟩|⟨me,fK⟩|⟨me,fK⟩
 ·have pG:min k n=k:=oM;have pI:min (k:Int) (n:Int)=(k:Int):=oM
  have hr:Hid (r=.ok ((((n-k)-0:Nat):Int)::row,(db.drop (0 * s)).take ((n-k) * s-0 * s))):=by
   have:=eP.o;rw[pG] at this;simp only[eD me] at this;exact this
  have pL:(n:Int)-(k:Int)=(((n-k)-0:Nat):Int):=oM;have LG:(n:Int)-(k:Int)=((n-k:Nat):Int):=oM;have hij:0<=n-k:=oM;have gD:(n-k) * s<=l5:=by rw[<- MB.o];exact gv _ oM
  have KB:=zH λW (kk:Bl w9 W)=>pc (w:=W) x5 l5 y5 db s 0 (n-k) ((J1.o W kk).2.2.2.2.1) hij gD oM oM oM;have RC:=zH λW (kk:Bl w9 W)=>(J1.o W kk).2.2.2.2.1.cut (l:=0 * s) (h:=(n-k) * s) (gv _ hij) gD;have⟨sz,SZ⟩:=jN (((n-k)-0:Nat));have⟨lc,LC⟩:=jN ((n-k) * s-0 * s);rw[SZ.o] at hr pL;rw[LC.o] at hr KB RC;obtain⟨cl,CE⟩:∃cl,Hid (cl=(db.drop (0 * s)).take lc):=⟨_,rfl⟩;open aiE in exact G_
 ·have pG:min k n=n:=oM;have pI:min (k:Int) (n:Int)=(n:Int):=oM
  have hr:Hid (r=.ok (((0-0:Nat):Int)::row,(db.drop (0 * s)).take (0 * s-0 * s))):=by
   have:=eP.o;rw[pG] at this;simp only[eD me] at this;rw[qt] at this;exact this
  have pL:(n:Int)-(n:Int)=((0-0:Nat):Int):=oM;have LG:(n:Int)-(n:Int)=((n-n:Nat):Int):=oM;have hij:0<=0:=oM;have gD:0 * s<=l5:=by rw[<- MB.o];exact gv _ oM
  have KB:=zH λW (kk:Bl w9 W)=>pc (w:=W) x5 l5 y5 db s 0 0 ((J1.o W kk).2.2.2.2.1) hij gD oM oM oM;have RC:=zH λW (kk:Bl w9 W)=>(J1.o W kk).2.2.2.2.1.cut (l:=0 * s) (h:=0 * s) (gv _ hij) gD;have⟨sz,SZ⟩:=jN ((0-0:Nat));have⟨lc,LC⟩:=jN (0 * s-0 * s);rw[SZ.o] at hr pL;rw[LC.o] at hr KB RC;obtain⟨cl,CE⟩:∃cl,Hid (cl=(db.drop (0 * s)).take lc):=⟨_,rfl⟩;open aiF in exact G_
 ·have pG:min k n=k:=oM;have pI:min (k:Int) (n:Int)=(k:Int):=oM
  have hr:Hid (r=.ok ((((n)-k:Nat):Int)::row,(db.drop (k * s)).take ((n) * s-k * s))):=by
   have:=eP.o;rw[pG] at this;simp only[eB me] at this;exact this
  have pL:(n:Int)-(k:Int)=(((n)-k:Nat):Int):=oM;have LG:(n:Int)-(k:Int)=((n-k:Nat):Int):=oM;have hij:k<=n:=oM;have gD:(n) * s<=l5:=by rw[<- MB.o];exact gv _ oM
  have KB:=zH λW (kk:Bl w9 W)=>pc (w:=W) x5 l5 y5 db s k (n) ((J1.o W kk).2.2.2.2.1) hij gD oM oM oM;have RC:=zH λW (kk:Bl w9 W)=>(J1.o W kk).2.2.2.2.1.cut (l:=k * s) (h:=(n) * s) (gv _ hij) gD;have⟨sz,SZ⟩:=jN (((n)-k:Nat));have⟨lc,LC⟩:=jN ((n) * s-k * s);rw[SZ.o] at hr pL;rw[LC.o] at hr KB RC;obtain⟨cl,CE⟩:∃cl,Hid (cl=(db.drop (k * s)).take lc):=⟨_,rfl⟩;open aiG in exact G_
 ·have pG:min k n=n:=oM;have pI:min (k:Int) (n:Int)=(n:Int):=oM
  have hr:Hid (r=.ok ((((n)-n:Nat):Int)::row,(db.drop (n * s)).take ((n) * s-n * s))):=by
   have:=eP.o;rw[pG] at this;simp only[eB me] at this;exact this
  have pL:(n:Int)-(n:Int)=(((n)-n:Nat):Int):=oM;have LG:(n:Int)-(n:Int)=((n-n:Nat):Int):=oM;have hij:n<=n:=oM;have gD:(n) * s<=l5:=by rw[<- MB.o];exact gv _ oM
  have KB:=zH λW (kk:Bl w9 W)=>pc (w:=W) x5 l5 y5 db s n (n) ((J1.o W kk).2.2.2.2.1) hij gD oM oM oM;have RC:=zH λW (kk:Bl w9 W)=>(J1.o W kk).2.2.2.2.1.cut (l:=n * s) (h:=(n) * s) (gv _ hij) gD;have⟨sz,SZ⟩:=jN (((n)-n:Nat));have⟨lc,LC⟩:=jN ((n) * s-n * s);rw[SZ.o] at hr pL;rw[LC.o] at hr KB RC;obtain⟨cl,CE⟩:∃cl,Hid (cl=(db.drop (n * s)).take lc):=⟨_,rfl⟩;open aiH in exact G_
 ):ρ:=h
def ano.sK(h:ρ:=by
 refine(SA.o W0 V0.o.2.2.2.1).k λw1 hb=>?_;have BW:=zH (bv hb V0.o.2.2.2.1);go_wp2_with (go_at_call 229;refine(kY _ _).mono ?_;rintro e w' ⟨rfl,rfl⟩)
 exact⟨rfl,KP.err BW.o⟩
 ):ρ:=h
def akq.air(h:ρ:=by
 have eP:Hid (r=.ok ((((if x<0 then n-min k n else n)-(if x<0 then 0 else min k n):Nat):Int)::row,(db.drop ((if x<0 then 0 else min k n) * s)).take ((if x<0 then n-min k n else n) * s-(if x<0 then 0 else min k n) * s))):=by
  have:=drop_eq OK.o hk;rw[HS.o] at this;show _=_;rw[HR.o];exact this
 simp only at H hx SA;simp only[iA] at H SA ⊢;obtain⟨p1,E1⟩:=jN (da.length);rw[E1.o] at H SA ⊢;generalize b.1.length=p2,b.2.length=p3 at *;obtain⟨b1,o1,rfl,hb1,gE⟩:=H.o.2.rw.at hx;rw[iz] at gE;have rp:0<p1:=by have:=(gQ.1 hx).1;have:=E1.o;omega
 have aoS:(0:Int)<(p1:Int):=oM;have KA:Hid (∀W,Cp 232 #[I x] W λe w'=>w'=W/\e=rT (I (k:Int))):=λW=>by
  exact anQ
 have hkb:(k:Int)<=3000000000:=oM;go_enter func265,ntmps265;open anp in exact apd
 ):ρ:=h
def aja.aiq(h:ρ:=by
 have⟨r,HR⟩:∃r,Hid (r=Pl.take 3 a b):=⟨_,rfl⟩;rw[<- HR.o];unfold Pl.take at HR;by_cases h0:a.1=[]
 rotate_left
 ·have hr:r=.error 2:=by rw[HR.o,eD h0]
  subst hr;rw[fH h0] at SA;generalize a.1.length=p0,a.2.length=p1,b.1.length=p2,b.2.length=p3 at *;go_enter func265,ntmps265;open ano in exact sT
 open akq in exact alW
 ):ρ:=h
def agE(v0 v1 v2 v3:Va)(a b:Ar)(h:RA P w v0 v1 a)(h':RA P w v2 v3 b)(ha:Pl.okB a=b_)(hb:Pl.okB b=b_):Cp 265 #[.agg #[v0,v1],.agg #[v2,v3]] w (KP w (Pl.take 3 a b)):=by
 open aja in exact alV
end
end
section
variable {b:Nat}{v0 v1:Va}{a:Ar}
def aif(k:Nat)(h0:1<=k)(h1:k<8)(args:aV)(w:Wd):(callFunc (235+k) args).run prog w=.ok (.enter (235+k) args) w:=by
 exact χ
def ama(n:Int)(w:Wd)(h:n<1\/8<=n):Cp 207 #[I n] w λe w'=>e=.panicked [lR 9]/\Bl w w':=by
 have K:Hid (∀b w,Cp 235 #[I n,sX (sY b 0) 8 8] w λe w'=>e=.panicked [lR 9]/\w'=w):=λb w=>by
  have h2:n<1\/(¬n<1/\8<=n):=oM;rcases h2 with h|⟨h',h⟩ <;>
  ·go_enter func235,ntmps235
   exact DS
 go_enter func207,ntmps207;go_wp2_with (go_at_call 235;refine(K.o _ _).mono ?_;rintro e w' ⟨rfl,rfl⟩)
 exact⟨rfl,rfl,gG⟩
def aiw(k:Nat)(w:Wd)(h0:1<=k)(h1:k<8):Cp 207 #[I (k:Int)] w (rB (.func (.func (235+k)) #[] #[]) w):=by
 have K:Hid (∀b v w,cL w b k v->Cp 235 #[I (k:Int),sX (sY b 0) 8 8] w λe w'=>e=rT v/\w'=w):=λb v w hc=>by
  have e0:¬((k:Int)<1):=oM;have e1:¬(8<=(k:Int)):=oM;go_enter func235,ntmps235;exact Dq
 have hk:k=1\/k=2\/k=3\/k=4\/k=5\/k=6\/k=7:=oM;rcases hk with rfl|rfl|rfl|rfl|rfl|rfl|rfl
 all_goals
  go_enter func207,ntmps207;go_wp2_with fail;refine(K.o _ _ _ J3).mono ?_;rintro e w' ⟨rfl,rfl⟩;go_wp2;go_returns
  exact⟨rfl,gG⟩
def aih(k:Nat)(h0:1<=k)(h1:k<8)(args:aV)(w:Wd):(callFunc (262+k) args).run prog w=.ok (.enter (262+k) args) w:=by
 exact χ
def amb(n:Int)(w:Wd)(h:n<1\/8<=n):Cp 216 #[I n] w λe w'=>e=.panicked [lR 9]/\Bl w w':=by
 have K:Hid (∀b w,Cp 262 #[I n,sX (sY b 0) 8 8] w λe w'=>e=.panicked [lR 9]/\w'=w):=λb w=>by
  have h2:n<1\/(¬n<1/\8<=n):=oM;rcases h2 with h|⟨h',h⟩ <;>
  ·go_enter func262,ntmps262
   exact DS
 go_enter func216,ntmps216;go_wp2_with (go_at_call 262;refine(K.o _ _).mono ?_;rintro e w' ⟨rfl,rfl⟩)
 exact⟨rfl,rfl,gG⟩
def aix(k:Nat)(w:Wd)(h0:1<=k)(h1:k<8):Cp 216 #[I (k:Int)] w (rB (.func (.func (262+k)) #[] #[]) w):=by
 have K:Hid (∀b v w,cL w b k v->Cp 262 #[I (k:Int),sX (sY b 0) 8 8] w λe w'=>e=rT v/\w'=w):=λb v w hc=>by
  have e0:¬((k:Int)<1):=oM;have e1:¬(8<=(k:Int)):=oM;go_enter func262,ntmps262;exact Dq
 have hk:k=1\/k=2\/k=3\/k=4\/k=5\/k=6\/k=7:=oM;rcases hk with rfl|rfl|rfl|rfl|rfl|rfl|rfl
 all_goals
  go_enter func216,ntmps216;go_wp2_with fail;refine(K.o _ _ _ J3).mono ?_;rintro e w' ⟨rfl,rfl⟩;go_wp2;go_returns
  exact⟨rfl,gG⟩
section
variable {P:nK} {w:Wd}
def ahB(k:Nat)(h0:1<=k)(h1:k<8)(v0 v1:Va)(a:Ar)(h:RA P w v0 v1 a)(ha:Pl.okB a=b_):Cp (235+k) #[.agg #[v0,v1]] w (KP w (Pl.rO k a)):=by
 have l0:a.1.length<=1000:=by have:=(Pl.ok_eq ha).2.2.2.1;omega
 have l1:=(Pl.ok_eq ha).2.2.2.2;have hk:k=1\/k=2\/k=3\/k=4\/k=5\/k=6\/k=7:=oM;rcases hk with rfl|rfl|rfl|rfl|rfl|rfl|rfl
 ·exact ac1 v0 v1 a h ha
 ·exact acF v0 v1 a h l0 l1
 ·exact aeo v0 v1 a h l0 l1
 ·exact ahn v0 v1 a h ha
 ·exact agx v0 v1 a h ha
 ·exact aeY v0 v1 a h l1
 ·exact ae5 v0 v1 a h ha
def ah5(k:Nat)(h0:1<=k)(h1:k<8)(v0 v1 v2 v3:Va)(a b:Ar)(h:RA P w v0 v1 a)(h':RA P w v2 v3 b)(ha:Pl.okB a=b_)(hb:Pl.okB b=b_):Cp (262+k) #[.agg #[v0,v1],.agg #[v2,v3]] w (KP w (Pl.rY k a b)):=by
 have hk:k=1\/k=2\/k=3\/k=4\/k=5\/k=6\/k=7:=oM;rcases hk with rfl|rfl|rfl|rfl|rfl|rfl|rfl
 ·exact acH v0 v1 v2 v3 a b h h' ha hb
 ·exact afm v0 v1 v2 v3 a b h h' ha hb
 ·exact agE v0 v1 v2 v3 a b h h' ha hb
 ·exact aid v0 v1 v2 v3 a b h h' ha hb
 ·exact agu v0 v1 v2 v3 a b h h' ha hb
 ·exact agA v0 v1 v2 v3 a b h h' ha hb
 ·exact aeG v0 v1 v2 v3 a b h h' ha hb
end
def Lv.one{w:Wd}(hb:Bx w b #[v0,v1] 30)(h:RA (λb=>b<w.1.size) w v0 v1 a)(ho:Pl.okB a=b_):Lv w b 1:=⟨hb.lt,λi hi=>by
 obtain rfl:i=0:=oM;exact⟨v0,v1,a,hb.cf.1 0,hb.cf.1 1,h,ho⟩⟩
def Lv.two{w:Wd}{v2 v3:Va}{a':Ar}(hb:Bx w b #[v0,v1,v2,v3] 30)(h:RA (λb=>b<w.1.size) w v0 v1 a)(ho:Pl.okB a=b_)(h':RA (λb=>b<w.1.size) w v2 v3 a')(ju:Pl.okB a'=b_):Lv w b 2:=⟨hb.lt,λi hi=>by
 obtain rfl|rfl:i=0\/i=1:=oM
 ·exact⟨v0,v1,a,hb.cf.1 0,hb.cf.1 1,h,ho⟩
 ·exact⟨v2,v3,a',hb.cf.1 2,hb.cf.1 3,h',ju⟩⟩
def akr.GS(h:ρ:=by
 refine eJ (by simp[results,results202,go_sem,c5];try rfl) rfl ?_;exact kX.o
 ):ρ:=h
def anC.IY(h:ρ:=by
 by_cases hn:n<1\/5<=n
 ·refine tc 1 205 #[I n] rfl rfl kF ((af2 n Wd hn).mono ?_)
  rintro e W3 ⟨rfl,hb⟩;have hr:r=.error 9:=by rw[HR.o];rw[Pl.qQ,eD oM]
  exact Hi
 ·obtain⟨k,rfl⟩:∃k:Nat,n=k:=⟨n.toNat,oM⟩
  have gp:1<=k:=oM;have hk1:k<5:=oM;have HK:Hid (∀W,Bl B W->Cp (204) #[.func (.func (230+k)) #[] #[],.agg #[sX x0 n0 y0,sX x1 n1 y1]] W (KP W r)):=λW kk=>by
   have hh:=H.o.kp (w':=W) (.of (S9.o W kk).2.2.1);rw[HR.o];rw[Pl.qQ,eB oM];exact Nq (230+k) #[] (Pl.one k) _ _ a W hh (by have:=(Pl.ok_eq HA.o).2.2.2.1;omega) (Pl.ok_eq HA.o).2.2.2.2 (al3 k gp hk1) λx hx W _=>(Nr x (Pl.lU HA.o x hx) k gp hk1 W).mono λe w' h=>h.cb
  refine tc 1 205 #[I (k:Int)] rfl rfl kF ((aes k Wd gp hk1).mono ?_);rintro e W3 ⟨rfl,hb⟩;have K3:=bv hb KD;refine .inl ⟨_,rfl,⟨(S9.o _ K3).1,(S9.o _ K3).2.1⟩,?_⟩;refine tc 3 _ _ rfl rfl kF ((HK.o W3 K3).mono ?_);rintro e W4 hK
  cases r with
  |error c =>
   exact Hk
  |ok ar =>
   open akr in exact Ht
 ):ρ:=h
def aks.GO(h:ρ:=by
 have⟨r,HR⟩:∃r,Hid (r=Pl.qQ n a):=⟨_,rfl⟩;rw[<- HR.o];generalize gK:a.1.length=n0 at *;generalize gr:a.2.length=n1 at *;go_enter func202,ntmps202;open anC in exact J_
 ):ρ:=h
def agV{P:nK}(pa po:Nat)(n:Int)(v0 v1:Va)(a:Ar)(w:Wd)(ba:Bx w pa #[v0,v1] 30)(bo:Bx w po #[I n] 3)(h:RA P w v0 v1 a)(ha:Pl.okB a=b_):Cp 202 #[pT pa,pT po] w (KP w (Pl.qQ n a)):=by
 open aks in exact Hl
def akt.GS(h:ρ:=by
 refine eJ (by simp[results,results208,go_sem,c5];try rfl) rfl ?_;exact kX.o
 ):ρ:=h
def aiQ.Dj(h:ρ:=by
 have HK:Hid (∀W,Bl B W->Cp (209) #[mB k,.agg #[sX x0 n0 y0,sX x1 n1 y1]] W (KP W r)):=λW kk=>by
  have hh:=H.o.kp (w':=W) (.of (S9.o W kk).2.2.1);rw[HR.o];rw[Pl.reduce,eD (xi gp hk1)];exact U9 k gp hk1 _ _ a hh HA.o
 refine tc 1 210 #[I (k:Int)] rfl rfl kF ((AE k Wd gp hk1).mono ?_);rintro e W3 ⟨rfl,hb⟩;have K3:=bv hb KD;refine .inl ⟨_,rfl,⟨(S9.o _ K3).1,(S9.o _ K3).2.1⟩,?_⟩;refine tc 3 _ _ rfl rfl kF ((HK.o W3 K3).mono ?_);rintro e W4 hK
 cases r with
 |error c =>
  exact Hk
 |ok ar =>
  open akt in exact Ht
 ):ρ:=h
def anD.IY(h:ρ:=by
 by_cases hn:n<1\/11<=n
 ·refine tc 1 210 #[I n] rfl rfl kF ((AJ n Wd hn).mono ?_)
  rintro e W3 ⟨rfl,hb⟩;have hr:r=.error 9:=by rw[HR.o];rw[Pl.reduce,eB Jm]
  exact Hi
 ·open aiQ in exact Dm
 ):ρ:=h
def aku.GO(h:ρ:=by
 have⟨r,HR⟩:∃r,Hid (r=Pl.reduce n a):=⟨_,rfl⟩;rw[<- HR.o];generalize gK:a.1.length=n0 at *;generalize gr:a.2.length=n1 at *;go_enter func208,ntmps208;open anD in exact J_
 ):ρ:=h
def agT{P:nK}(pa po:Nat)(n:Int)(v0 v1:Va)(a:Ar)(w:Wd)(ba:Bx w pa #[v0,v1] 30)(bo:Bx w po #[I n] 3)(h:RA P w v0 v1 a)(ha:Pl.okB a=b_):Cp 208 #[pT pa,pT po] w (KP w (Pl.reduce n a)):=by
 open aku in exact Hl
def akv.GS(h:ρ:=by
 refine eJ (by simp[results,results211,go_sem,c5];try rfl) rfl ?_;exact kX.o
 ):ρ:=h
def aiR.Dj(h:ρ:=by
 have HK:Hid (∀W,Bl B W->Cp (212) #[mB k,.agg #[sX x0 n0 y0,sX x1 n1 y1]] W (KP W r)):=λW kk=>by
  have hh:=H.o.kp (w':=W) (.of (S9.o W kk).2.2.1);rw[HR.o];rw[Pl.scan,eD (xi gp hk1)];exact afG k gp hk1 _ _ a hh HA.o
 refine tc 1 210 #[I (k:Int)] rfl rfl kF ((AE k Wd gp hk1).mono ?_);rintro e W3 ⟨rfl,hb⟩;have K3:=bv hb KD;refine .inl ⟨_,rfl,⟨(S9.o _ K3).1,(S9.o _ K3).2.1⟩,?_⟩;refine tc 3 _ _ rfl rfl kF ((HK.o W3 K3).mono ?_);rintro e W4 hK
 cases r with
 |error c =>
  exact Hk
 |ok ar =>
  open akv in exact Ht
 ):ρ:=h
def anE.IY(h:ρ:=by
 by_cases hn:n<1\/11<=n
 ·refine tc 1 210 #[I n] rfl rfl kF ((AJ n Wd hn).mono ?_)
  rintro e W3 ⟨rfl,hb⟩;have hr:r=.error 9:=by rw[HR.o];rw[Pl.scan,eB Jm]
  exact Hi
 ·open aiR in exact Dm
 ):ρ:=h
def akw.GO(h:ρ:=by
 have⟨r,HR⟩:∃r,Hid (r=Pl.scan n a):=⟨_,rfl⟩;rw[<- HR.o];generalize gK:a.1.length=n0 at *;generalize gr:a.2.length=n1 at *;go_enter func211,ntmps211;open anE in exact J_
 ):ρ:=h
def agS{P:nK}(pa po:Nat)(n:Int)(v0 v1:Va)(a:Ar)(w:Wd)(ba:Bx w pa #[v0,v1] 30)(bo:Bx w po #[I n] 3)(h:RA P w v0 v1 a)(ha:Pl.okB a=b_):Cp 211 #[pT pa,pT po] w (KP w (Pl.scan n a)):=by
 open akw in exact Hl
def akx.GS(h:ρ:=by
 refine eJ (by simp[results,results206,go_sem,c5];try rfl) rfl ?_;exact kX.o
 ):ρ:=h
def anZ.IY(h:ρ:=by
 by_cases hn:n<1\/8<=n
 ·refine tc 1 207 #[I n] rfl rfl kF ((ama n Wd hn).mono ?_)
  rintro e W3 ⟨rfl,hb⟩;have hr:r=.error 9:=by rw[HR.o];unfold Pl.rO;(repeat' rw[eB oM])
  exact Hi
 ·obtain⟨k,rfl⟩:∃k:Nat,n=k:=⟨n.toNat,oM⟩
  have gp:1<=k:=oM;have hk1:k<8:=oM;have HK:Hid (∀W,Bl B W->Cp (235+k) #[.agg #[sX x0 n0 y0,sX x1 n1 y1]] W (KP W r)):=λW kk=>by
   have hh:=H.o.kp (w':=W) (.of (S9.o W kk).2.2.1);rw[HR.o];exact ahB k gp hk1 _ _ a hh HA.o
  refine tc 1 207 #[I (k:Int)] rfl rfl kF ((aiw k Wd gp hk1).mono ?_);rintro e W3 ⟨rfl,hb⟩;have K3:=bv hb KD;refine .inl ⟨_,rfl,⟨(S9.o _ K3).1,(S9.o _ K3).2.1⟩,?_⟩;refine tc 3 (235+k) #[.agg #[sX x0 n0 y0,sX x1 n1 y1]] rfl rfl (zI (235+k) #[] #[.agg #[sX x0 n0 y0,sX x1 n1 y1]] (aif k gp hk1) rfl kF kF) ((HK.o W3 K3).mono ?_);rintro e W4 hK
  cases r with
  |error c =>
   exact Hk
  |ok ar =>
   open akx in exact Ht
 ):ρ:=h
def aky.GO(h:ρ:=by
 have⟨r,HR⟩:∃r,Hid (r=Pl.rO n a):=⟨_,rfl⟩;rw[<- HR.o];generalize gK:a.1.length=n0 at *;generalize gr:a.2.length=n1 at *;go_enter func206,ntmps206;open anZ in exact J_
 ):ρ:=h
def agU{P:nK}(pa po:Nat)(n:Int)(v0 v1:Va)(a:Ar)(w:Wd)(ba:Bx w pa #[v0,v1] 30)(bo:Bx w po #[I n] 3)(h:RA P w v0 v1 a)(ha:Pl.okB a=b_):Cp 206 #[pT pa,pT po] w (KP w (Pl.rO n a)):=by
 open aky in exact Hl
def an0.sK(h:ρ:=by
 refine(wX 202 _ r W0 (λw=>kF) (λW kk=>by rw[HR.o];exact agV _ _ n _ _ a W (V0.o.2.1.below kk) (V0.o.1.below kk) (H.o.kp (.of (bv kk V0.o.2.2.2.1))) HA.o)).mono ?_;rintro e w3 jQ;obtain⟨x4,l4,y4,x5,l5,y5,rfl,gP,hb⟩:=SP.open (show SP W0 r e w3 from jQ);have V3:=zH (jA (V0.o.2.2.1.below hb) (jA (bv hb V0.o.2.2.2.1) V0.o.2.2.1.lt));obtain⟨c3,f3,z3⟩:=V3.o.1.all;go_wp2;refine eJ (by simp[results,results182,go_sem,c3];try rfl) rfl ?_;exact SP.put gP.o V3.o.2.1 oM V3.o.2.2 _ _
 ):ρ:=h
def abS{P:nK}(n:Int)(v0 v1:Va)(a:Ar)(w:Wd)(h:RA P w v0 v1 a)(ha:Pl.okB a=b_):Cp 182 #[I n,.agg #[v0,v1]] w (SP w (Pl.qQ n a)):=by
 have jv:=jv;obtain⟨⟨x0,y0,rfl⟩,x1,y1,rfl⟩:=h.eS;have H:=zH h;have HA:=zH ha;have⟨r,HR⟩:∃r,Hid (r=Pl.qQ n a):=⟨_,rfl⟩;rw[<- HR.o];generalize gK:a.1.length=n0 at *;generalize gr:a.2.length=n1 at *;go_enter func182,ntmps182;open an0 in exact sT
def an3.sK(h:ρ:=by
 refine(wX 206 _ r W0 (λw=>kF) (λW kk=>by rw[HR.o];exact agU _ _ n _ _ a W (V0.o.2.1.below kk) (V0.o.1.below kk) (H.o.kp (.of (bv kk V0.o.2.2.2.1))) HA.o)).mono ?_;rintro e w3 jQ;obtain⟨x4,l4,y4,x5,l5,y5,rfl,gP,hb⟩:=SP.open (show SP W0 r e w3 from jQ);have V3:=zH (jA (V0.o.2.2.1.below hb) (jA (bv hb V0.o.2.2.2.1) V0.o.2.2.1.lt));obtain⟨c3,f3,z3⟩:=V3.o.1.all;go_wp2;refine eJ (by simp[results,results183,go_sem,c3];try rfl) rfl ?_;exact SP.put gP.o V3.o.2.1 oM V3.o.2.2 _ _
 ):ρ:=h
def abP{P:nK}(n:Int)(v0 v1:Va)(a:Ar)(w:Wd)(h:RA P w v0 v1 a)(ha:Pl.okB a=b_):Cp 183 #[I n,.agg #[v0,v1]] w (SP w (Pl.rO n a)):=by
 have jv:=jv;obtain⟨⟨x0,y0,rfl⟩,x1,y1,rfl⟩:=h.eS;have H:=zH h;have HA:=zH ha;have⟨r,HR⟩:∃r,Hid (r=Pl.rO n a):=⟨_,rfl⟩;rw[<- HR.o];generalize gK:a.1.length=n0 at *;generalize gr:a.2.length=n1 at *;go_enter func183,ntmps183;open an3 in exact sT
def an4.sK(h:ρ:=by
 refine(wX 208 _ r W0 (λw=>kF) (λW kk=>by rw[HR.o];exact agT _ _ n _ _ a W (V0.o.2.1.below kk) (V0.o.1.below kk) (H.o.kp (.of (bv kk V0.o.2.2.2.1))) HA.o)).mono ?_;rintro e w3 jQ;obtain⟨x4,l4,y4,x5,l5,y5,rfl,gP,hb⟩:=SP.open (show SP W0 r e w3 from jQ);have V3:=zH (jA (V0.o.2.2.1.below hb) (jA (bv hb V0.o.2.2.2.1) V0.o.2.2.1.lt));obtain⟨c3,f3,z3⟩:=V3.o.1.all;go_wp2;refine eJ (by simp[results,results184,go_sem,c3];try rfl) rfl ?_;exact SP.put gP.o V3.o.2.1 oM V3.o.2.2 _ _
 ):ρ:=h
def abv{P:nK}(n:Int)(v0 v1:Va)(a:Ar)(w:Wd)(h:RA P w v0 v1 a)(ha:Pl.okB a=b_):Cp 184 #[I n,.agg #[v0,v1]] w (SP w (Pl.reduce n a)):=by
 have jv:=jv;obtain⟨⟨x0,y0,rfl⟩,x1,y1,rfl⟩:=h.eS;have H:=zH h;have HA:=zH ha;have⟨r,HR⟩:∃r,Hid (r=Pl.reduce n a):=⟨_,rfl⟩;rw[<- HR.o];generalize gK:a.1.length=n0 at *;generalize gr:a.2.length=n1 at *;go_enter func184,ntmps184;open an4 in exact sT
def an5.sK(h:ρ:=by
 refine(wX 211 _ r W0 (λw=>kF) (λW kk=>by rw[HR.o];exact agS _ _ n _ _ a W (V0.o.2.1.below kk) (V0.o.1.below kk) (H.o.kp (.of (bv kk V0.o.2.2.2.1))) HA.o)).mono ?_;rintro e w3 jQ;obtain⟨x4,l4,y4,x5,l5,y5,rfl,gP,hb⟩:=SP.open (show SP W0 r e w3 from jQ);have V3:=zH (jA (V0.o.2.2.1.below hb) (jA (bv hb V0.o.2.2.2.1) V0.o.2.2.1.lt));obtain⟨c3,f3,z3⟩:=V3.o.1.all;go_wp2;refine eJ (by simp[results,results185,go_sem,c3];try rfl) rfl ?_;exact SP.put gP.o V3.o.2.1 oM V3.o.2.2 _ _
 ):ρ:=h
def acq{P:nK}(n:Int)(v0 v1:Va)(a:Ar)(w:Wd)(h:RA P w v0 v1 a)(ha:Pl.okB a=b_):Cp 185 #[I n,.agg #[v0,v1]] w (SP w (Pl.scan n a)):=by
 have jv:=jv;obtain⟨⟨x0,y0,rfl⟩,x1,y1,rfl⟩:=h.eS;have H:=zH h;have HA:=zH ha;have⟨r,HR⟩:∃r,Hid (r=Pl.scan n a):=⟨_,rfl⟩;rw[<- HR.o];generalize gK:a.1.length=n0 at *;generalize gr:a.2.length=n1 at *;go_enter func185,ntmps185;open an5 in exact sT
end
def ac0(l:lI)(a1 a2:oA)(c1 c2:Nat)(w:Wd)(hl:l.length<=1048576)(R1:j' w.1.size w a1 l)(R2:j' w.1.size w a2 l):
  Cp 36 #[sX a1 l.length c1,sX a2 l.length c2] w (rB (.bool b_) w):=by
 have HG:Hid (∀k,k<l.length->∃x b1 o1 b2 o2,a1=sY b1 o1/\b1<w.1.size/\a2=sY b2 o2/\b2<w.1.size/\∀w',Bl w w'->cL w' b1 (o1+k) (I x)/\cL w' b2 (o2+k) (I x)):=λk hk=>by
  rcases R1 with rfl|⟨b1,o1,h1,rfl,gE⟩
  ·cases hk
  rcases R2 with rfl|⟨b2,o2,h2,rfl,jC⟩
  ·cases hk
  exact⟨l[k],b1,o1,b2,o2,rfl,h1,rfl,h2,λw' hw=>⟨(hw.cell (p:=(Y b1 (o1+k))) h1).trans (gE k l[k] (fw hk)),(hw.cell (p:=(Y b2 (o2+k))) h2).trans (jC k l[k] (fw hk))⟩⟩
 generalize l.length=n at *;go_enter func36,ntmps36;go_wp2;go_loopw [5] (λi wr=>∃k:Nat,k<=n/\i=I k/\Hid (Bl w wr)) (λi _=>n-(intOf i).toNat)
 case atStart=>exact⟨0,vZ _,rfl,jD _ _⟩
 obtain⟨k,hk,rfl,HB⟩:=hrel;by_cases eI:k<n
 ·obtain⟨x,b1,o1,b2,o2,rfl,h1,rfl,h2,hc⟩:=HG.o k eI
  have⟨apU,apT⟩:=hc _ HB.o;have nC:(k:Int)<(n:Int):=oM;go_wp2;go_quiet (fail)
  go_wp2;go_roundw
  case rel=>exact⟨k+1,oM,gN,gx HB.o _⟩
  simp[intOf];omega
 go_wp2;go_ret
 exact⟨rfl,HB.o⟩
def ajd.GK(h:ρ:=by
 go_enter func122,ntmps122;go_wp2;go_ret
 exact⟨rfl,HB.o _ _⟩
 ):ρ:=h
def ae1(k a b:Int)(nm:bA)(w:Wd):
  Cp 122 #[.agg #[I k,I a,I b,.string nm],.agg #[I k,I a,I b,.string nm]] w (rB (.bool b_) w):=by
 open ajd in exact Hd
def amg.uj(h:ρ:=by
 generalize s.k=kk at *;go_enter func92,ntmps92;go_wp2_with fail;refine(K1.o _ _).k λw1 hb1=>?_;have p2:=fG hb1 (b:=w.1.size) (j:=2) J7 J3;have q2:=fG hb1 (b:=w.1.size+1) (j:=2) J7 J3;have p3:=fG hb1 (b:=w.1.size) (j:=3) J7 J3;have q3:=fG hb1 (b:=w.1.size+1) (j:=3) J7 J3;have p4:=fG hb1 (b:=w.1.size) (j:=4) J7 J3;have q4:=fG hb1 (b:=w.1.size+1) (j:=4) J7 J3;have p5:=fG hb1 (b:=w.1.size) (j:=5) J7 J3;have q5:=fG hb1 (b:=w.1.size+1) (j:=5) J7 J3;have p6:=fG hb1 (b:=w.1.size) (j:=6) J7 J3;have q6:=fG hb1 (b:=w.1.size+1) (j:=6) J7 J3;have B1:=zH ((HB.o _ _).trans (hb1.mono J2));go_wp2_with fail;refine(K2.o _ B1.o).k λw2 hb2=>?_;have B2:=zH (B1.o.trans (hb2.mono B1.o.size));go_wp2;go_ret
 exact⟨rfl,B2.o⟩
 ):ρ:=h
def aje.GK(h:ρ:=by
 have K1:Hid (∀o1 o2,Cp 36 #[sX a1 s.eF.length c1,sX a2 s.eF.length c2] ((w.alloc o1).alloc o2) λe w'=>e=rT (.bool b_)/\Below ((w.alloc o1).alloc o2).1.size ((w.alloc o1).alloc o2) w'):=λo1 o2=>ac0 s.eF a1 a2 c1 c2 _ hn ((r1.eG (HB.o _ _)).up (HB.o _ _).size) ((r2.eG (HB.o _ _)).up (HB.o _ _).size);have K2:Hid (∀w',Bl w w'->Cp 122 #[.agg #[I s.fn.k,I s.fn.a,I s.fn.b,.string (Pl.ba s.fn.nm)],.agg #[I s.fn.k,I s.fn.a,I s.fn.b,.string (Pl.ba s.fn.nm)]] w' λe w2=>e=rT (.bool b_)/\Bl w' w2):=λw' _=>ae1 _ _ _ _ _;generalize s.eF.length=sn at *;open amg in exact uu
 ):ρ:=h
def acZ(s:Sv)(a1 a2:oA)(c1 c2:Nat)(w:Wd)(hn:s.eF.length<=1048576)(r1:j' w.1.size w a1 s.eF)(r2:j' w.1.size w a2 s.eF):
  Cp 92 #[.agg #[I s.k,sX a1 s.eF.length c1,.string (Pl.ba s.nm),I s.fn.k,I s.fn.a,I s.fn.b,.string (Pl.ba s.fn.nm)],.agg #[I s.k,sX a2 s.eF.length c2,.string (Pl.ba s.nm),I s.fn.k,I s.fn.a,I s.fn.b,.string (Pl.ba s.fn.nm)]] w (rB (.bool b_) w):=by
 open aje in exact Hd
def amh.uj(h:ρ:=by
 generalize s.k=kk at *;go_wp2;go_region_with (go_at_call 92;refine(K.o _ HB.o.drew).mono ?_;rintro e w2 ⟨rfl,eV⟩;have p9:=zH (HB.o.drew.trans (eV.mono HB.o.drew.size)))
 all_goals go_wp2_with fail
 all_goals go_roundw
 all_goals first
  |exact⟨k+1,oM,gN,p9⟩
  |(simp[intOf];omega)
 ):ρ:=h
def MX(c:List Sv)(a1 a2:oA)(c1 c2:Nat)(w:Wd)(hl:c.length<=1048576)(hk:∀s∈c,s.eF.length<=1048576)(R1:gf w.1.size w a1 c)(R2:gf w.1.size w a2 c):
  Cp 61 #[sX a1 c.length c1,sX a2 c.length c2] w (rB (.bool b_) w):=by
 have HG:Hid (∀k,k<c.length->∃s b1 o1 b2 o2,s∈c/\a1=sY b1 o1/\b1<w.1.size/\a2=sY b2 o2/\b2<w.1.size/\(∃E5 EZ,∀w',Bl w w'->jE w.1.size w' b1 (o1+k * 7) s E5 EZ)/\(∃any EW,∀w',Bl w w'->jE w.1.size w' b2 (o2+k * 7) s any EW)):=λk hk=>by
  rcases R1 with rfl|⟨b1,o1,h1,rfl,gE⟩
  ·cases hk
  rcases R2 with rfl|⟨b2,o2,h2,rfl,jC⟩
  ·cases hk
  have⟨E5,EZ,g1⟩:=gE k c[k] (fw hk);have⟨any,EW,g2⟩:=jC k c[k] (fw hk);exact⟨c[k],b1,o1,b2,o2,lh hk,rfl,h1,rfl,h2,⟨E5,EZ,λw' hw=>g1.eG h1 hw⟩,⟨any,EW,λw' hw=>g2.eG h2 hw⟩⟩
 have HK:=zH hk;generalize c.length=n at *;go_enter func61,ntmps61;go_wp2;go_loopw [5] (λi wr=>∃k:Nat,k<=n/\i=I k/\Hid (Bl w wr)) (λi _=>n-(intOf i).toNat)
 case atStart=>exact⟨0,vZ _,rfl,jD _ _⟩
 obtain⟨k,hk,rfl,HB⟩:=hrel;by_cases eI:k<n
 ·obtain⟨s,b1,o1,b2,o2,hm,rfl,h1,rfl,h2,⟨E5,EZ,g1⟩,⟨any,EW,g2⟩⟩:=HG.o k eI
  have K:=zH (λw' (hw:Bl w w')=>acZ s E5 any EZ EW w' (HK.o s hm) ((g1 _ hw).rd.up hw.size) ((g2 _ hw).rd.up hw.size));have⟨u0,u1,u2,u3,u4,u5,u6,ur⟩:=g1 _ HB.o;have⟨v0,v1,v2,v3,v4,v5,v6,vr⟩:=g2 _ HB.o;generalize s.eF.length=sn at *;open amh in exact uu
 go_wp2;go_ret
 exact⟨rfl,HB.o⟩
def ajb.GK(h:ρ:=by
 have K1:Hid (∀o1 o2,Cp 61 #[sX a1 s.test.length c1,sX a2 s.test.length c2] ((w.alloc o1).alloc o2) λe w'=>e=rT (.bool b_)/\Below ((w.alloc o1).alloc o2).1.size ((w.alloc o1).alloc o2) w'):=λo1 o2=>MX s.test a1 a2 c1 c2 _ hk1.1 hk1.2 ((r1.eG (HB.o _ _)).up (HB.o _ _).size) ((r2.eG (HB.o _ _)).up (HB.o _ _).size);have K2:Hid (∀w',Bl w w'->Cp 61 #[sX e1 s.eT.length d1,sX e2 s.eT.length d2] w' λe w2=>e=rT (.bool b_)/\Bl w' w2):=λw' hw=>MX s.eT e1 e2 d1 d2 _ ji.1 ji.2 ((t1.eG hw).up hw.size) ((t2.eG hw).up hw.size);generalize s.test.length=n1,s.eT.length=n2 at *;go_enter func93,ntmps93;go_wp2_with fail;refine(K1.o _ _).k λw1 hb1=>?_;have p1:=fG hb1 (b:=w.1.size) (j:=1) J7 J3;have q1:=fG hb1 (b:=w.1.size+1) (j:=1) J7 J3;exact aae
 ):ρ:=h
def acv(s:Gv)(a1 a2:oA)(c1 c2:Nat)(e1 e2:oA)(d1 d2:Nat)(w:Wd)(hk1:Sz s.test)(ji:Sz s.eT)(r1:gf w.1.size w a1 s.test)(r2:gf w.1.size w a2 s.test)(t1:gf w.1.size w e1 s.eT)(t2:gf w.1.size w e2 s.eT):
  Cp 93 #[.agg #[sX a1 s.test.length c1,sX e1 s.eT.length d1],.agg #[sX a2 s.test.length c2,sX e2 s.eT.length d2]] w (rB (.bool b_) w):=by
 open ajb in exact Hd
def abW(c:List Gv)(a1 a2:oA)(c1 c2:Nat)(w:Wd)(hl:c.length<=1048576)(hk:∀s∈c,Sz s.test/\Sz s.eT)(R1:iG w.1.size w a1 c)(R2:iG w.1.size w a2 c):
  Cp 62 #[sX a1 c.length c1,sX a2 c.length c2] w (rB (.bool b_) w):=by
 have HG:Hid (∀k,k<c.length->∃s b1 o1 b2 o2,s∈c/\a1=sY b1 o1/\b1<w.1.size/\a2=sY b2 o2/\b2<w.1.size/\(∃ax ex cx dx,∀w',Bl w w'->Gd w.1.size w' b1 (o1+k * 2) s ax ex cx dx)/\(∃ay ey cy dy,∀w',Bl w w'->Gd w.1.size w' b2 (o2+k * 2) s ay ey cy dy)):=λk hk=>by
  exact aad
 have HK:=zH hk;generalize c.length=n at *;go_enter func62,ntmps62;go_wp2;go_loopw [5] (λi wr=>∃k:Nat,k<=n/\i=I k/\Hid (Bl w wr)) (λi _=>n-(intOf i).toNat)
 case atStart=>exact⟨0,vZ _,rfl,jD _ _⟩
 obtain⟨k,hk,rfl,HB⟩:=hrel;by_cases eI:k<n
 ·obtain⟨s,b1,o1,b2,o2,hm,rfl,h1,rfl,h2,⟨ax,ex,cx,dx,g1⟩,⟨ay,ey,cy,dy,g2⟩⟩:=HG.o k eI
  have K:=zH (λw' (hw:Bl w w')=>acv s ax ay cx cy ex ey dx dy w' (HK.o s hm).1 (HK.o s hm).2 ((g1 _ hw).rt.up hw.size) ((g2 _ hw).rt.up hw.size) ((g1 _ hw).rh.up hw.size) ((g2 _ hw).rh.up hw.size));have⟨u0,u1,ur1,ur2⟩:=g1 _ HB.o;have⟨v0,v1,vr1,vr2⟩:=g2 _ HB.o;generalize s.test.length=n1,s.eT.length=n2 at *;go_wp2;go_region_with (go_at_call 93;refine(K.o _ HB.o.drew).mono ?_;rintro e w2 ⟨rfl,eV⟩;have p9:=zH (HB.o.drew.trans (eV.mono HB.o.drew.size)))
  all_goals go_wp2_with fail
  all_goals go_roundw
  all_goals first
   |exact⟨k+1,oM,gN,p9⟩
   |(simp[intOf];omega)
 go_wp2;go_ret
 exact⟨rfl,HB.o⟩
def ajc.GK(h:ρ:=by
 have K1:Hid (∀o1 o2,Cp 61 #[sX a1 s.code.length c1,sX a2 s.code.length c2] ((w.alloc o1).alloc o2) λe w'=>e=rT (.bool b_)/\Below ((w.alloc o1).alloc o2).1.size ((w.alloc o1).alloc o2) w'):=λo1 o2=>MX s.code a1 a2 c1 c2 _ hk1.1 hk1.2 ((r1.eG (HB.o _ _)).up (HB.o _ _).size) ((r2.eG (HB.o _ _)).up (HB.o _ _).size);have K2:Hid (∀w',Bl w w'->Cp 62 #[sX e1 s.gs.length d1,sX e2 s.gs.length d2] w' λe w2=>e=rT (.bool b_)/\Bl w' w2):=λw' hw=>abW s.gs e1 e2 d1 d2 _ ji.1 ji.2 ((t1.eG hw).up hw.size) ((t2.eG hw).up hw.size);generalize s.code.length=n1,s.gs.length=n2,Pl.ba s.nm=nm,s.k=kk at *;go_enter func35,ntmps35;go_wp2_with fail;refine(K1.o _ _).k λw1 hb1=>?_;have p3:=fG hb1 (b:=w.1.size) (j:=3) J7 J3;have q3:=fG hb1 (b:=w.1.size+1) (j:=3) J7 J3;exact aae
 ):ρ:=h
def acY(s:Pl.Tv)(a1 a2:oA)(c1 c2:Nat)(e1 e2:oA)(d1 d2:Nat)(w:Wd)(hk1:Sz s.code)(ji:E_ s.gs)(r1:gf w.1.size w a1 s.code)(r2:gf w.1.size w a2 s.code)(t1:iG w.1.size w e1 s.gs)(t2:iG w.1.size w e2 s.gs):
  Cp 35 #[.agg #[I s.k,.string (Pl.ba s.nm),sX a1 s.code.length c1,sX e1 s.gs.length d1],.agg #[I s.k,.string (Pl.ba s.nm),sX a2 s.code.length c2,sX e2 s.gs.length d2]] w (rB (.bool b_) w):=by
 open ajc in exact Hd
def acu(c:List Pl.Tv)(a1 a2:oA)(c1 c2:Nat)(w:Wd)(hl:c.length<=1048576)(hk:∀s∈c,Sz s.code/\E_ s.gs)(R1:jF w.1.size w a1 c)(R2:jF w.1.size w a2 c):
  Cp 12 #[sX a1 c.length c1,sX a2 c.length c2] w (rB (.bool b_) w):=by
 have HG:Hid (∀k,k<c.length->∃s b1 o1 b2 o2,s∈c/\a1=sY b1 o1/\b1<w.1.size/\a2=sY b2 o2/\b2<w.1.size/\(∃ax ex cx dx,∀w',Bl w w'->Sm w.1.size w' b1 (o1+k * 4) s ax ex cx dx)/\(∃ay ey cy dy,∀w',Bl w w'->Sm w.1.size w' b2 (o2+k * 4) s ay ey cy dy)):=λk hk=>by
  exact aad
 have HK:=zH hk;generalize c.length=n at *;go_enter func12,ntmps12;go_wp2;go_loopw [5] (λi wr=>∃k:Nat,k<=n/\i=I k/\Hid (Bl w wr)) (λi _=>n-(intOf i).toNat)
 case atStart=>exact⟨0,vZ _,rfl,jD _ _⟩
 obtain⟨k,hk,rfl,HB⟩:=hrel;by_cases eI:k<n
 rotate_left 1
 ·go_wp2
  go_ret
  exact⟨rfl,HB.o⟩
 obtain⟨s,b1,o1,b2,o2,hm,rfl,h1,rfl,h2,⟨ax,ex,cx,dx,g1⟩,⟨ay,ey,cy,dy,g2⟩⟩:=HG.o k eI;have K:=zH (λw' (hw:Bl w w')=>acY s ax ay cx cy ex ey dx dy w' (HK.o s hm).1 (HK.o s hm).2 ((g1 _ hw).rc.up hw.size) ((g2 _ hw).rc.up hw.size) ((g1 _ hw).rg.up hw.size) ((g2 _ hw).rg.up hw.size));have⟨u0,u1,u2,u3,ur1,ur2⟩:=g1 _ HB.o;have⟨v0,v1,v2,v3,vr1,vr2⟩:=g2 _ HB.o;generalize s.code.length=n1,s.gs.length=n2,Pl.ba s.nm=nm,s.k=kk at *;go_wp2;go_region_with (go_at_call 35;refine(K.o _ HB.o.drew).mono ?_;rintro e w2 ⟨rfl,eV⟩;have p9:=zH (HB.o.drew.trans (eV.mono HB.o.drew.size)))
 all_goals go_wp2_with fail
 all_goals go_roundw
 all_goals first
  |exact⟨k+1,oM,gN,p9⟩
  |(simp[intOf];omega)
end Go.Proofs.YtiagfejlmafliaaGreatDoor
