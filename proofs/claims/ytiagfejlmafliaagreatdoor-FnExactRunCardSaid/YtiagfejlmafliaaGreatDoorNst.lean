import Derived.Test.YtiagfejlmafliaaGreatDoorWc
import Derived.Test.YtiagfejlmafliaaGreatDoorNdv
import Derived.Shelf.Abstract
namespace Go.Proofs.YtiagfejlmafliaaGreatDoor
set_option linter.all false
open Go.Proofs.Tryz Pl
open Go.RowKit
set_option maxRecDepth 100000
set_option maxHeartbeats 16000000
open Pl (Ar)
open World renaming setCell->ez,alloc->ew
open List renaming range->eA,replicate->eE
open Option renaming some->a_,none->c_
open Bool renaming true->b_,false->d_
variable {ρ:Prop}
section
def Vg{X:Prop}(h:X:=by
 clear s0;have kv:=LN.o.ri.cap.1;have lw:=nQ.o.size;have C1:=zH λW'=>DV (w:=W') (x:=xd) (n:=k) (y:=yd) (h:=t) oM;have C2:=zH λW'=>mO (w:=W') (x:=xd) (n:=k) (y:=yd) (l:=t) ht;have Mc:=LN.o.ri.cut (l:=0) (h:=t) oM ht;have TX:=LN.o.ri.cut (l:=t) (h:=k) ht (jR _);rw[vK] at Mc;rw[mR (l:=us.drop t) (by rw[qX,hE.o.2.1];exact jR _)] at TX;simp only[mw] at Mc C1;have R1:=zH Mc.rw;have R2:=zH (TX.rw.jG (Q:=λb=>b<W.1.size) λb _ hb=>hb);have l1:=zH (show (us.take t).length=t by rw[jH,hE.o.2.1];omega);have l2:=zH (show (us.drop t).length=k-t by rw[qX,hE.o.2.1]);have hG:=zH (agt (k:=Pl.mW da) (j:=k) (p:=t) hE.o.1 (by rw[hE.o.2.1];exact ht) (λs hs=>by rw[kz.o];exact hQ.o s hs) (λh=>by rw[kz.o];exact hT.o h));clear Mc TX kv;generalize fU xd 0 yd=z1,fU xd t yd=z2 at *;have⟨q2,rm⟩:∃q,k-t=q:=⟨_,rfl⟩;rw[rm] at R2 C2 l2;generalize yd-t=yt at *;go_wp2_with (refine iW rfl (AW rfl rfl rfl (C1.o _)) ?_)
 refine(lG _ (us.take t) W R1.o (by rw[l1.o];omega)).mono ?_;rintro e w3 ⟨eV,u3,rfl,o3⟩;have⟨x3,y3,e3⟩:=o3.form;rw[l1.o] at e3;subst e3;have s3:=eV.size;have O3:=zH (o3.base (B':=W0.1.size) oM);have N3:Hid (∀b,(Value.slice x3 t y3).ownBlock=a_ b->W.1.size<=b):=λb e=>(o3.lt e).1;have B3:=zH (bv eV nQ.o);have R3:=zH (R2.o.kp (w':=w3.alloc (.cells #[I (k:Int)] 3)) (.of (bv (w:=W) gG eV)));have OA:=zH (O3.o.kp (w':=w3.alloc (.cells #[I (k:Int)] 3)) (.of gG));have RX:=zH (mV w3 (k:Int));have HZ:Hid (W0.1.size<=(w3.alloc (.cells #[I (k:Int)] 3)).1.size):=by show _<=_;simp;omega
 have UB:Hid ((us.take t).length+[(k:Int)].length<=16777216):=by show _<=_;rw[l1.o];simp;omega
 clear eV o3;go_wp2_with (at_builtin;refine nu rfl (.tmp 40) (.tmp 42) rfl rfl rfl OA.o RX.o UB.o HZ.o ?_)
 intro v' w5 ho hg ha;have B5:Hid (Bl W0 w5):=OA.o.fI (bv (w:=W0) gG B3.o) hg HZ.o;have R5:=zH (R3.o.kp (Kp.grown hg λb e q=>by have:=N3.o b e;omega));have⟨x5,y5,e5⟩:=ho.form;have l5:(us.take t++[(k:Int)]).length=t+1:=by rw[hJ,l1.o];rfl
 rw[l5] at e5;subst e5;have O5:=zH ho;have L5:=zH l5;clear ho hg ha l5;have yC:Hid ((us.take t++[(k:Int)]).length+(us.drop t).length<=16777216):=by show _<=_;rw[L5.o,l2.o];omega
 have HZ5:Hid (W0.1.size<=w5.1.size):=B5.o.size;have j_:Hid (us.take t++[(k:Int)]++us.drop t=Pl.im (Pl.mW da) 0 (k+1)/\(us.take t++[(k:Int)]++us.drop t).length=k+1/\∀x∈us.take t++[(k:Int)]++us.drop t,0<=x/\x<((k+1:Nat):Int)):=⟨by rw[<- hG.o,vG];rfl,by rw[hJ,L5.o,l2.o];omega,λx hx=>by
  have hm:x∈us\/x=(k:Int):=by
   rcases zq.1 hx with hx|hx
   ·rcases zq.1 hx with hx|hx
    ·exact .inl (Ip hx)
    exact .inr (List.mem_singleton.1 hx)
   exact .inl (Dy hx)
  rcases hm with hm|rfl
  ·have:=hE.o.2.2 x hm;omega
  omega⟩
 clear R1 R2 R3 OA RX HZ UB C1 hG;go_wp2_with (first | (refine iW rfl (ie rfl rfl rfl (C2.o _)) ?_) | (at_builtin;refine nu rfl (.tmp 44) (.tmp 47) rfl rfl rfl O5.o R5.o yC.o HZ5.o ?_))
 intro v9 w9 ho hg ha;have B9:Hid (Bl W0 w9):=O5.o.fI B5.o hg HZ5.o;have O9:=zH ho;clear ho hg ha;go_wp2;go_roundw
 case rel=>exact⟨k+1,_,gN,oM,j_,B9,(by rw[vG];exact O9)⟩
 simp[intOf];omega):X:=h
section
variable {P:nK} {w:Wd}
def akU.pe(h:ρ:=by
 have J:Hid (∀W,Bl W0 W->Bx W w.1.size #[sX x0 m y0,sX x1 n y1] 30/\Bx W (w.1.size+1) nN 30/\Bl w W/\w.1.size+1+1=W0.1.size):=λW k=>⟨V0.o.1.below k,V0.o.2.1.below k,bv k V0.o.2.2.1,V0.o.2.2.2.symm⟩;have R0:Hid (Oi W0.1.size (W0.alloc (.cells #[] 3)) (sX (sY (w.1.size+1+1) 0) 0 0) []):=by have:=Oi.emp (B:=W0.1.size) (w:=W0) (jR _);rwa [V0.o.2.2.2] at this ⊢
 have B0:Hid (Bl W0 (W0.alloc (.cells #[] 3))):=(show Bl W0 _ from by go_grown);have s0:=V0.o.2.2.2;clear V0;go_loopw [3,4] (λv i wr=>∃(k:Nat)(us:lI),i=I (k:Int)/\k<=n/\Hid (us=Pl.im (Pl.mW da) 0 k/\us.length=k/\∀x∈us,0<=x/\x<(k:Int))/\Hid (Bl W0 wr)/\Hid (Oi W0.1.size wr v us)) (λ_ i _=>n-(intOf i).toNat)
 case atStart=>exact⟨0,[],rfl,vZ _,⟨rfl,rfl,sI⟩,B0,R0⟩
 case round =>
  obtain⟨k,us,rfl,hk,hE,hB,hO⟩:=hrel;have⟨S0,S1,S2,S3⟩:=J.o _ hB.o;obtain⟨c0,f0,z0⟩:=S0.all;have⟨xd,yd,e3⟩:=hO.o.form;rw[hE.o.2.1] at e3;subst e3;have HS:=zH (jA S1 (jA S2 S3));have sW:=hB.o.size;clear f0 S0 S1 S3 R0 B0;by_cases fK:k=n
  ·subst fK
   have hr:=hE.o.1;go_wp2_with fail;refine(sH _ us wr hO.o.ri.rw (by rw[hE.o.2.1];omega)).mono ?_;rintro e w1 ⟨hb,x2,y2,x3,y3,rfl,ra⟩;have el:=hE.o.2.1;rw[el] at ra ⊢;have V1:=zH (jA (HS.o.1.below hb) (jA (bv hb HS.o.2.1) (jA ra HS.o.2.2)));obtain⟨c1,f1,z1⟩:=V1.o.1.all;clear hb ra c0 z0;go_wp2;refine eJ (by simp[results,results133,go_sem,c1];try rfl) rfl ?_;obtain⟨b1,bl,ra,sz⟩:=V1.o;rw[<- hr];exact⟨gG,_,_,rfl,(ra.kp (((Kp.refl _ _).set J2 _).set J2 _)).mono λb h _=>oM⟩
  have eI:(k:Int)<(n:Int):=oM;have uF:k<n:=oM;have⟨z,hz⟩:=gF HN.o uF;obtain⟨ba,oa,rfl,yq,zY⟩:=H.o.2.rw.at hz;have kz:Hid (Pl.mW da (k:Int)=z):=by show _=_;simp[Pl.mW,ig,hz]
  clear fK S2 HS;go_wp2_with fail;clear c0 z0;go_loopw [5] (λp wr'=>∃(t:Nat),p=I (t:Int)/\t<=k/\Hid (∀s,s<t->Pl.mW da (us.getD s 0)<=z)/\Hid (Bl W0 wr')/\Hid (Oi W0.1.size wr' (sX xd k yd) us)) (λp _=>k-(intOf p).toNat)
  case atStart=>exact⟨0,rfl,vZ _,λs hs=>absurd hs oM,hB,hO⟩
  obtain⟨t,rfl,ht,hQ,Ab,wu⟩:=hrel;have⟨S0,S1,S2,S3⟩:=J.o _ Ab.o;obtain⟨c0,f0,z0⟩:=S0.all;have aaX:=(S2.cell (p:=(Y ba (oa+k))) yq).trans zY;clear f0 S1 S0;by_cases htk:t=k
  ·have hT:Hid (t<us.length->z<Pl.mW da (us.getD t 0)):=λh=>absurd h (by rw[hE.o.2.1];omega)
   have Lp:¬((t:Int)<(k:Int)):=oM;clear htk;go_wp2_with fail;go_quiet (fail)
   have LN:=zH (wu.o.kp (.of (gx (jD _ _) nq)));have nQ:=zH (bv (gx (jD _ _) nq) Ab.o);clear c0 z0 S2 S3 aaX Ab wu;generalize wr.drewN nq=W at *;exact Vg
  have aoK:t<k:=oM;have By:(t:Int)<(k:Int):=oM;have⟨u,hu⟩:=gF hE.o.2.1 aoK;have hub:=hE.o.2.2 u (my hu);obtain⟨q,rfl⟩:∃q:Nat,u=(q:Int):=⟨u.toNat,oM⟩;have oP:q<n:=oM;have aoQ:(q:Int)<(n:Int):=oM;have⟨y,hy⟩:=gF HN.o oP;have⟨bo,oo,e5,hbo,hco⟩:=wu.o.ri.rw.at hu;subst e5;have⟨bq,oq,e6,tO,hcq⟩:=H.o.2.rw.at hy;simp only[kh,Addr.mk.injEq] at e6;obtain⟨rfl,rfl,-⟩:=e6;have ao6:=(S2.cell (p:=(Y ba (oa+q))) yq).trans hcq;have ky:Hid (Pl.mW da (us.getD t 0)=y):=by show _=_;simp[Pl.mW,ig,hu,hy]
  have zb:ba<wr.1.size:=jL yq S2.size;by_cases Eg:y<=z
  ·go_wp2_with fail
   go_quiet (fail)
   go_wp2;go_roundw
   case rel=>exact⟨t+1,gN,oM,λs hs=>by
    rcases P6 s t with h|h
    ·exact hQ.o s h
    ·rw[show s=t by omega,ky.o];exact Eg,bv (gx (jD _ _) nq) Ab.o,wu.o.kp (.of (gx (jD _ _) nq))⟩
   simp[intOf];omega
  have hT:Hid (t<us.length->z<Pl.mW da (us.getD t 0)):=λ_=>by rw[ky.o];omega
  go_wp2_with fail;go_quiet (fail)
  have LN:=zH (wu.o.kp (.of (gx (jD _ _) nq)));have nQ:=zH (bv (gx (jD _ _) nq) Ab.o);clear c0 z0 S2 S3 aaX Ab wu hco hbo ao6 hcq tO ky htk Eg hub oP aoQ hu hy zb;generalize wr.drewN nq=W,sY bo oo=xd at *;exact Vg
 ):ρ:=h
def acP(v0 v1:Va)(a:Ar)(h:RA P w v0 v1 a)(hl:a.2.length<=1000):Cp 133 #[.agg #[v0,v1]] w λe w'=>Bl w w'/\∃u0 u1,e=rT (.agg #[u0,u1])/\RA (w.1.size<=·) w' u0 u1 ([(a.2.length:Int)],Pl.im (Pl.mW a.2) 0 a.2.length):=by
 have H:=zH h;obtain⟨⟨x0,y0,rfl⟩,x1,y1,rfl⟩:=h.eS;obtain⟨sh,da⟩:=a;simp only at H hl ⊢;clear h;have⟨m,HM⟩:=jN (sh.length);have⟨n,HN⟩:=jN (da.length);rw[HM.o,HN.o] at H;rw[HN.o] at hl;rw[HM.o,HN.o];go_enter func133,ntmps133;open akU in exact pj
end
end
namespace Pl
def s_(m:Int)(db:List Int)(s:Nat)(k:Int):List Int:=if 0<=k/\k<m then rowAt db s k.toNat else eE s 0
def gq(m:Int)(db:List Int)(s:Nat)(i:Int)(n:Nat):List (List Int):=(eA n).map λt:Nat=>s_ m db s (i+(t:Int))
def span(m:Int)(row db:List Int)(i j:Int):Except Int Ar:=if 1000<j-i then .error 6 else if fy ((j-i)::row)=b_ then .ok ((j-i)::row,(gq m db (eQ row) i (j-i).toNat).flatten) else .error 6
def VM{k:Int}{row:List Int}(h:fy (k::row)=b_)(hk:1<=k):fy row=b_:=by
 have e:=g_ h;have hb:=e.2.2.2.2.2;have hi:=e.2.2.2.2.1;simp only[vJ,fO] at hi;have hr:gV row=b_:=by
  simp only[gV,fO,fQ,fW] at hb ⊢;exact⟨oM,hi.2⟩
 have hp:=(uc row hr).1.1;have h1:=e.2.2.1;rw[oF] at h1;have:1 * eR row<=k * eR row:=Im hk hp;simp only[fy,hr,vI,fQ];omega
def Gc{n:Nat}{row db:List Int}(hl:db.length=n * eQ row)(k:Int):(s_ (n:Int) db (eQ row) k).length=eQ row:=by
 unfold s_;split
 ·next h =>
  refine rK ?_;rw[hl];exact gv _ oM
 simp
end Pl
def adN{P:Nat->Prop}{w:Wd}(v0 v1:Va)(m:Int)(row db:List Int)(h:RA P w v0 v1 (m::row,db))(ho:Pl.okB (m::row,db)=b_)(i j:Int)(hij:i<=j)(SJ:-4000000000<=i)(SI:j<=4000000000):Cp 171 #[.agg #[v0,v1],.int .i64 i,.int .i64 j] w (SP w (Pl.span m row db i j)):=by
 obtain⟨n,rfl,hn,hb,hf,hp,hl,eN⟩:=Pl.ke ho;have H:=zH h;have HO:=zH ho;obtain⟨⟨x0,y0,rfl⟩,x1,y1,rfl⟩:=h.eS;simp only at H;clear h ho hb hf hp;obtain⟨r,HR⟩:∃r,Hid (r=Pl.span (n:Int) row db i j):=⟨_,rfl⟩;rw[<- HR.o];unfold Pl.span at HR;have RL:=zH (Pl.Gc hl);clear hl;obtain⟨p1,E1⟩:=jN (db.length);have KR:Hid (∀W k,Below w.1.size w W->k<n->Cp 164 #[.agg #[.slice x0 (row.length+1) y0,.slice x1 p1 y1],.int .i64 (k:Int)] W λe w'=>Below W.1.size W w'/\∃u0 u1,e=.returned (.agg #[u0,u1])/\RA (W.1.size<=·) w' u0 u1 (row,Pl.rowAt db (Pl.eQ row) k)):=λW k kb hk=>by rw[<- E1.o];exact F_ _ _ (n:Int) row db (H.o.kp (.of kb)) HO.o k oM
 have H0:=zH H.o.1.tl;obtain⟨b,o,rfl,uY,jd⟩:=H.o.1.rw.at (i:=0) rfl;rw[iz] at jd;obtain⟨p0,E0⟩:=jN (row.length);simp only[fW] at H H0 ⊢;rw[E0.o] at H KR H0 eN ⊢;rw[E1.o] at H ⊢;rw[show p0+1-1=p0 by omega] at H0;have C0:=zH λW=>mO (w:=W) (x:=a_ ⟨b,o,c_⟩) (n:=p0+1) (y:=y0) (l:=1) oM;rw[show p0+1-1=p0 by omega] at C0;generalize fU (a_ ⟨b,o,c_⟩) 1 y0=z9 at *;generalize y0-1=k9 at *;by_cases h1:1000<j-i
 ·have hr:r=.error 6:=by rw[HR.o,eD h1]
  subst hr;go_enter func171,ntmps171;go_wp2_with fail;refine eJ (by simp[results,results171,go_sem];try rfl) rfl ?_;exact pk
 rw[eB h1] at HR;obtain⟨q,rfl⟩:∃q:Nat,j=i+q:=⟨(j-i).toNat,oM⟩;have e1:i+(q:Int)-i=(q:Int):=oM;have hq:q<=1000:=oM;rw[e1] at HR;clear h1;have UB:Hid ([(q:Int)].length+row.length<=16777216):=by show _<=_;rw[E0.o];simp;omega
 have oB:¬((1000:Int)<(q:Int)):=oM;go_enter func171,ntmps171;go_upto_region 3 with fail
 generalize hW:ew (ew w _) _=W0;have V0:=jU hW;clear hW;have o1:=zH (Oi.one (B:=W0.1.size) (w:=W0) (jR _) (q:Int));have RX:=zH (H0.o.rw.kp (w':=W0.alloc (.cells #[.int .i64 (q:Int)] 3)) (.of (bv gG V0.o.2.2.1)));obtain⟨c0,f0,l0⟩:=V0.o.1.all;clear f0;go_wp2_with (first | (refine iW rfl (ie rfl rfl rfl (C0.o _)) ?_) | (at_builtin;refine nu rfl (.tmp 19) (.tmp 22) rfl rfl rfl o1.o RX.o UB.o sI ?_))
 intro v' w9 ho hg ha;have kb:Below W0.1.size W0 w9:=o1.o.fI gG hg sI;obtain⟨xv,yv,ev⟩:=ho.form;have mi:v'=.slice xv (p0+1) yv:=by rw[ev];simp[E0.o]
 subst mi;have J:Hid (∀W,Below w9.1.size w9 W->Bx W w.1.size #[.slice (a_ ⟨b,o,c_⟩) (p0+1) y0,.slice x1 p1 y1] 30/\Bx W (w.1.size+1) #[.slice c_ 0 0,.slice c_ 0 0] 30/\Below w.1.size w W/\w.1.size+1<w9.1.size):=λW k=>⟨(V0.o.1.below kb).below k,(V0.o.2.1.below kb).below k,bv k (bv kb V0.o.2.2.1),(V0.o.2.1.below kb).lt⟩;have KF:Hid (Cp 47 #[.slice xv (p0+1) yv] w9 λe w'=>e=.returned (.bool (Pl.fy ((q:Int)::row)))/\w'=w9):=Nc (.slice xv (p0+1) yv) ho.ri.rw;obtain⟨S0,S1,S2,S3⟩:=J.o w9 (jD _ _);obtain⟨c1,f1,l1⟩:=S1.all;clear ho hg ha ev kb c0 l0 o1 RX V0 S0
 cases hf:Pl.fy ((q:Int)::row)
 ·have hr:r=.error 6:=by rw[HR.o,eB (by rw[hf];simp)]
  subst hr;rw[hf] at KF;go_wp2_with (go_at_call 47;refine KF.o.mono ?_;rintro e w9 ⟨rfl,rfl⟩)
  refine eJ (by simp[results,results171,go_sem, *];try rfl) rfl ?_;exact pk
 rw[hf] at KF;rw[eD hf] at HR;have KW:Hid (∀W v s {Q:Nat->Prop},1<=q->Rw Q W v [0]->Rw Q W s row->Cp 163 #[.agg #[.slice c_ 0 0,v],s] W λe w'=>Below W.1.size W w'/\∃u0 u1,e=.returned (.agg #[u0,u1])/\RA (W.1.size<=·) w' u0 u1 (row,eE (Pl.eQ row) 0)):=λW v s {Q} oB h1 h2=>FN (.slice c_ 0 0) v [0] row 0 s rfl h1 rfl h2 (VM hf oM);have KS:Hid (∀W v v' ds {Q:Nat->Prop},Rw Q W v row->Rr Q W v' ds->ds.length=q->(∀d∈ds,d.length=Pl.eQ row)->Cp 128 #[v,v'] W (SP W (.ok ((q:Int)::row,ds.flatten)))):=λW v v' ds {Q} h1 h2 h3 h4=>by
  have h5:=Pl.ub h4;have h7:=(Pl.g_ hf).2.2.1;have h8:q * Pl.eQ row<=1048576:=by
   rw[Pl.oF] at h7;have h9:((q * Pl.eQ row:Nat):Int)<=1048576:=by
    rcases rR q with hz|hz
    ·subst hz;simp
    have mJ:=(Pl.g_ (VM hf oM)).2.1;have:((q * Pl.eQ row:Nat):Int)=(q:Int) * Pl.eR row:=by simp[Pl.eQ,kl mJ]
    omega
   omega
  rw[h3] at h5;have h6:=U0 v v' row ds h1 h2 JO oM oM;rw[h3,eD hf] at h6;exact h6
 generalize Pl.eQ row=s at *;have eP:Hid (r=.ok ((q:Int)::row,(Pl.gq (n:Int) db s i q).flatten)):=HR.o;clear HR hf e1 HO;go_wp2_with (go_at_call 47;refine KF.o.mono ?_;rintro e w9 ⟨rfl,rfl⟩)
 go_loopw [9,10] (λv k wr=>∃(t:Nat),k=.int .i64 (i+(t:Int))/\t<=q/\Hid (Below w9.1.size w9 wr)/\Hid (Rl w9.1.size wr v (Pl.gq (n:Int) db s i t))) (λ_ k _=>(i+(q:Int)-intOf k).toNat)
 case atStart=>exact⟨0,by go_num,vZ _,(show Below w9.1.size w9 _ from by go_grown),Rl.emp (jR _)⟩
 obtain⟨t,rfl,ht,hB,hU⟩:=hrel;obtain⟨xd,yd,e7⟩:=hU.o.form;have Ld:(Pl.gq (n:Int) db s i t).length=t:=by simp[Pl.gq]
 rw[Ld] at e7;subst e7;clear S1 S2 S3 c1 f1 l1;obtain⟨S0,S1,S2,S3⟩:=J.o wr hB.o;obtain⟨c0,f0,l0⟩:=S0.all;obtain⟨c1,f1,l1⟩:=S1.all;have HS:=zH (jA S1 (jA S2 S3));have jS:=(S2.cell (p:=⟨b,o,c_⟩) uY).trans jd;have zb:b<wr.1.size:=jL uY S2.size;clear f0 S0 S1;by_cases htq:t=q
 ·subst htq
  have hr:=eP.o;subst hr;clear Ld;go_wp2_with (refine iW rfl (ie rfl rfl rfl (C0.o _)) ?_)
  refine(KS.o wr _ _ _ ((H0.o.rw.kp (.of S2)).jG λ_ _ _=>trivial) hU.o.rr (by simp[Pl.gq]) (λd hd=>by
   obtain⟨k,_,rfl⟩:=mu.1 hd;exact RL.o _)).mono ?_
  rintro e w3 jQ;obtain⟨x4,l4,y4,x5,l5,y5,rfl,gP,hb⟩:=jQ.open;have V3:=zH (jA (HS.o.1.below hb) (jA (bv hb HS.o.2.1) HS.o.1.lt));obtain⟨c3,f3,z3⟩:=V3.o.1.all;clear hb jQ c0 l0 c1 l1 f1;go_wp2_with fail;refine eJ (by simp[results,results171,go_sem,c3];try rfl) rfl ?_;exact SP.put (r:=.ok _) gP.o V3.o.2.1 oM V3.o.2.2 _ _
 have aoJ:t<q:=oM;have eI:i+(t:Int)<i+(q:Int):=oM;have iS:Hid (Pl.gq (n:Int) db s i (t+1)=Pl.gq (n:Int) db s i t++[Pl.s_ (n:Int) db s (i+(t:Int))]):=by
  show _=_;unfold Pl.gq;rw[uv,mP];rfl
 obtain⟨d,HD⟩:∃d,Hid (d=Pl.s_ (n:Int) db s (i+(t:Int))):=⟨_,rfl⟩;rw[<- HD.o] at iS;have sw:=hB.o.size;have yC:=zH (show (Pl.gq (n:Int) db s i t).length+1<=16777216 by omega);have DR:=zH (jA aoJ Ld);clear htq Ld;by_cases mE:0<=i+(t:Int)/\i+(t:Int)<(n:Int)
 ·obtain⟨k,hk⟩:∃k:Nat,i+(t:Int)=(k:Int):=⟨(i+(t:Int)).toNat,oM⟩
  have hd:d=Pl.rowAt db s k:=by rw[HD.o,hk];unfold Pl.s_;rw[eD oM];simp
  have fK:k<n:=oM;have apM:(k:Int)<(n:Int):=oM;have gp:0<=(k:Int):=oM;have Sy:Hid (∀x:Int,i+(t:Int)+1=x->x=(k:Int)+1):=λx e=>oM;have hk1:Hid ((k:Int)+1=i+((t+1:Nat):Int)):=by show _=_;omega
  have K1:=zH (KR.o wr k S2 fK);rw[hk] at eI ⊢;rw[<- hd] at K1;clear hk mE hd HD Sy;go_wp2_with fail;refine K1.o.mono ?_;rintro e w3 ⟨hb,u0,u1,rfl,ra⟩;obtain⟨x6,l6,y6,x7,l7,y7,rfl,rfl⟩:=ra.fl;obtain rfl:l7=d.length:=ra.2.rw.len.symm;have gP:=zH ra;have V3:=zH (jA (bv hb hB.o) (hU.o.below hb));have s3:=hb.size;clear hb ra c0 l0 c1 l1 f1 K1;have RZ:Hid (Rw (λb=>w9.1.size<=b/\¬(Value.slice xd t yd).ownBlock=a_ b) w3 (.slice x7 d.length y7) d):=gP.o.2.rw.jG λb h _=>⟨oM,λe=>by have:=(hU.o.lt e).2;omega⟩;have WL:Hid (∀W,Below w3.1.size w3 W->w9.1.size<=W.1.size):=λW k=>by have:=k.size;omega
  have CC:Hid (∀o',(w3.alloc (.cells #[.slice x6 l6 y6,.slice x7 d.length y7] 30)).cell? ⟨w3.1.size,o',c_⟩=#[Value.slice x6 l6 y6,.slice x7 d.length y7][o']?):=(Bx.eK sI).cf.1;clear s3 sw;go_wp2_with (at_builtin;refine Ox rfl (.tmp 45) (.tmp 49) rfl w3.1.size 1 rfl rfl (V3.o.2.below gG) d CC.o (RZ.o.kp (.of gG)) yC.o (WL.o _ gG) ?_)
  intro v' w8 uQ hg;have B9:Hid (Below w9.1.size w9 w8):=qu (B:=w9.1.size) (a:=w9) (bv (w:=w9) gG V3.o.1) hg (WL.o _ gG) (λb e=>(hU.o.lt e).1);rw[<- iS.o] at uQ;have L9:=zH uQ;clear uQ hg CC;go_wp2_with fail;go_roundw
  case rel =>
   exact⟨t+1,by rw[hk1.o],DR.o.1,B9,L9⟩
  have:=DR.o.1;have:=hk1.o;simp[intOf];omega
 obtain⟨k,hk⟩:∃k:Int,i+(t:Int)=k:=⟨_,rfl⟩;have hd:d=eE s 0:=by rw[HD.o];unfold Pl.s_;rw[eB mE]
 have hk1:Hid (k+1=i+((t+1:Nat):Int)):=by show _=_;omega
 have K1:=zH λW v s' {Q:Nat->Prop} (h1:Rw Q W v [0]) (h2:Rw Q W s' row)=>KW.o W v s' (Q:=Q) oM h1 h2;rw[hk] at eI mE ⊢;rw[<- hd] at K1;have ji:-4000000000<=k:=oM;clear hk hd HD;have H1:=zH (show Rw (λ_=>True) wr (.slice z9 p0 k9) row from (H0.o.rw.kp (.of S2)).jG λ_ _ _=>trivial);rcases(show k<0\/(0<=k/\(n:Int)<=k) from by omega) with hc|⟨hc,jC⟩ <;> clear mE
 all_goals
  go_wp2_with (refine iW rfl (ie rfl rfl rfl (C0.o _)) ?_)
  refine(K1.o _ _ _ (Q:=λ_=>True) (φ _ sI) (H1.o.kp (.of gG))).mono ?_;rintro e w3 ⟨hb,u0,u1,rfl,ra⟩;obtain⟨x6,l6,y6,x7,l7,y7,rfl,rfl⟩:=ra.fl;obtain rfl:l7=d.length:=ra.2.rw.len.symm;have gP:=zH ra;have kb:Below wr.1.size wr w3:=bv hb (show Below wr.1.size wr _ from by go_grown);have s3:=kb.size;have V3:=zH (jA (bv kb hB.o) (hU.o.below kb));clear hb ra c0 l0 c1 l1 f1 K1 kb;have RZ:Hid (Rw (λb=>w9.1.size<=b/\¬(Value.slice xd t yd).ownBlock=a_ b) w3 (.slice x7 d.length y7) d):=gP.o.2.rw.jG λb h _=>by
   simp at h
   exact⟨oM,λe=>by have:=(hU.o.lt e).2;omega⟩
  have WL:Hid (∀W,Below w3.1.size w3 W->w9.1.size<=W.1.size):=λW k=>by have:=k.size;omega
  have CC:Hid (∀o',(w3.alloc (.cells #[.slice x6 l6 y6,.slice x7 d.length y7] 30)).cell? ⟨w3.1.size,o',c_⟩=#[Value.slice x6 l6 y6,.slice x7 d.length y7][o']?):=(Bx.eK sI).cf.1;clear s3 sw;go_wp2_with (at_builtin;refine Ox rfl (.tmp 51) (.tmp 58) rfl w3.1.size 1 rfl rfl (V3.o.2.below gG) d CC.o (RZ.o.kp (.of gG)) yC.o (WL.o _ gG) ?_)
  intro v' w8 uQ hg;have B9:Hid (Below w9.1.size w9 w8):=qu (B:=w9.1.size) (a:=w9) (bv (w:=w9) gG V3.o.1) hg (WL.o _ gG) (λb e=>(hU.o.lt e).1);rw[<- iS.o] at uQ;have L9:=zH uQ;clear uQ hg CC;go_wp2_with fail;go_roundw
  case rel=>exact⟨t+1,by rw[hk1.o],DR.o.1,B9,L9⟩
  have:=DR.o.1;have:=hk1.o;simp[intOf];omega
namespace Pl
def take(f:Int)(a b:Ar):Except Int Ar:=if ¬a.1=[] then .error 2 else match iw b with
 |([],_)=>.error 0
 |(n::row,db)=>if f=2 then (if a.2.getD 0 0<0 then span n row db (n+a.2.getD 0 0) n else span n row db 0 (a.2.getD 0 0))
  else if n<=a.2.getD 0 0\/n<=-(a.2.getD 0 0) then span n row db 0 0 else if a.2.getD 0 0<0 then span n row db 0 (n+a.2.getD 0 0) else span n row db (a.2.getD 0 0) n
def vy{a:Ar}(h:okB a=b_):okB (iw a)=b_/\∃m row,(iw a).1=m::row:=by
 obtain⟨sh,da⟩:=a;unfold iw
 cases sh with
 |nil =>
  have e:=ok_eq h;simp only[okB,fO,fQ] at h;have h1:(da.length:Int)=1:=by simpa[eR] using h.1.2
  have h2:da.length=1:=oM;refine⟨?_,_,_,rfl⟩;simp only[↓reduceIte,okB,fO,fQ,h2];exact⟨⟨dC,by simp[eR]⟩,h.2⟩
 |cons m row=>exact⟨by simpa using h,m,row,sI⟩
end Pl
def Rw.eX{P:nK}{w:Wd}{zs:lI}{b o n y:Nat}{i:Nat}{v:Int}(h:Rw P w (sX (sY b o) n y) zs)(hi:zs[i]? = a_ v):P b:=by
 obtain⟨a,k,e,h|⟨b',o',e',hb,hc⟩⟩:=h
 ·rw[h] at hi;cases hi
 simp only[s7] at e;have:=e.1.trans e';simp only[kh,Addr.mk.injEq] at this;exact this.1 ▸ hb.1
def amD.lH(h:ρ:=by
 have OB:=zH (Pl.vy hb);have KX:=zH λW (k:Bl w W)=>Nb _ _ b ((h'.mono (Q:=λb=>b<w.1.size) λb _ k=>k).kp (.of k)) (Pl.ok_eq hb).2.2.2.2;have⟨r,HR⟩:∃r,Hid (r=Pl.take f a b):=⟨_,rfl⟩;rw[<- HR.o];unfold Pl.take at HR;clear h h';by_cases h0:a.1=[]
 ·have⟨x,hx,si,hv⟩:=Pl.ok_one ha h0
  rw[eB (by simp[h0]),si] at HR;obtain⟨sa,da⟩:=a;obtain rfl:sa=[]:=h0;have xZ:=Pl.qh hv;have⟨q,HQ⟩:=jN (Pl.iw b);rw[HQ.o] at HR OB KX;obtain⟨sh,db⟩:=q;have⟨OK,m,row,e⟩:=OB.o;obtain rfl:sh=m::row:=e;have OK:=zH OK;have hm:0<=m/\m<=1000:=by obtain⟨n,rfl,hn,_⟩:=Pl.ke OK.o;omega
  simp only at HR H hx;simp only[iA] at H ⊢;obtain⟨p1,E1⟩:=jN (da.length);rw[E1.o] at H ⊢;generalize b.1.length=p2,b.2.length=p3 at *;obtain⟨b1,o1,rfl,hb1,gE⟩:=H.o.2.rw.at hx;rw[iz] at gE;have rp:(0:Int)<(p1:Int):=by have:=(gQ.1 hx).1;have:=E1.o;omega
  clear hx si hv HQ ha hb OB;have KP:Hid (∀W u0 u1 i j {Q:nK},RA Q W u0 u1 (m::row,db)->i<=j->-4000000000<=i->j<=4000000000->r=Pl.span m row db i j->Cp 171 #[.agg #[u0,u1],I i,I j] W (SP W r)):=λW u0 u1 i j {Q} h1 h2 h3 h4 h5=>by rw[h5];exact adN _ _ m row db h1 OK.o i j h2 h3 h4
  go_enter func138,ntmps138;go_wp2_with fail;generalize hW:ew (ew (ew w _) _) _=W0;have V0:=mK hW;clear hW;refine(KX.o W0 V0.o.2.2.2.1).mono ?_;rintro e w1 ⟨hb,x4,l4,y4,x5,l5,y5,rfl,ra⟩;have e4:row.length+1=l4:=ra.1.rw.len;subst e4;obtain⟨b4,o4,rfl,fZ,pP⟩:=ra.1.rw.at (i:=0) rfl;rw[iz] at pP;have V1:=zH (jA (V0.o.1.below hb) (jA (V0.o.2.1.below hb) (jA (V0.o.2.2.1.below hb) (jA (bv hb V0.o.2.2.2.1) (jA V0.o.2.2.2.2 ra)))));have n4:¬b4=w.1.size+1:=by have:=ra.1.rw.eX (i:=0) rfl;have:=V0.o.2.2.2.2;omega
  have uG:=(V1.o.2.2.2.1.cell (p:=(Y b1 o1)) hb1).trans gE;obtain⟨c0,f0,z0⟩:=V1.o.1.all;obtain⟨c1,f1,z1⟩:=V1.o.2.1.all;obtain⟨c2,f2,z2⟩:=V1.o.2.2.1.all;have nb1:¬b1=w.1.size+1:=oM;have Cb:b1<w1.1.size:=oM;clear hb ra V0 f0 KX;generalize row.length=p0 at *;have uM:=zH V1.o.2.2.2.1;have R2:Hid (RA (λb=>b<w.1.size\/W0.1.size+2<=b) ((w1.setCell (Y (w.1.size+1) 0) (sX (sY b4 o4) (p0+1) y4)).setCell (Y (w.1.size+1) 1) (sX x5 l5 y5)) (sX (sY b4 o4) (p0+1) y4) (sX x5 l5 y5) (m::row,db)):=(V1.o.2.2.2.2.2.mono (Q:=λb=>b<w.1.size\/W0.1.size+2<=b) λb h _=>oM).kp (((Kp.refl _ _).set (by have:=V1.o.2.2.2.2.1;simp;omega) _).set (by have:=V1.o.2.2.2.2.1;simp;omega) _);have B2:=zH (V1.o.2.2.1);clear V1;have Ta:(f=2/\Hid (r=if x<0 then Pl.span m row db (m+x) m else Pl.span m row db 0 x))\/(¬f=2/\Hid (r=if m<=x\/m<=-x then Pl.span m row db 0 0 else if x<0 then Pl.span m row db 0 (m+x) else Pl.span m row db x m)):=by
   by_cases hf:f=2
   ·exact .inl ⟨hf,by show _=_;rw[HR.o,eD hf]⟩
   exact .inr ⟨hf,by show _=_;rw[HR.o,eB hf]⟩
  clear HR;rcases Ta with ⟨rfl,HR⟩|⟨hf,HR⟩
  all_goals go_wp2_with fail
  all_goals
   refine(KP.o _ _ _ _ _ R2.o oM oM oM (by rw[HR.o];(repeat' split);all_goals first | rfl | (exfalso;omega))).mono ?_;rintro e w3 jQ;obtain⟨x6,l6,y6,x7,l7,y7,rfl,gP,hb⟩:=jQ.open;have V3:=zH (jA (((B2.o.eC sI _).eC sI _).below hb) (bv (w:=w) hb (by have:=uM.o;go_grown)));obtain⟨c3,f3,z3⟩:=V3.o.1.all;have s3:=V3.o.1.lt;clear hb jQ c0 z0 c1 z1 f1 c2 f2;go_wp2;refine eJ (by simp[results,results138,go_sem,c3];try rfl) rfl ?_;exact SP.put gP.o V3.o.2 oM J2 _ _
 ·have hr:r=.error 2:=by rw[HR.o,eD h0]
  subst hr;have⟨p,hp⟩:∃p,a.1.length=p+1:=by cases e:a.1 with
   |nil=>exact absurd e h0
   |cons x y=>exact⟨_,rfl⟩
  rw[hp];generalize a.2.length=p1,b.1.length=p2,b.2.length=p3 at *;have hp2:¬((p:Int)+1=0):=oM;clear h0 H hp HR KX OB;go_enter func138,ntmps138;go_wp2;refine eJ (by simp[results,results138,go_sem];try rfl) rfl ?_;exact ny
 ):ρ:=h
def Ve{P:nK}{w:Wd}(f:Int)(v0 v1 v2 v3:Va)(a b:Ar)(h:RA P w v0 v1 a)(h':RA P w v2 v3 b)(ha:Pl.okB a=b_)(hb:Pl.okB b=b_):Cp 138 #[I f,.agg #[v0,v1],.agg #[v2,v3]] w (SP w (Pl.take f a b)):=by
 have H:=zH h;open amD in exact lO
def amZ.ui(h:ρ:=by
 go_enter func332,ntmps332;go_wp2;go_ret
 exact⟨rfl,HB.o _⟩
 ):ρ:=h
def ahy(p:Va)(w:Wd):Cp 332 #[.agg #[p]] w (rB (I 0) w):=by
 open amZ in exact uq
def am0.ui(h:ρ:=by
 go_enter func335,ntmps335;go_wp2;go_ret
 exact⟨rfl,HB.o _⟩
 ):ρ:=h
def ahx(p:Va)(w:Wd):Cp 335 #[.agg #[p]] w (rB (I 0) w):=by
 open am0 in exact uq
def am1.ui(h:ρ:=by
 go_enter func330,ntmps330;go_wp2;go_ret
 exact⟨rfl,HB.o _⟩
 ):ρ:=h
def aim(p:Va)(w:Wd):Cp 330 #[.agg #[p]] w (rB (.bool b_) w):=by
 open am1 in exact uq
def am2.ui(h:ρ:=by
 go_enter func333,ntmps333;go_wp2;go_ret
 exact⟨rfl,HB.o _⟩
 ):ρ:=h
def ail(p:Va)(w:Wd):Cp 333 #[.agg #[p]] w (rB (.bool b_) w):=by
 open am2 in exact uq
def am3.ui(h:ρ:=by
 go_enter func336,ntmps336;go_wp2;go_ret
 exact⟨rfl,HB.o _⟩
 ):ρ:=h
def aik(p:aV)(w:Wd):Cp 336 #[.agg p] w (rB (.bool d_) w):=by
 open am3 in exact uq
def am4.ui(h:ρ:=by
 go_enter func339,ntmps339;go_wp2;go_ret
 exact⟨rfl,HB.o _⟩
 ):ρ:=h
def aij(p:aV)(w:Wd):Cp 339 #[.agg p] w (rB (.bool d_) w):=by
 open am4 in exact uq
theorem aeA (p : Value) (w : World) : (method 413 218 p "loop.example/s02135/impl.nesting").run Tryz.prog w = .ok (332, p) w := by kernel_rfl
theorem aez (p : Value) (w : World) : (method 413 220 p "loop.example/s02135/impl.nesting").run Tryz.prog w = .ok (335, p) w := by kernel_rfl
theorem aey (p : Value) (w : World) : (method 413 222 p "loop.example/s02135/impl.nesting").run Tryz.prog w = .ok (338, p) w := by kernel_rfl
theorem aex (p : Value) (w : World) : (method 413 225 p "loop.example/s02135/impl.nesting").run Tryz.prog w = .ok (341, p) w := by kernel_rfl
theorem aeE (p : Value) (w : World) : (method 413 218 p "loop.example/s02135/impl.bare").run Tryz.prog w = .ok (330, p) w := by kernel_rfl
theorem aeD (p : Value) (w : World) : (method 413 220 p "loop.example/s02135/impl.bare").run Tryz.prog w = .ok (333, p) w := by kernel_rfl
theorem aeC (p : Value) (w : World) : (method 413 222 p "loop.example/s02135/impl.bare").run Tryz.prog w = .ok (336, p) w := by kernel_rfl
theorem aeB (p : Value) (w : World) : (method 413 225 p "loop.example/s02135/impl.bare").run Tryz.prog w = .ok (339, p) w := by kernel_rfl
def CJ (t : Pl.Nd Pl.Sv) (v : Value) : Prop := ∃ T p fn fb, v = .iface T p /\ (∀ w, (method 413 T p "loop.example/s02135/impl.nesting").run Tryz.prog w = .ok (fn, p) w) /\ (∀ w, (method 413 T p "loop.example/s02135/impl.bare").run Tryz.prog w = .ok (fb, p) w) /\ (∀ args w, (callFunc fn args).run Tryz.prog w = .ok (.enter fn args) w) /\ (∀ args w, (callFunc fb args).run Tryz.prog w = .ok (.enter fb args) w) /\ (∀ w, Calls Tryz.prog fn #[p] w fun e w' => e = .returned (.int .i64 (Pl.nest t : Nat)) /\ Below w.heap.size w w') /\ (∀ w, Calls Tryz.prog fb #[p] w fun e w' => e = .returned (.bool (Pl.sV t)) /\ Below w.heap.size w w')
def am5.ui(h:ρ:=by
 obtain⟨T,p,fn,fb,rfl,m1,m2,e1,e2,k1,k2⟩:=h;have K:=zH k1;generalize nest r=q at *;go_enter func338,ntmps338;go_wp2_with fail;refine(K.o _).k λw2 hb2=>?_;go_wp2;go_ret
 exact⟨rfl,(HB.o _).trans (hb2.mono sI)⟩
 ):ρ:=h
def af7(k a b:Int)(nm:bA)(r:Nd Sv)(v:Va)(h:CJ r v)(w:Wd):Cp 338 #[.agg #[I k,I a,I b,.string nm,v]] w (rB (I (nest r:Nat)) w):=by
 open am5 in exact uq
def am6.II(h:ρ:=by
 generalize nest (.two s l r)=qq,nest l=ql,nest r=qr,sV l=bl at *
 cases bl
 all_goals
  simp only[kI,oJ,Ih] at HN;go_enter func341,ntmps341;go_wp2_with fail;refine(K1.o _).k λw2 hb2=>?_;have d0:=C.o _ _ 0 _ hb2 sI J3;have d5:=C.o _ _ 5 _ hb2 sI J3;have vV:w.1.size<w2.1.size:=jL sI hb2.size;have H2:=zH ((HB.o _).trans (hb2.mono sI));go_wp2_with fail;refine(K2.o _).k λw3 eV=>?_;have f5:=C.o _ _ 5 _ eV vV d5;have H3:=zH (H2.o.trans (eV.mono H2.o.size));go_wp2_with fail;refine(K3.o _).k λw4 fZ=>?_;have H4:=zH (H3.o.trans (fZ.mono H3.o.size));go_wp2_with fail
  all_goals (go_ret;exact⟨jq JH,H4.o⟩)
 ):ρ:=h
def ajx.ud(h:ρ:=by
 obtain⟨T,p,fn,fb,rfl,m1,m2,e1,e2,k1,k2⟩:=hl;obtain⟨T',p',fn',fb',rfl,m1',m2',e1',ET,k1',vT⟩:=hr;have K1:=zH k1;have K2:=zH k2;have K3:=zH k1';have HN:Hid (nest (.two s l r)=max (if sV l=b_ then nest l else nest l+1) (nest r)):=by
  show max (match sV l with | b_=>nest l | d_=>nest l+1) (nest r)=_
  cases sV l <;> rfl
 open am6 in exact IX
 ):ρ:=h
def af6(k a b:Int)(nm:bA)(l r:Nd Sv)(vl vr:Va)(hl:CJ l vl)(hr:CJ r vr)(hb1:nest l<=1048576)(hb2:nest r<=1048576)(s:Sv)(w:Wd):Cp 341 #[.agg #[vl,I k,I a,I b,.string nm,vr]] w (rB (I (nest (.two s l r):Nat)) w):=by
 open ajx in exact ug
def ia.nsk{B:Nat}{w:Wd}:∀{t:Nd Sv}{v:Va},ia B w t v->t.post.length<=1048576->CJ t v:=by
 intro t;induction t with
 |«at» s =>
  intro v h _;rcases h with ⟨_,an,cn,rfl,_⟩|⟨_,rfl⟩
  ·exact⟨_,_,332,330,rfl,aeA _,aeE _,enters_of func332 kF rfl,enters_of func330 kF rfl,ahy _,aim _⟩
  exact⟨_,_,335,333,rfl,aez _,aeD _,enters_of func335 kF rfl,enters_of func333 kF rfl,ahx _,ail _⟩
 |one s r ih =>
  intro v h hl;obtain⟨vr,rfl,h2⟩:=h;have uS:r.post.length<=1048576:=by simp only[Nd.post,hJ] at hl;omega
  exact⟨_,_,338,336,rfl,aey _,aeC _,enters_of func338 kF rfl,enters_of func336 kF rfl,af7 _ _ _ _ r vr (ih h2 uS),aik _⟩
 |two s l r il ir =>
  intro v h hl;obtain⟨vl,vr,rfl,h2,h3⟩:=h;have gr:l.post.length<=1048576:=by simp only[Nd.post,hJ] at hl;omega
  have rq:r.post.length<=1048576:=by simp only[Nd.post,hJ] at hl;omega
  have n1:=Gw l;have n2:=Gw r;exact⟨_,_,341,339,rfl,aex _,aeB _,enters_of func341 kF rfl,enters_of func339 kF rfl,af6 _ _ _ _ l r vl vr (il h2 gr) (ir h3 rq) oM oM s,aij _⟩
end Go.Proofs.YtiagfejlmafliaaGreatDoor
