import Derived.Test.YtiagfejlmafliaaGreatDoorItf
namespace Go.Proofs.YtiagfejlmafliaaGreatDoor
set_option linter.all false
open Go.Proofs.Tryz Pl
open Go.RowKit
set_option maxRecDepth 100000
set_option maxHeartbeats 16000000
open World renaming setCell->ez,alloc->ew
open List renaming range->eA,replicate->eE
open Option renaming some->a_,none->c_
open Bool renaming true->b_,false->d_
variable {ρ:Prop}
section
variable {s:Tv}{k:Nat}{g:Gv}
namespace Pl
structure DN(s:Tv):Prop where
 code:Small s.code
 nm:s.nm.length<=1048576
 gs:∀g∈s.gs,Small g.test/\Small g.eT
structure qk(p:List Tv):Prop where
 sz:oe p<=1048576
 st:∀s∈p,DN s
def qk.len{p:List Tv}(h:qk p):p.length<=1048576:=by have:=AQ p;have:=h.sz;omega
def l_(p:List Tv):Bool:=decide (oe p<=16000) && p.all fA
def Xf{p:List Tv}(hs:s∈p)(h:fA s=d_):l_ p=d_:=by
 have:p.all fA=d_:=by
  cases e:p.all fA with
  |false=>rfl
  |true=>have:=ga.1 e s hs;rw[h] at this;cases this
 unfold l_;rw[this,H_]
def Wk{p:List Tv}(h:p[k]? = a_ s):(p.take (k+1)).all fA=((p.take k).all fA && fA s):=by
 rw[pB,h,DL];simp
def Xg{p:List Tv}(hz:oe p<=16000)(hk:k=p.length)(h:(p.take k).all fA=b_):l_ p=b_:=by
 rw[hk,km] at h;unfold l_;rw[h,fM hz];rfl
def gB(g:Gv):Bool:=(xB g.test) && (xB g.eT)
def XA{p:List Gv}(h:p[k]? = a_ g):(p.take (k+1)).all gB=((p.take k).all gB && gB g):=by
 rw[pB,h,DL];simp
def ZJ{p:List Gv}(hs:g∈p)(h:gB g=d_):p.all gB=d_:=by
 cases e:p.all gB with
 |false=>rfl
 |true=>have:=ga.1 e g hs;rw[h] at this;cases this
def Xs{p:List Tv}(hs:s∈p)(h:oe p<=1048576):s.gs.length<=1048576:=by
 have:jX s<=(p.map jX).sum:=by
  clear h;induction p with
  |nil=>cases hs
  |cons x p ih =>
   rw[oH,yZ];rcases qR.1 hs with rfl|h
   ·omega
   ·have:=ih h;omega
 unfold oe at h;have:=AO s;omega
end Pl
def VY(l:List UInt8):((Pl.ba l).toList == [115,101,108,102])=decide (l=lL):=by
 rw[uz];show (l == lL)=_;by_cases h:l=lL
 ·rw[h];rfl
 ·rw[fH h];exact gR.2 h
abbrev Ck(a:Option Addr)(n c:Nat)(x:Bool)(w:Wd):Prop:=Cp 45 #[.slice a n c] w λe w'=>e=.returned (.bool x)/\Below w.1.size w w'
def vR(h:ρ:=by
 have HF:=zH (X.o (by rw[wM.o];first | (simp;done) | (simp[g1];done) | (simp[hn];done) | (simp[k1,k2,k3];omega)));go_wp2_with fail
 all_goals
  go_ret
  exact⟨iD HF.o.symm,H.o⟩):ρ:=h
def Rz(h:ρ:=by
 go_wp2_with fail;go_loopw [5] (λv wr=>∃j:Nat,j<=G/\v=.int .i64 j/\Hid ((gs.take j).all gB=b_)/\Hid (Below wq.1.size wq wr)) (λv _=>G-(intOf v).toNat)
 case atStart=>exact⟨0,vZ _,rfl,rfl,jD _ _⟩
 case round =>
  rename Wd=>wr
  obtain⟨j,hj,rfl,hga,mh⟩:=hrel;obtain⟨d5,f5,y5⟩:=(B.o.below mh.o).all;have HW:=zH (bv mh.o H.o);by_cases yh:j<G
  ·obtain⟨x3,x4,b2,o2,e1,e2,m1,m2,p1,p2,rfl,hbad,Ek,oT⟩:=wQ.o j yh
   have KC:=zH oT;have FF:=zH (jA hbad Ek);obtain⟨g0,-⟩:=KC.o _ HW.o;clear hbad Ek oT wQ;go_wp2_with fail;refine(KC.o _ HW.o).2.2.1.mono ?_;rintro e w6 ⟨rfl,tQ⟩;have b6:=mh.o.trans (tQ.mono mh.o.size);replace HW:=zH (bv tQ HW.o);clear g0 d5 f5 y5;obtain⟨d5,f5,y5⟩:=(B.o.below b6).all;obtain⟨-,g1,-⟩:=KC.o _ HW.o;replace b6:=zH b6;clear tQ
   cases x3
   ·have HF:=zH (X.o (by rw[wM.o,FF.o.1 rfl,H_]))
    go_wp2_with fail;go_ret
    exact⟨iD HF.o.symm,HW.o⟩
   go_wp2_with fail;refine(KC.o _ HW.o).2.2.2.mono ?_;rintro e w7 ⟨rfl,yu⟩;replace HW:=zH (bv yu HW.o);have b7:=zH (b6.o.trans (yu.mono b6.o.size));clear g1 d5 f5 y5 yu
   cases x4
   ·have HF:=zH (X.o (by rw[wM.o,FF.o.1 rfl,H_]))
    go_wp2_with fail;go_ret
    exact⟨iD HF.o.symm,HW.o⟩
   go_wp2_with fail;go_roundw
   case rel=>exact⟨j+1,oM,gN,by rw[FF.o.2,hga.o];rfl,b7⟩
   case measure=>simp[intOf];omega
  ·obtain rfl:j=G:=oM
   have HN:=zH (show (p.take (k+1)).all Pl.fA=b_ by rw[SU.o,lV.o,wM.o,<- GL.o hga.o];first | (simp;done) | (simp[GZ.o];done) | (simp[GZ.o,hn];done) | (simp[hn];done));clear wQ;go_wp2_with fail;go_roundw
   case rel=>exact⟨k+1,oM,gN,HN.o,HW⟩
   case measure=>simp[intOf];omega):ρ:=h
def agm(p:List Pl.Tv)(ao:Option Addr)(cap:Nat)(fJ:qk p)(w:Wd)(hR:jF w.1.size w ao p):
  Cp 20 #[.slice ao p.length cap] w λe w'=>e=.returned (.bool (l_ p))/\Below w.1.size w w':=by
 have K0:=zH (acn p ao cap fJ.sz w hR);have hlen:=fJ.len;by_cases hz:oe p<=16000
 ·rw[fM hz] at K0
  obtain⟨r,hr⟩:=jN (l_ p);rw[hr.o];have HG:Hid (∀k,k<p.length->∃(s:Pl.Tv)(b off:Nat) (a1 a2:Option Addr) (c1 c2:Nat),ao=a_ ⟨b,off,c_⟩/\s.gs.length<=1048576/\(Pl.fA s=d_->r=d_)/\(p.take (k+1)).all Pl.fA=((p.take k).all Pl.fA && Pl.fA s)
   /\ (∀j,j<s.gs.length->∃(x3 x4:Bool)(b2 o2:Nat) (e1 e2:Option Addr) (m1 m2 p1 p2:Nat),a2=a_ ⟨b2,o2,c_⟩/\((x3 && x4)=d_->s.gs.all gB=d_)/\(s.gs.take (j+1)).all gB=((s.gs.take j).all gB && (x3 && x4))/\∀w',Below w.1.size w w'->w'.cell? ⟨b2,o2+j * 2,c_⟩=a_ (.slice e1 m1 p1)/\w'.cell? ⟨b2,o2+j * 2+1,c_⟩=a_ (.slice e2 m2 p2)/\Ck e1 m1 p1 x3 w'/\Ck e2 m2 p2 x4 w')
   /\ ∀w',Below w.1.size w w'->w'.cell? ⟨b,off+k * 4,c_⟩=a_ (.int .i64 s.k)/\w'.cell? ⟨b,off+k * 4+1,c_⟩=a_ (.string (Pl.ba s.nm))/\w'.cell? ⟨b,off+k * 4+2,c_⟩=a_ (.slice a1 s.code.length c1)/\w'.cell? ⟨b,off+k * 4+3,c_⟩=a_ (.slice a2 s.gs.length c2)/\Ck a1 s.code.length c1 (xB s.code) w'/\∀kd,Cp 46 #[.string (Pl.ba s.nm),.int .u8 kd] w' λe w2=>e=.returned (.bool (lN (Pl.ba s.nm) kd))/\Below w'.1.size w' w2):=λk hk=>by
   rcases hR with rfl|⟨b,off,hb,rfl,hc⟩
   ·cases hk
   ·have hg:=fw hk
    have hm:=lh hk;have T:=fJ.st _ hm;obtain⟨a1,a2,c1,c2,h⟩:=hc k p[k] hg;refine⟨p[k],b,off,a1,a2,c1,c2,rfl,Xs hm fJ.sz,λe=>hr.o.symm.trans (Xf hm e),Wk hg,λj hj=>?_,λw' hw=>?_⟩
    ·have kO:=fw hj
     have fY:=lh hj;rcases h.rg with e|⟨b2,o2,hb2,e2,jC⟩
     ·rw[e] at hj;cases hj
     ·obtain⟨e1,ET,p1,p2,q⟩:=jC j _ kO
      refine⟨xB p[k].gs[j].test,xB p[k].gs[j].eT,b2,o2,e1,ET,p[k].gs[j].test.length,p[k].gs[j].eT.length,p1,p2,e2,ZJ fY,XA kO,λw' hw=>?_⟩;obtain⟨q1,q2,q3,q4⟩:=q.eG hb2 hw;exact⟨q1,q2,MW _ e1 p1 (T.gs _ fY).1 w' (q3.up hw.size),MW _ ET p2 (T.gs _ fY).2 w' (q4.up hw.size)⟩
    ·obtain⟨g0,g1,g2,g3,r0,r1⟩:=h.eG hb hw
     exact⟨g0,g1,g2,g3,MW _ a1 c1 T.code w' (r0.up hw.size),λkd=>MV _ kd w' (by rw[xf];have:=T.nm;omega)⟩
  have HE:Hid ((p.take p.length).all Pl.fA=b_->r=b_):=λh=>hr.o.symm.trans (Xg hz rfl h);clear hR fJ hz hr;generalize p.length=L at *;go_enter func20,ntmps20;go_wp2_with fail;refine K0.o.mono ?_;rintro e w1 ⟨rfl,hb1⟩;replace hb1:=zH hb1;clear K0;go_wp2_with fail;go_loopw [3] (λv wr=>∃k:Nat,k<=L/\v=.int .i64 k/\Hid ((p.take k).all Pl.fA=b_)/\Hid (Below w.1.size w wr)) (λv _=>L-(intOf v).toNat)
  case atStart=>exact⟨0,vZ _,rfl,rfl,hb1.o⟩
  case round =>
   rename Wd=>wo
   obtain⟨k,hk,rfl,lV,je⟩:=hrel;by_cases eI:k<L
   ·obtain⟨s,b,off,a1,a2,c1,c2,rfl,hG,hbad,Ek,Ly,hc⟩:=HG.o k eI
    obtain⟨g0,g1,g2,g3,-,-⟩:=hc _ je.o;have K:=zH λw' h=>(hc w' (je.o.trans (ID h je.o.size))).2.2.2.2;have X:=zH hbad;have SU:=zH Ek;have wQ:=zH Ly;have wM:Hid (Pl.fA s=(xB s.code && (decide (s.k=3) || decide (s.gs.length=0)) && (!(decide (s.k=1)) || decide (s.nm=[])) && (!(decide (s.k=2)) || lN (Pl.ba s.nm) 119) && (!(decide (s.k=3)) || (lN (Pl.ba s.nm) 70 && !(decide (s.nm=lL)))) && decide (1<=s.k) && decide (s.k<=3) && s.gs.all gB)):=by
     show _=_;rw[Xj,Xk,Xq,show decide (s.gs.length=0)=decide (s.gs=[]) by simp[lP]];rfl
    have oP:=xu s.nm;have Ll:=VY s.nm;clear hc hbad Ek Ly HG;generalize nj:Pl.fA s=sb at *;generalize s.gs=gs at *;generalize si:gs.all gB=x2 at *;generalize xB s.code=x1,decide (s.nm=[])=n0,decide (s.nm=lL)=ns,s.code.length=cl,s.k=kk,Pl.ba s.nm=nm at *;have GL:Hid ((gs.take gs.length).all gB=b_->b_=x2):=λh=>by rw[km,si] at h;exact h.symm
    generalize gs.length=G at *;clear nj si;go_wp2_with fail;refine(K.o _ gG).1.mono ?_;rintro e wq ⟨rfl,tO⟩;have B:Bx wq wo.1.size _ _:=.below (.eK rfl) tO;have KN:=zH λw' h=>(K.o w' h).2;replace tO:=zH (bv (w:=wo) tO);have H:=zH (je.o.trans (tO.o.mono je.o.size));obtain⟨d2,f2,y2⟩:=B.all;replace B:=zH B;clear K g0 g1 g2 g3
    cases x1
    ·exact vR
    by_cases k1:kk=1
    ·subst k1
     by_cases g0:0<G
     ·have g1:¬G=0:=oM
      exact vR
     ·have GZ:Hid (G=0):=by show G=0;omega
      have g1:decide (0<G)=d_:=fH g0;clear g0
      cases n0
      ·exact vR
      ·exact Rz
    by_cases k2:kk=2
    ·subst k2
     by_cases g0:0<G
     ·have g1:¬G=0:=oM
      exact vR
     ·have GZ:Hid (G=0):=by show G=0;omega
      have g1:decide (0<G)=d_:=fH g0;clear g0;go_wp2_with fail;refine(KN.o _ tO.o _).mono ?_;rintro e wq' ⟨rfl,tQ⟩;replace B:=zH (B.o.below tQ);replace H:=zH (bv tQ H.o);clear d2 f2 y2 tQ tO;obtain⟨d2,f2,y2⟩:=B.o.all;rename Wd=>wq
      cases hn:lN nm 119
      ·exact vR
      ·exact Rz
    by_cases k3:kk=3
    ·subst k3
     go_wp2_with fail;refine(KN.o _ tO.o _).mono ?_;rintro e wq' ⟨rfl,tQ⟩;replace B:=zH (B.o.below tQ);replace H:=zH (bv tQ H.o);clear d2 f2 y2 tQ tO;obtain⟨d2,f2,y2⟩:=B.o.all;rename Wd=>wq
     cases hn:lN nm 70
     ·exact vR
     cases ns
     ·exact Rz
     ·exact vR
    have q1:(kk == 1)=d_:=by simp[k1]
    have q2:(kk == 2)=d_:=by simp[k2]
    have q3:(kk == 3)=d_:=by simp[k3]
    by_cases k4:kk<1
    ·exact vR
    ·have k5:3<kk:=oM
     exact vR
   ·obtain rfl:k=L:=oM
    have HR:=zH (HE.o lV.o);clear HG HE;go_wp2_with fail;go_ret
    exact⟨iD HR.o.symm,je.o⟩
 ·rw[fH hz] at K0
  have HR:=zH (show l_ p=d_ by unfold l_;rw[fH hz];rfl);clear hz hR fJ;generalize l_ p=r,p.length=L at *;go_enter func20,ntmps20;go_wp2_with fail;refine K0.o.mono ?_;rintro e w1 ⟨rfl,hb1⟩;replace hb1:=zH hb1;go_wp2_with fail;go_ret
  exact⟨iD HR.o.symm,hb1.o⟩
end
namespace Pl
def agM(f:fS):decide (f=⟨10,0,0,f.nm⟩)=(decide (f.k=10) && decide (f.a=0) && decide (f.b=0) && decide (ba f.nm=ba f.nm)):=by
 obtain⟨k,a,b,nm⟩:=f;rw[mz];simp only[fS.mk.injEq,fQ,fO];exact⟨λ⟨a,b,c,d⟩=>⟨⟨⟨a,b⟩,c⟩,trivial⟩,λ⟨⟨⟨a,b⟩,c⟩,d⟩=>⟨a,b,c,trivial⟩⟩
def ah8(f:fS):decide (f=⟨f.k,f.a,0,[]⟩)=(decide (f.k=f.k) && decide (f.a=f.a) && decide (f.b=0) && decide (ba f.nm=⟨#[]⟩)):=by
 obtain⟨k,a,b,nm⟩:=f;rw[mz];have:ba nm=⟨#[]⟩ ↔ nm=[]:=by rw[xt];exact DE
 simp only[fS.mk.injEq,fQ,fO,this];exact IU
end Pl
def adx(l:List Int)(ao:Option Addr)(cap B:Nat)(w:Wd)(hr:j' B w ao l)(hl:l.length<=1048576):
  Cp 191 #[.slice ao l.length cap] w λe w'=>e=.returned (.bool (k_ l))/\w'=w:=by
 have HP:Hid (∀k x,l[k]? = a_ x->pre l (k+1)=(pre l k && ot x)):=λk x=>Wi;have HQ:Hid (∀k x,l[k]? = a_ x->ot x=d_->k_ l=d_):=λk x=>Xa;have HA:Hid (∀k,k=l.length->pre l k=b_->k_ l=(decide (1<=l.length) && decide (l.length<=1000))):=λk=>Xb;have HI:Hid (∀k,k<l.length->∃x,l[k]? = a_ x/\l ≠ []):=λk hk=>⟨l[k],fw hk,λe=>by rw[e] at hk;cases hk⟩;have An:=zH hr;clear hr;generalize k_ l=r at *;generalize hL:l.length=L at *;clear hL;go_enter func191,ntmps191;go_wp2;go_loop [7] (λv=>∃k:Nat,k<=L/\v=.int .i64 k/\Hid (pre l k=b_)) (λv=>L-(intOf v).toNat)
 case atStart=>exact⟨0,vZ _,rfl,rfl⟩
 obtain⟨j,hj,rfl,eL⟩:=hrel;by_cases eI:j<L
 ·obtain⟨x,hx,gu⟩:=HI.o j eI
  have S:=zH (HP.o j x hx);have Q:=zH (HQ.o j x hx);obtain⟨b,off,hb,rfl,hc⟩:=An.o.resolve_left gu;have vC:=hc j x hx;have K:Hid (∀w,Cp 55 #[.int .i64 x] w λe w'=>e=.returned (.bool (ot x))/\w'=w):=MO x;clear hc An HI HP HQ HA hx gu
  cases hq:ot x
  ·rw[hq] at K
   have HR:=zH (Q.o hq);clear hq;go_wp2_with (go_at_call 55;refine(K.o _).mono ?_;rintro e w' ⟨rfl,rfl⟩)
   go_ret
   exact⟨iD HR.o.symm,rfl⟩
  rw[hq] at K S;have HR:=zH (show pre l (j+1)=b_ by rw[S.o,eL.o];rfl);clear hq;go_wp2_with (go_at_call 55;refine(K.o _).mono ?_;rintro e w' ⟨rfl,rfl⟩)
  go_round
  case rel=>exact⟨j+1,oM,gN,HR.o⟩
  simp[intOf];omega
 obtain rfl:j=L:=oM;have HF:=zH (show r=(decide (1<=j) && decide (j<=1000)) by rw[HA.o j rfl eL.o]);clear An HI HP HQ HA;by_cases g1:1<=j
 ·have HR:=zH (show r=decide (j<=1000) by rw[HF.o];simp[g1])
  go_wp2;go_ret
  exact⟨iD (by rw[HR.o,mz];simp only[fQ];omega),rfl⟩
 have HR:=zH (show r=d_ by rw[HF.o];simp[g1]);go_wp2;go_ret
 exact⟨iD HR.o.symm,rfl⟩
def anj.II(h:ρ:=by
 clear hm;generalize decide (f=⟨10,0,0,f.nm⟩)=q at *;generalize rQ f=r at *;generalize Pl.wk f.nm=z at *;generalize Pl.ba f.nm=nm at *;generalize f.k=fk at *;generalize f.a=fa at *;generalize f.b=fb at *;by_cases hz:z=3
 ·subst hz
  have HR:=zH (show r=q by rw[HF.o];simp);go_enter func221,ntmps221;go_wp2_with fail;refine(K.o _).k λw2 hb2=>?_;have d0:=C.o _ _ 0 _ hb2 sI J3;have d1:=C.o _ _ 1 _ hb2 sI J3;have d2:=C.o _ _ 2 _ hb2 sI J3;have d3:=C.o _ _ 3 _ hb2 sI J3;have pZ:=zH ((HB.o _).trans (hb2.mono sI));clear hb2;go_wp2_with fail;go_ret
  exact kj HR.o pZ.o
 ·have hzb:(z == 3)=d_:=by simp[hz]
  have HR:=zH (show r=d_ by rw[HF.o];simp[hz]);clear hz;go_enter func221,ntmps221;go_wp2_with (go_at_call 114;refine(K.o _).mono ?_;rintro e w2 ⟨rfl,hb2⟩)
  go_ret
  exact kj HR.o ((HB.o _).trans (hb2.mono sI))
 ):ρ:=h
def aj9.ud(h:ρ:=by
 have K:Hid (∀o,Cp 114 #[.string (Pl.ba f.nm)] (w.alloc o) λe w'=>e=.returned (.int .i64 (Pl.wk f.nm))/\Below (w.alloc o).1.size (w.alloc o) w'):=λo=>MU (Pl.ba f.nm) mb mo cp (w.alloc o) (hm.eG (HB.o o)) (by rw[xf];omega);have heq:=BI f.k f.a f.b 10 0 0 (Pl.ba f.nm) (Pl.ba f.nm);rw[<- agM] at heq;have HF:Hid (rQ f=(decide (Pl.wk f.nm=3) && decide (f=⟨10,0,0,f.nm⟩))):=rfl;open anj in exact IX
 ):ρ:=h
def ad4(f:fS)(mb mo cp:Nat)(w:Wd)(hm:Mt w mb mo cp)(hl:f.nm.length<=1048576):
  Cp 221 #[.agg #[.int .i64 f.k,.int .i64 f.a,.int .i64 f.b,.string (Pl.ba f.nm)]] w λe w'=>e=.returned (.bool (rQ f))/\Below w.1.size w w':=by
 open aj9 in exact ug
def ank.ξ(h:ρ:=by
 have HF:Hid (rX f=if f.k=1\/f.k=2\/f.k=9 then !(decide (kA f=[])) else if f.k=3\/f.k=4 then !(decide (i_ f.a=[])) && decide (f=⟨f.k,f.a,0,[]⟩) else rQ f):=by
  show _=_;unfold rX;simp
 clear hm;generalize rX f=r at *;generalize rQ f=cb at *;generalize decide (f=⟨f.k,f.a,0,[]⟩)=q at *;generalize decide (kA f=[])=ns at *;generalize decide (i_ f.a=[])=no at *;generalize decide (i_ f.b=[])=no2 at *;generalize decide (f.nm=[])=nn at *;generalize Pl.ba (kA f)=ss at *;generalize Pl.ba (i_ f.a)=so at *;generalize Pl.ba (i_ f.b)=so2 at *;generalize Pl.ba f.nm=nm at *;generalize f.k=fk at *;generalize f.a=fa at *;generalize f.b=fb at *;by_cases k1:fk=1
 ·subst k1
  exact Pj
 have f1:(fk == 1)=d_:=by simp[k1]
 by_cases k2:fk=2
 ·subst k2
  clear f1 k1;exact Pj
 have f2:(fk == 2)=d_:=by simp[k2]
 by_cases k9:fk=9
 ·subst k9
  clear f1 k1 f2 k2;exact Pj
 have f9:(fk == 9)=d_:=by simp[k9]
 by_cases k3:fk=3
 ·subst k3
  clear f1 k1 f2 k2 f9 k9;exact YQ
 have f3:(fk == 3)=d_:=by simp[k3]
 by_cases k4:fk=4
 ·subst k4
  clear f1 k1 f2 k2 f9 k9 f3 k3;exact YQ
 have f4:(fk == 4)=d_:=by simp[k4]
 have HR:=zH (show r=cb by rw[HF.o];simp[k1,k2,k9,k3,k4]);clear k1 k2 k9 k3 k4;go_enter func192,ntmps192;go_wp2_with (go_at_call 221;refine(KC.o _).mono ?_;rintro e w2 ⟨rfl,hb2⟩)
 go_ret
 exact kj HR.o ((HB.o _).trans (hb2.mono sI))
 ):ρ:=h
def aer(f:fS)(mb mo cp:Nat)(w:Wd)(hm:Mt w mb mo cp)(hl:f.nm.length<=1048576):
  Cp 192 #[.agg #[.int .i64 f.k,.int .i64 f.a,.int .i64 f.b,.string (Pl.ba f.nm)]] w λe w'=>e=.returned (.bool (rX f))/\Below w.1.size w w':=by
 open ank in exact aan
def anl.ξ(h:ρ:=by
 have HF:Hid (rW f=if f.k=5\/f.k=6 then !(decide (kA f=[])) else if f.k=7 then !(decide (i_ f.a=[])) && decide (f=⟨f.k,f.a,0,[]⟩) else if f.k=8 then !(decide (i_ f.a=[])) && !(decide (i_ f.b=[])) && decide (f.nm=[]) else rQ f):=by
  show _=_;unfold rW;simp
 clear hm;generalize rW f=r at *;generalize rQ f=cb at *;generalize decide (f=⟨f.k,f.a,0,[]⟩)=q at *;generalize decide (kA f=[])=ns at *;generalize decide (i_ f.a=[])=no at *;generalize decide (i_ f.b=[])=no2 at *;generalize decide (f.nm=[])=nn at *;generalize Pl.ba (kA f)=ss at *;generalize Pl.ba (i_ f.a)=so at *;generalize Pl.ba (i_ f.b)=so2 at *;generalize Pl.ba f.nm=nm at *;generalize f.k=fk at *;generalize f.a=fa at *;generalize f.b=fb at *;by_cases k5:fk=5
 ·subst k5
  exact Zh
 have f5:(fk == 5)=d_:=by simp[k5]
 by_cases k6:fk=6
 ·subst k6
  clear f5 k5;exact Zh
 have f6:(fk == 6)=d_:=by simp[k6]
 by_cases k7:fk=7
 ·subst k7
  clear f5 k5 f6 k6;have HR:=zH (show r=(!no && q) by rw[HF.o];simp)
  cases no
  ·go_enter func193,ntmps193
   exact Zv
  go_enter func193,ntmps193;exact Zj
 have f7:(fk == 7)=d_:=by simp[k7]
 by_cases k8:fk=8
 ·subst k8
  clear f5 k5 f6 k6 f7 k7;have HR:=zH (show r=(!no && !no2 && nn) by rw[HF.o];simp)
  cases no
  rotate_left 1
  ·go_enter func193,ntmps193
   go_wp2_with (go_at_call 197;refine(KO.o _).mono ?_;rintro e w2 ⟨rfl,hb2⟩)
   go_ret
   exact kj (HR.o.trans sI) ((HB.o _).trans (hb2.mono sI))
  cases no2
  ·go_enter func193,ntmps193
   go_wp2_with fail;refine(KO.o _).k λw2 hb2=>?_;have d2:=C.o _ _ 2 _ hb2 sI J3;have d3:=C.o _ _ 3 _ hb2 sI J3;have vV:w.1.size<w2.1.size:=jL sI hb2.size;have pZ:=zH ((HB.o _).trans (hb2.mono sI));clear hb2;go_wp2_with fail;refine(Ml.o _ pZ.o).k λw3 eV=>?_;have e3:=C.o _ _ 3 _ eV vV d3;have HBC:=zH (pZ.o.trans (eV.mono pZ.o.size));clear eV;go_wp2_with fail;go_ret
   exact kj (HR.o.trans sI) HBC.o
  go_enter func193,ntmps193;go_wp2_with fail;refine(KO.o _).k λw2 hb2=>?_;have d2:=C.o _ _ 2 _ hb2 sI J3;have pZ:=zH ((HB.o _).trans (hb2.mono sI));clear hb2;go_wp2_with (go_at_call 197;refine(Ml.o _ pZ.o).mono ?_;rintro e w3 ⟨rfl,eV⟩)
  go_ret
  exact kj (HR.o.trans sI) (pZ.o.trans (eV.mono pZ.o.size))
 have f8:(fk == 8)=d_:=by simp[k8]
 have HR:=zH (show r=cb by rw[HF.o];simp[k5,k6,k7,k8]);clear k5 k6 k7 k8;go_enter func193,ntmps193;go_wp2_with (go_at_call 221;refine(KC.o _).mono ?_;rintro e w2 ⟨rfl,hb2⟩)
 go_ret
 exact kj HR.o ((HB.o _).trans (hb2.mono sI))
 ):ρ:=h
def ad7(f:fS)(mb mo cp:Nat)(w:Wd)(hm:Mt w mb mo cp)(hl:f.nm.length<=1048576):
  Cp 193 #[.agg #[.int .i64 f.k,.int .i64 f.a,.int .i64 f.b,.string (Pl.ba f.nm)]] w λe w'=>e=.returned (.bool (rW f))/\Below w.1.size w w':=by
 open anl in exact aan
def aiB.Oh(h:ρ:=by
 refine(K2.o _).mono ?_;exact OX
 ):ρ:=h
def aiA.Oh(h:ρ:=by
 refine(K1.o _).mono ?_;exact OX
 ):ρ:=h
def aiz.Oh(h:ρ:=by
 refine(KW.o _).mono ?_;exact OX
 ):ρ:=h
def ajv.ud(h:ρ:=by
 have KN:Hid (∀o,Cp 191 #[sX ao s.eF.length cap] (w.alloc o) λe w'=>e=rT (.bool (k_ s.eF))/\w'=w.alloc o):=λo=>adx s.eF ao cap w.1.size (w.alloc o) (hr.eG (HB.o o)) hl;have KW:Hid (∀o,Cp 114 #[.string (Pl.ba s.nm)] (w.alloc o) λe w'=>e=rT (I (Pl.wk s.nm))/\Below (w.alloc o).1.size (w.alloc o) w'):=λo=>MU (Pl.ba s.nm) mb mo cp (w.alloc o) (hm.eG (HB.o o)) (by rw[xf];omega);have K1:Hid (∀o,Cp 192 #[.agg #[I s.fn.k,I s.fn.a,I s.fn.b,.string (Pl.ba s.fn.nm)]] (w.alloc o) λe w'=>e=rT (.bool (rX s.fn))/\Below (w.alloc o).1.size (w.alloc o) w'):=λo=>aer s.fn mb mo cp (w.alloc o) (hm.eG (HB.o o)) Sw;have K2:Hid (∀o,Cp 193 #[.agg #[I s.fn.k,I s.fn.a,I s.fn.b,.string (Pl.ba s.fn.nm)]] (w.alloc o) λe w'=>e=rT (.bool (rW s.fn))/\Below (w.alloc o).1.size (w.alloc o) w'):=λo=>ad7 s.fn mb mo cp (w.alloc o) (hm.eG (HB.o o)) Sw;have oP:=xu s.nm;have heq:=BI s.fn.k s.fn.a s.fn.b 0 0 0 (Pl.ba s.fn.nm) ⟨#[]⟩;rw[<- ZO] at heq;have C:Hid (∀(w1 w':Wd)(j:Nat) (v:Va),Bl w1 w'->w.1.size<w1.1.size->w1.cell? (Y w.1.size j)=a_ v->w'.cell? (Y w.1.size j)=a_ v):=λw1 w' j v hb h1 h=>(hb.cell (p:=(Y w.1.size j)) h1).trans h;have HF:Hid (Pl.fj s=if s.k=1 then k_ s.eF && decide (s.nm=[]) && decide (s.fn=Pl.f0) else if s.k=2 then decide (Pl.wk s.nm=2) && decide (s.eF.length=0) && decide (s.fn=Pl.f0) else if s.k=3 then rX s.fn && decide (s.eF.length=0) && decide (s.nm=[]) else if s.k=4 then rW s.fn && decide (s.eF.length=0) && decide (s.nm=[]) else d_):=by
  show _=_;have e:decide (s.eF=[])=decide (s.eF.length=0):=by rw[mz];simp
  unfold Pl.fj;rw[e]
 generalize Pl.fj s=r,k_ s.eF=nb,rX s.fn=ob,rW s.fn=tb,Pl.wk s.nm=z,decide (s.fn=Pl.f0)=q,decide (s.nm=[])=nn,Pl.ba s.nm=nm at *;generalize Pl.ba s.fn.nm=pR,s.fn.k=fk,s.fn.a=fa,s.fn.b=fb,s.k=k,s.eF.length=L at *;by_cases k1:k=1
 ·subst k1
  have HR:=zH (show r=(nb && nn && q) by rw[HF.o];simp)
  cases nb <;> cases nn
  ·skip
   exact IW
  ·skip
   exact IW
  ·skip
   exact IW
  skip
  exact IW
 have f1:(k == 1)=d_:=by simp[k1]
 by_cases k2:k=2
 ·subst k2
  have HR:=zH (show r=(decide (z=2) && decide (L=0) && q) by rw[HF.o];simp);by_cases hz:z=2
  ·subst hz
   by_cases h0:L=0
   ·subst h0
    go_enter func172,ntmps172;go_wp2_with fail;refine(KW.o _).k λw2 hb2=>?_;have d1:=C.o _ _ 1 _ hb2 sI J3;have d3:=C.o _ _ 3 _ hb2 sI J3;have d4:=C.o _ _ 4 _ hb2 sI J3;have d5:=C.o _ _ 5 _ hb2 sI J3;have d6:=C.o _ _ 6 _ hb2 sI J3;exact QD
   open aiz in exact OV
  have hzb:(z == 2)=d_:=by simp[hz]
  have eP:=zH (show r=d_ by rw[HR.o];simp[hz]);have HR:=eP;go_enter func172,ntmps172;go_wp2_with (go_at_call 114;refine(KW.o _).mono ?_;rintro e w2 ⟨rfl,hb2⟩)
  exact Qo
 have f2:(k == 2)=d_:=by simp[k2]
 by_cases k3:k=3
 ·subst k3
  have HR:=zH (show r=(ob && decide (L=0) && nn) by rw[HF.o];simp)
  cases ob
  ·skip
   go_enter func172,ntmps172;go_wp2_with (go_at_call 192;refine(K1.o _).mono ?_;rintro e w2 ⟨rfl,hb2⟩)
   exact Qo
  by_cases h0:L=0
  ·subst h0
   go_enter func172,ntmps172;go_wp2_with fail;refine(K1.o _).mono ?_;exact YN
  open aiA in exact OV
 have f3:(k == 3)=d_:=by simp[k3]
 by_cases k4:k=4
 ·subst k4
  have HR:=zH (show r=(tb && decide (L=0) && nn) by rw[HF.o];simp)
  cases tb
  ·skip
   go_enter func172,ntmps172;go_wp2_with (go_at_call 193;refine(K2.o _).mono ?_;rintro e w2 ⟨rfl,hb2⟩)
   exact Qo
  by_cases h0:L=0
  ·subst h0
   go_enter func172,ntmps172;go_wp2_with fail;refine(K2.o _).mono ?_;exact YN
  open aiB in exact OV
 have f4:(k == 4)=d_:=by simp[k4]
 have HR:=zH (show r=d_ by rw[HF.o];simp[k1,k2,k3,k4]);go_enter func172,ntmps172;go_wp2_with fail;exact qP
 ):ρ:=h
def adj(s:Sv)(ao:oA)(cap mb mo cp:Nat)(w:Wd)(hm:Mt w mb mo cp)(hr:j' w.1.size w ao s.eF)(hl:s.eF.length<=1048576)(hn1:s.nm.length<=1048576)(Sw:s.fn.nm.length<=1048576):
  Cp 172 #[.agg #[I s.k,sX ao s.eF.length cap,.string (Pl.ba s.nm),I s.fn.k,I s.fn.a,I s.fn.b,.string (Pl.ba s.fn.nm)]] w (rB (.bool (Pl.fj s)) w):=by
 open ajv in exact ug
def ia(B:Nat)(w:Wd):Nd Sv->Va->Prop
 |.at s,v=>(s.k=1/\∃an cn,v=.iface 218 (.agg #[sX an s.eF.length cn])/\j' B w an s.eF)\/(s.k=2/\v=.iface 220 (.agg #[.string (Pl.ba s.nm)]))
 |.one s r,v=>∃vr,v=.iface 222 (.agg #[I s.fn.k,I s.fn.a,I s.fn.b,.string (Pl.ba s.fn.nm),vr])/\ia B w r vr
 |.two s l r,v=>∃vl vr,v=.iface 225 (.agg #[vl,I s.fn.k,I s.fn.a,I s.fn.b,.string (Pl.ba s.fn.nm),vr])/\ia B w l vl/\ia B w r vr
def ia.eG{B:Nat}{w w':Wd}(hb:Below B w w'):∀{t:Nd Sv}{v:Va},ia B w t v->ia B w' t v:=by
 intro t;induction t with
 |«at» s =>
  intro v h;rcases h with ⟨h1,an,cn,h2,h3⟩|h
  ·exact .inl ⟨h1,an,cn,h2,h3.eG hb⟩
  exact .inr h
 |one s r ih =>
  intro v h;obtain⟨vr,h1,h2⟩:=h;exact⟨vr,h1,ih h2⟩
 |two s l r il ir =>
  intro v h;obtain⟨vl,vr,h1,h2,h3⟩:=h;exact⟨vl,vr,h1,il h2,ir h3⟩
def ia.iface{B:Nat}{w:Wd}{t:Nd Sv}{v:Va}(h:ia B w t v):∃T p,v=.iface T p:=by
 cases t with
 |«at» s =>
  rcases h with ⟨_,an,cn,h2,_⟩|⟨_,h⟩
  ·exact⟨_,_,h2⟩
  exact⟨_,_,h⟩
 |one s r=>obtain⟨vr,h1,_⟩:=h;exact⟨_,_,h1⟩
 |two s l r=>obtain⟨vl,vr,h1,_⟩:=h;exact⟨_,_,h1⟩
def amd.uj(h:ρ:=by
 go_enter func173,ntmps173;go_wp2;go_ret
 exact⟨⟨_,rfl,HN.o _⟩,HB.o _⟩
 ):ρ:=h
def amc.uj(h:ρ:=by
 go_enter func173,ntmps173;go_wp2;go_ret
 exact⟨⟨_,rfl,HN.o _ (HB.o _)⟩,HB.o _⟩
 ):ρ:=h
def ajy.ud(h:ρ:=by
 rcases hk with hk|hk
 ·have HN:Hid (∀w',Bl w w'->ia B w' (.at s) (.iface 218 (.agg #[sX an s.eF.length cn]))):=λw' h=>.inl ⟨hk,an,cn,rfl,hr.eG (h.mono hB)⟩
  rw[hk];generalize s.eF.length=L at *;open amc in exact uu
 ·have HN:Hid (∀w',ia B w' (.at s) (.iface 220 (.agg #[.string (Pl.ba s.nm)]))):=λw'=>.inr ⟨hk,rfl⟩
  rw[hk];generalize s.eF.length=L at *;open amd in exact uu
 ):ρ:=h
def UP(s:Sv)(an:oA)(cn:Nat)(ao:oA)(n cp:Nat)(hk:s.k=1\/s.k=2)(B:Nat)(w:Wd)(hB:B<=w.1.size)(hr:j' B w an s.eF):
  Cp 173 #[.agg #[I s.k,sX an s.eF.length cn,.string (Pl.ba s.nm),I s.fn.k,I s.fn.a,I s.fn.b,.string (Pl.ba s.fn.nm)],sX ao n cp] w λe w'=>(∃v,e=rT v/\ia B w' (.at s) v)/\Bl w w':=by
 open ajy in exact ug
def ame.uj(h:ρ:=by
 go_enter func173,ntmps173;go_wp2;go_quiet (fail)
 go_wp2;go_ret
 exact⟨⟨_,rfl,HN.o _ (gx (HB.o _) _)⟩,gx (HB.o _) _⟩
 ):ρ:=h
def ajz.ud(h:ρ:=by
 have HN:Hid (∀w',Bl w w'->ia B w' (.one s t) (.iface 222 (.agg #[I s.fn.k,I s.fn.a,I s.fn.b,.string (Pl.ba s.fn.nm),v0]))):=λw' h=>⟨v0,rfl,ia.eG (h.mono hB) hv⟩;have hc:∀ob,(w.alloc ob).cell? (Y g o)=a_ v0:=λob=>((HB.o ob).cell (p:=(Y g o)) hg).trans h0;obtain⟨T0,p0,rfl⟩:=hv.iface;rw[hk];generalize s.eF.length=L at *;open ame in exact uu
 ):ρ:=h
def ab4(s:Sv)(t:Nd Sv)(an:oA)(cn:Nat)(g o cp:Nat)(v0:Va)(hk:s.k=3)(B:Nat)(w:Wd)(hB:B<=w.1.size)(hg:g<w.1.size)(h0:w.cell? (Y g o)=a_ v0)(hv:ia B w t v0):
  Cp 173 #[.agg #[I s.k,sX an s.eF.length cn,.string (Pl.ba s.nm),I s.fn.k,I s.fn.a,I s.fn.b,.string (Pl.ba s.fn.nm)],sX (sY g o) 1 cp] w λe w'=>(∃v,e=rT v/\ia B w' (.one s t) v)/\Bl w w':=by
 open ajz in exact ug
def amf.uj(h:ρ:=by
 go_enter func173,ntmps173;go_wp2;go_quiet (fail)
 go_wp2;go_ret
 exact⟨⟨_,rfl,HN.o _ (gx (HB.o _) _)⟩,gx (HB.o _) _⟩
 ):ρ:=h
def ajA.ud(h:ρ:=by
 have HN:Hid (∀w',Bl w w'->ia B w' (.two s tl tr) (.iface 225 (.agg #[v1,I s.fn.k,I s.fn.a,I s.fn.b,.string (Pl.ba s.fn.nm),v0]))):=λw' h=>⟨v1,v0,rfl,ia.eG (h.mono hB) xZ,ia.eG (h.mono hB) Sa⟩;have hc:∀ob,(w.alloc ob).cell? (Y g o)=a_ v0:=λob=>((HB.o ob).cell (p:=(Y g o)) hg).trans h0;have gE:∀ob,(w.alloc ob).cell? (Y g (o+1))=a_ v1:=λob=>((HB.o ob).cell (p:=(Y g (o+1))) hg).trans h1;obtain⟨T0,p0,rfl⟩:=Sa.iface;obtain⟨T1,p1,rfl⟩:=xZ.iface;rw[hk];generalize s.eF.length=L at *;open amf in exact uu
 ):ρ:=h
def ab3(s:Sv)(tl tr:Nd Sv)(an:oA)(cn:Nat)(g o cp:Nat)(v0 v1:Va)(hk:s.k=4)(B:Nat)(w:Wd)(hB:B<=w.1.size)(hg:g<w.1.size)(h0:w.cell? (Y g o)=a_ v0)(h1:w.cell? (Y g (o+1))=a_ v1)(Sa:ia B w tr v0)(xZ:ia B w tl v1):
  Cp 173 #[.agg #[I s.k,sX an s.eF.length cn,.string (Pl.ba s.nm),I s.fn.k,I s.fn.a,I s.fn.b,.string (Pl.ba s.fn.nm)],sX (sY g o) 2 cp] w λe w'=>(∃v,e=rT v/\ia B w' (.two s tl tr) v)/\Bl w w':=by
 open ajA in exact ug
end Go.Proofs.YtiagfejlmafliaaGreatDoor
