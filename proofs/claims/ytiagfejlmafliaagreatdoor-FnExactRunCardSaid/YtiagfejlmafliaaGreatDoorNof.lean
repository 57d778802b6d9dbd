import Derived.Test.YtiagfejlmafliaaGreatDoorRuf
import Derived.Test.YtiagfejlmafliaaGreatDoorRpb
import Derived.Test.YtiagfejlmafliaaGreatDoorNst
namespace Go.Proofs.YtiagfejlmafliaaGreatDoor
set_option linter.all false
open Go.Proofs.Tryz Pl
open Go.RowKit
set_option maxRecDepth 100000
set_option maxHeartbeats 16000000
open Pl (Ar)
open World renaming setCell->ez,alloc->ew
open List renaming range->eA,replicate->eE
open Option renaming some->a_,none->c_
open Bool renaming true->b_,false->d_
def agK{K:Ks}{P:nK}{w wr:Wd}{u:UV}{e2 e3:aV}{rr:Pl.Rs}{fu ce sd lf lc ls:Int}{lr:Bool}{Z k n b2 o2 c2 tl p1:Nat}{t1:oA}{v0 v1 v2:Va}(hP:∀b,P b->b<w.1.size)(hk:(k:Int)<(n:Int))(hn:n<=1048576)(hb2:b2<w.1.size)(hZ:w.1.size+6<=Z)(F0:Fc w (fA fu ce sd 0 0) (uC ⟨lf,lc,lr,ls⟩ u) e2 e3 wr)(b6:Bx wr Z #[v0,v1,v2,sX (sY b2 o2) n c2] 60)(hg:wr.cell? (Y b2 (o2+k * 2+1))=a_ (sX t1 tl p1))
  (KT:∀W,Bl wr W->Cp 23 #[eW fu ce sd 0 0,uV ⟨lf,lc,lr,ls⟩ u,sX t1 tl p1] W (EPost K P W rr))
  {K' K1 K2 K3:Act->Wd->Prop} {Q:Ending->Wd->Prop} {cN cR cT cO cS cQ cM cP aI b8 aD aS aH bC aO bE bW bw cj cq bk aM aJ cu cJ bj bU bg cI cr bV az cG cC bN aW ck aQ bB aT bz cw bL aY a7 cg aU bS aN a6 cz aA aL aZ bX bh co bY bF bK bT be cA bG aC bf bD aR cH ci cB ct cc aE a5 bH bA aK a9 cm bO bM bP aF bu bQ cE cD bI bR bq bJ aX bc ae aq ag av ad af am aw ah au ap ac aj ai ab ak aa:Va}
  (HK:∀(cK ca aB aP aG ch bi br a3 a8 cF:Va)(a0:oA) (n0 c0:Nat) (a1:oA) (n1 c1:Nat) (f5 c5 s5 k5 x5:Int) (wy:Wd),EPost K P w rr (rT (.tuple #[.agg #[sX a0 n0 c0,sX a1 n1 c1],eW f5 c5 s5 k5 x5])) wy->Bx wy (w.1.size+1+1+1+1) #[sX a0 n0 c0,sX a1 n1 c1] 30->Bx wy (w.1.size+1+1+1+1+1) (fA f5 c5 s5 k5 x5) 64->Exit.then K' (Exit.inBlock 1 (Exit.then K1 (Exit.then K2 (Exit.inBlock 0 (Exit.then K3 (bodyPost prog Tryz.f75 Q)))))) .normal { tmps:=#[cN,cR,cT,cO,cS,cQ,pT w.1.size,pT (w.1.size+1),cM,cP,aI,b8,pT (w.1.size+1+1+1+1),pT (w.1.size+1+1+1+1+1),pT Z,aD,I (k:Int),aS,aH,bC,aO,bE,bW,bw,cj,cq,bk,aM,aJ,cu,cJ,bj,bU,bg,cI,cr,bV,az,cG,cC,bN,aW,ck,aQ,bB,aT,bz,cw,bL,aY,a7,cg,aU,bS,aN,a6,cz,aA,aL,aZ,bX,bh,co,bY,bF,bK,bT,be,cA,bG,aC,bf,bD,aR,cH,ci,cB,ct,cc,aE,a5,bH,bA,aK,a9,cm,bO,bM,bP,aF,bu,bQ,cE,cD,bI,bR,bq,bJ,aX,cK,ca,aB,aP,aG,ch,bi,br,a3,a8,cF,ap,ac,aj,ai,ab,ak,aa],defers:=[] } wy) :
  Code.wp prog ((oO 21 (Tryz.f75.body.getD .skip)).getD .skip) (Exit.then K' (Exit.inBlock 1 (Exit.then K1 (Exit.then K2 (Exit.inBlock 0 (Exit.then K3 (bodyPost prog Tryz.f75 Q))))))) { tmps:=#[cN,cR,cT,cO,cS,cQ,pT w.1.size,pT (w.1.size+1),cM,cP,aI,b8,pT (w.1.size+1+1+1+1),pT (w.1.size+1+1+1+1+1),pT Z,aD,I (k:Int),aS,aH,bC,aO,bE,bW,bw,cj,cq,bk,aM,aJ,cu,cJ,bj,bU,bg,cI,cr,bV,az,cG,cC,bN,aW,ck,aQ,bB,aT,bz,cw,bL,aY,a7,cg,aU,bS,aN,a6,cz,aA,aL,aZ,bX,bh,co,bY,bF,bK,bT,be,cA,bG,aC,bf,bD,aR,cH,ci,cB,ct,cc,aE,a5,bH,bA,aK,a9,cm,bO,bM,bP,aF,bu,bQ,cE,cD,bI,bR,bq,bJ,aX,bc,ae,aq,ag,av,ad,af,am,aw,ah,au,ap,ac,aj,ai,ab,ak,aa],defers:=[] } wr:=by
 conv=>arg 2;whnf
 replace KT:=zH KT;replace HK:=zH HK;have Et:=F0.b5.lt;have lZ:=b6.lt;replace F0:=zH F0;replace b6:=zH b6;obtain⟨d0,f0,z0⟩:=F0.o.b0.all;obtain⟨d1,f1,z1⟩:=F0.o.b1.all;obtain⟨d4,f4,z4⟩:=F0.o.b4.all;have⟨d5,y5,z5⟩:=F0.o.b5.all;obtain⟨d6,f6,z6⟩:=b6.o.all;have z7:b2<wr.1.size:=oM;have⟨i0,i1,i2,i3,i4,i5,i6,i7,i8,i9,i10,i11,i12,i13⟩:¬w.1.size=w.1.size+1+1+1+1/\¬w.1.size+1+1+1+1=w.1.size/\¬w.1.size=w.1.size+1+1+1+1+1/\¬w.1.size+1+1+1+1+1=w.1.size/\¬w.1.size=w.1.size+1+1+1/\¬w.1.size+1+1+1=w.1.size/\¬Z=w.1.size+1+1+1+1/\¬w.1.size+1+1+1+1=Z/\¬Z=w.1.size+1+1+1+1+1/\¬w.1.size+1+1+1+1+1=Z/\¬b2=w.1.size+1+1+1+1/\¬w.1.size+1+1+1+1=b2/\¬b2=w.1.size+1+1+1+1+1/\¬w.1.size+1+1+1+1+1=b2:=oM;have HP:=zH hP;go_region_held3 (λw'=>(cL w' w.1.size 0 (I fu)/\cL w' w.1.size 1 (I ce)/\cL w' w.1.size 2 (I sd)/\cL w' w.1.size 3 (I 0)/\cL w' w.1.size 4 (I 0))/\(cL w' (w.1.size+1) 0 (I lf)/\cL w' (w.1.size+1) 1 (I lc)/\cL w' (w.1.size+1) 2 (.bool lr)/\cL w' (w.1.size+1) 3 (I ls)/\cL w' (w.1.size+1) 4 u.ns/\cL w' (w.1.size+1) 5 u.vs/\cL w' (w.1.size+1) 6 u.fs/\cL w' (w.1.size+1) 7 u.w0/\cL w' (w.1.size+1) 8 u.w1/\cL w' (w.1.size+1) 9 u.a0/\cL w' (w.1.size+1) 10 u.a1/\cL w' (w.1.size+1) 11 (I u.own)/\cL w' (w.1.size+1) 12 (I u.sk)/\cL w' (w.1.size+1) 13 (.string u.sn)/\cL w' (w.1.size+1) 14 u.sc/\cL w' (w.1.size+1) 15 u.sg/\cL w' (w.1.size+1) 16 (I u.cl))/\cL w' Z 3 (sX (sY b2 o2) n c2)/\cL w' b2 (o2+k * 2+1) (sX t1 tl p1)) (go_keep) (first | (go_at_call 23;refine(KT.o _ gG).mono ?_;rintro e w1 hp;obtain⟨a0,n0,c0,a1,n1,c1,f5,c5,s5,k5,x5,rfl⟩:=hp.form;have HB:=zH (iq hp.1);have FA:=zH (F0.o.call HB.o);have⟨k0,g0,l0⟩:=FA.o.b0.all;obtain⟨k1,g1,l1⟩:=FA.o.b1.all;have⟨k4,j4,l4⟩:=FA.o.b4.all;have⟨k5',j5,l5⟩:=FA.o.b5.all;have⟨k6,j6,l6⟩:=(b6.o.below HB.o).all;have e7:=(HB.o.cell (p:=(Y b2 (o2+k * 2+1))) z7).trans hg;have l7:=jL z7 HB.o.size;have HQ:=zH hp))
 all_goals
  refine HK.o _ _ _ _ _ _ _ _ _ _ _ a0 n0 c0 a1 n1 c1 f5 c5 s5 k5 x5 _ ?_ ?_ ?_
  ·have:=FA.o.bl
   have hlr:=F0.o.bl.size;exact HQ.o.move (by repeat' (first | with_reducible exact Kp.refl _ _ | with_reducible refine Kp.set ?_ ?_ _ | exact λh=>h.elim (λh=>absurd (HP.o _ h) J6) (λh=>by dsimp only at h;change wr.1.size<=_ at h;omega))) gG (λb h=>h.imp id λh=>by change wr.1.size<=_ at h;omega)
  ·first
    |exact((((((FA.o.b4.set 0 _).set 1 _).fa _).fa _).fa _).fa _).fa _
    |exact((((((FA.o.b4.fa _).fa _).fa _).fa _).fa _).set 0 _).set 1 _
  first
   |exact((((((FA.o.b5.fa _).fa _).set 0 _).set 1 _).set 2 _).set 3 _).set 4 _
   |exact((((((FA.o.b5.set 0 _).set 1 _).set 2 _).set 3 _).set 4 _).fa _).fa _
def agN{w wr:Wd}{c1 g2 g3:aV}{fu ce sd:Int}{p:Nat}{r0 r1:oA}{m0 e0 m1 e1:Nat}(F0:Fc w (fA fu ce sd 0 0) c1 g2 g3 wr)(bp:Bx wr p #[sX r0 m0 e0,sX r1 m1 e1] 30)(lp:w.1.size+6<=p)
  {K' K0 K1 K2 K3:Act->Wd->Prop} {Q:Ending->Wd->Prop} {cE cJ cN cF cM cH cB cC cG aG bT bg aC bM aF bq aM bu bQ bh bX cc bc aK aH ci cA a9 bO a7 cz cg bP az cu cq bG aR bY aN bk aP bi cj bE aT aY bV aQ bL aL aX ck aA aJ aU bR a8 ca bS bw bD bN a5 cm bz aB a6 br aO cw bW co ch bU aD aW bA bj aI aZ b8 bH bF bI aE bf bJ ct cr bB bK be bC aS a3 ae aq ag av ad af am aw ah au ap ac aj ai ab ak aa:Va}
  (HK:∀(cI cK cD:Va)(wy:Wd),Bl w wy->Bx wy (w.1.size+1+1+1+1) #[sX r0 m0 e0,sX r1 m1 e1] 30->Bx wy (w.1.size+1+1+1+1+1) (fA fu ce sd 2 1) 64->Exit.then K' (Exit.then K0 (Exit.inBlock 1 (Exit.then K1 (Exit.then K2 (Exit.inBlock 0 (Exit.then K3 (bodyPost prog Tryz.f75 Q))))))) .normal { tmps:=#[cE,cJ,cN,cF,cM,cH,pT w.1.size,cB,cC,cG,aG,bT,pT (w.1.size+1+1+1+1),pT (w.1.size+1+1+1+1+1),bg,aC,bM,pT p,aF,bq,aM,bu,bQ,bh,bX,cc,bc,aK,aH,ci,cA,a9,bO,a7,cz,cg,bP,az,cu,cq,bG,aR,bY,aN,bk,aP,bi,cj,bE,aT,aY,bV,aQ,bL,aL,aX,ck,aA,aJ,aU,bR,a8,ca,bS,bw,bD,bN,a5,cm,bz,aB,a6,br,aO,cw,bW,co,ch,bU,aD,aW,bA,bj,aI,aZ,b8,bH,bF,bI,aE,bf,cI,cK,cD,bB,bK,be,bC,aS,a3,ae,aq,ag,av,ad,af,am,aw,ah,au,ap,ac,aj,ai,ab,ak,aa],defers:=[] } wy) :
  Code.wp prog ((oO 19 (Tryz.f75.body.getD .skip)).getD .skip) (Exit.then K' (Exit.then K0 (Exit.inBlock 1 (Exit.then K1 (Exit.then K2 (Exit.inBlock 0 (Exit.then K3 (bodyPost prog Tryz.f75 Q)))))))) { tmps:=#[cE,cJ,cN,cF,cM,cH,pT w.1.size,cB,cC,cG,aG,bT,pT (w.1.size+1+1+1+1),pT (w.1.size+1+1+1+1+1),bg,aC,bM,pT p,aF,bq,aM,bu,bQ,bh,bX,cc,bc,aK,aH,ci,cA,a9,bO,a7,cz,cg,bP,az,cu,cq,bG,aR,bY,aN,bk,aP,bi,cj,bE,aT,aY,bV,aQ,bL,aL,aX,ck,aA,aJ,aU,bR,a8,ca,bS,bw,bD,bN,a5,cm,bz,aB,a6,br,aO,cw,bW,co,ch,bU,aD,aW,bA,bj,aI,aZ,b8,bH,bF,bI,aE,bf,bJ,ct,cr,bB,bK,be,bC,aS,a3,ae,aq,ag,av,ad,af,am,aw,ah,au,ap,ac,aj,ai,ab,ak,aa],defers:=[] } wr:=by
 conv=>arg 2;whnf
 replace HK:=zH HK;replace F0:=zH F0;replace bp:=zH bp;obtain⟨d0,f0,z0⟩:=F0.o.b0.all;obtain⟨d4,f4,z4⟩:=F0.o.b4.all;have⟨d5,y5,z5⟩:=F0.o.b5.all;obtain⟨d7,f7,z7⟩:=bp.o.all;have⟨i0,i1,i2,i3,i4,i5,i6,i7⟩:¬w.1.size=w.1.size+1+1+1+1/\¬w.1.size+1+1+1+1=w.1.size/\¬w.1.size=w.1.size+1+1+1+1+1/\¬w.1.size+1+1+1+1+1=w.1.size/\¬p=w.1.size+1+1+1+1/\¬w.1.size+1+1+1+1=p/\¬p=w.1.size+1+1+1+1+1/\¬w.1.size+1+1+1+1+1=p:=oM;have KK:=zH λW=>wZ fu ce sd 0 0 1 W;go_region_held3 (λw'=>(cL w' w.1.size 0 (I fu)/\cL w' w.1.size 1 (I ce)/\cL w' w.1.size 2 (I sd)/\cL w' w.1.size 3 (I 0)/\cL w' w.1.size 4 (I 0))/\cL w' p 0 (sX r0 m0 e0)/\cL w' p 1 (sX r1 m1 e1)) (go_keep) (first | (go_at_call 24;refine(KK.o _).mono ?_;rintro e w1 ⟨rfl,hb⟩;have HB:=zH (iq hb);have FA:=zH (F0.o.call HB.o);have⟨k0,g0,l0⟩:=FA.o.b0.all;have⟨k4,j4,l4⟩:=FA.o.b4.all;have⟨k5,j5,l5⟩:=FA.o.b5.all;have⟨k7,j7,l7⟩:=(bp.o.below HB.o).all))
 all_goals
  refine HK.o _ _ _ _ ?_ ?_ ?_
  ·have:=FA.o.bl
   go_grown
  ·first
    |exact((((((FA.o.b4.set 0 _).set 1 _).fa _).fa _).fa _).fa _).fa _
    |exact((((((FA.o.b4.fa _).fa _).fa _).fa _).fa _).set 0 _).set 1 _
  first
   |exact((((((FA.o.b5.fa _).fa _).set 0 _).set 1 _).set 2 _).set 3 _).set 4 _
   |exact((((((FA.o.b5.set 0 _).set 1 _).set 2 _).set 3 _).set 4 _).fa _).fa _
def xX:Code->Option Code
 |.loop c=>a_ (.loop c)
 |.seq a b=>match xX a with
  |some c=>a_ c
  |none=>xX b
 |.cond _ a b=>match xX a with
  |some c=>a_ c
  |none=>xX b
 |.block _ c=>xX c
 |.scope c=>xX c
 |_=>c_
def EPost.er'{K:Ks}{P:nK}{w w':Wd}{kd y:Int}{m:Ms}{a0 a1:oA}{n0 c0 n1 c1:Nat}{f c s k x:Int}(h:EPost K P w (.error (kd,y),m) (rT (.tuple #[.agg #[sX a0 n0 c0,sX a1 n1 c1],eW f c s k x])) w'):(f=m.f/\c=m.c/\k=kd/\x=y)/\¬kd=0/\gL m:=by
 obtain⟨hb,hm,hk,_,_,_,_,_,_,_,e⟩:=h;simp at e
 exact⟨⟨e.2.1,e.2.2.1,e.2.2.2.2.1,e.2.2.2.2.2⟩,hk,hm⟩
def Fc.st{w W:Wd}{c1 c2 c3:aV}{f c s k d:Int}(h:Fc w (fA f c s k d) c1 c2 c3 W)(f' c' s' k' d':Int):Fc w (fA f' c' s' k' d') c1 c2 c3 (((((W.setCell (Y w.1.size 0) (I f')).setCell (Y w.1.size 1) (I c')).setCell (Y w.1.size 2) (I s')).setCell (Y w.1.size 3) (I k')).setCell (Y w.1.size 4) (I d')):=by
 have:=h.bl;exact⟨gG,((((h.b0.set 0 _).set 1 _).set 2 _).set 3 _).set 4 _,((((h.b1.fa _).fa _).fa _).fa _).fa _,((((h.b2.fa _).fa _).fa _).fa _).fa _,((((h.b3.fa _).fa _).fa _).fa _).fa _,((((h.b4.fa _).fa _).fa _).fa _).fa _,((((h.b5.fa _).fa _).fa _).fa _).fa _⟩
def ae9{K:Ks}{P:nK}{w w1 W2:Wd}{u':UV}{e2 e3:aV}{r:Pl.Rs}{mf mc ms lf lc ls:Int}{lr:Bool}{Z:Nat}{f:Pl.Tv}{a1 a2:oA}{c1 c2:Nat}{ex:List Sv->Ms->Pl.Rs}(hP:∀b,P b->b<w.1.size)(hf:t_ f)(lZ:w.1.size+6<=Z)(Si:r=nT ex f.code f.gs ⟨mf,mc,ms⟩)(hm:gL ⟨mf,mc,ms⟩)(F2:Fc w (fA mf mc ms 0 0) (uC ⟨lf,lc,lr,ls⟩ u') e2 e3 W2)(b6:Bx W2 Z #[I f.k,.string (Pl.ba f.nm),sX a1 f.code.length c1,sX a2 f.gs.length c2] 60)(SB:Below w.1.size w1 W2)(RG:iG w.1.size w1 a2 f.gs)
  (wK:∀W,Bl w W->Below w.1.size w1 W->∀c,n6 c->∀ac cp,gf w.1.size W ac c->∀m,gL m->Cp 23 #[eW m.f m.c m.s 0 0,uV ⟨lf,lc,lr,ls⟩ u',sX ac c.length cp] W (EPost K P W (ex c m)))
  {K0:Act->Wd->Prop} {dg dQ d9 dh dZ dM cW dp aJ cg aE aT aI bE aP bG bY bA co cu br aN aK cA cN bk bW bh cM cw bX aA cI cF bP aX cq aR bD aU bB cB bN aZ a8 cj aW bU aO a7 cC aB aM a3 ca bi ct cc bH bM bV bf cD bI aD bg bF aS cK cm cE cz ci aF a6 bJ bC aL bc cr bQ bO bR aG bz bS cH cG bK bT bu bL aY be af au ah aw ae ag ap az ai av aq ad ak aj ab am aa:Va}
  (HX:∀(k:Nat)(fu ce sd:Int) (wr:Wd) (dn ed dH dP dv dS du dj cP dE dR dD dc eb c8 ee dq dB dF cO cR cT dL dG ea dw dX ef de dr dJ di cQ dA dV dm dl cY dY cS cZ dk dN dU dT dO dW c9 cV ec dK cX dI cU ch aC aQ aH ck bj bw a5 a9 cJ:Va),gL ⟨fu,ce,sd⟩->r=ex f.code ⟨fu,ce,sd⟩->Fc w (fA fu ce sd 0 0) (uC ⟨lf,lc,lr,ls⟩ u') e2 e3 wr->Bx wr Z #[I f.k,.string (Pl.ba f.nm),sX a1 f.code.length c1,sX a2 f.gs.length c2] 60->Below w.1.size w1 wr->K0 { tmps:=#[dg,dQ,d9,dh,dZ,dM,pT w.1.size,pT (w.1.size+1),cW,dp,aJ,cg,pT (w.1.size+1+1+1+1),pT (w.1.size+1+1+1+1+1),pT Z,aE,I (k:Int),dn,ed,bE,aP,bG,bY,bA,co,cu,br,aN,aK,cA,cN,bk,bW,bh,cM,cw,bX,aA,cI,cF,bP,aX,cq,aR,bD,aU,bB,cB,dH,dP,dv,dS,du,dj,cP,dE,dR,dD,dc,eb,c8,ee,dq,dB,dF,cO,cR,cT,dL,dG,ea,dw,dX,ef,de,dr,dJ,di,cQ,dA,dV,dm,dl,cY,dY,cS,cZ,dk,dN,dU,dT,dO,dW,c9,cV,ec,dK,cX,dI,cU,ch,aC,aQ,aH,ck,bj,bw,a5,a9,cJ,aq,ad,ak,aj,ab,am,aa],defers:=[] } wr) :
  Code.wp prog ((xX (Tryz.f75.body.getD .skip)).getD .skip) (Exit.inBlock 0 (Exit.then K0 (bodyPost prog Tryz.f75 (EPost K P w r)))) { tmps:=#[dg,dQ,d9,dh,dZ,dM,pT w.1.size,pT (w.1.size+1),cW,dp,aJ,cg,pT (w.1.size+1+1+1+1),pT (w.1.size+1+1+1+1+1),pT Z,aE,I 0,aT,aI,bE,aP,bG,bY,bA,co,cu,br,aN,aK,cA,cN,bk,bW,bh,cM,cw,bX,aA,cI,cF,bP,aX,cq,aR,bD,aU,bB,cB,bN,aZ,a8,cj,aW,bU,aO,a7,cC,aB,aM,a3,ca,bi,ct,cc,bH,bM,bV,bf,cD,bI,aD,bg,bF,aS,cK,cm,cE,cz,ci,aF,a6,bJ,bC,aL,bc,cr,bQ,bO,bR,aG,bz,bS,cH,cG,bK,bT,bu,bL,aY,be,af,au,ah,aw,ae,ag,ap,az,ai,av,aq,ad,ak,aj,ab,am,aa],defers:=[] } W2:=by
 conv=>arg 2;whnf
 dsimp only;have HM:=zH hm;have HF:=zH hf;have HP:=zH hP;have HR:=zH Si;replace b6:=zH b6;replace F2:=zH F2;replace SB:=zH SB;replace RG:=zH RG;replace wK:=zH wK;replace HX:=zH HX;have HN:Hid (f.gs.length<=1048576):=HF.o.2.2.1;generalize hn:f.gs.length=n at *;replace hn:=zH hn;go_loopw [16] (λi wr=>∃(k:Nat)(fu ce sd:Int),i=I (k:Int)/\k<=n/\Hid (gL ⟨fu,ce,sd⟩)/\Hid (r=nT ex f.code (f.gs.drop k) ⟨fu,ce,sd⟩)/\Hid (Fc w (fA fu ce sd 0 0) (uC ⟨lf,lc,lr,ls⟩ u') e2 e3 wr)/\Hid (Bx wr Z #[I f.k,.string (Pl.ba f.nm),sX a1 f.code.length c1,sX a2 n c2] 60)/\Hid (Below w.1.size w1 wr)) (λi _=>n-(intOf i).toNat)
 case atStart=>exact⟨0,mf,mc,ms,rfl,vZ _,HM,HR,F2,b6,SB⟩
 obtain⟨k,fu,ce,sd,rfl,hk,hm,hr,F3,b7,S3⟩:=hrel;by_cases fK:k=n
 ·have eN:Hid (r=ex f.code ⟨fu,ce,sd⟩):=by rw[hr.o,Be (by rw[hn.o];omega)];exact rfl
  obtain⟨d6,f6,z6⟩:=b7.o.all;have ji:¬(k:Int)<(n:Int):=oM;go_wp2_with fail;exact HX.o n fu ce sd wr _ _ _ _ _ _ _ _ _ _ _ _ _ _ _ _ _ _ _ _ _ _ _ _ _ _ _ _ _ _ _ _ _ _ _ _ _ _ _ _ _ _ _ _ _ _ _ _ _ _ _ _ _ _ _ _ _ _ _ _ _ _ _ _ hm.o eN.o F3.o b7.o S3.o
 have ji:(k:Int)<(n:Int):=oM;have iT:k<f.gs.length:=by rw[hn.o];omega
 have⟨g,hg⟩:∃g,f.gs[k]? = a_ g:=⟨_,fw iT⟩;have tN:f.gs.drop k=g::f.gs.drop (k+1):=by
  rw[qW iT];rw[fw iT] at hg;injection hg with hg;rw[hg]
 obtain⟨b2,o2,hb2,ea2,t1,t2,p1,p2,gd⟩:∃b2 o2,b2<w.1.size/\a2=sY b2 o2/\∃t1 t2 p1 p2,Gd w.1.size wr b2 (o2+k * 2) g t1 t2 p1 p2:=by
  rcases RG.o.eG S3.o with h|⟨b,o,h1,h2,h3⟩
  ·rw[h] at hg;simp at hg
  exact⟨b,o,h1,h2,h3 k g hg⟩
 subst ea2;have hgo:=zH (HF.o.2.2.2 g (my hg));have GD:=zH gd;have KT:∀W,Bl wr W->Cp 23 #[eW fu ce sd 0 0,uV ⟨lf,lc,lr,ls⟩ u',sX t1 g.test.length p1] W (EPost K P W (ex g.test ⟨fu,ce,sd⟩)):=λW hW =>
  have wh:=hW.mono F3.o.bl.size;wK.o W (F3.o.bl.trans wh) (S3.o.trans wh) g.test hgo.o.1 t1 p1 (gd.rt.eG wh) ⟨fu,ce,sd⟩ hm.o
 have eN:r=jl (ex g.test ⟨fu,ce,sd⟩) λt m=>if t.2=[1] then ex g.eT m else if t.2=[0] then nT ex f.code (f.gs.drop (k+1)) m else (.error (2,1),m):=by rw[hr.o,tN];rfl
 generalize ex g.test ⟨fu,ce,sd⟩=rr at KT eN;replace KT:=zH KT;replace eN:=zH eN;obtain⟨d6,f6,z6⟩:=b7.o.all;go_upto_region 14 with fail
 go_cut [17,18] from 55 to 66 (λs17 s18 wy=>∃p q r0 m0 e0 r1 m1 e1 f5 c5 s5 k5 x5,s17=pT p/\s18=pT q/\Hid (EPost K P wr rr (rT (.tuple #[.agg #[sX r0 m0 e0,sX r1 m1 e1],eW f5 c5 s5 k5 x5])) wy)/\Hid (Bx wy p #[sX r0 m0 e0,sX r1 m1 e1] 30)/\Hid (Bx wy q (fA f5 c5 s5 k5 x5) 64)/\wr.1.size<=p/\wr.1.size<=q)
 case first =>
  refine agL HP.o ji HN.o hb2 lZ F3.o b7.o GD.o.t KT.o ?_;intro _ _ _ _ _ _ _ _ _ _ _ _ p q r0 m0 e0 r1 m1 e1 f5 c5 s5 k5 x5 wy h1 h2 h3 h4 h5;go_wp2;go_meet
  exact⟨p,q,r0,m0,e0,r1,m1,e1,f5,c5,s5,k5,x5,rfl,rfl,h1,h2,h3,h4,h5⟩
 obtain⟨p,q,r0,m0,e0,r1,m1,e1,f5,c5,s5,k5,x5,rfl,rfl,HE,bp,bq,lp,lq⟩:=hcut;have F4:=zH (F3.o.call HE.o.1);have b8:=zH (b7.o.below HE.o.1);have BX:=zH (HE.o.1.mono F3.o.bl.size);have S4:=zH (S3.o.trans (HE.o.1.mono F3.o.bl.size));have lA:=F3.o.b5.lt;obtain⟨rr,m2⟩:=rr;obtain⟨f',c',s'⟩:=m2
 cases rr with
 |error x =>
  obtain⟨kd,x⟩:=x;have⟨⟨j1,j2,j3,j4⟩,ru,fY⟩:=HE.o.er';have j1:f'=f5:=j1.symm;have j2:c'=c5:=j2.symm;have j3:kd=k5:=j3.symm;have j4:x=x5:=j4.symm;subst j1 j2 j3 j4;have gp:(kd == 0)=d_:=gR.2 ru;have⟨d0,g0,z0⟩:=F4.o.b0.all;have⟨d8,g8,z8⟩:=bq.o.all;go_wp2_with fail;have F5:=zH (F4.o.st f' c' s5 kd x);have yB:Bx (((((wc.setCell (Y w.1.size 0) (I f')).setCell (Y w.1.size 1) (I c')).setCell (Y w.1.size 2) (I s5)).setCell (Y w.1.size 3) (I kd)).setCell (Y w.1.size 4) (I x)) p _ 30:=((((bp.o.fa _).fa _).fa _).fa _).fa _;generalize ez (ez (ez (ez (ez wc _ _) _ _) _ _) _ _) _ _=W5 at *;have⟨d0,g0,z0⟩:=F5.o.b0.all;have⟨d4,g4,z4⟩:=F5.o.b4.all;have⟨d5,g5,z5⟩:=F5.o.b5.all;have⟨d7,g7,z7⟩:=yB.all;go_region
  all_goals
   go_wp2;refine eJ (by simp[results,results75,go_sem,d4,d5];try rfl) rfl ?_;have:=F5.o.bl;rw[eN.o];exact⟨gG,fY,ru,_,_,_,_,_,_,_,rfl⟩
 |ok t =>
  obtain⟨⟨rfl,rfl,j1,j2,j3,rfl,rfl⟩,hbE,fY,RT⟩:=HE.o.Rx;have j1:f'=f5:=j1.symm;have j2:c'=c5:=j2.symm;have j3:s'=s5:=j3.symm;subst j1 j2 j3;have⟨d0,g0,z0⟩:=F4.o.b0.all;have⟨d8,g8,z8⟩:=bq.o.all;replace fY:=zH fY;go_upto_region 18 with fail
  replace fY:=fY.o;have F5:=zH (F4.o.st f' c' s' 0 0);have yB:Bx (((((wc.setCell (Y w.1.size 0) (I f')).setCell (Y w.1.size 1) (I c')).setCell (Y w.1.size 2) (I s')).setCell (Y w.1.size 3) (I 0)).setCell (Y w.1.size 4) (I 0)) p _ 30:=((((bp.o.fa _).fa _).fa _).fa _).fa _;have b9:Bx (((((wc.setCell (Y w.1.size 0) (I f')).setCell (Y w.1.size 1) (I c')).setCell (Y w.1.size 2) (I s')).setCell (Y w.1.size 3) (I 0)).setCell (Y w.1.size 4) (I 0)) Z _ 60:=((((b8.o.fa _).fa _).fa _).fa _).fa _;have BW:Hid (Below w.1.size wr (((((wc.setCell (Y w.1.size 0) (I f')).setCell (Y w.1.size 1) (I c')).setCell (Y w.1.size 2) (I s')).setCell (Y w.1.size 3) (I 0)).setCell (Y w.1.size 4) (I 0))):=by
   have:=BX.o;exact(by go_grown:Below w.1.size wr (((((wc.setCell (Y w.1.size 0) (I f')).setCell (Y w.1.size 1) (I c')).setCell (Y w.1.size 2) (I s')).setCell (Y w.1.size 3) (I 0)).setCell (Y w.1.size 4) (I 0)))
  have S5:Hid (Below w.1.size w1 (((((wc.setCell (Y w.1.size 0) (I f')).setCell (Y w.1.size 1) (I c')).setCell (Y w.1.size 2) (I s')).setCell (Y w.1.size 3) (I 0)).setCell (Y w.1.size 4) (I 0))):=by
   have:=S4.o;exact(by go_grown:Below w.1.size w1 (((((wc.setCell (Y w.1.size 0) (I f')).setCell (Y w.1.size 1) (I c')).setCell (Y w.1.size 2) (I s')).setCell (Y w.1.size 3) (I 0)).setCell (Y w.1.size 4) (I 0)))
  have RT5:=zH (RT.o.kp (w':=((((wc.setCell (Y w.1.size 0) (I f')).setCell (Y w.1.size 1) (I c')).setCell (Y w.1.size 2) (I s')).setCell (Y w.1.size 3) (I 0)).setCell (Y w.1.size 4) (I 0)) (by repeat' (first | with_reducible exact Kp.refl _ _ | with_reducible refine Kp.set ?_ ?_ _ | exact λh=>h.elim (λh=>absurd (HP.o _ h) J6) (λh=>by dsimp only at h;omega))));generalize ez (ez (ez (ez (ez wc _ _) _ _) _ _) _ _) _ _=W5 at *;replace eN:Hid (r=if t.2=[1] then ex g.eT ⟨f',c',s'⟩ else if t.2=[0] then nT ex f.code (f.gs.drop (k+1)) ⟨f',c',s'⟩ else (.error (2,1),⟨f',c',s'⟩)):=eN.o;have lB:=F5.o.b5.lt;by_cases h1:t.2.length=1
  rotate_left 1
  ·have Cw:((t.2.length:Int) == 1)=d_:=by rw[gR];omega
   have⟨d7,g7,z7⟩:=yB.all;replace eN:Hid (r=(.error (2,1),⟨f',c',s'⟩)):=eN.o.trans ((eB (λh=>h1 (by rw[h];rfl))).trans (eB (λh=>h1 (by rw[h];rfl))));exact aai
  have⟨v,hv⟩:=zx.1 h1;obtain⟨ra,rc,re,_,_,hd⟩:=RT5.o.1.2;injection re with re1 re2 re3;subst re1 re3;rcases hd with hd|⟨b3,o3,rfl,eV,hd⟩
  ·rw[hv] at hd;simp at hd
  have cv:=hd 0 v (by rw[hv];rfl);replace eV:=eV.2;rw[iz] at cv;rw[h1] at yB;rcases Int.lt_trichotomy v 0 with h0|rfl|h0
  ·have Sa:decide (v<0)=b_:=fM h0
   exact Zb
  ·have⟨d7,g7,z7⟩:=yB.all
   replace eN:Hid (r=nT ex f.code (f.gs.drop (k+1)) ⟨f',c',s'⟩):=eN.o.trans ((eB (by rw[hv];simp)).trans (eD hv));have B9:=zH b9;have Fp:=zH fY;have eI:k<n:=Nat.lt_of_le_of_ne hk fK;have hN:=HN.o;go_wp2;go_roundw
   case rel=>exact⟨k+1,f',c',s',gN,eI,Fp,eN,F5,B9,S5⟩
   simp[intOf];omega
  by_cases h2:v=1
  rotate_left 1
  ·have h3:1<v:=oM
   exact Zb
  subst h2;have⟨d7,g7,z7⟩:=yB.all;replace eN:Hid (r=ex g.eT ⟨f',c',s'⟩):=eN.o.trans (eD hv);go_wp2_with fail;have KT2:∀W,Bl W5 W->Cp 23 #[eW f' c' s' 0 0,uV ⟨lf,lc,lr,ls⟩ u',sX t2 g.eT.length p2] W (EPost K P W (ex g.eT ⟨f',c',s'⟩)):=λW hW =>
   have wh:=hW.mono F5.o.bl.size;wK.o W (F5.o.bl.trans wh) (S5.o.trans wh) g.eT hgo.o.2 t2 p2 ((GD.o.rh.eG BW.o).eG wh) ⟨f',c',s'⟩ fY
  have kO:cL W5 b2 (o2+k * 2+1) (sX t2 g.eT.length p2):=(BW.o.cell (p:=(Y b2 (o2+k * 2+1))) hb2).trans GD.o.h;refine agK HP.o ji HN.o hb2 lZ F5.o b9 kO KT2 ?_;intro _ _ _ _ _ _ _ _ _ _ _ r2 m2 e2 r3 m3 e3 f6 c6 s6 k6 x6 wy h1 b4 b5;have⟨k4,j4,l4⟩:=b4.all;have⟨k5,j5,l5⟩:=b5.all;go_wp2;refine eJ (by simp[results,results75,go_sem,k4,k5];try rfl) rfl ?_;rw[eN.o];exact h1
section
variable {o:Oper}{a:Act}{base e n B k:Nat}{w w':Wd}{xs:List Va}{v:Va}{c:List Sv}
def GX:prog.underlying 214=a_ (.slice (prog.elem 214)):=kF
def ag0:prog.underlying 214=a_ (.slice 192):=kF
def XE:prog.elem 214=192:=kF
def Tryz.ahM:(prog.info? 192).map (λi=>(i.zero,i.size,i.bytes))=a_ (a_ .nilIface,1,16):=kF
def zc(ao:oA)(cp j:Nat):oA:=if cp=j then ao else ao.map (λa=>a.add (j * 1))
def adW(x y:Operand)(ao:oA)(n cp j:Nat)(ho:o.op=Op.slice 214 x c_ (a_ y) c_)(hx:a.eval x=sX ao n cp)(hy:a.eval y=I (j:Int))(h:j<=cp)(w:Wd):
  (execOp a.eval o).run prog w=.ok (.value (sX ao j cp)) w:=by
 have e:(Instr.sliceAt 214 (sX ao n cp) c_ (a_ (I (j:Int))) c_).run prog w=.ok (sX ao j cp) w:=by
  rw[zw _ _ _ _ _ _ GX,run_slice_h _ _ _ _ _ GX _ _ oM oM,XE,sizeOf192]
  cases ao <;> simp[Result.andThen,sliced,Addr.add]
 simp[execOp,ho,hx,hy,e,Result.andThen]
def adV(x y:Operand)(ao:oA)(n cp j:Nat)(ho:o.op=Op.slice 214 x (a_ y) c_ c_)(hx:a.eval x=sX ao n cp)(hy:a.eval y=I (j:Int))(h:j<=n)(hc:n<=cp)(w:Wd):
  (execOp a.eval o).run prog w=.ok (.value (sX (zc ao cp j) (n-j) (cp-j))) w:=by
 have e:(Instr.sliceAt 214 (sX ao n cp) (a_ (I (j:Int))) c_ c_).run prog w=.ok (sX (zc ao cp j) (n-j) (cp-j)) w:=by
  rw[zw _ _ _ _ _ _ GX,run_slice_l _ _ _ _ _ GX _ _ oM oM,XE,sizeOf192];simp only[Result.andThen,sliced,zc,qp]
 simp[execOp,ho,hx,hy,e,Result.andThen]
def VN(x:Operand)(v:Va)(ho:o.op=Op.move x)(hx:a.eval x=v)(w:Wd):(execOp a.eval o).run prog w=.ok (.value v) w:=by
 simp[execOp,ho,hx]
def acJ{r yo:Nat}{xo:oA}(h:w.ownsRow base e 1 (sX xo n yo) n xs)(hr:r<=n):w.ownsRow base e 1 (sX xo r yo) r (xs.take r):=by
 obtain⟨h1,h2⟩:=h;refine⟨by rw[jH];omega,?_⟩;rcases h2 with ⟨h2,h3⟩|⟨g,cap,cur,h2,h3,h4,h5,h6,h7,h8⟩
 ·injection h2 with a1 a2 a3
  subst a1 a2 a3;obtain rfl:r=0:=oM;exact .inl ⟨rfl,rfl⟩
 injection h2 with a1 a2 a3;subst a1 a3;refine .inr ⟨g,yo,cur,rfl,h3,h4,oM,h6,h7,?_⟩;rw[<- h8,Bp];congr 1
 omega
def aep(h:w.ownsRow base e 1 v n xs)(hb:Bl w w'):w'.ownsRow base e 1 v n xs:=by
 refine⟨h.1,?_⟩;rcases h.2 with h|⟨g,cap,cur,e,h1,h2,h3⟩
 ·exact .inl h
 exact .inr ⟨g,cap,cur,e,h1,(hb.block g (uB.1 h2).1).trans h2,h3⟩
def Vx(h:w.ownsRow base e 1 v n xs):∃xo yo,v=sX xo n yo/\n<=yo:=by
 rcases h.2 with ⟨e,h0⟩|⟨g,cp,cur,e,_,_,h,_⟩
 ·exact⟨c_,0,by rw[h0];exact e,oM⟩
 exact⟨_,_,e,h⟩
def qI(B:Nat)(w:Wd):List (Nd Sv)->List Va->Prop
 |[],[]=>True
 |t::st,v::rx=>ia B w t v/\qI B w st rx
 |_,_=>False
def qI.eG(hb:Below B w w'):∀{st:List (Nd Sv)}{rx:List Va},qI B w st rx->qI B w' st rx:=by
 intro st;induction st with
 |nil=>intro rx h;cases rx <;> exact h
 |cons t st ih =>
  intro rx h
  cases rx with
  |nil=>exact h
  |cons v rx=>exact⟨ia.eG hb h.1,ih h.2⟩
def qI.len:∀{st:List (Nd Sv)}{rx:List Va},qI B w st rx->rx.length=st.length:=by
 intro st;induction st with
 |nil=>intro rx h;cases rx with | nil=>rfl | cons v rx=>cases h
 |cons t st ih =>
  intro rx h
  cases rx with
  |nil=>cases h
  |cons v rx=>simp[ih h.2]
def qI.one:∀{st:List (Nd Sv)}{rx:List Va},qI B w st rx->∀v∈rx,v.oneCell'=b_:=by
 intro st;induction st with
 |nil=>intro rx h;cases rx with | nil=>intro v hv;cases hv | cons v rx=>cases h
 |cons t st ih =>
  intro rx h v hv
  cases rx with
  |nil=>cases h
  |cons u rx =>
   rcases qR.1 hv with rfl|hv
   ·obtain⟨T,p,rfl⟩:=h.1.iface
    rfl
   exact ih h.2 v hv
namespace Pl
def V'{α:Type}(ar:α->Nat):∀(c:List α)(s:α) (st:List (Nd α)),run ar (c++[s]) st=match run ar c st with | c_=>c_ | a_ js=>run ar [s] js:=by
 intro c;induction c with
 |nil=>intro s st;rfl
 |cons x c ih =>
  intro s st;simp only[qm,run];split
  ·exact ih s _
  split
  ·cases st with
   |nil=>rfl
   |cons y st=>exact ih s _
  match st with
  |[]=>rfl
  |[y]=>rfl
  |l::r::st=>exact ih s _
def afK{α:Type}(ar:α->Nat)(c:List α):∀(b:List α)(st:List (Nd α)),run ar c st=c_->run ar (c++b) st=c_:=by
 intro b;induction b generalizing c with
 |nil=>intro st h;rw[rU];exact h
 |cons s b ih =>
  intro st h;have:c++s::b=(c++[s])++b:=sI;rw[this];apply ih
  rw[V',h]
def afI{s:Sv}(h:c[k]? = a_ s){st:List (Nd Sv)}(hr:run ar (c.take k) []=a_ st):run ar (c.take (k+1)) []=run ar [s] st:=by
 rw[pB,h];show run ar (c.take k++[s]) []=_;rw[V',hr]
def afN(h:run ar (c.take k) []=c_):run ar c []=c_:=by
 have:=afK ar (c.take k) (c.drop k) [] h;rwa [vM] at this
def ahk:∀(c:List Sv)(st js:List (Nd Sv)),run ar c st=a_ js->js.length<=st.length+c.length:=by
 intro c;induction c with
 |nil=>intro st js h;simp only[run,kh] at h;rw[h];simp
 |cons s c ih =>
  intro st js h;simp only[run] at h;split at h
  ·have:=ih _ _ h;simp only[fW] at *;omega
  split at h
  ·cases st with
   |nil=>cases h
   |cons y st=>have:=ih _ _ h;simp only[fW] at *;omega
  match st,h with
  |[],h=>cases h
  |[y],h=>cases h
  |l::r::st,h=>have:=ih _ _ h;simp only[fW] at *;omega
end Pl
end
section
variable {o:Oper}{a:Act}
def acW(x:Operand)(v:Va)(ho:o.op=Op.assign x)(hx:a.eval x=v)(w:Wd):(execOp a.eval o).run prog w=.ok (.value v) w:=by
 simp[execOp,ho,hx]
def abV(x:Operand)(T:TypeId)(p:Va)(ho:o.op=Op.buildSlice 214 1 #[(0,x)])(hx:a.eval x=.iface T p)(w:Wd):(execOp a.eval o).run prog w=.ok (.value (sX (sY w.1.size 0) 1 1)) (w.alloc (.cells #[.iface T p] 192)):=by
 simp[execOp,ho,hx]
 go_simp
def acX(x y:Operand)(v u r:Va)(w w':Wd)(ho:o.op=Op.call { callee:=.builtin .append,args:=#[x,y],argTypes:=#[214,214] })(hx:a.eval x=v)(hy:a.eval y=u)(hr:(Builtin.append_ #[214,214] o.type #[v,u]).run prog w=.ok r w'):(execOp a.eval o).run prog w=.ok (.value r) w':=by
 simp[execOp,ho,hx,hy,resolve,invoke,builtin,hr,Result.andThen]
def acV(x:Operand)(b:Nat)(v0 v3 v4 v5:Int)(an:oA)(sn cn:Nat)(nm pR:bA)(w:Wd)(ho:o.op=Op.load 118 x)(hx:a.eval x=pT b)
  (d0:w.cell? (Y b 0)=a_ (I v0)) (d1:w.cell? (Y b 1)=a_ (sX an sn cn)) (d2:w.cell? (Y b 2)=a_ (.string nm)) (d3:w.cell? (Y b 3)=a_ (I v3)) (d4:w.cell? (Y b 4)=a_ (I v4)) (d5:w.cell? (Y b 5)=a_ (I v5)) (d6:w.cell? (Y b 6)=a_ (.string pR)) :
  (execOp a.eval o).run prog w=.ok (.value (.agg #[I v0,sX an sn cn,.string nm,I v3,I v4,I v5,.string pR])) w:=by
 have z80:=sizeOf118;have a80:=isAgg118;simp only[execOp,ho,hx];go_simp
end
def Vw{base e k:Nat}{w:Wd}{v:Va}{xs:List Va}(h:w.ownsRow base e 1 v (k+1) xs):∃g cap,v=.slice (a_ (Y g 0)) (k+1) cap:=by
 rcases h.2 with ⟨_,h0⟩|⟨g,cp,cur,e,_⟩
 ·exact absurd h0 oM
 exact⟨g,cp,e⟩
def aiv(c:List Sv)(w:Wd)(e:Ending)(w':Wd):Prop :=
 Below w.1.size w w'/\((∃t v,c.all Pl.fj=b_/\run Pl.ar c []=a_ [t]/\e=.returned (.tuple #[v,.bool b_])/\ia w.1.size w' t v)\/((∀t,¬(c.all Pl.fj=b_/\run Pl.ar c []=a_ [t]))/\e=.returned (.tuple #[.nilIface,.bool d_])))
def abF{base:Nat}(w:Wd)(ty:TypeId)(v:Va)(n:Nat)(xs:List Va)(h:w.ownsRow base 192 1 v n xs)(b:Nat)(x:Va)(hx:w.cell? (Y b 0)=a_ x)(h1:x.oneCell'=b_)(hn:n<=1048576)(hb:base<=w.1.size):
  ∃v' w',(Builtin.append_ #[214,214] ty #[v,.slice (a_ (Y b 0)) 1 1]).run prog w=.ok v' w'/\w'.ownsRow base 192 1 v' (n+1) (xs++[x])/\w.grownBy w' v.ownBlock:=by
 obtain⟨i0,hi,iC,gy,iS⟩:=info_parts Tryz.ahM;have⟨v',w',hr,ho,hg,_⟩:=PN (P:=prog) w base 214 ty 192 i0 .nilIface 1 16 ag0 hi iC gy iS rfl dC v n _ h (Y b 0) 1 1 [x] sI (by
   intro j y hj;match j,hj with
   |0,hj=>simp at hj;subst hj;rw[vN];exact hx
   |j+1,hj=>simp at hj)
  (by intro y hy;simp at hy;subst hy;exact h1) J8 oM hb
 exact⟨v',w',hr,ho,hg⟩
def Pl.tA(s:Pl.Sv):Nat:=if s.k=3 then 1 else if s.k=4 then 2 else 0
abbrev Rh(s:Sv)(an:Option Addr)(cn:Nat):Va:=.agg #[I s.k,.slice an s.eF.length cn,.string (Pl.ba s.nm),I s.fn.k,I s.fn.a,I s.fn.b,.string (Pl.ba s.fn.nm)]
def afu{B:Nat}{wo:Wd}(s:Sv)(an:Option Addr)(cn:Nat)(xo:Option Addr)(yo:Nat)(st:List (Nd Sv))(rx:List Va)(hB:B<=wo.1.size)(hs:Pl.fj s=b_)(hr:j' B wo an s.eF)(hS:qI B wo st rx)(hO:wo.ownsRow B 192 1 (.slice xo st.length yo) st.length rx.reverse)(hq:tA s<=st.length):
  ∃t js uK,run Pl.ar [s] st=a_ (t::js)/\js.length=st.length-tA s/\qI B wo js uK/\wo.ownsRow B 192 1 (.slice xo js.length yo) js.length uK.reverse/\∀w',Bl wo w'->Cp 173 #[Rh s an cn,.slice (zc xo yo js.length) (st.length-js.length) (yo-js.length)] w' λe w2=>(∃v,e=.returned v/\ia B w2 t v)/\Bl w' w2:=by
 have R7:st.length<=yo:=by have⟨_,_,e,h⟩:=Vx hO;injection e with _ _ e;omega
 have cut:∀a b uK,rx.reverse=uK++b->uK.length=a->a<=st.length->wo.ownsRow B 192 1 (.slice xo a yo) a uK:=λa b uK e h1 h2=>by
  have:=acJ (r:=a) hO h2;rwa [e,List.take_left' h1] at this
 have TM:∀(j:Nat)(v:Va),rx.reverse[j]? = a_ v->∃g,xo=a_ (Y g 0)/\g<wo.1.size/\wo.cell? (Y g j)=a_ v:=λj v hj=>by
  have hl:=hS.len;have h1:=(gQ.1 hj).1;rw[ld] at h1;have⟨m,hm⟩:∃m,st.length=m+1:=⟨st.length-1,oM⟩;rw[hm] at hO;have⟨g,cg,e⟩:=Vw hO;injection e with e1 e2 e3;subst e1;exact⟨g,rfl,(hO.lt g rfl).2,by rw[hO.cellAt j oM];exact hj⟩
 have hlo:∀g m,m<yo->xo=a_ (Y g 0)->zc xo yo m=a_ (Y g m):=λg m h1 e=>by
  subst e;unfold zc;rw[eB oM];show a_ (Addr.add (Y g 0) (m * 1))=_;rw[Ii,vN,gY]
 unfold tA at hq ⊢;rcases vt hs with hk|hk|hk|hk
 ·exact⟨.at s,st,rx,by simp[run,Pl.ar,hk],by simp[hk],hS,hO,λw' h=>UP s an cn _ _ _ (.inl hk) B w' (jT hB h.size) (hr.eG (h.mono hB))⟩
 ·exact⟨.at s,st,rx,by simp[run,Pl.ar,hk],by simp[hk],hS,hO,λw' h=>UP s an cn _ _ _ (.inr hk) B w' (jT hB h.size) (hr.eG (h.mono hB))⟩
 ·rw[eD hk] at hq ⊢
  match st,rx,hS with
  |[],_,_=>simp at hq
  |t::st,v::rx,hS =>
   have hl:=hS.2.len;have⟨g,e,hg,hc⟩:=TM st.length v (by rw[xF,oI (by simp[hl]),ld,hl];simp);refine⟨.one s t,st,rx,by simp[run,Pl.ar,hk],sI,hS.2,cut _ _ _ (xF ..) (by simp[hl]) sI,λw' h=>?_⟩;rw[hlo g _ (by simp at R7;omega) e,show (t::st).length-st.length=1 by simp];exact ab4 s t an cn g st.length _ v hk B w' (jT hB h.size) (jL hg h.size) ((h.cell (p:=(Y g st.length)) hg).trans hc) (ia.eG (h.mono hB) hS.1)
 rw[eB oM,eD hk] at hq ⊢;match st,rx,hS with
 |[],_,_=>simp at hq
 |[t],_,_=>simp at hq
 |t::u::st,v::x::rx,hS =>
  have hl:=hS.2.2.len;have e2:(v::x::rx).reverse=rx.reverse++[x,v]:=sI;have⟨g,e,hg,hc⟩:=TM st.length x (by rw[e2,oI (by simp[hl]),ld,hl];simp);have⟨g',e',_,mF⟩:=TM (st.length+1) v (by rw[e2,oI (by simp[hl]),ld,hl];simp);rw[e] at e';injection e' with e';injection e' with e';subst e';refine⟨.two s t u,st,rx,by simp[run,Pl.ar,hk],sI,hS.2.2,cut _ _ _ e2 (by simp[hl]) J2,λw' h=>?_⟩;rw[hlo g _ (by simp at R7;omega) e,show (t::u::st).length-st.length=2 by simp;omega];exact ab3 s t u an cn g st.length _ x v hk B w' (jT hB h.size) (jL hg h.size) ((h.cell (p:=(Y g st.length)) hg).trans hc) ((h.cell (p:=(Y g (st.length+1))) hg).trans mF) (ia.eG (h.mono hB) hS.2.1) (ia.eG (h.mono hB) hS.1)
def alm(s:Sv):tA s<=2:=by unfold tA;split;omega;split <;> omega
def ady(c:List Sv)(ao:Option Addr)(cap mb mo cp:Nat)(fJ:Small c)(w:Wd)(hm:Mt w mb mo cp)(hR:gf w.1.size w ao c):
  Cp 144 #[.slice ao c.length cap] w (aiv c w):=by
 have hlen:=fJ.len;have HG:Hid (∀k st,k<c.length->(c.take k).all Pl.fj=b_->run Pl.ar (c.take k) []=a_ st->st.length<=1048576/\∃(s:Sv)(b off:Nat) (an:Option Addr) (cn:Nat),ao=a_ (Y b off)/\(Pl.fj s=b_->(c.take (k+1)).all Pl.fj=b_)/\run Pl.ar (c.take (k+1)) []=run Pl.ar [s] st/\(Pl.fj s=d_\/run Pl.ar (c.take (k+1)) []=c_->∀t,¬(c.all Pl.fj=b_/\run Pl.ar c []=a_ [t]))/\∀w',Bl w w'->jE w.1.size w' b (off+k * 7) s an cn/\Cp 172 #[Rh s an cn] w' λe w2=>e=.returned (.bool (Pl.fj s))/\Bl w' w2):=λk st hk ha hr=>by
  rcases hR with rfl|⟨b,off,hb,rfl,hc⟩
  ·cases hk
  have hs:=fw hk;have uE:=lh hk;have⟨an,cn,h⟩:=hc k _ hs;refine⟨by have:=ahk _ _ _ hr;rw[jH] at this;simp only[iA] at this;omega,c[k],b,off,an,cn,rfl,λe=>by rw[all_succ hs,ha,e];rfl,afI hs hr,λe t ht=>?_,λw' hw=>?_⟩
  ·rcases e with e|e
   ·have:=ga.1 ht.1 _ uE
    rw[e] at this;cases this
   rw[afN e] at ht;cases ht.2
  have q:=h.eG hb hw;exact⟨q,adj _ an cn mb mo cp w' (hm.eG hw) (q.rd.up hw.size) (fJ.eF uE) (fJ.nm _ uE).1 (fJ.nm _ uE).2⟩
 have HE:Hid (∀st,(c.take c.length).all Pl.fj=b_->run Pl.ar (c.take c.length) []=a_ st->c.all Pl.fj=b_/\run Pl.ar c []=a_ st):=λst h1 h2=>by
  rw[km] at h1 h2;exact⟨h1,h2⟩
 clear hR fJ hm;generalize c.length=L at *;go_enter func144,ntmps144;go_wp2_with fail;go_loopw [4,11] (λsv iv wr=>∃(k n yo:Nat)(xo:Option Addr) (st:List (Nd Sv)) (rx:List Va),k<=L/\iv=I k/\sv=.slice xo n yo/\n<=yo/\yo<=9223372036854775807/\Hid ((c.take k).all Pl.fj=b_/\run Pl.ar (c.take k) []=a_ st/\st.length=n/\wr.ownsRow w.1.size 192 1 (.slice xo n yo) n rx.reverse/\qI w.1.size wr st rx)/\Hid (Bl w wr)) (λ_ iv _=>L-(intOf iv).toNat)
 case atStart=>exact⟨0,0,0,c_,[],[],vZ _,rfl,rfl,jR _,oM,⟨rfl,rfl,rfl,IE _ _ _ _,trivial⟩,jD _ _⟩
 rename Wd=>wo
 obtain⟨k,n,yo,xo,st,rx,hk,rfl,rfl,hny,R7,HH,BB⟩:=hrel;have qC:=BB.o.size;by_cases eI:k<L
 rotate_left 1
 ·obtain rfl:k=L:=oM
  have⟨h1,h2,h3,h4,h5⟩:=HH.o;have h6:=HE.o st h1 h2;by_cases h1:n=1
  ·subst h1
   match st,rx,h3,h5 with
   |[t],[v],_,h5 =>
    have⟨g,cg,e⟩:=Vw (k:=0) h4;injection e with e1 e2 e3;subst e1 e3;clear e2;have hc:wo.cell? (Y g 0)=a_ v:=by rw[h4.cellAt 0 oM];rfl
    have h7:=zH (jA h6 h5.1);obtain⟨Tv,pv,rfl⟩:=h5.1.iface;clear HG HE h2 h4 h5 h6 HH;go_wp2;go_ret2
    exact⟨BB.o,.inl ⟨t,_,h7.o.1.1,h7.o.1.2,rfl,h7.o.2⟩⟩
  have hn:=zH (show ∀t,¬(c.all Pl.fj=b_/\run Pl.ar c []=a_ [t]) from λt ht=>h1 (by have:=h6.2.symm.trans ht.2;injection this with this;rw[<- h3,this];rfl));have hn1:((n:Int) == 1)=d_:=by simp;omega
  clear HG HE h2 h4 h5 h6 h1 HH h3;go_wp2;go_ret2
  exact⟨BB.o,.inr ⟨hn.o,rfl⟩⟩
 have⟨ha,zE,hn,hO,hS⟩:=HH.o;obtain⟨eL,s,b,off,an,cn,rfl,nL,hru,sr,oT⟩:=HG.o k st eI ha zE;obtain⟨⟨c0,c1,c2,c3,c4,c5,c6,rD⟩,-⟩:=oT _ BB.o;have HT:Hid (Pl.fj s=b_->tA s<=n->_):=λh1 h2=>by
  have:=afu s an cn xo yo st rx qC h1 rD hS (by rw[hn];exact hO) (by rw[hn];exact h2);rw[hn] at this;exact this
 have HF:=zH (jA nL (jA hru sr));have K2:=zH λw' h=>(oT w' (BB.o.trans (ID h qC))).2;have KT:=zH λw'=>Vq s.k s.fn.k s.fn.a s.fn.b an s.eF.length cn (Pl.ba s.nm) (Pl.ba s.fn.nm) w';have hq:((if s.k=3 then 1 else if s.k=4 then 2 else 0:Int))=(tA s:Int):=by unfold tA;split;rfl;split <;> rfl
 rw[hq] at KT;have rm:=alm s;have HZ:Hid (Pl.fj s=b_->n<tA s->run Pl.ar [s] st=c_):=λh1 h2=>by
  rw[<- hn] at h2;rcases vt h1 with e|e|e|e <;> simp[tA,e] at h2
  ·simp[run,Pl.ar,e,h2]
  match st,h2 with
  |[],_=>simp[run,Pl.ar,e]
  |[_],_=>simp[run,Pl.ar,e]
  |_::_::_,h=>simp at h;omega
 have Lq:n<=1048576:=oM;clear ha zE hn hO hS nL hru sr oT HG HH rD hq eL;generalize tA s=q,Pl.fj s=gs at *;go_wp2_with fail;refine(KT.o _).k λw2 hb2=>?_;have B2:Bx w2 wo.1.size _ _:=.below (.eK rfl) hb2;replace hb2:=zH (bv (w:=wo) hb2);obtain⟨d2,f2,y2⟩:=B2.all;replace B2:=zH B2;clear c0 c1 c2 c3 c4 c5 c6 KT;go_wp2_with fail;refine(K2.o _ hb2.o).k λw3 eV=>?_;have B3:=B2.o.below eV;replace eV:=zH (bv eV hb2.o);have W3:=zH (BB.o.trans (eV.o.mono qC));clear d2 f2 y2 B2 hb2 K2
 cases gs
 ·have HN:=zH (HF.o.2.2 (.inl rfl))
  go_wp2;go_ret2
  exact⟨W3.o,.inr ⟨HN.o,rfl⟩⟩
 by_cases oP:n<q
 ·have HN:=zH (HF.o.2.2 (.inr (by rw[HF.o.2.1];exact HZ.o rfl oP)))
  have apE:(n:Int)<q:=oM;go_wp2;go_ret2
  exact⟨W3.o,.inr ⟨HN.o,rfl⟩⟩
 obtain⟨m,rfl⟩:∃m,n=m+q:=⟨n-q,oM⟩;have⟨t,js,uK,nH,uS,Cr,wu,mF⟩:=HT.o rfl oM;obtain rfl:js.length=m:=oM;have Tf:decide (((js.length+q:Nat):Int)<(q:Int))=d_:=fH oM;have HX:=zH (jA nH (jA Cr (jA wu mF)));clear HT HZ nH uS Cr wu mF oP;generalize hml:js.length=m at *;go_wp2_with fail;refine Bi (S:=λ_=>True) kF ?_;change wpAnyH _ _ _ _ _ _ _ _ (World.drew _);have B4:Bx w3.drew wo.1.size _ 118:=B3;have b4:Bl wo w3.drew:=eV.o.drew;generalize World.drew w3=wd at B4 b4 ⊢;clear eV W3 B3;refine tk 0 (.slice xo (m+q) yo) rfl trivial (λ_ _=>kF) ?_;refine tk 1 (I (m:Int)) rfl trivial (λw' _=>VN (.tmp 8) (I (m:Int)) rfl rfl w') ?_;refine tk 2 (.slice xo m yo) rfl trivial (λw' _=>adW (.tmp 30) (.tmp 31) xo (m+q) yo m rfl rfl rfl oM w') ?_;refine tk 4 (.slice xo (m+q) yo) rfl trivial (λ_ _=>kF) ?_;refine tk 5 (I (m:Int)) rfl trivial (λw' _=>VN (.tmp 8) (I (m:Int)) rfl rfl w') ?_;refine tk 6 (.slice (zc xo yo m) (m+q-m) (yo-m)) rfl trivial (λw' _=>adV (.tmp 34) (.tmp 35) xo (m+q) yo m rfl rfl rfl oM oM w') ?_;refine tv 3 (Rh s an cn) wd rfl rfl (acV (.tmp 6) wo.1.size s.k s.fn.k s.fn.a s.fn.b an s.eF.length cn (Pl.ba s.nm) (Pl.ba s.fn.nm) wd rfl kF (B4.cf.1 0) (B4.cf.1 1) (B4.cf.1 2) (B4.cf.1 3) (B4.cf.1 4) (B4.cf.1 5) (B4.cf.1 6)) trivial ?_;refine tc 7 _ _ rfl rfl kF ((HX.o.2.2.2 _ b4).mono ?_);rintro e w4 ⟨⟨v,rfl,hv⟩,fZ⟩;refine .inl ⟨_,rfl,trivial,?_⟩;obtain⟨Tv,pv,rfl⟩:=hv.iface;replace b4:=bv fZ b4;have C5:=(Bx.new w4 #[.iface Tv pv] 192).cf.1 0;have b5:Bl w4 (w4.alloc (.cells #[.iface Tv pv] 192)):=gG;refine tv 8 (.slice (a_ (Y w4.1.size 0)) 1 1) (w4.alloc (.cells #[.iface Tv pv] 192)) rfl rfl (abV (.tmp 37) Tv pv rfl kF w4) trivial ?_;have W5:=BB.o.trans ((bv b5 b4).mono qC);have O5:=aep HX.o.2.2.1 (bv b5 b4);have⟨v',w6,hr6,Lo,SO⟩:=abF (base:=w.1.size) _ 116 (.slice xo m yo) m _ O5 w4.1.size (.iface Tv pv) C5 rfl oM W5.size;have B6:=zH (W5.grown SO W5.size (λk hk=>(O5.lt k hk).1));have Bw:Below w.1.size (w4.alloc (.cells #[.iface Tv pv] 192)) w6:=(jD _ _).grown SO W5.size (λk hk=>(O5.lt k hk).1);obtain⟨x6,y6,rfl,hy6⟩:=Vx Lo;have hy7:y6<=9223372036854775807:=by
  rcases Lo.2 with ⟨e,_⟩|⟨g,cp,cur,e,_,_,_,h,_⟩ <;> injection e with _ _ e
  ·omega
  unfold maxLen at h;omega
 refine tv 9 (.slice x6 (m+1) y6) w6 rfl rfl (acX (.tmp 32) (.tmp 38) (.slice xo m yo) (.slice (a_ (Y w4.1.size 0)) 1 1) _ _ w6 rfl kF kF hr6) trivial ?_;refine tk 10 (.slice x6 (m+1) y6) rfl trivial (λw' _=>acW (.tmp 39) (.slice x6 (m+1) y6) rfl kF w') (te ?_);have HH:Hid ((c.take (k+1)).all Pl.fj=b_/\run Pl.ar (c.take (k+1)) []=a_ (t::js)/\(t::js).length=m+1/\w6.ownsRow w.1.size 192 1 (.slice x6 (m+1) y6) (m+1) (.iface Tv pv::uK).reverse/\qI w.1.size w6 (t::js) (.iface Tv pv::uK)) :=
  ⟨HF.o.1 trivial,HF.o.2.1.trans HX.o.1,by rw[fW,hml],by rw[xF];exact Lo,ia.eG Bw (ia.eG (b5.mono (by have:=b4.size;omega)) hv),qI.eG Bw (qI.eG ((bv b5 b4).mono qC) HX.o.2.1)⟩
 clear hr6 Lo SO O5 W5 Bw C5 b5 hv fZ b4 B4 HX HF;go_simp;go_wp2;go_roundw
 case rel=>exact⟨k+1,m+1,y6,x6,_,_,oM,gN,rfl,hy6,hy7,HH,B6⟩
 simp[intOf];omega
end Go.Proofs.YtiagfejlmafliaaGreatDoor
