import Derived.Test.YtiagfejlmafliaaGreatDoorRl
namespace Go.Proofs.YtiagfejlmafliaaGreatDoor
set_option linter.all false
open Go.Proofs.Tryz Pl
open Go.RowKit
set_option maxRecDepth 100000
set_option maxHeartbeats 16000000
open Pl (Ar)
open World renaming setCell->ez,alloc->ew
open List renaming range->eA,replicate->eE
open Option renaming some->a_,none->c_
open Bool renaming true->b_,false->d_
def oO(n:Nat):Code->Option Code
 |.region k o b=>if k=n then a_ (.region k o b) else c_
 |.seq a b=>match oO n a with
  |some c=>a_ c
  |none=>oO n b
 |.cond _ a b=>match oO n a with
  |some c=>a_ c
  |none=>oO n b
 |.block _ c=>oO n c
 |.loop c=>oO n c
 |.scope c=>oO n c
 |_=>c_
def ag1{K:Ks}{P:nK}{w W0:Wd}{u:UV}{c4:aV}{rr:Pl.Rs}{mf mc ms lf lc ls:Int}{lr:Bool}{n cp b o i j:Nat}(hi:(i:Int)<=1048576)(hj:j<=1048576)(F0:Fe w (fA mf mc ms 0 0) (uC ⟨lf,lc,lr,ls⟩ u) c4 nN nN W0)
  (HS:∀W,Bl w W->Cp 67 #[sX (sY b o) n cp,I ((i:Int)-1)] W λe w'=>e=rT (I (j:Int))/\w'=W)
  (IH:∀W,Bl w W->Cp 49 #[eW mf mc ms 0 0,uV ⟨lf,lc,lr,ls⟩ u,sX (sY b o) n cp,I ((j:Int)-1)] W (EPost K P W rr))
  {K' K1:Act->Wd->Prop} {Q:Ending->Wd->Prop} {t0 t1 t6 t7 t8 t9 cA di b8 dO c8 bQ cB dV de dM dJ dg dX ca bO bR ci dl cG dL dH cY bV dG cV d9 dR dW bY dY dw bT cJ dI cC bN dS bW cX dh cz d8 dP dQ cw cO cZ dT dk cP ch dr bM cD dN cK dv cF dA cQ dc cq bP cE cS bS dF dp cg cT dK dU ce cu cU cM du bf bg aX aw a7 aB bF aL aF aO ap bA av bj bi aK bD a8 aj a9 bB aq au bh aE bC be aJ bz aC az ad bH bL bJ a3 bk bu aY aa bw aP bI aA aZ aN ab bG bq aM aT a6 ag aH aD aR aU a5 aI aW bE br ac bK bc af am aS aQ ai ae aG ah ak cW dD cr cc cN cI dq ct dj dZ cL bX:Va}
  (HK:∀(dn co ck cm dE cH cR cj bU dB c9 dm:Va)(a0:oA) (n0 c0:Nat) (a1:oA) (n1 c1:Nat) (f5 c5 s5 k5 x5:Int) (w1:Wd),EPost K P W0.drew rr (rT (.tuple #[.agg #[sX a0 n0 c0,sX a1 n1 c1],eW f5 c5 s5 k5 x5])) w1->Exit.then K' (Exit.then K1 (bodyPost prog Tryz.f49 Q)) .normal { tmps:=#[t0,t1,sX (sY b o) n cp,I (i:Int),pT w.1.size,pT (w.1.size+1),t6,t7,t8,t9,cA,pT (w.1.size+1+1+1+1+1),di,b8,dO,c8,bQ,cB,dV,de,dM,dJ,dg,dX,ca,bO,bR,ci,dl,cG,dL,dH,cY,bV,dG,cV,d9,dR,dn,co,ck,cm,dE,cH,cR,cj,bU,dB,c9,dm,dW,bY,dY,dw,bT,cJ,dI,cC,bN,dS,bW,cX,dh,cz,d8,dP,dQ,cw,cO,cZ,dT,dk,cP,ch,dr,bM,cD,dN,cK,dv,cF,dA,cQ,dc,cq,bP,cE,cS,bS,dF,dp,cg,cT,dK,dU,ce,cu,cU,cM,du,bf,bg,aX,aw,a7,aB,bF,aL,aF,aO,ap,bA,av,bj,bi,aK,bD,a8,aj,a9,bB,aq,au,bh,aE,bC,be,aJ,bz,aC,az,ad,bH,bL,bJ,a3,bk,bu,aY,aa,bw,aP,bI,aA,aZ,aN,ab,bG,bq,aM,aT,a6,ag,aH,aD,aR,aU,a5,aI,aW,bE,br,ac,bK,bc,af,am,aS,aQ,ai,ae,aG,ah,ak],defers:=[] } (((((((w1.setCell (Y (w.1.size+1+1+1+1+1) 0) (sX a0 n0 c0)).setCell (Y (w.1.size+1+1+1+1+1) 1) (sX a1 n1 c1)).setCell (Y w.1.size 0) (I f5)).setCell (Y w.1.size 1) (I c5)).setCell (Y w.1.size 2) (I s5)).setCell (Y w.1.size 3) (I k5)).setCell (Y w.1.size 4) (I x5))) :
  Code.wp prog ((oO 7 (Tryz.f49.body.getD .skip)).getD .skip) (Exit.then K' (Exit.then K1 (bodyPost prog Tryz.f49 Q))) { tmps:=#[t0,t1,sX (sY b o) n cp,I (i:Int),pT w.1.size,pT (w.1.size+1),t6,t7,t8,t9,cA,pT (w.1.size+1+1+1+1+1),di,b8,dO,c8,bQ,cB,dV,de,dM,dJ,dg,dX,ca,bO,bR,ci,dl,cG,dL,dH,cY,bV,dG,cV,d9,dR,cW,dD,cr,cc,cN,cI,dq,ct,dj,dZ,cL,bX,dW,bY,dY,dw,bT,cJ,dI,cC,bN,dS,bW,cX,dh,cz,d8,dP,dQ,cw,cO,cZ,dT,dk,cP,ch,dr,bM,cD,dN,cK,dv,cF,dA,cQ,dc,cq,bP,cE,cS,bS,dF,dp,cg,cT,dK,dU,ce,cu,cU,cM,du,bf,bg,aX,aw,a7,aB,bF,aL,aF,aO,ap,bA,av,bj,bi,aK,bD,a8,aj,a9,bB,aq,au,bh,aE,bC,be,aJ,bz,aC,az,ad,bH,bL,bJ,a3,bk,bu,aY,aa,bw,aP,bI,aA,aZ,aN,ab,bG,bq,aM,aT,a6,ag,aH,aD,aR,aU,a5,aI,aW,bE,br,ac,bK,bc,af,am,aS,aQ,ai,ae,aG,ah,ak],defers:=[] } W0:=by
 conv=>arg 2;whnf
 have wi:IntKind.i64.wrap ((i:Int)-1)=(i:Int)-1:=by rw[lj];omega
 have wj:IntKind.i64.wrap ((j:Int)-1)=(j:Int)-1:=by rw[lj];omega
 rw[<- wi] at HS;rw[<- wj] at IH;clear wi wj hi hj;replace IH:=zH IH;replace HS:=zH HS;replace HK:=zH HK;have Bl:=zH F0.bl;replace F0:=zH F0;obtain⟨d0,f0,z0⟩:=F0.o.b0.all;obtain⟨d1,f1,z1⟩:=F0.o.b1.all;have⟨d5,h5,z5⟩:=F0.o.b5.all;go_region_with (first | (go_at_call 67;with_reducible refine(HS.o _ Bl.o.drew).mono ?_;rintro e w1 ⟨rfl,rfl⟩) | (go_at_call 49;refine(IH.o _ Bl.o.drew).mono ?_;rintro e w1 hp;obtain⟨a0,n0,c0,a1,n1,c1,f5,c5,s5,k5,x5,rfl⟩:=hp.form;have F1:=zH (F0.o.call (iq hp.1));have HP:=zH hp;clear d0 f0 z0 d1 f1 z1 d5 h5 z5 hp;have⟨d0,g0,z0⟩:=F1.o.b0.all;have⟨d5,g5,z5⟩:=F1.o.b5.all))
 all_goals exact HK.o _ _ _ _ _ _ _ _ _ _ _ _ _ _ _ _ _ _ _ _ _ _ _ _ HP.o
end Go.Proofs.YtiagfejlmafliaaGreatDoor
