import Derived.Test.YtiagfejlmafliaaGreatDoorWk
import Derived.Test.YtiagfejlmafliaaGreatDoorPx
import Derived.Test.YtiagfejlmafliaaGreatDoorPPe
import Derived.Test.YtiagfejlmafliaaGreatDoorCards
import Derived.Test.YtiagfejlmafliaaGreatDoorTie
import Derived.Shelf.Vars
import Derived.RowKitTokens
import Derived.Stop.Joined
namespace Go.Proofs.YtiagfejlmafliaaGreatDoor
set_option linter.all false
open Go.Proofs.Tryz Pl
open Go.RowKit
set_option maxRecDepth 100000
set_option maxHeartbeats 16000000
open Pl (Ar)
open World renaming setCell->ez,alloc->ew
open List renaming range->eA,replicate->eE
open Option renaming some->a_,none->c_
open Bool renaming true->b_,false->d_
def afL{K:Ks}{L:Lm}{w W2:Wd}{r:Pl.Rs}{Z n cp:Nat}{ap:oA}{p:List Pl.Tv}{m0:Ms}{G0:Gb}{ns0 Rd fs0:Va}(hZ:w.1.size+3<=Z)(hn:n<=1000000)(Ch:p.length=n)(hp:∀s∈p,TS s)(hx:XP w.1.size w ap p)(h0:CN L K r p 0 G0 c_ m0 m0.s 0 0)(w0:Lw K L w Z G0 G0.ns c_ m0 m0.s 0 0 ns0 Rd fs0 (nJ) (nJ) W2)
  (KW:∀(W:Wd)(G:Gb) (ns vs fs:Va) (m:Ms) (c:List Sv) (ac:oA) (cp:Nat) {wr:Wd},Bl wr W->Gs True K w.1.size (Z+3) (Z+2) wr G.ns G.ns G.fs ns vs fs->G.ns.length<=1048576->G.fs.length<=1048576->n6 c->gf w.1.size W ac c->gL m->Cp 23 #[eW m.f m.c m.s 0 0,uV L (uR ns vs fs),sX ac c.length cp] W (EPost K (Pg w.1.size (Z+3) ns vs fs wr) W (top K.k1 K.k2 L G c m)))
  {K0:Act->Wd->Prop} {Q:Ending->Wd->Prop} {eb eo dA bK ca bH aT cm a9 aW bN a6 bR ct bI cC cG bE a3 aX cJ cV bD cq bB cU cH cr aQ cS cP ce bf cD a7 bM bc bJ cK bY bh br cA be ck a5 bk cM aR aZ bi cu bC cF cw bS bX co bz cN bT aS bA bO a8 cT cB cO cI cz aU bj bU bL aY bu cE cg cc ch aV bG ci cR cQ bV cj bF bW bg bw ag aK ai aM ae ah aB aN am aL aH ad aw aq ab az aa au aF af aD aj ak aC aJ aP aA aE aI aG aO:Va}
  (HX:∀(k:Nat)(G:Gb) (vo:Option Ar) (m:Ms) (s5 kk xx:Int) (ns vs fs:Va) (x0 x1:oA) (p0 q0 p1 q1:Nat) (wr:Wd) (eg cW dk di dj ej dw dL dg cY ei dT ea dK ed dJ dD cZ dQ ec dP du eq dq et dH dO dR cX c9 de dX dS ep dM em ew dv dI dV dB c8 dN eh dG dF dn en dc dp dE dY ef ee dZ ek dr dl er dW dm dU dh:Va),k<=n->(k=n\/¬kk=0)->CN L K r p k G vo m s5 kk xx->Lw K L w Z G G.ns vo m s5 kk xx ns vs fs (sX x0 p0 q0) (sX x1 p1 q1) wr->K0 { tmps:=#[sX ap n cp,eb,eo,dA,pT w.1.size,pT (w.1.size+1),pT (w.1.size+2),pT Z,pT (Z+1),pT (Z+2),.bool vo.isSome,I (k:Int),eg,cW,bH,aT,cm,a9,aW,bN,a6,bR,ct,bI,cC,cG,bE,a3,aX,cJ,cV,bD,cq,bB,cU,cH,cr,aQ,cS,dk,di,dj,ej,dw,dL,dg,cY,ei,dT,ea,dK,ed,dJ,dD,cZ,dQ,ec,dP,du,eq,dq,et,dH,dO,dR,cX,c9,de,dX,dS,ep,dM,em,ew,dv,dI,dV,dB,c8,dN,eh,dG,dF,dn,en,dc,dp,dE,dY,ef,ee,dZ,ek,dr,dl,er,dW,dm,dU,dh,ag,aK,ai,aM,ae,ah,aB,aN,am,aL,aH,ad,aw,aq,ab,az,aa,au,aF,af,aD,aj,ak,aC,aJ,aP,aA,aE,aI,aG,aO],defers:=[] } wr) :
  Code.wp prog ((xX (Tryz.f6.body.getD .skip)).getD .skip) (Exit.inBlock 0 (Exit.then K0 (bodyPost prog Tryz.f6 Q))) { tmps:=#[sX ap n cp,eb,eo,dA,pT w.1.size,pT (w.1.size+1),pT (w.1.size+2),pT Z,pT (Z+1),pT (Z+2),.bool d_,I 0,bK,ca,bH,aT,cm,a9,aW,bN,a6,bR,ct,bI,cC,cG,bE,a3,aX,cJ,cV,bD,cq,bB,cU,cH,cr,aQ,cS,cP,ce,bf,cD,a7,bM,bc,bJ,cK,bY,bh,br,cA,be,ck,a5,bk,cM,aR,aZ,bi,cu,bC,cF,cw,bS,bX,co,bz,cN,bT,aS,bA,bO,a8,cT,cB,cO,cI,cz,aU,bj,bU,bL,aY,bu,cE,cg,cc,ch,aV,bG,ci,cR,cQ,bV,cj,bF,bW,bg,bw,ag,aK,ai,aM,ae,ah,aB,aN,am,aL,aH,ad,aw,aq,ab,az,aa,au,aF,af,aD,aj,ak,aC,aJ,aP,aA,aE,aI,aG,aO],defers:=[] } W2:=by
 conv=>arg 2;whnf
 dsimp only;have HP:=zH hp;have HXx:=zH hx;replace KW:=zH KW;replace HX:=zH HX;replace h0:=zH h0;replace w0:=zH w0;replace Ch:=zH Ch;go_loopw [10,11] (λhv i wr=>∃(k:Nat)(G:Gb) (vo:Option Ar) (m:Ms) (s5 kk xx:Int) (ns vs fs:Va) (x0 x1:oA) (p0 q0 p1 q1:Nat),i=I (k:Int)/\hv=.bool vo.isSome/\k<=n/\Hid (CN L K r p k G vo m s5 kk xx)/\Hid (Lw K L w Z G G.ns vo m s5 kk xx ns vs fs (sX x0 p0 q0) (sX x1 p1 q1) wr)) (λ_ i _=>n-(intOf i).toNat)
 case atStart=>exact⟨0,G0,c_,m0,m0.s,0,0,ns0,Rd,fs0,c_,c_,0,0,0,0,rfl,rfl,vZ _,h0,w0⟩
 obtain⟨k,G,vo,m,s5,kk,xx,ns,vs,fs,x0,x1,p0,q0,p1,q1,rfl,rfl,hk,hl,hw⟩:=hrel;obtain⟨mf,mc,ms⟩:=m;obtain⟨d8,f8,z8⟩:=hw.o.b8.all;by_cases eL:k=n\/¬kk=0
 ·have aoO:=zH eL
  by_cases fK:k=n
  ·have ji:¬(k:Int)<(n:Int):=oM
   exact Ν
  have ji:(k:Int)<(n:Int):=oM;have vX:¬kk=0:=eL.resolve_left fK;exact Ν
 have⟨fK,vX⟩:¬k=n/\kk=0:=by
  constructor
  ·exact λe=>eL (.inl e)
  exact Decidable.byContradiction λe=>eL (.inr e)
 subst vX;obtain⟨hm,lF,kO,hor⟩:=hl.o;obtain⟨rfl,hs5,hr⟩:xx=0/\s5=ms/\r=iP K.k1 K.k2 L (p.drop k) G vo ⟨mf,mc,ms⟩:=by
  rcases hor with ⟨_,h1,h2,h3⟩|⟨h,_⟩
  ·exact⟨h1,h2,h3⟩
  exact absurd rfl h
 subst hs5;have eI:(k:Int)<(n:Int):=oM;have iT:k<p.length:=by rw[Ch.o];omega
 have⟨s,iF⟩:∃s,p[k]? = a_ s:=⟨_,fw iT⟩;have tN:p.drop k=s::p.drop (k+1):=by
  exact Qj
 have tJ:=zH (HP.o s (my iF));rw[tN,Wh] at hr;replace hr:=zH hr;replace hm:=zH hm;obtain⟨bp,op,rfl,rk,a1,c1,a2,c2,t0,t1,t2,t3,xs,xg⟩:∃bp op,ap=sY bp op/\bp<w.1.size/\QT (λb=>b<w.1.size) wr bp (op+k * 4) s:=by
  rcases XP.eG HXx.o hw.o.bl with h|⟨b,o,h1,h2,h3⟩
  ·rw[h] at iF;simp at iF
  exact⟨b,o,h2,h1,h3 k s iF⟩
 have sB:=hw.o.bl.size;have Ed:bp<wr.1.size:=oM;replace xs:=zH xs;replace xg:=zH xg;by_cases iT:s.k=3
 ·rw[eD iT] at hr
  have e3:(s.k == 3)=b_:=uy.2 iT;have S':=zH (tJ.o.2.2 iT);go_wp2_with fail;refine alv hZ hn eI lF kO rk ⟨t0,t1,t2,t3⟩ xs.o xg.o S'.o hw.o (by intro d v c a w h;cases d <;> exact h) ?_;intro _ _ _ _ _ _ _ _ _ Ad wy Cf kb _;have HN:=zH Cf;have HL:Hid (CN L K r p (k+1) ⟨G.ns,G.fs++[s]⟩ vo ⟨mf,mc,s5⟩ s5 0 0):=⟨hm.o,by show G.ns.length<=_;omega,by show (G.fs++[s]).length<=_;simp;omega,.inl ⟨rfl,rfl,rfl,hr.o⟩⟩;go_wp2;go_roundw
  case rel=>exact⟨k+1,_,vo,⟨mf,mc,s5⟩,s5,0,0,ns,vs,Ad,x0,x1,p0,q0,p1,q1,gN,rfl,oM,HL,HN⟩
  simp[intOf];omega
 rw[eB iT] at hr;have e3:(s.k == 3)=d_:=gR.2 iT;go_wp2_with fail;have jS:=tJ.o.2.1;have HPg:∀b,Pg w.1.size (Z+3) ns vs fs wr b->b<wr.1.size:=λb hb=>hb.1;have KT:∀W,Bl wr W->Cp 23 #[eW mf mc s5 0 0,uV ⟨L.f,L.c,L.r,L.s⟩ (uR ns vs fs),sX a1 s.code.length c1] W (EPost K (Pg w.1.size (Z+3) ns vs fs wr) W (top K.k1 K.k2 L G s.code ⟨mf,mc,s5⟩)):=λW kb=>KW.o W G ns vs fs ⟨mf,mc,s5⟩ s.code a1 c1 kb (hw.o.gs.I6 λ_=>rfl) oM oM jS (XL.Ea (XS.eG xs.o (kb.mono sB))) hm.o;refine ahj HPg eI hn oM hw.o.b8 hw.o.b7 t2 KT ?_;intro _ _ _ _ _ _ _ _ _ _ _ bq bs a0 n0 c0 L7 n1 yz f5 c5 vP k5 x5 wy hE bP bQ lp lq;generalize top K.k1 K.k2 L G s.code ⟨mf,mc,s5⟩=rr at hr hE;obtain⟨hb,oQ,rfl,rfl,av,ro,hor⟩:=hE.dec;have h1:=zH (hw.o.below hb);have hks:cL wy bp (op+k * 4) (I s.k):=(hb.cell (p:=(Y bp _)) Ed).trans t0;have ks:Hid (∀W,Below w.1.size wr W->cL W bp (op+k * 4) (I s.k)/\cL W bp (op+k * 4+1) (.string (Pl.ba s.nm))/\cL W bp (op+k * 4+2) (sX a1 s.code.length c1)/\cL W bp (op+k * 4+3) (sX a2 s.gs.length c2)):=λW kb=>⟨(kb.cell (p:=(Y bp _)) rk).trans t0,(kb.cell (p:=(Y bp _)) rk).trans t1,(kb.cell (p:=(Y bp _)) rk).trans t2,(kb.cell (p:=(Y bp _)) rk).trans t3⟩;have h2:=zH (h1.o.next hZ rr.2 vP k5 x5);have lz1:=hw.o.b9.lt;have gk:=U3 wy (Z+1) (I rr.2.f) (I rr.2.c) (I vP) (I k5) (I x5);have Lc:Hid (Below w.1.size wr (((((wy.setCell (Y (Z+1) 0) (I rr.2.f)).setCell (Y (Z+1) 1) (I rr.2.c)).setCell (Y (Z+1) 2) (I vP)).setCell (Y (Z+1) 3) (I k5)).setCell (Y (Z+1) 4) (I x5))):=(hb.mono sB).trans (qd gk oM (by have:=hb.size;omega));have TQ:Hid (Bx (((((wy.setCell (Y (Z+1) 0) (I rr.2.f)).setCell (Y (Z+1) 1) (I rr.2.c)).setCell (Y (Z+1) 2) (I vP)).setCell (Y (Z+1) 3) (I k5)).setCell (Y (Z+1) 4) (I x5)) bq _ 30):=bP.eX (gk.block _ bP.lt J2);have ro5:Hid (k5=0->RO K (Pg w.1.size (Z+3) ns vs fs (((((wy.setCell (Y (Z+1) 0) (I rr.2.f)).setCell (Y (Z+1) 1) (I rr.2.c)).setCell (Y (Z+1) 2) (I vP)).setCell (Y (Z+1) 3) (I k5)).setCell (Y (Z+1) 4) (I x5))) (((((wy.setCell (Y (Z+1) 0) (I rr.2.f)).setCell (Y (Z+1) 1) (I rr.2.c)).setCell (Y (Z+1) 2) (I vP)).setCell (Y (Z+1) 3) (I k5)).setCell (Y (Z+1) 4) (I x5)) (sX a0 n0 c0) (sX L7 n1 yz) av):=λh=>by
  obtain⟨zs,ov,-⟩:=hw.o.gs.ov;obtain⟨ys,of,-⟩:=hw.o.gs.of;have on:=hw.o.gs.on;have qs:=hw.o.gs.qs;refine(((ro h).mono (Q:=Pg w.1.size (Z+3) ns vs fs wy) λb hb' hl=>?_).kp (np gk λc hc e=>by injection e with e;have:=hc.2.1;omega)).mono λb hb hl=>⟨hl,hb.2⟩;rcases hb' with hb'|hb'
  ·exact⟨hl,hb'.2⟩
  exact⟨hl,.inr oM,λe=>by have:=(on.lt b e).2;omega,λe=>by have:=(ov.lt b e).2;omega,λe=>by have:=(of.lt b e).2;omega⟩
 have aaN:Hid (∀G' Re,G'.ns.length<=k+1+1->G'.fs.length<=k+1->(k5=0->r=iP K.k1 K.k2 L (p.drop (k+1)) G' Re rr.2)->CN L K r p (k+1) G' Re rr.2 vP k5 x5):=λG' Re l1 l2 h=>by
  refine⟨oQ,l1,l2,?_⟩;rcases hor with ⟨e1,e2,e3,_⟩|⟨e1,e2⟩
  ·exact .inl ⟨e1,e2,e3,h e1⟩
  refine .inr ⟨e1,?_⟩;rw[hr.o,e2];exact rfl
 have pM:Hid (k5=0->r=if s.k=2 then iP K.k1 K.k2 L (p.drop (k+1)) ⟨G.ns++[(s.nm,av)],G.fs⟩ vo rr.2 else iP K.k1 K.k2 L (p.drop (k+1)) G (a_ av) rr.2):=λh=>by
  rcases hor with ⟨e1,e2,e3,e4⟩|⟨e1,e2⟩
  ·rw[hr.o,e4];exact rfl
  exact absurd h e1
 obtain⟨d13,f13,z13⟩:=bQ.all;have⟨d8',f8',z8'⟩:=h1.o.b8.all;have nz:¬bs=Z+1:=oM;have n2:¬bp=Z+1:=oM;have H9:=zH h1.o.b9;by_cases ji:s.k=2
 rotate_left 1
 ·have e2:(s.k == 2)=d_:=gR.2 ji
  simp only[eB ji] at pM;obtain⟨d12,f12,z12⟩:=bP.all;obtain⟨d9,f9,z9⟩:=H9.o.all;have n3:¬bq=Z+1:=oM;have n4:¬bq=Z+2:=oM;have HN:=zH (h2.o.last hZ (sX a0 n0 c0) (sX L7 n1 yz) av ro5.o);have HL:=zH (aaN.o G (a_ av) oM oM pM.o);go_wp2;go_roundw
  case rel=>exact⟨k+1,_,a_ av,rr.2,vP,k5,x5,ns,vs,fs,a0,L7,_,_,_,_,gN,rfl,oM,HL,HN⟩
  simp[intOf];omega
 have e2:(s.k == 2)=b_:=uy.2 ji;simp only[eD ji] at pM;go_wp2_with fail;rename_i KK EM
 have⟨kt0,kt1,kt2,kt3⟩:=ks.o _ Lc.o;refine alu hZ hn eI lF kO rk ⟨kt0,kt1,kt2,kt3⟩ (XS.eG xs.o Lc.o) (XG.eG xg.o Lc.o) trivial av h2.o (by intro d v c a w h;cases d <;> exact h) ?_;intro _ _ _ _ _ _ _ _ _ _ xW wz hz kz yi;have on:=h2.o.gs.on;have l5:=TQ.o.lt;have bPz:=TQ.o.eX (yi.1 bq l5 oM (jW on TQ.o dC));have roz:k5=0->RO K (Pg w.1.size (Z+3) xW vs fs wz) wz (sX a0 n0 c0) (sX L7 n1 yz) av:=λh=>by
  refine((ro5.o h).kp ⟨kz.size,λb hb hl=>yi.1 b hl (by have:=hb.2.1;omega) hb.2.2.1⟩).mono λb hb hl=>⟨hl,hb.2.1,yi.2 b hb.1 hb.2.2.1,hb.2.2.2⟩
 have Uo:=zH hz;have BPz:=zH bPz;have ROz:=zH roz;show KK _ _;refine EM _ _ ?_;refine als hZ oM (s.nm,av) BPz.o ROz.o Uo.o ?_;intro _ _ _ _ _ _ BK wq Cg kq;have HN:=zH Cg;have HL:=zH (aaN.o ⟨G.ns++[(s.nm,av)],G.fs⟩ vo J2 (by show G.fs.length<=_;omega) pM.o);dsimp only;go_wp2;go_roundw
 case rel=>exact⟨k+1,_,vo,rr.2,vP,k5,x5,xW,BK,fs,x0,x1,p0,q0,p1,q1,gN,rfl,oM,HL,HN⟩
 simp[intOf];omega
section
section
variable {K:Ks} {w w3:Wd} {L:Pl.Lm} {x0 x1:oA} {m0 y0 m1 y1:Nat} {a:Ar}
def aeh(kb:Bl w w3)(b6:Bx w3 (w.1.size+2) #[I 0,I 0,nJ,nJ,I 0,I 0] 32)(ro:RO K (λb=>b<w.1.size) w (sX x0 m0 y0) (sX x1 m1 y1) a):Lw K L w (w3.1.size+3) ⟨[([119],a)],[]⟩ [([119],a)] c_ ⟨0,0,L.s⟩ L.s 0 0 (sX (sY w3.1.size 0) 1 1) (sX (sY (w3.1.size+1) 0) 1 1) (sX (sY (w3.1.size+1+1) 0) 0 0) (nJ) (nJ) ((((((w3.alloc (.cells #[.string (Pl.ba [119])] 9)).alloc (.cells #[sX x0 m0 y0,sX x1 m1 y1] 30)).alloc (.cells #[] 60)).alloc (.cells (uC L (uR (sX (sY w3.1.size 0) 1 1) (sX (sY (w3.1.size+1) 0) 1 1) (sX (sY (w3.1.size+1+1) 0) 0 0))) 62)).alloc (.cells (fA 0 0 L.s 0 0) 64)).alloc (.cells nN 30)):=by
 have sz:=kb.size;refine⟨.al (.al (.al (.al (.al (.al b6 _) _) _) _) _) _,.al (.al (.eK sI) _) _,.al (.eK sI) _,.eK sI,⟨?_,⟨[sX x0 m0 y0,sX x1 m1 y1],?_,?_⟩,⟨[],?_,λi f hf=>by simp at hf⟩,?_,oM,oM,sI⟩,λa _ e=>(by cases e),gG⟩
 ·exact qi (zk w3 #[.string (Pl.ba [119])] 1 (size:=1) sz J8 rfl) (.of gG)
 ·have h:=zk (base:=w.1.size) (w3.alloc (.cells #[.string (Pl.ba [119])] 9)) #[sX x0 m0 y0,sX x1 m1 y1] 1 (size:=2) J2 J8 (e:=30) rfl
  simp only[World.size_alloc] at h;exact qi h (.of gG)
 ·intro i p hp
  match i,hp with
  |0,hp =>
   cases hp
   refine⟨_,_,rfl,rfl,λ_=>((ro.kp (.of kb)).kp (.of gG)).mono λb hb hl=>⟨hl,.inl hb,?_,?_,?_⟩⟩
   all_goals (intro e;injection e with e;simp at e;omega)
 ·have h:=zk (base:=w.1.size) ((w3.alloc (.cells #[.string (Pl.ba [119])] 9)).alloc (.cells #[sX x0 m0 y0,sX x1 m1 y1] 30)) #[] 0 (size:=4) J2 J8 (e:=60) rfl
  simp only[World.size_alloc] at h;exact qi h (.of gG)
 intro e;injection e with e;simp at e
end
end
def zG:Code->Bool
 |.loop _=>b_
 |.seq a b=>zG a || zG b
 |.cond _ a b=>zG a || zG b
 |.block _ c=>zG c
 |.scope c=>zG c
 |_=>d_
def CD:Code->Code
 |.seq a b=>if zG a then b else CD b
 |.scope c=>CD c
 |c=>c
def UQ(w:Wd)(o:Oc)(e:Ending)(w':Wd):Prop:=(o.a.1.length<=1000/\o.a.2.length<=1000)/\IZ w o e w'
def snd:Code->Code
 |.seq a b=>b
 |c=>c
def WH{w wr:Wd}{Z:Nat}{mf mc s5 kk xx:Int}{hv:Bool}(hZ:w.1.size+3<=Z)(vX:¬kk=0)(kb:Bl w wr)(b6:Bx wr (w.1.size+2) #[I 0,I 0,nJ,nJ,I 0,I 0] 32)(b8:Bx wr (Z+1) (fA mf mc s5 kk xx) 64){cR cU cW cS cV cT cQ co bG bT bD aQ ce a6 aT bJ aZ bL cj bE cu cB bA aX aU cE cP bz ch bu cO cC ci aN cM cJ bV a9 cw a3 bI a7 bF cF bS be bi cr a8 cc aY bh cG aO aW bf ck bw cA cm bM bR cg bq cH bN aP br bK a5 cN ct cI cD cq aR bg bO bH aV bj cz bW bU bX aS bC bY cL cK bP ca bB bQ bc bk af aH ah aJ ad ag aw aK ak aI aE ac aq am ab au aa ap aC ae aA ai aj az aG aM av aB aF aD aL:Va}:
  Code.wp prog (snd (CD (Tryz.f6.body.getD .skip))) (bodyPost prog Tryz.f6 (UQ w ⟨kk,xx,([],[]),mf,mc⟩)) { tmps:=#[cR,cU,cW,cS,cV,cT,pT (w.1.size+2),cQ,pT (Z+1),pT (Z+2),.bool hv,co,bG,bT,bD,aQ,ce,a6,aT,bJ,aZ,bL,cj,bE,cu,cB,bA,aX,aU,cE,cP,bz,ch,bu,cO,cC,ci,aN,cM,cJ,bV,a9,cw,a3,bI,a7,bF,cF,bS,be,bi,cr,a8,cc,aY,bh,cG,aO,aW,bf,ck,bw,cA,cm,bM,bR,cg,bq,cH,bN,aP,br,bK,a5,cN,ct,cI,cD,cq,aR,bg,bO,bH,aV,bj,cz,bW,bU,bX,aS,bC,bY,cL,cK,bP,ca,bB,bQ,bc,bk,af,aH,ah,aJ,ad,ag,aw,aK,ak,aI,aE,ac,aq,am,ab,au,aa,ap,aC,ae,aA,ai,aj,az,aG,aM,av,aB,aF,aD,aL],defers:=[] } wr:=by
 conv=>arg 2;whnf
 dsimp only;have yI:=zH b6;obtain⟨d8,f8,z8⟩:=b8.all;obtain⟨d6,f6,z6⟩:=b6.all;have HB:=zH kb;have HZ:=zH hZ;have⟨n1,n2⟩:¬w.1.size+2=wr.1.size/\¬wr.1.size=w.1.size+2:=oM;refine wp_seq_k λK3 h3=>?_;replace h3:=zH h3;go_wp2;refine h3.o _ _ ?_;refine wp_seq_k λK4 h4=>?_;refine wp_seq_k λK5 h5=>?_;replace h4:=zH h4;replace h5:=zH h5;go_wp2;refine h5.o _ _ ?_;go_wp2;refine h4.o _ _ ?_;refine wp_seq_k λK6 h6=>?_;replace h6:=zH h6;go_wp2;refine h6.o _ _ ?_;have⟨W,HW⟩:∃W,Hid (W=((((((wr.setCell (Y (w.1.size+2) 0) (I kk)).setCell (Y (w.1.size+2) 1) (I xx)).setCell (Y (w.1.size+2) 2) (nJ)).setCell (Y (w.1.size+2) 3) (nJ)).setCell (Y (w.1.size+2) 4) (I mf)).setCell (Y (w.1.size+2) 5) (I mc)).alloc (.cells #[I kk,I xx,nJ,nJ,I mf,I mc] 32)):=⟨_,rfl⟩;rw[<- HW.o];have B6:Bx W (w.1.size+2) #[I kk,I xx,nJ,nJ,I mf,I mc] 32:=by
  rw[HW.o];exact((((((yI.o.set 0 _).set 1 _).set 2 _).set 3 _).set 4 _).set 5 _).al _
 have BW:Hid (Bl w W):=by
  show Below _ _ _;rw[HW.o];have:=HB.o;go_grown
 obtain⟨c6,f6,z6⟩:=B6.all;go_wp2;refine eJ (by simp[results,results6,go_sem,c6];try rfl) rfl ?_;exact⟨⟨sI,sI⟩,BW.o,nJ,nJ,rfl,Oi.nil _,Oi.nil _,λb e=>by cases e⟩
def agB{w wr:Wd}{Z:Nat}{mf mc s5 kk xx:Int}{hv:Bool}(hZ:w.1.size+3<=Z)(vX:¬kk=0)(kb:Bl w wr)(b6:Bx wr (w.1.size+2) #[I 0,I 0,nJ,nJ,I 0,I 0] 32)(b8:Bx wr (Z+1) (fA mf mc s5 kk xx) 64){cR cU cW cS cV cT cQ co bG bT bD aQ ce a6 aT bJ aZ bL cj bE cu cB bA aX aU cE cP bz ch bu cO cC ci aN cM cJ bV a9 cw a3 bI a7 bF cF bS be bi cr a8 cc aY bh cG aO aW bf ck bw cA cm bM bR cg bq cH bN aP br bK a5 cN ct cI cD cq aR bg bO bH aV bj cz bW bU bX aS bC bY cL cK bP ca bB bQ bc bk af aH ah aJ ad ag aw aK ak aI aE ac aq am ab au aa ap aC ae aA ai aj az aG aM av aB aF aD aL:Va}:
  Code.wp prog (CD (Tryz.f6.body.getD .skip)) (bodyPost prog Tryz.f6 (UQ w ⟨kk,xx,([],[]),mf,mc⟩)) { tmps:=#[cR,cU,cW,cS,cV,cT,pT (w.1.size+2),cQ,pT (Z+1),pT (Z+2),.bool hv,co,bG,bT,bD,aQ,ce,a6,aT,bJ,aZ,bL,cj,bE,cu,cB,bA,aX,aU,cE,cP,bz,ch,bu,cO,cC,ci,aN,cM,cJ,bV,a9,cw,a3,bI,a7,bF,cF,bS,be,bi,cr,a8,cc,aY,bh,cG,aO,aW,bf,ck,bw,cA,cm,bM,bR,cg,bq,cH,bN,aP,br,bK,a5,cN,ct,cI,cD,cq,aR,bg,bO,bH,aV,bj,cz,bW,bU,bX,aS,bC,bY,cL,cK,bP,ca,bB,bQ,bc,bk,af,aH,ah,aJ,ad,ag,aw,aK,ak,aI,aE,ac,aq,am,ab,au,aa,ap,aC,ae,aA,ai,aj,az,aG,aM,av,aB,aF,aD,aL],defers:=[] } wr:=by
 have KT:=zH (λhv {cR cU cW cS cV cT cQ co bG bT bD aQ ce a6 aT bJ aZ bL cj bE cu cB bA aX aU cE cP bz ch bu cO cC ci aN cM cJ bV a9 cw a3 bI a7 bF cF bS be bi cr a8 cc aY bh cG aO aW bf ck bw cA cm bM bR cg bq cH bN aP br bK a5 cN ct cI cD cq aR bg bO bH aV bj cz bW bU bX aS bC bY cL cK bP ca bB bQ bc bk af aH ah aJ ad ag aw aK ak aI aE ac aq am ab au aa ap aC ae aA ai aj az aG aM av aB aF aD aL}=>@WH w wr Z mf mc s5 kk xx hv hZ vX kb b6 b8 cR cU cW cS cV cT cQ co bG bT bD aQ ce a6 aT bJ aZ bL cj bE cu cB bA aX aU cE cP bz ch bu cO cC ci aN cM cJ bV a9 cw a3 bI a7 bF cF bS be bi cr a8 cc aY bh cG aO aW bf ck bw cA cm bM bR cg bq cH bN aP br bK a5 cN ct cI cD cq aR bg bO bH aV bj cz bW bU bX aS bC bY cL cK bP ca bB bQ bc bk af aH ah aJ ad ag aw aK ak aI aE ac aq am ab au aa ap aC ae aA ai aj az aG aM av aB aF aD aL);conv=>arg 2;whnf
 dsimp only;obtain⟨d8,f8,z8⟩:=b8.all;refine wp_seq_k λK1 h1=>?_;refine wp_seq_k λK2 h2=>?_;replace h1:=zH h1;replace h2:=zH h2;go_wp2;refine h2.o _ _ ?_;refine wp_cond_false kF ?_;go_wp2;refine h1.o _ _ ?_;exact KT.o _
def agC{w wr:Wd}{Z:Nat}{mf mc ms:Int}(hZ:w.1.size+3<=Z)(kb:Bl w wr)(b6:Bx wr (w.1.size+2) #[I 0,I 0,nJ,nJ,I 0,I 0] 32)(b8:Bx wr (Z+1) (fA mf mc ms 0 0) 64){cR cU cW cS cV cT cQ co bG bT bD aQ ce a6 aT bJ aZ bL cj bE cu cB bA aX aU cE cP bz ch bu cO cC ci aN cM cJ bV a9 cw a3 bI a7 bF cF bS be bi cr a8 cc aY bh cG aO aW bf ck bw cA cm bM bR cg bq cH bN aP br bK a5 cN ct cI cD cq aR bg bO bH aV bj cz bW bU bX aS bC bY cL cK bP ca bB bQ bc bk af aH ah aJ ad ag aw aK ak aI aE ac aq am ab au aa ap aC ae aA ai aj az aG aM av aB aF aD aL:Va}:
  Code.wp prog (CD (Tryz.f6.body.getD .skip)) (bodyPost prog Tryz.f6 (UQ w ⟨2,12,([],[]),mf,mc⟩)) { tmps:=#[cR,cU,cW,cS,cV,cT,pT (w.1.size+2),cQ,pT (Z+1),pT (Z+2),.bool d_,co,bG,bT,bD,aQ,ce,a6,aT,bJ,aZ,bL,cj,bE,cu,cB,bA,aX,aU,cE,cP,bz,ch,bu,cO,cC,ci,aN,cM,cJ,bV,a9,cw,a3,bI,a7,bF,cF,bS,be,bi,cr,a8,cc,aY,bh,cG,aO,aW,bf,ck,bw,cA,cm,bM,bR,cg,bq,cH,bN,aP,br,bK,a5,cN,ct,cI,cD,cq,aR,bg,bO,bH,aV,bj,cz,bW,bU,bX,aS,bC,bY,cL,cK,bP,ca,bB,bQ,bc,bk,af,aH,ah,aJ,ad,ag,aw,aK,ak,aI,aE,ac,aq,am,ab,au,aa,ap,aC,ae,aA,ai,aj,az,aG,aM,av,aB,aF,aD,aL],defers:=[] } wr:=by
 have KT:=zH (λwr kb b6 b8 {cR cU cW cS cV cT cQ co bG bT bD aQ ce a6 aT bJ aZ bL cj bE cu cB bA aX aU cE cP bz ch bu cO cC ci aN cM cJ bV a9 cw a3 bI a7 bF cF bS be bi cr a8 cc aY bh cG aO aW bf ck bw cA cm bM bR cg bq cH bN aP br bK a5 cN ct cI cD cq aR bg bO bH aV bj cz bW bU bX aS bC bY cL cK bP ca bB bQ bc bk af aH ah aJ ad ag aw aK ak aI aE ac aq am ab au aa ap aC ae aA ai aj az aG aM av aB aF aD aL}=>@WH w wr Z mf mc ms 2 12 d_ hZ oM kb b6 b8 cR cU cW cS cV cT cQ co bG bT bD aQ ce a6 aT bJ aZ bL cj bE cu cB bA aX aU cE cP bz ch bu cO cC ci aN cM cJ bV a9 cw a3 bI a7 bF cF bS be bi cr a8 cc aY bh cG aO aW bf ck bw cA cm bM bR cg bq cH bN aP br bK a5 cN ct cI cD cq aR bg bO bH aV bj cz bW bU bX aS bC bY cL cK bP ca bB bQ bc bk af aH ah aJ ad ag aw aK ak aI aE ac aq am ab au aa ap aC ae aA ai aj az aG aM av aB aF aD aL);have KS:=zH (λW=>wZ mf mc ms 0 0 12 W);conv=>arg 2;whnf
 dsimp only;obtain⟨d8,f8,z8⟩:=b8.all;have yI:=zH b6;have Mx:=zH b8;have HB:=zH kb;have HZ:=zH hZ;refine wp_seq_k λK1 h1=>?_;refine wp_seq_k λK2 h2=>?_;replace h1:=zH h1;replace h2:=zH h2;go_wp2;refine h2.o _ _ ?_;refine wp_cond_true kF ?_;go_wp2_with fail;refine(KS.o _).k λw1 hb=>?_;replace yI:=zH (yI.o.below hb);replace Mx:=zH (Mx.o.below hb);replace HB:=zH (bv hb HB.o);obtain⟨d8,f8,z8⟩:=Mx.o.all;go_wp2_with fail;refine h1.o _ _ ?_;refine KT.o _ ?_ ?_ ?_
 ·have:=HB.o
  have:=HZ.o;go_grown
 ·have:=HZ.o
  exact((((yI.o.eC J2 _).eC J2 _).eC J2 _).eC J2 _).eC J2 _
 exact((((Mx.o.set 0 _).set 1 _).set 2 _).set 3 _).set 4 _
def ae3{P:nK}{w wr:Wd}{Z:Nat}{mf mc ms:Int}{a:Ar}{x0 x1:oA}{p0 q0 p1 q1:Nat}(hZ:w.1.size+3<=Z)(kb:Bl w wr)(b6:Bx wr (w.1.size+2) #[I 0,I 0,nJ,nJ,I 0,I 0] 32)(b8:Bx wr (Z+1) (fA mf mc ms 0 0) 64)(b9:Bx wr (Z+2) #[sX x0 p0 q0,sX x1 p1 q1] 30)(ra:RA P wr (sX x0 p0 q0) (sX x1 p1 q1) a)(gK:a.1.length<=1000)(gr:a.2.length<=1000){cS cV cX cT cW cU cR co bG bT bD aQ ce a6 aT bJ aZ bL cj bE cu cB bA aX aU cE cQ bz ch bu cP cC ci aN cN cJ bV a9 cw a3 bI a7 bF cF bS be bi cr a8 cc aY bh cG aO aW bf ck bw cA cm bM bR cg bq cH bN aP br bK a5 cO ct cI cD cq aR bg bO bH aV bj cz bW bU bX aS bC bY cM cK bP ca bB bQ bc bk af aH ah aJ ad ag aw aK ak aI aE ac aq am ab au aa ap aC ae aA ai aj az aG aM av aB aF aD aL:Va}:
  Code.wp prog (CD (Tryz.f6.body.getD .skip)) (bodyPost prog Tryz.f6 (UQ w ⟨1,0,a,mf,mc⟩)) { tmps:=#[cS,cV,cX,cT,cW,cU,pT (w.1.size+2),cR,pT (Z+1),pT (Z+2),.bool b_,co,bG,bT,bD,aQ,ce,a6,aT,bJ,aZ,bL,cj,bE,cu,cB,bA,aX,aU,cE,cQ,bz,ch,bu,cP,cC,ci,aN,cN,cJ,bV,a9,cw,a3,bI,a7,bF,cF,bS,be,bi,cr,a8,cc,aY,bh,cG,aO,aW,bf,ck,bw,cA,cm,bM,bR,cg,bq,cH,bN,aP,br,bK,a5,cO,ct,cI,cD,cq,aR,bg,bO,bH,aV,bj,cz,bW,bU,bX,aS,bC,bY,cM,cK,bP,ca,bB,bQ,bc,bk,af,aH,ah,aJ,ad,ag,aw,aK,ak,aI,aE,ac,aq,am,ab,au,aa,ap,aC,ae,aA,ai,aj,az,aG,aM,av,aB,aF,aD,aL],defers:=[] } wr:=by
 obtain⟨sh,da⟩:=a;simp only at gK gr ra;have KX:Hid (∀W,Bl wr W->Cp 25 #[sX x0 p0 q0] W λe w'=>Bl W w'/\∃u,e=rT u/\Oi W.1.size w' u sh):=λW k=>lG _ sh W (ra.1.rw.kp (.of k)) oM;have KY:Hid (∀W,Bl wr W->Cp 25 #[sX x1 p1 q1] W λe w'=>Bl W w'/\∃u,e=rT u/\Oi W.1.size w' u da):=λW k=>lG _ da W (ra.2.rw.kp (.of k)) oM;conv=>arg 2;whnf
 dsimp only;obtain⟨d8,f8,z8⟩:=b8.all;have yI:=zH b6;have Fx:=zH b9;have apq:=b9.lt;have HB:=zH kb;have HZ:=zH hZ;refine wp_seq_k λK1 h1=>?_;refine wp_seq_k λK2 h2=>?_;replace h1:=zH h1;replace h2:=zH h2;go_wp2;refine h2.o _ _ ?_;refine wp_cond_false kF ?_;go_wp2;refine h1.o _ _ ?_;refine wp_seq_k λK3 h3=>?_;replace h3:=zH h3;go_wp2;refine h3.o _ _ ?_;refine wp_seq_k λK4 h4=>?_;refine wp_seq_k λK5 h5=>?_;replace h4:=zH h4;replace h5:=zH h5;go_wp2;refine h5.o _ _ ?_;refine wp_cond_true kF ?_;refine wp_seq_k λK7 h7=>?_;replace h7:=zH h7;go_wp2;refine h7.o _ _ ?_;generalize nO:wr.alloc _=W0;have BW:Hid (Bl wr W0.drew):=by subst nO;exact(show Bl wr _ from by go_grown)
 have B14:Hid (Bx W0.drew wr.1.size #[I 1,I 0,nJ,nJ,I mf,I mc] 32):=by subst nO;exact Bx.eK rfl
 have B9:=zH (Fx.o.below BW.o);have B6:=zH (yI.o.below BW.o);have BL:=zH (bv BW.o HB.o);have zr:=yI.o.lt;refine fT (S:=λw'=>cL w' (Z+2) 0 (sX x0 p0 q0)/\cL w' (Z+2) 1 (sX x1 p1 q1)) kF ⟨B9.o.cf.1 0,B9.o.cf.1 1⟩ (λhS=>?_);refine tk 0 (pT (Z+2)) rfl hS (λw h=>kF) ?_;refine tk 1 (sX x0 p0 q0) rfl hS (λw h=>AK (q:=pT (Z+2)) rfl kF (by obtain⟨h0,h1⟩:=h;go_simp)) ?_;refine tk 3 (.pointer (sY (Z+2) 1)) rfl hS (λw h=>kF) ?_;refine tk 4 (sX x1 p1 q1) rfl hS (λw h=>AK (q:=.pointer (sY (Z+2) 1)) rfl kF (by obtain⟨h0,h1⟩:=h;go_simp)) ?_;generalize W0.drew=W at *;refine tc 2 _ _ rfl rfl kF ((KX.o W BW.o).mono ?_);rintro e w1 ⟨hb1,u,rfl,o1⟩;obtain⟨y0,z0,rfl⟩:=o1.form;refine .inl ⟨_,rfl,⟨(B9.o.below hb1).cf.1 0,(B9.o.below hb1).cf.1 1⟩,?_⟩;refine tc 5 _ _ rfl rfl kF ((KY.o w1 (bv hb1 BW.o)).mono ?_);rintro e w2 ⟨hb2,u,rfl,o2⟩;obtain⟨y1,z1,rfl⟩:=o2.form;have hb:Bl W w2:=bv hb2 hb1;refine .inl ⟨_,rfl,⟨(B9.o.below hb).cf.1 0,(B9.o.below hb).cf.1 1⟩,?_⟩;refine tk 6 (.agg #[sX y0 sh.length z0,sX y1 da.length z1]) rfl ⟨(B9.o.below hb).cf.1 0,(B9.o.below hb).cf.1 1⟩ (λ_ _=>kF) ?_;refine tv 7 (.pointer (sY wr.1.size 2)) w2 rfl rfl kF ⟨(B9.o.below hb).cf.1 0,(B9.o.below hb).cf.1 1⟩ ?_;have Kh:=B14.o.below hb;have Uy:=B6.o.below hb;have B9':=B9.o.below hb;have HZ:=HZ.o;have s0:=BL.o.size;have s9:=B9.o.lt;have s1:=BW.o.size;have sb1:=hb1.size;have sb2:=hb2.size;have n9:¬Z+2=wr.1.size:=by have:=apq;omega
 refine ts 8 ((w2.setCell (Y wr.1.size 2) (sX y0 sh.length z0)).setCell (Y wr.1.size 3) (sX y1 da.length z1)) rfl rfl rfl (N' (q:=.pointer (sY wr.1.size 2)) (y:=.agg #[sX y0 sh.length z0,sX y1 da.length z1]) rfl kF kF (by obtain⟨c,f,l⟩:=Kh.all;go_simp)) ⟨((B9'.eC (by simpa using n9) _).eC (by simpa using n9) _).cf.1 0,((B9'.eC (by simpa using n9) _).eC (by simpa using n9) _).cf.1 1⟩ ?_;refine te ?_;have m1:=(o1.kp (.of hb2)).ne Kh dC;have m2:=o2.ne Kh dC;have m3:=(o1.kp (.of hb2)).ne Uy dC;have m4:=o2.ne Uy dC;have⟨W3,vh⟩:∃W,Hid (W=(w2.setCell (Y wr.1.size 2) (sX y0 sh.length z0)).setCell (Y wr.1.size 3) (sX y1 da.length z1)):=⟨_,rfl⟩;rw[<- vh.o];have C14:Bx W3 wr.1.size #[I 1,I 0,sX y0 sh.length z0,sX y1 da.length z1,I mf,I mc] 32:=by rw[vh.o];exact(Kh.set 2 _).set 3 _
 have C6:Hid (Bx W3 (w.1.size+2) #[I 0,I 0,nJ,nJ,I 0,I 0] 32):=by show Bx _ _ _ _;rw[vh.o];exact(Uy.eC J2 _).eC J2 _
 have HO:Hid (Bl w W3/\Oi W.1.size W3 (sX y0 sh.length z0) sh/\Oi w1.1.size W3 (sX y1 da.length z1) da):=by
  show _/\_;rw[vh.o];have:=bv hb BL.o;exact⟨gG,(o1.kp (.of hb2)).kp eY,o2.kp eY⟩
 have HS:Hid (w.1.size<=W.1.size/\w.1.size<=w1.1.size/\∀b,(Value.slice y0 sh.length z0).ownBlock=a_ b->¬(Value.slice y1 da.length z1).ownBlock=a_ b):=⟨oM,oM,λb e e'=>by
  have:=(o1.lt e).2;have:=(o2.lt e').1;omega⟩
 have M:=zH (jA m3 m4);obtain⟨c14,f14,z14⟩:=C14.all;obtain⟨c6,f6,z6⟩:=C6.o.all;go_simp;refine h4.o _ _ ?_;refine wp_seq_k λK6 h6=>?_;replace h6:=zH h6;go_wp2;refine h6.o _ _ ?_;have⟨W4,HW⟩:∃W4,Hid (W4=((((((W3.setCell (Y (w.1.size+2) 0) (I 1)).setCell (Y (w.1.size+2) 1) (I 0)).setCell (Y (w.1.size+2) 2) (sX y0 sh.length z0)).setCell (Y (w.1.size+2) 3) (sX y1 da.length z1)).setCell (Y (w.1.size+2) 4) (I mf)).setCell (Y (w.1.size+2) 5) (I mc))):=⟨_,rfl⟩;rw[<- HW.o];have D6:Bx W4 (w.1.size+2) #[I 1,I 0,sX y0 sh.length z0,sX y1 da.length z1,I mf,I mc] 32:=by
  rw[HW.o];exact(((((C6.o.set 0 _).set 1 _).set 2 _).set 3 _).set 4 _).set 5 _
 have kX:Hid (Bl w W4/\O2 w.1.size W4 (sX y0 sh.length z0) (sX y1 da.length z1) (sh,da)):=by
  show _/\_;rw[HW.o];have⟨kb,o1,o2⟩:=HO.o;have⟨m3,m4⟩:=M.o;have⟨g1,g2,g3⟩:=HS.o;exact⟨gG,(o1.kp eY).base g1,(o2.kp eY).base g2,g3⟩
 obtain⟨d6,f6,z6⟩:=D6.all;go_wp2;refine eJ (by simp[results,results6,go_sem,d6];try rfl) rfl ?_;exact⟨⟨gK,gr⟩,kX.o.1,_,_,rfl,kX.o.2⟩
def acE{K:Ks}{w:Wd}{L:Lm}(H:KS K)(O:KO K)(v0 v1:Va)(a:Ar)(h:RA (λb=>b<w.1.size) w v0 v1 a)(p:List Pl.Tv)(ap:oA)(cp:Nat)(hx:XP w.1.size w ap p)
  (ba bp:Bool) (CP:Fz 20 (sX ap p.length cp) w bp) (CA:Fz 21 (.agg #[v0,v1]) w ba) (ha:ba=b_->K.ok a) (hp:bp=b_->(∀s∈p,TS s)/\p.length<=1000000) :
  Cp 6 #[sX ap p.length cp,.agg #[v0,v1],jO L] w (UQ w (Pl.oc (mA L && ba && bp) (Pl.rn K.k1 K.k2 L p a))):=by
 obtain⟨⟨x0,y0,rfl⟩,x1,y1,rfl⟩:=h.eS;have KL:Hid (∀W,Cp 22 #[jO L] W (rC (.bool (mA L)) W)):=λW=>aha L W;have KA:=zH CA;have KP:=zH CP;have HH:=zH h;have HX:=zH hx;have HA:=zH ha;have Ul:=zH hp;have CR:=zH (jA H O);have⟨r,HR⟩:∃r,Hid (r=Pl.rn K.k1 K.k2 L p a):=⟨_,rfl⟩;rw[<- HR.o];obtain⟨o,HO⟩:∃o,Hid (o=Pl.oc (mA L && ba && bp) r):=⟨_,rfl⟩;rw[<- HO.o];have⟨n,HN⟩:=jN (p.length);have⟨m0,HM0⟩:=jN (a.1.length);have⟨m1,HM1⟩:=jN (a.2.length);rw[HN.o] at KP ⊢;rw[HM0.o,HM1.o] at KA HH ⊢;go_enter func6,ntmps6;go_wp2_with fail;have HB:Hid (Bl w (((w.alloc (.cells #[sX x0 m0 y0,sX x1 m1 y1] 30)).alloc (.cells #[I L.f,I L.c,.bool L.r,I L.s] 37)).alloc (.cells #[I 0,I 0,nJ,nJ,I 0,I 0] 32))):=(show Bl w _ from by go_grown);have S0:Hid (Bx (((w.alloc (.cells #[sX x0 m0 y0,sX x1 m1 y1] 30)).alloc (.cells #[I L.f,I L.c,.bool L.r,I L.s] 37)).alloc (.cells #[I 0,I 0,nJ,nJ,I 0,I 0] 32)) w.1.size #[sX x0 m0 y0,sX x1 m1 y1] 30):=.al (.al (.eK sI) _) _;have S1:Hid (Bx (((w.alloc (.cells #[sX x0 m0 y0,sX x1 m1 y1] 30)).alloc (.cells #[I L.f,I L.c,.bool L.r,I L.s] 37)).alloc (.cells #[I 0,I 0,nJ,nJ,I 0,I 0] 32)) (w.1.size+1) #[I L.f,I L.c,.bool L.r,I L.s] 37):=.al (.eK sI) _;have S2:Hid (Bx (((w.alloc (.cells #[sX x0 m0 y0,sX x1 m1 y1] 30)).alloc (.cells #[I L.f,I L.c,.bool L.r,I L.s] 37)).alloc (.cells #[I 0,I 0,nJ,nJ,I 0,I 0] 32)) (w.1.size+2) #[I 0,I 0,nJ,nJ,I 0,I 0] 32):=.eK sI;generalize ew (ew (ew w _) _) _=W0 at *;refine(KP.o W0 HB.o).l λw1 hb=>?_;replace S0:=zH (S0.o.below hb);replace S1:=zH (S1.o.below hb);replace S2:=zH (S2.o.below hb);replace HB:=zH (bv hb HB.o)
 cases bp with
 |false =>
  exact QA
 |true =>
  obtain⟨c3,f3,l3⟩:=S0.o.all;go_wp2_with fail;refine(KA.o w1 HB.o).l λw2 hb=>?_;replace S0:=zH (S0.o.below hb);replace S1:=zH (S1.o.below hb);replace S2:=zH (S2.o.below hb);replace HB:=zH (bv hb HB.o)
  cases ba with
  |false =>
   exact QA
  |true =>
   obtain⟨c3,f3,l3⟩:=S1.o.all;go_wp2_with fail;refine(KL.o w2).l λw3 hb=>?_;replace S0:=zH (S0.o.below hb);replace S1:=zH (S1.o.below hb);replace S2:=zH (S2.o.below hb);replace HB:=zH (bv hb HB.o)
   cases hb1:mA L with
   |false =>
    exact QA
   |true =>
    obtain⟨c3,f3,l3⟩:=S0.o.all;have⟨d3,g3,j3⟩:=S1.o.all;have hl:Hid (0<=L.f/\L.f<=100000/\0<=L.c/\L.c<=100000/\1<=L.s/\L.s<=2147483646):=(rS hb1:_);have hpp:=zH (Ul.o sI);have pM:Hid (RO K (λb=>b<w.1.size) w (sX x0 m0 y0) (sX x1 m1 y1) a):=⟨HH.o,HA.o sI⟩;have ST:=zH (aeh (L:=L) HB.o S2.o pM.o);have⟨i0,i1,i2,i3,i4,i5⟩:¬w.1.size=w3.1.size/\¬w.1.size=w3.1.size+1/\¬w.1.size=w3.1.size+1+1/\¬w.1.size+1=w3.1.size/\¬w.1.size=w3.1.size+1+1+1/\¬w.1.size=w3.1.size+2:=oM;have⟨q0,q1,q2,q3,q4,q5,q6⟩:w.1.size<w3.1.size/\w.1.size<w3.1.size+1/\w.1.size<w3.1.size+1+1/\w.1.size<w3.1.size+1+1+1/\w.1.size<w3.1.size+2/\w.1.size<w3.1.size+3/\w.1.size+1<w3.1.size+1+1+1+1:=oM;have LS:Hid (CN L K r p 0 ⟨[([119],a)],[]⟩ c_ ⟨0,0,L.s⟩ L.s 0 0):=⟨⟨by simp,by simp,by simp,by simp,by show 0<=L.s;have:=hl.o;omega,by show L.s<=_;have:=hl.o;omega⟩,by simp,by simp,.inl ⟨rfl,rfl,rfl,HR.o⟩⟩;have KW:Hid (∀(W:Wd)(G:Gb) (ns vs fs:Va) (m:Ms) (c:List Sv) (ac:oA) (cp:Nat) {wr:Wd},Bl wr W->Gs True K w.1.size (w3.1.size+3+3) (w3.1.size+3+2) wr G.ns G.ns G.fs ns vs fs->G.ns.length<=1048576->G.fs.length<=1048576->n6 c->gf w.1.size W ac c->gL m->Cp 23 #[eW m.f m.c m.s 0 0,uV L (uR ns vs fs),sX ac c.length cp] W (EPost K (Pg w.1.size (w3.1.size+3+3) ns vs fs wr) W (top K.k1 K.k2 L G c m))):=λW G ns vs fs m c ac cp {wr} kb hg l1 l2 hc hr hm=>by
     have hlm:kJ L:=⟨hl.o.2.1,hl.o.2.2.2.1⟩;have qs:=hg.qs;have hs:=kb.size;exact UX CR.o.1 CR.o.2 L hlm (π CR.o.1 CR.o.2 hlm G 50 oM) c hc _ W _ [] c_ m ac cp (λb hb=>jL hb.1 hs) ((hg.eu trivial l1 l2).eG kb) (hr.up oM) hm
    go_wp2_with fail;rename_i KK EM
    refine afL (L:=L) (w:=w) (r:=r) (m0:=⟨0,0,L.s⟩) (Z:=w3.1.size+3) (by have:=HB.o.size;have:=S2.o.lt;omega) (by rw[<- HN.o];exact hpp.o.2) HN.o hpp.o.1 HX.o LS.o ST.o KW.o ?_;intro k G vo m s5 kk xx ns vs fs z0 z1 p0 q0 p1 q1 wr _ _ _ _ _ _ _ _ _ _ _ _ _ _ _ _ _ _ _ _ _ _ _ _ _ _ _ _ _ _ _ _ _ _ _ _ _ _ _ _ _ _ _ _ _ _ _ _ _ _ _ _ _ _ _ _ _ _ _ _ _ _ _ hk eL uS hw;obtain⟨mf,mc,ms⟩:=m;obtain⟨hm,lF,kO,hor⟩:=uS;have hZ:w.1.size+3<=w3.1.size+3:=by have:=HB.o.size;omega
    dsimp only;by_cases vX:kk=0
    rotate_left 1
    ·have hr:r=(.error (kk,xx),⟨mf,mc,ms⟩):=by
      rcases hor with ⟨h,_⟩|⟨_,h⟩
      ·exact absurd h vX
      exact h
     have e0:o=⟨kk,xx,([],[]),mf,mc⟩:=by
      rw[HO.o,hr];simp[Pl.oc,r9,hb1]
     refine EM _ _ ?_;rw[e0];exact agB hZ vX hw.bl hw.b6 hw.b8
    subst vX;rcases hor with ⟨_,rfl,e5,hr⟩|⟨h,_⟩
    rotate_left 1
    ·exact absurd rfl h
    simp only at e5;subst e5;have fK:k=n:=eL.resolve_right λh=>h rfl;rw[A_ JH] at hr
    cases vo with
    |none =>
     have e0:o=⟨2,12,([],[]),mf,mc⟩:=by
      rw[HO.o,hr];simp[Pl.oc,r9,hb1,iP]
     refine EM _ _ ?_;rw[e0];exact agC hZ hw.bl hw.b6 hw.b8
    |some v =>
     have e0:o=⟨1,0,v,mf,mc⟩:=by
      rw[HO.o,hr];simp[Pl.oc,r9,hb1,iP]
     refine EM _ _ ?_;rw[e0];have hv:=hw.vo v rfl rfl;exact ae3 hZ hw.bl hw.b6 hw.b8 hw.b9 hv.1 (CR.o.2.len v hv.2).1 (CR.o.2.len v hv.2).2
namespace Pl
def Qe{c:List Sv}(hs:Small c)(h:xB c=b_):n6 c:=by
 have⟨t,h1,h2⟩:=alg h;exact⟨⟨ga.2 h2,hs.len⟩,t,h1⟩
def G8{p:List Tv}(fJ:qk p)(h:l_ p=b_):(∀s∈p,TI s/\TS s)/\p.length<=1000000:=by
 unfold l_ at h;rw[fO,fQ,ga] at h;refine⟨λs hs=>?_,by have:=AQ p;have:=h.1;omega⟩;have hb:=h.2 s hs;unfold fA at hb;simp only[fO,fQ,ga] at hb;obtain⟨⟨⟨⟨⟨⟨⟨hx,-⟩,-⟩,-⟩,-⟩,k1⟩,k3⟩,hg⟩:=hb;have sm:=fJ.st s hs;have hk:s.k=1\/s.k=2\/s.k=3:=oM;have hc:=Qe sm.code hx;have hf:s.k=3->t_ s:=λe=>⟨e,hc,Xs hs fJ.sz,λg uU=>⟨Qe (sm.gs g uU).1 (hg g uU).1,Qe (sm.gs g uU).2 (hg g uU).2⟩⟩;exact⟨⟨hk,sm.nm,hc,sm.code.nm,λe=>⟨hf e,sm.code.nm,λg uU=>⟨(sm.gs g uU).1.nm,(sm.gs g uU).2.nm⟩⟩⟩,hk,hc,hf⟩
end Pl
def abl(p:List Pl.Tv)(ao:oA)(cap mb mo cp:Nat)(fJ:qk p)(w:Wd)(he:Ev w mb mo cp)(hR:jF w.1.size w ao p):Fz 30 (sX ao p.length cap) w (l_ p):=λW k=>by
 have K:=zH (abG p ao cap mb mo cp fJ W (he.eG k) ((hR.eG k).up k.size));generalize l_ p=r,p.length=n at *;go_enter func30,ntmps30;go_wp2_with fail;refine K.o.mono ?_;rintro e w' ⟨s,rfl,-,hb⟩;go_wp2;refine eJ (by simp[results,results30,go_sem];try rfl) rfl ?_;exact⟨hb,rfl⟩
def afO(v0 v1:Va)(a:Ar)(w:Wd)(h:RA (λb=>b<w.1.size) w v0 v1 a)(p:List Pl.Tv)(ap:oA)(cap mb mo cp:Nat)(hx:XP w.1.size w ap p)(fJ:qk p)(he:Ev w mb mo cp)(hR:jF w.1.size w ap p)(L:Lm):
  Cp 6 #[sX ap p.length cap,.agg #[v0,v1],jO L] w (UQ w (Pl.oc (mA L && Pl.okB a && l_ p) (Pl.rn Kz.k1 Kz.k2 L p a))) /\
  Cp 10 #[sX ap p.length cap,.agg #[v0,v1],jO L] w (IZ w (Pl.oc (mA L && Pl.okB a && l_ p) (Pl.rn Kz.k1 Kz.k2 L p a))):=by
 constructor
 ·exact acE aok aaM v0 v1 a h p ap cap hx _ _ (λW k=>(agm p ap cap fJ W ((hR.eG k).up k.size)).mono λe w' q=>⟨q.2,q.1⟩) (λW k=>yQ v0 v1 (h.kp (.of k))) (λe=>e) λe=>⟨λs hs=>((G8 fJ e).1 s hs).2,(G8 fJ e).2⟩
 exact acU aol aaM v0 v1 a h p ap cap hx _ _ (λW k=>Vf v0 v1 (h.kp (.of k))) (abl p ap cap mb mo cp fJ w he hR) (λe=>e) λe=>⟨λs hs=>((G8 fJ e).1 s hs).1,by have:=(G8 fJ e).2;omega⟩
variable {ρ:Prop}
section
section
variable {P:nK} {w:Wd}
def aj0.Oo(h:ρ:=by
 by_cases qz:n=m
 ·subst qz
  go_enter func36,ntmps36;exact YS
 ·have hr:r=d_:=by
   exact Qh
  have gu:((n:Int) != (m:Int))=b_:=by rw[iH];omega
  subst hr;go_enter func36,ntmps36;exact vD
 ):ρ:=h
def Vk(v v':Va)(xs ys:lI)(h:Rw P w v xs)(h':Rw P w v' ys)(hl:xs.length<=1048576)(uS:ys.length<=1048576):Cp 36 #[v,v'] w (rB (.bool (decide (xs=ys))) w):=by
 open aj0 in exact Ph
def anq.lH(h:ρ:=by
 generalize a.1.length=n0,a.2.length=n1 at *;go_enter func13,ntmps13;go_wp2_with fail;generalize hW:ew (ew w _) _=W9;have V:=jU hW;refine(K0.o _ V.o.2.2.1).k λw1 hb=>?_;obtain⟨c0,f0,z0⟩:=(V.o.1.below hb).all;obtain⟨c1,f1,z1⟩:=(V.o.2.1.below hb).all;have B1:=zH (bv hb V.o.2.2.1);go_wp2_with fail;refine(K1.o _ B1.o).k λw2 hb=>?_;have B2:=zH (bv hb B1.o);go_wp2;refine eJ (by simp[results,results13,go_sem];try rfl) rfl ?_;exact⟨rfl,B2.o⟩
 ):ρ:=h
def UK(v0 v1 v2 v3:Va)(a:Ar)(h:RA P w v0 v1 a)(h':RA P w v2 v3 a)(h0:a.1.length<=1048576)(h1:a.2.length<=1048576):Cp 13 #[.agg #[v0,v1],.agg #[v2,v3]] w (rB (.bool b_) w):=by
 have K0:Hid (∀W,Bl w W->Cp 36 #[v0,v2] W (rB (.bool b_) W)):=λW k=>by have:=Vk v0 v2 a.1 a.1 (h.1.rw.kp (.of k)) (h'.1.rw.kp (.of k)) h0 h0;rw[fM rfl] at this;exact this
 have K1:Hid (∀W,Bl w W->Cp 36 #[v1,v3] W (rB (.bool b_) W)):=λW k=>by have:=Vk v1 v3 a.2 a.2 (h.2.rw.kp (.of k)) (h'.2.rw.kp (.of k)) h1 h1;rw[fM rfl] at this;exact this
 open anq in exact lO
def anr.lH(h:ρ:=by
 obtain⟨ok,ox,oa,of,oc⟩:=o;simp only[nF] at *;generalize oa.1.length=n0,oa.2.length=n1 at *;have e0:(ok != ok)=d_:=sI;have e1:(ox != ox)=d_:=sI;have e2:(of != of)=d_:=sI;have e3:(oc != oc)=d_:=sI;go_enter func11,ntmps11;go_wp2_with fail;generalize hW:ew (ew w _) _=W9;have V:=jU hW;refine(K.o _ V.o.2.2.1).k λw1 hb=>?_;obtain⟨c0,f0,z0⟩:=(V.o.1.below hb).all;obtain⟨c1,f1,z1⟩:=(V.o.2.1.below hb).all;have B1:=zH (bv hb V.o.2.2.1);go_wp2;refine eJ (by simp[results,results11,go_sem];try rfl) rfl ?_;exact⟨rfl,B1.o⟩
 ):ρ:=h
def aby(o:Oc)(u0 u1 u2 u3:Va)(h:RA P w u0 u1 o.a)(h':RA P w u2 u3 o.a)(h0:o.a.1.length<=1048576)(h1:o.a.2.length<=1048576):Cp 11 #[nF o u0 u1,nF o u2 u3] w (rB (.bool b_) w):=by
 have K:Hid (∀W,Bl w W->Cp 13 #[.agg #[u0,u1],.agg #[u2,u3]] W (rB (.bool b_) W)):=λW k=>UK u0 u1 u2 u3 o.a (h.kp (.of k)) (h'.kp (.of k)) h0 h1;open anr in exact lO
end
end
section
namespace Pl
def partly(m:Int)(zs:lI)(k:Nat):Nat->Int:=λi=>if i<k then m+i else zs.getD i 0
def marks(m:Int)(n:Nat):lI:=(eA n).map λi=>m+(i:Nat)
def yS(m:Int)(n:Nat):(marks m n).length=n:=by simp[marks]
def aeH{m:Int}{n i:Nat}{z:Int}(h:(marks m n)[i]? = a_ z):i<n/\z=m+i:=by
 simp only[marks,qo] at h
 cases e:(eA n)[i]? with
 |none=>rw[e] at h;cases h
 |some j =>
  rw[e] at h;have:=gQ.1 e;obtain⟨hi,hj⟩:=this;simp at hi hj
  simp at h
  subst hj;exact⟨hi,h.symm⟩
end Pl
def abH(g off cap B:Nat)(m:Int)(zs:lI)(w:Wd)(hl:zs.length<=1048576)(h0:0<=m)(h1:m<=2199023255552)(hB:B<=g)(hg:g<w.1.size)
  (hc:∀i,i<zs.length->w.cell? (Y g (off+i))=a_ (I (zs.getD i 0))/\w.frozen? (Y g (off+i))=d_) :
  Cp 40 #[sX (sY g off) zs.length cap,I m] w λe w'=>e=rT (I (m+zs.length))/\w.grownBy w' (a_ g)/\w'.1.size=w.1.size /\
   ∀i,i<zs.length->w'.cell? (Y g (off+i))=a_ (I (m+i))/\w'.frozen? (Y g (off+i))=d_:=by
 have HC:=zH hc;generalize hn:zs.length=n at *;go_enter func40,ntmps40;go_wp2_with fail;go_loopw [1,5] (λk i wr=>∃j:Nat,j<=n/\i=I j/\k=I (m+j)/\Hid (w.grownBy wr (a_ g)/\wr.1.size=w.1.size)/\Hid (∀i,i<n->cL wr g (off+i) (I (partly m zs j i))/\wr.frozen? (Y g (off+i))=d_)) (λ_ i _=>n-(intOf i).toNat)
 case atStart =>
  refine⟨0,vZ _,rfl,gN,⟨World.grownBy.refl _ _,rfl⟩,?_⟩;intro i hi;unfold partly;rw[eB oM];exact HC.o i hi
 obtain⟨j,hj,rfl,rfl,tL,j9⟩:=hrel;by_cases eI:j<n
 rotate_left 1
 ·have jn:j=n:=oM
  subst jn;go_wp2;go_ret
  refine⟨rfl,tL.o.1,tL.o.2,λi hi=>?_⟩;have:=j9.o i hi;unfold partly at this;rw[eD hi] at this;exact this
 have⟨hck,hfk⟩:=j9.o j eI;have R:Hid (∀i,i<n->(wr.setCell (Y g (off+j)) (I (m+j))).cell? (Y g (off+i))=a_ (I (partly m zs (j+1) i))/\(wr.setCell (Y g (off+j)) (I (m+j))).frozen? (Y g (off+i))=d_):=by
  intro i hi;obtain⟨ci,fi⟩:=j9.o i hi;refine⟨?_,by simp[go_sem,fi]⟩;by_cases hij:i=j
  ·subst hij
   rw[PR _ _ _ ci];unfold partly;rw[eD oM]
  rw[Il _ _ _ _ (by intro e;injection e with _ e2 _;exact hij oM)];rw[ci];unfold partly;by_cases h:i<j
  ·rw[eD h,eD oM]
  rw[eB h,eB oM]
 have G:Hid (w.grownBy (wr.setCell (Y g (off+j)) (I (m+j))) (a_ g)/\(wr.setCell (Y g (off+j)) (I (m+j))).1.size=w.1.size):=by
  refine⟨⟨tL.o.1.os,tL.o.1.tape,tL.o.1.output,by simp[tL.o.2],λk hk gu=>?_⟩,by simp[tL.o.2]⟩;rw[zC _ _ _ _ (by intro e;subst e;exact gu rfl)];exact tL.o.1.block k hk gu
 generalize partly m zs j j=x at *;go_wp2;go_roundw
 case rel=>exact⟨j+1,oM,gN,gN,G,R⟩
 simp[intOf];omega
def aci(ao:oA)(cap:Nat)(m:Int)(w:Wd)(h0:0<=m)(h1:m<=2199023255552):
  Cp 40 #[sX ao 0 cap,I m] w λe w'=>e=rT (I m)/\w'=w:=by
 go_enter func40,ntmps40;go_wp2_with fail;go_loopw [1,5] (λk i wr=>i=I 0/\k=I m/\wr=w) (λ_ _ _=>0)
 case atStart=>exact⟨rfl,rfl,rfl⟩
 obtain⟨rfl,rfl,rfl⟩:=hrel;go_wp2;go_ret
 exact⟨rfl,rfl⟩
section
variable {B:Nat} {w:Wd}
def US(v:Va)(zs:lI)(m:Int)(h:Oi B w v zs)(hl:zs.length<=1048576)(h0:0<=m)(h1:m<=2199023255552):Cp 40 #[v,I m] w λe w'=>e=rT (I (m+zs.length))/\Below B w w'/\Kp (λb=>¬v.ownBlock=a_ b) w w'/\Rw (λb=>v.ownBlock=a_ b) w' v (marks m zs.length):=by
 rcases h.2 with ⟨rfl,e0⟩|⟨g,cap,cur,rfl,hb,hg,r1,r2,r3,r4⟩
 ·have e0:zs.length=0:=e0
  rw[e0];refine(aci c_ 0 m w h0 h1).mono ?_;rintro e w' ⟨rfl,rfl⟩;exact⟨sI,jD _ _,⟨jR _,λb _ _=>rfl⟩,c_,0,rfl,.inl rfl⟩
 have lg:=(uB.1 hg).1;refine(abH g 0 cap B m zs w hl h0 h1 hb lg (λi hi=>⟨?_,?_⟩)).mono ?_
 ·obtain⟨b,o,e,_,hc⟩:=h.ri.rw.at (i:=i) (v:=zs.getD i 0) (by rw[ig,fw hi];rfl)
  injection e with e;injection e with e1 e2;subst e1 e2;exact hc
 ·simp[World.frozen?,hg]
 rintro e w' ⟨rfl,tL,hs,hc⟩;refine⟨rfl,?_,⟨oM,λb hn hb'=>tL.block b hb' (λe=>hn e.symm)⟩,sY g 0,cap,by rw[yS],.inr ⟨g,0,rfl,⟨rfl,oM⟩,λi z hz=>?_⟩⟩
 ·exact qu (B:=B) (a:=w) (jD _ _) tL oM (λb e=>by injection e with e;omega)
 obtain⟨hi,rfl⟩:=aeH hz;exact(hc i hi).1
end
end
section
section
variable {B:Nat} {P:nK} {w:Wd}
def UJ(v:Va)(m:Int)(n:Nat)(h:Rw P w v (marks m n))(hl:n<=1048576)(h0:0<=m)(h1:m<=2199023255552):Cp 63 #[v,I m] w (rB (I (m+n)) w):=by
 have H:=zH h;obtain⟨x,y,rfl,_⟩:=h;rw[yS] at H ⊢;go_enter func63,ntmps63;go_wp2_with fail;go_loopw [1,5] (λk i wr=>∃j:Nat,j<=n/\i=I j/\k=I (m+j)/\Hid (Bl w wr)) (λ_ i _=>n-(intOf i).toNat)
 case atStart=>exact⟨0,vZ _,rfl,gN,jD _ _⟩
 obtain⟨j,hj,rfl,rfl,hB⟩:=hrel;by_cases eI:j<n
 ·obtain⟨b,o,rfl,hb,hc⟩:=(H.o.kp (.of hB.o)).at (i:=j) (v:=m+j) (by simp[marks,eI])
  have gu:(m+(j:Int) != m+(j:Int))=d_:=sI;go_wp2;go_roundw
  case rel=>exact⟨j+1,by omega,by go_num,by go_num,(show Below _ _ _ from by have:=hB.o;go_grown)⟩
  simp[intOf];omega
 have jn:j=n:=oM;subst jn;go_wp2;go_ret
 exact⟨rfl,hB.o⟩
def abT(u0 u1:Va)(m:Int)(n0 n1:Nat)(h:Rw P w u0 (marks m n0))(h':Rw P w u1 (marks (m+n0) n1))(l0:n0<=1048576)(l1:n1<=1048576)(h0:0<=m)(h1:m<=1099511627776):Cp 41 #[.agg #[u0,u1],I m] w (rB (I (m+n0+n1)) w):=by
 have K0:=zH λW (k:Bl w W)=>UJ (w:=W) u0 m n0 (h.kp (.of k)) l0 h0 oM;have K1:=zH λW (k:Bl w W)=>UJ (w:=W) u1 (m+n0) n1 (h'.kp (.of k)) l1 oM oM;obtain⟨x0,y0,rfl,_⟩:=h;obtain⟨x1,y1,rfl,_⟩:=h';rw[yS] at K0 K1;rw[yS,yS];go_enter func41,ntmps41;go_wp2_with fail;generalize hW:ew w _=W9;have V:=jV hW;refine(K0.o _ V.o.2.1).k λw1 hb=>?_;obtain⟨c0,f0,z0⟩:=(V.o.1.below hb).all;have B1:=zH (bv hb V.o.2.1);go_wp2_with fail;refine(K1.o _ B1.o).k λw2 hb=>?_;have B2:=zH (bv hb B1.o);go_wp2;go_ret
 exact⟨rfl,B2.o⟩
def abj(o:Oc)(u0 u1:Va)(m:Int)(n0 n1:Nat)(h:Rw P w u0 (marks m n0))(h':Rw P w u1 (marks (m+n0) n1))(l0:n0<=1048576)(l1:n1<=1048576)(h0:0<=m)(h1:m<=1099511627776):Cp 17 #[nF o u0 u1,I m] w (rB (I (m+n0+n1)) w):=by
 have K:=zH λW (k:Bl w W)=>abT (w:=W) u0 u1 m n0 n1 (h.kp (.of k)) (h'.kp (.of k)) l0 l1 h0 h1;obtain⟨x0,y0,rfl,_⟩:=h;obtain⟨x1,y1,rfl,_⟩:=h';rw[yS,yS] at K ⊢;obtain⟨ok,ox,oa,of,oc⟩:=o;simp only[nF] at *;go_enter func17,ntmps17;go_wp2_with fail;generalize hW:ew w _=W9;have V:=jV hW;refine(K.o _ V.o.2.1).k λw1 hb=>?_;have B1:=zH (bv hb V.o.2.1);go_wp2;go_ret
 exact⟨rfl,B1.o⟩
def UD(u0 u1:Va)(a:Ar)(m:Int)(h:O2 B w u0 u1 a)(hB:B<=w.1.size)(l0:a.1.length<=1048576)(l1:a.2.length<=1048576)(h0:0<=m)(h1:m<=1099511627776):Cp 15 #[.agg #[u0,u1],I m] w λe w'=>e=rT (I (m+a.1.length+a.2.length))/\Below B w w'/\Kp (λb=>¬u0.ownBlock=a_ b/\¬u1.ownBlock=a_ b) w w'/\Rw (λ_=>True) w' u0 (marks m a.1.length)/\Rw (λ_=>True) w' u1 (marks (m+a.1.length) a.2.length):=by
 obtain⟨o0,o1,nn⟩:=h;have n0:∀b,u0.ownBlock=a_ b->¬w.1.size=b:=λb e=>by have:=(o0.lt e).2;omega
 have n1:∀b,u1.ownBlock=a_ b->¬w.1.size=b:=λb e=>by have:=(o1.lt e).2;omega
 have K0:=zH λW (k:Bl w W)=>US (B:=B) (w:=W) u0 a.1 m (o0.kp (.of k)) l0 h0 oM;have K1:=zH λW (ho:Oi B W u1 a.2)=>US (B:=B) (w:=W) u1 a.2 (m+a.1.length) ho l1 oM oM;have NN:=zH (jA nn (jA n0 (jA n1 hB)));have O1:=zH o1;obtain⟨x0,y0,rfl⟩:=o0.form;obtain⟨x1,y1,rfl⟩:=o1.form;generalize a.1.length=p0 at *;go_enter func15,ntmps15;go_wp2_with fail;generalize hW:ew w _=W9;have V:=jV hW;refine(K0.o _ V.o.2.1).mono ?_;rintro e w1 ⟨rfl,hb,kk,hr⟩;have X1:=V.o.1.kp kk (λe=>NN.o.2.1 _ e rfl);have O1':=zH ((O1.o.kp (.of V.o.2.1)).kp (kk.xw λb e e'=>NN.o.1 b e' e));have B1:=zH ((V.o.2.1.mono NN.o.2.2.2).trans hb);have R0:=zH hr;have KK1:=zH (Kp.trans (Kp.of V.o.2.1) (kk.xw (Q:=λb=>¬(Value.slice x0 p0 y0).ownBlock=a_ b/\¬(Value.slice x1 a.2.length y1).ownBlock=a_ b) λb e=>e.1));obtain⟨c0,f0,z0⟩:=X1.all;go_wp2_with fail;refine(K1.o _ O1'.o).mono ?_;rintro e w2 ⟨rfl,hb,kk,hr⟩;have B2:=zH (B1.o.trans hb);have R1:=zH hr;have R0':=zH (R0.o.kp (kk.xw λb e e'=>NN.o.1 b e e'));have KK2:=zH (Kp.trans KK1.o (kk.xw λb e=>e.2));go_wp2;go_ret
 exact⟨rfl,B2.o,KK2.o,R0'.o.jG λ_ _ _=>trivial,R1.o.jG λ_ _ _=>trivial⟩
def abg(o:Oc)(u0 u1:Va)(m:Int)(h:O2 B w u0 u1 o.a)(hB:B<=w.1.size)(l0:o.a.1.length<=1048576)(l1:o.a.2.length<=1048576)(h0:0<=m)(h1:m<=1099511627776):Cp 16 #[nF o u0 u1,I m] w λe w'=>e=rT (I (m+o.a.1.length+o.a.2.length))/\Below B w w'/\Kp (λb=>¬u0.ownBlock=a_ b/\¬u1.ownBlock=a_ b) w w'/\Rw (λ_=>True) w' u0 (marks m o.a.1.length)/\Rw (λ_=>True) w' u1 (marks (m+o.a.1.length) o.a.2.length):=by
 have K:=zH λW (k:Bl w W)=>UD (B:=B) (w:=W) u0 u1 o.a m ⟨h.1.kp (.of k),h.2.1.kp (.of k),h.2.2⟩ (jT hB k.size) l0 l1 h0 h1;obtain⟨x0,y0,rfl⟩:=h.1.form;obtain⟨x1,y1,rfl⟩:=h.2.1.form;obtain⟨ok,ox,oa,of,oc⟩:=o;simp only[nF] at *;generalize oa.1.length=p0,oa.2.length=p1 at *;go_enter func16,ntmps16;go_wp2_with fail;generalize hW:ew w _=W9;have V:=jV hW;refine(K.o _ V.o.2.1).mono ?_;rintro e w1 ⟨rfl,hb,kk,r0,r1⟩;have B1:=zH (jA ((V.o.2.1.mono hB).trans hb) (jA (Kp.trans (Kp.of V.o.2.1) kk) (jA r0 r1)));go_wp2;go_ret
 exact⟨rfl,B1.o⟩
end
end
section
section
variable {P:nK} {w:Wd}
def Vp(v:Va)(zs:lI)(h:Rw P w v zs)(hl:zs.length<=1048576):Cp 27 #[v] w λe w'=>Bl w w'/\∃u,e=rT u/\Oi w.1.size w' u zs:=by
 have H:=zH h;obtain⟨x,y,rfl,_⟩:=h;have⟨n,HN⟩:=jN (zs.length);rw[HN.o] at hl H ⊢;have MK:=zH λW=>n8 W n hl;go_enter func27,ntmps27;go_wp2_with (rw[MK.o])
 generalize hW:ew w _=W1;have V1:=jV hW;go_loopw [4] (λi wr=>∃k:Nat,k<=n/\i=I (k:Int)/\Hid (Bl w wr)/\Hid (Bx wr w.1.size (Zr (zs.take k) n) 3)) (λi _=>n-(intOf i).toNat)
 case atStart=>exact⟨0,vZ _,rfl,V1.o.2.1,V1.o.1⟩
 obtain⟨k,hk,rfl,hB,hX⟩:=hrel;have lk:Hid ((zs.take k).length=k):=by show _=_;rw[jH,HN.o];omega
 by_cases eI:k<n
 ·have⟨z,hz⟩:=gF HN.o eI
  obtain⟨b,o,rfl,hb,hc⟩:=(H.o.kp (.of hB.o)).at hz;have⟨v9,kN⟩:=sN (l:=zs.take k) (n:=n) (i:=k) (by rw[lk.o];omega) eI;have jd:cL wr w.1.size k (I v9):=(hX.o.cf.1 k).trans kN;have fD:=hX.o.cf.2 k;have hki:(k:Int)<(n:Int):=oM;have X9:Hid (Bx (wr.setCell (Y w.1.size k) (I z)) w.1.size (Zr (zs.take (k+1)) n) 3):=by
   have e:=um (l:=zs.take k) (n:=n) (by rw[lk.o];omega) z;rw[lk.o,<- Pl.vq hz] at e;rw[<- e];exact hX.o.set k _
  have B9:Hid (Bl w (wr.setCell (Y w.1.size k) (I z))):=hB.o.setCell sI _;go_wp2;go_roundw
  case rel=>exact⟨k+1,oM,gN,B9,X9⟩
  simp[intOf];omega
 have kn:k=n:=oM;subst kn;have oD:=zH (sM hX.o (B:=w.1.size) (jR _) hl (by rw[lk.o]));rw[mR JH] at oD;go_wp2;go_ret
 exact⟨hB.o,_,rfl,oD.o⟩
def acC(v0 v1:Va)(a:Ar)(h:RA P w v0 v1 a)(h0:a.1.length<=1048576)(h1:a.2.length<=1048576):Cp 8 #[.agg #[v0,v1]] w λe w'=>Bl w w'/\∃u0 u1,e=rT (.agg #[u0,u1])/\O2 w.1.size w' u0 u1 a:=by
 have K0:=zH λW (k:Bl w W)=>Vp (w:=W) v0 a.1 (h.1.rw.kp (.of k)) h0;have K1:=zH λW (k:Bl w W)=>Vp (w:=W) v1 a.2 (h.2.rw.kp (.of k)) h1;obtain⟨⟨x0,y0,rfl⟩,x1,y1,rfl⟩:=h.eS;have⟨p0,E0⟩:=jN (a.1.length);obtain⟨p1,E1⟩:=jN (a.2.length);rw[E0.o] at K0 ⊢;rw[E1.o] at K1 ⊢;go_enter func8,ntmps8;go_wp2_with fail;generalize hW:ew (ew (ew w _) _) _=W9;have V:=mK hW;refine(K0.o _ V.o.2.2.2.1).mono ?_;rintro e w1 ⟨hb,u0,rfl,o0⟩;have⟨x2,y2,e0⟩:=o0.form;rw[E0.o] at e0;subst e0;have X0:=V.o.1.below hb;have X1:=V.o.2.1.below hb;have X2:=V.o.2.2.1.below hb;obtain⟨c2,f2,z2⟩:=X2.all;have HB:=zH (bv hb V.o.2.2.2.1);have s9:=V.o.2.2.2.2;have l1:=o0.ne X2 dC;have X3:Bx (w1.setCell (Y (w.1.size+1+1) 0) (sX x2 p0 y2)) (w.1.size+1+1) #[sX x2 p0 y2,nJ] 30:=X2.set 0 (sX x2 p0 y2);have O0:=zH (o0.kp (w':=w1.setCell (Y (w.1.size+1+1) 0) (sX x2 p0 y2)) eY);have XX:=zH (jA (X0.eC (p:=(Y (w.1.size+1+1) 0)) J2 (sX x2 p0 y2)) (jA (X1.eC (p:=(Y (w.1.size+1+1) 0)) sI (sX x2 p0 y2)) X3));have B1:Hid (Bl w (w1.setCell (Y (w.1.size+1+1) 0) (sX x2 p0 y2))):=HB.o.setCell J2 _;have N9:W9.1.size ≥ w.1.size+3:=oM;go_upto_region 3 with fail
 generalize w1.setCell _ _=W2 at *;obtain⟨c0,f0,z0⟩:=XX.o.1.all;go_wp2_with fail;refine(K1.o _ B1.o).mono ?_;rintro e w3 ⟨hb,u1,rfl,o1⟩;have⟨x3,y3,e1⟩:=o1.form;rw[E1.o] at e1;subst e1;have X1:=XX.o.2.1.below hb;have X2:=XX.o.2.2.below hb;have T_:=O0.o.kp (.of hb);have m0:=T_.ne X1 dC;have m1:=o1.ne X1 dC;have m2:=T_.ne X2 dC;have m3:=o1.ne X2 dC;have DD:Hid (∀b,(Value.slice x2 p0 y2).ownBlock=a_ b->¬(Value.slice x3 p1 y3).ownBlock=a_ b):=λb e e'=>by have:=(O0.o.lt e).2;have:=(o1.lt e').1;omega
 have HB:=zH (bv hb B1.o);have OO:=zH (jA (T_.base (B':=w.1.size) oM) (jA (o1.base (B':=w.1.size) (by have:=B1.o.size;omega)) (jA (jA m0 m1) (jA m2 m3))));obtain⟨c1,f1,z1⟩:=X1.all;obtain⟨c2,f2,z2⟩:=X2.all;go_wp2;refine eJ (by simp[results,results8,go_sem,c1,c2,z1,z2];try rfl) rfl ?_;have hb:=HB.o;have⟨a0,a1,⟨m0,m1⟩,m2,m3⟩:=OO.o;exact⟨gG,_,_,rfl,a0.kp eY,a1.kp eY,λb e e'=>DD.o b e e'⟩
def UN(x0 x1:oA)(n0 y0 n1 y1:Nat)(l:Int)(h0:n0<=9223372036854775807)(h1:n1<=9223372036854775807)(l0:0<=l)(l1:l<=1048576):Cp 5 #[.agg #[sX x0 n0 y0,sX x1 n1 y1],I l] w (rB (I (if Pl.sb l n0<0 then -1 else Pl.sb (Pl.sb l n0) n1)) w):=by
 have K0:=zH λW=>M8 x0 n0 y0 l W h0 l0 l1;have lb:Pl.sb l n0<=1048576:=by unfold Pl.sb;split <;> omega
 have K1:Hid (0<=Pl.sb l n0->∀W,Cp 19 #[sX x1 n1 y1,I (Pl.sb l n0)] W λe w'=>e=rT (I (Pl.sb (Pl.sb l n0) n1))/\w'=W):=λh W=>M8 x1 n1 y1 _ W h1 h lb;have sb2:Hid (Pl.sb (Pl.sb l n0) n1<0->Pl.sb (Pl.sb l n0) n1=-1):=λh=>by revert h;unfold Pl.sb;split <;> split <;> omega
 generalize Pl.sb (Pl.sb l n0) n1=r at *;generalize Pl.sb l n0=q at *;by_cases hq:q<0
 ·rw[eD hq]
  go_enter func5,ntmps5;go_wp2_with (go_at_call 19;refine(K0.o _).mono ?_;rintro e w' ⟨rfl,rfl⟩)
  go_ret
  exact⟨rfl,gG⟩
 rw[eB hq];have rm:0<=q:=oM;have K2:=zH (K1.o rm);by_cases hr:r<0
 ·obtain rfl:=sb2.o hr
  exact Ζ
 have eN:0<=r:=oM;exact Ζ
def abX(L:Lm):Cp 9 #[jO L] w (rB (jO L) w):=by
 obtain⟨lf,lc,lr,ls⟩:=L;simp only[jO];go_enter func9,ntmps9;go_wp2;refine eJ (by simp[results,results9,go_sem];try rfl) rfl ?_;exact⟨rfl,gG⟩
end
end
section
variable {w':Wd}{ao:oA}{zs:Ar}{D:Nat}
def O2.ra{B:Nat}{w:Wd}{u0 u1:Va}{a:Ar}(h:O2 B w u0 u1 a):RA (λb=>B<=b/\b<w.1.size) w u0 u1 a:=⟨h.1.ri.mono λb e _=>h.1.lt e,h.2.1.ri.mono λb e _=>h.2.1.lt e⟩
def O2.kp{B:Nat}{P:nK}{w:Wd}{u0 u1:Va}{a:Ar}(h:O2 B w u0 u1 a)(k:Kp P w w')(hp:∀b,B<=b->P b):O2 B w' u0 u1 a:=⟨h.1.kp ⟨k.sz,λb e l=>k.bk b (hp b (h.1.lt e).1) l⟩,h.2.1.kp ⟨k.sz,λb e l=>k.bk b (hp b (h.2.1.lt e).1) l⟩,h.2.2⟩
def XL.up{w:Wd}{c:List Pl.Tv}(h:XP w.1.size w ao c)(k:Bl w w'):XP w'.1.size w' ao c:=XL.mv mT h λb hb=>⟨jL hb k.size,λo=>k.cell (p:=(Y b o)) hb⟩
def XL.fr{B:Nat}{w:Wd}{c:List Pl.Tv}(h:XL QT 4 (Fr B w) w ao c):XP w.1.size w ao c:=XL.mv mT h λb hb=>⟨hb.2.1,λ_=>rfl⟩
abbrev oC(o:Oc)(u0 u1:Va):aV:=#[I o.k,I o.x,u0,u1,I o.f,I o.c]
abbrev oZ:aV:=#[I 0,I 0,nJ,nJ,I 0,I 0]
def aaL{w:Wd}{b:Nat}{v0 v1:Va}(h:Bx w b #[v0,v1] 25):(Instr.loadAt 25 (pT b)).run prog w=.ok (.agg #[v0,v1]) w:=by
 exact ze
def aaK{w:Wd}{b:Nat}{L:Lm}(h:Bx w b #[I L.f,I L.c,.bool L.r,I L.s] 27):(Instr.loadAt 27 (pT b)).run prog w=.ok (jO L) w:=by
 exact ze
def aa6(w:Wd):(Instr.alloc 32 b_ (.tuple #[])).run prog w=.ok (pT w.1.size) (w.alloc (.cells oZ 32)):=by go_simp
def aaG{w:Wd}{b:Nat}{o:Oc}{x0 x1:oA}{n0 y0 n1 y1:Nat}(h:Bx w b oZ 32):∃w',(Instr.storeAt 32 (pT b) (nF o (sX x0 n0 y0) (sX x1 n1 y1))).run prog w=.ok () w'/\Bx w' b (oC o (sX x0 n0 y0) (sX x1 n1 y1)) 32/\w.grownBy w' (a_ b):=by
 have⟨c,f,z⟩:=h.all;refine⟨(((((w.setCell (Y b 0) (I o.k)).setCell (Y b 1) (I o.x)).setCell (Y b 2) (sX x0 n0 y0)).setCell (Y b 3) (sX x1 n1 y1)).setCell (Y b 4) (I o.f)).setCell (Y b 5) (I o.c),by go_simp,((((((h.set 0 _).set 1 _).set 2 _).set 3 _).set 4 _).set 5 _),?_⟩;exact(((((ic w b 0 _).trans (ic _ b 1 _)).trans (ic _ b 2 _)).trans (ic _ b 3 _)).trans (ic _ b 4 _)).trans (ic _ b 5 _)
structure R8(B W:Wd)(p:List Pl.Tv)(a:Ar)(o:Oc)(g:Nat)(u0 u1 v0 v1:Va)(b c:Nat)(k:Bool):Prop where
 bl:Below B.1.size B W
 h1:0<c->XP W.1.size W (sY g 0) p
 h2:1<c->RA (λb=>b<W.1.size) W u0 u1 a
 h3:3<c->O2 B.1.size W v0 v1 o.a/\o.a.1.length<=1000/\o.a.2.length<=1000
 h4:k=b_->B.1.size<=b/\Bx W b oZ 32
section
variable {B W W':Wd} {p:List Pl.Tv} {a:Ar} {o:Pl.Oc} {g:Nat} {u0 u1 v0 v1:Va} {b c:Nat} {k:Bool}
def R8.start(h:Bl B W)(v:Va):R8 B W p a o 0 v v v v 0 0 d_:=⟨h,λh=>oM,λh=>oM,λh=>oM,λh=>by cases h⟩
def R8.eG(M:R8 B W p a o g u0 u1 v0 v1 b c k)(h:Bl W W'):R8 B W' p a o g u0 u1 v0 v1 b c k :=
 ⟨bv h M.bl,λq=>(M.h1 q).up h,λq=>((M.h2 q).kp (.of h)).mono λb hb _=>jL hb h.size,λq=>⟨⟨(M.h3 q).1.1.kp (.of h),(M.h3 q).1.2.1.kp (.of h),(M.h3 q).1.2.2⟩,(M.h3 q).2⟩,λq=>⟨(M.h4 q).1,(M.h4 q).2.below h⟩⟩
def R8.s1(M:R8 B W p a o g u0 u1 v0 v1 b 0 k)(h:Bl W W')(x:Nat)(hx:XP W'.1.size W' (sY x 0) p):R8 B W' p a o x u0 u1 v0 v1 b 1 k :=
 ⟨(M.eG h).bl,λ_=>hx,λq=>oM,λq=>oM,(M.eG h).h4⟩
def R8.s2(M:R8 B W p a o g u0 u1 v0 v1 b 1 k)(h:Bl W W'){x0 x1:Va}(hx:O2 W.1.size W' x0 x1 a):R8 B W' p a o g x0 x1 v0 v1 b 2 k :=
 ⟨(M.eG h).bl,λ_=>(M.eG h).h1 oM,λ_=>hx.ra.mono λb h _=>h.2,λq=>oM,(M.eG h).h4⟩
def R8.s3(M:R8 B W p a o g u0 u1 v0 v1 b 2 k)(h:Bl W W'):R8 B W' p a o g u0 u1 v0 v1 b 3 k :=
 ⟨(M.eG h).bl,λ_=>(M.eG h).h1 oM,λ_=>(M.eG h).h2 oM,λq=>oM,(M.eG h).h4⟩
def R8.s4(M:R8 B W p a o g u0 u1 v0 v1 b 3 k)(h:Bl W W'){x0 x1:Va}(hx:O2 W.1.size W' x0 x1 o.a)(hl:o.a.1.length<=1000/\o.a.2.length<=1000):R8 B W' p a o g u0 u1 x0 x1 b 4 k :=
 ⟨(M.eG h).bl,λ_=>(M.eG h).h1 oM,λ_=>(M.eG h).h2 oM,λ_=>⟨⟨hx.1.base M.bl.size,hx.2.1.base M.bl.size,hx.2.2⟩,hl⟩,(M.eG h).h4⟩
def R8.al(M:R8 B W p a o g u0 u1 v0 v1 b c d_):R8 B (W.alloc (.cells oZ 32)) p a o g u0 u1 v0 v1 W.1.size c b_ :=
 let N:=M.eG (show Bl W (W.alloc (.cells oZ 32)) from by go_grown)
 ⟨N.bl,N.h1,N.h2,N.h3,λ_=>⟨M.bl.size,.new _ _ _⟩⟩
structure F8(B W:Wd)(o:Oc)(b:Nat)(v0 v1:Va):Prop where
 bl:Below B.1.size B W
 lb:B.1.size<=b
 bx:Bx W b (oC o v0 v1) 32
 o2:O2 B.1.size W v0 v1 o.a
 l0:o.a.1.length<=1000
 l1:o.a.2.length<=1000
def R8.fin(M:R8 B W p a o g u0 u1 v0 v1 b 4 b_)(hx:Bx W' b (oC o v0 v1) 32)(hg:W.grownBy W' (a_ b)):F8 B W' o b v0 v1:=by
 have⟨o2,l0,l1⟩:=M.h3 oM;obtain⟨lb,bx⟩:=M.h4 rfl;have k (v:Va) (hv:¬v.ownBlock=a_ b):Kp (λb'=>v.ownBlock=a_ b') W W':=⟨hg.size,λb' e hl=>hg.block b' hl λq=>hv (by rw[e,<- q])⟩;exact⟨qu M.bl hg M.bl.size (λb' e=>by cases e;exact lb),lb,hx,⟨o2.1.kp (k _ (o2.1.ne bx dC)),o2.2.1.kp (k _ (o2.2.1.ne bx dC)),o2.2.2⟩,l0,l1⟩
end
structure LW(w:Wd)(v0 v1:Va)(L:Lm)(W:Wd):Prop where
 bl:Below w.1.size w W
 c4:Bx W w.1.size #[v0,v1] 25
 c5:Bx W (w.1.size+1) #[I L.f,I L.c,.bool L.r,I L.s] 27
def LW.below{w W W':Wd}{v0 v1:Va}{L:Lm}(h:LW w v0 v1 L W)(k:Bl W W'):LW w v0 v1 L W':=⟨bv k h.bl,h.c4.below k,h.c5.below k⟩
structure L8(w:Wd)(v0 v1:Va)(L:Lm)(o:Oc)(b8:Nat)(s0 s1:Va)(B:Nat)(W:Wd):Prop where
 lw:LW w v0 v1 L W
 c8:Bx W b8 (oC o s0 s1) 32
 r8:RA (λb=>b<B) W s0 s1 o.a
 l8:b8<B
 lB:w.1.size+2<=B
 lW:B<=W.1.size
section
variable {w W W':Wd} {v0 v1 s0 s1 y0 y1 z0 z1:Va} {L:Pl.Lm} {o:Pl.Oc} {a:Ar} {b8 pW fP B T C:Nat}
def Bx.TP{b:Nat}{cs:aV}{t:TypeId}(h:Bx W b cs t)(k:Below B W W')(hb:b<B):Bx W' b cs t:=(k.block b hb).trans h
def L8.eG(h:L8 w v0 v1 L o b8 s0 s1 B W)(k:Below B W W'):L8 w v0 v1 L o b8 s0 s1 B W' :=
 have l:=h.lB;⟨⟨h.lw.bl.trans (k.mono oM),h.lw.c4.TP k oM,h.lw.c5.TP k oM⟩,h.c8.TP k h.l8,h.r8.kp ⟨k.size,λb hb _=>k.block b hb⟩,h.l8,h.lB,jT h.lW k.size⟩
def L8.below(h:L8 w v0 v1 L o b8 s0 s1 B W)(k:Bl W W'):L8 w v0 v1 L o b8 s0 s1 B W':=h.eG (k.mono h.lW)
structure rH(w:Wd)(v0 v1:Va)(L:Lm)(o:Oc)(b8:Nat)(s0 s1:Va)(B T pW:Nat)(y0 y1:Va)(fP:Nat)(z0 z1:Va)(W:Wd):Prop where
 lw:L8 w v0 v1 L o b8 s0 s1 B W
 wE:Bx W pW #[y0,y1] 30
 pV:Bx W fP (oC o z0 z1) 32
 l10:T<=pW
 pK:T<=fP
 lT:B<=T
def rH.eG(h:rH w v0 v1 L o b8 s0 s1 B T pW y0 y1 fP z0 z1 W)(k:Below B W W')(kp:Kp (λb=>b=pW\/b=fP) W W'):rH w v0 v1 L o b8 s0 s1 B T pW y0 y1 fP z0 z1 W' :=
 ⟨h.lw.eG k,h.wE.kp kp (.inl rfl),h.pV.kp kp (.inr rfl),h.l10,h.pK,h.lT⟩
def rH.below(h:rH w v0 v1 L o b8 s0 s1 B T pW y0 y1 fP z0 z1 W)(k:Bl W W'):rH w v0 v1 L o b8 s0 s1 B T pW y0 y1 fP z0 z1 W':=h.eG (k.mono h.lw.lW) (.of k)
def rH.kn(h:rH w v0 v1 L o b8 s0 s1 B T pW y0 y1 fP z0 z1 W)(k:Kn (B,T) W W'):rH w v0 v1 L o b8 s0 s1 B T pW y0 y1 fP z0 z1 W' :=
 h.eG k.fI ⟨k.fI.size,λb e l=>k.hi b (by rcases e with rfl | rfl;exact h.l10;exact h.pK) l⟩
def rH.mrk(h:rH w v0 v1 L o b8 s0 s1 B T pW y0 y1 fP z0 z1 W){u0 u1:Va}(ho:O2 D W u0 u1 zs)(hD:B<=D)(k:Below D W W')(kp:Kp (λb=>¬u0.ownBlock=a_ b/\¬u1.ownBlock=a_ b) W W'):rH w v0 v1 L o b8 s0 s1 B T pW y0 y1 fP z0 z1 W' :=
 h.eG (k.mono hD) ⟨kp.sz,λb e=>kp.bk b (by
  rcases e with rfl|rfl
  ·exact⟨ho.1.ne h.wE dC,ho.2.1.ne h.wE dC⟩
  exact⟨ho.1.ne h.pV dC,ho.2.1.ne h.pV dC⟩)⟩
def O2.below{u0 u1:Va}(h:O2 D W u0 u1 zs)(k:Bl W W'):O2 D W' u0 u1 zs:=⟨h.1.kp (.of k),h.2.1.kp (.of k),h.2.2⟩
def O2.kn{u0 u1:Va}(h:O2 D W u0 u1 zs)(k:Kn (B,T) W W')(hD:T<=D):O2 D W' u0 u1 zs:=h.kp (P:=λb=>T<=b) ⟨k.fI.size,λb e l=>k.hi b e l⟩ λb hb=>jT hD hb
end
end
def Yy{X:Prop}(h:X:=by
 iterate 5
  all_goals first
   |(have _g:R8 _ _ _ _ _ _ _ _ _ _ _ 0 d_:=M;refine gT 1 7 rfl rfl ?_ ?_)
   |(have _g:R8 _ _ _ _ _ _ _ _ _ _ _ 1 d_:=M;refine gT 3 7 rfl rfl ?_ ?_)
   |(have _g:R8 _ _ _ _ _ _ _ _ _ _ _ 2 d_:=M;refine gT 5 7 rfl rfl ?_ ?_)
   |(have _g:R8 _ _ _ _ _ _ _ _ _ _ _ 3 d_:=M;refine gT 6 7 rfl rfl ?_ ?_)
   |(have _g:R8 _ _ _ _ _ _ _ _ _ _ _ 4 d_:=M;refine iO 7 rfl ?_)
   |(have _g:R8 _ _ _ _ _ _ _ _ _ _ _ 0 b_:=M;refine iO 1 rfl ?_)
   |(have _g:R8 _ _ _ _ _ _ _ _ _ _ _ 1 b_:=M;refine iO 3 rfl ?_)
   |(have _g:R8 _ _ _ _ _ _ _ _ _ _ _ 2 b_:=M;refine iO 5 rfl ?_)
   |(have _g:R8 _ _ _ _ _ _ _ _ _ _ _ 3 b_:=M;refine iO 6 rfl ?_)
  all_goals first
   |(refine iL (.pointer (a_ ⟨W.1.size,0,c_⟩)) (W.alloc (.cells oZ 32)) rfl (xO _ rfl (aa6 _)) (SS.o _ M.al.bl) ?_
     replace M:=M.al;generalize W.alloc _=Wn at M ⊢;generalize W.1.size=fP at M ⊢;obtain⟨W,rfl⟩:∃Y,Y=Wn:=⟨_,rfl⟩)
   |(have _g:R8 _ _ _ _ _ _ _ _ _ _ _ 0 _:=M
     refine lC rfl kF ((KT.o _ (BB.o _ M.bl)).mono ?_);rintro e Wm ⟨hb,rfl,hx,_⟩;replace M:=M.s1 hb _ hx.o.fr;refine⟨_,rfl,SS.o _ M.bl,?_⟩;generalize W.1.size=gg at M ⊢;obtain⟨W,rfl⟩:∃Y,Y=Wm:=⟨_,rfl⟩)
   |(have _g:R8 _ _ _ _ _ _ _ _ _ _ _ 1 _:=M
     refine lC rfl kF ((KA.o _ (BB.o _ M.bl)).mono ?_);rintro e W ⟨hb,_,_,_,_,rfl,hx⟩;replace M:=M.s2 hb hx.o;refine⟨_,rfl,SS.o _ M.bl,?_⟩)
   |(have _g:R8 _ _ _ _ _ _ _ _ _ _ _ 2 _:=M
     refine lC rfl kF ((KL.o _).mono ?_);rintro e W ⟨rfl,hb⟩;replace M:=M.s3 hb;refine⟨_,rfl,SS.o _ M.bl,?_⟩)
   |(have _g:R8 _ _ _ _ _ _ _ _ _ _ _ 3 _:=M
     refine lC rfl kF ((KR.o _ _ _ _ (BB.o _ M.bl) (M.h1 oM) (M.h2 oM)).mono ?_);rintro e W ⟨hb,tp,ng,tm,m_,rfl,hx⟩;replace M:=M.s4 hb hx.o.1 hx.o.2;refine⟨_,rfl,SS.o _ M.bl,?_⟩)
 all_goals
  have⟨Wn,hr,hx,hg⟩:=aaG (o:=o) (x0:=tp) (n0:=q0) (y0:=ng) (x1:=tm) (n1:=q1) (y1:=m_) (M.h4 rfl).2;have F:=M.fin hx hg;refine ts 8 Wn rfl rfl rfl (jf (.pointer (a_ ⟨fP,0,c_⟩)) (nF o (sX tp q0 ng) (sX tm q1 m_)) rfl kF kF hr) (SS.o _ F.bl) ?_;refine te ?_;have F':=zH F;go_simp;go_wp2;go_meet
  exact⟨_,_,_,_,_,rfl,F'⟩):X:=h
def aho{X:Prop}(h:X:=by
 iterate 3
  all_goals first
   |(have _g:R8 _ _ _ _ _ _ _ _ _ _ _ 2 d_:=M;refine gT 3 5 rfl rfl ?_ ?_)
   |(have _g:R8 _ _ _ _ _ _ _ _ _ _ _ 3 d_:=M;refine gT 4 5 rfl rfl ?_ ?_)
   |(have _g:R8 _ _ _ _ _ _ _ _ _ _ _ 4 d_:=M;refine iO 5 rfl ?_)
   |(have _g:R8 _ _ _ _ _ _ _ _ _ _ _ 2 b_:=M;refine iO 3 rfl ?_)
   |(have _g:R8 _ _ _ _ _ _ _ _ _ _ _ 3 b_:=M;refine iO 4 rfl ?_)
  all_goals first
   |(refine iL (.pointer (a_ ⟨W.1.size,0,c_⟩)) (W.alloc (.cells oZ 32)) rfl (xO _ rfl (aa6 _)) (SS.o _ M.al.bl) ?_
     replace M:=M.al;generalize W.alloc _=Wn at M ⊢;generalize W.1.size=fP at M ⊢;obtain⟨W,rfl⟩:∃Y,Y=Wn:=⟨_,rfl⟩)
   |(have _g:R8 _ _ _ _ _ _ _ _ _ _ _ 2 _:=M
     refine lC rfl kF ((KL.o _).mono ?_);rintro e W ⟨rfl,hb⟩;replace M:=M.s3 hb;refine⟨_,rfl,SS.o _ M.bl,?_⟩)
   |(have _g:R8 _ _ _ _ _ _ _ _ _ _ _ 3 _:=M
     refine lC rfl kF ((KR2.o _ _ _ _ (BB.o _ M.bl) (M.h1 oM) (M.h2 oM)).mono ?_);rintro e W ⟨hb,tp,ng,tm,m_,rfl,hx⟩;replace M:=M.s4 hb hx.o.1 hx.o.2;refine⟨_,rfl,SS.o _ M.bl,?_⟩)
 all_goals
  have⟨Wn,hr,hx,hg⟩:=aaG (o:=o) (x0:=tp) (n0:=q0) (y0:=ng) (x1:=tm) (n1:=q1) (y1:=m_) (M.h4 rfl).2;have F:=M.fin hx hg;refine ts 6 Wn rfl rfl rfl (jf (.pointer (a_ ⟨fP,0,c_⟩)) (nF o (sX tp q0 ng) (sX tm q1 m_)) rfl kF kF hr) (SS.o _ F.bl) ?_;refine te ?_;have F':=zH F;go_simp;go_wp2;go_meet
  exact⟨_,_,_,_,_,rfl,F'⟩):X:=h
def akE.ε(h:ρ:=by
 have M:R8 xQ xQ.drew p a o 0 undef undef undef undef 0 0 d_:=R8.start (show Bl xQ _ from by go_grown) undef;have KR:=KR2;generalize xQ.drew=W at *;exact Yy
 ):ρ:=h
def akD.ε(h:ρ:=by
 have M:R8 w2 w2.drew p a o 0 undef undef undef undef 0 0 d_:=R8.start (show Bl w2 _ from by go_grown) undef;generalize w2.drew=W at *;exact Yy
 ):ρ:=h
def adm(p:List Pl.Tv)(ao:oA)(cap:Nat)(v0 v1:Va)(a:Ar)(L:Lm)(mb mo cp:Nat)(w:Wd)(hk:DX p)(he:Ev w mb mo cp)(hR:jF w.1.size w ao p)(hA:RA (λb=>b<w.1.size) w v0 v1 a)
  (g:¬Pl.sb 1048576 (wP p)<0) (g2:¬(if Pl.sb (Pl.sb 1048576 (wP p)) a.1.length<0 then -1 else Pl.sb (Pl.sb (Pl.sb 1048576 (wP p)) a.1.length) a.2.length)<0) :
  Cp 3 #[sX ao p.length cap,.agg #[v0,v1],jO L] w (rB (.bool b_) w):=by
 have l0:=g;have l1:Pl.sb 1048576 (wP p)<=1048576:=by unfold Pl.sb;split <;> omega
 have BZ:a.1.length<=1048576/\a.2.length<=1048576:=by
  revert g2;generalize Pl.sb 1048576 (wP p)=l at *;unfold Pl.sb;split <;> split <;> (try split) <;> omega
 have HS:=zH (afA g);have HZ:=zH (aea HS.o);have HT:=zH (jA (aeg HS.o) (alk g));have K0:=zH λW (k:Bl w W)=>M4 p ao cap 1048576 W hk oM oM ((hR.eG k).up k.size);have KT:Hid (∀W,Bl w W->Cp 7 #[sX ao p.length cap] W λe w'=>Bl W w'/\e=rT (sX (a_ ⟨W.1.size,0,c_⟩) p.length p.length)/\Hid (XL QT 4 (Fr W.1.size w') w' (a_ ⟨W.1.size,0,c_⟩) p)/\W.1.size<w'.1.size):=λW k=>by
  refine(acA p ao cap W HZ.o.1 HZ.o.2 ((hR.eG k).up k.size)).mono ?_;rintro e w2 ⟨rfl,hx,hb,hl⟩;exact⟨hb,rfl,hx,hl⟩
 have KA0:=zH λW (k:Bl w W)=>acC (w:=W) v0 v1 a (hA.kp (.of k)) BZ.1 BZ.2;have KL:=zH λW=>abX (w:=W) L;obtain⟨⟨x0,y0,rfl⟩,x1,y1,rfl⟩:=hA.eS;have K1:=zH λW=>UN (w:=W) x0 x1 a.1.length y0 a.2.length y1 (Pl.sb 1048576 (wP p)) oM oM oM l1;obtain⟨o,HO⟩:∃o,Hid (o=Pl.oc (mA L && Pl.okB a && l_ p) (Pl.rn Kz.k1 Kz.k2 L p a)):=⟨_,rfl⟩;have KB:Hid (∀W g u0 u1,Bl w W->XP W.1.size W (a_ ⟨g,0,c_⟩) p->RA (λb=>b<W.1.size) W u0 u1 a->Cp 6 #[sX (a_ ⟨g,0,c_⟩) p.length p.length,.agg #[u0,u1],jO L] W (UQ W o)/\Cp 10 #[sX (a_ ⟨g,0,c_⟩) p.length p.length,.agg #[u0,u1],jO L] W (IZ W o)):=λW g u0 u1 k hx hr=>by
  rw[HO.o];exact afO u0 u1 a W hr p (a_ ⟨g,0,c_⟩) p.length mb mo cp hx HS.o (he.eG k) hx.Rm L
 have⟨q0,Q0⟩:=jN (o.a.1.length);have⟨q1,Q1⟩:=jN (o.a.2.length);have KR:Hid (∀W g u0 u1,Bl w W->XP W.1.size W (a_ ⟨g,0,c_⟩) p->RA (λb=>b<W.1.size) W u0 u1 a->Cp 6 #[sX (a_ ⟨g,0,c_⟩) p.length p.length,.agg #[u0,u1],jO L] W λe w'=>Bl W w'/\∃x0 y0 x1 y1,e=rT (nF o (sX x0 q0 y0) (sX x1 q1 y1))/\Hid (O2 W.1.size w' (sX x0 q0 y0) (sX x1 q1 y1) o.a/\o.a.1.length<=1000/\o.a.2.length<=1000)):=λW g u0 u1 k hx hr=>by
  refine(KB.o W g u0 u1 k hx hr).1.mono ?_;rintro e w' ⟨hl,hb,s0,s1,rfl,h2⟩;have⟨x,y,e0⟩:=h2.1.form;have⟨x',y',e1⟩:=h2.2.1.form;rw[Q0.o] at e0;rw[Q1.o] at e1;subst e0 e1;exact⟨hb,_,_,_,_,rfl,h2,hl⟩
 have KI:Hid (∀W g u0 u1,Bl w W->XP W.1.size W (a_ ⟨g,0,c_⟩) p->RA (λb=>b<W.1.size) W u0 u1 a->Cp 10 #[sX (a_ ⟨g,0,c_⟩) p.length p.length,.agg #[u0,u1],jO L] W λe w'=>Bl W w'/\∃x0 y0 x1 y1,e=rT (nF o (sX x0 q0 y0) (sX x1 q1 y1))/\Hid (O2 W.1.size w' (sX x0 q0 y0) (sX x1 q1 y1) o.a)):=λW g u0 u1 k hx hr=>by
  refine(KB.o W g u0 u1 k hx hr).2.mono ?_;rintro e w' ⟨hb,s0,s1,rfl,h2⟩;have⟨x,y,e0⟩:=h2.1.form;have⟨x',y',e1⟩:=h2.2.1.form;rw[Q0.o] at e0;rw[Q1.o] at e1;subst e0 e1;exact⟨hb,_,_,_,_,rfl,h2⟩
 have KA:Hid (∀W,Bl w W->Cp 8 #[.agg #[sX x0 a.1.length y0,sX x1 a.2.length y1]] W λe w'=>Bl W w'/\∃x y x' y',e=rT (.agg #[sX x a.1.length y,sX x' a.2.length y'])/\Hid (O2 W.1.size w' (sX x a.1.length y) (sX x' a.2.length y') a)):=λW k=>by
  refine(KA0.o W k).mono ?_;rintro e w' ⟨hb,s0,s1,rfl,h2⟩;obtain⟨x,y,rfl⟩:=h2.1.form;obtain⟨x',y',rfl⟩:=h2.2.1.form;exact⟨hb,_,_,_,_,rfl,h2⟩
 have KE:Hid ((q0<=1000/\q1<=1000)->∀W (P Q:nK) (s0 s1 s2 s3:Va),RA P W s0 s1 o.a->RA Q W s2 s3 o.a->Cp 11 #[nF o s0 s1,nF o s2 s3] W (rB (.bool b_) W)):=λhl W P Q s0 s1 s2 s3 h h'=>aby (P:=λ_=>True) o s0 s1 s2 s3 (h.mono λ_ _ _=>trivial) (h'.mono λ_ _ _=>trivial) (by rw[Q0.o];omega) (by rw[Q1.o];omega);have KQ:Hid (∀W b1 b2,jF W.1.size W b1 p->jF W.1.size W b2 p->Cp 12 #[sX b1 p.length p.length,sX b2 p.length p.length] W λe w2=>e=rT (.bool b_)/\Bl W w2):=λW b1 b2 h1 h2=>acu p b1 b2 p.length p.length W HZ.o.1 HZ.o.2 h1 h2;have KV:Hid (∀W (P Q:nK) (s0 s1 s2 s3:Va),RA P W s0 s1 a->RA Q W s2 s3 a->Cp 13 #[.agg #[s0,s1],.agg #[s2,s3]] W (rB (.bool b_) W)):=λW P Q s0 s1 s2 s3 h h'=>UK (P:=λ_=>True) s0 s1 s2 s3 a (h.mono λ_ _ _=>trivial) (h'.mono λ_ _ _=>trivial) BZ.1 BZ.2;have KM:Hid (∀(B:Nat × Nat) W x,CK B W x p->B.1<=W.1.size->Cp 14 #[sX x p.length p.length,I 1] W λe w'=>(∃k:Nat,e=rT (I (k:Int))/\k<=6291457)/\Kn B W w'):=λB W x h hB=>by
  refine(acK (B:=B) (w:=W) x p p.length 1 h hB HZ.o.1 HT.o.1 oM (by have:=HT.o.2;omega)).k λw' k=>?_;exact⟨⟨_,rfl,by have:=HT.o.2;omega⟩,k⟩
 have KN:Hid (∀(D:Nat) W (s0 s1:Va) (m:Nat),O2 D W s0 s1 a->D<=W.1.size->m<=6291457->Cp 15 #[.agg #[s0,s1],I (m:Int)] W λe w'=>(∃k:Nat,e=rT (I (k:Int)))/\Below D W w'/\Kp (λb=>¬s0.ownBlock=a_ b/\¬s1.ownBlock=a_ b) W w'):=λD W s0 s1 m h hD hm=>by
  refine(UD (B:=D) (w:=W) s0 s1 a (m:Int) h hD BZ.1 BZ.2 oM oM).mono ?_;rintro e w' ⟨rfl,hb,hk,_⟩;exact⟨⟨m+a.1.length+a.2.length,sI⟩,hb,hk⟩
 have KO:Hid ((q0<=1000/\q1<=1000)->∀(D:Nat) W (s0 s1:Va),O2 D W s0 s1 o.a->D<=W.1.size->Cp 16 #[nF o s0 s1,I 1] W λe w'=>e=rT (I (1+q0+q1))/\Below D W w'/\Kp (λb=>¬s0.ownBlock=a_ b/\¬s1.ownBlock=a_ b) W w'/\Hid (Rw (λ_=>True) w' s0 (marks 1 q0)/\Rw (λ_=>True) w' s1 (marks (1+q0) q1))):=λhl D W s0 s1 h hD=>by
  refine(abg (B:=D) (w:=W) o s0 s1 1 h hD (by rw[Q0.o];omega) (by rw[Q1.o];omega) oM oM).mono ?_;rintro e w' ⟨rfl,hb,hk,r0,r1⟩;rw[Q0.o] at r0 r1 ⊢;rw[Q1.o] at r1 ⊢;exact⟨rfl,hb,hk,r0,r1⟩
 have KH:Hid ((q0<=1000/\q1<=1000)->∀W (s0 s1:Va),Rw (λ_=>True) W s0 (marks 1 q0)->Rw (λ_=>True) W s1 (marks (1+q0) q1)->Cp 17 #[nF o s0 s1,I 1] W (rB (I (1+q0+q1)) W)):=λhl W s0 s1 h h'=>abj (P:=λ_=>True) (w:=W) o s0 s1 1 q0 q1 h h' oM oM oM oM;generalize Pl.sb 1048576 (wP p)=r0 at *;generalize (if Pl.sb r0 a.1.length<0 then -1 else Pl.sb (Pl.sb r0 a.1.length) a.2.length)=r1,p.length=n,a.1.length=n0,a.2.length=n1 at *;go_enter func3,ntmps3;go_wp2_with fail;generalize hW:ew (ew w _) _=W0;have V:=jU hW;have S0:Hid (LW w (sX x0 n0 y0) (sX x1 n1 y1) L W0):=⟨V.o.2.2.1,V.o.1,V.o.2.1⟩;refine(K0.o W0 S0.o.bl).k λw1 hb=>?_;replace S0:=zH (S0.o.below hb);obtain⟨c4,f4,z4⟩:=S0.o.c4.all;go_wp2_with fail;refine(K1.o w1).k λw2 hb=>?_;replace S0:=zH (S0.o.below hb);go_wp2_with fail;have SS:Hid (∀W,Bl w2 W->Bx W w.1.size #[sX x0 n0 y0,sX x1 n1 y1] 25/\Bx W (w.1.size+1) #[I L.f,I L.c,.bool L.r,I L.s] 27):=λW k=>⟨(S0.o.below k).c4,(S0.o.below k).c5⟩;have BB:Hid (∀W,Bl w2 W->Bl w W):=λW k=>bv k S0.o.bl;go_cut [8] from 26 (λv8 W=>∃pb tp ng tm m_,v8=.pointer (a_ ⟨pb,0,c_⟩)/\Hid (F8 w2 W o pb (sX tp q0 ng) (sX tm q1 m_)))
 case first =>
  refine fT (S:=λW=>Bx W w.1.size #[sX x0 n0 y0,sX x1 n1 y1] 25/\Bx W (w.1.size+1) #[I L.f,I L.c,.bool L.r,I L.s] 27) kF (SS.o w2 (jD _ _)) (λhS=>?_);open akD in exact Η
 obtain⟨b8,sx0,sy0,sx1,sy1,rfl,hF⟩:=hcut;have HQ:q0<=1000/\q1<=1000:=by have h0:=hF.o.l0;have h1:=hF.o.l1;rw[Q0.o] at h0;rw[Q1.o] at h1;exact⟨h0,h1⟩
 have S8:Hid (L8 w (sX x0 n0 y0) (sX x1 n1 y1) L o b8 (sX sx0 q0 sy0) (sX sx1 q1 sy1) wc.1.size wc):=⟨S0.o.below hF.o.bl,hF.o.bx,hF.o.o2.ra.mono λb h _=>h.2,hF.o.bx.lt,(S0.o.below hF.o.bl).c5.lt,jR _⟩;have KR2:Hid (∀W g u0 u1,Bl w W->XP W.1.size W (a_ ⟨g,0,c_⟩) p->RA (λb=>b<W.1.size) W u0 u1 a->Cp 10 #[sX (a_ ⟨g,0,c_⟩) n n,.agg #[u0,u1],jO L] W λe w'=>Bl W w'/\∃x0 y0 x1 y1,e=rT (nF o (sX x0 q0 y0) (sX x1 q1 y1))/\Hid (O2 W.1.size w' (sX x0 q0 y0) (sX x1 q1 y1) o.a/\o.a.1.length<=1000/\o.a.2.length<=1000)):=λW g u0 u1 k hx hr=>(KI.o W g u0 u1 k hx hr).mono λe w' ⟨hb,x,y,x',y',he,h2⟩=>⟨hb,x,y,x',y',he,h2.o,by rw[Q0.o,Q1.o];exact HQ⟩;replace KE:=zH (KE.o HQ);replace KO:=zH (KO.o HQ);replace KH:=zH (KH.o HQ);go_wp2_with fail;refine(KT.o _ S8.o.lw.bl).mono ?_;rintro e w3 ⟨hb,rfl,hx,hl⟩;replace S8:=zH (S8.o.below hb);have XM:=zH hx.o.mt;have XR:=zH hx.o.fr;have BT:wc.1.size<=w3.1.size:=hb.size;generalize wc.1.size=B at *;obtain⟨c4,f4,z4⟩:=S8.o.lw.c4.all;go_wp2_with fail;refine(KA.o _ S8.o.lw.bl).mono ?_;rintro e w4 ⟨hb,zK,ng,zJ,m_,rfl,hy⟩;replace S8:=zH (S8.o.below hb);replace XM:=zH (XM.o.kn (Kn.of hb BT));replace XR:=zH (XR.o.up hb);have TW:w3.1.size<=w4.1.size:=hb.size;generalize w3.1.size=T at *;go_wp2_with fail;generalize hW:ew w4 _=w5;have V:=jV hW;replace S8:=zH (S8.o.below V.o.2.1);replace XM:=zH (XM.o.kn (Kn.of V.o.2.1 (jT BT TW)));replace XR:=zH (XR.o.up V.o.2.1);have nY:=zH (hy.o.below V.o.2.1);have C10:=zH V.o.1;have TC:Hid (T<=w4.1.size/\T<=w5.1.size):=⟨TW,jT TW V.o.2.1.size⟩;have SS:Hid (∀W,Bl w5 W->Bx W w4.1.size #[sX zK n0 ng,sX zJ n1 m_] 30/\Bx W (w.1.size+1) #[I L.f,I L.c,.bool L.r,I L.s] 27):=λW k=>⟨C10.o.below k,(S8.o.below k).lw.c5⟩;have BB:Hid (∀W,Bl w5 W->Bl w W):=λW k=>bv k S8.o.lw.bl;go_cut [11] from 37 (λv8 W=>∃pb tp ng tm m_,v8=.pointer (a_ ⟨pb,0,c_⟩)/\Hid (F8 w5 W o pb (sX tp q0 ng) (sX tm q1 m_)))
 case first =>
  refine fT (S:=λW=>Bx W w4.1.size #[sX zK n0 ng,sX zJ n1 m_] 30/\Bx W (w.1.size+1) #[I L.f,I L.c,.bool L.r,I L.s] 27) kF (SS.o w5 (jD _ _)) (λhS=>?_);refine tk 0 (sX (a_ ⟨B,0,c_⟩) n n) rfl hS (λ_ _=>kF) ?_;refine tk 1 _ rfl hS (λ_ h=>fh _ _ rfl kF (oL h.1)) ?_;refine tk 2 _ rfl hS (λ_ h=>fh _ _ rfl kF (aaK h.2)) ?_;have M:R8 w5 w5.drew p a o B (sX zK n0 ng) (sX zJ n1 m_) undef undef 0 2 d_ :=
   have k:Bl w5 w5.drew:=gG;⟨k,λ_=>XR.o.up k,λ_=>(nY.o.ra.kp (.of k)).mono λb h _=>h.2,λh=>oM,λh=>by cases h⟩
  generalize w5.drew=W at *;exact aho
 obtain⟨fP,zx0,zy0,zx1,zy1,rfl,hF⟩:=hcut;have S:Hid (rH w (sX x0 n0 y0) (sX x1 n1 y1) L o b8 (sX sx0 q0 sy0) (sX sx1 q1 sy1) B T w4.1.size (sX zK n0 ng) (sX zJ n1 m_) fP (sX zx0 q0 zy0) (sX zx1 q1 zy1) wc):=⟨S8.o.below hF.o.bl,C10.o.below hF.o.bl,hF.o.bx,TC.o.1,jT TC.o.2 hF.o.lb,BT⟩;replace XM:=zH (XM.o.kn (Kn.of hF.o.bl S8.o.lW));replace XR:=zH (XR.o.up hF.o.bl);have YC:Hid (∀b,(Value.slice zK n0 ng).ownBlock=a_ b\/(Value.slice zJ n1 m_).ownBlock=a_ b->b<w5.1.size):=λb h=>h.elim (λe=>(nY.o.1.lt e).2) λe=>(nY.o.2.1.lt e).2;replace nY:=zH (nY.o.below hF.o.bl);have nX:=zH hF.o.o2;have CW:Hid (T<=w5.1.size/\w5.1.size<=wc.1.size):=⟨TC.o.2,hF.o.bl.size⟩;generalize w5.1.size=C,w4.1.size=pW at *;obtain⟨c8,f8,z8⟩:=S.o.lw.c8.all;obtain⟨pV,f11,Kj⟩:=S.o.pV.all;go_wp2_with fail;refine(KE.o _ _ _ _ _ _ _ nX.o.ra S.o.lw.r8).k λw6 hb=>?_;replace S:=zH (S.o.below hb);replace XM:=zH (XM.o.kn (Kn.of hb (jT BT (jT CW.o.1 CW.o.2))));replace XR:=zH (XR.o.up hb);replace nY:=zH (nY.o.below hb);replace nX:=zH (nX.o.below hb);replace CW:Hid (T<=C/\C<=w6.1.size):=⟨CW.o.1,jT CW.o.2 hb.size⟩;go_wp2_with fail;refine(KT.o _ S.o.lw.lw.bl).mono ?_;rintro e w7 ⟨hb,rfl,hx,hl⟩;replace S:=zH (S.o.below hb);replace XM:=zH (XM.o.kn (Kn.of hb (jT BT (jT CW.o.1 CW.o.2))));replace XR:=zH (XR.o.up hb);have XQ:=zH hx.o.fr;replace nY:=zH (nY.o.below hb);replace nX:=zH (nX.o.below hb);replace CW:Hid (T<=C/\C<=w7.1.size):=⟨CW.o.1,jT CW.o.2 hb.size⟩;go_wp2_with fail;refine(KQ.o _ _ _ XR.o.Rm XQ.o.Rm).k λw8 hb=>?_;replace S:=zH (S.o.below hb);replace XM:=zH (XM.o.kn (Kn.of hb (jT BT (jT CW.o.1 CW.o.2))));replace nY:=zH (nY.o.below hb);replace nX:=zH (nX.o.below hb);replace CW:Hid (T<=C/\C<=w8.1.size):=⟨CW.o.1,jT CW.o.2 hb.size⟩;go_wp2_with fail;have SS:Hid (∀W,Bl w8 W->Bx W pW #[sX zK n0 ng,sX zJ n1 m_] 30/\Bx W w.1.size #[sX x0 n0 y0,sX x1 n1 y1] 25):=λW k=>⟨(S.o.below k).wE,(S.o.below k).lw.lw.c4⟩;refine fT (S:=λW=>Bx W pW #[sX zK n0 ng,sX zJ n1 m_] 30/\Bx W w.1.size #[sX x0 n0 y0,sX x1 n1 y1] 25) kF (SS.o w8 (jD _ _)) (λhS=>?_);refine tk 0 _ rfl hS (λ_ h=>fh _ _ rfl kF (oL h.1)) ?_;refine tk 1 _ rfl hS (λ_ h=>fh _ _ rfl kF (aaL h.2)) ?_;have kD:Bl w8 w8.drew:=gG;generalize w8.drew=W9 at *;refine tc 2 _ _ rfl rfl kF ((KA.o _ (bv kD S.o.lw.lw.bl)).mono ?_);rintro e w9 ⟨hb,ux0,uy0,ux1,uy1,rfl,hu⟩;have k9:=bv hb kD;refine .inl ⟨_,rfl,SS.o _ k9,?_⟩;refine tc 3 _ _ rfl rfl kF ((KV.o _ _ _ _ _ _ _ (nY.o.below k9).ra hu.o.ra).mono ?_);rintro e w10 ⟨rfl,hb2⟩;have om:=bv hb2 k9;refine .inl ⟨_,rfl,SS.o _ om,?_⟩;refine tk 4 (.bool d_) rfl (SS.o _ om) (λ_ _=>kF) ?_;refine te ?_;replace S:=zH (S.o.below om);replace XM:=zH (XM.o.kn (Kn.of om (jT BT (jT CW.o.1 CW.o.2))));replace nY:=zH (nY.o.below om);replace nX:=zH (nX.o.below om);replace CW:Hid (T<=C/\C<=w10.1.size):=⟨CW.o.1,jT CW.o.2 om.size⟩;go_simp;go_wp2_with fail;refine(KM.o (B,T) _ _ XM.o (jT BT (jT CW.o.1 CW.o.2))).mono ?_;rintro e w11 ⟨⟨m1,rfl,gJ⟩,kn⟩;replace S:=zH (S.o.kn kn);replace nY:=zH (nY.o.kn kn (jR _));replace nX:=zH (nX.o.kn kn CW.o.1);replace CW:Hid (T<=C/\C<=w11.1.size):=⟨CW.o.1,jT CW.o.2 kn.fI.size⟩;obtain⟨wE,f10,z10⟩:=S.o.wE.all;go_wp2_with fail;refine(KN.o T _ _ _ m1 nY.o (jT CW.o.1 CW.o.2) gJ).mono ?_;rintro e w12 ⟨⟨m2,rfl⟩,hb,kp⟩;replace S:=zH (S.o.mrk nY.o BT hb kp);replace nX:=zH (nX.o.kp kp λb hb=>⟨λe=>by have:=YC.o b (.inl e);omega,λe=>by have:=YC.o b (.inr e);omega⟩);replace CW:Hid (C<=w12.1.size/\B<=C):=⟨jT CW.o.2 hb.size,jT BT CW.o.1⟩;obtain⟨c8,f8,z8⟩:=S.o.lw.c8.all;obtain⟨pV,f11,Kj⟩:=S.o.pV.all;go_wp2_with fail;refine(KE.o _ _ _ _ _ _ _ nX.o.ra S.o.lw.r8).k λw13 hb=>?_;replace S:=zH (S.o.below hb);replace nX:=zH (nX.o.below hb);replace CW:Hid (C<=w13.1.size/\B<=C):=⟨jT CW.o.1 hb.size,CW.o.2⟩;obtain⟨pV,f11,Kj⟩:=S.o.pV.all;go_wp2_with fail;refine(KO.o C _ _ _ nX.o CW.o.1).mono ?_;rintro e w14 ⟨rfl,hb,kp,rr⟩;replace S:=zH (S.o.mrk nX.o CW.o.2 hb kp);obtain⟨pV,f11,Kj⟩:=S.o.pV.all;go_wp2_with fail;refine(KH.o _ _ _ rr.o.1 rr.o.2).k λxQ hb=>?_;replace S:=zH (S.o.lw.below hb);have e1:¬(1+(q0:Int)+(q1:Int)<0):=oM;have e2:(1+(q0:Int)+(q1:Int) != 1+(q0:Int)+(q1:Int))=d_:=sI;go_wp2_with fail;have SS:Hid (∀W,Bl xQ W->Bx W w.1.size #[sX x0 n0 y0,sX x1 n1 y1] 25/\Bx W (w.1.size+1) #[I L.f,I L.c,.bool L.r,I L.s] 27):=λW k=>⟨(S.o.below k).lw.c4,(S.o.below k).lw.c5⟩;have BB:Hid (∀W,Bl xQ W->Bl w W):=λW k=>bv k S.o.lw.bl;go_cut [15] from 81 (λv8 W=>∃pb tp ng tm m_,v8=.pointer (a_ ⟨pb,0,c_⟩)/\Hid (F8 xQ W o pb (sX tp q0 ng) (sX tm q1 m_)))
 case first =>
  refine fT (S:=λW=>Bx W w.1.size #[sX x0 n0 y0,sX x1 n1 y1] 25/\Bx W (w.1.size+1) #[I L.f,I L.c,.bool L.r,I L.s] 27) kF (SS.o xQ (jD _ _)) (λhS=>?_);open akE in exact Η
 obtain⟨b15,tx0,ty0,tx1,ty1,rfl,hF⟩:=hcut;replace S:=zH (S.o.below hF.o.bl);obtain⟨c8,f8,z8⟩:=S.o.c8.all;obtain⟨pV,f11,Kj⟩:=hF.o.bx.all;go_wp2_with fail;refine(KE.o _ _ _ _ _ _ _ hF.o.o2.ra S.o.r8).k λw16 hb=>?_;replace S:=zH (S.o.below hb);go_wp2;go_ret
 exact⟨rfl,S.o.lw.bl⟩
def akI.η(h:ρ:=by
 obtain⟨c4,f4,z4⟩:=(V.o.1.below hb).all;go_wp2_with fail;refine(K1.o w1).k λw2 hb=>?_;replace B:=zH (bv hb B.o);go_wp2;go_ret
 exact⟨rfl,B.o⟩
 ):ρ:=h
def akH.η(h:ρ:=by
 go_wp2;go_ret
 exact⟨rfl,B.o⟩
 ):ρ:=h
def ahl(p:List Pl.Tv)(ao:oA)(cap:Nat)(v0 v1:Va)(a:Ar)(L:Lm)(mb mo cp:Nat)(w:Wd)(hk:DX p)(he:Ev w mb mo cp)(hR:jF w.1.size w ao p)(hA:RA (λb=>b<w.1.size) w v0 v1 a):
  Cp 3 #[sX ao p.length cap,.agg #[v0,v1],jO L] w (rB (.bool b_) w):=by
 by_cases g:Pl.sb 1048576 (wP p)<0
 ·have K0:=zH λW (k:Bl w W)=>M4 p ao cap 1048576 W hk oM oM ((hR.eG k).up k.size)
  obtain⟨⟨x0,y0,rfl⟩,x1,y1,rfl⟩:=hA.eS;open akH in exact Ι
 by_cases g2:(if Pl.sb (Pl.sb 1048576 (wP p)) a.1.length<0 then -1 else Pl.sb (Pl.sb (Pl.sb 1048576 (wP p)) a.1.length) a.2.length)<0
 ·have l1:Pl.sb 1048576 (wP p)<=1048576:=by unfold Pl.sb;split <;> omega
  have K0:=zH λW (k:Bl w W)=>M4 p ao cap 1048576 W hk oM oM ((hR.eG k).up k.size);obtain⟨⟨x0,y0,e0,LU,h01,_⟩,x1,y1,e1,mJ,h11,_⟩:=hA;subst e0 e1;have K1:=zH λW=>UN (w:=W) x0 x1 a.1.length y0 a.2.length y1 (Pl.sb 1048576 (wP p)) oM oM oM l1;generalize (if Pl.sb (Pl.sb 1048576 (wP p)) a.1.length<0 then -1 else Pl.sb (Pl.sb (Pl.sb 1048576 (wP p)) a.1.length) a.2.length)=r1 at *;open akI in exact Ι
 exact adm p ao cap v0 v1 a L mb mo cp w hk he hR hA g g2
open Go.ChangeShapes Go.WideShapes Go.ChangeAt Go.RowKit Go.Joins
set_option maxRecDepth 100000
set_option maxHeartbeats 16000000
set_option maxRecDepth 100000
open World renaming setCell->ez,alloc->ew
open List renaming range->eA,replicate->eE
open Option renaming some->a_,none->c_
open Bool renaming true->b_,false->d_
variable {W:Wd}
def Tryz.own:ownKnob prog.godebug=c_:=kF
def Tryz.laidOut:laidOutB prog=b_:=jf1
theorem Tryz.ape : Tryz.prog.globalNamed "internal/strconv.uint64pow10" = some 4 := by kernel_rfl
def Tryz.aoc:(prog.globals[4]?).map (·.type)=a_ 292:=kF
def Tryz.api:prog.cellsOf 280=1:=kF
def Tryz.aph:prog.cellsOf 292=20:=kF
theorem Tryz.D0 : Tryz.prog.globalNamed "loop.example/s02135/impl.meanings" = some 0 := by kernel_rfl
def Tryz.QM:(prog.globals[0]?).map (·.type)=a_ 232:=kF
def Tryz.aa4:prog.cellsOf 234=5:=kF
def aeF(h:W.ShapedOpen prog):∃m,W.cell? ⟨1,0,c_⟩=a_ (.int .i64 m) :=
 cell_of_shapedOpen_int (g:=1) (t:=3) (zero:=#[.int .i64 0]) h (rS kF) kF rfl kF kF underlying3
theorem alo {r : List (String × DataW Unit)} (h : laidMet Tryz.prog (("internal/strconv.uint64pow10", Rows.laid_internal_strconv_uint64pow10) :: r) W) : E7 W :=
 Lib.tabIs_of_head (zs:=Lib.pow10Tab) Tryz.ape Tryz.aoc underlying292 underlying280 Tryz.api Tryz.aph h
def Lb(m:Mg):DataW Unit:=.agg [.lit (.string m.t),.lit (.int .i64 m.ok),.lit (.int .i64 m.ow),.lit (.int .i64 m.tk),.lit (.int .i64 m.tw)]
def age:Rows.laid_loop_example_s02135_impl_meanings=.slice (Pl.fX.map Lb) []:=rfl
def adC{n:Nat}{cs:List Va}{m:Mg}{p:List MemPlace}(h:DataW.trod (λ_=>()) prog W 0 (λ_=>b_) d_ n 234 cs=a_ (Lb m,p)):
  cs=[.string (Pl.ba m.t),.int .i64 m.ok,.int .i64 m.ow,.int .i64 m.tk,.int .i64 m.tw]:=by
 have⟨xs,n,_,hx,hl,hxl,hf⟩:=DataW.trod_struct underlying234 h;rw[Tryz.aa4] at hl;match cs,hl,xs,hxl with
 |[c0,c1,c2,c3,c4],_,[x0,x1,x2,x3,x4],_ =>
  have h0:=hf 0 _ rfl;have h1:=hf 1 _ rfl;have h2:=hf 2 _ rfl;have h3:=hf 3 _ rfl;have h4:=hf 4 _ rfl;simp[Tryz.Dt,Tryz.Hz] at h0 h1 h2 h3 h4
  have⟨s0,e0,d0,_⟩:=Ig underlying9 h0;obtain⟨k1,e1,d1,_⟩:=qS underlying3 h1;obtain⟨k2,e2,d2,_⟩:=qS underlying3 h2;have⟨k3,e3,d3,_⟩:=qS underlying3 h3;have⟨k4,e4,d4,_⟩:=qS underlying3 h4;simp at e0 e1 e2 e3 e4
  subst e0 e1 e2 e3 e4 d0 d1 d2 d3 d4;simp[Lb] at hx
  obtain⟨⟨q0,q1,q2,q3,q4⟩,_⟩:=hx;rw[q0,q1,q2,q3,q4];rfl
theorem anH {r : List (String × DataW Unit)} (h : laidMet Tryz.prog (("loop.example/s02135/impl.meanings", Rows.laid_loop_example_s02135_impl_meanings) :: r) W) (hs : W.ShapedOpen Tryz.prog) :
  ∃mb mo cp,Mt W mb mo cp:=by
 obtain⟨ps,⟨g,t,cs,fuel,p,q,hg,ht,QU,hd,_,_⟩,_⟩:=h;obtain rfl:=qT (Tryz.D0.symm.trans hg);obtain rfl:=qT (Tryz.QM.symm.trans ht);have⟨x,Ei⟩:=aeF hs;have hz:=PL _ _ Ei;rw[age] at hd;rcases Go.Deep.open_slice underlying232 hd with ⟨_,e⟩|⟨a,len,cap,m,n',D,P,j9,_,hl,hm,qA,e,hx⟩
 ·simp at e
 have hc0:W.cell? ⟨0,0,c_⟩=a_ (.slice (a_ a) len cap):=by
  have:=World.var?_cell Tryz.D0 QU 0;rw[this];obtain⟨l⟩:=cs;simp at j9
  subst j9;rfl
 simp only[kH,DataW.slice.injEq] at e;obtain⟨⟨e1,e2⟩,_⟩:=e;have hlen:len=25:=by
  have:=lQ List.length e1;simp at this
  exact this.symm.trans rfl
 subst hlen;simp only[kI] at qA;have each:∀(k:Nat)(mg:Mg),Pl.fX[k]? = a_ mg->∃Ae,Ae=[.string (Pl.ba mg.t),.int .i64 mg.ok,.int .i64 mg.ow,.int .i64 mg.tk,.int .i64 mg.tw]/\∀j,j<5->W.cell? (a.add (k * 5+j))=Ae[j]?:=λk mg hk=>by
  have aoY:k<25:=(gQ.1 hk).1;have⟨Ae,h1,h2⟩:=hx k oM;have hD:D k=Lb mg:=by
   have:=lQ (λl=>l[k]?) e1;simp[hk,aoY] at this
   exact this.symm
  rw[hD] at h2;rw[Tryz.aa4] at h1;have⟨_,hl5,vC⟩:=World.cells?_some h1;refine⟨Ae,adC h2,λj hj=>?_⟩;have:=vC j hj;rwa [Go.Deep.add_add] at this
 obtain⟨b,off,spot⟩:=a;obtain⟨cs0,rfl,hc⟩:=each 0 _ rfl;have hc:=hc 0 dC;have Qg:spot=c_:=by simpa[Addr.add] using World.cell?_spot hc
 subst Qg;refine⟨b,off,cap,hc0,?_,hz,λk mg hk=>?_,x,Ei⟩
 ·have:=PL _ _ hc
  simpa[Addr.add] using this
 obtain⟨Ae,rfl,h5⟩:=each k mg hk;have g (j:Nat) (hj:j<5):=h5 j hj;simp only[vN] at g;exact⟨g 0 dC,g 1 dC,g 2 dC,g 3 dC,g 4 dC⟩
def ab8{H:Type}{enc:TypeId × Va->H}{a:Assume}{C:Checked}{os:Os}{f:FuncId}{fn:Func}{s:ChangeSpec}{conds:List PathCond}{apart fresh handsOn again:Bool}{X:Wd->Array Va->Prop}
  (hX:∀(w w':Wd)(args:Array Va),w.1=w'.1->X w args->X w' args)
  (own:ownKnob C.prog.godebug=c_) (started:os.Started) (alJ:C.prog.inits.idxOf? f=c_) (SY:C.prog.funcs[f]? = a_ fn)
  (witness:∃(w:Wd)(tape:Tape) (i:Input),w.os=os/\(w.forCall tape i).Shaped C.prog/\i.vars=[]/\Input.okWide C.prog (w.forCall tape i) .any w.1.size f i /\
   ((s.pre enc C.prog fn conds apart (w.forCall tape i).memory i.args/\X (w.forCall tape i).memory i.args)/\sizedMet enc C.prog fn (OpenSpec.ofChange s) apart (w.forCall tape i).memory i.args)/\a.holds C.prog (lone (Frame.enter C.prog f i.args .normal) [] (w.forCall tape i)))
  (agH:∀(W:Wd)(base:Nat) (args:Array Va) (ds gs:List (DataW H)) (before:List MemPlace),
   (∀(j:Nat) t v,fn.params[j]? = a_ t->args[j]? = a_ v->Value.okWide C.prog W .any base t v) ->
   DataW.Whole enc C.prog fn.params.toList s.vars apart W args.toList ds gs before->X W args->W.ShapedOpen C.prog ->
   Calls C.prog f args W λe W'=>∃v,e=.returned v/\s.post enc C.prog fn apart fresh handsOn again W args v W') :
  ReturnsInHanded a C os f .any (λw args=>(s.pre enc C.prog fn conds apart w args/\X w args)/\sizedMet enc C.prog fn (OpenSpec.ofChange s) apart w args) (s.post enc C.prog fn apart fresh handsOn again):=by
 refine returnsInHanded_of_calls own started alJ witness λw tape i _ pL _ fF aoR _=>?_;obtain⟨_,_,_,fn',ao2,_,_,_,_,Bu⟩:=fF;obtain rfl:fn'=fn:=qT (ao2.symm.trans SY);obtain⟨⟨⟨ds,gs,before,hw,_⟩,hx⟩,_⟩:=aoR;refine(agH (w.forCall tape i) w.1.size i.args ds gs before Bu (DataW.Whole.of_heap (w':=w.forCall tape i) (by rfl) hw) (hX _ _ _ (by rfl) hx) pL).mono λe W' hp=>?_;obtain⟨v,rfl,hp⟩:=hp;exact ChangeSpec.post_blind hp
def adX(h:laidMetH prog Rows.fnExactRunRow.laid W)(hs:W.ShapedOpen prog):∃mb mo cp,Ev W mb mo cp:=by
 rw[MakeChecks.laidMetH_plain _ _ _ kF] at h;have h3:=laidMet.tail (laidMet.tail h);have⟨mb,mo,cp,hm⟩:=anH (laidMet.tail (laidMet.tail h3)) hs;exact⟨mb,mo,cp,hm,alo h3⟩
def ad6{P:Program}{w w':Wd}{n:String}{g B:Nat}{cs:Array Va}(h:w.var? P n=a_ cs)(hg:P.globalNamed n=a_ g)(hb:Below B w w')(eI:g<B):w'.var? P n=a_ cs:=by
 unfold World.var? at h ⊢;rw[hg] at h ⊢;simp only[Option.bind_some] at h ⊢;rw[hb.block g eI];exact h
def adl(os:Os)(started:os.Started)(H:Type)(enc:TypeId × Va->H):
  ReturnsInHanded {} Tryz.checked os 3 .any (λw args=>(Rows.fnExactRunSpec.pre enc prog Tryz.f3 [] d_ w args/\laidMetH prog Rows.fnExactRunRow.laid w)/\sizedMet enc prog Tryz.f3 (OpenSpec.ofChange Rows.fnExactRunSpec) d_ w args)
   (Rows.fnExactRunSpec.post enc prog Tryz.f3 d_ b_ d_ d_):=by
 refine ab8 (C:=Tryz.checked) (X:=λw _=>laidMetH prog Rows.fnExactRunRow.laid w) (λ_ _ _ hh h=>h.of_heap hh) Tryz.own started kF func3
  (ChangeSpec.witness_shaped (enc:=enc) (C:=Tryz.checked) (os:=os) (X:=λw _=>laidMetH prog Rows.fnExactRunRow.laid w) d_ (FY os) xC 8 rfl (aeI os) (anJ os) (alM os H enc) (anI os H enc) (abI os _)) ?_
 intro W base args ds gs before anO hW hL pL;have Bu:∀(j:Nat) t v,Tryz.f3.params[j]? = a_ t->args[j]? = a_ v->Value.okWide prog W .any base t v:=anO;have wh:=hW;obtain⟨p,q,hA0,hV0,rfl,LD,jh⟩:=hW;have hA:DataW.TrodAll enc prog W 0 (λ_=>b_) b_ Tryz.f3.params.toList args.toList ds p:=hA0
 have hV : DataW.TrodVars enc Tryz.prog W (fun _ => true) ["loop.example/s02135/impl.meanings"] gs q := hV0
 rw[params3] at hA Bu;obtain⟨v0,Rd,d0,ds0,p0,q0,apw,rfl,rfl,h0,r0⟩:=trodAll_cons hA;obtain⟨v2,vs2,d2,ds2,p2,q2,aps,rfl,rfl,h2,r2⟩:=trodAll_cons r0;obtain⟨v3,vs3,d3,ds3,p3,q3,apr,rfl,rfl,h3,r3⟩:=trodAll_cons r2;obtain⟨rfl,rfl,rfl⟩:=trodAll_nil r3;obtain rfl:args=#[v0,v2,v3]:=by cases args;simp_all
 obtain⟨g,t,cs,fuel,d1,p1,rfl,hg,ht,QU,hd,rfl⟩:=trodVars_one hV;obtain rfl:=qT (Tryz.D0.symm.trans hg);obtain rfl:=qT (Tryz.QM.symm.trans ht);have k0:=h0;have vT:=h2;have k3:=h3;have lt0:∀x∈p0,x.block<W.1.size:=by obtain⟨m,hm⟩:=k0;exact Ie m _ _ _ hm
 have lt2:∀x∈p2,x.block<W.1.size:=by obtain⟨m,hm⟩:=vT;exact Ie m _ _ _ hm
 have lt3:∀x∈p3,x.block<W.1.size:=by obtain⟨m,hm⟩:=k3;exact Ie m _ _ _ hm
 obtain⟨u0,u1,a,rfl,Eo⟩:=ac5 (Bu 1 25 v2 rfl rfl) h2;obtain⟨L,rfl⟩:=acL (Bu 2 27 v3 rfl rfl) h3;have lt1:∀x∈p1,x.block<W.1.size:=Ie fuel _ _ _ hd;obtain⟨ao,cap,c,rfl,hk,hr⟩:∃(ao:Option Addr)(cap:Nat) (c:List Pl.Tv),v0=.slice ao c.length cap/\DX c/\jF W.1.size W ao c:=by
  obtain⟨a0,len,cap,rfl⟩:=okWide_slice underlying22 (Bu 0 22 v0 rfl rfl);obtain⟨m,hm⟩:=h0;exact ab9 hm
 have⟨mb,mo,cp,he⟩:=adX hL pL;obtain⟨u,rfl⟩:∃u,cs=#[u]:=by
  obtain⟨l⟩:=cs;rcases Go.Deep.open_slice underlying232 hd with ⟨e,_⟩|⟨_,_,_,_,_,_,_,e,_⟩ <;> exact⟨_,by simp at e;rw[e]⟩
 have k1:DataW.Trod enc prog W 0 (λ_=>b_) b_ 232 u d1 p1:=by
  rcases Go.Deep.open_slice underlying232 hd with ⟨e,_⟩|⟨_,_,_,_,_,_,_,e,_⟩ <;> (simp at e;subst e;exact⟨fuel,hd⟩)
 have hu:u.cells=#[u]:=by
  rcases Go.Deep.open_slice underlying232 hd with ⟨e,_⟩|⟨_,_,_,_,_,_,_,e,_⟩ <;> (simp at e;subst e;rfl)
 refine(ahl c ao cap u0 u1 a L mb mo cp W hk he hr Eo).mono λe W' ⟨yj,fI⟩=>?_;subst yj;obtain⟨f1,k2⟩:=Ic Tryz.laidOut kF (rS kF) k1 fI lt1;rw[hu] at k2;exact⟨_,rfl,_,_,_,[],_,_,wh,trodAll_mk1 (shut_bool underlying4 _),
  (PK (Ic Tryz.laidOut kF (rS kF) k0 fI lt0) (PK (Ic Tryz.laidOut kF (rS kF) vT fI lt2) (PK (Ic Tryz.laidOut kF (rS kF) k3 fI lt3) trodAll_mk0))),
  trodVars_mk1 Tryz.D0 Tryz.QM (ad6 QU Tryz.D0 fI (by have:=he.mt.z;omega)) k2,fI.frame _,λh=>by cases h⟩
def ahi:Rows.FnExactRunSaid :=
 OpenClaim.holds_of_wide 3 Tryz.f3 rfl rfl rfl rfl rfl rfl rfl ⟨rfl,rfl,rfl,rfl,rfl⟩ rfl rfl rfl rfl rfl kF func3 alP
  (rS kF) (by unfold Func.isWrapper;first | (rw[eD (by decide +kernel)];kernel_rfl) | (rw[eB (of_decide_eq_false kF)];exact⟨rfl,rfl⟩))
  (λos started H enc _=>adl os started H enc)
theorem run_card:Rows.FnExactRunCardSaid :=
 Claim7.holds_tied_plain_at .later [] [.data, .data, .data, .data, .data, .pinned] true (true, "22bfbb28d9208c43cbfa5841f1d3ae2c65b1051c2da024a56ee2f32dea06711a") true
  ahi (λ_ h=>by cases h) kF (λ_ h=>by cases h) fnExactRun_row_tie rfl ⟨rfl,rfl⟩ kF rfl
  (λf fn hf SY=>by
   obtain rfl : f = 3 := Option.some.inj ((show Tryz.prog.funcNamed "loop.example/s02135/laws.FnExactRun" = some 3 by kernel_rfl).symm.trans hf) |>.symm
   obtain rfl:fn=Tryz.f3:=(qT (func3.symm.trans SY)).symm;exact⟨kF,λj t ht=>by
    rw[params3] at ht;rcases j with _|_|_|j
    ·obtain rfl:t=22:=by simpa using ht.symm
     exact(show prog.wantsStandIn 22=d_ by kernel_rfl)
    ·obtain rfl:t=25:=by simpa using ht.symm
     exact(show prog.wantsStandIn 25=d_ by kernel_rfl)
    ·obtain rfl:t=27:=by simpa using ht.symm
     exact(show prog.wantsStandIn 27=d_ by kernel_rfl)
    simp at ht⟩)
  kF
#print axioms run_card
end Go.Proofs.YtiagfejlmafliaaGreatDoor
