import Derived.Test.YtiagfejlmafliaaGreatDoorQe
import Derived.Test.YtiagfejlmafliaaGreatDoorEqt
import Derived.Test.YtiagfejlmafliaaGreatDoorWg
import Derived.Test.YtiagfejlmafliaaGreatDoorWi
namespace Go.Proofs.YtiagfejlmafliaaGreatDoor
set_option linter.all false
open Go.Proofs.Tryz Pl
open Go.RowKit
set_option maxRecDepth 100000
set_option maxHeartbeats 16000000
open Pl (Ar)
open World renaming setCell->ez,alloc->ew
open List renaming range->eA,replicate->eE
open Option renaming some->a_,none->c_
open Bool renaming true->b_,false->d_
variable {ρ:Prop}
def amT.ν(h:ρ:=by
 refine tk 0 (.pointer (sY Z 6)) rfl hS (λ_ _=>kF) ?_ (λc a w h=>hq _ _ c a w h);refine tk 2 (sX (sY bp op) n cp) rfl hS (λ_ _=>kF) ?_ (λc a w h=>hq _ _ c a w h);refine tk 3 (I (k:Int)) rfl hS (λ_ _=>kF) ?_ (λc a w h=>hq _ _ c a w h);refine tk 4 (.pointer (sY bp (op+k * 4))) rfl hS (λ_ _=>by go_simp) ?_ (λc a w h=>hq _ _ c a w h);refine tk 5 (.agg #[I s.k,.string (Pl.ba s.nm),sX a1 s.code.length c1,sX a2 s.gs.length c2]) rfl hS (λw h=>by obtain⟨h0,h1,h2,h3⟩:=h;go_simp) ?_ (λc a w h=>hq _ _ c a w h);have HD:=hw.o.below bd;generalize wr.drew=W at *;have sW:=bd.size;have tV:Bl W (W.alloc (.cells #[I s.k,.string (Pl.ba s.nm),sX a1 s.code.length c1,sX a2 s.gs.length c2] 60)):=gG;have H1:=HD.below tV;have bx:Bx (W.alloc (.cells #[I s.k,.string (Pl.ba s.nm),sX a1 s.code.length c1,sX a2 s.gs.length c2] 60)) W.1.size #[I s.k,.string (Pl.ba s.nm),sX a1 s.code.length c1,sX a2 s.gs.length c2] 60:=Bx.eK rfl;have Ee:Below w.1.size wr W:=bd.mono sB;have vS:Below w.1.size wr (W.alloc (.cells #[I s.k,.string (Pl.ba s.nm),sX a1 s.code.length c1,sX a2 s.gs.length c2] 60)):=Ee.trans (tV.mono oM);have⟨v',w',nH,qF,fR,li⟩:=H1.gs.apn W.1.size 1 s hf a1 c1 a2 c2 bx.cf.1 (XL.Ea (XS.eG xs.o vS)) (XL.rdG (XG.eG xg.o vS)) oM 34;have FR:Hid (Lw K L w Z ⟨G.ns,G.fs++[s]⟩ G.ns vo m s5 kk xx ns vs v' y0 y1 (w'.setCell (Y Z 6) v')/\Below w.1.size wr w'/\Below w.1.size wr (w'.setCell (Y Z 6) v')/\(∃af cf nn,v'=sX af nn cf)/\Bx w' Z (uC L (uR ns vs fs)) 62/\(∀b,b<wr.1.size->¬b=Z->¬fs.ownBlock=a_ b->(w'.setCell (Y Z 6) v').1[b]? = wr.1[b]?)/\(∀b,b<wr.1.size->¬fs.ownBlock=a_ b->¬v'.ownBlock=a_ b)):=by
  obtain⟨ys,of,hof⟩:=H1.gs.of;have⟨zs,ov,hov⟩:=H1.gs.ov;have on:=H1.gs.on;have uM:Below w.1.size wr w':=vS.trans (AA of fR J2);have i7:=H1.b7.eX (fR.block _ H1.b7.lt λe=>jW of H1.b7 dC e.symm);have i8:=H1.b8.eX (fR.block _ H1.b8.lt λe=>jW of H1.b8 dC e.symm);have i9:=H1.b9.eX (fR.block _ H1.b9.lt λe=>jW of H1.b9 dC e.symm);have i6:=H1.b6.eX (fR.block _ H1.b6.lt λe=>jW of H1.b6 dC e.symm);have kP:Kp (Pg w.1.size (Z+3) ns vs fs (W.alloc (.cells #[I s.k,.string (Pl.ba s.nm),sX a1 s.code.length c1,sX a2 s.gs.length c2] 60))) (W.alloc (.cells #[I s.k,.string (Pl.ba s.nm),sX a1 s.code.length c1,sX a2 s.gs.length c2] 60)) w':=np fR λc hc=>hc.2.2.2.2;have zN:∀a,kk=0->vo=a_ a->RO K (Pg w.1.size (Z+3) ns vs v' w') w' y0 y1 a:=λa e0 e=>((H1.vo a e0 e).kp kP).mono λb hb hl=>Pg.next fR.size (.rfl' _ _) (.rfl' _ _) li hb;obtain⟨ys2,BY,-⟩:=qF.of;obtain⟨zs2,BU,-⟩:=qF.ov;have BV:=qF.on;have gk:=ic w' Z 6 v';have Ac:=qF.box gk ⟨oM,oM⟩ (jW BV i7 dC) (jW BU i7 dC) (jW BY i7 dC);have Ej:∀a,kk=0->vo=a_ a->RO K (Pg w.1.size (Z+3) ns vs v' (w'.setCell (Y Z 6) v')) (w'.setCell (Y Z 6) v') y0 y1 a:=λa e0 e=>((zN a e0 e).kp (np gk λc hc e=>by injection e with e;have:=hc.2.1;omega)).mono λb hb hl=>⟨hl,hb.2⟩;have xY:Below w.1.size wr (w'.setCell (Y Z 6) v'):=uM.setCell J2 v';obtain⟨af,cf,ef⟩:=rL BY;exact⟨⟨i6.eC J2 _,i7.set 6 _,i8.eC sI _,i9.eC sI _,Ac,Ej,hw.o.bl.trans xY⟩,uM,xY,⟨_,_,_,ef⟩,i7,λb hb n1 n2=>(gk.block b (by have:=fR.size;simp at this;omega) JG).trans ((fR.block b J2 (λe=>n2 e.symm)).trans ((tV.block b oM).trans (bd.block b hb))),λb hb n2 e=>by rcases li with l | l;exact n2 (l ▸ e);rw[l] at e;injection e with e;simp at e;omega⟩
 obtain⟨d7,f7,z7⟩:=FR.o.2.2.2.2.1.all;have⟨d7',f7',z7'⟩:=HD.b7.all;have lZ:=HD.b7.lt;obtain⟨af,cf,nn,ef⟩:=FR.o.2.2.2.1;have RH:=zH vS;have RM:=zH Ee;have Cf:=hw;subst ef;have⟨rF,rE,rj,ER⟩:∃a c n,fs=sX a n c:=by obtain⟨ys,of,-⟩:=Cf.o.gs.of;have⟨a,c,e⟩:=rL of;exact⟨a,c,_,e⟩
 subst ER;have Ud:(Instr.loadAt 34 (.pointer (sY Z 6))).run prog W=.ok (sX rF rj rE) W:=by go_simp
 have Uc:(Instr.loadAt 34 (.pointer (sY Z 6))).run prog (W.alloc (.cells #[I s.k,.string (Pl.ba s.nm),sX a1 s.code.length c1,sX a2 s.gs.length c2] 60))=.ok (sX rF rj rE) (W.alloc (.cells #[I s.k,.string (Pl.ba s.nm),sX a1 s.code.length c1,sX a2 s.gs.length c2] 60)):=by go_simp
 have BS:(Instr.buildSlice 34 1 #[(0,.agg #[I s.k,.string (Pl.ba s.nm),sX a1 s.code.length c1,sX a2 s.gs.length c2])]).run prog W=.ok (sX (sY W.1.size 0) 1 1) (W.alloc (.cells #[I s.k,.string (Pl.ba s.nm),sX a1 s.code.length c1,sX a2 s.gs.length c2] 60)):=by go_simp
 have ST:(Instr.storeAt 34 (.pointer (sY Z 6)) (sX af nn cf)).run prog w'=.ok () (w'.setCell (Y Z 6) (sX af nn cf)):=by go_simp
 refine rdv 1 6 (sX rF rj rE) (sX (sY W.1.size 0) 1 1) (W.alloc (.cells #[I s.k,.string (Pl.ba s.nm),sX a1 s.code.length c1,sX a2 s.gs.length c2] 60)) rfl rfl rfl rfl ?_ ?_ ?_ ?_ (ks.o _ RM.o) (ks.o _ RH.o) ?_ ?_
 ·exact AK rfl kF Ud
 ·exact Gz rfl kF BS
 ·exact AK rfl kF Uc
 ·exact Gz rfl kF BS
 all_goals
  refine tv 7 (sX af nn cf) w' rfl rfl (NK rfl kF kF nH) (ks.o _ FR.o.2.1) ?_;refine tv 8 (.pointer (sY Z 6)) w' rfl rfl kF (ks.o _ FR.o.2.1) ?_;refine ts 9 (w'.setCell (Y Z 6) (sX af nn cf)) rfl rfl rfl (N' rfl kF kF ST) (ks.o _ FR.o.2.2.1) ?_;refine te ?_;refine nrm (Q:=λa=>Q .normal a (w'.setCell (Y Z 6) (sX af nn cf))) (b:={ tmps:=#[sX (sY bp op) n cp,c8,de,cU,dc,cZ,cR,pT Z,pT (Z+1),pT (Z+2),aV,I (k:Int),bI,bV,bF,aR,ch,a8,aU,bL,a5,bN,cm,bG,cw,cC,bC,aZ,aW,cF,cQ,bB,cj,bz,cP,cD,ck,aO,cN,cK,bX,be,cz,a6,bK,a9,bH,cG,bU,bg,bk,ct,bc,cg,a3,bj,.pointer (sY Z 6),sX rF rj rE,sX (sY bp op) n cp,I (k:Int),.pointer (sY bp (op+k * 4)),.agg #[I s.k,.string (Pl.ba s.nm),sX a1 s.code.length c1,sX a2 s.gs.length c2],sX (sY W.1.size 0) 1 1,sX af nn cf,.pointer (sY Z 6),bT,ci,bu,cH,bP,aQ,bw,bM,a7,cO,cu,cJ,cE,cr,aS,bi,bQ,bJ,aX,bq,cA,bY,bW,ca,aT,bE,cc,cM,cL,bR,ce,bD,bS,bf,br,ag,aI,ai,aK,ad,ah,az,aL,am,aJ,aF,ac,au,ap,ab,av,aa,aq,aD,ae,aB,aj,ak,aA,aH,aN,aw,aC,aG,aE,aM],defers:=[] }) ?_;exact HK.o (.pointer (sY Z 6)) (sX rF rj rE) (sX (sY bp op) n cp) (I (k:Int)) (.pointer (sY bp (op+k * 4))) (.agg #[I s.k,.string (Pl.ba s.nm),sX a1 s.code.length c1,sX a2 s.gs.length c2]) (sX (sY W.1.size 0) 1 1) (sX af nn cf) (.pointer (sY Z 6)) _ _ FR.o.1 FR.o.2.2.1 FR.o.2.2.2.2.2
 ):ρ:=h
def alv{K:Ks}{L:Lm}{w wr:Wd}{Z n cp k bp op:Nat}{G:Gb}{vo:Option Ar}{m:Ms}{s5 kk xx:Int}{ns vs fs y0 y1:Va}{s:Pl.Tv}{a1 a2:oA}{c1 c2:Nat}(hZ:w.1.size+3<=Z)(hn:n<=1000000)(eI:(k:Int)<(n:Int))(lF:G.ns.length<=k+1)(kO:G.fs.length<=k)(rk:bp<w.1.size)(hc:wr.cell? (Y bp (op+k * 4))=a_ (I s.k)/\wr.cell? (Y bp (op+k * 4+1))=a_ (.string (Pl.ba s.nm))/\wr.cell? (Y bp (op+k * 4+2))=a_ (sX a1 s.code.length c1)/\wr.cell? (Y bp (op+k * 4+3))=a_ (sX a2 s.gs.length c2))(xs:XS w.1.size wr a1 s.code)(xg:XG w.1.size wr a2 s.gs)(hf:t_ s)(hw:Lw K L w Z G G.ns vo m s5 kk xx ns vs fs y0 y1 wr)
  {Q:Exit->Act->Wd->Prop} (hq:∀d v c a w,Q (.panic c) (a.put d v) w->Q (.panic c) a w) {c8 de cU dc cZ cR aV bI bV bF aR ch a8 aU bL a5 bN cm bG cw cC bC aZ aW cF cQ bB cj bz cP cD ck aO cN cK bX be cz a6 bK a9 bH cG bU bg bk ct bc cg a3 bj cI aP aY bh co bA cB cq bO bT ci bu cH bP aQ bw bM a7 cO cu cJ cE cr aS bi bQ bJ aX bq cA bY bW ca aT bE cc cM cL bR ce bD bS bf br ag aI ai aK ad ah az aL am aJ aF ac au ap ab av aa aq aD ae aB aj ak aA aH aN aw aC aG aE aM:Va}
  (HK:∀(c9 cX cT dg cS dh cV cW cY Ad:Va)(wy:Wd),Lw K L w Z ⟨G.ns,G.fs++[s]⟩ G.ns vo m s5 kk xx ns vs Ad y0 y1 wy->Below w.1.size wr wy->(∀b,b<wr.1.size->¬b=Z->¬fs.ownBlock=a_ b->wy.1[b]? = wr.1[b]?)/\(∀b,b<wr.1.size->¬fs.ownBlock=a_ b->¬Ad.ownBlock=a_ b)->Q .normal { tmps:=#[sX (sY bp op) n cp,c8,de,cU,dc,cZ,cR,pT Z,pT (Z+1),pT (Z+2),aV,I (k:Int),bI,bV,bF,aR,ch,a8,aU,bL,a5,bN,cm,bG,cw,cC,bC,aZ,aW,cF,cQ,bB,cj,bz,cP,cD,ck,aO,cN,cK,bX,be,cz,a6,bK,a9,bH,cG,bU,bg,bk,ct,bc,cg,a3,bj,c9,cX,cT,dg,cS,dh,cV,cW,cY,bT,ci,bu,cH,bP,aQ,bw,bM,a7,cO,cu,cJ,cE,cr,aS,bi,bQ,bJ,aX,bq,cA,bY,bW,ca,aT,bE,cc,cM,cL,bR,ce,bD,bS,bf,br,ag,aI,ai,aK,ad,ah,az,aL,am,aJ,aF,ac,au,ap,ab,av,aa,aq,aD,ae,aB,aj,ak,aA,aH,aN,aw,aC,aG,aE,aM],defers:=[] } wy) :
  Code.wp prog ((oO 11 (Tryz.f6.body.getD .skip)).getD .skip) Q { tmps:=#[sX (sY bp op) n cp,c8,de,cU,dc,cZ,cR,pT Z,pT (Z+1),pT (Z+2),aV,I (k:Int),bI,bV,bF,aR,ch,a8,aU,bL,a5,bN,cm,bG,cw,cC,bC,aZ,aW,cF,cQ,bB,cj,bz,cP,cD,ck,aO,cN,cK,bX,be,cz,a6,bK,a9,bH,cG,bU,bg,bk,ct,bc,cg,a3,bj,cI,aP,aY,bh,co,bA,cB,cq,bO,bT,ci,bu,cH,bP,aQ,bw,bM,a7,cO,cu,cJ,cE,cr,aS,bi,bQ,bJ,aX,bq,cA,bY,bW,ca,aT,bE,cc,cM,cL,bR,ce,bD,bS,bf,br,ag,aI,ai,aK,ad,ah,az,aL,am,aJ,aF,ac,au,ap,ab,av,aa,aq,aD,ae,aB,aj,ak,aA,aH,aN,aw,aC,aG,aE,aM],defers:=[] } wr:=by
 conv=>arg 2;whnf
 open amT in exact aal
def amS.ν(h:ρ:=by
 refine tk 0 (.pointer (sY Z 4)) rfl hS (λ_ _=>kF) ?_ (λc a w h=>hq _ _ c a w h);refine tk 2 (sX (sY bp op) n cp) rfl hS (λ_ _=>kF) ?_ (λc a w h=>hq _ _ c a w h);refine tk 3 (I (k:Int)) rfl hS (λ_ _=>kF) ?_ (λc a w h=>hq _ _ c a w h);refine tk 4 (.pointer (sY bp (op+k * 4))) rfl hS (λ_ _=>by go_simp) ?_ (λc a w h=>hq _ _ c a w h);refine tk 5 (.pointer (sY bp (op+k * 4+1))) rfl hS (λ_ _=>kF) ?_ (λc a w h=>hq _ _ c a w h);refine tk 6 (.string (Pl.ba s.nm)) rfl hS (λw h=>by obtain⟨h0,h1,h2,h3⟩:=h;go_simp) ?_ (λc a w h=>hq _ _ c a w h);have HD:=hw.o.below bd;generalize wr.drew=W at *;have sW:=bd.size;have tV:Bl W (W.alloc (.cells #[.string (Pl.ba s.nm)] 9)):=gG;have H1:=HD.below tV;have bx:Bx (W.alloc (.cells #[.string (Pl.ba s.nm)] 9)) W.1.size #[.string (Pl.ba s.nm)] 9:=Bx.eK rfl;have Ee:Below w.1.size wr W:=bd.mono sB;have vS:Below w.1.size wr (W.alloc (.cells #[.string (Pl.ba s.nm)] 9)):=Ee.trans (tV.mono oM);have⟨v',w',nH,qF,fR,li⟩:=H1.gs.apm W.1.size 1 (s.nm,a) bx.cf.1 oM 55;have FR:Hid (Lw K L w Z ⟨G.ns++[(s.nm,a)],G.fs⟩ G.ns vo m s5 kk xx v' vs fs y0 y1 (w'.setCell (Y Z 4) v')/\Below w.1.size wr w'/\Below w.1.size wr (w'.setCell (Y Z 4) v')/\(∃af cf nn,v'=sX af nn cf)/\Bx w' Z (uC L (uR ns vs fs)) 62/\(∀b,b<wr.1.size->¬b=Z->¬ns.ownBlock=a_ b->(w'.setCell (Y Z 4) v').1[b]? = wr.1[b]?)/\(∀b,b<wr.1.size->¬ns.ownBlock=a_ b->¬v'.ownBlock=a_ b)):=by
  obtain⟨ys,of,hof⟩:=H1.gs.of;have⟨zs,ov,hov⟩:=H1.gs.ov;have on:=H1.gs.on;have uM:Below w.1.size wr w':=vS.trans (AA on fR J2);have i7:=H1.b7.eX (fR.block _ H1.b7.lt λe=>jW on H1.b7 dC e.symm);have i8:=H1.b8.eX (fR.block _ H1.b8.lt λe=>jW on H1.b8 dC e.symm);have i9:=H1.b9.eX (fR.block _ H1.b9.lt λe=>jW on H1.b9 dC e.symm);have i6:=H1.b6.eX (fR.block _ H1.b6.lt λe=>jW on H1.b6 dC e.symm);have kP:Kp (Pg w.1.size (Z+3) ns vs fs (W.alloc (.cells #[.string (Pl.ba s.nm)] 9))) (W.alloc (.cells #[.string (Pl.ba s.nm)] 9)) w':=np fR λc hc=>hc.2.2.1;have zN:∀a,kk=0->vo=a_ a->RO K (Pg w.1.size (Z+3) v' vs fs w') w' y0 y1 a:=λa e0 e=>((H1.vo a e0 e).kp kP).mono λb hb hl=>Pg.next fR.size li (.rfl' _ _) (.rfl' _ _) hb;obtain⟨ys2,BY,-⟩:=qF.of;obtain⟨zs2,BU,-⟩:=qF.ov;have BV:=qF.on;have gk:=ic w' Z 4 v';have Ac:=qF.box gk ⟨oM,oM⟩ (jW BV i7 dC) (jW BU i7 dC) (jW BY i7 dC);have Ej:∀a,kk=0->vo=a_ a->RO K (Pg w.1.size (Z+3) v' vs fs (w'.setCell (Y Z 4) v')) (w'.setCell (Y Z 4) v') y0 y1 a:=λa e0 e=>((zN a e0 e).kp (np gk λc hc e=>by injection e with e;have:=hc.2.1;omega)).mono λb hb hl=>⟨hl,hb.2⟩;have xY:Below w.1.size wr (w'.setCell (Y Z 4) v'):=uM.setCell J2 v';obtain⟨af,cf,ef⟩:=rL BV;exact⟨⟨i6.eC J2 _,i7.set 4 _,i8.eC sI _,i9.eC sI _,Ac,Ej,hw.o.bl.trans xY⟩,uM,xY,⟨_,_,_,ef⟩,i7,λb hb n1 n2=>(gk.block b (by have:=fR.size;simp at this;omega) JG).trans ((fR.block b J2 (λe=>n2 e.symm)).trans ((tV.block b oM).trans (bd.block b hb))),λb hb n2 e=>by rcases li with l | l;exact n2 (l ▸ e);rw[l] at e;injection e with e;simp at e;omega⟩
 obtain⟨d7,f7,z7⟩:=FR.o.2.2.2.2.1.all;have⟨d7',f7',z7'⟩:=HD.b7.all;have lZ:=HD.b7.lt;obtain⟨af,cf,nn,ef⟩:=FR.o.2.2.2.1;have RH:=zH vS;have RM:=zH Ee;have Cf:=hw;subst ef;have⟨rF,rE,rj,ER⟩:∃a c n,ns=sX a n c:=by have⟨a,c,e⟩:=rL Cf.o.gs.on;exact⟨a,c,_,e⟩
 subst ER;have Ud:(Instr.loadAt 55 (.pointer (sY Z 4))).run prog W=.ok (sX rF rj rE) W:=by go_simp
 have Uc:(Instr.loadAt 55 (.pointer (sY Z 4))).run prog (W.alloc (.cells #[.string (Pl.ba s.nm)] 9))=.ok (sX rF rj rE) (W.alloc (.cells #[.string (Pl.ba s.nm)] 9)):=by go_simp
 have BS:(Instr.buildSlice 55 1 #[(0,.string (Pl.ba s.nm))]).run prog W=.ok (sX (sY W.1.size 0) 1 1) (W.alloc (.cells #[.string (Pl.ba s.nm)] 9)):=by go_simp
 have ST:(Instr.storeAt 55 (.pointer (sY Z 4)) (sX af nn cf)).run prog w'=.ok () (w'.setCell (Y Z 4) (sX af nn cf)):=by go_simp
 refine rdv 1 7 (sX rF rj rE) (sX (sY W.1.size 0) 1 1) (W.alloc (.cells #[.string (Pl.ba s.nm)] 9)) rfl rfl rfl rfl ?_ ?_ ?_ ?_ (ks.o _ RM.o) (ks.o _ RH.o) ?_ ?_
 ·exact AK rfl kF Ud
 ·exact Gz rfl kF BS
 ·exact AK rfl kF Uc
 ·exact Gz rfl kF BS
 all_goals
  refine tv 8 (sX af nn cf) w' rfl rfl (NK rfl kF kF nH) (ks.o _ FR.o.2.1) ?_;refine tv 9 (.pointer (sY Z 4)) w' rfl rfl kF (ks.o _ FR.o.2.1) ?_;refine ts 10 (w'.setCell (Y Z 4) (sX af nn cf)) rfl rfl rfl (N' rfl kF kF ST) (ks.o _ FR.o.2.2.1) ?_;refine te ?_;refine nrm (Q:=λa=>Q .normal a (w'.setCell (Y Z 4) (sX af nn cf))) (b:={ tmps:=#[sX (sY bp op) n cp,c8,di,cV,dh,cY,cR,pT Z,pT (Z+1),pT (Z+2),aV,I (k:Int),bI,bV,bF,aR,ch,a8,aU,bL,a5,bN,cm,bG,cw,cC,bC,aZ,aW,cF,cQ,bB,cj,bz,cP,cD,ck,aO,cN,cK,bX,be,cz,a6,bK,a9,bH,cG,bU,bg,bk,ct,bc,cg,a3,bj,cH,aP,aY,bh,co,bA,cB,cq,bO,bT,ci,bu,cI,bP,aQ,bw,bM,a7,cO,cu,cJ,cE,cr,aS,bi,bQ,bJ,.pointer (sY Z 4),sX rF rj rE,sX (sY bp op) n cp,I (k:Int),.pointer (sY bp (op+k * 4)),.pointer (sY bp (op+k * 4+1)),.string (Pl.ba s.nm),sX (sY W.1.size 0) 1 1,sX af nn cf,.pointer (sY Z 4),cL,bR,ce,bD,bS,bf,bq,ag,aI,ai,aK,ad,ah,az,aL,am,aJ,aF,ac,au,ap,ab,av,aa,aq,aD,ae,aB,aj,ak,aA,aH,aN,aw,aC,aG,aE,aM],defers:=[] }) ?_;exact HK.o (.pointer (sY Z 4)) (sX rF rj rE) (sX (sY bp op) n cp) (I (k:Int)) (.pointer (sY bp (op+k * 4))) (.pointer (sY bp (op+k * 4+1))) (.string (Pl.ba s.nm)) (sX (sY W.1.size 0) 1 1) (sX af nn cf) (.pointer (sY Z 4)) _ _ FR.o.1 FR.o.2.2.1 FR.o.2.2.2.2.2
 ):ρ:=h
def alu{K:Ks}{L:Lm}{w wr:Wd}{Z n cp k bp op:Nat}{G:Gb}{vo:Option Ar}{m:Ms}{s5 kk xx:Int}{ns vs fs y0 y1:Va}{s:Pl.Tv}{a1 a2:oA}{c1 c2:Nat}(hZ:w.1.size+3<=Z)(hn:n<=1000000)(eI:(k:Int)<(n:Int))(lF:G.ns.length<=k+1)(kO:G.fs.length<=k)(rk:bp<w.1.size)(hc:wr.cell? (Y bp (op+k * 4))=a_ (I s.k)/\wr.cell? (Y bp (op+k * 4+1))=a_ (.string (Pl.ba s.nm))/\wr.cell? (Y bp (op+k * 4+2))=a_ (sX a1 s.code.length c1)/\wr.cell? (Y bp (op+k * 4+3))=a_ (sX a2 s.gs.length c2))(xs:XS w.1.size wr a1 s.code)(xg:XG w.1.size wr a2 s.gs)(hf:True)(a:Ar)(hw:Lw K L w Z G G.ns vo m s5 kk xx ns vs fs y0 y1 wr)
  {Q:Exit->Act->Wd->Prop} (hq:∀d v c a w,Q (.panic c) (a.put d v) w->Q (.panic c) a w) {c8 di cV dh cY cR aV bI bV bF aR ch a8 aU bL a5 bN cm bG cw cC bC aZ aW cF cQ bB cj bz cP cD ck aO cN cK bX be cz a6 bK a9 bH cG bU bg bk ct bc cg a3 bj cH aP aY bh co bA cB cq bO bT ci bu cI bP aQ bw bM a7 cO cu cJ cE cr aS bi bQ bJ aX br cA bY bW ca aT bE cc cM cL bR ce bD bS bf bq ag aI ai aK ad ah az aL am aJ aF ac au ap ab av aa aq aD ae aB aj ak aA aH aN aw aC aG aE aM:Va}
  (HK:∀(cT dg cS cU cW cX dc c9 cZ de xW:Va)(wy:Wd),Lw K L w Z ⟨G.ns++[(s.nm,a)],G.fs⟩ G.ns vo m s5 kk xx xW vs fs y0 y1 wy->Below w.1.size wr wy->(∀b,b<wr.1.size->¬b=Z->¬ns.ownBlock=a_ b->wy.1[b]? = wr.1[b]?)/\(∀b,b<wr.1.size->¬ns.ownBlock=a_ b->¬xW.ownBlock=a_ b)->Q .normal { tmps:=#[sX (sY bp op) n cp,c8,di,cV,dh,cY,cR,pT Z,pT (Z+1),pT (Z+2),aV,I (k:Int),bI,bV,bF,aR,ch,a8,aU,bL,a5,bN,cm,bG,cw,cC,bC,aZ,aW,cF,cQ,bB,cj,bz,cP,cD,ck,aO,cN,cK,bX,be,cz,a6,bK,a9,bH,cG,bU,bg,bk,ct,bc,cg,a3,bj,cH,aP,aY,bh,co,bA,cB,cq,bO,bT,ci,bu,cI,bP,aQ,bw,bM,a7,cO,cu,cJ,cE,cr,aS,bi,bQ,bJ,cT,dg,cS,cU,cW,cX,dc,c9,cZ,de,cL,bR,ce,bD,bS,bf,bq,ag,aI,ai,aK,ad,ah,az,aL,am,aJ,aF,ac,au,ap,ab,av,aa,aq,aD,ae,aB,aj,ak,aA,aH,aN,aw,aC,aG,aE,aM],defers:=[] } wy) :
  Code.wp prog ((oO 15 (Tryz.f6.body.getD .skip)).getD .skip) Q { tmps:=#[sX (sY bp op) n cp,c8,di,cV,dh,cY,cR,pT Z,pT (Z+1),pT (Z+2),aV,I (k:Int),bI,bV,bF,aR,ch,a8,aU,bL,a5,bN,cm,bG,cw,cC,bC,aZ,aW,cF,cQ,bB,cj,bz,cP,cD,ck,aO,cN,cK,bX,be,cz,a6,bK,a9,bH,cG,bU,bg,bk,ct,bc,cg,a3,bj,cH,aP,aY,bh,co,bA,cB,cq,bO,bT,ci,bu,cI,bP,aQ,bw,bM,a7,cO,cu,cJ,cE,cr,aS,bi,bQ,bJ,aX,br,cA,bY,bW,ca,aT,bE,cc,cM,cL,bR,ce,bD,bS,bf,bq,ag,aI,ai,aK,ad,ah,az,aL,am,aJ,aF,ac,au,ap,ab,av,aa,aq,aD,ae,aB,aj,ak,aA,aH,aN,aw,aC,aG,aE,aM],defers:=[] } wr:=by
 conv=>arg 2;whnf
 open amS in exact aal
def ali{ops:Array Oper}{rest:List Oper}{o:Oper}{a:Act}{Q:Exit->Act->Wd->Prop}{st:Nat}{v u v':Va}{w w':Wd}(hg:o.guard=c_)(s x:Operand)(gO:o.op=Op.call { callee:=Callee.builtin Builtin.append,args:=#[s,x],argTypes:=#[st,st] })(hs:a.eval s=v)(hx:a.eval x=u)(hr:(Builtin.append_ #[st,st] o.type #[v,u]).run prog w=.ok v' w')
  (hK:wpList prog ops Q rest (a.put o.dst v') w'):wpList prog ops Q (o::rest) a w:=by
 refine Bm hg λK tS=>?_;unfold Oper.wp;simp[execOp,gO,resolve,invoke,builtin,hs,hx,hr,Result.andThen]
 exact tS _ _ hK
def als{K:Ks}{L:Lm}{w wr:Wd}{Z n cp k bp op bq:Nat}{G:Gb}{l2:Nm}{vo:Option Ar}{m:Ms}{s5 kk xx:Int}{ns vs fs y0 y1:Va}{r0 r1:oA}{n0 n1 e0 e1:Nat}(hZ:w.1.size+3<=Z)(hl:l2.length<=1048576)(pr:lJ × Ar)(hb:Bx wr bq #[sX r0 n0 e0,sX r1 n1 e1] 30)(ro:kk=0->RO K (Pg w.1.size (Z+3) ns vs fs wr) wr (sX r0 n0 e0) (sX r1 n1 e1) pr.2)(hw:Lw K L w Z G l2 vo m s5 kk xx ns vs fs y0 y1 wr)
  {Q:Exit->Act->Wd->Prop} {cZ c9 cV c8 cY cR aV bV bG aR ch a8 aU bL a5 bN cm bH cw cC bD aZ aW cF cQ bC cj bA cP cD ck aO cN cK bX be cz a6 bK a9 bI cG bU bg bk ct bc cg a3 bj cH aP aY bh co bB cB cq bO bT ci bw cI bP aQ bz bM a7 cO cu cJ cE cr aS bi bQ bJ aX br cA bY bW ca aT bF cc cM cL bR ce bE bS bf bu ag aI ai aK ad ah az aL am aJ aF ac au ap ab av aa aq aD ae aB aj ak aA aH aN aw aC aG aE aM:Va}
  (HK:∀(cU cS dc cX cT cW BK:Va)(wy:Wd),Lw K L w Z G (l2++[pr]) vo m s5 kk xx ns BK fs y0 y1 wy->Below w.1.size wr wy->Q .normal { tmps:=#[sX (sY bp op) n cp,cZ,c9,cV,c8,cY,cR,pT Z,pT (Z+1),pT (Z+2),aV,I (k:Int),pT bq,bV,bG,aR,ch,a8,aU,bL,a5,bN,cm,bH,cw,cC,bD,aZ,aW,cF,cQ,bC,cj,bA,cP,cD,ck,aO,cN,cK,bX,be,cz,a6,bK,a9,bI,cG,bU,bg,bk,ct,bc,cg,a3,bj,cH,aP,aY,bh,co,bB,cB,cq,bO,bT,ci,bw,cI,bP,aQ,bz,bM,a7,cO,cu,cJ,cE,cr,aS,bi,bQ,bJ,aX,br,cA,bY,bW,ca,aT,bF,cc,cM,cU,cS,dc,cX,cT,cW,bu,ag,aI,ai,aK,ad,ah,az,aL,am,aJ,aF,ac,au,ap,ab,av,aa,aq,aD,ae,aB,aj,ak,aA,aH,aN,aw,aC,aG,aE,aM],defers:=[] } wy) :
  Code.wp prog ((oO 16 (Tryz.f6.body.getD .skip)).getD .skip) Q { tmps:=#[sX (sY bp op) n cp,cZ,c9,cV,c8,cY,cR,pT Z,pT (Z+1),pT (Z+2),aV,I (k:Int),pT bq,bV,bG,aR,ch,a8,aU,bL,a5,bN,cm,bH,cw,cC,bD,aZ,aW,cF,cQ,bC,cj,bA,cP,cD,ck,aO,cN,cK,bX,be,cz,a6,bK,a9,bI,cG,bU,bg,bk,ct,bc,cg,a3,bj,cH,aP,aY,bh,co,bB,cB,cq,bO,bT,ci,bw,cI,bP,aQ,bz,bM,a7,cO,cu,cJ,cE,cr,aS,bi,bQ,bJ,aX,br,cA,bY,bW,ca,aT,bF,cc,cM,cL,bR,ce,bE,bS,bf,bu,ag,aI,ai,aK,ad,ah,az,aL,am,aJ,aF,ac,au,ap,ab,av,aa,aq,aD,ae,aB,aj,ak,aA,aH,aN,aw,aC,aG,aE,aM],defers:=[] } wr:=by
 conv=>arg 2;whnf
 dsimp only;have sB:=hw.bl.size;replace HK:=zH HK;have tV:Bl wr (wr.alloc (.cells #[sX r0 n0 e0,sX r1 n1 e1] 30)):=gG;have H1:=hw.below tV;have bx:Bx (wr.alloc (.cells #[sX r0 n0 e0,sX r1 n1 e1] 30)) wr.1.size #[sX r0 n0 e0,sX r1 n1 e1] 30:=Bx.eK rfl;have vS:Below w.1.size wr (wr.alloc (.cells #[sX r0 n0 e0,sX r1 n1 e1] 30)):=tV.mono sB;have⟨v',w',nH,qF,fR,li⟩:=H1.gs.apl wr.1.size 1 pr _ _ ⟨rfl,rfl⟩ bx.cf.1 (λh=>((ro h).kp (.of tV)).mono λb hb hl=>⟨hl,hb.2⟩) oM 56;replace hw:=zH hw;have FR:Hid (Lw K L w Z G (l2++[pr]) vo m s5 kk xx ns v' fs y0 y1 (w'.setCell (Y Z 5) v')/\Below w.1.size wr w'/\Below w.1.size wr (w'.setCell (Y Z 5) v')/\(∃af cf nn,v'=sX af nn cf)/\Bx w' Z (uC L (uR ns vs fs)) 62):=by
  obtain⟨ys,of,hof⟩:=H1.gs.of;have⟨zs,ov,hov⟩:=H1.gs.ov;have on:=H1.gs.on;have uM:Below w.1.size wr w':=vS.trans (AA ov fR J2);have i7:=H1.b7.eX (fR.block _ H1.b7.lt λe=>jW ov H1.b7 dC e.symm);have i8:=H1.b8.eX (fR.block _ H1.b8.lt λe=>jW ov H1.b8 dC e.symm);have i9:=H1.b9.eX (fR.block _ H1.b9.lt λe=>H1.gs.nq e.symm);have i6:=H1.b6.eX (fR.block _ H1.b6.lt λe=>jW ov H1.b6 dC e.symm);have kP:Kp (Pg w.1.size (Z+3) ns vs fs (wr.alloc (.cells #[sX r0 n0 e0,sX r1 n1 e1] 30))) (wr.alloc (.cells #[sX r0 n0 e0,sX r1 n1 e1] 30)) w':=np fR λc hc=>hc.2.2.2.1;have zN:∀a,kk=0->vo=a_ a->RO K (Pg w.1.size (Z+3) ns v' fs w') w' y0 y1 a:=λa e0 e=>((H1.vo a e0 e).kp kP).mono λb hb hl=>Pg.next fR.size (.rfl' _ _) li (.rfl' _ _) hb;obtain⟨ys2,BY,-⟩:=qF.of;obtain⟨zs2,BU,-⟩:=qF.ov;have BV:=qF.on;have gk:=ic w' Z 5 v';have Ac:=qF.box gk ⟨oM,oM⟩ (jW BV i7 dC) (jW BU i7 dC) (jW BY i7 dC);have Ej:∀a,kk=0->vo=a_ a->RO K (Pg w.1.size (Z+3) ns v' fs (w'.setCell (Y Z 5) v')) (w'.setCell (Y Z 5) v') y0 y1 a:=λa e0 e=>((zN a e0 e).kp (np gk λc hc e=>by injection e with e;have:=hc.2.1;omega)).mono λb hb hl=>⟨hl,hb.2⟩;have xY:Below w.1.size wr (w'.setCell (Y Z 5) v'):=uM.setCell J2 v';obtain⟨af,cf,ef⟩:=rL BU;exact⟨⟨i6.eC J2 _,i7.set 5 _,i8.eC sI _,i9.eC sI _,Ac,Ej,hw.o.bl.trans xY⟩,uM,xY,⟨_,_,_,ef⟩,i7⟩
 obtain⟨d7,f7,z7⟩:=FR.o.2.2.2.2.all;have⟨d7',f7',z7'⟩:=hw.o.b7.all;obtain⟨d6,f6,z6⟩:=hb.all;obtain⟨af,cf,nn,ef⟩:=FR.o.2.2.2.1;have⟨rF,rE,rj,ER⟩:∃a c n,vs=sX a n c:=by obtain⟨ys,of,-⟩:=hw.o.gs.ov;have⟨a,c,e⟩:=rL of;exact⟨a,c,_,e⟩
 subst ef ER;have AP:∀(ty:TypeId),ty=56->(Builtin.append_ #[56,56] ty #[sX rF rj rE,sX (sY wr.1.size 0) 1 1]).run prog (wr.alloc (.cells #[sX r0 n0 e0,sX r1 n1 e1] 30))=.ok (sX af nn cf) w':=λty e=>by subst e;exact nH
 replace nH:=AP 56 rfl;go_wp2_with (at_builtin;refine ali rfl (.tmp 94) (.tmp 96) rfl rfl rfl nH ?_)
 exact HK.o _ _ _ _ _ _ _ _ FR.o.1 FR.o.2.2.1
section
def EPost.dec{K:Ks}{P:nK}{w w':Wd}{rr:Pl.Rs}{u0 u1:Va}{f5 c5 s5 k5 x5:Int}(h:EPost K P w rr (rT (.tuple #[.agg #[u0,u1],eW f5 c5 s5 k5 x5])) w'):Bl w w'/\gL rr.2/\f5=rr.2.f/\c5=rr.2.c/\∃a,(k5=0->RO K (λb=>P b\/w.1.size<=b) w' u0 u1 a)/\((k5=0/\x5=0/\s5=rr.2.s/\rr=(.ok a,rr.2))\/(¬k5=0/\rr=(.error (k5,x5),rr.2))):=by
 obtain⟨q,m⟩:=rr;obtain⟨hb,hm,h⟩:=h
 cases q with
 |ok a =>
  obtain⟨v0,v1,e,ro⟩:=h;simp at e
  obtain⟨⟨rfl,rfl⟩,rfl,rfl,rfl,rfl,rfl⟩:=e;exact⟨hb,hm,rfl,rfl,a,λ_=>ro,.inl ⟨rfl,rfl,rfl,rfl⟩⟩
 |error q =>
  obtain⟨hk,a0,n0,c0,a1,n1,c1,s',e⟩:=h;simp at e
  obtain⟨⟨rfl,rfl⟩,rfl,rfl,rfl,rfl,rfl⟩:=e;exact⟨hb,hm,rfl,rfl,([],[]),λh=>absurd h hk,.inr ⟨hk,rfl⟩⟩
section
variable {K:Ks} {L:Pl.Lm} {w W W':Wd} {Z:Nat} {G:Pl.Gb} {l2:Nm} {vo:Option Ar} {m:Pl.Ms} {s5 kk xx:Int} {ns vs fs y0 y1:Va}
def U3(W:Wd)(b:Nat)(v0 v1 v2 v3 v4:Va):W.grownBy (((((W.setCell (Y b 0) v0).setCell (Y b 1) v1).setCell (Y b 2) v2).setCell (Y b 3) v3).setCell (Y b 4) v4) (a_ b) :=
 ((((ic _ _ _ _).trans (ic _ _ _ _)).trans (ic _ _ _ _)).trans (ic _ _ _ _)).trans (ic _ _ _ _)
def Lw.next(h:Lw K L w Z G l2 vo m s5 0 xx ns vs fs y0 y1 W)(hZ:w.1.size+3<=Z)(m':Ms)(s' k' x':Int):Lw K L w Z G l2 vo m' s' k' x' ns vs fs y0 y1 (((((W.setCell (Y (Z+1) 0) (I m'.f)).setCell (Y (Z+1) 1) (I m'.c)).setCell (Y (Z+1) 2) (I s')).setCell (Y (Z+1) 3) (I k')).setCell (Y (Z+1) 4) (I x')):=by
 have gk:=U3 W (Z+1) (I m'.f) (I m'.c) (I s') (I k') (I x');have eC:∀{b:Nat} {cs:aV} {t:TypeId},Bx W b cs t->¬b=Z+1->Bx (((((W.setCell (Y (Z+1) 0) (I m'.f)).setCell (Y (Z+1) 1) (I m'.c)).setCell (Y (Z+1) 2) (I s')).setCell (Y (Z+1) 3) (I k')).setCell (Y (Z+1) 4) (I x')) b cs t:=λhb hn=>hb.eX (gk.block _ hb.lt (by simpa using hn));obtain⟨zs,ov,-⟩:=h.gs.ov;obtain⟨ys,of,-⟩:=h.gs.of;refine⟨eC h.b6 oM,eC h.b7 oM,((((h.b8.set 0 _).set 1 _).set 2 _).set 3 _).set 4 _,eC h.b9 oM,(h.gs.I6 (λ_=>rfl)).box gk ⟨oM,oM⟩ (jW h.gs.on h.b8 dC) (jW ov h.b8 dC) (jW of h.b8 dC),λa e0 e=>((h.vo a rfl e).kp (np gk λc hc e=>by injection e with e;have:=hc.2.1;omega)).mono λb hb hl=>⟨hl,hb.2⟩,?_⟩;exact h.bl.trans (qd gk oM h.bl.size)
def Lw.last(h:Lw K L w Z G l2 vo m s5 kk xx ns vs fs y0 y1 W)(hZ:w.1.size+3<=Z)(u0 u1:Va)(a:Ar)(ro:kk=0->RO K (Pg w.1.size (Z+3) ns vs fs W) W u0 u1 a):Lw K L w Z G l2 (a_ a) m s5 kk xx ns vs fs u0 u1 ((W.setCell (Y (Z+2) 0) u0).setCell (Y (Z+2) 1) u1):=by
 have gk:=(ic W (Z+2) 0 u0).trans (ic _ (Z+2) 1 u1);have eC:∀{b:Nat} {cs:aV} {t:TypeId},Bx W b cs t->¬b=Z+2->Bx ((W.setCell (Y (Z+2) 0) u0).setCell (Y (Z+2) 1) u1) b cs t:=λhb hn=>hb.eX (gk.block _ hb.lt (by simpa using hn));obtain⟨ys,of,-⟩:=h.gs.of;refine⟨eC h.b6 oM,eC h.b7 oM,eC h.b8 oM,(h.b9.set 0 _).set 1 _,h.gs.box gk ⟨oM,oM⟩ (jW h.gs.on h.b9 dC) h.gs.nq (jW of h.b9 dC),λb e0 e=>?_,h.bl.trans (qd gk oM h.bl.size)⟩;injection e with e;subst e;exact((ro e0).kp (np gk λc hc e=>by injection e with e;have:=hc.2.1;omega)).mono λb hb hl=>⟨hl,hb.2⟩
end
end
def akg.Ov(h:ρ:=by
 refine eJ (by simp[results,results213,go_sem,c5];try rfl) rfl ?_;exact kX.o
 ):ρ:=h
def aiN.Dj(h:ρ:=by
 have HK:Hid (∀W,Bl Z W->Cp (214) #[mB k,.agg #[sX x0 n0 y0,sX x1 n1 y1],.agg #[sX x2 n2 y2,sX x3 n3 y3]] W (KP W r)):=λW kk=>by
  have hh:=H.o.1.kp (w':=W) (.of (S9.o W kk).2.1);have zT:=H.o.2.kp (w':=W) (.of (S9.o W kk).2.1);rw[HR.o];rw[Pl.sU,eD (xi gp hk1)];exact ae4 k gp hk1 _ _ _ _ a b W hh zT HA.o.1 HA.o.2
 refine tc 1 210 #[I (k:Int)] rfl rfl kF ((AE k Wd gp hk1).mono ?_);rintro e W3 ⟨rfl,hb⟩;have K3:=bv hb KD;refine .inl ⟨_,rfl,(S9.o _ K3).1,?_⟩;refine tc 4 _ _ rfl rfl kF ((HK.o W3 K3).mono ?_);rintro e W4 hK
 cases r with
 |error c =>
  exact Hj
 |ok ar =>
  open akg in exact Pn
 ):ρ:=h
def ans.QK(h:ρ:=by
 by_cases hn:n<1\/11<=n
 ·refine tc 1 210 #[I n] rfl rfl kF ((AJ n Wd hn).mono ?_)
  rintro e W3 ⟨rfl,hb⟩;have hr:r=.error 9:=by rw[HR.o];rw[Pl.sU,eB Jm]
  exact Hg
 ·open aiN in exact Dm
 ):ρ:=h
def akh.Oq(h:ρ:=by
 have⟨r,HR⟩:∃r,Hid (r=Pl.sU n a b):=⟨_,rfl⟩;rw[<- HR.o];generalize gK:a.1.length=n0 at *;generalize gr:a.2.length=n1 at *;generalize rq:b.1.length=n2 at *;generalize zQ:b.2.length=n3 at *;go_enter func213,ntmps213;open ans in exact Q6
 ):ρ:=h
def agR{P:nK}(pa pb po:Nat)(n:Int)(v0 v1 v2 v3:Va)(a b:Ar)(w:Wd)(ba:Bx w pa #[v0,v1] 30)(bb:Bx w pb #[v2,v3] 30)(bo:Bx w po #[I n] 3)(h:RA P w v0 v1 a)(h':RA P w v2 v3 b)(ha:Pl.okB a=b_)(hb:Pl.okB b=b_):Cp 213 #[pT pa,pT pb,pT po] w (KP w (Pl.sU n a b)):=by
 open akh in exact Pk
def aki.Ov(h:ρ:=by
 refine eJ (by simp[results,results217,go_sem,c5];try rfl) rfl ?_;exact kX.o
 ):ρ:=h
def aiO.Dj(h:ρ:=by
 have HK:Hid (∀W,Bl Z W->Cp (218) #[mB k,.agg #[sX x0 n0 y0,sX x1 n1 y1],.agg #[sX x2 n2 y2,sX x3 n3 y3]] W (KP W r)):=λW kk=>by
  have hh:=H.o.1.kp (w':=W) (.of (S9.o W kk).2.1);have zT:=H.o.2.kp (w':=W) (.of (S9.o W kk).2.1);rw[HR.o];exact aeq k gp hk1 _ _ _ _ a b hh zT HA.o.1 HA.o.2
 refine tc 1 210 #[I (k:Int)] rfl rfl kF ((AE k Wd gp hk1).mono ?_);rintro e W3 ⟨rfl,hb⟩;have K3:=bv hb KD;refine .inl ⟨_,rfl,(S9.o _ K3).1,?_⟩;refine tc 4 _ _ rfl rfl kF ((HK.o W3 K3).mono ?_);rintro e W4 hK
 cases r with
 |error c =>
  exact Hj
 |ok ar =>
  open aki in exact Pn
 ):ρ:=h
def ant.QK(h:ρ:=by
 by_cases hn:n<1\/11<=n
 ·refine tc 1 210 #[I n] rfl rfl kF ((AJ n Wd hn).mono ?_)
  rintro e W3 ⟨rfl,hb⟩;have hr:r=.error 9:=by rw[HR.o];rw[Pl.outer,eB Jm]
  exact Hg
 ·open aiO in exact Dm
 ):ρ:=h
def akj.Oq(h:ρ:=by
 have⟨r,HR⟩:∃r,Hid (r=Pl.outer n a b):=⟨_,rfl⟩;rw[<- HR.o];generalize gK:a.1.length=n0 at *;generalize gr:a.2.length=n1 at *;generalize rq:b.1.length=n2 at *;generalize zQ:b.2.length=n3 at *;go_enter func217,ntmps217;open ant in exact Q6
 ):ρ:=h
def agP{P:nK}(pa pb po:Nat)(n:Int)(v0 v1 v2 v3:Va)(a b:Ar)(w:Wd)(ba:Bx w pa #[v0,v1] 30)(bb:Bx w pb #[v2,v3] 30)(bo:Bx w po #[I n] 3)(h:RA P w v0 v1 a)(h':RA P w v2 v3 b)(ha:Pl.okB a=b_)(hb:Pl.okB b=b_):Cp 217 #[pT pa,pT pb,pT po] w (KP w (Pl.outer n a b)):=by
 open akj in exact Pk
def akk.Ov(h:ρ:=by
 refine eJ (by simp[results,results215,go_sem,c5];try rfl) rfl ?_;exact kX.o
 ):ρ:=h
def anu.QK(h:ρ:=by
 by_cases hn:n<1\/8<=n
 ·refine tc 1 216 #[I n] rfl rfl kF ((amb n Wd hn).mono ?_)
  rintro e W3 ⟨rfl,hb⟩;have hr:r=.error 9:=by rw[HR.o];unfold Pl.rY;(repeat' rw[eB oM])
  exact Hg
 ·obtain⟨k,rfl⟩:∃k:Nat,n=k:=⟨n.toNat,oM⟩
  have gp:1<=k:=oM;have hk1:k<8:=oM;have HK:Hid (∀W,Bl Z W->Cp (262+k) #[.agg #[sX x0 n0 y0,sX x1 n1 y1],.agg #[sX x2 n2 y2,sX x3 n3 y3]] W (KP W r)):=λW kk=>by
   have hh:=H.o.1.kp (w':=W) (.of (S9.o W kk).2.1);have zT:=H.o.2.kp (w':=W) (.of (S9.o W kk).2.1);rw[HR.o];exact ah5 k gp hk1 _ _ _ _ a b hh zT HA.o.1 HA.o.2
  refine tc 1 216 #[I (k:Int)] rfl rfl kF ((aix k Wd gp hk1).mono ?_);rintro e W3 ⟨rfl,hb⟩;have K3:=bv hb KD;refine .inl ⟨_,rfl,(S9.o _ K3).1,?_⟩;refine tc 4 (262+k) #[.agg #[sX x0 n0 y0,sX x1 n1 y1],.agg #[sX x2 n2 y2,sX x3 n3 y3]] rfl rfl (zI (262+k) #[] #[.agg #[sX x0 n0 y0,sX x1 n1 y1],.agg #[sX x2 n2 y2,sX x3 n3 y3]] (aih k gp hk1) rfl kF kF) ((HK.o W3 K3).mono ?_);rintro e W4 hK
  cases r with
  |error c =>
   exact Hj
  |ok ar =>
   open akk in exact Pn
 ):ρ:=h
def akl.Oq(h:ρ:=by
 have⟨r,HR⟩:∃r,Hid (r=Pl.rY n a b):=⟨_,rfl⟩;rw[<- HR.o];generalize gK:a.1.length=n0 at *;generalize gr:a.2.length=n1 at *;generalize rq:b.1.length=n2 at *;generalize zQ:b.2.length=n3 at *;go_enter func215,ntmps215;open anu in exact Q6
 ):ρ:=h
def agQ{P:nK}(pa pb po:Nat)(n:Int)(v0 v1 v2 v3:Va)(a b:Ar)(w:Wd)(ba:Bx w pa #[v0,v1] 30)(bb:Bx w pb #[v2,v3] 30)(bo:Bx w po #[I n] 3)(h:RA P w v0 v1 a)(h':RA P w v2 v3 b)(ha:Pl.okB a=b_)(hb:Pl.okB b=b_):Cp 215 #[pT pa,pT pb,pT po] w (KP w (Pl.rY n a b)):=by
 open akl in exact Pk
def aiP.Dj(h:ρ:=by
 refine tc 1 210 #[I (k:Int)] rfl rfl kF ((AE k Wd gp hk1).mono ?_);rintro e W2 ⟨rfl,hb2⟩;have K2:=bv hb2 KD;refine .inl ⟨_,rfl,(S9.o _ K2).1,?_⟩;by_cases hm:m<1\/11<=m
 ·refine tc 3 210 #[I m] rfl rfl kF ((AJ m W2 hm).mono ?_)
  rintro e W3 ⟨rfl,hb⟩;have hr:r=.error 9:=by rw[HR.o,Pl.inner,eB (λh=>by have:=h.2;simp[Pl.fN] at this;omega)]
  subst hr;exact .inr ⟨_,rfl,rfl,KP.err (S9.o _ (bv hb K2)).2.1⟩
 ·obtain⟨g,rfl⟩:∃g:Nat,m=g:=⟨m.toNat,oM⟩
  have tM:1<=g:=oM;have lF:g<11:=oM;have HK:Hid (∀W,Bl Z W->Cp 220 #[mB k,mB g,.agg #[sX x0 n0 y0,sX x1 n1 y1],.agg #[sX x2 n2 y2,sX x3 n3 y3]] W (KP W r)):=λW kk=>by
   have hh:=H.o.1.kp (w':=W) (.of (S9.o W kk).2.1);have zT:=H.o.2.kp (w':=W) (.of (S9.o W kk).2.1);rw[HR.o,Pl.inner,eD ⟨xi gp hk1,xi tM lF⟩];exact aeV k g gp hk1 tM lF _ _ _ _ a b hh zT HA.o.1 HA.o.2
  refine tc 3 210 #[I (g:Int)] rfl rfl kF ((AE g W2 tM lF).mono ?_);rintro e W3 ⟨rfl,hb⟩;have K3:=bv hb K2;refine .inl ⟨_,rfl,(S9.o _ K3).1,?_⟩;refine tc 6 _ _ rfl rfl kF ((HK.o W3 K3).mono ?_);rintro e W4 hK
  cases r with
  |error c =>
   exact Hj
  |ok ar =>
   obtain⟨x4,l4,y4,x5,l5,y5,rfl,gP,fZ⟩:=hK.open;have T:=S9.o _ (bv fZ K3);have nz:¬pa=w.1.size/\¬pb=w.1.size/\¬po=w.1.size/\¬pg=w.1.size:=by have:=HB.o.1.lt;have:=HB.o.2.1.lt;have:=HB.o.2.2.1.lt;have:=HB.o.2.2.2.lt;omega
   have kX:=zH (KP.pass (w:=w) (w0:=W3) gP.o T.2.1 (jR _) (by have:=(S9.o _ K3).2.2.1.lt;omega) (sX x4 l4 y4) (sX x5 l5 y5));refine .inl ⟨_,rfl,T.1,?_⟩;refine ts 7 _ rfl rfl rfl (jf (pT w.1.size) (.agg #[sX x4 l4 y4,sX x5 l5 y5]) rfl kF kF (mU T.2.2.1)) ⟨(T.1.1.eC (by simpa using nz.1) _).eC (by simpa using nz.1) _,(T.1.2.1.eC (by simpa using nz.2.1) _).eC (by simpa using nz.2.1) _,(T.1.2.2.1.eC (by simpa using nz.2.2.1) _).eC (by simpa using nz.2.2.1) _,(T.1.2.2.2.eC (by simpa using nz.2.2.2) _).eC (by simpa using nz.2.2.2) _⟩ ?_;refine te ?_;obtain⟨c5,f5,z5⟩:=T.2.2.1.all;go_simp;go_wp2;refine eJ (by simp[results,results219,go_sem,c5];try rfl) rfl ?_;exact kX.o
 ):ρ:=h
def anv.lH(h:ρ:=by
 have H:=zH (jA h h');have HA:=zH (jA ha hb);have HB:=zH (jA ba (jA bb (jA bo bg)));obtain⟨c0,f0,z0⟩:=ba.all;obtain⟨c1,f1,z1⟩:=bb.all;have⟨r,HR⟩:∃r,Hid (r=Pl.inner n m a b):=⟨_,rfl⟩;rw[<- HR.o];generalize gK:a.1.length=n0 at *;generalize gr:a.2.length=n1 at *;generalize rq:b.1.length=n2 at *;generalize zQ:b.2.length=n3 at *;go_enter func219,ntmps219;go_wp2_with fail;generalize hW:ew (ew w _) _=W0;have V0:=jU hW;refine(MQ _ 2 2 _ (Lv.two V0.o.2.1 ((H.o.1.kp (.of V0.o.2.2.1)).mono λb h k=>k) HA.o.1 ((H.o.2.kp (.of V0.o.2.2.1)).mono λb h k=>k) HA.o.2) oM).l λZ hb=>?_;have S9:Hid (∀W,Bl Z W->(Bx W pa #[sX x0 n0 y0,sX x1 n1 y1] 30/\Bx W pb #[sX x2 n2 y2,sX x3 n3 y3] 30/\Bx W po #[I n] 3/\Bx W pg #[I m] 3)/\Bl w W/\Bx W w.1.size nN 30/\w.1.size<=Z.1.size):=λW kk =>
  have k2:=bv kk (bv hb V0.o.2.2.1);⟨⟨HB.o.1.below k2,HB.o.2.1.below k2,⟨HB.o.2.2.1.below k2,HB.o.2.2.2.below k2⟩⟩,k2,(V0.o.1.below hb).below kk,(bv hb V0.o.2.2.1).size⟩
 go_wp2_with fail;refine fT (S:=λW=>Bx W pa #[sX x0 n0 y0,sX x1 n1 y1] 30/\Bx W pb #[sX x2 n2 y2,sX x3 n3 y3] 30/\Bx W po #[I n] 3/\Bx W pg #[I m] 3) kF (S9.o Z (jD _ _)).1 (λhS=>?_);refine tk 0 _ rfl hS (λ_ h=>fh _ _ rfl kF (nh (h.2.2.1.cf.1 0))) ?_;refine tk 2 _ rfl hS (λ_ h=>fh _ _ rfl kF (nh (h.2.2.2.cf.1 0))) ?_;refine tk 4 _ rfl hS (λ_ h=>fh _ _ rfl kF (oL h.1)) ?_;refine tk 5 _ rfl hS (λ_ h=>fh _ _ rfl kF (oL h.2.1)) ?_;have KD:Bl Z Z.drew:=gG;generalize Z.drew=Wd at *;by_cases hn:n<1\/11<=n
 ·refine tc 1 210 #[I n] rfl rfl kF ((AJ n Wd hn).mono ?_)
  rintro e W3 ⟨rfl,hb⟩;have hr:r=.error 9:=by rw[HR.o,Pl.inner,eB (λh=>by have:=h.1;simp[Pl.fN] at this;omega)]
  exact Hg
 ·open aiP in exact Dm
 ):ρ:=h
def agO{P:nK}(pa pb po pg:Nat)(n m:Int)(v0 v1 v2 v3:Va)(a b:Ar)(w:Wd)(ba:Bx w pa #[v0,v1] 30)(bb:Bx w pb #[v2,v3] 30)(bo:Bx w po #[I n] 3)(bg:Bx w pg #[I m] 3)(h:RA P w v0 v1 a)(h':RA P w v2 v3 b)(ha:Pl.okB a=b_)(hb:Pl.okB b=b_):Cp 219 #[pT pa,pT pb,pT po,pT pg] w (KP w (Pl.inner n m a b)):=by
 have h:=h.mono (Q:=λb=>b<w.1.size) λb _ k=>k;have h':=h'.mono (Q:=λb=>b<w.1.size) λb _ k=>k;open anv in exact lO
def anw.lH(h:ρ:=by
 have H:=zH (jA h h');have HA:=zH (jA ha hb);have⟨r,HR⟩:∃r,Hid (r=Pl.sU n a b):=⟨_,rfl⟩;rw[<- HR.o];generalize gK:a.1.length=n0 at *;generalize gr:a.2.length=n1 at *;generalize rq:b.1.length=n2 at *;generalize zQ:b.2.length=n3 at *;go_enter func187,ntmps187;go_wp2_with fail;generalize hW:ew (ew (ew (ew w _) _) _) _=W0;have V0:=yA hW;refine(wX 213 _ r W0 (λw=>kF) (λW kk=>by rw[HR.o];exact agR _ _ _ n _ _ _ _ a b W (V0.o.2.1.below kk) (V0.o.2.2.1.below kk) (V0.o.1.below kk) (H.o.1.kp (.of (bv kk V0.o.2.2.2.2.1))) (H.o.2.kp (.of (bv kk V0.o.2.2.2.2.1))) HA.o.1 HA.o.2)).mono ?_;rintro e w3 jQ;obtain⟨x4,l4,y4,x5,l5,y5,rfl,gP,hb⟩:=SP.open (show SP W0 r e w3 from jQ);have V3:=zH (jA (V0.o.2.2.2.1.below hb) (jA (bv hb V0.o.2.2.2.2.1) V0.o.2.2.2.1.lt));obtain⟨c3,f3,z3⟩:=V3.o.1.all;go_wp2;refine eJ (by simp[results,results187,go_sem,c3];try rfl) rfl ?_;exact SP.put gP.o V3.o.2.1 oM V3.o.2.2 _ _
 ):ρ:=h
def abR{P:nK}(n:Int)(v0 v1 v2 v3:Va)(a b:Ar)(w:Wd)(h:RA P w v0 v1 a)(h':RA P w v2 v3 b)(ha:Pl.okB a=b_)(hb:Pl.okB b=b_):Cp 187 #[I n,.agg #[v0,v1],.agg #[v2,v3]] w (SP w (Pl.sU n a b)):=by
 have jv:=jv;open anw in exact lO
def anz.lH(h:ρ:=by
 have H:=zH (jA h h');have HA:=zH (jA ha hb);have⟨r,HR⟩:∃r,Hid (r=Pl.rY n a b):=⟨_,rfl⟩;rw[<- HR.o];generalize gK:a.1.length=n0 at *;generalize gr:a.2.length=n1 at *;generalize rq:b.1.length=n2 at *;generalize zQ:b.2.length=n3 at *;go_enter func188,ntmps188;go_wp2_with fail;generalize hW:ew (ew (ew (ew w _) _) _) _=W0;have V0:=yA hW;refine(wX 215 _ r W0 (λw=>kF) (λW kk=>by rw[HR.o];exact agQ _ _ _ n _ _ _ _ a b W (V0.o.2.1.below kk) (V0.o.2.2.1.below kk) (V0.o.1.below kk) (H.o.1.kp (.of (bv kk V0.o.2.2.2.2.1))) (H.o.2.kp (.of (bv kk V0.o.2.2.2.2.1))) HA.o.1 HA.o.2)).mono ?_;rintro e w3 jQ;obtain⟨x4,l4,y4,x5,l5,y5,rfl,gP,hb⟩:=SP.open (show SP W0 r e w3 from jQ);have V3:=zH (jA (V0.o.2.2.2.1.below hb) (jA (bv hb V0.o.2.2.2.2.1) V0.o.2.2.2.1.lt));obtain⟨c3,f3,z3⟩:=V3.o.1.all;go_wp2;refine eJ (by simp[results,results188,go_sem,c3];try rfl) rfl ?_;exact SP.put gP.o V3.o.2.1 oM V3.o.2.2 _ _
 ):ρ:=h
def acr{P:nK}(n:Int)(v0 v1 v2 v3:Va)(a b:Ar)(w:Wd)(h:RA P w v0 v1 a)(h':RA P w v2 v3 b)(ha:Pl.okB a=b_)(hb:Pl.okB b=b_):Cp 188 #[I n,.agg #[v0,v1],.agg #[v2,v3]] w (SP w (Pl.rY n a b)):=by
 have jv:=jv;open anz in exact lO
def anA.lH(h:ρ:=by
 have H:=zH (jA h h');have HA:=zH (jA ha hb);have⟨r,HR⟩:∃r,Hid (r=Pl.outer n a b):=⟨_,rfl⟩;rw[<- HR.o];generalize gK:a.1.length=n0 at *;generalize gr:a.2.length=n1 at *;generalize rq:b.1.length=n2 at *;generalize zQ:b.2.length=n3 at *;go_enter func189,ntmps189;go_wp2_with fail;generalize hW:ew (ew (ew (ew w _) _) _) _=W0;have V0:=yA hW;refine(wX 217 _ r W0 (λw=>kF) (λW kk=>by rw[HR.o];exact agP _ _ _ n _ _ _ _ a b W (V0.o.2.1.below kk) (V0.o.2.2.1.below kk) (V0.o.1.below kk) (H.o.1.kp (.of (bv kk V0.o.2.2.2.2.1))) (H.o.2.kp (.of (bv kk V0.o.2.2.2.2.1))) HA.o.1 HA.o.2)).mono ?_;rintro e w3 jQ;obtain⟨x4,l4,y4,x5,l5,y5,rfl,gP,hb⟩:=SP.open (show SP W0 r e w3 from jQ);have V3:=zH (jA (V0.o.2.2.2.1.below hb) (jA (bv hb V0.o.2.2.2.2.1) V0.o.2.2.2.1.lt));obtain⟨c3,f3,z3⟩:=V3.o.1.all;go_wp2;refine eJ (by simp[results,results189,go_sem,c3];try rfl) rfl ?_;exact SP.put gP.o V3.o.2.1 oM V3.o.2.2 _ _
 ):ρ:=h
def abO{P:nK}(n:Int)(v0 v1 v2 v3:Va)(a b:Ar)(w:Wd)(h:RA P w v0 v1 a)(h':RA P w v2 v3 b)(ha:Pl.okB a=b_)(hb:Pl.okB b=b_):Cp 189 #[I n,.agg #[v0,v1],.agg #[v2,v3]] w (SP w (Pl.outer n a b)):=by
 have jv:=jv;open anA in exact lO
def anB.lH(h:ρ:=by
 have H:=zH (jA h h');have HA:=zH (jA ha hb);have⟨r,HR⟩:∃r,Hid (r=Pl.inner n m a b):=⟨_,rfl⟩;rw[<- HR.o];generalize gK:a.1.length=n0 at *;generalize gr:a.2.length=n1 at *;generalize rq:b.1.length=n2 at *;generalize zQ:b.2.length=n3 at *;go_enter func190,ntmps190;go_wp2_with fail;generalize hW:ew (ew (ew (ew (ew w _) _) _) _) _=W0;have V0:=TO hW;refine(wX 219 _ r W0 (λw=>kF) (λW kk=>by rw[HR.o];exact agO _ _ _ _ n m _ _ _ _ a b W (V0.o.2.2.1.below kk) (V0.o.2.2.2.1.below kk) (V0.o.1.below kk) (V0.o.2.1.below kk) (H.o.1.kp (.of (bv kk V0.o.2.2.2.2.2.1))) (H.o.2.kp (.of (bv kk V0.o.2.2.2.2.2.1))) HA.o.1 HA.o.2)).mono ?_;rintro e w3 jQ;obtain⟨x4,l4,y4,x5,l5,y5,rfl,gP,hb⟩:=SP.open (show SP W0 r e w3 from jQ);have V3:=zH (jA (V0.o.2.2.2.2.1.below hb) (jA (bv hb V0.o.2.2.2.2.2.1) V0.o.2.2.2.2.1.lt));obtain⟨c3,f3,z3⟩:=V3.o.1.all;go_wp2;refine eJ (by simp[results,results190,go_sem,c3];try rfl) rfl ?_;exact SP.put gP.o V3.o.2.1 oM V3.o.2.2 _ _
 ):ρ:=h
def abQ{P:nK}(n m:Int)(v0 v1 v2 v3:Va)(a b:Ar)(w:Wd)(h:RA P w v0 v1 a)(h':RA P w v2 v3 b)(ha:Pl.okB a=b_)(hb:Pl.okB b=b_):Cp 190 #[I n,I m,.agg #[v0,v1],.agg #[v2,v3]] w (SP w (Pl.inner n m a b)):=by
 have jv:=jv;open anB in exact lO
def Kz:Ks where
 e1:=λo a=>f_ (Pl.qQ o a)
 rd:=λo a=>f_ (Pl.reduce o a)
 sc:=λo a=>f_ (Pl.scan o a)
 mo:=λo a=>f_ (Pl.rO o a)
 e2:=λo a b=>f_ (Pl.sU o a b)
 ou:=λo a b=>f_ (Pl.outer o a b)
 dy:=λo a b=>f_ (Pl.rY o a b)
 mC:=λo p a b=>f_ (Pl.inner o p a b)
 ok:=λa=>Pl.okB a=b_
def SP.kf{w w':Wd}{r:Except Int Ar}{e:Ending}(h:SP w r e w')(g:Pl.Gd r):KF Kz w (f_ r) e w':=by
 obtain⟨hb,u0,u1,rfl,ra⟩:=h;refine⟨hb,u0,u1,rfl,ra,λh0=>?_⟩
 cases r with
 |ok a=>exact g
 |error c=>exact absurd h0 g
def aok:KS Kz where
 e1:=λP op v0 v1 a w h=>(abE op v0 v1 a w h.1 h.2).mono λ_ _ k=>k.kf (Pl.WB op h.2)
 rd:=λP op v0 v1 a w h=>(abn op v0 v1 a w h.1 h.2).mono λ_ _ k=>k.kf (Pl.VI op h.2)
 sc:=λP op v0 v1 a w h=>(ab6 op v0 v1 a w h.1 h.2).mono λ_ _ k=>k.kf (Pl.Xy op h.2)
 mo:=λP op v0 v1 a w h=>(abB op v0 v1 a w h.1 h.2).mono λ_ _ k=>k.kf (Pl.Ww op h.2)
 e2:=λP op v0 v1 v2 v3 a b w h h'=>(abD op v0 v1 v2 v3 a b w h.1 h'.1 h.2 h'.2).mono λ_ _ k=>k.kf (Pl.WA op h.2 h'.2)
 ou:=λP op v0 v1 v2 v3 a b w h h'=>(abA op v0 v1 v2 v3 a b w h.1 h'.1 h.2 h'.2).mono λ_ _ k=>k.kf (Pl.Wv op h.2 h'.2)
 dy:=λP op v0 v1 v2 v3 a b w h h'=>(ab7 op v0 v1 v2 v3 a b w h.1 h'.1 h.2 h'.2).mono λ_ _ k=>k.kf (Pl.Xz op h.2 h'.2)
 mC:=λP f g v0 v1 v2 v3 a b w h h'=>(abC f g v0 v1 v2 v3 a b w h.1 h'.1 h.2 h'.2).mono λ_ _ k=>k.kf (Pl.Wx f g h.2 h'.2)
def aol:KI Kz where
 e1:=λP op v0 v1 a w h=>(abS op v0 v1 a w h.1 h.2).mono λ_ _ k=>k.kf (Pl.WB op h.2)
 rd:=λP op v0 v1 a w h=>(abv op v0 v1 a w h.1 h.2).mono λ_ _ k=>k.kf (Pl.VI op h.2)
 sc:=λP op v0 v1 a w h=>(acq op v0 v1 a w h.1 h.2).mono λ_ _ k=>k.kf (Pl.Xy op h.2)
 mo:=λP op v0 v1 a w h=>(abP op v0 v1 a w h.1 h.2).mono λ_ _ k=>k.kf (Pl.Ww op h.2)
 e2:=λP op v0 v1 v2 v3 a b w h h'=>(abR op v0 v1 v2 v3 a b w h.1 h'.1 h.2 h'.2).mono λ_ _ k=>k.kf (Pl.WA op h.2 h'.2)
 ou:=λP op v0 v1 v2 v3 a b w h h'=>(abO op v0 v1 v2 v3 a b w h.1 h'.1 h.2 h'.2).mono λ_ _ k=>k.kf (Pl.Wv op h.2 h'.2)
 dy:=λP op v0 v1 v2 v3 a b w h h'=>(acr op v0 v1 v2 v3 a b w h.1 h'.1 h.2 h'.2).mono λ_ _ k=>k.kf (Pl.Xz op h.2 h'.2)
 mC:=λP f g v0 v1 v2 v3 a b w h h'=>(abQ f g v0 v1 v2 v3 a b w h.1 h'.1 h.2 h'.2).mono λ_ _ k=>k.kf (Pl.Wx f g h.2 h'.2)
def Pl.Wb:∀(l:lI)(s:Int) (d:lI) (t:Int),(∀x∈l,fB x=b_)->iy l s=a_ (d,t)->d.length=l.length/\∀x∈d,fB x=b_
 |[],s,d,t,_,h=>by
  simp only[iy,kh,kH] at h;obtain⟨rfl,rfl⟩:=h;simp
 |n::r,s,d,t,hv,h=>by
  simp only[iy] at h;split at h
  ·cases h
  next hn =>
  cases hr:iy r (s * 48271 % 2147483647) with
  |none=>rw[hr] at h;cases h
  |some p =>
   obtain⟨d',t'⟩:=p;rw[hr] at h;simp only[kh,kH] at h;obtain⟨rfl,rfl⟩:=h;have⟨h1,h2⟩:=Wb r _ d' t' (λx hx=>hv x Jl) hr;refine⟨by simp[h1],λx hx=>?_⟩;rcases qR.1 hx with rfl|hx
   ·have:=hv n sI
    simp only[fB,fO,fQ] at this ⊢;have h3:=Int.emod_nonneg (s * 48271 % 2147483647) (show n ≠ 0 by omega);have h4:=Int.emod_lt_of_pos (s * 48271 % 2147483647) (show 0<n by omega);omega
   exact h2 x hx
def aaM:KO Kz where
 eF:=λl h=>by
  simp only[k_,fO,fQ] at h;have hv:∀x∈l,Pl.fB x=b_:=ga.1 h.1.1;show Pl.okB (oK l)=b_;unfold oK;split
  ·next h1 =>
   match l,h1 with
   |[x],_=>exact Pl.OH (hv x sI)
  ·exact Pl.xj h.2 hv
 roll:=λa s d t h hr=>by
  have h:Pl.okB a=b_:=h;have⟨h1,h2⟩:=Pl.Wb a.2 s d t (Pl.lU h) hr;exact Pl.qO (Pl.ok_eq h).1 (by rw[h1];exact(Pl.ok_eq h).2.1) h2
 len:=λa h=>by
  have h:Pl.okB a=b_:=h;have:=(Pl.ok_eq h).2.2.2;omega
end Go.Proofs.YtiagfejlmafliaaGreatDoor
