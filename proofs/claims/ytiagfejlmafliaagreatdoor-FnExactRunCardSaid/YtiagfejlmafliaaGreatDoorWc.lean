import Derived.Test.YtiagfejlmafliaaGreatDoorVv
import Derived.Laws.MakeOwn
namespace Go.Proofs.YtiagfejlmafliaaGreatDoor
set_option linter.all false
open Go.Proofs.Tryz Pl
open Go.RowKit
set_option maxRecDepth 100000
set_option maxHeartbeats 16000000
open World renaming setCell->ez,alloc->ew
open List renaming range->eA,replicate->eE
open Option renaming some->a_,none->c_
open Bool renaming true->b_,false->d_
variable {ρ:Prop}
section
variable {l:lI}{n:Nat}
def Zr(l:lI)(n:Nat):aV:=((l++eE (n-l.length) 0).map (Value.int .i64)).toArray
def GU(h:l.length<=n):(Zr l n).size=n:=by simp[Zr];omega
def um(h:l.length<n)(v:Int):(Zr l n).setIfInBounds l.length (I v)=Zr (l++[v]) n:=by
 have e:eE (n-l.length) (0:Int)=0::eE (n-(l++[v]).length) 0:=by
  rw[<- PY];congr 1;simp;omega
 unfold Zr;rw[e,Z4];congr 1
 rw[mP,mP,mP,Z3 _ _ sI];simp
def sN{i:Nat}(h:l.length<=n)(hi:i<n):∃v,(Zr l n)[i]? = a_ (I v):=by
 simp only[Zr,List.getElem?_toArray,qo];rw[fw J2];exact⟨_,rfl⟩
def ajm.GN(h:ρ:=by
 have:=run_makeSlice (P:=prog) (w:=w) 23 3 i0 (I 0) underlying23 hi iC .i64 .i64 n n oM oM (by rw[gy];omega) (by rw[iS];omega) oM;exact Τ
 ):ρ:=h
def n8(w:Wd)(n:Nat)(h:n<=1048576):(Instr.makeSlice 23 (I (n:Int)) (I (n:Int))).run prog w=.ok (sX (sY w.1.size 0) n n) (w.alloc (.cells (Zr [] n) 3)):=by
 open ajm in exact Hf
def sM{w:Wd}{B D:Nat}(h:Bx w D (Zr l n) 3)(hB:B<=D)(hn:n<=1048576)(e:l.length=n):Oi B w (sX (sY D 0) n n) l:=by
 subst e;refine⟨sI,.inr ⟨D,l.length,Zr l l.length,rfl,hB,h,jR _,by unfold maxLen;omega,by rw[GU (jR _)];simp,?_⟩⟩;simp[Zr]
 rw[mR sI]
end
open Pl (Ar)
section
namespace Pl
def LV:Except Int (List (lI))->Except Int (lI)
 |.error c=>.error c
 |.ok ds=>.ok ds.flatten
def qY(m:Int)(db:lI)(s:Nat)(i:Int):Except Int (lI):=if i<0\/m<=i then .error 4 else .ok (rowAt db s i.toNat)
def from_(a b:Ar):Except Int Ar:=match b.1 with
 |[]=>.error 2
 |m::row=>if fy (a.1++row)=b_ then wS (a.1++row) (LV (eU (qY m b.2 (eQ row)) a.2)) else .error 6
end Pl
def Ju{w:Wd}{b:Nat}{v0:Va}{x x':oA}{n y n' y':Nat}(h:Bx w b #[v0,sX x n y] 30):(Instr.storeAt 23 (.pointer (a_ ⟨b,1,c_⟩)) (sX x' n' y')).run prog w=.ok () (w.setCell ⟨b,1,c_⟩ (sX x' n' y')):=by
 exact ze
def nh{w:Wd}{b o:Nat}{z:Int}(h:w.cell? ⟨b,o,c_⟩=a_ (.int .i64 z)):(Instr.loadAt 3 (.pointer (a_ ⟨b,o,c_⟩))).run prog w=.ok (.int .i64 z) w:=by go_simp
def qx{w:Wd}{b o n y k:Nat}(h:k<n):(Instr.indexAt 23 (sX (a_ ⟨b,o,c_⟩) n y) (.int .i64 (k:Int))).run prog w=.ok (.pointer (a_ ⟨b,o+k,c_⟩)) w:=by
 have:(k:Int)<(n:Int):=oM;go_simp
def nD{o:Oper}{a:Act}{X I:Operand}{w:Wd}{v:Va}(vx vi:Va)(ho:o.op=Op.indexAddr 23 X I)(hx:a.eval X=vx)(hi:a.eval I=vi)(hr:(Instr.indexAt 23 vx vi).run prog w=.ok v w):(execOp a.eval o).run prog w=.ok (.value v) w:=by simp[execOp,ho,hx,hi,hr,Result.andThen]
section
variable {ops:Array Oper} {Q:Exit->Act->Wd->Prop} {S:Wd->Prop} {fuel:Nat} {listed:Array Bool} {a:Act} {w:Wd}
def D'(i j f:Nat)(v:Va)(args:aV){oi oj:Oper}(ei:ops[i]? = a_ oi)(ej:ops[j]? = a_ oj)(gi:oi.guard=c_)(gj:oj.guard=c_)(hS:S w)(hi:(execOp a.eval oi).run prog w=.ok (.value v) w)(hj:(execOp a.eval oj).run prog w=.ok (.enter f args) w)(zS:(execOp (a.put oi.dst v).eval oj).run prog w=.ok (.enter f args) w)
  (hc:Cp f args w λe w'=>∃u,e=rT u/\S w'/\wpAnyH prog .any ops Q S fuel ((listed.setIfInBounds i b_).setIfInBounds j b_) ((a.put oi.dst v).put oj.dst u) w'/\wpAnyH prog .any ops Q S (fuel+1) (listed.setIfInBounds j b_) (a.put oj.dst u) w')
  (hr:Region.ready .any ops listed=[i,j]:=by kernel_rfl) (yb:Region.ready .any ops (listed.setIfInBounds i b_)=[j]:=by kernel_rfl):wpAnyH prog .any ops Q S (fuel+1+1) listed a w :=
 gT i j ei ej (iL v w gi hi hS (tc j f args ej gj zS (hc.mono λe w' ⟨u,he,hs,h1,_⟩=>.inl ⟨u,he,hs,h1⟩) yb)) (lC gj hj (hc.mono λe w' ⟨u,he,hs,_,h2⟩=>⟨u,he,hs,h2⟩)) hr
def ta(i:Nat){P:nK}{B:Nat}{v u:Va}{zs ys:lI}{o:Oper}(hi:ops[i]? = a_ o)(hg:o.guard=c_)(s x:Operand)(gO:o.op=Op.call { callee:=Callee.builtin Builtin.append,args:=#[s,x],argTypes:=#[23,23] })(hs:a.eval s=v)(hx:a.eval x=u)(h:Oi B w v zs)(hu:Rw P w u ys)(kU:zs.length+ys.length<=16777216)(hB:B<=w.1.size)
  (hK:∀v' w',Oi B w' v' (zs++ys)->w.grownBy w' v.ownBlock->mY w v v'->S w'/\wpAnyH prog .any ops Q S fuel (listed.setIfInBounds i b_) (a.put o.dst v') w') (hr:Region.ready .any ops listed=[i]:=by kernel_rfl):wpAnyH prog .any ops Q S (fuel+1) listed a w :=
 iO i hi (zM hg s x gO hs hx h hu kU hB hK) hr
end
def WC{X:Prop}(h:X:=by
 refine ta 10 rfl rfl (.tmp 57) (.tmp 65) rfl kF kF wm.o.o1 RW3.o yC.o Tp ?_;intro v' w9 ho hg ha;have⟨R9,B9,Ag⟩:=wm.o.step Aa.o Tp hg ho ha (jD _ _);have⟨xv,yv,e8⟩:=ho.form;have⟨q9,HQ9⟩:=jN ((acc++Pl.rowAt db s j).length);rw[HQ9.o] at e8;subst e8;have B8:Bl B w9:=wm.o.o1.fI Aa.o hg Tp;refine⟨B8,?_⟩;refine tk 11 (.pointer (a_ ⟨pb,1,c_⟩)) rfl B8 (λ_ _=>kF) ?_;refine ts 12 _ rfl rfl rfl (jf (.pointer (a_ ⟨pb,1,c_⟩)) (sX xv q9 yv) rfl kF kF (Ju Ag)) B9.o ?_;refine te ?_;generalize w9.setCell _ _=Wy at *;go_simp;go_wp2;go_roundw
 case rel=>exact⟨k+1,_,_,_,gN,oM,j_,B9,R9⟩
 simp[intOf];omega):X:=h
def aiW.X_(h:ρ:=by
 refine tk 4 _ rfl hS (λW h=>fh _ _ rfl kF (kC h.2)) ?_;refine tk 5 (sX z9 p2 k9) rfl hS (λW h=>ie (vx:=sX (a_ ⟨bz,oz,c_⟩) (p2+1) y2) (vl:=.int .i64 ((1:Nat):Int)) rfl kF kF (C0.o _)) ?_;have M:MS B.1.size B B.drew sa sb c_ c_ c_ c_:=MS.start (show Bl B _ from by go_grown) (jR _);generalize B.drew=W at *
 iterate 5
  all_goals first
   |(have _g:MS _ _ _ _ _ c_ c_ c_ c_:=M;refine BP 2 7 12 rfl rfl rfl ?_ ?_ ?_)
   |(have _g:MS _ _ _ _ _ c_ c_ (a_ _) c_:=M;refine gT 2 12 rfl rfl ?_ ?_)
   |(have _g:MS _ _ _ _ _ c_ c_ c_ (a_ _):=M;refine gT 2 7 rfl rfl ?_ ?_)
   |(have _g:MS _ _ _ _ _ c_ c_ (a_ _) (a_ _):=M;refine iO 2 rfl ?_)
   |(have _g:MS _ _ _ _ _ (a_ _) c_ c_ c_:=M;refine BP 6 7 12 rfl rfl rfl ?_ ?_ ?_)
   |(have _g:MS _ _ _ _ _ (a_ _) c_ (a_ _) c_:=M;refine gT 6 12 rfl rfl ?_ ?_)
   |(have _g:MS _ _ _ _ _ (a_ _) c_ c_ (a_ _):=M;refine gT 6 7 rfl rfl ?_ ?_)
   |(have _g:MS _ _ _ _ _ (a_ _) c_ (a_ _) (a_ _):=M;refine iO 6 rfl ?_)
   |(have _g:MS _ _ _ _ _ c_ (a_ _) c_ c_:=M;refine gT 7 12 rfl rfl ?_ ?_)
   |(have _g:MS _ _ _ _ _ c_ (a_ _) c_ (a_ _):=M;refine iO 7 rfl ?_)
   |(have _g:=MD;refine iO 12 rfl ?_)
   |(have _g:MS _ _ _ _ _ c_ (a_ _) (a_ _) c_:=M;refine gT 8 12 rfl rfl ?_ ?_)
   |(have _g:MS _ _ _ _ _ c_ (a_ _) (a_ _) (a_ _):=M;refine iO 8 rfl ?_)
  all_goals first
   |(refine zM rfl (.tmp 17) (.tmp 20) rfl kF kF (M.h1 _ rfl) (RY.o _ M.bl) UB.o M.sz ?_
     intro v' W ho hg ha;have⟨ax,ay,e4⟩:=ho.form;rw[EA.o] at e4;subst e4;replace M:=M.app hg ho ha;refine⟨SS.o _ M.bl,?_⟩)
   |(refine iL (sX (a_ ⟨W.1.size,0,c_⟩) 0 0) (W.alloc (.cells #[] 3)) rfl (Q7 rfl) (SS.o _ M.emp.bl) ?_
     replace M:=M.emp;generalize W.alloc _=Wn at M ⊢;generalize W.1.size=b6 at M ⊢;obtain⟨W,rfl⟩:∃Y,Y=Wn:=⟨_,rfl⟩)
   |(refine iL (.pointer (a_ ⟨W.1.size,0,c_⟩)) (W.alloc (.cells nN 30)) rfl (xO _ rfl (BJ _)) (SS.o _ M.box.bl) ?_
     replace M:=M.box;generalize W.alloc _=Wn at M ⊢;generalize W.1.size=fP at M ⊢;obtain⟨W,rfl⟩:∃Y,Y=Wn:=⟨_,rfl⟩)
   |(refine lC rfl kF ((KC.o _ M.bl).mono ?_)
     rintro e W ⟨hb,u,rfl,o⟩;have⟨cx,cy,e2⟩:=o.form;rw[EX.o] at e2;subst e2;replace M:=M.copy hb o;refine⟨_,rfl,SS.o _ M.bl,?_⟩)
   |(refine lC rfl kF ((KM.o _ ax ay b6 ((M.h2 _ rfl).ri.rw.jG λ_ _ _=>trivial)).mono ?_)
     rintro e W ⟨hb,rfl⟩;replace M:=M.below hb;have MD:=True.intro;refine⟨_,rfl,SS.o _ M.bl,?_⟩;refine tk 9 (.tuple #[if ft=b_ then .agg #[sX ax p4 ay,sX (a_ ⟨b6,0,c_⟩) 0 0] else .agg nN,.int .i64 (if ft=b_ then 0 else 6)]) rfl (SS.o _ M.bl) (λ_ _=>kF) ?_;refine tk 10 (if ft=b_ then .agg #[sX ax p4 ay,sX (a_ ⟨b6,0,c_⟩) 0 0] else .agg nN) rfl (SS.o _ M.bl) (λ_ _=>kF) ?_;refine tk 11 (.int .i64 (if ft=b_ then 0 else 6)) rfl (SS.o _ M.bl) (λ_ _=>kF) ?_)
 all_goals
  have mb:=M.h4 fP rfl;have hN:=(J.o B (jD _ _)).2.2.2.2;have m1:¬w.1.size=fP:=by have:=mb.2;omega
  have m2:¬w.1.size+1=fP:=by have:=mb.2;omega
  have SZ:=SS.o _ M.bl
  cases ft
  ·refine ts 13 _ rfl rfl rfl (jf (.pointer (a_ ⟨fP,0,c_⟩)) (.agg nN) rfl kF kF (mU mb.1)) ⟨(SZ.1.eC JB _).eC JB _,(SZ.2.eC JA _).eC JA _⟩ ?_
   refine tk 14 (.int .i64 6) rfl ⟨(SZ.1.eC JB _).eC JB _,(SZ.2.eC JA _).eC JA _⟩ (λ_ _=>kF) ?_;have RR:Hid (Bl B ((W.setCell ⟨fP,0,c_⟩ (nJ)).setCell ⟨fP,1,c_⟩ (nJ))/\Bx ((W.setCell ⟨fP,0,c_⟩ (nJ)).setCell ⟨fP,1,c_⟩ (nJ)) fP nN 30):=⟨(M.bl.setCell mb.2 _).setCell mb.2 _,(mb.1.set 0 _).set 1 _⟩;refine te ?_;generalize ez (ez W _ _) _ _=Wy at *;go_simp;go_wp2;go_meet
   exact⟨fP,rfl,.inr ⟨rfl,rfl,RR⟩⟩
  refine ts 13 _ rfl rfl rfl (jf (.pointer (a_ ⟨fP,0,c_⟩)) (.agg #[sX ax p4 ay,sX (a_ ⟨b6,0,c_⟩) 0 0]) rfl kF kF (mU mb.1)) ⟨(SZ.1.eC JB _).eC JB _,(SZ.2.eC JA _).eC JA _⟩ ?_;refine tk 14 (.int .i64 0) rfl ⟨(SZ.1.eC JB _).eC JB _,(SZ.2.eC JA _).eC JA _⟩ (λ_ _=>kF) ?_;have RR:=zH M.fin;refine te ?_;generalize ez (ez W _ _) _ _=Wy at *;go_simp;go_wp2;go_meet
  exact⟨fP,rfl,.inl ⟨rfl,rfl,ax,ay,_,RR⟩⟩
 ):ρ:=h
def aj5.Yn(h:ρ:=by
 go_cut [6,7] from 69 (λv8 v9 W=>∃pb:Nat,v8=.pointer (a_ ⟨pb,0,c_⟩)/\((Fl ft b_/\v9=.int .i64 0/\∃ax ay dv,Hid (Ou B.1.size W pb (sX ax p4 ay) dv (sa++sb) []/\Bl B W/\Bx W pb #[sX ax p4 ay,dv] 30))\/(Fl ft d_/\v9=.int .i64 6/\Hid (Bl B W/\Bx W pb nN 30))))
 case first =>
  refine fT (S:=λW=>Bx W w.1.size #[sX x0 p0 y0,sX x1 p1 y1] 30/\Bx W (w.1.size+1) #[sX (a_ ⟨bz,oz,c_⟩) (p2+1) y2,sX x3 p3 y3] 30) kF (SS.o B (jD _ _)) (λhS=>?_);open aiW in exact YO
 case rest =>
  obtain⟨pb,rfl,hcut⟩:=hcut;rcases hcut with ⟨hft,rfl,ax,ay,dv,ik⟩|⟨hft,rfl,ik⟩
  rotate_left
  ·have hr:r=.error 6:=by rw[HR.o,show ft=d_ from hft];rfl
   subst hr;obtain⟨c0,f0,z0⟩:=ik.o.2.all;obtain⟨c1,f1,z1⟩:=(J.o _ ik.o.1).2.2.1.all;have jo:=zH (J.o _ ik.o.1).2.2.2.1;go_wp2;refine eJ JZ rfl ?_;have:=jo.o;exact SP.err gG
  have⟨F,HF⟩:∃F:Int->Except Int (lI),Hid (F=Pl.qY (n:Int) db s):=⟨_,rfl⟩;have eP:Hid (r=Pl.wS (sa++sb) (LV (Pl.eU F da))):=by show _=_;rw[HR.o,show ft=b_ from hft,HF.o];rfl
  obtain⟨xd,yd,rfl⟩:=ik.o.1.o1.form;simp only[iA] at ik ⊢;go_wp2_with fail;go_loopw [8] (λi wr=>∃(k:Nat)(ds:List (lI)) (acc:lI) (dv:Va),i=.int .i64 (k:Int)/\k<=p1/\Hid (acc=ds.flatten/\acc.length<=k * 1000/\Pl.eU F da=gM F da k ds)/\Hid (Bl B wr)/\Hid (Ou B.1.size wr pb (sX ax p4 ay) dv (sa++sb) acc)) (λi _=>p1-(intOf i).toNat)
  case atStart=>exact⟨0,[],[],_,rfl,vZ _,⟨rfl,sI,(p_ _ _).symm⟩,ik.o.2.1,ik.o.1⟩
  obtain⟨k,ds,acc,dv,rfl,hk,hE,hB,hU⟩:=hrel;have⟨S0,S1,S2,S3,S4⟩:=J.o _ hB.o;obtain⟨c0,f0,z0⟩:=S0.all;obtain⟨c1,f1,z1⟩:=S1.all;obtain⟨c2,f2,z2⟩:=S2.all;have HS:=zH (jA S2 (jA S3 S4));have kG:=zH (jA S0 S1);obtain⟨xd,yd,rfl⟩:=hU.o.o1.form;obtain⟨c3,f3,z3⟩:=hU.o.bx.all;by_cases fK:k=p1
  ·subst fK
   have hr:r=.ok (sa++sb,acc):=by rw[eP.o,hE.o.2.2,qf _ _ _ _ (by rw[E1.o];exact jR _),hE.o.1];rfl
   subst hr;go_wp2;refine eJ JZ rfl ?_;exact Ha
  have eI:(k:Int)<(p1:Int):=oM;have⟨z,hz⟩:=gF E1.o (show k<p1 by omega);obtain⟨ba,oa,rfl,yq,zY⟩:=(H.o.2.rw.kp (.of S3)).at hz;have jS:=(S3.cell (p:=⟨bz,oz,c_⟩) uY).trans jd;have zb:bz<wr.1.size:=jL uY S3.size;have eL:=zH (qc F da k ds z hz);have hN:B.1.size<=wr.1.size:=hB.o.size;by_cases hbad:z<0\/(n:Int)<=z
  ·have hr:r=.error 4:=by
    rw[eP.o,hE.o.2.2,eL.o,HF.o];simp only[Pl.qY,eD hbad];rfl
   subst hr;have h2:z<0\/(¬z<0/\(n:Int)<=z):=oM;rcases h2 with h|⟨h',h⟩
   all_goals
    go_wp2_with fail;go_quiet (fail)
    have DB:=zH (gx HS.o.2.1 nq);have⟨d2,g2,l2⟩:=(HS.o.1.below (gx (jD _ _) nq)).all;go_wp2;refine eJ JZ rfl ?_;have:=DB.o;exact SP.err gG
  obtain⟨j,rfl⟩:=sZ (show 0<=z by omega);have gD:j<n:=oM;have h0:¬((j:Int)<0):=oM;have h1:¬((n:Int)<=(j:Int)):=oM;have wv:F (j:Int)=.ok (Pl.rowAt db s j):=by rw[HF.o];simp only[Pl.qY,eB hbad];rfl
  rw[wv] at eL;have j_:Hid (acc++Pl.rowAt db s j=(ds++[Pl.rowAt db s j]).flatten/\(acc++Pl.rowAt db s j).length<=(k+1) * 1000/\Pl.eU F da=gM F da (k+1) (ds++[Pl.rowAt db s j])):=⟨by rw[hE.o.1];simp,by have:=RL.o j gD;have:=hE.o.2.1;rw[hJ,iu];omega,by rw[hE.o.2.2,eL.o]⟩;have yC:Hid (acc.length+(Pl.rowAt db s j).length<=16777216):=by have:=RL.o j gD;have:=hE.o.2.1;have:k * 1000<=1000 * 1000:=gv _ oM;show _<=_;omega
  go_wp2_with fail;go_quiet (fail)
  have uZ:=zH (hU.o.below (gx (jD _ _) nq));have nQ:=zH (bv (gx (jD _ _) nq) hB.o);generalize wr.drewN nq=W at *;have⟨ba2,oa2,e2,apa,ao9⟩:=H.o.2.rw.at hz
  cases e2
  have⟨xd2,yd2,e5⟩:=uZ.o.o1.form
  cases e5
  go_wp2_with fail;have yi:k<p1:=oM;refine fT (S:=λW'=>Bl B W') kF nQ.o.drew (λhS=>?_);refine tk 0 (.pointer (a_ ⟨pb,1,c_⟩)) rfl hS (λ_ _=>kF) ?_;refine tk 2 _ rfl hS (λW' h=>fh _ _ rfl kF (oL (J.o W' h).2.1)) ?_;refine tk 3 (.pointer (a_ ⟨w.1.size,1,c_⟩)) rfl hS (λ_ _=>kF) ?_;refine tk 4 _ rfl hS (λW' h=>fh _ _ rfl kF (jY (J.o W' h).1)) ?_;refine tk 5 (.int .i64 (k:Int)) rfl hS (λ_ _=>kF) ?_;refine tk 6 (.pointer (a_ ⟨ba,oa+k,c_⟩)) rfl hS (λ_ _=>nD (sX (a_ ⟨ba,oa,c_⟩) p1 y1) (.int .i64 (k:Int)) rfl kF kF (qx yi)) ?_;refine tk 7 _ rfl hS (λW' h=>fh _ _ rfl kF (nh (((J.o W' h).2.2.2.1.cell (p:=⟨ba,oa+k,c_⟩) apa).trans ao9))) ?_;have UW:Hid (Ou B.1.size W.drew pb (sX ax p4 ay) (sX xd acc.length yd) (sa++sb) acc/\Bl B W.drew):=⟨uZ.o.below gG,nQ.o.drew⟩;generalize W.drew=W1 at *;have⟨Tm,EO⟩:=UW.o;have L1:=jY Tm.bx;refine D' 1 8 164 (sX xd acc.length yd) #[.agg #[sX (a_ ⟨bz,oz,c_⟩) (p2+1) y2,sX x3 p3 y3],.int .i64 (j:Int)] rfl rfl rfl rfl EO (fh (.pointer (a_ ⟨pb,1,c_⟩)) _ rfl kF L1) kF kF ((KR.o W1 j (J.o _ EO).2.2.2.1 gD).mono ?_);rintro e w2 ⟨hb2,u0,u1,rfl,qw⟩;have B2:=bv hb2 EO;obtain⟨u2,l2,t2,u3,l3,t3,rfl,rfl⟩:=qw.fl;obtain rfl:l3=(Pl.rowAt db s j).length:=qw.2.rw.len.symm;have wm:=zH (Tm.below hb2);have Aa:=zH B2;have RW3:=zH qw.2.rw;have Tp:B.1.size<=w2.1.size:=B2.size;have L2:=jY (Tm.bx.below hb2);refine⟨_,rfl,B2,?_,?_⟩
  ·refine tk 9 (.slice u3 (Pl.rowAt db s j).length t3) rfl B2 (λ_ _=>kF) ?_
   exact WC
  refine tk 9 (.slice u3 (Pl.rowAt db s j).length t3) rfl B2 (λ_ _=>kF) ?_;refine tv 1 (sX xd acc.length yd) w2 rfl rfl (fh (.pointer (a_ ⟨pb,1,c_⟩)) _ rfl kF L2) B2 ?_;exact WC
 ):ρ:=h
def amF.lH(h:ρ:=by
 obtain⟨sa,da⟩:=a;obtain⟨sh,db⟩:=b;simp only at H H' ⊢;have⟨p0,E0⟩:=jN (sa.length);obtain⟨p1,E1⟩:=jN (da.length);have⟨p3,E3⟩:=jN (db.length);rw[E0.o,E1.o] at H;rw[E3.o] at H';rw[E0.o,E1.o,E3.o]
 cases sh with
 |nil =>
  simp only[iA] at H' ⊢;have:Pl.from_ (sa,da) ([],db)=.error 2:=rfl;rw[this];go_enter func140,ntmps140;go_wp2;refine eJ (by simp[results,results140,go_sem];try rfl) rfl ?_;exact ny
 |cons m sb =>
  obtain⟨n,rfl,hn,hb,hf,hp,hl,eN⟩:=Pl.ke HB.o;have⟨r,HR⟩:∃r:Except Int Ar,Hid (r=if Pl.fy (sa++sb)=b_ then Pl.wS (sa++sb) (LV (Pl.eU (Pl.qY (n:Int) db (Pl.eQ sb)) da)) else .error 6):=⟨_,rfl⟩;rw[show Pl.from_ (sa,da) ((n:Int)::sb,db)=_ from HR.o.symm];have KR:Hid (∀W j,Bl w W->j<n->Cp 164 #[.agg #[sX x2 (sb.length+1) y2,sX x3 p3 y3],.int .i64 (j:Int)] W λe w'=>Bl W w'/\∃u0 u1,e=rT (.agg #[u0,u1])/\RA (W.1.size<=·) w' u0 u1 (sb,Pl.rowAt db (Pl.eQ sb) j)):=λW j k hj=>F_ _ _ (n:Int) sb db (H'.o.kp (.of k)) HB.o j oM;have RL:Hid (∀j,j<n->(Pl.rowAt db (Pl.eQ sb) j).length<=1000):=λj hj=>by
   have:=(Pl.ok_eq (Pl.Nx HB.o (n:=n) (r:=j) rfl hj)).2.2.2.2;exact this
  obtain⟨_,_,_,la,ma⟩:=Pl.ok_eq HA.o;simp only at la ma;rw[E0.o] at la;rw[E1.o] at ma;have RT:=zH H'.o.1.tl;obtain⟨bz,oz,rfl,uY,jd⟩:=H'.o.1.rw.at (i:=0) rfl;rw[iz] at jd;have⟨p2,E2⟩:=jN (sb.length);simp only[fW] at H' RT ⊢;rw[E2.o] at H' KR RT eN ⊢;rw[show p2+1-1=p2 by omega] at RT;have C0:=zH λW=>mO (w:=W) (x:=a_ ⟨bz,oz,c_⟩) (n:=p2+1) (y:=y2) (l:=1) oM;rw[show p2+1-1=p2 by omega] at C0;generalize fU (a_ ⟨bz,oz,c_⟩) 1 y2=z9,y2-1=k9,Pl.eQ sb=s at *;go_enter func140,ntmps140;go_wp2_with fail;generalize hW:ew (ew (ew w _) _) _=B;have V0:=mK hW;have J:Hid (∀W,Bl B W->Bx W w.1.size #[sX x0 p0 y0,sX x1 p1 y1] 30/\Bx W (w.1.size+1) #[sX (a_ ⟨bz,oz,c_⟩) (p2+1) y2,sX x3 p3 y3] 30/\Bx W (w.1.size+1+1) nN 30/\Bl w W/\w.1.size+1+1<B.1.size):=λW k=>⟨V0.o.1.below k,V0.o.2.1.below k,V0.o.2.2.1.below k,bv k V0.o.2.2.2.1,V0.o.2.2.1.lt⟩;have SS:Hid (∀W,Bl B W->Bx W w.1.size #[sX x0 p0 y0,sX x1 p1 y1] 30/\Bx W (w.1.size+1) #[sX (a_ ⟨bz,oz,c_⟩) (p2+1) y2,sX x3 p3 y3] 30):=λW k=>⟨(J.o W k).1,(J.o W k).2.1⟩;have KC:Hid (∀W,Bl B W->Cp 25 #[sX x0 p0 y0] W λe w'=>Bl W w'/\∃u,e=rT u/\Oi W.1.size w' u sa):=λW k=>lG _ sa W (H.o.1.rw.kp (.of (J.o W k).2.2.2.1)) JO;have RY:Hid (∀W,Bl B W->Rw P W (sX z9 p2 k9) sb):=λW k=>RT.o.rw.kp (.of (J.o W k).2.2.2.1);open aj5 in exact Zt
 ):ρ:=h
def adQ{P:nK}{w:Wd}(v0 v1 v2 v3:Va)(a b:Ar)(h:RA P w v0 v1 a)(h':RA P w v2 v3 b)(ha:Pl.okB a=b_)(hb:Pl.okB b=b_):Cp 140 #[.agg #[v0,v1],.agg #[v2,v3]] w (SP w (Pl.from_ a b)):=by
 have H:=zH h;have H':=zH h';have HA:=zH ha;have HB:=zH hb;open amF in exact lO
end
section
section
variable {P:nK} {w:Wd}
def UH(v:Va)(zs:lI)(h:Rw P w v zs)(hl:zs.length<=1000):Cp 165 #[v] w λe w'=>Bl w w'/\∃u,e=rT u/\Oi w.1.size w' u zs.reverse:=by
 have⟨n,HN⟩:=jN (zs.length);have H:=zH h;obtain⟨x,y,rfl,-⟩:=h;rw[HN.o] at hl H ⊢;go_enter func165,ntmps165;go_wp2_with fail;go_loopw [3,4] (λv i wr=>∃k:Nat,i=I ((k:Int)-1)/\k<=n/\Hid (Bl w wr)/\Hid (Oi w.1.size wr v (zs.drop k).reverse)) (λ_ i _=>(intOf i+1).toNat)
 case atStart=>exact⟨n,by go_num,jR _,(show Bl w _ from by go_grown),by rw[A_ Jt];exact Oi.emp (jR _)⟩
 obtain⟨k,rfl,hk,hB,hO⟩:=hrel;have sW:=hB.o.size
 cases k with
 |zero =>
  rw[vK] at hO;have⟨xd,yd,e8⟩:=hO.o.form;rw[ld,HN.o] at e8;subst e8;go_wp2;go_returns
  exact⟨hB.o,_,rfl,hO.o⟩
 |succ k =>
  have⟨z,hz⟩:=gF HN.o (show k<n by omega);obtain⟨b,o,rfl,hb,hc⟩:=(H.o.kp (.of hB.o)).at hz;have e1:(((k+1:Nat):Int)-1)=(k:Int):=oM;rw[e1];have⟨xd,yd,e8⟩:=hO.o.form;have⟨q,HQ⟩:=jN ((zs.drop (k+1)).reverse.length);rw[HQ.o] at e8;subst e8;have UB:Hid ((zs.drop (k+1)).reverse.length+[z].length<=16777216):=by show _<=_;simp[HN.o];omega
  have hd:(zs.drop k).reverse=(zs.drop (k+1)).reverse++[z]:=by
   have⟨Ew,e⟩:=gQ.1 hz;rw[qW Ew,e];simp
  clear e1;go_wp2_with (at_builtin;refine nu rfl (.tmp 13) (.tmp 18) rfl rfl rfl (hO.o.kp eY) (mV _ z) UB.o J2 ?_)
  intro v' w9 ho hg ha;have B9:Hid (Bl w w9):=qu (B:=w.1.size) (a:=w) (bv (w:=w) gG hB.o) hg J2 (λb e=>(hO.o.lt e).1);have O9:Hid (Oi w.1.size w9 v' (zs.drop k).reverse):=by rw[hd];exact ho
  clear ho hg ha hd;go_wp2;go_roundw
  case rel=>exact⟨k,gN,oM,B9,O9⟩
  simp[intOf];try omega
def akX.pe(h:ρ:=by
 have J:Hid (∀W,Bl W0 W->Bx W w.1.size #[sX (sY b o) (p0+1) y0,sX x1 p1 y1] 30/\Bx W (w.1.size+1) nN 30/\Bl w W/\w.1.size+1+1=W0.1.size):=λW k=>⟨V0.o.1.below k,V0.o.2.1.below k,bv k V0.o.2.2.1,V0.o.2.2.2.symm⟩;have R0:Hid (Oi W0.1.size (W0.alloc (.cells #[] 3)) (sX (sY (w.1.size+1+1) 0) 0 0) []):=by have:=Oi.emp (B:=W0.1.size) (w:=W0) (jR _);rwa [V0.o.2.2.2] at this ⊢
 have B0:Hid (Bl W0 (W0.alloc (.cells #[] 3))):=(show Bl W0 _ from by go_grown);clear V0;go_loopw [3,4] (λv i wr=>∃(k:Nat)(acc:lI),i=I ((n:Int)-1-(k:Int))/\k<=n/\Hid (acc=((eA k).map λi=>Pl.rowAt da s (n-1-i)).flatten/\acc.length<=k * 1000)/\Hid (Bl W0 wr)/\Hid (Oi W0.1.size wr v acc)) (λ_ i _=>(intOf i+1).toNat)
 case atStart=>exact⟨0,[],gN,vZ _,⟨rfl,sI⟩,B0,R0⟩
 case round =>
  obtain⟨k,acc,rfl,hk,hE,hB,hO⟩:=hrel;have⟨S0,S1,S2,S3⟩:=J.o _ hB.o;obtain⟨c0,f0,z0⟩:=S0.all;obtain⟨xd,yd,rfl⟩:=hO.o.form;have HS:=zH (jA S1 (jA S2 S3));have sW:=hB.o.size;clear f0 S0 S1 S3 R0 B0;by_cases fK:k=n
  ·subst fK
   have e1:(k:Int)-1-(k:Int)=-1:=oM;rw[e1];have hr:=zH eP.o;rw[<- hE.o.1] at hr;clear e1;go_wp2_with fail;refine(lG _ ((k:Int)::row) wr (H.o.1.rw.kp (.of S2)) (by simp[E0.o];omega)).mono ?_;rintro e w2 ⟨hb,u,rfl,o2⟩;have⟨x2,y2,e2⟩:=o2.form;rw[fW,E0.o] at e2;subst e2;have V3:=zH (jA (HS.o.1.below hb) (jA (bv hb HS.o.2.1) (jA o2 (hO.o.kp (.of hb)))));obtain⟨c1,f1,z1⟩:=V3.o.1.all;clear hb o2 c0 z0;go_wp2;refine eJ (by simp[results,results130,go_sem,c1];try rfl) rfl ?_;obtain⟨b1,bl,o1,o2⟩:=V3.o;have m1:=o1.ne b1 dC;have m2:=o2.ne b1 dC;have s3:=HS.o.2.2;rw[hr.o];exact⟨by go_grown,_,_,_,_,_,_,rfl,(show RA _ _ _ _ ((k:Int)::row,acc) from ⟨o1.out eY oM,o2.out eY oM⟩)⟩
  have⟨j,hj⟩:∃j,j=n-1-k:=⟨_,rfl⟩;have e1:(n:Int)-1-(k:Int)=(j:Int):=oM;have gD:j<n:=oM;rw[e1];have j_:Hid (acc++Pl.rowAt da s j=((eA (k+1)).map λi=>Pl.rowAt da s (n-1-i)).flatten/\(acc++Pl.rowAt da s j).length<=(k+1) * 1000):=⟨by rw[hE.o.1,uv,mP,vL,hj];simp,by have:=RL.o j;have:=hE.o.2;rw[hJ,iu];omega⟩;have UB:Hid (acc.length+(Pl.rowAt da s j).length<=16777216):=by have:=RL.o j;have:=hE.o.2;have:k * 1000<=1000 * 1000:=gv _ oM;show _<=_;omega
  have e9:=zH (show (j:Int)-1=(n:Int)-1-((k+1:Nat):Int) by omega);have DR:=zH (jA hj gD);clear e1 hj;go_wp2_with fail;refine(KR.o wr j S2 gD).mono ?_;rintro e w2 ⟨hb,u0,u1,rfl,ra⟩;obtain⟨x4,l4,y4,x5,l5,y5,rfl,rfl⟩:=ra.fl;have tW:=zH ra;have B2:=zH (bv hb hB.o);have O2:=zH (hO.o.kp (.of hb));have s2:=hb.size;clear hb ra c0 z0 S2;have hfd:∀W,(Instr.field 30 (.agg #[sX x4 l4 y4,sX x5 l5 y5]) 1).run prog W=.ok (sX x5 l5 y5) W:=λW=>kF;go_wp2_with (at_builtin;refine nu rfl (.tmp 24) (.tmp 28) rfl rfl rfl O2.o tW.o.2.rw UB.o oM ?_)
  intro v' w9 ho hg ha;have B9:Hid (Bl W0 w9):=O2.o.fI B2.o hg oM;have O9:=zH ho;clear ho hg ha;go_wp2;go_roundw
  case rel=>exact⟨k+1,_,by rw[<- e9.o],oM,j_,B9,O9⟩
  simp[intOf];try omega
 ):ρ:=h
def akW.pe(h:ρ:=by
 refine(lG _ da _ (H.o.2.rw.kp (.of (bv (w:=w) gG V0.o.2.2.1))) JT).mono ?_;rintro e w1 ⟨hb,u,rfl,o⟩;obtain⟨x2,y2,rfl⟩:=o.form;have sz:=V0.o.2.2.2;have o1:Oi (w.1.size+1+1) w1 (sX (sY (w.1.size+1+1) 0) 0 0) []:=by
  have:=(Oi.emp (B:=W0.1.size) (w:=W0) (jR _)).kp (.of hb);rwa [sz] at this
 have V1:=zH (jA ((V0.o.2.1.al _).below hb) (jA (bv hb (bv (w:=w) gG V0.o.2.2.1)) (jA o1 (o.base (B':=w.1.size+1+1) J2))));obtain⟨c0,f0,z0⟩:=V1.o.1.all;clear hb o o1 V0 sz;go_wp2;refine eJ (by simp[results,results130,go_sem,c0];try rfl) rfl ?_;obtain⟨b1,bl,o1,o2⟩:=V1.o;have m1:=o1.ne b1 dC;have m2:=o2.ne b1 dC;rw[hr];exact⟨by go_grown,_,_,_,_,_,_,rfl,(show RA _ _ _ _ ([],da) from ⟨o1.out eY (jR _),o2.out eY (jR _)⟩)⟩
 ):ρ:=h
def aeS(v0 v1:Va)(a:Ar)(h:RA P w v0 v1 a)(ha:Pl.okB a=b_):Cp 130 #[.agg #[v0,v1]] w λe w'=>Bl w w'/\∃x0 l0 y0 x1 l1 y1,e=rT (.agg #[sX x0 l0 y0,sX x1 l1 y1])/\RA (w.1.size+2<=·) w' (sX x0 l0 y0) (sX x1 l1 y1) (Pl.rev a):=by
 have H:=zH h;have HA:=zH ha;obtain⟨⟨x0,y0,rfl⟩,x1,y1,rfl⟩:=h.eS;have⟨_,_,_,gK,gr⟩:=Pl.ok_eq ha;clear h ha;obtain⟨sh,da⟩:=a;simp only at H gK gr ⊢;have⟨r,HR⟩:∃r,Hid (r=Pl.rev (sh,da)):=⟨_,rfl⟩;rw[<- HR.o];obtain⟨p1,E1⟩:=jN (da.length);rw[E1.o] at H gr ⊢
 cases sh with
 |nil =>
  have hr:r=([],da):=HR.o;simp only[iA] at H ⊢;go_enter func130,ntmps130;open akW in exact pj
 |cons m row =>
  obtain⟨n,rfl,hn,hb,hf,hp,hl,eN⟩:=Pl.ke HA.o;have eP:Hid (r=((n:Int)::row,((eA n).map λi=>Pl.rowAt da (Pl.eQ row) (n-1-i)).flatten)):=HR.o;have KR:Hid (∀W j,Bl w W->j<n->Cp 164 #[.agg #[sX x0 (row.length+1) y0,sX x1 p1 y1],I (j:Int)] W λe w'=>Bl W w'/\∃u0 u1,e=rT (.agg #[u0,u1])/\RA (W.1.size<=·) w' u0 u1 (row,Pl.rowAt da (Pl.eQ row) j)):=λW j k hj=>F_ _ _ (n:Int) row da (H.o.kp (.of k)) HA.o j oM;have RL:Hid (∀j,(Pl.rowAt da (Pl.eQ row) j).length<=1000):=λj=>by
   have:=E1.o;unfold Pl.rowAt;rw[jH,qX];omega
  obtain⟨b,o,rfl,uY,jd⟩:=H.o.1.rw.at (i:=0) rfl;rw[iz] at jd;have⟨p0,E0⟩:=jN (row.length);simp only[fW] at H ⊢;rw[E0.o] at H KR eN ⊢;generalize Pl.eQ row=s at *;have⟨ne0,ne1,ne2⟩:¬b=w.1.size/\¬b=w.1.size+1/\¬b=w.1.size+1+1:=oM;have⟨lt1,lt2⟩:b<w.1.size+1/\b<w.1.size+1+1:=oM;clear HR hb hf hp hl;go_enter func130,ntmps130;open akX in exact pj
end
end
section
namespace Pl
def hor(ds ps:lI):Nat->Int
 |0=>0
 |k+1=>hor ds ps k * ds.getD k 0+ps.getD k 0
end Pl
section
variable {P:nK} {w:Wd}
def adT(v0 v1 u:Va)(ds da ps:lI)(h:RA P w v0 v1 (ds,da))(h':Rw P w u ps)(hn:ps.length<=ds.length)(hd:ds.length<=3)(hl:da.length<=1000)(hB:∀k,k<=ps.length->0<=Pl.hor ds ps k/\Pl.hor ds ps k<=1000)(hp:∀x∈ps,0<=x/\x<=1000)(hi:Pl.hor ds ps ps.length<da.length):
  Cp 166 #[.agg #[v0,v1],u] w (rC (I (da.getD (Pl.hor ds ps ps.length).toNat 0)) w):=by
 have H:=zH h;have H':=zH h';obtain⟨⟨x0,y0,rfl⟩,x1,y1,rfl⟩:=h.eS;obtain⟨x2,y2,rfl,-⟩:=h';clear h;simp only at H ⊢;have⟨p0,E0⟩:=jN (ds.length);obtain⟨p1,E1⟩:=jN (da.length);have⟨p2,E2⟩:=jN (ps.length);rw[E0.o,E1.o] at H;rw[E2.o] at H' hB hi hn;rw[E0.o] at hn hd;rw[E1.o] at hl hi;rw[E0.o,E1.o,E2.o];have HB:=zH hB;have⟨r,HR⟩:∃r,Hid (r=da.getD (Pl.hor ds ps p2).toNat 0):=⟨_,rfl⟩;rw[<- HR.o];clear hB;go_enter func166,ntmps166;go_wp2_with fail;generalize hW:ew w _=W0;have V0:=jV hW;clear hW;go_loopw [5,6] (λi k wr=>∃t:Nat,t<=p2/\k=I (t:Int)/\i=I (Pl.hor ds ps t)/\Hid (Bl W0 wr)) (λ_ k _=>p2-(intOf k).toNat)
 case atStart=>exact⟨0,vZ _,rfl,rfl,jD _ _⟩
 obtain⟨t,ht,rfl,rfl,hW⟩:=hrel;have S2:=bv hW.o V0.o.2.1;obtain⟨c0,f0,z0⟩:=(V0.o.1.below hW.o).all;clear f0;have⟨B0,B1⟩:=HB.o t ht;have⟨g,HG⟩:=jN (Pl.hor ds ps t);rw[HG.o] at B0 B1 ⊢;by_cases x_:t=p2
 ·subst x_
  rw[HG.o] at hi;obtain⟨m,rfl⟩:∃m:Nat,g=(m:Int):=⟨g.toNat,oM⟩;have⟨z,hz⟩:=gF E1.o (show m<p1 by omega);have hr:r=z:=by rw[HR.o,HG.o];simp[ig,hz]
  subst hr;obtain⟨b,o,rfl,hb,hc⟩:=(H.o.2.rw.kp (.of S2)).at hz;have hm:(m:Int)<(p1:Int):=hi;go_wp2;refine eJ (by simp[results,results166,go_sem];try rfl) rfl ?_;exact⟨gG,rfl⟩
 have eI:(t:Int)<(p2:Int):=oM;have aaT:(t:Int)<(p0:Int):=oM;have⟨d,yp⟩:=gF E0.o (show t<p0 by omega);have⟨p,rp⟩:=gF E2.o (show t<p2 by omega);have Ci:=hp p (my rp);have eL:Pl.hor ds ps (t+1)=g * d+p:=by simp[Pl.hor,HG.o,ig,yp,rp]
 have B2:=HB.o (t+1) oM;rw[eL] at B2;have HS:=zH eL;have m0:-1000<=g * d:=oM;have m1:g * d<=1000:=oM;obtain⟨b,o,rfl,hb,hc⟩:=(H.o.1.rw.kp (.of S2)).at yp;obtain⟨b',o',rfl,hb',mF⟩:=(H'.o.kp (.of S2)).at rp;clear eL yp rp;go_wp2_with fail;go_region_law fail
 all_goals
  go_wp2;go_roundw
  case rel=>exact⟨t+1,by omega,by go_num,by rw[HS.o],(show Below _ _ _ from by have:=hW.o;go_grown)⟩
  simp[intOf];omega
end
end
section
variable {ds:lI}{n m:Nat}
namespace Pl
def quo(ds:lI)(i:Nat):Nat->Nat
 |0=>i
 |t+1=>quo ds i t / (ds.getD (ds.length-1-t) 0).toNat
def gS(ds:lI)(i t:Nat):lI:=(eA ds.length).map λj=>if ds.length-t<=j then ((quo ds i (ds.length-1-j) % (ds.getD j 0).toNat:Nat):Int) else 0
def yX(ds:lI)(i t:Nat):(gS ds i t).length=ds.length:=by simp[gS]
def Yz(ds:lI)(i:Nat):∀t,quo ds i t<=i
 |0=>jR _
 |t+1=>jT (Is _ _) (Yz ds i t)
def afU(i:Nat)(e:ds.length=n)(hm:m<n):quo ds i (n-m)=quo ds i (n-(m+1)) / (ds.getD m 0).toNat:=by
 rw[show n-m=n-(m+1)+1 by omega];simp only[quo];rw[e,show n-1-(n-(m+1))=m by omega]
def afY(i:Nat)(e:ds.length=n)(hm:m<n):gS ds i (n-m)=(gS ds i (n-(m+1))).set m ((quo ds i (n-(m+1)) % (ds.getD m 0).toNat:Nat):Int):=by
 subst e;apply List.ext_getElem
 ·simp[gS]
 intro j h1 h2;simp only[gS,qU,ux] at h1;rw[List.getElem_set];simp only[gS,List.getElem_map,List.getElem_range];by_cases hj:m=j
 ·subst hj
  rw[eD rfl,eD oM,show ds.length-1-m=ds.length-(m+1) by omega]
 rw[eB hj];by_cases h:m<=j
 ·rw[eD oM,eD oM]
 rw[eB oM,eB oM]
def afX(i:Nat)(e:ds.length=n):gS ds i 0=eE n 0:=by
 subst e;apply List.ext_getElem
 ·simp[gS]
 intro j h1 h2;simp only[gS,qU,ux] at h1;simp only[gS,List.getElem_map,List.getElem_range,List.getElem_replicate];rw[eB oM]
end Pl
def al9{l:lI}{k:Nat}(e:l.length=n)(v:Int):(Zr l n).setIfInBounds k (I v)=Zr (l.set k v) n:=by
 subst e;simp[Zr,Z4,List.map_set]
section
variable {P:nK} {w:Wd}
def aco(v:Va)(ds:lI)(i:Nat)(h:Rw P w v ds)(hl:ds.length<=3)(hi:i<=1000)(hd:∀x∈ds,1<=x/\x<=1000):
  Cp 167 #[v,I (i:Int)] w λe w'=>Bl w w'/\∃u,e=rT u/\Oi w.1.size w' u (gS ds i ds.length):=by
 have H:=zH h;obtain⟨x0,y0,rfl,-⟩:=h;have⟨n,E0⟩:=jN (ds.length);rw[E0.o] at H hl ⊢;have MK:=zH (n8 w n oM);go_enter func167,ntmps167;go_wp2_with (rw[MK.o])
 have B0:Hid (Bx (w.alloc (.cells (Zr [] n) 3)) w.1.size (Zr [] n) 3):=.eK rfl;have S0:Hid (Bl w (w.alloc (.cells (Zr [] n) 3))):=(show Below _ _ _ from by go_grown);go_loopw [1,6] (λc k wr=>∃s:Nat,s<=n/\k=I ((s:Int)-1)/\c=I (quo ds i (n-s):Nat)/\Hid (Bl w wr)/\Hid (Bx wr w.1.size (Zr (gS ds i (n-s)) n) 3)) (λ_ k _=>(intOf k+1).toNat)
 case atStart =>
  refine⟨n,jR _,gN,by rw[qt];rfl,S0,?_⟩;rw[qt,afX i E0.o];have e:Zr (eE n 0) n=Zr [] n:=by simp[Zr]
  rw[e];exact B0
 obtain⟨s,hs,rfl,rfl,hW,hX⟩:=hrel;obtain⟨c1,f1,z1⟩:=hX.o.all
 cases s with
 |zero =>
  have hz:=hX.o;rw[mw] at hz ⊢;have HZ:=zH hz;have hk:(((0:Nat):Int)-1)=-1:=rfl;rw[hk];go_wp2;refine eJ (by simp[results,results167,go_sem];try rfl) rfl ?_;have o:=sM HZ.o (B:=w.1.size) (jR _) oM (by rw[yX,E0.o]);exact⟨by have:=hW.o;go_grown,_,rfl,o⟩
 |succ m =>
  have hm:m<n:=oM;have⟨d0,vY⟩:=gF E0.o hm;have hdb:=hd d0 (my vY);obtain⟨d,rfl⟩:∃d:Nat,d0=(d:Int):=⟨d0.toNat,oM⟩;have hg:(ds.getD m 0).toNat=d:=by simp[ig,vY]
  have q1:=afU i E0.o hm;have p1:=afY i E0.o hm;have qb:=Yz ds i (n-(m+1));rw[hg] at q1 p1;have⟨c,HC⟩:=jN (quo ds i (n-(m+1)));rw[HC.o] at q1 p1 qb ⊢;have⟨x,hx⟩:∃x,c % d=x:=⟨_,rfl⟩;have⟨y,hy⟩:∃y,c / d=y:=⟨_,rfl⟩;rw[hx] at p1;rw[hy] at q1;have ht1:(c:Int).tmod (d:Int)=(x:Int):=by rw[zA oM,<- hx];simp
  have Lg:(c:Int).tdiv (d:Int)=(y:Int):=by rw[Bj oM,<- hy];simp
  have hyb:y<=1000:=by have:=Is c d;omega
  have hxb:x<=1000:=by have:=Nat.mod_le c d;omega
  have Te:¬d=0:=oM;have hP:=zH p1;have hQ:=zH q1;have Es:(m:Int)<(n:Int):=oM;have hk:(((m+1:Nat):Int)-1)=(m:Int):=oM;obtain⟨b,o,rfl,hb,hc0⟩:=H.o.at vY;have hc:=(hW.o.cell (p:=(Y b (o+m))) hb).trans hc0;have hbn:¬b=w.1.size:=oM;have hbl:b<wr.1.size:=oM;have⟨v9,kN⟩:=sN (l:=gS ds i (n-(m+1))) (n:=n) (i:=m) (by rw[yX,E0.o];exact jR _) hm;have jd:cL wr w.1.size m (I v9):=(c1 m).trans kN;have mH:Hid (∀u,Bl w (wr.setCell (Y w.1.size m) u)):=λu=>by have:=hW.o;go_grown
  have hX2:Hid (Bx (wr.setCell (Y w.1.size m) (I (x:Int))) w.1.size (Zr (gS ds i (n-m)) n) 3):=by
   have:=hX.o.set m (I (x:Int));rw[al9 (by rw[yX,E0.o])] at this;rw[p1];exact this
  rw[hk];go_wp2;go_roundw
  case rel=>exact⟨m,oM,gN,by rw[hQ.o],mH.o _,hX2⟩
  simp[intOf];try omega
end
end
variable {ds:lI}{i:Nat}{X:Prop}
namespace Pl
def yy(sh da:lI)(i:Nat):Int:=da.getD (hor sh (gS sh.reverse i sh.length).reverse sh.length).toNat 0
def flip(a:Ar):Ar:=(a.1.reverse,(eA a.2.length).map (yy a.1 a.2))
def ahq{a b:Int}(ha:0<=a)(hb:0<=b)(h:1<=a * b):1<=a/\1<=b:=by
 refine⟨?_,?_⟩
 ·rcases Int.lt_or_le a 1 with h1|h1
  ·have:a=0:=oM
   subst this;simp at h
  exact h1
 rcases Int.lt_or_le b 1 with h1|h1
 ·have:b=0:=oM
  subst this;simp at h
 exact h1
def AD:∀{l:lI},(∀x∈l,0<=x)->0<=eR l
 |[],_=>by simp[eR]
 |k::l,h=>by rw[oF];exact PW (h k sI) (AD λx hx=>h x Jl)
def WI:∀{l:lI},(∀x∈l,0<=x)->1<=eR l->∀x∈l,1<=x
 |[],_,_,x,hx=>by simp at hx
 |k::l,h,hp,x,hx=>by
  rw[oF] at hp;have hl:∀x∈l,0<=x:=λx hx=>h x Jl;have e:=ahq (h k sI) (AD hl) hp;rcases qR.1 hx with rfl|hx
  ·exact e.1
  exact WI hl e.2 x hx
def Nk:∀{l:lI},(∀x∈l,1<=x)->1<=eR l
 |[],_=>by simp[eR]
 |k::l,h=>by
  rw[oF];have h1:=h k sI;have h2:=Nk (l:=l) λx hx=>h x Jl;have:=Int.mul_le_mul h1 h2 oM oM;omega
def ag5{l:lI}(h:∀x∈l,1<=x)(k:Nat):eR (l.take k)<=eR l:=by
 have e:=yR (l.take k) (l.drop k);rw[vM] at e;have h1:=Nk (l:=l.take k) λx hx=>h x (Ip hx);have h2:=Nk (l:=l.drop k) λx hx=>h x (Dy hx);have:=Z9 h2 (show 0<=eR (l.take k) by omega);omega
def OT{ps:lI}:∀k,k<=ds.length->(∀t,t<k->0<=ps.getD t 0/\ps.getD t 0<ds.getD t 0)->0<=hor ds ps k/\hor ds ps k<eR (ds.take k)
 |0,_,_=>by simp[hor,eR]
 |k+1,hk,h=>by
  have⟨h1,h2⟩:=OT k oM λt ht=>h t oM;have⟨h3,h4⟩:=h k oM;have e:ds[k]? = a_ (ds.getD k 0):=by rw[ig,fw oM];rfl
  have e2:ds.take (k+1)=ds.take k++[ds.getD k 0]:=by rw[pB,e];rfl
  rw[e2,yR,oF];simp only[hor];generalize hor ds ps k=g,ds.getD k 0=d,ps.getD k 0=p,eR (ds.take k)=q at *;have e3:eR []=1:=by simp[eR]
  rw[e3,Int.mul_one];have h5:0<=g * d:=PW h1 oM;have h6:(g+1) * d<=q * d:=Im oM oM;rw[Int.add_mul] at h6;omega
def alD{n j:Nat}(e:ds.length=n)(hd:∀x∈ds,1<=x)(hj:j<n):0<=(gS ds i n).getD j 0/\(gS ds i n).getD j 0<ds.getD j 0:=by
 subst e;have hx:1<=ds.getD j 0:=by
  rw[ig,fw hj];exact hd _ (lh hj)
 have:(gS ds i ds.length).getD j 0=((quo ds i (ds.length-1-j) % (ds.getD j 0).toNat:Nat):Int):=by
  rw[ig];simp only[gS,qo,uw hj,vH,Dw];rw[eD oM]
 rw[this];generalize ds.getD j 0=d at *;have:=zv (quo ds i (ds.length-1-j)) (show 0<d.toNat by omega);omega
def Gi(l:lI){k:Nat}(hk:k<l.length):l.reverse.getD k 0=l.getD (l.length-1-k) 0:=by
 rw[ig,ig,PG hk]
def agy{sh da:lI}(h:okB (sh,da)=b_)(hi:i<da.length):(∀x∈sh.reverse,1<=x/\x<=1000)/\(∀k,k<=sh.length->0<=hor sh (gS sh.reverse i sh.length).reverse k/\hor sh (gS sh.reverse i sh.length).reverse k<=1000)/\(∀x∈(gS sh.reverse i sh.length).reverse,0<=x/\x<=1000)/\hor sh (gS sh.reverse i sh.length).reverse sh.length<da.length:=by
 have⟨hf,hl,_,_,_⟩:=ok_eq h;have⟨_,_,hp,_,hr,_⟩:=g_ hf;simp only at hl hp hr;have hb:∀x∈sh,0<=x/\x<=1000:=λx hx=>rM (ga.1 hr x hx);have hd:∀x∈sh,1<=x:=WI (λx hx=>(hb x hx).1) oM;have ry:∀x∈sh.reverse,1<=x:=λx hx=>hd x (List.mem_reverse.1 hx);have el:(gS sh.reverse i sh.length).length=sh.length:=by rw[yX,ld]
 have So:∀t,t<sh.length->0<=(gS sh.reverse i sh.length).reverse.getD t 0/\(gS sh.reverse i sh.length).reverse.getD t 0<sh.getD t 0:=λt ht=>by
  have e1:=Gi (gS sh.reverse i sh.length) (k:=t) (by rw[el];exact ht);rw[el] at e1;have e2:=Gi sh (k:=sh.length-1-t) oM;rw[show sh.length-1-(sh.length-1-t)=t by omega] at e2;rw[e1,<- e2];exact alD (by rw[ld]) ry oM
 refine⟨λx hx=>⟨ry x hx,(hb x (List.mem_reverse.1 hx)).2⟩,λk hk=>?_,λx hx=>?_,?_⟩
 ·have:=OT (ds:=sh) k hk λt ht=>So t oM
  have:=ag5 hd k;omega
 ·have⟨t,ht⟩:=PH.1 hx
  have Sc:t<sh.length:=by have:=(gQ.1 ht).1;rw[ld,el] at this;exact this
  have h1:=So t Sc;rw[ig,ht] at h1;have h2:sh.getD t 0<=1000:=by
   rw[ig,fw Sc];exact(hb _ (lh Sc)).2
  simp only[Dw] at h1;omega
 have:=OT (ds:=sh) sh.length (jR _) So;rw[km] at this;omega
end Pl
section
variable {a:Act} {w:Wd}
def n_{o:Oper}{x:Operand}(z:Int)(ho:o.op=Op.buildSlice 23 1 #[(0,x)])(hx:a.eval x=I z):(execOp a.eval o).run prog w=.ok (.value (sX (sY w.1.size 0) 1 1)) (w.alloc (.cells #[I z] 3)):=by
 have:(Instr.buildSlice 23 1 #[(0,I z)]).run prog w=.ok (sX (sY w.1.size 0) 1 1) (w.alloc (.cells #[I z] 3)):=by go_simp
 simp[execOp,ho,hx,this,Result.andThen]
end
def rlv{ops:Array Oper}{Q:Exit->Act->Wd->Prop}{S:Wd->Prop}{fuel:Nat}{listed:Array Bool}{a:Act}{w:Wd}(i j:Nat)(v u:Va)(w':Wd){oi oj:Oper}(ei:ops[i]? = a_ oi)(ej:ops[j]? = a_ oj)(gi:oi.guard=c_)(gj:oj.guard=c_)(hS:S w)(Cr:S w')(hi:(execOp a.eval oi).run prog w=.ok (.value v) w)(hj:(execOp a.eval oj).run prog w=.ok (.value u) w')(zS:(execOp (a.put oi.dst v).eval oj).run prog w=.ok (.value u) w')(Ez:(execOp (a.put oj.dst u).eval oi).run prog w'=.ok (.value v) w')
  (h1:wpAnyH prog .any ops Q S fuel ((listed.setIfInBounds i b_).setIfInBounds j b_) ((a.put oi.dst v).put oj.dst u) w') (h2:wpAnyH prog .any ops Q S fuel ((listed.setIfInBounds j b_).setIfInBounds i b_) ((a.put oj.dst u).put oi.dst v) w')
  (hr:Region.ready .any ops listed=[i,j]:=by kernel_rfl) (yb:Region.ready .any ops (listed.setIfInBounds i b_)=[j]:=by kernel_rfl) (eN:Region.ready .any ops (listed.setIfInBounds j b_)=[i]:=by kernel_rfl):wpAnyH prog .any ops Q S (fuel+1+1) listed a w :=
 gT i j ei ej (iL v w gi hi hS (tv j u w' ej gj zS Cr h1 yb)) (iL u w' gj hj Cr (tv i v w' ei gi Ez Cr h2 eN)) hr
def Gk (h:X:=by
 refine ta 10 rfl rfl (.tmp 18) (.tmp 26) rfl kF kF OA.o RX.o UB.o HZ.o ?_;intro v' w9 ho hg ha;have⟨R9,B9,Ag⟩:=tR.o.step rA.o hN5 hg ho ha;have⟨xv,yv,e8⟩:=ho.form;rw[QY.o] at e8;subst e8;have B8:Bl W0 w9:=OA.o.fI (bv (w:=W0) gG rA.o) hg HZ.o;refine⟨⟨B8,_,Ag⟩,?_⟩;refine tk 11 (.pointer (sY pb 1)) rfl ⟨B8,_,Ag⟩ (λ_ _=>kF) ?_;refine ts 12 _ rfl rfl rfl (jf (.pointer (sY pb 1)) (sX xv (k+1) yv) rfl kF kF (Ju Ag)) ⟨B9.o,_,R9.o.bx⟩ ?_;refine te ?_;generalize w9.setCell _ _=Wy at *;go_simp;go_wp2;go_roundw
 case rel=>exact⟨k+1,_,_,gN,oM,j_,B9,R9⟩
 simp[intOf];omega):X:=h
def ZL (h:X:=by
 refine tc 8 _ _ rfl rfl kF ((KX.o w4 _ k uF (J.o _ yw.o).2.2.1 O4.o.ri.rw).mono ?_);rintro e w5 ⟨kV,rfl⟩;have tR:=zH (z_.o.below kV);have rA:=zH (bv kV yw.o);have hN5:W0.1.size<=w5.1.size:=rA.o.size;have SA:Hid (Bl W0 (w5.alloc (.cells #[I (F k)] 3))/\∃dv,Bx (w5.alloc (.cells #[I (F k)] 3)) pb #[sX x2 m y2,dv] 30):=⟨bv (w:=W0) gG rA.o,_,tR.o.bx.al _⟩;have OA:=zH (tR.o.o1.kp (w':=w5.alloc (.cells #[I (F k)] 3)) (.of gG));have RX:=zH (mV w5 (F k));have HZ:Hid (W0.1.size<=(w5.alloc (.cells #[I (F k)] 3)).1.size):=by show _<=_;simp;omega
 refine .inl ⟨_,rfl,⟨rA.o,_,tR.o.bx⟩,?_⟩;refine tv 9 (sX (sY w5.1.size 0) 1 1) (w5.alloc (.cells #[I (F k)] 3)) rfl rfl (n_ (F k) rfl kF) SA.o ?_;exact Gk):X:=h
section
variable {P:nK} {w:Wd}
def akV.pe(h:ρ:=by
 refine(KC.o W0 V0.o.2.2.1).mono ?_;rintro e w2 ⟨hb,u,rfl,o2⟩;have⟨x2,y2,e2⟩:=o2.form;rw[ld,HM.o] at e2;subst e2;have s2:=hb.size;have R0:=zH (Ou.new o2 s2 rfl);have H2:=zH hb;have J:Hid (∀W,Bl W0 W->Bx W w.1.size #[sX x0 m y0,sX x1 n y1] 30/\Bx W (w.1.size+1) nN 30/\Bl w W/\w.1.size+1+1=W0.1.size):=λW k=>⟨V0.o.1.below k,V0.o.2.1.below k,bv k V0.o.2.2.1,V0.o.2.2.2.symm⟩;go_wp2_with fail;have H3:Hid (Bl W0 ((w2.alloc (.cells #[] 3)).alloc (.cells #[sX x2 m y2,sX (sY w2.1.size 0) 0 0] 30))):=nV H2.o gG s2;have PF:Hid (∀i,i<n->(∀x∈sh.reverse,1<=x/\x<=1000)/\(∀k,k<=m->0<=Pl.hor sh (gS sh.reverse i m).reverse k/\Pl.hor sh (gS sh.reverse i m).reverse k<=1000)/\(∀x∈(gS sh.reverse i m).reverse,0<=x/\x<=1000)/\Pl.hor sh (gS sh.reverse i m).reverse m<n):=λi hi=>by
  rw[<- HN.o] at hi ⊢;rw[<- HM.o];exact agy HO.o hi
 have KP:Hid (∀W i {Q:nK},i<n->Rw Q W (sX x2 m y2) sh.reverse->Cp 167 #[sX x2 m y2,I (i:Int)] W λe w'=>Bl W w'/\∃u,e=rT u/\Oi W.1.size w' u (gS sh.reverse i m)):=λW i {Q} hi hr=>by
  have:=aco (sX x2 m y2) sh.reverse i hr (by rw[ld,HM.o];exact la) oM (PF.o i hi).1;rw[ld,HM.o] at this;exact this
 have KT:Hid (∀W v i {Q:nK},Rw Q W v (gS sh.reverse i m)->Cp 165 #[v] W λe w'=>Bl W w'/\∃u,e=rT u/\Oi W.1.size w' u (gS sh.reverse i m).reverse):=λW v i {Q} hr=>UH v _ hr (by rw[yX,ld,HM.o];omega);have KX:Hid (∀W v i {Q:nK},i<n->Bl w W->Rw Q W v (gS sh.reverse i m).reverse->Cp 166 #[.agg #[sX x0 m y0,sX x1 n y1],v] W (rC (I (yy sh da i)) W)):=λW v i {Q} hi k hr=>by
  have e:(gS sh.reverse i m).reverse.length=m:=by rw[ld,yX,ld,HM.o]
  have f:=PF.o i hi;have:=adT (P:=λ_=>True) (w:=W) (sX x0 m y0) (sX x1 n y1) v sh da _ ((H.o.kp (.of k)).mono λ_ _ _=>trivial) (hr.jG λ_ _ _=>trivial) (by rw[e,HM.o];exact jR _) (by rw[HM.o];exact la) (by rw[HN.o];exact ma) (by rw[e];exact f.2.1) f.2.2.1 (by rw[e,HN.o];exact f.2.2.2);rw[e] at this;unfold yy;rw[HM.o];exact this
 have eP:Hid (r=(sh.reverse,(eA n).map (yy sh da))):=by show _=_;rw[HR.o,<- HN.o];rfl
 generalize yy sh da=F,Ci:w2.1.size+1=pb at *;go_loopw [4] (λi wr=>∃(k:Nat)(dv:Va) (acc:lI),i=I (k:Int)/\k<=n/\Hid (acc=(eA k).map F)/\Hid (Bl W0 wr)/\Hid (Ou W0.1.size wr pb (sX x2 m y2) dv sh.reverse acc)) (λi _=>n-(intOf i).toNat)
 case atStart=>exact⟨0,_,_,rfl,vZ _,rfl,H3,R0⟩
 case round =>
  obtain⟨k,dv,acc,rfl,hk,hE,hB,hU⟩:=hrel;have⟨xd,yd,e3⟩:=hU.o.o1.form;have nL:acc.length=k:=by rw[hE.o];simp
  rw[nL] at e3;subst e3;have⟨S0,S1,S2,S3⟩:=J.o _ hB.o;obtain⟨c0,f0,z0⟩:=S0.all;obtain⟨c1,f1,z1⟩:=S1.all;obtain⟨c2,f2,z2⟩:=hU.o.bx.all;have HS:=zH (jA S1 (jA S2 S3));have sW:=hB.o.size;by_cases fK:k=n
  ·subst fK
   have hr:=eP.o;rw[<- hE.o] at hr;go_wp2;refine eJ (by simp[results,results131,go_sem, *];try rfl) rfl ?_;rw[hr];have:=HS.o.2.1;exact⟨gG,_,_,rfl,hU.o.fin HS.o.1 dC oM _ _⟩
  have eI:(k:Int)<(n:Int):=oM;have uF:k<n:=oM;have j_:Hid (acc++[F k]=(eA (k+1)).map F):=by show _=_;rw[uv,mP,<- hE.o];rfl
  have QY:=zH (show (acc++[F k]).length=k+1 by simp[nL]);have UB:Hid (acc.length+[F k].length<=16777216):=by show _<=_;simp;omega
  go_wp2_with fail;have ik:=zH (hU.o.below (w':=wr.drew) gG);have yx:=zH (show Bl W0 wr.drew from hB.o.drew);refine fT (S:=λW'=>Bl W0 W'/\∃dv,Bx W' pb #[sX x2 m y2,dv] 30) kF ⟨yx.o,_,ik.o.bx⟩ (λhS=>?_);generalize wr.drew=W1 at *;refine tk 0 (.pointer (sY pb 1)) rfl hS (λ_ _=>kF) ?_;refine tk 2 _ rfl hS (λW' h=>fh _ _ rfl kF (oL (J.o W' h.1).1)) ?_;refine tk 3 (pT pb) rfl hS (λ_ _=>kF) ?_;refine tk 4 _ rfl hS (λW' h=>fh _ _ rfl kF (kC h.2.choose_spec)) ?_;refine tk 5 (I (k:Int)) rfl hS (λ_ _=>kF) ?_;have L1:=jY ik.o.bx;refine D' 1 6 167 (sX xd k yd) #[sX x2 m y2,I (k:Int)] rfl rfl rfl rfl ⟨yx.o,_,ik.o.bx⟩ (fh (.pointer (sY pb 1)) _ rfl kF L1) kF kF ((KP.o W1 k uF ik.o.o0.ri.rw).mono ?_);rintro e w3 ⟨eV,u3,rfl,o3⟩;have wm:=zH (ik.o.below eV);have Aa:=zH (bv eV yx.o);have O3:=zH o3;have L3:=jY wm.o.bx;have⟨y3,z3,q3,e3⟩:∃a b c,u3=sX a b c:=by have⟨a,b,e⟩:=O3.o.form;exact⟨_,_,_,e⟩
  subst e3;refine⟨_,rfl,⟨Aa.o,_,wm.o.bx⟩,?_,?_⟩
  ·refine tc 7 _ _ rfl rfl kF ((KT.o w3 _ k O3.o.ri.rw).mono ?_)
   rintro e w4 ⟨fZ,u4,rfl,o4⟩;have z_:=zH (wm.o.below fZ);have yw:=zH (bv fZ Aa.o);have O4:=zH o4;have⟨y4,z4,q4,e4⟩:∃a b c,u4=sX a b c:=by have⟨a,b,e⟩:=O4.o.form;exact⟨_,_,_,e⟩
   subst e4;refine .inl ⟨_,rfl,⟨yw.o,_,z_.o.bx⟩,?_⟩;exact ZL
  refine D' 1 7 165 (sX xd k yd) #[sX y3 z3 q3] rfl rfl rfl rfl ⟨Aa.o,_,wm.o.bx⟩ (fh (.pointer (sY pb 1)) _ rfl kF L3) kF kF ((KT.o w3 _ k O3.o.ri.rw).mono ?_);rintro e w4 ⟨fZ,u4,rfl,o4⟩;have z_:=zH (wm.o.below fZ);have yw:=zH (bv fZ Aa.o);have O4:=zH o4;have L4:=jY z_.o.bx;have⟨y4,z4,q4,e4⟩:∃a b c,u4=sX a b c:=by have⟨a,b,e⟩:=O4.o.form;exact⟨_,_,_,e⟩
  subst e4;refine⟨_,rfl,⟨yw.o,_,z_.o.bx⟩,?_,?_⟩
  ·exact ZL
  refine D' 1 8 166 (sX xd k yd) #[.agg #[sX x0 m y0,sX x1 n y1],sX y4 z4 q4] rfl rfl rfl rfl ⟨yw.o,_,z_.o.bx⟩ (fh (.pointer (sY pb 1)) _ rfl kF L4) kF kF ((KX.o w4 _ k uF (J.o _ yw.o).2.2.1 O4.o.ri.rw).mono ?_);rintro e w5 ⟨kV,rfl⟩;have tR:=zH (z_.o.below kV);have rA:=zH (bv kV yw.o);have hN5:W0.1.size<=w5.1.size:=rA.o.size;have SA:Hid (Bl W0 (w5.alloc (.cells #[I (F k)] 3))/\∃dv,Bx (w5.alloc (.cells #[I (F k)] 3)) pb #[sX x2 m y2,dv] 30):=⟨bv (w:=W0) gG rA.o,_,tR.o.bx.al _⟩;have OA:=zH (tR.o.o1.kp (w':=w5.alloc (.cells #[I (F k)] 3)) (.of gG));have RX:=zH (mV w5 (F k));have HZ:Hid (W0.1.size<=(w5.alloc (.cells #[I (F k)] 3)).1.size):=by show _<=_;simp;omega
  have L5:=jY tR.o.bx;have L6:=jY (tR.o.bx.al (.cells #[I (F k)] 3));refine⟨_,rfl,⟨rA.o,_,tR.o.bx⟩,?_,?_⟩
  ·refine tv 9 (sX (sY w5.1.size 0) 1 1) (w5.alloc (.cells #[I (F k)] 3)) rfl rfl (n_ (F k) rfl kF) SA.o ?_
   exact Gk
  refine rlv 1 9 (sX xd k yd) (sX (sY w5.1.size 0) 1 1) (w5.alloc (.cells #[I (F k)] 3)) rfl rfl rfl rfl ⟨rA.o,_,tR.o.bx⟩ SA.o (fh (.pointer (sY pb 1)) _ rfl kF L5) (n_ (F k) rfl kF) (n_ (F k) rfl kF) (fh (.pointer (sY pb 1)) _ rfl kF L6) ?_ ?_
  ·exact Gk
  exact Gk
 ):ρ:=h
def adR(v0 v1:Va)(a:Ar)(h:RA P w v0 v1 a)(ho:Pl.okB a=b_):Cp 131 #[.agg #[v0,v1]] w λe w'=>Bl w w'/\∃u0 u1,e=rT (.agg #[u0,u1])/\RA (w.1.size<=·) w' u0 u1 (Pl.flip a):=by
 have H:=zH h;obtain⟨⟨x0,y0,rfl⟩,x1,y1,rfl⟩:=h.eS;obtain⟨_,_,_,la,ma⟩:=Pl.ok_eq ho;obtain⟨sh,da⟩:=a;have HO:=zH ho;simp only at H la ma ⊢;have⟨m,HM⟩:=jN (sh.length);have⟨n,HN⟩:=jN (da.length);have KC:Hid (∀W,Bl w W->Cp 165 #[sX x0 m y0] W λe w'=>Bl W w'/\∃u,e=rT u/\Oi W.1.size w' u sh.reverse):=λW k=>by rw[<- HM.o];exact UH _ sh (H.o.1.rw.kp (.of k)) oM
 rw[HM.o,HN.o] at H;rw[HM.o] at la;rw[HN.o] at ma;rw[HM.o,HN.o];have⟨r,HR⟩:∃r,Hid (r=Pl.flip (sh,da)):=⟨_,rfl⟩;rw[<- HR.o];go_enter func131,ntmps131;open akV in exact pj
end
end Go.Proofs.YtiagfejlmafliaaGreatDoor
