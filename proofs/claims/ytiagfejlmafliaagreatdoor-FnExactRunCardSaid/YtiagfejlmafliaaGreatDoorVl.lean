import Derived.Test.YtiagfejlmafliaaGreatDoorVi
import Derived.Laws.EntriesVeiled
import Derived.Test.YtiagfejlmafliaaGreatDoorTs4
namespace Go.Proofs.YtiagfejlmafliaaGreatDoor
set_option linter.all false
open Go.Proofs.Tryz Pl
open Go.RowKit
set_option maxRecDepth 100000
set_option maxHeartbeats 16000000
open World renaming setCell->ez,alloc->ew
open List renaming range->eA,replicate->eE
open Option renaming some->a_,none->c_
open Bool renaming true->b_,false->d_
section
def ri{e:Ending}{a b:Int}(h:a=b)(he:e=.returned (.int .i64 a)):e=.returned (.int .i64 b):=h ▸ he
def ac2(x y:Int)(w:Wd):Cp 276 #[.int .i64 x,.int .i64 y] w λe w'=>e=.returned (.int .i64 (if x<y then -1 else if y<x then 1 else 0))/\w'=w:=by
 by_cases h:x<y
 ·rw[eD h]
  go_enter func276,ntmps276;exact mM
 ·rw[eB h]
  by_cases h':y<x
  ·rw[eD h']
   go_enter func276,ntmps276;exact mM
  ·rw[eB h']
   go_enter func276,ntmps276;exact mM
section
variable (x y:Int) (hx:Pl.fB x=true) (hy:Pl.fB y=true)
include hx
def Nr(k:Nat)(h0:1<=k)(h1:k<5)(w:Wd):Cp (230+k) #[.int .i64 x] w (CI w (Pl.one k x)):=by
 obtain⟨x0,x1⟩:=Pl.qh hx;have KC:=zH λW=>ac2 x 0 W;obtain⟨r,HR⟩:=jN (Pl.one k x);rw[HR.o];have hk:k=1\/k=2\/k=3\/k=4:=oM;rcases hk with rfl|rfl|rfl|rfl
 ·have:r=.ok (-x):=HR.o.symm
  subst this;go_enter func231,ntmps231;exact mM
 ·have:r=.ok (max x (-x)):=HR.o.symm
  subst this;obtain⟨m,HM⟩:=jN (max x (-x));rw[HM.o];by_cases h:x<=-x
  all_goals
   go_enter func232,ntmps232;go_wp2
   all_goals first | omega | (go_returns;exact⟨rfl,jq (by rw[<- HM.o];simp;omega)⟩) | (go_returns;exact⟨rfl,jq (by rw[<- HM.o];omega)⟩)
 ·have:r=.ok (if x<0 then -1 else if 0<x then 1 else 0):=by
   rw[<- HR.o];show Except.ok (Pl.nW (decide (0<x))-Pl.nW (decide (x<0)))=_;congr 1
   unfold Pl.nW;by_cases h:x<0
   ·simp[h,show ¬0<x by omega]
   ·by_cases h':0<x <;> simp[h,h']
  subst this;generalize (if x<0 then (-1:Int) else if 0<x then 1 else 0)=s at *;go_enter func233,ntmps233;go_wp2_with (go_at_call 276;refine(KC.o _).mono ?_;rintro e w' ⟨rfl,rfl⟩)
  exact pq
 ·have eP:Hid ((if x=0\/x=1 then .ok (1-x) else .error 1)=r):=HR.o
  clear HR;by_cases h:x=0
  ·subst h
   have:r=.ok 1:=eP.o.symm;subst this;go_enter func234,ntmps234;exact Dq
  ·by_cases h':x=1
   ·subst h'
    have:r=.ok 0:=eP.o.symm;subst this;go_enter func234,ntmps234;exact Dq
   ·have:r=.error 1:=by rw[<- eP.o,eB oM]
    subst this;have e0:(x != 0)=b_:=by rw[iH];exact h
    have e1:(x != 1)=b_:=by rw[iH];exact h'
    clear h h';go_enter func234,ntmps234;exact DS
include hy
def Ga(k:Nat)(gp:1<=k)(hk1:k<11)(w:Wd):Cp (247+k) #[.int .i64 x,.int .i64 y] w (CI w (Pl.two k x y)):=by
 obtain⟨x0,x1⟩:=Pl.qh hx;obtain⟨y0,y1⟩:=Pl.qh hy;obtain⟨m0,m1⟩:=Pl.Xl x0 x1 y0 y1;have KI:=zH acT;have KB:=zH Vo;have KF:=zH λh0 W=>(Vj x y hx h0 W).2;have hk:k=1\/k=2\/k=3\/k=4\/k=5\/k=6\/k=7\/k=8\/k=9\/k=10:=oM;rcases hk with rfl|rfl|rfl|rfl|rfl|rfl|rfl|rfl|rfl|rfl
 case inl | inr.inl | inr.inr.inl =>
  first | rw[show Pl.two (1:Nat) x y=Pl.lE (x+y) from rfl] | rw[show Pl.two (2:Nat) x y=Pl.lE (x-y) from rfl] | rw[show Pl.two (3:Nat) x y=Pl.lE (x * y) from rfl]
  clear KB KF
  first | (go_enter func248,ntmps248) | (go_enter func249,ntmps249) | (go_enter func250,ntmps250)
  go_wp2_with fail;refine(KI.o _ _).mono ?_;rintro e w' ⟨rfl,h⟩;generalize Pl.lE _=r at *
  cases r with
  |ok v =>
   obtain rfl:=h;go_wp2_with fail;exact pq
  |error c=>obtain rfl:=h;exact⟨rfl,rfl,rfl⟩
 case inr.inr.inr.inl =>
  by_cases h0:y=0
  ·subst h0
   rw[show Pl.two (4:Nat) x 0=.error 1 from rfl];go_enter func251,ntmps251;exact DS
  ·rw[show Pl.two (4:Nat) x y=.ok (Pl.jI x y) from eB h0]
   exact(KF.o h0 w).mono λe w' ⟨h,h'⟩=>⟨h',h⟩
 case inr.inr.inr.inr.inl =>
  by_cases h0:y=0
  ·subst h0
   rw[show Pl.two (5:Nat) x 0=.ok x from rfl];go_enter func252,ntmps252;go_wp2_with fail;exact pq
  ·rw[show Pl.two (5:Nat) x y=.ok (x-y * Pl.jI x y) from eB h0]
   replace KF:=zH (KF.o h0);obtain⟨d0,d1⟩:=Pl.Hv h0 x0 x1;obtain⟨e0,e1⟩:=Pl.G9 h0 x0 x1 y0 y1;have f0:-6000000000<=y * Pl.jI x y:=oM;have f1:y * Pl.jI x y<=6000000000:=oM;have Ce:(y == 0)=d_:=by simp[h0]
   clear KI;generalize Pl.jI x y=q at *;go_enter func252,ntmps252;go_wp2_with (go_at_call 251;refine(KF.o _).mono ?_;rintro e w' ⟨rfl,rfl⟩)
   exact pq
 case inr.inr.inr.inr.inr.inl =>
  rw[show Pl.two (6:Nat) x y=.ok (min x y) from rfl];obtain⟨m,HM⟩:=jN (min x y);rw[HM.o];by_cases h:x<=y
  all_goals
   go_enter func253,ntmps253;go_wp2
   all_goals first | omega | (go_returns;exact⟨rfl,jq (by rw[<- HM.o];simp;omega)⟩) | (go_returns;exact⟨rfl,jq (by rw[<- HM.o];omega)⟩)
 case inr.inr.inr.inr.inr.inr.inl =>
  rw[show Pl.two (7:Nat) x y=.ok (max x y) from rfl];obtain⟨m,HM⟩:=jN (max x y);rw[HM.o];by_cases h:x<=y
  all_goals
   go_enter func254,ntmps254;go_wp2
   all_goals first | omega | (go_returns;exact⟨rfl,jq (by rw[<- HM.o];simp;omega)⟩) | (go_returns;exact⟨rfl,jq (by rw[<- HM.o];omega)⟩)
 all_goals
  clear KI KF
  first | (go_enter func255,ntmps255) | (go_enter func256,ntmps256) | (go_enter func257,ntmps257)
  go_wp2_with (go_at_call 285;refine(KB.o _ _).mono ?_;rintro e w' ⟨rfl,rfl⟩)
  go_returns
  exact⟨rfl,rfl⟩
end
def al3(k:Nat)(gp:1<=k)(hk1:k<5)(args:Array Va)(w:Wd):(callFunc (230+k) args).run prog w=.ok (.enter (230+k) args) w:=by
 have hk:k=1\/k=2\/k=3\/k=4:=oM;rcases hk with rfl|rfl|rfl|rfl <;> (show _=_;kernel_rfl)
def H6(k:Nat)(gp:1<=k)(hk1:k<11)(args:Array Va)(w:Wd):(callFunc (247+k) args).run prog w=.ok (.enter (247+k) args) w:=by
 have hk:k=1\/k=2\/k=3\/k=4\/k=5\/k=6\/k=7\/k=8\/k=9\/k=10:=oM;rcases hk with rfl|rfl|rfl|rfl|rfl|rfl|rfl|rfl|rfl|rfl <;> (show _=_;kernel_rfl)
namespace Pl
def iR(op:Int):Int:=if op=3\/op=4 then 1 else if op=6 then 3000000000 else if op=7 then -3000000000 else 0
end Pl
abbrev mB(k:Nat):Va:=.agg #[.func (.func (247+k)) #[] #[],.int .i64 (Pl.iR k),.bool (decide (8<=k))]
def ad1(n:Int)(b:Nat)(w:Wd)(h:n<1\/11<=n):Cp 247 #[.int .i64 n,.slice (a_ ⟨b,0,c_⟩) 11 11] w λe w'=>e=.panicked [lR 9]/\Below w.1.size w w':=by
 have h2:n<1\/(¬n<1/\11<=n):=oM;clear h;rcases h2 with h|⟨h',h⟩ <;>
 ·go_enter func247,ntmps247
  go_wp2_with (go_at_call 229;refine(kY _ _).mono ?_;rintro e w' ⟨rfl,rfl⟩)
  exact⟨rfl,rfl,gG⟩
def ac3(k b f:Nat)(n:Int)(q:Bool)(w:Wd)(h0:1<=k)(h1:k<11)(hb:b<w.1.size)(c0:w.cell? ⟨b,k * 3,c_⟩=a_ (.func (.func f) #[] #[]))(c1:w.cell? ⟨b,k * 3+1,c_⟩=a_ (.int .i64 n))(c2:w.cell? ⟨b,k * 3+2,c_⟩=a_ (.bool q)):
  Cp 247 #[.int .i64 (k:Int),.slice (a_ ⟨b,0,c_⟩) 11 11] w λe w'=>e=.returned (.agg #[.func (.func f) #[] #[],.int .i64 n,.bool q])/\Below w.1.size w w':=by
 have e0:¬((k:Int)<1):=oM;have e1:¬(11<=(k:Int)):=oM;have ne:¬b=w.1.size:=oM;go_enter func247,ntmps247;go_wp2_with (go_at_call 229;refine(iV _ _).mono ?_;rintro e w' ⟨rfl,rfl⟩)
 refine eJ (by simp[results,results247,go_sem];try rfl) rfl ?_;exact⟨rfl,gG⟩
def AJ(n:Int)(w:Wd)(h:n<1\/11<=n):Cp 210 #[.int .i64 n] w λe w'=>e=.panicked [lR 9]/\Below w.1.size w w':=by
 have K:=zH (λb w=>ad1 n b w h);clear h;go_enter func210,ntmps210;go_wp2_with fail;refine(K.o _ _).mono ?_;rintro e w' ⟨rfl,hb⟩;exact⟨rfl,rfl,bv hb⟩
abbrev yY:Array Va:=#[.nilFunc,.int .i64 0,.bool d_,.func (.func 248) #[] #[],.int .i64 0,.bool d_,.func (.func 249) #[] #[],.int .i64 0,.bool d_,.func (.func 250) #[] #[],.int .i64 1,.bool d_,
 .func (.func 251) #[] #[],.int .i64 1,.bool d_,.func (.func 252) #[] #[],.int .i64 0,.bool d_,.func (.func 253) #[] #[],.int .i64 3000000000,.bool d_,.func (.func 254) #[] #[],.int .i64 (-3000000000),.bool d_,
 .func (.func 255) #[] #[],.int .i64 0,.bool b_,.func (.func 256) #[] #[],.int .i64 0,.bool b_,.func (.func 257) #[] #[],.int .i64 0,.bool b_]
def adu(k:Nat)(h0:1<=k)(h1:k<11):yY[k * 3]? = a_ (.func (.func (247+k)) #[] #[])/\yY[k * 3+1]? = a_ (.int .i64 (Pl.iR k))/\yY[k * 3+2]? = a_ (.bool (decide (8<=k))):=by
 have hk:k=1\/k=2\/k=3\/k=4\/k=5\/k=6\/k=7\/k=8\/k=9\/k=10:=oM;rcases hk with rfl|rfl|rfl|rfl|rfl|rfl|rfl|rfl|rfl|rfl
 all_goals exact⟨rfl,rfl,rfl⟩
def AE(k:Nat)(w:Wd)(h0:1<=k)(h1:k<11):Cp 210 #[.int .i64 (k:Int)] w λe w'=>e=.returned (mB k)/\Below w.1.size w w':=by
 have K:Hid (∀o,Cp 247 #[.int .i64 (k:Int),.slice (a_ ⟨w.1.size+1,0,c_⟩) 11 11] ((w.alloc o).alloc (.cells yY 244)) λe w'=>e=.returned (mB k)/\Below ((w.alloc o).alloc (.cells yY 244)).1.size ((w.alloc o).alloc (.cells yY 244)) w'):=λo=>by
  have T:=adu k h0 h1;have C:=(Bx.eK (w:=w.alloc o) (b:=w.1.size+1) (cs:=yY) (t:=244) sI).cf.1;exact ac3 k _ _ _ _ _ h0 h1 sI ((C _).trans T.1) ((C _).trans T.2.1) ((C _).trans T.2.2)
 clear h0 h1;go_enter func210,ntmps210;go_wp2_with fail;refine(K.o _).mono ?_;rintro e w' ⟨rfl,hb⟩;obtain⟨c0,f0,z0⟩:=(((Bx.eK rfl).al _).below hb).all;have B:=zH (bv (w:=w) hb);clear hb K;go_wp2_with fail;refine eJ (by simp[results,results210,go_sem,c0];try rfl) rfl ?_;have:=B.o;exact⟨rfl,gG⟩
def af2(n:Int)(w:Wd)(h:n<1\/5<=n):Cp 205 #[.int .i64 n] w λe w'=>e=.panicked [lR 9]/\Below w.1.size w w':=by
 have K:Hid (∀b w,Cp 230 #[.int .i64 n,.slice (a_ ⟨b,0,c_⟩) 5 5] w λe w'=>e=.panicked [lR 9]/\w'=w):=λb w=>by
  have h2:n<1\/(¬n<1/\5<=n):=oM;clear h;rcases h2 with h|⟨h',h⟩ <;>
  ·go_enter func230,ntmps230
   exact DS
 clear h;go_enter func205,ntmps205;go_wp2_with (go_at_call 230;refine(K.o _ _).mono ?_;rintro e w' ⟨rfl,rfl⟩)
 exact⟨rfl,rfl,gG⟩
def aes(k:Nat)(w:Wd)(h0:1<=k)(h1:k<5):Cp 205 #[.int .i64 (k:Int)] w λe w'=>e=.returned (.func (.func (230+k)) #[] #[])/\Below w.1.size w w':=by
 have K:Hid (∀b v w,w.cell? ⟨b,k,c_⟩=a_ v->Cp 230 #[.int .i64 (k:Int),.slice (a_ ⟨b,0,c_⟩) 5 5] w λe w'=>e=.returned v/\w'=w):=λb v w hc=>by
  have e0:¬((k:Int)<1):=oM;have e1:¬(5<=(k:Int)):=oM;go_enter func230,ntmps230;exact Dq
 have hk:k=1\/k=2\/k=3\/k=4:=oM;clear h0 h1;rcases hk with rfl|rfl|rfl|rfl
 all_goals
  go_enter func205,ntmps205;go_wp2_with fail;refine(K.o _ _ _ J3).mono ?_;rintro e w' ⟨rfl,rfl⟩;go_wp2_with fail;go_returns
  exact⟨rfl,gG⟩
end
open Pl (Ar)
variable {ρ:Prop}
section
def SP.put{w w0 w1:Wd}{r:Except Int Ar}{v0 v1:Va}{c:Nat}(hr:RA (w0.1.size<=·) w1 v0 v1 (f_ r).2)(hb:Bl w w1)(h0:w.1.size<=c)(h1:c<w0.1.size)(x y:Va):
  SP w r (rT (.tuple #[.agg #[v0,v1],I (f_ r).1])) ((w1.setCell (Y c 0) x).setCell (Y c 1) y) :=
 ⟨gG,_,_,rfl,(hr.kp (((Kp.refl _ _).set J2 _).set J2 _)).mono λb h _=>oM⟩
section
variable {w W:Wd} {c0 c1 c2 c3:aV} {t0 t1 t2 t3:TypeId}
def jV(h:w.alloc (.cells c0 t0)=W):Hid (Bx W w.1.size c0 t0/\Bl w W/\W.1.size=w.1.size+1):=by subst h;exact⟨.eK rfl,gG,sI⟩
def jU(h:(w.alloc (.cells c0 t0)).alloc (.cells c1 t1)=W):Hid (Bx W w.1.size c0 t0/\Bx W (w.1.size+1) c1 t1/\Bl w W/\W.1.size=w.1.size+1+1):=by subst h;exact⟨.al (.eK rfl) _,.eK sI,gG,sI⟩
def mK(h:((w.alloc (.cells c0 t0)).alloc (.cells c1 t1)).alloc (.cells c2 t2)=W):Hid (Bx W w.1.size c0 t0/\Bx W (w.1.size+1) c1 t1/\Bx W (w.1.size+1+1) c2 t2/\Bl w W/\W.1.size=w.1.size+1+1+1):=by subst h;exact⟨.al (.al (.eK rfl) _) _,.al (.eK sI) _,.eK sI,gG,sI⟩
end
section
variable {P:nK} {w:Wd}
def amW.Qb(h:ρ:=by
 have KE:Hid (∀W,Bl w W->Pl.fN op=b_->Cp 134 #[I op,.agg #[v0,v1],.agg #[v2,v3]] W (SP W (Pl.el (Pl.two op) a b))):=λW k ho=>Na op ho v0 v1 v2 v3 a b (h.kp (.of k)) (h'.kp (.of k)) ha hb;obtain⟨⟨x0,y0,rfl⟩,x1,y1,rfl⟩:=h.eS;obtain⟨⟨x2,y2,rfl⟩,x3,y3,rfl⟩:=h'.eS;unfold Pl.sU;generalize a.1.length=p0,a.2.length=p1,b.1.length=p2,b.2.length=p3 at *
 cases ho:Pl.fN op
 ·rw[ho] at KO
  rw[eB sI];go_enter func106,ntmps106;go_wp2_with (go_at_call 123;refine(KO.o _).mono ?_;rintro e w' ⟨rfl,rfl⟩)
  refine eJ (by simp[results,results106,go_sem];try rfl) rfl ?_;exact ny
 ·rw[ho] at KO
  rw[eD rfl];generalize Pl.el (Pl.two op) a b=r at *;go_enter func106,ntmps106;go_wp2_with (go_at_call 123;refine(KO.o _).mono ?_;rintro e w' ⟨rfl,rfl⟩)
  generalize hW:ew (ew (ew w _) _) _=W0;have V0:=mK hW;refine(KA.o _ V0.o.2.2.2.1).l λw1 hb=>?_;have V1:=zH (jA (V0.o.2.1.below hb) (jA (V0.o.2.2.1.below hb) (jA (bv hb V0.o.2.2.2.1) (V0.o.1.below hb))));obtain⟨c0,f0,z0⟩:=V1.o.1.all;go_wp2_with fail;refine(KB.o _ V1.o.2.2.1).l λw2 hb=>?_;have V2:=zH (jA (V1.o.1.below hb) (jA (V1.o.2.1.below hb) (jA (bv hb V1.o.2.2.1) (V1.o.2.2.2.below hb))));obtain⟨c1,f1,z1⟩:=V2.o.1.all;obtain⟨c2,f2,z2⟩:=V2.o.2.2.2.all;go_wp2_with fail;refine(KE.o _ V2.o.2.2.1 ho).mono ?_;rintro e w3 ⟨hb,u0,u1,rfl,ra⟩;obtain⟨⟨x4,y4,rfl⟩,x5,y5,rfl⟩:=ra.eS;have V3:=zH (jA (V2.o.2.1.below hb) (jA (bv hb V2.o.2.2.1) (jA V2.o.2.1.lt ra)));obtain⟨c3,f3,z3⟩:=V3.o.1.all;go_wp2;refine eJ (by simp[results,results106,go_sem,c3];try rfl) rfl ?_;exact SP.put V3.o.2.2.2 V3.o.2.1 oM V3.o.2.2.1 _ _
 ):ρ:=h
def abD(op:Int)(v0 v1 v2 v3:Va)(a b:Ar)(w:Wd)(h:RA P w v0 v1 a)(h':RA P w v2 v3 b)(ha:Pl.okB a=b_)(hb:Pl.okB b=b_):Cp 106 #[I op,.agg #[v0,v1],.agg #[v2,v3]] w (SP w (Pl.sU op a b)):=by
 have KO:=zH λW=>wW op W;open amW in exact QC
end
end
section
variable {m:Int}{row da:lI}{s r:Nat}
def sizeOf3(w:Wd):(sizeOf (prog.elem 23)).run prog w=.ok 1 w:=kF
def Br:prog.underlying 23=a_ (.slice (prog.elem 23)):=kF
def fU(x:oA)(l y:Nat):oA:=if y=l then x else x.map (·.add l)
section
variable {P:nK} {w:Wd} {x:oA} {n y l h:Nat} {zs:lI}
def mO(h:l<=n):(Instr.sliceAt 23 (sX x n y) (a_ (I (l:Int))) c_ c_).run prog w=.ok (sX (fU x l y) (n-l) (y-l)) w:=by
 rw[zw _ _ _ _ _ _ Br,run_slice_l _ _ _ _ _ Br _ _ oM oM,sizeOf3];simp[Result.andThen,sliced,fU]
def DV(hh:h<=y):(Instr.sliceAt 23 (sX x n y) c_ (a_ (I (h:Int))) c_).run prog w=.ok (sX (fU x 0 y) (h-0) (y-0)) w:=by
 rw[zw _ _ _ _ _ _ Br,run_slice_h _ _ _ _ _ Br _ _ oM oM,sizeOf3];simp[Result.andThen,sliced,fU]
def Ps(hl:l<=h)(hh:h<=y):(Instr.sliceAt 23 (sX x n y) (a_ (I (l:Int))) (a_ (I (h:Int))) c_).run prog w=.ok (sX (fU x l y) (h-l) (y-l)) w:=by
 rw[zw _ _ _ _ _ _ Br,run_slice_lh _ _ _ _ _ Br _ _ _ _ oM oM oM,sizeOf3];simp[Result.andThen,sliced,fU]
def Ri.cut(H:Ri P w (sX x n y) zs)(hl:l<=h)(hh:h<=n):Ri P w (sX (fU x l y) (h-l) (y-l)) ((zs.drop l).take (h-l)):=by
 obtain⟨a,k,e,h1,h2,H⟩:=H;simp only[s7] at e;obtain⟨rfl,rfl,rfl⟩:=e;have len:((zs.drop l).take (h-l)).length=h-l:=by rw[jH,qX];omega
 refine⟨_,_,by rw[len],by rw[len];omega,oM,?_⟩;by_cases hy:y=l
 ·left
  refine lP.1 ?_;rw[len];omega
 rcases H with rfl|⟨b,o,rfl,hb,hc⟩
 ·left;simp
 right
 refine⟨b,o+l,by simp[fU,hy,Addr.add],hb,λi z hz=>?_⟩;rw[PM] at hz;split at hz
 ·rw[PZ] at hz
  rw[PV];exact hc _ _ hz
 cases hz
def Rw.jG{Q:nK}{v:Va}(H:Rw P w v zs)(hq:∀b,P b->b<w.1.size->Q b):Rw Q w v zs:=by
 obtain⟨a,k,e,h⟩:=H;exact⟨a,k,e,h.imp id λ⟨b,o,e,hl,hc⟩=>⟨b,o,e,⟨hq b hl.1 hl.2,hl.2⟩,hc⟩⟩
def Ri.cap(H:Ri P w (sX x n y) zs):n<=y/\y<=9223372036854775807/\zs.length=n:=by
 obtain⟨a,k,e,h1,h2,_⟩:=H;simp only[s7] at e;omega
def Ri.tl{z:Int}(H:Ri P w (sX x n y) (z::zs)):Ri P w (sX (fU x 1 y) (n-1) (y-1)) zs:=by
 have e:n=zs.length+1:=by have:=H.rw.len;simp at this;omega
 subst e;have:=H.cut (l:=1) (h:=zs.length+1) oM (jR _);simpa using this
section
variable {ops:Array Oper} {rest:List Oper} {o:Oper} {a:Act} {Q:Exit->Act->Wd->Prop} {X L U:Operand} {vx vl vu v:Va} {w':Wd}
def ie(ho:o.op=Op.slice 23 X (a_ L) c_ c_)(hx:a.eval X=vx)(hl:a.eval L=vl)(hr:(Instr.sliceAt 23 vx (a_ vl) c_ c_).run prog w=.ok v w'):(execOp a.eval o).run prog w=.ok (.value v) w':=by simp[execOp,ho,hx,hl,hr,Result.andThen]
def AW(ho:o.op=Op.slice 23 X c_ (a_ U) c_)(hx:a.eval X=vx)(hl:a.eval U=vu)(hr:(Instr.sliceAt 23 vx c_ (a_ vu) c_).run prog w=.ok v w'):(execOp a.eval o).run prog w=.ok (.value v) w':=by simp[execOp,ho,hx,hl,hr,Result.andThen]
def Oa(ho:o.op=Op.slice 23 X (a_ L) (a_ U) c_)(hx:a.eval X=vx)(hl:a.eval L=vl)(hu:a.eval U=vu)(hr:(Instr.sliceAt 23 vx (a_ vl) (a_ vu) c_).run prog w=.ok v w'):(execOp a.eval o).run prog w=.ok (.value v) w':=by simp[execOp,ho,hx,hl,hu,hr,Result.andThen]
def iW(hg:o.guard=c_)(he:(execOp a.eval o).run prog w=.ok (.value v) w')(hK:wpList prog ops Q rest (a.put o.dst v) w'):wpList prog ops Q (o::rest) a w:=by
 refine Bm hg λK tS=>?_;unfold Oper.wp;rw[he];exact tS _ _ hK
end
end
namespace Pl
def rowAt(da:lI)(s r:Nat):lI:=(da.drop (r * s)).take s
abbrev eQ(row:lI):Nat:=(eR row).toNat
def ke(h:okB (m::row,da)=b_):∃n:Nat,m=n/\n<=1000/\gV row=b_/\(0<n->fy row=b_)/\0<=eR row/\da.length=n * eQ row/\row.length<=2:=by
 have e:=ok_eq h;have f:=g_ e.1;have g:=e.2.1;simp only[oF] at g f;have hb:=f.2.2.2.2.2;have hi:=f.2.2.2.2.1;simp only[vJ,fO] at hi;have hm:=rM hi.1;have hr:gV row=b_:=by
  simp only[gV,fO,fQ,fW] at hb ⊢;exact⟨oM,hi.2⟩
 have hp:=(uc row hr).1.1;obtain⟨n,rfl⟩:=sZ hm.1;refine⟨n,rfl,oM,hr,λh0=>?_,hp,?_,by have:=e.2.2.2.1;simp at this;omega⟩
 ·simp only[fy,hr,vI,fQ]
  have:1 * eR row<=(n:Int) * eR row:=Im oM hp;omega
 have:((n * eQ row:Nat):Int)=n * eR row:=by simp[eQ,kl hp]
 omega
def rK(h:(r+1) * s<=da.length):(rowAt da s r).length=s:=by
 unfold rowAt;rw[jH,qX];rw[iu] at h;omega
def C8(h:da.all fB=b_):(rowAt da s r).all fB=b_:=ga.2 λx hx=>ga.1 h x (Dy (Ip hx))
def Nx(h:okB (m::row,da)=b_){n:Nat}(hn:m=n)(hr:r<n):okB (row,rowAt da (eQ row) r)=b_:=by
 have⟨n',e,_,_,hf,hp,hl,_⟩:=ke h;have:n'=n:=oM;subst this;have hv:=(ok_eq h).2.2.1;have hlen:(rowAt da (eQ row) r).length=eQ row:=rK (by rw[hl];exact gv _ hr);simp only[okB,hf oM,vI,fO,fQ,hlen];exact⟨by simp[eQ,kl hp],C8 hv⟩
end Pl
def F_{P:nK}{w:Wd}(v0 v1:Va)(m:Int)(row da:lI)(h:RA P w v0 v1 (m::row,da))(ho:Pl.okB (m::row,da)=b_)(r:Nat)(hr:(r:Int)<m):Cp 164 #[.agg #[v0,v1],I (r:Int)] w λe w'=>Bl w w'/\∃u0 u1,e=rT (.agg #[u0,u1])/\RA (w.1.size<=·) w' u0 u1 (row,Pl.rowAt da (Pl.eQ row) r):=by
 obtain⟨n,rfl,hn,hb,hf,hp,hl,eN⟩:=Pl.ke ho;have hrn:r<n:=oM;obtain⟨fc,f0,f1,f2,f3,f4⟩:=Pl.g_ (hf oM);have⟨s,HS⟩:=jN (Pl.eQ row);have es:Pl.eR row=(s:Int):=by rw[<- HS.o];simp[Pl.eQ,kl hp]
 rw[HS.o] at hl ⊢;rw[es] at f1;have gJ:r * s+s<=n * s:=by rw[<- iu];exact gv _ hrn
 obtain⟨⟨x0,y0,rfl⟩,x1,y1,rfl⟩:=h.eS;simp only at h;have kv:=h.2.cap.1;have hd:=(Pl.ok_eq ho).2.2.2.2;simp only at kv hd;have H0:=zH h.1.tl;have H1:=zH (h.2.cut (l:=r * s) (h:=r * s+s) oM oM);have KP:Hid (∀W v,Rw (λ_=>True) W v row->Cp 48 #[v] W λe w'=>e=rT (I (s:Int))/\w'=W):=λW v hv=>by have:=wU v hv oM f3;rw[fc,es] at this;exact this
 rw[show r * s+s-r * s=s by omega] at H1;clear h ho hb hf hp fc f0 f3 f4 HS es hr;simp only[fW] at H0 ⊢;have⟨p0,E0⟩:=jN (row.length);obtain⟨p1,E1⟩:=jN (da.length);rw[E1.o] at hl kv hd ⊢;rw[E0.o] at H0 eN f2 ⊢;rw[show p0+1-1=p0 by omega] at H0;have⟨q,HQ⟩:=jN (r * s);have fY:(r:Int) * (s:Int)=(q:Int):=by rw[<- HQ.o];simp
 have RD:(Pl.rowAt da s r)=(da.drop (r * s)).take s:=rfl;rw[HQ.o] at gJ H1 RD;rw[<- RD] at H1;have hq:q<=1000:=oM;have hs:s<=1000:=oM;have C0:=zH λW=>mO (w:=W) (x:=x0) (n:=p0+1) (y:=y0) (l:=1) oM;have C1:Hid (∀W,(Instr.sliceAt 23 (sX x1 p1 y1) (a_ (I (q:Int))) (a_ (I ((q:Int)+(s:Int)))) c_).run prog W=.ok (sX (fU x1 q y1) s (y1-q)) W):=λW=>by
  have:=Ps (w:=W) (x:=x1) (n:=p1) (y:=y1) (l:=q) (h:=q+s) oM oM;rw[show q+s-q=s by omega] at this;rw[<- this];simp
 rw[show p0+1-1=p0 by omega] at C0;clear hl gJ kv hd hn HQ RD;generalize fU x0 1 y0=z0,y0-1=k0,fU x1 q y1=z1,y1-q=k1,Pl.rowAt da s r=rr at *;go_enter func164,ntmps164;go_wp2_with (refine iW rfl (ie rfl rfl rfl (C0.o _)) ?_)
 generalize hW:ew (ew w _) _=W0;have V0:=jU hW;clear hW;refine(lG _ row _ (H0.o.rw.kp (.of V0.o.2.2.1)) JO).mono ?_;rintro e w1 ⟨hb,u,rfl,o⟩;have⟨x2,y2,e2⟩:=o.form;rw[E0.o] at e2;subst e2;have V1:=zH (jA (V0.o.1.below hb) (jA (V0.o.2.1.below hb) (jA (bv hb V0.o.2.2.1) o)));have s0:=zH (show w.1.size<=W0.1.size by have:=V0.o.2.2.2;omega);have Mk:=zH (KP.o w1 _ (o.ri.rw.jG λ_ _ _=>trivial));obtain⟨c0,f0,l0⟩:=V1.o.1.all;clear hb o V0 f0 KP;go_wp2_with (first | (go_at_call 48;refine Mk.o.mono ?_;rintro e w1 ⟨rfl,rfl⟩) | (refine iW rfl (Oa rfl rfl rfl rfl (C1.o _)) ?_))
 refine(lG _ rr _ (H1.o.rw.kp (.of V1.o.2.2.1)) (by have:=H1.o.cap;omega)).mono ?_;rintro e w2 ⟨hb,u,rfl,o⟩;obtain⟨x3,y3,rfl⟩:=o.form;have V2:=zH (jA (V1.o.2.1.below hb) (jA (bv hb V1.o.2.2.1) (jA (V1.o.2.2.2.kp (.of hb)) o)));obtain⟨c1,f1,l1⟩:=V2.o.1.all;have hs:=hb.size;clear hb o c0 l0;go_wp2;refine eJ (by simp[results,results164,go_sem,c1];try rfl) rfl ?_;obtain⟨b1,bl,o1,o2⟩:=V2.o;have m1:=o1.ne b1 dC;have m2:=o2.ne b1 dC;have sz:=V1.o.2.2.1.size;have s0:=s0.o;exact⟨gG,_,_,rfl,o1.out eY oM,o2.out eY oM⟩
end
end Go.Proofs.YtiagfejlmafliaaGreatDoor
namespace Go.Proofs.YtiagfejlmafliaaGreatDoor.Pl
set_option linter.all false
open Go.Proofs.Tryz Pl
set_option maxHeartbeats 16000000
open World renaming setCell->ez,alloc->ew
open List renaming range->eA,replicate->eE
open Option renaming some->a_,none->c_
open Bool renaming true->b_,false->d_
variable {row x y:lI}{op:Int}
def fd(F:Int->Int->Except Int Int)(da:lI)(s:Nat):Nat->List Int->Except Int (lI)
 |0,acc=>.ok acc
 |r+1,acc=>match eU (jK F) ((rowAt da s r).zip acc) with
  |.error c=>.error c
  |.ok acc'=>fd F da s r acc'
def fold(F:Int->Int->Except Int Int)(da:lI)(s n:Nat):Except Int (lI):=fd F da s (n-1) (rowAt da s (n-1))
def red(op:Int)(a:Ar):Except Int Ar:=match a.1 with
 |[]=>.ok a
 |m::row=>if m=0 then (if 8<=op then .error 1 else if fy row=b_ then .ok (row,eE (eQ row) (iR op)) else .error 6) else wS row (fold (two op) a.2 (eQ row) m.toNat)
def reduce(op:Int)(a:Ar):Except Int Ar:=if fN op=b_ then red op a else .error 9
def Pq{F:Int->Int->Except Int Int}(hx:okB (row,x)=b_)(hy:okB (row,y)=b_):el F (row,x) (row,y)=wS row (eU (jK F) (x.zip y)):=by
 by_cases h:row=[]
 ·subst h
  have e:=(ok_eq hx).2.1;have e':=(ok_eq hy).2.1;simp only[eR,Io] at e e';match x,y,e,e' with
  |[x],[y],_,_=>simp[el,eU]
 rw[Od h h,Da]
def Xo(ho:fN op=b_){z:lI}(hx:okB (row,x)=b_)(hy:okB (row,y)=b_)(h:eU (jK (two op)) (x.zip y)=.ok z):okB (row,z)=b_:=by
 have hl:=qK h;have e:=ok_eq hx;have e':=ok_eq hy;simp only[okB,fO,fQ,ga];refine⟨⟨e.1,?_⟩,?_⟩
 ·have:=e.2.1
  have:=e'.2.1;simp at hl this
  simp only at *;omega
 refine qL h λp hp v hv=>?_;have:=DJ hp;exact w_ ho (ga.1 e.2.2.1 _ this.1) (ga.1 e'.2.2.1 _ this.2) hv
def C'{c:Int}:∀{l:List (Int × Int)},eU (jK (two op)) l=.error c->¬c=0
 |[],h=>by cases h
 |p::l,h=>by
  simp only[eU] at h
  cases hp:jK (two op) p with
  |error c'=>rw[hp] at h;injection h with h;subst h;exact AH hp
  |ok y =>
   rw[hp] at h
   cases hl:eU (jK (two op)) l with
   |error c'=>rw[hl] at h;injection h with h;subst h;exact C' hl
   |ok r=>rw[hl] at h;cases h
end Go.Proofs.YtiagfejlmafliaaGreatDoor.Pl
namespace Go.Proofs.YtiagfejlmafliaaGreatDoor
set_option linter.all false
open Go.Proofs.Tryz Pl
open Go.RowKit
set_option maxRecDepth 100000
set_option maxHeartbeats 16000000
open Pl (Ar)
open World renaming setCell->ez,alloc->ew
open List renaming range->eA,replicate->eE
open Option renaming some->a_,none->c_
open Bool renaming true->b_,false->d_
variable {ρ:Prop}
variable {w w':Wd}{b:Nat}{o:Oper}{a:Act}{t:TypeId}{p:Operand}{v0 v1:Va}
def φ(x:Int)(e:b=w.1.size):Rw (λ_=>True) (w.alloc (.cells #[I x] 3)) (sX (sY b 0) 1 1) [x]:=by subst e;exact mV w x
def fh(q v:Va)(gO:o.op=Op.load t p)(hp:a.eval p=q)(hr:(Instr.loadAt t q).run prog w=.ok v w):(execOp a.eval o).run prog w=.ok (.value v) w:=by simp[execOp,gO,hp,hr,Result.andThen]
def jf{x:Operand}(q y:Va)(gO:o.op=Op.store t p x)(hp:a.eval p=q)(hx:a.eval x=y)(hr:(Instr.storeAt t q y).run prog w=.ok () w'):(execOp a.eval o).run prog w=.ok .skip w':=by simp[execOp,gO,hp,hx,hr,Result.andThen]
def xO(v:Va)(gO:o.op=Op.alloc t)(hr:(Instr.alloc t b_ (.tuple #[])).run prog w=.ok v w'):(execOp a.eval o).run prog w=.ok (.value v) w':=by simp[execOp,gO,hr,Result.andThen]
def oL(h:Bx w b #[v0,v1] 30):(Instr.loadAt 30 (pT b)).run prog w=.ok (.agg #[v0,v1]) w:=by
 exact ze
def mU{x0 x1:oA}{n0 y0 n1 y1:Nat}(h:Bx w b #[v0,v1] 30):(Instr.storeAt 30 (pT b) (.agg #[sX x0 n0 y0,sX x1 n1 y1])).run prog w=.ok () ((w.setCell (Y b 0) (sX x0 n0 y0)).setCell (Y b 1) (sX x1 n1 y1)):=by
 exact ze
def BJ(w:Wd):(Instr.alloc 30 b_ (.tuple #[])).run prog w=.ok (pT w.1.size) (w.alloc (.cells nN 30)):=by go_simp
def adO(op:Int)(ho:Pl.fN op=b_)(w:Wd):Calls prog 162 #[I op] w λe w'=>e=rT (.tuple #[I (Pl.iR op),.bool (decide (op<8))])/\w'=w:=by
 rcases Pl.Nl ho with rfl|rfl|rfl|rfl|rfl|rfl|rfl|rfl|rfl|rfl
 all_goals
  clear ho;go_enter func162,ntmps162;go_wp2;go_returns
  exact⟨rfl,rfl⟩
def NS{X:Prop}(h:X:=by
 obtain⟨⟨s0,u0,rfl⟩,s1,u1,rfl⟩:=V.o.2.2.2.2.1.eS;have⟨bq,SS,BLW,BZW,ra4,bRW,Sn⟩:=V.o;have K_:¬w.1.size=pb:=oM;have nzz:¬Z=pb:=oM;have nr:¬w.1.size+1=pb:=oM;refine ts 10 _ rfl rfl rfl (jf (pT pb) (.agg #[.slice s0 (f_ (Pl.wS row q)).2.1.length u0,.slice s1 (f_ (Pl.wS row q)).2.2.length u1]) rfl kF kF (mU bq)) ⟨(SS.1.eC (by simpa using K_) _).eC (by simpa using K_) _,(SS.2.eC Ji _).eC Ji _⟩ ?_;refine tk 11 (I (f_ (Pl.wS row q)).1) rfl ⟨(SS.1.eC (by simpa using K_) _).eC (by simpa using K_) _,(SS.2.eC Ji _).eC Ji _⟩ (λ_ _=>kF) ?_;refine te ?_;have V2:Hid (Bx ((Wc.setCell (Y pb 0) (.slice s0 (f_ (Pl.wS row q)).2.1.length u0)).setCell (Y pb 1) (.slice s1 (f_ (Pl.wS row q)).2.2.length u1)) pb #[.slice s0 (f_ (Pl.wS row q)).2.1.length u0,.slice s1 (f_ (Pl.wS row q)).2.2.length u1] 30/\Bx ((Wc.setCell (Y pb 0) (.slice s0 (f_ (Pl.wS row q)).2.1.length u0)).setCell (Y pb 1) (.slice s1 (f_ (Pl.wS row q)).2.2.length u1)) Z #[sX q0 p0 t0,sX q1 m1 t1] 30/\Bx ((Wc.setCell (Y pb 0) (.slice s0 (f_ (Pl.wS row q)).2.1.length u0)).setCell (Y pb 1) (.slice s1 (f_ (Pl.wS row q)).2.2.length u1)) (w.1.size+1) nN 30/\Below w.1.size w ((Wc.setCell (Y pb 0) (.slice s0 (f_ (Pl.wS row q)).2.1.length u0)).setCell (Y pb 1) (.slice s1 (f_ (Pl.wS row q)).2.2.length u1))/\Below Z w1 ((Wc.setCell (Y pb 0) (.slice s0 (f_ (Pl.wS row q)).2.1.length u0)).setCell (Y pb 1) (.slice s1 (f_ (Pl.wS row q)).2.2.length u1))/\RA (λb=>Z<b) ((Wc.setCell (Y pb 0) (.slice s0 (f_ (Pl.wS row q)).2.1.length u0)).setCell (Y pb 1) (.slice s1 (f_ (Pl.wS row q)).2.2.length u1)) (.slice s0 (f_ (Pl.wS row q)).2.1.length u0) (.slice s1 (f_ (Pl.wS row q)).2.2.length u1) (f_ (Pl.wS row q)).2) :=
  ⟨(bq.set 0 _).set 1 _,(SS.2.eC Ji _).eC Ji _,(bRW.eC (by simpa using nr) _).eC (by simpa using nr) _,gG,(BZW.setCell J2 _).setCell J2 _,(ra4.kp (((Kp.refl _ _).set sI _).set sI _)).mono λb h _=>h.1⟩
 generalize ez (ez Wc _ _) _ _=Wd at *;clear V bq SS BLW BZW ra4 bRW
 cases q with
 |error c =>
  have hr:r=.error c:=by rw[hE.o.1];simp only[Pl.fd,HQ.o];rfl
  have hc:(c != 0)=b_:=by rw[iH];exact Pl.C' HQ.o
  subst hr;obtain⟨c0,f0,z0⟩:=V2.o.2.2.1.all;simp only[Pl.wS,f_,iA] at V2 ⊢;go_simp;go_wp2;refine eJ Ja rfl ?_;have:=V2.o.2.2.2.1;exact pk
 |ok acc' =>
  have j_:Hid (r=Pl.wS row (Pl.fd (Pl.two op) da s j acc')/\Pl.okB (row,acc')=b_/\acc'.length=acc'.length):=⟨by rw[hE.o.1];simp only[Pl.fd,HQ.o],Pl.Xo HO.o (OR.o j oM) hE.o.2.1 HQ.o,rfl⟩;simp only[Pl.wS,f_,E0.o] at V2 ⊢;obtain⟨c0,f0,z0⟩:=V2.o.1.all;obtain⟨c1,f1,z1⟩:=V2.o.2.1.all;go_simp;go_wp2;go_roundw
  case rel =>
   refine⟨j,acc',s0,s1,u0,u1,acc'.length,gN,oM,j_,?_,?_⟩
   ·exact(V2.o.2.2.2.2.1.setCell sI _).setCell sI _
   ·exact⟨(V2.o.2.1.set 0 _).set 1 _,(V2.o.2.2.2.2.2.kp (((Kp.refl _ _).set sI _).set sI _)).mono λb h _=>⟨oM,oM⟩⟩
  case measure=>simp[intOf];try omega):X:=h
def ajH.Ym(h:ρ:=by
 have V:Hid (Bx w3 W.1.size nN 30/\(Bx w3 w.1.size #[sX (sY b o) (p0+1) y0,sX x1 p1 y1] 30/\Bx w3 Z #[sX q0 p0 t0,sX q1 m1 t1] 30)/\Below w.1.size w w3/\Below Z w1 w3/\RA (λb=>Z<b/\¬b=W.1.size) w3 v2 v3 (f_ (Pl.wS row q)).2/\Bx w3 (w.1.size+1) nN 30/\Z<W.1.size):=⟨bq3,T3,bv k3 SL,nV SB k3 oM,xV.mono λb h1 h2=>⟨by first | omega | (simp at h1;omega),by first | omega | (simp at h1;omega)⟩,SV.below k3,oM⟩;have sz9:W.1.size<w3.1.size:=V.o.1.lt;clear bq3 T3 k3 hb2 eV qw xV S0 wI SL SB SR SV UW tB tC;generalize W.1.size=pb,w3=Wc at *;exact NS
 ):ρ:=h
def ajG.Ym(h:ρ:=by
 have V:Hid (Bx w3 w2.1.size nN 30/\(Bx w3 w.1.size #[sX (sY b o) (p0+1) y0,sX x1 p1 y1] 30/\Bx w3 Z #[sX q0 p0 t0,sX q1 m1 t1] 30)/\Below w.1.size w w3/\Below Z w1 w3/\RA (λb=>Z<b/\¬b=w2.1.size) w3 v2 v3 (f_ (Pl.wS row q)).2/\Bx w3 (w.1.size+1) nN 30/\Z<w2.1.size):=⟨.below (.eK rfl) eV,T3,bv k3 SL,nV SB k3 oM,xV.mono λb h1 h2=>⟨by first | omega | (simp at h1;omega),by first | omega | (simp at h1;omega)⟩,SV.below k3,oM⟩;have sz9:w2.1.size<w3.1.size:=V.o.1.lt;clear T3 k3 hb2 eV qw xV S0 wI SL SB SR SV UW tB tC;generalize w2.1.size=pb,w3=Wc at *;exact NS
 ):ρ:=h
def ak9.pe(h:ρ:=by
 refine(K1.o _ V0.o.2.2.1).mono ?_;rintro e w1 ⟨hb,u0,u1,rfl,ra⟩;obtain⟨⟨x4,y4,rfl⟩,x5,y5,rfl⟩:=ra.eS;simp only[E0.o] at ra ⊢;have J:Hid (∀W,Below w1.1.size w1 W->Bx W w.1.size #[sX (sY b o) (p0+1) y0,sX x1 p1 y1] 30/\Bx W (w.1.size+1) nN 30/\Below w.1.size w W/\w.1.size+1<w1.1.size):=λW k=>⟨(V0.o.1.below hb).below k,(V0.o.2.1.below hb).below k,bv k (bv hb V0.o.2.2.1),(V0.o.2.1.below hb).lt⟩;have Ak:=zH ra;have s0:=V0.o.2.2.2;clear hb ra V0 K1;go_wp2_with fail;have⟨Z,HZ⟩:=jN (w1.1.size);have R0:Hid (Bx (w1.alloc (.cells #[sX x4 p0 y4,.slice x5 (Pl.rowAt da s (n-1)).length y5] 30)) Z #[sX x4 p0 y4,.slice x5 (Pl.rowAt da s (n-1)).length y5] 30/\RA (λb=>¬b=Z/\w.1.size+1<b) (w1.alloc (.cells #[sX x4 p0 y4,.slice x5 (Pl.rowAt da s (n-1)).length y5] 30)) (sX x4 p0 y4) (.slice x5 (Pl.rowAt da s (n-1)).length y5) (row,Pl.rowAt da s (n-1))):=⟨.eK HZ.o.symm,(Ak.o.mono (Q:=λb=>¬b=Z/\w.1.size+1<b) λb h1 h2=>⟨by have:=HZ.o;omega,oM⟩).kp eY⟩;rw[HZ.o] at J ⊢;have hzz:=(J.o w1 (jD _ _)).2.2.2;go_loopw [12,13,14] (λi _ _ wr=>∃(j:Nat)(acc:lI) (q0 q1:oA) (t0 t1 m1:Nat),i=I ((j:Int)-1)/\j<=n-1/\Hid (r=Pl.wS row (Pl.fd (Pl.two op) da s j acc)/\Pl.okB (row,acc)=b_/\acc.length=m1)/\Hid (Below Z w1 wr)/\Hid (Bx wr Z #[sX q0 p0 t0,sX q1 m1 t1] 30/\RA (λb=>¬b=Z/\w.1.size+1<b) wr (sX q0 p0 t0) (sX q1 m1 t1) (row,acc))) (λi _ _ _=>(intOf i+1).toNat)
 case atStart =>
  refine⟨n-1,Pl.rowAt da s (n-1),x4,x5,y4,y5,(Pl.rowAt da s (n-1)).length,gN,jR _,⟨eP.o,OR.o _ oM,rfl⟩,nV (jD _ _) gG (by rw[HZ.o];exact jR _),?_⟩;exact R0.o
 case round =>
  obtain⟨j,acc,q0,q1,t0,t1,m1,rfl,hj,hE,hB,hU⟩:=hrel;clear R0 Ak
  cases j with
  |zero =>
   have hr:r=.ok (row,acc):=hE.o.1;subst hr;obtain⟨c0,f0,z0⟩:=hU.o.1.all;obtain⟨c1,f1,z1⟩:=(J.o wr hB.o).2.1.all;have jo:=zH (J.o wr hB.o);go_wp2;refine eJ Ja rfl ?_;obtain⟨_,b1,bl,_⟩:=jo.o;exact⟨gG,_,_,rfl,(hU.o.2.kp (((Kp.refl _ _).set sI _).set sI _)).mono λb h _=>oM⟩
  |succ j =>
   have e1:(((j+1:Nat):Int)-1)=(j:Int):=oM;rw[e1];have⟨S0,S1,S2,_⟩:=J.o wr hB.o;have hzr:=hU.o.1.lt;have⟨q,HQ⟩:=jN (Pl.eU (Pl.jK (Pl.two op)) ((Pl.rowAt da s j).zip acc));have KE:Hid (∀W v0 v1 v2 v3,RA (λ_=>True) W v0 v1 (row,Pl.rowAt da s j)->RA (λ_=>True) W v2 v3 (row,acc)->Calls prog 134 #[I op,.agg #[v0,v1],.agg #[v2,v3]] W (SP W (Pl.wS row q))):=λW v0 v1 v2 v3 h1 h2=>by
    have:=Na op HO.o v0 v1 v2 v3 _ _ h1 h2 (OR.o j oM) hE.o.2.1;rw[Pl.Pq (OR.o j oM) hE.o.2.1,HQ.o] at this;exact this
   go_wp2_with fail;refine fT (S:=λW=>Bx W w.1.size #[sX (sY b o) (p0+1) y0,sX x1 p1 y1] 30/\Bx W Z #[sX q0 p0 t0,sX q1 m1 t1] 30) kF ⟨S0,hU.o.1⟩ (λhS=>?_);refine tk 0 (I op) rfl hS (λw h=>kF) ?_;refine tk 1 _ rfl hS (λw h=>fh _ _ rfl kF (oL h.1)) ?_;refine tk 2 (I (j:Int)) rfl hS (λw h=>kF) ?_;refine tk 4 _ rfl hS (λw h=>fh _ _ rfl kF (oL h.2)) ?_;clear hS;have UW:Hid (Bx wr.drew w.1.size #[sX (sY b o) (p0+1) y0,sX x1 p1 y1] 30/\Bx wr.drew Z #[sX q0 p0 t0,sX q1 m1 t1] 30/\Below w.1.size w wr.drew/\Below Z w1 wr.drew/\RA (λb=>¬b=Z/\w.1.size+1<b) wr.drew (sX q0 p0 t0) (sX q1 m1 t1) (row,acc)/\Bx wr.drew (w.1.size+1) nN 30):=⟨S0,hU.o.1,S2.drew,hB.o.drew,hU.o.2,S1⟩;clear hU hB S0 S1 S2;replace hzr:Z<wr.drew.1.size:=hzr;generalize wr.drew=W at *;have⟨S0,wI,SL,SB,SR,SV⟩:=UW.o;refine gT 3 9 rfl rfl ?_ ?_
   ·refine lC rfl kF ((KR.o W j SL oM).mono ?_)
    rintro e w2 ⟨hb2,v0,v1,rfl,qw⟩;refine⟨_,rfl,⟨S0.below hb2,wI.below hb2⟩,?_⟩;refine gT 5 9 rfl rfl ?_ ?_
    ·refine lC rfl kF ((KE.o w2 v0 v1 _ _ (qw.mono λ_ _ _=>trivial) ((SR.kp (.of hb2)).mono λ_ _ _=>trivial)).mono ?_)
     rintro e w3 ⟨eV,v2,v3,rfl,xV⟩;have k3:Below W.1.size W w3:=bv eV hb2;have T3:Bx w3 w.1.size #[sX (sY b o) (p0+1) y0,sX x1 p1 y1] 30/\Bx w3 Z #[sX q0 p0 t0,sX q1 m1 t1] 30:=⟨S0.below k3,wI.below k3⟩;refine⟨_,rfl,T3,?_⟩;refine tk 6 (.tuple #[.agg #[v2,v3],I (f_ (Pl.wS row q)).1]) rfl T3 (λ_ _=>kF) ?_;refine tk 7 (.agg #[v2,v3]) rfl T3 (λ_ _=>kF) ?_;refine tk 8 (I (f_ (Pl.wS row q)).1) rfl T3 (λ_ _=>kF) ?_;refine tv 9 (pT w3.1.size) (w3.alloc (.cells nN 30)) rfl rfl (xO _ rfl (BJ _)) ⟨T3.1.al _,T3.2.al _⟩ ?_;have tB:=k3.size;have tC:=hb2.size;have V:Hid (Bx (w3.alloc (.cells nN 30)) w3.1.size nN 30/\(Bx (w3.alloc (.cells nN 30)) w.1.size #[sX (sY b o) (p0+1) y0,sX x1 p1 y1] 30/\Bx (w3.alloc (.cells nN 30)) Z #[sX q0 p0 t0,sX q1 m1 t1] 30)/\Below w.1.size w (w3.alloc (.cells nN 30))/\Below Z w1 (w3.alloc (.cells nN 30))/\RA (λb=>Z<b/\¬b=w3.1.size) (w3.alloc (.cells nN 30)) v2 v3 (f_ (Pl.wS row q)).2/\Bx (w3.alloc (.cells nN 30)) (w.1.size+1) nN 30/\Z<w3.1.size):=⟨.eK rfl,⟨T3.1.al _,T3.2.al _⟩,bv gG (bv k3 SL),nV (nV SB k3 oM) gG oM,(xV.mono (Q:=λb=>Z<b/\¬b=w3.1.size) λb h1 h2=>⟨oM,oM⟩).kp eY,(SV.below k3).al _,oM⟩;clear T3 k3 hb2 eV qw xV S0 wI SL SB SR SV UW tB tC;generalize w3.1.size=pb,w3.alloc _=Wc at *;exact NS
    ·refine iL (pT w2.1.size) (w2.alloc (.cells nN 30)) rfl (xO _ rfl (BJ _)) ⟨(S0.below hb2).al _,(wI.below hb2).al _⟩ ?_
     have tC:=hb2.size;refine tc 5 _ _ rfl rfl kF ((KE.o (w2.alloc (.cells nN 30)) v0 v1 _ _ ((qw.kp eY).mono λ_ _ _=>trivial) (((SR.kp (.of hb2)).kp eY).mono λ_ _ _=>trivial)).mono ?_);rintro e w3 ⟨eV,v2,v3,rfl,xV⟩;have k3:Below W.1.size W w3:=bv eV (bv gG hb2);open ajG in exact Zo
   ·refine iL (pT W.1.size) (W.alloc (.cells nN 30)) rfl (xO _ rfl (BJ _)) ⟨S0.al _,wI.al _⟩ ?_
    refine tc 3 _ _ rfl rfl kF ((KR.o (W.alloc (.cells nN 30)) j (bv gG SL) oM).mono ?_);rintro e w2 ⟨hb2,v0,v1,rfl,qw⟩;have k2:Below W.1.size W w2:=bv hb2;refine .inl ⟨_,rfl,⟨S0.below k2,wI.below k2⟩,?_⟩;have tC:=hb2.size;simp at tC
    refine tc 5 _ _ rfl rfl kF ((KE.o w2 v0 v1 _ _ (qw.mono λ_ _ _=>trivial) ((SR.kp (.of k2)).mono λ_ _ _=>trivial)).mono ?_);rintro e w3 ⟨eV,v2,v3,rfl,xV⟩;have k3:Below W.1.size W w3:=bv eV k2;have bq3:Bx w3 W.1.size nN 30:=.below (.below (.eK rfl) hb2) eV;clear k2;open ajH in exact Zo
 ):ρ:=h
def ak8.pe(h:ρ:=by
 refine(lG _ da _ (H.o.2.rw.kp (.of (bv (w:=w) gG V0.o.2.2.1))) JT).mono ?_;rintro e w1 ⟨hb,u,rfl,o⟩;obtain⟨x2,y2,rfl⟩:=o.form;have sz:=V0.o.2.2.2;have o1:Oi w.1.size w1 (sX (sY (w.1.size+1+1) 0) 0 0) []:=by
  have:=(Oi.emp (B:=w.1.size) (w:=W0) oM).kp (.of hb);rwa [sz] at this
 have V1:=zH (jA ((V0.o.2.1.al _).below hb) (jA (bv hb (bv (w:=w) gG V0.o.2.2.1)) (jA o1 (o.base (B':=w.1.size) J2))));obtain⟨c0,f0,z0⟩:=V1.o.1.all;clear hb o o1 V0 sz;go_wp2;refine eJ (by simp[results,results126,go_sem,c0];try rfl) rfl ?_;obtain⟨b1,bl,o1,o2⟩:=V1.o;have m1:=o1.ne b1 dC;have m2:=o2.ne b1 dC;exact⟨by go_grown,_,_,rfl,(show RA _ _ _ _ ([],da) from ⟨o1.out eY (jR _),o2.out eY (jR _)⟩)⟩
 ):ρ:=h
def FJ{P:nK}(op:Int)(ho:Pl.fN op=b_)(v0 v1:Va)(a:Ar)(h:RA P w v0 v1 a)(ha:Pl.okB a=b_):Calls prog 126 #[I op,.agg #[v0,v1]] w (SP w (Pl.red op a)):=by
 have H:=zH h;have HA:=zH ha;have HO:=zH ho;obtain⟨⟨x0,y0,rfl⟩,x1,y1,rfl⟩:=h.eS;have⟨_,_,hv,gK,gr⟩:=Pl.ok_eq ha;have⟨r,HR⟩:∃r,Hid (r=Pl.red op a):=⟨_,rfl⟩;rw[<- HR.o];clear h ha ho hv;obtain⟨sh,da⟩:=a;simp only at gK gr H HR ⊢;obtain⟨p1,E1⟩:=jN (da.length);rw[E1.o] at gr H ⊢
 cases sh with
 |nil =>
  have hr:r=.ok ([],da):=HR.o;subst hr;go_enter func126,ntmps126;open ak8 in exact pj
 |cons m row =>
  obtain⟨n,rfl,hn,hb,hf,hp,hl,eN⟩:=Pl.ke HA.o;have eP:Hid (r=if (n:Int)=0 then (if 8<=op then .error 1 else if Pl.fy row=b_ then .ok (row,eE (Pl.eQ row) (Pl.iR op)) else .error 6) else Pl.wS row (Pl.fold (Pl.two op) da (Pl.eQ row) n)):=HR.o;clear HR;have⟨p0,E0⟩:=jN (row.length);simp only[fW] at gK H ⊢;rw[E0.o] at gK H eN ⊢;obtain⟨b,o,rfl,uY,jd⟩:=H.o.1.rw.at (i:=0) rfl;rw[iz] at jd;have ne0:¬b=w.1.size:=oM;have ne1:¬b=w.1.size+1:=oM;by_cases h0:n=0
  ·subst h0
   replace jd:cL w b o (I 0):=jd;have KN:=zH λW=>adO op HO.o W;rw[eD (show ((0:Nat):Int)=0 from rfl)] at eP;by_cases h8:8<=op
   ·have hr:r=.error 1:=by rw[eP.o,eD h8]
    subst hr;rw[fH (by omega:¬op<8)] at KN;clear h8;go_enter func126,ntmps126;go_wp2_with (go_at_call 162;refine(KN.o _).mono ?_;rintro e w' ⟨rfl,rfl⟩)
    refine eJ (by simp[results,results126,go_sem];try rfl) rfl ?_;exact pk
   ·rw[eB h8] at eP
    rw[fM (by omega:op<8)] at KN;clear h8;have C0:=zH λW=>mO (w:=W) (x:=sY b o) (n:=p0+1) (y:=y0) (l:=1) oM;rw[show p0+1-1=p0 by omega] at C0;have H0:=zH H.o.1.tl;rw[show p0+1-1=p0 by omega] at H0;generalize fU (sY b o) 1 y0=z0,y0-1=k0 at *;go_enter func126,ntmps126;go_wp2_with (first | (go_at_call 162;refine(KN.o _).mono ?_;rintro e w' ⟨rfl,rfl⟩) | (refine iW rfl (ie rfl rfl rfl (C0.o _)) ?_))
    generalize hW:ew (ew w _) _=W0;have V0:=jU hW;clear hW;refine(lG _ row _ (H0.o.rw.kp (.of V0.o.2.2.1)) JO).mono ?_;rintro e w1 ⟨hb,u,rfl,o⟩;have⟨x2,y2,e2⟩:=o.form;rw[E0.o] at e2;subst e2;have V1:=zH (jA (V0.o.2.1.below hb) (jA (bv hb V0.o.2.2.1) o));clear hb o V0;go_wp2_with fail;refine(Ax _ _ row [] (V1.o.2.2.ri.rw.kp (.of gG)) rfl).l λw2 hb=>?_;have V2:=zH (jA ((V1.o.1.al _).below hb) (jA (bv hb (bv (w:=w) gG V1.o.2.1)) ((V1.o.2.2.kp (.of (by go_grown:Below w1.1.size w1 _))).kp (.of hb))));clear hb V1
    cases Tc:Pl.fy row
    ·have hr:r=.error 6:=by rw[eP.o,Tc];rfl
     subst hr;obtain⟨c0,f0,z0⟩:=V2.o.1.all;simp only[Ih,oJ];go_wp2;refine eJ Ja rfl ?_;have:=V2.o.2.1;exact pk
    ·have hr:r=.ok (row,eE (Pl.eQ row) (Pl.iR op)):=by rw[eP.o,Tc];rfl
     subst hr;simp only[kI];go_wp2_with fail;refine(FN (P:=λ_=>True) (nJ) _ [Pl.iR op] row (Pl.iR op) (sX x2 p0 y2) rfl (φ _ sI) rfl ((V2.o.2.2.ri.rw.jG λ_ _ _=>trivial).kp (.of gG)) Tc).mono ?_;rintro e w3 ⟨hb,u0,u1,rfl,ra⟩;obtain⟨⟨x4,y4,rfl⟩,x5,y5,rfl⟩:=ra.eS;have V3:=zH (jA (((V2.o.1.al _).al _).below hb) (jA (bv hb (bv (w:=w) gG V2.o.2.1)) ra));have lt:=V2.o.1.lt;simp only[vE] at V3;obtain⟨c3,f3,z3⟩:=V3.o.1.all;clear hb ra V2;go_wp2;refine eJ (by simp[results,results126,go_sem,c3];try rfl) rfl ?_;exact SP.put (c:=w.1.size+1) (r:=.ok _) V3.o.2.2 V3.o.2.1 oM J2 _ _
  ·rw[eB (by omega:¬(n:Int)=0)] at eP
   have KR:Hid (∀W j,Below w.1.size w W->j<n->Calls prog 164 #[.agg #[sX (sY b o) (p0+1) y0,sX x1 p1 y1],I (j:Int)] W λe w'=>Below W.1.size W w'/\∃u0 u1,e=rT (.agg #[u0,u1])/\RA (W.1.size<=·) w' u0 u1 (row,Pl.rowAt da (Pl.eQ row) j)):=λW j k hj=>F_ _ _ (n:Int) row da (H.o.kp (.of k)) HA.o j oM;have OR:=zH λj hj=>Pl.Nx HA.o (n:=n) (r:=j) rfl hj;have en:((n:Int) == 0)=d_:=by simp;omega
   generalize Pl.eQ row=s at *;have e1:(n:Int)-1=((n-1:Nat):Int):=oM;have K1:=zH λW k=>KR.o W (n-1) k oM;rw[<- e1] at K1;clear e1 hf hp hb hl;go_enter func126,ntmps126;open ak9 in exact pj
end Go.Proofs.YtiagfejlmafliaaGreatDoor
