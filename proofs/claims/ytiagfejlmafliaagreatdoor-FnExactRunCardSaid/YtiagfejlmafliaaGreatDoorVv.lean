import Derived.Test.YtiagfejlmafliaaGreatDoorVl
namespace Go.Proofs.YtiagfejlmafliaaGreatDoor
set_option linter.all false
open Go.Proofs.Tryz Pl
open Go.RowKit
set_option maxRecDepth 100000
set_option maxHeartbeats 16000000
open World renaming setCell->ez,alloc->ew
open List renaming range->eA,replicate->eE
open Option renaming some->a_,none->c_
open Bool renaming true->b_,false->d_
variable {ρ:Prop}
def ajn.GN(h:ρ:=by
 refine⟨Builtin.zeroCells (Value.int .i64 0).cells n++Builtin.zeroCells (Value.int .i64 0).cells (grownCap w n 0 3-n),grownCap w n 0 3,?_,grownCap_ge w n 0 3,grownCap_le_maxLen w n 0 3 J8,?_⟩
 ·have hn:n ≠ 0:=oM
  have apb:¬(9223372036854775807<(n:Int)):=oM;have apc:¬(281474976710656<Builtin.nextslicecap n 0 * 8):=by rw[nextslicecap_zero h0];omega
  have hw:IntKind.i64.wrap (n:Int)=(n:Int):=by rw[lj];omega
  have hb:¬(281474976710656<(n:Int) * 8):=oM;have Bv:¬((n:Int)<0):=oM;simp[Builtin.append_,Bn underlying23,Bn underlying3,sizeOf,typeInfo,zeroValue,hi,iC,gy,iS,hn,apb,apc,hw,hb,Bv,asInt,asIntOf,Question.forced,run_firstCells_none,newRow,grownCap]
 ·have e:(Value.int .i64 0).cells.size=1:=rfl
  have:=grownCap_ge w n 0 3;simp[size_zeroCells,e]
  omega
 ):ρ:=h
def agY(w:Wd)(n:Nat)(h0:0<n)(h1:n<=4194304):∃cs cap,(Builtin.append_ #[23,3] 23 #[nJ,I (n:Int)]).run prog w=.ok (sX (sY w.1.size 0) n cap) (w.drew.alloc (.cells cs 3))/\n<=cap/\cap<=maxLen/\cs.size=cap:=by
 open ajn in exact Hf
def abb{P:Program}(w w':Wd){ops:Array Oper}{rest:List Oper}{o:Oper}{a:Act}{Q:Exit->Act->Wd->Prop}(hg:o.guard=c_)(s x:Operand)(ts:Array TypeId)
  (gO:o.op=Op.call { callee:=Callee.builtin Builtin.append,args:=#[s,x],argTypes:=ts }) (vs vx v:Va) (hs:a.eval s=vs) (hx:a.eval x=vx) (zE:(Builtin.append_ ts o.type #[vs,vx]).run P w=.ok v w')
  (hK:wpList P ops Q rest (a.put o.dst v) w'):wpList P ops Q (o::rest) a w:=by
 refine Bm hg λK tS=>?_;unfold Oper.wp;simp[execOp,gO,resolve,invoke,builtin,hs,hx,zE,Result.andThen]
 exact tS _ _ hK
def ags(n:Nat)(w:Wd)(h1:n<=4194304):Cp 161 #[nJ,I (n:Int)] w λe w'=>Bl w w'/\∃u,e=rT u/\Oi w.1.size w' u []:=by
 by_cases h0:n=0
 ·subst h0
  go_enter func161,ntmps161;go_wp2;go_returns
  exact⟨gG,_,rfl,Oi.nil _⟩
 have hp:0<n:=oM;obtain⟨cs,cap,hr,gE,jC,j9⟩:=agY w n hp h1;have R:Hid (Oi w.1.size (w.drew.alloc (.cells cs 3)) (sX (sY w.1.size 0) 0 cap) []):=World.ownsRow_made (base:=w.1.size) (e:=3) (size:=1) w.drew _ _ (jR _) jC (by simpa using j9);have HR:=zH hr;go_enter func161,ntmps161;go_wp2_with (at_builtin;refine abb _ _ rfl _ _ _ rfl _ _ _ rfl rfl HR.o ?_)
 go_returns
 exact⟨gG,_,rfl,R.o⟩
def Ls(P:nK)(w:Wd)(b:Nat)(ls:List (lI)):Prop:=b<w.1.size/\∀(i:Nat) zs,ls[i]? = a_ zs->∃v,w.cell? (Y b i)=a_ v/\Rw P w v zs
def Ls.eG{P:nK}{w w':Wd}{b:Nat}{ls:List (lI)}(h:Ls P w b ls)(k:Bl w w'):Ls P w' b ls :=
 ⟨jL h.1 k.size,λi zs hi=>let ⟨v,hc,hr⟩:=h.2 i zs hi;⟨v,(k.cell (p:=(Y b i)) h.1).trans hc,hr.kp (.of k)⟩⟩
def VK{α:Type}(ls:List (List α))(k:Nat)(zs:List α)(h:ls[k]? = a_ zs):(ls.take (k+1)).flatten=(ls.take k).flatten++zs:=by
 rw[pB,h];simp
def XB{α:Type}(ls:List (List α))(k:Nat):(ls.take k).flatten.length<=ls.flatten.length:=by
 have:=lQ (λl:List (List α)=>l.flatten.length) (vM k ls);simp only[vL,hJ] at this;omega
def ad0{P:nK}(ls:List (lI))(b cap:Nat)(w:Wd)(h:Ls P w b ls)(hn:ls.length<=3)(hl:ls.flatten.length<=1048576):Cp 121 #[sX (sY b 0) ls.length cap] w λe w'=>Bl w w'/\∃u,e=rT u/\Oi w.1.size w' u ls.flatten:=by
 have HH:=zH h;have FL:=zH (XB ls);have FT:=zH (VK ls);have hb:=h.1;have⟨n,HN⟩:=jN (ls.length);rw[HN.o];rw[HN.o] at hn;have GE:Hid (∀k,k<n->∃zs,ls[k]? = a_ zs):=λk hk=>⟨_,fw (by rw[HN.o];exact hk)⟩;obtain⟨len,LE⟩:∃len:Nat->Nat,Hid (∀k,len k=(ls.take k).flatten.length):=⟨_,λk=>rfl⟩;have E0:Hid (len 0=0):=by rw[LE.o];rfl
 have EN:Hid (len n<=1048576):=by rw[LE.o];exact jT (FL.o n) hl
 have ES:Hid (∀k zs,ls[k]? = a_ zs->len (k+1)=len k+zs.length/\len (k+1)<=1048576):=λk zs hz=>⟨by rw[LE.o,LE.o,FT.o k zs hz];simp,by rw[LE.o];exact jT (FL.o _) hl⟩;have EA:Hid (ls.take n=ls):=mR JH;go_enter func121,ntmps121;go_wp2_with fail;go_loop [3,5,11] (λs _ i=>∃k:Nat,k<=n/\i=I (k:Int)/\s=I (len k:Int)) (λ_ _ i=>n-(intOf i).toNat)
 case atStart=>exact⟨0,vZ _,rfl,by rw[E0.o];rfl⟩
 obtain⟨k,hk,rfl,rfl⟩:=hrel;by_cases fK:k=n
 rotate_left 1
 ·have⟨zs,hz⟩:=GE.o k oM
  obtain⟨v,hc,x2,y2,rfl,hr⟩:=HH.o.2 k zs hz;have⟨e2,hle⟩:=ES.o k zs hz;have eI:(k:Int)<(n:Int):=oM;have apL:len k+zs.length<=1048576:=oM;replace e2:=zH e2;go_wp2;go_round
  case rel=>exact⟨k+1,oM,gN,by rw[e2.o];go_num⟩
  simp[intOf];omega
 subst fK;have hL:=EN.o;go_wp2_with fail;refine(ags (len k) _ oM).mono ?_;rintro e w1 ⟨hb1,v1,rfl,Ep⟩;obtain⟨x1,y1,rfl⟩:=Ep.form;have HO:=zH Ep;have HB:=zH hb1;go_wp2_with fail;go_loopw [6,8,27] (λnv _ i wr=>∃j:Nat,j<=k/\i=I (j:Int)/\Hid (Oi w.1.size wr nv (ls.take j).flatten)/\Hid (Bl w wr)) (λ_ _ i _=>k-(intOf i).toNat)
 case atStart=>exact⟨0,vZ _,rfl,HO,HB⟩
 obtain⟨j,hj,rfl,ho,je⟩:=hrel;by_cases gD:j=k
 ·subst gD
  rw[EA.o] at ho;go_wp2;go_returns
  exact⟨je.o,_,rfl,ho.o⟩
 have⟨zs,hz⟩:=GE.o j oM;have⟨v,hc,hr⟩:=(HH.o.eG je.o).2 j zs hz;have hle:=ES.o j zs hz;obtain⟨x2,y2,rfl,nH⟩:=hr;have RD:Hid (Rw P wr (sX x2 zs.length y2) zs):=⟨x2,y2,rfl,nH⟩;have j8:=je.o.size;have eI:(j:Int)<(k:Int):=oM;have BD:Hid ((ls.take j).flatten.length+zs.length<=16777216):=by rw[<- LE.o j];show _<=_;omega
 go_wp2_with (at_builtin;refine nu rfl (.tmp 31) (.tmp 32) rfl rfl rfl ho.o RD.o BD.o j8 ?_)
 intro v' w' ju fR uS;have HO':Hid (Oi w.1.size w' v' (ls.take (j+1)).flatten):=by rw[FT.o j zs hz];exact ju
 have As:=zH (je.o.grown fR j8 (λg e=>(ho.o.lt e).1));go_wp2;go_roundw
 case rel=>exact⟨j+1,oM,gN,HO',As⟩
 simp[intOf];omega
def vp{P:nK}(ls:List (lI))(b cap:Nat)(w:Wd)(h:Ls P w b ls)(hn:ls.length<=3)(hl:ls.flatten.length<=1048576):Cp 91 #[sX (sY b 0) ls.length cap] w λe w'=>Bl w w'/\∃u,e=rT u/\Oi w.1.size w' u ls.flatten:=by
 have K:=zH (ad0 ls b cap w h hn hl);generalize ls.flatten=zs at *;go_enter func91,ntmps91;go_wp2_with fail;refine K.o.mono ?_;rintro e w1 ⟨hb,u,rfl,ho⟩;obtain⟨x,y,rfl⟩:=ho.form;have HO:=zH ho;have HB:=zH hb;go_wp2;go_returns
 exact⟨HB.o,_,rfl,HO.o⟩
open Pl (Ar)
def Ls.one{P:nK}{w:Wd}{b:Nat}{v:Va}{zs:lI}(hc:w.cell? (Y b 0)=a_ v)(hb:b<w.1.size)(hr:Rw P w v zs):Ls P w b [zs]:=⟨hb,λi z hi=>by
 match i,hi with
 |0,hi=>cases hi;exact⟨v,hc,hr⟩⟩
def O2(B:Nat)(w:Wd)(u0 u1:Va)(a:Ar):Prop:=Oi B w u0 a.1/\Oi B w u1 a.2/\∀b,u0.ownBlock=a_ b->¬u1.ownBlock=a_ b
def FV{P:nK}(v0 v1:Va)(a:Ar)(w:Wd)(h:RA P w v0 v1 a)(gK:a.1.length<=1000)(gr:a.2.length<=1000):Cp 60 #[.agg #[v0,v1]] w λe w'=>Bl w w'/\∃u0 u1,e=rT (.agg #[u0,u1])/\O2 w.1.size w' u0 u1 a:=by
 obtain⟨⟨x,y,rfl⟩,x',y',rfl⟩:=h.eS;obtain⟨sh,da⟩:=a;simp only at gK gr h;have L0:Hid ([sh].flatten.length<=1048576):=by show _<=_;simp;omega
 have L1:Hid ([da].flatten.length<=1048576):=by show _<=_;simp;omega
 have H0:=zH h.1.rw;have H1:=zH h.2.rw;simp only;have⟨n0,E0⟩:=jN (sh.length);have⟨n1,E1⟩:=jN (da.length);rw[E0.o] at gK;rw[E1.o] at gr;simp only[E0.o] at H0 ⊢;simp only[E1.o] at H1 ⊢;have Uv:Hid (∀s W u,Oi s W u [sh].flatten->∃p q,u=sX p n0 q):=λs W u o=>by have⟨p,q,e⟩:=o.form;exact⟨p,q,by rw[e,<- E0.o];simp⟩
 have FO1:Hid (∀s W u,Oi s W u [da].flatten->∃p q,u=sX p n1 q):=λs W u o=>by have⟨p,q,e⟩:=o.form;exact⟨p,q,by rw[e,<- E1.o];simp⟩
 go_enter func60,ntmps60;go_wp2_with fail;generalize hW:ew (ew w _) _=W0;have yL:Hid (Bl w W0.drew):=by subst hW;exact(show Bl w _ from by go_grown)
 have b0:Hid (Bx W0.drew w.1.size #[sX x n0 y,sX x' n1 y'] 30):=by subst hW;exact Bx.al (.eK rfl) _
 have r0:Hid (Bx W0.drew (w.1.size+1) nN 30):=by subst hW;exact Bx.eK sI
 refine fT (S:=λw'=>cL w' w.1.size 0 (sX x n0 y)/\cL w' w.1.size 1 (sX x' n1 y')) kF ⟨b0.o.cf.1 0,b0.o.cf.1 1⟩ (λhS=>?_);refine tk 0 (pT w.1.size) rfl hS (λw h=>kF) ?_;refine tk 1 (sX x n0 y) rfl hS (λw h=>by obtain⟨h0,h1⟩:=h;go_simp) ?_;refine tk 4 (.pointer (sY w.1.size 1)) rfl hS (λw h=>kF) ?_;refine tk 5 (sX x' n1 y') rfl hS (λw h=>by obtain⟨h0,h1⟩:=h;go_simp) ?_;generalize W0.drew=W at *;have BW:=yL;have R0:=r0;have lw:=b0.o.lt;have lw2:=r0.o.lt;have SB:∀W',Bl W W'->cL W' w.1.size 0 (sX x n0 y)/\cL W' w.1.size 1 (sX x' n1 y'):=λW' k=>⟨(b0.o.below k).cf.1 0,(b0.o.below k).cf.1 1⟩;have SB2:∀W',Bl W W'->∀v v',((W'.setCell (Y (w.1.size+1) 0) v).setCell (Y (w.1.size+1) 1) v').cell? (Y w.1.size 0)=a_ (sX x n0 y)/\((W'.setCell (Y (w.1.size+1) 0) v).setCell (Y (w.1.size+1) 1) v').cell? (Y w.1.size 1)=a_ (sX x' n1 y'):=λW' k v v'=>⟨(((b0.o.below k).eC sI _).eC sI _).cf.1 0,(((b0.o.below k).eC sI _).eC sI _).cf.1 1⟩;have kX:∀(w1 w2:Wd)(s1 s2:Nat) {p0 p2:oA} {q0 q2:Nat},Hid (Oi s1 w1 (sX p0 n0 q0) [sh].flatten)->Hid (Oi s2 w2 (sX p2 n1 q2) [da].flatten)->Hid (Bl w1 w2)->Hid (Bl W w2)->(W.1.size<=s1/\w1.1.size<=s2/\W.1.size<=w1.1.size)->Bl w ((w2.setCell (Y (w.1.size+1) 0) (sX p0 n0 q0)).setCell (Y (w.1.size+1) 1) (sX p2 n1 q2))/\∃u0 u1,Ending.returned (.agg #[sX p0 n0 q0,sX p2 n1 q2])=rT (.agg #[u0,u1])/\O2 w.1.size ((w2.setCell (Y (w.1.size+1) 0) (sX p0 n0 q0)).setCell (Y (w.1.size+1) 1) (sX p2 n1 q2)) u0 u1 (sh,da):=λw1 w2 s1 s2 p0 p2 q0 q2 o1 o2 k1 k2 hs=>by
  have vT:=k2.o;have sz:=vT.size;have sw:=BW.o.size;have hB:Bl w w2:=bv vT BW.o;have Ry:Oi s1 w2 (sX p0 n0 q0) [sh].flatten:=o1.o.kp (.of k1.o);have m1:=Ry.ne (R0.o.below vT) dC;have m2:=o2.o.ne (R0.o.below vT) dC;have f1:[sh].flatten=sh:=sI;have f2:[da].flatten=da:=sI;rw[f1] at Ry;have o2':=o2.o;rw[f2] at o2';refine⟨gG,_,_,rfl,(Ry.kp eY).base oM,(o2'.kp eY).base (by have:=k1.o.size;omega),λb e1 e2=>?_⟩;have h1:=(o1.o.lt e1).2;have h2:=(o2.o.lt e2).1;omega
 refine gT 2 6 rfl rfl ?_ ?_
 rotate_left 1
 ·refine iL (sX (sY W.1.size 0) 1 1) (W.alloc (.cells #[sX x' n1 y'] 23)) rfl JQ (SB _ gG) ?_
  refine tv 2 (sX (sY (W.1.size+1) 0) 1 1) ((W.alloc (.cells #[sX x' n1 y'] 23)).alloc (.cells #[sX x n0 y] 23)) rfl rfl JQ (SB _ gG) ?_;refine tc 3 91 #[sX (sY (W.1.size+1) 0) 1 1] rfl rfl kF ((vp [sh] (W.1.size+1) 1 _ (Ls.one (v:=sX x n0 y) J5 sI (H0.o.kp (.of (bv (w:=w) (w1:=W) gG BW.o)))) sI L0.o).mono ?_);rintro e w1 ⟨hb1,u,rfl,o1⟩;obtain⟨p0,q0,rfl⟩:=Uv.o _ _ _ o1;have B1:Bl W w1:=bv hb1;refine .inl ⟨_,rfl,SB _ B1,?_⟩;have cY:cL w1 W.1.size 0 (sX x' n1 y'):=(hb1.cell (p:=(Y W.1.size 0)) J2).trans J5;have lY:W.1.size<w1.1.size:=by have:=hb1.size;simp at this;omega
  refine tc 7 91 #[sX (sY W.1.size 0) 1 1] rfl rfl kF ((vp [da] W.1.size 1 _ (Ls.one (v:=sX x' n1 y') cY lY (H1.o.kp (.of (bv B1 BW.o)))) sI L1.o).mono ?_);exact QZ
 refine iL (sX (sY W.1.size 0) 1 1) (W.alloc (.cells #[sX x n0 y] 23)) rfl JQ (SB _ gG) ?_;refine gT 3 6 rfl rfl ?_ ?_
 ·refine lC rfl kF ((vp [sh] W.1.size 1 _ (Ls.one (v:=sX x n0 y) J5 sI (H0.o.kp (.of (bv (w:=w) (w1:=W) gG BW.o)))) sI L0.o).mono ?_)
  rintro e w1 ⟨hb1,u,rfl,o1⟩;obtain⟨p0,q0,rfl⟩:=Uv.o _ _ _ o1;have B1:Bl W w1:=bv hb1;refine⟨_,rfl,SB _ B1,?_⟩;have s1:=B1.size;refine tv 6 (sX (sY w1.1.size 0) 1 1) (w1.alloc (.cells #[sX x' n1 y'] 23)) rfl rfl JQ (SB _ gG) ?_;refine tc 7 91 #[sX (sY w1.1.size 0) 1 1] rfl rfl kF ((vp [da] w1.1.size 1 _ (Ls.one (v:=sX x' n1 y') J5 sI (H1.o.kp (.of (bv (w:=w) (w1:=w1) gG (bv B1 BW.o))))) sI L1.o).mono ?_);exact QZ
 refine iL (sX (sY (W.1.size+1) 0) 1 1) ((W.alloc (.cells #[sX x n0 y] 23)).alloc (.cells #[sX x' n1 y'] 23)) rfl JQ (SB _ gG) ?_;refine tc 3 91 #[sX (sY W.1.size 0) 1 1] rfl rfl kF ((vp [sh] W.1.size 1 _ (Ls.one (v:=sX x n0 y) J5 J2 (H0.o.kp (.of (bv (w:=w) (w1:=W) gG BW.o)))) sI L0.o).mono ?_);rintro e w1 ⟨hb1,u,rfl,o1⟩;obtain⟨p0,q0,rfl⟩:=Uv.o _ _ _ o1;have B1:Bl W w1:=bv hb1;refine .inl ⟨_,rfl,SB _ B1,?_⟩;have cY:cL w1 (W.1.size+1) 0 (sX x' n1 y'):=(hb1.cell (p:=(Y (W.1.size+1) 0)) sI).trans J5;have lY:W.1.size+1<w1.1.size:=by have:=hb1.size;simp at this;omega
 refine tc 7 91 #[sX (sY (W.1.size+1) 0) 1 1] rfl rfl kF ((vp [da] (W.1.size+1) 1 _ (Ls.one (v:=sX x' n1 y') cY lY (H1.o.kp (.of (bv B1 BW.o)))) sI L1.o).mono ?_);exact QZ
def aj4.GP(h:ρ:=by
 go_wp2_with fail;refine(KE.o _ V1.o.2.2 ho).mono ?_;rintro e w3 ⟨hb,u0,u1,rfl,ra⟩;obtain⟨⟨x4,y4,rfl⟩,x5,y5,rfl⟩:=ra.eS;have V3:=zH (jA (V1.o.2.1.below hb) (jA (bv hb V1.o.2.2) (jA V1.o.2.1.lt ra)));obtain⟨c3,f3,z3⟩:=V3.o.1.all;go_wp2;refine eJ (by simp[results,results103,go_sem,c3];try rfl) rfl ?_;exact SP.put V3.o.2.2.2 V3.o.2.1 oM V3.o.2.2.1 _ _
 ):ρ:=h
def amy.Qa(h:ρ:=by
 have KE:Hid (∀W,Bl w W->Pl.fN op=b_->Cp 126 #[I op,.agg #[v0,v1]] W (SP W (Pl.red op a))):=λW k ho=>FJ op ho v0 v1 a (h.kp (.of k)) ha;obtain⟨⟨x0,y0,rfl⟩,x1,y1,rfl⟩:=h.eS;unfold Pl.reduce;generalize a.1.length=p0,a.2.length=p1 at *
 cases ho:Pl.fN op
 ·rw[ho] at KO
  rw[eB sI];go_enter func103,ntmps103;go_wp2_with (go_at_call 123;refine(KO.o _).mono ?_;rintro e w' ⟨rfl,rfl⟩)
  refine eJ (by simp[results,results103,go_sem];try rfl) rfl ?_;exact ny
 ·rw[ho] at KO
  rw[eD rfl];generalize Pl.red op a=r at *;go_enter func103,ntmps103;go_wp2_with (go_at_call 123;refine(KO.o _).mono ?_;rintro e w' ⟨rfl,rfl⟩)
  open aj4 in exact Ho
 ):ρ:=h
def abn{P:nK}(op:Int)(v0 v1:Va)(a:Ar)(w:Wd)(h:RA P w v0 v1 a)(ha:Pl.okB a=b_):Cp 103 #[I op,.agg #[v0,v1]] w (SP w (Pl.reduce op a)):=by
 have KO:=zH λW=>wW op W;open amy in exact QB
section
variable {w:Wd}{v:Va}
def Rr(P:nK)(w:Wd)(v:Va)(ds:List (lI)):Prop:=∃x y,v=sX x ds.length y/\∀(i:Nat) d,ds[i]? = a_ d->∃b o x' y',x=sY b o/\(P b/\b<w.1.size)/\w.cell? (Y b (o+i * 2+1))=a_ (sX x' d.length y')/\Rw P w (sX x' d.length y') d
def Rr.kp{P:nK}{w':Wd}{ds:List (lI)}(h:Rr P w v ds)(k:Kp P w w'):Rr P w' v ds:=by
 obtain⟨x,y,e,h⟩:=h;refine⟨x,y,e,λi d hd=>?_⟩;obtain⟨b,o,x',y',e',hb,hc,hr⟩:=h i d hd;exact⟨b,o,x',y',e',⟨hb.1,jL hb.2 k.sz⟩,(k.cell hb.1 hb.2).trans hc,hr.kp k⟩
def Oi.fI{B:Nat}{W w9:Wd}{zs:lI}(h:Oi B W v zs)(k:Below B w W)(g:W.grownBy w9 v.ownBlock)(hB:B<=W.1.size):Below B w w9:=qu (B:=B) (a:=w) k g hB (λb e=>(h.lt e).1)
def U0{P:nK}(s v:Va)(sh:lI)(ds:List (lI))(h:Rw P w s sh)(h':Rr P w v ds)(hl:sh.length<=1000)(hn:ds.length<=1000)(hd:ds.flatten.length<=1048576):Cp 128 #[s,v] w (SP w (if Pl.fy ((ds.length:Int)::sh)=b_ then .ok ((ds.length:Int)::sh,ds.flatten) else .error 6)):=by
 have H:=zH h;have H':=zH h';obtain⟨x,y,rfl,-⟩:=h;obtain⟨x',y',rfl,-⟩:=h';have⟨n,HN⟩:=jN (ds.length);have⟨m,HM⟩:=jN (sh.length);have FT:=zH (VK ds);have FL:=zH (XB ds);have FA:Hid (ds.take n=ds):=mR Jt;rw[HN.o] at hn H' ⊢;rw[HM.o] at hl H ⊢;have⟨r,HR⟩:∃r:Except Int Ar,Hid (r=if Pl.fy ((n:Int)::sh)=b_ then .ok ((n:Int)::sh,ds.flatten) else .error 6):=⟨_,rfl⟩;rw[<- HR.o];go_enter func128,ntmps128;go_wp2_with fail;generalize hW:ew w _=W0;have V0:=jV hW;clear hW;have sz:=V0.o.2.2;have R0:Hid (Oi (w.1.size+1) (W0.alloc (.cells #[] 3)) (sX (sY (w.1.size+1) 0) 0 0) []):=by have:=Oi.emp (B:=w.1.size+1) (w:=W0) oM;rw[sz] at this;exact this
 have B0:Hid (Below (w.1.size+1) W0 (W0.alloc (.cells #[] 3))):=nV (jD _ _) gG oM;clear sz;go_loopw [6,7] (λv i wr=>∃k:Nat,i=I (k:Int)/\k<=n/\Hid (Below (w.1.size+1) W0 wr)/\Hid (Oi (w.1.size+1) wr v (ds.take k).flatten)) (λ_ i _=>n-(intOf i).toNat)
 case atStart=>exact⟨0,rfl,vZ _,B0,R0⟩
 obtain⟨k,rfl,hk,hB,hO⟩:=hrel;have sz:=V0.o.2.2;have BW:=zH (V0.o.2.1.trans (hB.o.mono oM));have sW:=hB.o.size;rw[sz] at sW;clear R0 B0 sz;by_cases fK:k=n
 rotate_left 1
 ·have eI:(k:Int)<(n:Int):=oM
  have⟨d,Th⟩:=gF HN.o (show k<n by omega);have⟨x9,y9,e9,hx⟩:=H'.o.kp (.of BW.o);obtain⟨b,o,xk,yk,ex,hb,hc,hr⟩:=hx k d Th;simp only[s7] at e9;obtain⟨rfl,-,rfl⟩:=e9;subst ex;have An:=zH hr;have⟨xd,yd,e8⟩:=hO.o.form;have⟨q,HQ⟩:=jN ((ds.take k).flatten.length);rw[HQ.o] at e8;subst e8;have zb:=hb.2;have UB:Hid ((ds.take k).flatten.length+d.length<=16777216):=by
   have h1:=lQ List.length (FT.o k d Th);have h2:=FL.o (k+1);rw[hJ] at h1;show _<=_;omega
  clear hx hr hb;go_wp2_with (at_builtin;refine nu rfl (.tmp 15) (.tmp 20) rfl rfl rfl hO.o An.o UB.o sW ?_)
  intro v' w9 ho hg ha;have B9:=zH (hO.o.fI hB.o hg sW);rw[<- FT.o k d Th] at ho;have O9:=zH ho;clear ho hg ha hc;go_wp2;go_roundw
  case rel=>exact⟨k+1,gN,oM,B9,O9⟩
  simp[intOf];omega
 subst fK;rw[FA.o] at hO;have⟨xd,yd,e8⟩:=hO.o.form;have⟨q,HQ⟩:=jN (ds.flatten.length);rw[HQ.o] at e8;subst e8;have sW':=zH sW;obtain⟨c0,f0,z0⟩:=(V0.o.1.bn hB.o oM).all;have jo:=zH (V0.o.1.bn hB.o oM);have o1:=zH (Oi.one (B:=wr.1.size) (w:=wr) (jR _) (k:Int));have UB:Hid ([(k:Int)].length+sh.length<=16777216):=by show _<=_;rw[HM.o];simp;omega
 have RX:=zH (H.o.kp (w':=wr.alloc (.cells #[I (k:Int)] 3)) (.of (bv gG BW.o)));go_wp2_with (at_builtin;refine nu rfl (.tmp 24) (.tmp 25) rfl rfl rfl o1.o RX.o UB.o sI ?_)
 intro v' w9 ho hg ha;have kb:Bl wr w9:=o1.o.fI gG hg sI;obtain⟨xv,yv,ev⟩:=ho.form;have mi:v'=sX xv (m+1) yv:=by rw[ev];simp[HM.o]
 subst mi;have Un:=zH ho;have Fx:=zH kb;have OD:=zH (hO.o.kp (.of kb));clear ho hg ha ev kb c0 f0 z0;go_wp2_with fail;refine(Ax (P:=λ_=>True) _ _ ((k:Int)::sh) ds.flatten (Un.o.ri.rw.jG λ_ _ _=>trivial) rfl).l λw2 hb=>?_;have V2:=zH (jA ((jo.o.below Fx.o).below hb) (jA (bv hb (bv Fx.o BW.o)) (jA (Un.o.kp (.of hb)) (OD.o.kp (.of hb)))));clear hb Fx Un OD;obtain⟨c0,f0,z0⟩:=V2.o.1.all
 cases hf:Pl.fy ((k:Int)::sh)
 ·have hr:r=.error 6:=by rw[HR.o,hf];rfl
  subst hr;simp only[Ih,oJ];go_wp2;refine eJ (by simp[results,results128,go_sem,c0];try rfl) rfl ?_;have:=V2.o.2.1;exact pk
 have hr:r=.ok ((k:Int)::sh,ds.flatten):=by rw[HR.o,hf];rfl
 subst hr;simp only[kI];go_wp2;refine eJ (by simp[results,results128,go_sem,c0];try rfl) rfl ?_;obtain⟨b1,bl,o1,o2⟩:=V2.o;have m1:=o1.ne b1 dC;have m2:=o2.ne b1 dC;have:=sW'.o;exact⟨by go_grown,_,_,rfl,(show RA _ _ _ _ ((k:Int)::sh,ds.flatten) from ⟨o1.out eY oM,o2.out eY oM⟩)⟩
end
section
variable {n b y:Nat}{w:Wd}{x:oA}{v:Va}
namespace Pl
def Ny{m:Int}{row da:lI}(h:okB (m::row,da)=b_){k:Nat}(hn:m=n)(h0:1<=k)(hk:k<=n):okB ((k:Int)::row,da.take (k * eQ row))=b_/\mq ((k:Int)::row)=((k * eQ row:Nat):Int)/\k * eQ row<=da.length:=by
 have⟨n',e,hn1,hb,hf,hp,hl,hr⟩:=ke h;have:n'=n:=oM;subst this;have hv:=(ok_eq h).2.2.1;have hd:=(ok_eq h).2.2.2.2;have hle:k * eQ row<=n' * eQ row:=gv _ hk;have Sr:eR ((k:Int)::row)=((k * eQ row:Nat):Int):=by rw[oF];simp[eQ,kl hp]
 have LF:fy ((k:Int)::row)=b_:=by
  have h3:=(g_ (hf oM)).2.2.2.2.1;simp only[fy,gV,fO,fQ,fW,vJ];refine⟨⟨oM,by simp[jc];omega,h3⟩,by rw[Sr];simp only at hd;omega⟩
 refine⟨?_,by rw[(g_ LF).1,Sr],oM⟩;simp only[okB,LF,vI,fO,fQ];exact⟨by rw[Sr,jH,uA oM],Gp hv _⟩
end Pl
def kC(h:Bx w b #[sX x n y,v] 30):(Instr.loadAt 23 (pT b)).run prog w=.ok (sX x n y) w:=by
 exact ze
def jY(h:Bx w b #[v,sX x n y] 30):(Instr.loadAt 23 (.pointer (sY b 1))).run prog w=.ok (sX x n y) w:=by
 exact ze
def acQ{P:nK}(v0 v1:Va)(m:Int)(row da:lI)(h:RA P w v0 v1 (m::row,da))(ho:Pl.okB (m::row,da)=b_)(k:Nat)(gp:1<=k)(hk:(k:Int)<=m):Cp 127 #[.agg #[v0,v1],I (k:Int)] w λe w'=>Bl w w'/\∃u0 u1,e=rT (.agg #[u0,u1])/\RA (w.1.size<=·) w' u0 u1 ((k:Int)::row,da.take (k * Pl.eQ row)):=by
 obtain⟨n,rfl,hn,hb,hf,hp,hl,eN⟩:=Pl.ke ho;have⟨fF,Su,hle⟩:=Pl.Ny ho (n:=n) rfl gp oM;have⟨q,HQ⟩:=jN (k * Pl.eQ row);rw[HQ.o] at Su hle ⊢;have hi:=(Pl.g_ (Pl.ok_eq fF).1).2.2.2.2.1;have hd:=(Pl.ok_eq ho).2.2.2.2;obtain⟨⟨x0,y0,rfl⟩,x1,y1,rfl⟩:=h.eS;simp only at h hd;have kv:=h.2.cap.1;have H0:=zH h.1.tl;have H1:=zH (h.2.cut (l:=0) (h:=q) oM (by simpa using hle));simp only[fW,vK,mw] at H0 H1 kv ⊢;have KP:Hid (∀W v,Rw (λ_=>True) W v ((k:Int)::row)->Cp 48 #[v] W λe w'=>e=rT (I (q:Int))/\w'=W):=λW v hv=>by have:=wU v hv J2 hi;rw[Su] at this;exact this
 clear h ho hb hf hp fF Su hi hk;have⟨p0,E0⟩:=jN (row.length);obtain⟨p1,E1⟩:=jN (da.length);rw[E0.o] at H0 eN ⊢;rw[E1.o] at hle hd kv ⊢;rw[show p0+1-1=p0 by omega] at H0;have C0:=zH λW=>mO (w:=W) (x:=x0) (n:=p0+1) (y:=y0) (l:=1) oM;have C1:=zH λW=>DV (w:=W) (x:=x1) (n:=p1) (y:=y1) (h:=q) oM;rw[show p0+1-1=p0 by omega] at C0;simp only[mw] at C1;generalize fU x0 1 y0=z0,y0-1=k0,fU x1 0 y1=z1 at *;have E3:=zH H1.o.rw.len;generalize da.take q=dq at *;clear hl hn kv HQ;have UB:Hid ([(k:Int)].length+row.length<=16777216):=by show _<=_;rw[E0.o];simp;omega
 go_enter func127,ntmps127;go_upto_region 1 with fail
 generalize hW:ew (ew w _) _=W0;have V0:=jU hW;clear hW;have o1:=zH (Oi.one (B:=W0.1.size) (w:=W0) (jR _) (k:Int));have RX:=zH (H0.o.rw.kp (w':=W0.alloc (.cells #[I (k:Int)] 3)) (.of (bv gG V0.o.2.2.1)));obtain⟨c0,f0,l0⟩:=V0.o.1.all;clear f0;go_wp2_with (first | (refine iW rfl (ie rfl rfl rfl (C0.o _)) ?_) | (at_builtin;refine nu rfl (.tmp 7) (.tmp 10) rfl rfl rfl o1.o RX.o UB.o sI ?_))
 intro v' w9 ho hg ha;have kb:Bl W0 w9:=o1.o.fI gG hg sI;obtain⟨xv,yv,ev⟩:=ho.form;have mi:v'=sX xv (p0+1) yv:=by rw[ev];simp[E0.o]
 subst mi;have V1:=zH (jA (V0.o.1.below kb) (jA (V0.o.2.1.below kb) (jA (bv kb V0.o.2.2.1) ho)));have s0:=zH (show w.1.size<=W0.1.size by have:=V0.o.2.2.2;omega);clear ho hg ha ev kb c0 l0 o1 RX V0;go_wp2_with fail;refine fT (S:=λW=>Bx W w.1.size #[sX x0 (p0+1) y0,sX x1 p1 y1] 30) kF V1.o.1 (λhS=>?_);have V2:Hid (Bx w9.drew w.1.size #[sX x0 (p0+1) y0,sX x1 p1 y1] 30/\Bx w9.drew (w.1.size+1) nN 30/\Bl w w9.drew/\Oi W0.1.size w9.drew (sX xv (p0+1) yv) ((k:Int)::row)):=⟨V1.o.1,V1.o.2.1,V1.o.2.2.1.drew,V1.o.2.2.2⟩;clear V1;generalize w9.drew=W at *;refine tk 0 (sX xv (p0+1) yv) rfl hS (λ_ _=>kF) ?_;refine tk 1 (.pointer (sY w.1.size 1)) rfl hS (λ_ _=>kF) ?_;refine tk 2 _ rfl hS (λW' h=>fh _ _ rfl kF (jY h)) ?_;refine tk 3 (sX xv (p0+1) yv) rfl hS (λ_ _=>kF) ?_;refine tc 4 _ _ rfl rfl kF ((KP.o W _ (V2.o.2.2.2.ri.rw.jG λ_ _ _=>trivial)).mono ?_);rintro e W1 ⟨rfl,rfl⟩;refine .inl ⟨_,rfl,hS,?_⟩;refine tk 5 (sX z1 q y1) rfl hS (λ_ _=>AW (vx:=sX x1 p1 y1) (vu:=I (q:Int)) rfl kF kF (C1.o _)) ?_;refine tc 6 25 #[sX z1 q y1] rfl rfl kF ((lG _ dq _ (H1.o.rw.kp (.of V2.o.2.2.1)) (by rw[E3.o];omega)).mono ?_);rintro e w2 ⟨hb,u,rfl,o⟩;have⟨x3,y3,e3⟩:=o.form;rw[E3.o] at e3;subst e3;have T:=V2.o.1.below hb;have T2:=V2.o.2.1.below hb;refine .inl ⟨_,rfl,T,?_⟩;refine tk 7 (.agg #[sX xv (p0+1) yv,sX x3 q y3]) rfl T (λ_ _=>kF) ?_;refine ts 8 _ rfl rfl rfl (jf (pT (w.1.size+1)) (.agg #[sX xv (p0+1) yv,sX x3 q y3]) rfl kF kF (mU T2)) ((T.eC sI _).eC sI _) ?_;refine te ?_;obtain⟨c0,f0,l0⟩:=T2.all;have V3:=zH (jA T2 (jA (bv hb V2.o.2.2.1) (jA (V2.o.2.2.2.kp (.of hb)) o)));have sW:=zH V2.o.2.2.1.size;clear hS hb o T T2;go_simp;go_wp2;refine eJ (by simp[results,results127,go_sem,c0];try rfl) rfl ?_;obtain⟨b1,bl,o1,o2⟩:=V3.o;have m1:=o1.ne b1 dC;have m2:=o2.ne b1 dC;have:=s0.o;have:=sW.o;exact⟨gG,_,_,rfl,o1.out eY oM,o2.out eY oM⟩
end
section
variable {b s:Nat}{F:Int->Int->Except Int Int}{da:lI}
def Rl(N:Nat)(w:Wd)(v:Va)(ds:List (lI)):Prop:=∃xs,w.ownsRow N 30 2 v ds.length xs/\∀(i:Nat) d,ds[i]? = a_ d->∃x y,xs[i * 2+1]? = a_ (sX x d.length y)/\Rw (λb=>N<=b/\¬v.ownBlock=a_ b) w (sX x d.length y) d
section
variable {N:Nat} {w w':Wd} {v:Va} {ds:List (lI)}
def Rl.below(h:Rl N w v ds)(k:Bl w w'):Rl N w' v ds:=by
 obtain⟨xs,o,h⟩:=h;exact⟨xs,qi o (.of k),λi d hd=>let ⟨x,y,e,r⟩:=h i d hd;⟨x,y,e,r.kp (.of k)⟩⟩
def Rl.form(h:Rl N w v ds):∃x y,v=sX x ds.length y:=let ⟨_,o,_⟩:=h;rL o
def Rl.lt(h:Rl N w v ds)(e:v.ownBlock=a_ b):N<=b/\b<w.1.size:=let ⟨_,o,_⟩:=h;o.lt b e
def Rl.emp(hN:N<=w.1.size):Rl N (w.alloc (.cells #[] 30)) (sX (sY w.1.size 0) 0 0) []:=⟨[],zk w #[] 0 hN J8 rfl,λi d hd=>by cases hd⟩
def Rl.rr(h:Rl N w v ds):Rr (λ_=>True) w v ds:=by
 obtain⟨xs,o,h⟩:=h;obtain⟨x,y,rfl⟩:=rL o;refine⟨x,y,rfl,λi d hd=>?_⟩;have hi:i<ds.length:=(gQ.1 hd).1;obtain⟨g,rfl,_,hg,hc⟩:=yT o oM;have⟨x',y',e,r⟩:=h i d hd;exact⟨g,0,x',y',rfl,⟨trivial,hg⟩,by rw[gY,hc _ oM,e],r.jG λ_ _ _=>trivial⟩
def Rl.bx(h:Rl N w v ds){t:Nat}{cs:aV}(hb:Bx w b cs t)(ht:¬t=30):¬v.ownBlock=a_ b:=λe=>by
 obtain⟨xs,o,h⟩:=h;rcases o.2 with ⟨rfl,_⟩|⟨g,cap,cur,rfl,_,hg,_⟩
 ·simp[Value.ownBlock] at e
 obtain rfl:g=b:=by simpa[Value.ownBlock] using e
 unfold Bx at hb;rw[hg] at hb;injection hb with hb;injection hb with _ hb;exact ht hb.symm
def Ox{ops:Array Oper}{rest:List Oper}{o:Oper}{a:Act}{Q:Exit->Act->Wd->Prop}(hg:o.guard=c_)(s x:Operand)(gO:o.op=Op.call { callee:=Callee.builtin Builtin.append,args:=#[s,x],argTypes:=#[56,56] })(b cap:Nat)(hs:a.eval s=v)(hx:a.eval x=sX (sY b 0) 1 cap)
  (h:Rl N w v ds) (d:lI) {x0 x1:oA} {n0 y0 y1:Nat} (hb:∀o,w.cell? (Y b o)=#[Value.slice x0 n0 y0,sX x1 d.length y1][o]?) (hr:Rw (λb=>N<=b/\¬v.ownBlock=a_ b) w (sX x1 d.length y1) d) (kU:ds.length+1<=16777216) (hB:N<=w.1.size)
  (hK:∀v' w',Rl N w' v' (ds++[d])->w.grownBy w' v.ownBlock->wpList prog ops Q rest (a.put o.dst v') w'):wpList prog ops Q (o::rest) a w:=by
 obtain⟨xs,ow,hd⟩:=h;refine anG Q8 hg s x gO b cap hs hx ow #[sX x0 n0 y0,sX x1 d.length y1] rfl hb (by intro u hu;simp at hu;rcases hu with rfl | rfl <;> rfl) kU hB λv' w' o' g l=>hK v' w' ?_ g;have hl:=ow.1;have kk:Kp (λb=>(N<=b/\¬v.ownBlock=a_ b)) w w':=Kp.grown g λb e q=>q.2 e;have nx:∀b,b<w.1.size->¬v.ownBlock=a_ b->¬v'.ownBlock=a_ b:=λb hb ne e=>by
  rcases l with l|l
  ·exact ne (l ▸ e)
  rw[l] at e;injection e with e;omega
 have mv:∀{u:Va} {zs:lI},Rw (λb=>N<=b/\¬v.ownBlock=a_ b) w u zs->Rw (λb=>N<=b/\¬v'.ownBlock=a_ b) w' u zs:=λ{u zs} hu=>by
  obtain⟨a,k,e,h⟩:=hu;exact⟨a,k,e,h.imp id λ⟨b,o,e,hl,hc⟩=>⟨b,o,e,⟨⟨hl.1.1,nx b hl.2 hl.1.2⟩,jL hl.2 kk.sz⟩,λi x hx=>(kk.cell hl.1 hl.2).trans (hc i x hx)⟩⟩
 refine⟨_,by rw[hJ];exact o',λi e he=>?_⟩;by_cases hi:i<ds.length
 ·rw[pA hi] at he
  have⟨x,y,e1,r⟩:=hd i e he;exact⟨x,y,by rw[pA (by rw[hl];omega)];exact e1,mv r⟩
 have:i=ds.length:=by
  have:=(gQ.1 he).1;simp at this
  omega
 subst this;rw[oI (jR _),qt] at he;injection he with he;subst he;exact⟨x1,y1,by rw[oI (by rw[hl];omega),hl,show ds.length * 2+1-ds.length * 2=1 by omega];rfl,mv hr⟩
end
namespace Pl
def uJ(op:Int)(a:Ar):Except Int Ar:=match a.1 with
 |[]=>.ok a
 |m::row=>match eU (λk=>fold (two op) (a.2.take ((k+1) * eQ row)) (eQ row) (k+1)) (eA m.toNat) with
  |.error c=>.error c
  |.ok ds=>.ok (a.1,ds.flatten)
def scan(op:Int)(a:Ar):Except Int Ar:=if fN op=b_ then uJ op a else .error 9
def ZN:∀{r:Nat}{acc z:lI},acc.length=s->r * s<=da.length->fd F da s r acc=.ok z->z.length=s
 |0,acc,z,h,hr,e=>by injection e with e;rw[<- e];exact h
 |r+1,acc,z,h,hr,e=>by
  simp only[fd] at e
  cases hm:eU (jK F) ((rowAt da s r).zip acc) with
  |error c=>rw[hm] at e;cases e
  |ok acc' =>
   rw[hm] at e;refine ZN ?_ (by rw[iu] at hr;omega) e;rw[qK hm,zu,rK hr,h];simp
def WD{z:lI}{n:Nat}(h0:1<=n)(h:n * s<=da.length)(e:fold F da s n=.ok z):z.length=s:=by
 have e1:n=(n-1)+1:=oM;refine ZN (rK (by rw[<- e1];exact h)) ?_ e;rw[e1,iu] at h;omega
def ub:∀{ds:List (lI)},(∀d∈ds,d.length=s)->ds.flatten.length=ds.length * s
 |[],h=>sI
 |d::ds,h=>by
  rw[DK,hJ,ub λe he=>h e (mx _ he),h d sI,fW,iu,zj]
end Pl
end
def Pl.Hu{op c:Int}{da:lI}{s:Nat}:∀{r:Nat}{acc:lI},Pl.fd (Pl.two op) da s r acc=.error c->¬c=0
 |0,acc,e=>by cases e
 |r+1,acc,e=>by
  simp only[Pl.fd] at e
  cases hm:Pl.eU (Pl.jK (Pl.two op)) ((Pl.rowAt da s r).zip acc) with
  |error c'=>rw[hm] at e;injection e with e;subst e;exact Pl.C' hm
  |ok acc'=>rw[hm] at e;exact Pl.Hu e
def SP.open{w w':Wd}{r:Except Int Ar}{e:Ending}(h:SP w r e w'):∃x0 l0 y0 x1 l1 y1,e=rT (.tuple #[.agg #[sX x0 l0 y0,sX x1 l1 y1],I (f_ r).1])/\Hid (RA (w.1.size<=·) w' (sX x0 l0 y0) (sX x1 l1 y1) (f_ r).2)/\Bl w w':=by
 exact Zy
def RA.fl{P:nK}{w:Wd}{v0 v1:Va}{a:Ar}(h:RA P w v0 v1 a):∃x0 l0 y0 x1 l1 y1,v0=sX x0 l0 y0/\v1=sX x1 l1 y1:=by
 obtain⟨⟨x,y,rfl⟩,x',y',rfl⟩:=h.eS;exact⟨_,_,_,_,_,_,rfl,rfl⟩
def aj3.GP(h:ρ:=by
 clear hb V0 f0;go_wp2_with fail;refine(KE.o _ V1.o.2.2).mono ?_;rintro e w3 ⟨hb,u0,u1,rfl,ra⟩;obtain⟨⟨x4,y4,rfl⟩,x5,y5,rfl⟩:=ra.eS;have V3:=zH (jA (V1.o.2.1.below hb) (jA (bv hb V1.o.2.2) (jA V1.o.2.1.lt ra)));obtain⟨c3,f3,z3⟩:=V3.o.1.all;clear hb ra V1 c0 z0;go_wp2;refine eJ (by simp[results,results104,go_sem,c3];try rfl) rfl ?_;exact SP.put V3.o.2.2.2 V3.o.2.1 oM V3.o.2.2.1 _ _
 ):ρ:=h
def amx.Qa(h:ρ:=by
 have KE:Hid (∀W,Bl w W->Pl.fN op=b_->Cp 126 #[I op,.agg #[v0,v1]] W (SP W (Pl.red op a))):=λW k ho=>FJ op ho v0 v1 a (h.kp (.of k)) ha;have H:=zH h;have HA:=zH ha;obtain⟨⟨x0,y0,rfl⟩,x1,y1,rfl⟩:=h.eS;clear h ha;unfold Pl.scan;obtain⟨sh,da⟩:=a;simp only at H KA KE ⊢;obtain⟨p1,E1⟩:=jN (da.length);rw[E1.o] at H KA KE ⊢
 cases ho:Pl.fN op
 ·rw[ho] at KO
  rw[eB sI];generalize sh.length=p0 at *;clear KE KA;go_enter func104,ntmps104;go_wp2_with (go_at_call 123;refine(KO.o _).mono ?_;rintro e w' ⟨rfl,rfl⟩)
  refine eJ (by simp[results,results104,go_sem];try rfl) rfl ?_;exact ny
 rw[ho] at KO;rw[eD rfl];have HO:=zH ho;clear ho
 cases sh with
 |nil =>
  replace KE:=zH λW k=>KE.o W k HO.o;have⟨r,HR⟩:∃r,r=Pl.uJ op ([],da):=⟨_,rfl⟩;rw[show Pl.red op ([],da)=Pl.uJ op ([],da) from rfl,<- HR] at KE;rw[<- HR];clear HR;simp only[iA] at H KA KE ⊢;go_enter func104,ntmps104;go_wp2_with (go_at_call 123;refine(KO.o _).mono ?_;rintro e w' ⟨rfl,rfl⟩)
  open aj3 in exact Ho
 |cons m row =>
  clear KE;obtain⟨n,rfl,hn,hb,hf,hp,hl,eN⟩:=Pl.ke HA.o;have⟨s,HS⟩:=jN (Pl.eQ row);have⟨F,HF⟩:∃F:Nat->Except Int (lI),Hid (F=λk=>Pl.fold (Pl.two op) (da.take ((k+1) * s)) s (k+1)):=⟨_,rfl⟩;have⟨r,HR⟩:∃r,Hid (r=Pl.uJ op ((n:Int)::row,da)):=⟨_,rfl⟩;rw[<- HR.o];have eP:Hid (r=match Pl.eU F (eA n) with
   |.error c=>.error c
   |.ok ds=>.ok ((n:Int)::row,ds.flatten)):=by show _=_;rw[HR.o,HF.o,<- HS.o];rfl
  have hd:=(Pl.ok_eq HA.o).2.2.2.2;simp only at hd;rw[HS.o] at hl;rw[E1.o] at hl hd;have KF:Hid (∀W k,Bl w W->k<n->Cp 127 #[.agg #[sX x0 (row.length+1) y0,sX x1 p1 y1],I ((k:Int)+1)] W λe w'=>Bl W w'/\∃u0 u1,e=rT (.agg #[u0,u1])/\RA (W.1.size<=·) w' u0 u1 (((k+1:Nat):Int)::row,da.take ((k+1) * s))):=λW k kb hk=>by
   rw[<- HS.o];exact acQ _ _ (n:Int) row da (H.o.kp (.of kb)) HA.o (k+1) oM oM
  have KR:Hid (∀W k u0 u1 {Q:nK},k<n->RA Q W u0 u1 (((k+1:Nat):Int)::row,da.take ((k+1) * s))->Cp 126 #[I op,.agg #[u0,u1]] W (SP W (Pl.wS row (F k)))):=λW k u0 u1 {Q} hk Eo=>by
   have h1:=(Pl.Ny HA.o (n:=n) (k:=k+1) rfl oM oM).1;rw[HS.o] at h1;have h2:=FJ op HO.o u0 u1 _ Eo h1;rw[show Pl.red op (((k+1:Nat):Int)::row,da.take ((k+1) * s))=Pl.wS row (F k) by
    simp only[Pl.red];rw[eB oM,HS.o,HF.o];rfl] at h2
   exact h2
  have FL:Hid (∀k z,k<n->F k=.ok z->z.length=s):=λk z hk e=>by
   rw[HF.o] at e;refine WD oM ?_ e;have:(k+1) * s<=n * s:=gv _ hk;have:=E1.o;rw[jH];omega
  have FE:Hid (∀k c,F k=.error c->¬c=0):=λk c e=>by
   rw[HF.o] at e;exact Pl.Hu e
  have KS:Hid (∀W v v' ds {Q:nK},Rw Q W v row->Rr Q W v' ds->ds.length=n->(∀d∈ds,d.length=s)->Cp 128 #[v,v'] W (SP W (.ok ((n:Int)::row,ds.flatten)))):=λW v v' ds {Q} h1 h2 h3 h4=>by
   have h5:=Pl.ub h4;rw[h3] at h5;have h6:=U0 v v' row ds h1 h2 oM oM oM;rw[h3,eD (Pl.ok_eq HA.o).1] at h6;exact h6
  have H0:=zH H.o.1.tl;obtain⟨b,o,rfl,uY,jd⟩:=H.o.1.rw.at (i:=0) rfl;rw[iz] at jd;clear hf hp hb hl HR HF hd;have⟨p0,E0⟩:=jN (row.length);simp only[fW] at H KA H0 ⊢;rw[E0.o] at H KA KF H0 eN ⊢;rw[show p0+1-1=p0 by omega] at H0;have C0:=zH λW=>mO (w:=W) (x:=sY b o) (n:=p0+1) (y:=y0) (l:=1) oM;rw[show p0+1-1=p0 by omega] at C0;generalize fU (sY b o) 1 y0=z9,y0-1=k9 at *;go_enter func104,ntmps104;go_wp2_with (go_at_call 123;refine(KO.o _).mono ?_;rintro e w' ⟨rfl,rfl⟩)
  generalize hW:ew (ew w _) _=W0;have V0:=jU hW;clear hW;refine(KA.o _ V0.o.2.2.1).l λw1 hb=>?_;have J:Hid (∀W,Bl w1 W->Bx W w.1.size #[sX (sY b o) (p0+1) y0,sX x1 p1 y1] 30/\Bx W (w.1.size+1) nN 30/\Bl w W/\w.1.size+1<w1.1.size):=λW k=>⟨(V0.o.1.below hb).below k,(V0.o.2.1.below hb).below k,bv k (bv hb V0.o.2.2.1),(V0.o.2.1.below hb).lt⟩;have⟨S0,S1,S2,hz⟩:=J.o w1 (jD _ _);obtain⟨c0,f0,z0⟩:=S0.all;clear hb V0 f0 S0 S1 S2 KA KO;go_wp2_with fail;clear c0 z0;go_loopw [6,7,8,9] (λv i _ _ wr=>∃(k:Nat)(ds:List (lI)),i=I ((k:Int)+1)/\k<=n/\Hid (ds.length=k/\(∀d∈ds,d.length=s)/\Pl.eU F (eA n)=gM F (eA n) k ds)/\Hid (Bl w1 wr)/\Hid (Rl w1.1.size wr v ds)) (λ_ i _ _ _=>n+1-(intOf i).toNat)
  case atStart=>exact⟨0,[],rfl,vZ _,⟨rfl,by simp,(p_ _ _).symm⟩,(show Bl w1 _ from by go_grown),Rl.emp (jR _)⟩
  obtain⟨k,ds,rfl,hk,hE,hB,hU⟩:=hrel;obtain⟨xd,yd,rfl⟩:=hU.o.form;have⟨S0,S1,S2,_⟩:=J.o wr hB.o;obtain⟨c0,f0,z0⟩:=S0.all;obtain⟨c1,f1,z1⟩:=S1.all;have kG:=zH (jA S0 (jA S1 S2));have jS:=(S2.cell (p:=(Y b o)) uY).trans jd;have zb:b<wr.1.size:=jL uY S2.size;clear f0 S0 S1 S2;by_cases fK:k=n
  ·subst fK
   have hr:r=.ok ((k:Int)::row,ds.flatten):=by rw[eP.o,hE.o.2.2,qf _ _ _ _ sI]
   subst hr;go_wp2_with (refine iW rfl (ie rfl rfl rfl (C0.o _)) ?_)
   refine(KS.o wr _ _ ds ((H0.o.rw.kp (.of kG.o.2.2)).jG λ_ _ _=>trivial) hU.o.rr hE.o.1 hE.o.2.1).mono ?_;rintro e w3 jQ;obtain⟨x4,l4,y4,x5,l5,y5,rfl,gP,hb⟩:=jQ.open;have V3:=zH (jA (kG.o.2.1.below hb) (jA (bv hb kG.o.2.2) kG.o.2.1.lt));obtain⟨c3,f3,z3⟩:=V3.o.1.all;clear hb jQ c0 z0 c1 z1 f1;go_wp2;refine eJ (by simp[results,results104,go_sem,c3];try rfl) rfl ?_;exact SP.put (r:=.ok _) gP.o V3.o.2.1 oM V3.o.2.2 _ _
  have eI:(k:Int)+1<=(n:Int):=oM;have uF:k<n:=oM;have eL:=zH (qc F (eA n) k ds k (by rw[uw uF]));have K1:=zH (KF.o wr k kG.o.2.2 uF);have K2:=zH λW u0 u1 {Q:nK} (h:RA Q W u0 u1 _)=>KR.o W k u0 u1 uF h;have Fy:=zH λz=>FL.o k z uF;have FE1:=zH λc=>FE.o k c;generalize F k=q at *;clear fK;go_wp2_with fail;refine K1.o.mono ?_;rintro e w2 ⟨hb,u0,u1,rfl,ra⟩;obtain⟨x4,l4,y4,x5,l5,y5,rfl,rfl⟩:=ra.fl;have tW:=zH ra;have V2:=zH (jA (kG.o.2.1.below hb) (jA (bv hb kG.o.2.2) (jA (bv hb hB.o) (hU.o.below hb))));have s2:=hb.size;clear hb ra c0 z0 c1 z1 f1 K1;go_wp2_with fail;refine(K2.o w2 _ _ tW.o).mono ?_;rintro e w3 jQ;obtain⟨x6,l6,y6,x7,l7,y7,rfl,gP,hb⟩:=jQ.open;have V3:=zH (jA (V2.o.1.below hb) (jA (bv hb V2.o.2.1) (jA (bv hb V2.o.2.2.1) (V2.o.2.2.2.below hb))));have s3:=hb.size;obtain⟨c1,f1,z1⟩:=V3.o.1.all;clear hb jQ V2
  cases q with
  |error c =>
   have hc:(c != 0)=b_:=by rw[iH];exact FE1.o c rfl
   have hr:r=.error c:=by rw[eP.o,hE.o.2.2,eL.o]
   subst hr;simp only[Pl.wS,f_];go_wp2;refine eJ (by simp[results,results104,go_sem, *];try rfl) rfl ?_;have:=V3.o.2.1;exact ny
  |ok z =>
   have j_:Hid ((ds++[z]).length=k+1/\(∀d∈ds++[z],d.length=s)/\Pl.eU F (eA n)=gM F (eA n) (k+1) (ds++[z])):=⟨by simp[hE.o.1],λd hd=>by
    rcases zq.1 hd with hd|hd
    ·exact hE.o.2.1 d hd
    rw[List.mem_singleton.1 hd];exact Fy.o z rfl,by rw[hE.o.2.2,eL.o]⟩
   simp only[Pl.wS,f_] at gP ⊢;obtain rfl:l7=z.length:=gP.o.2.rw.len.symm;clear eL Fy FE1 c1 f1 z1;have UB:=zH (show ds.length+1<=16777216 by have:=hE.o.1;omega);have sw:=hB.o.size;have RZ:Hid (Rw (λb=>w1.1.size<=b/\¬(Value.slice xd ds.length yd).ownBlock=a_ b) w3 (sX x7 z.length y7) z):=gP.o.2.rw.jG λb h _=>⟨oM,λe=>by have:=(hU.o.lt e).2;omega⟩;have WL:Hid (∀W,Bl w3 W->w1.1.size<=W.1.size):=λW k=>by have:=k.size;omega
   have CC:Hid (∀o',((w3.alloc (.cells #[sX x6 l6 y6,sX x7 z.length y7] 30)).alloc (.cells #[sX x6 l6 y6,sX x7 z.length y7] 30)).cell? (Y (w3.1.size+1) o')=#[Value.slice x6 l6 y6,sX x7 z.length y7][o']?):=(Bx.eK sI).cf.1;clear s2 s3 sw;go_wp2_with (at_builtin;refine Ox rfl (.tmp 49) (.tmp 51) rfl (w3.1.size+1) 1 rfl rfl (V3.o.2.2.2.below gG) z CC.o (RZ.o.kp (.of gG)) UB.o (WL.o _ gG) ?_)
   intro v' w9 uQ hg;have B9:Hid (Bl w1 w9):=qu (B:=w1.1.size) (a:=w1) (bv (w:=w1) gG V3.o.2.2.1) hg (WL.o _ gG) (λb e=>(hU.o.lt e).1);have L9:=zH uQ;clear uQ hg CC;go_wp2;go_roundw
   case measure=>simp[intOf];omega
   repeat apply Exists.intro
   exact⟨⟨k+1,_,gN,oM,j_,B9,L9⟩,rfl⟩
 ):ρ:=h
def ab6{P:nK}(op:Int)(v0 v1:Va)(a:Ar)(w:Wd)(h:RA P w v0 v1 a)(ha:Pl.okB a=b_):Cp 104 #[I op,.agg #[v0,v1]] w (SP w (Pl.scan op a)):=by
 have KO:=zH λW=>wW op W;open amx in exact QB
section
variable {u v:Va}{oi o:Oper}
structure MS(N:Nat)(B W:Wd)(xs ys:lI)(cp ap:Option Va)(em bo:Option Nat):Prop where
 bl:Below N B W
 sz:N<=W.1.size
 h1:∀v,cp=a_ v->Oi N W v xs
 h2:∀v,ap=a_ v->Oi N W v (xs++ys)
 h3:∀b,em=a_ b->Oi N W (sX (sY b 0) 0 0) []/\b<W.1.size
 h4:∀b,bo=a_ b->Bx W b nN 30/\N<=b
 n1:∀v b,cp=a_ v->em=a_ b->¬v.ownBlock=a_ b
 n2:∀v b,ap=a_ v->em=a_ b->¬v.ownBlock=a_ b
section
variable {N:Nat} {B W W':Wd} {xs ys:lI} {cp ap:Option Va} {em bo:Option Nat}
def MS.start(h:Below N B W)(hs:N<=W.1.size):MS N B W xs ys c_ c_ c_ c_:=⟨h,hs,sI,sI,sI,sI,sI,sI⟩
def MS.below(h:MS N B W xs ys cp ap em bo)(k:Bl W W'):MS N B W' xs ys cp ap em bo :=
 ⟨nV h.bl k h.sz,jT h.sz k.size,λv e=>(h.h1 v e).kp (.of k),λv e=>(h.h2 v e).kp (.of k),λb e=>⟨(h.h3 b e).1.kp (.of k),jL (h.h3 b e).2 k.size⟩,λb e=>⟨(h.h4 b e).1.below k,(h.h4 b e).2⟩,h.n1,h.n2⟩
def MS.copy(h:MS N B W xs ys c_ c_ em bo)(k:Bl W W')(o:Oi W.1.size W' u xs):MS N B W' xs ys (a_ u) c_ em bo :=
 have g:=h.below k;⟨g.bl,g.sz,λv e=>by cases e;exact o.base h.sz,g.h2,g.h3,g.h4,λv b e e' q=>by cases e;have:=(o.lt q).1;have:=(h.h3 b e').2;omega,g.n2⟩
def MS.app{v':Va}(h:MS N B W xs ys (a_ v) c_ em bo)(hg:W.grownBy W' v.ownBlock)(o:Oi N W' v' (xs++ys))(ha:mY W v v'):MS N B W' xs ys c_ (a_ v') em bo:=by
 have ov:=h.h1 v rfl;have kk:Kp (λb=>¬v.ownBlock=a_ b) W W':=Kp.grown hg λb e q=>q e;refine⟨ov.fI h.bl hg h.sz,jT h.sz kk.sz,sI,λu e=>by cases e;exact o,λb e=>⟨(h.h3 b e).1.kp (kk.xw λc hc=>?_),jL (h.h3 b e).2 kk.sz⟩,λb e=>⟨(h.h4 b e).1.kp kk (ov.ne (h.h4 b e).1 dC),(h.h4 b e).2⟩,sI,λu b e e' q=>?_⟩
 ·have:b=c:=by simpa[Value.ownBlock] using hc
  subst this;exact h.n1 v b rfl e
 cases e
 rcases ha with ha|ha
 ·exact h.n1 v b rfl e' (ha ▸ q)
 rw[ha] at q;injection q with q;have:=(h.h3 b e').2;omega
def MS.emp(h:MS N B W xs ys cp ap c_ bo):MS N B (W.alloc (.cells #[] 3)) xs ys cp ap (a_ W.1.size) bo :=
 have g:=h.below (W':=W.alloc (.cells #[] 3)) gG;⟨g.bl,g.sz,g.h1,g.h2,λb e=>by cases e;exact⟨Oi.emp h.sz,sI⟩,g.h4,λv b e e' q=>by cases e';have:=((h.h1 v e).lt q).2;omega,λv b e e' q=>by cases e';have:=((h.h2 v e).lt q).2;omega⟩
def MS.box(h:MS N B W xs ys cp ap em c_):MS N B (W.alloc (.cells nN 30)) xs ys cp ap em (a_ W.1.size) :=
 have g:=h.below (W':=W.alloc (.cells nN 30)) gG;⟨g.bl,g.sz,g.h1,g.h2,g.h3,λb e=>by cases e;exact⟨.eK rfl,h.sz⟩,g.n1,g.n2⟩
def MS.fin{b q:Nat}(h:MS N B W xs ys cp (a_ v) (a_ b) (a_ q)):Ou N ((W.setCell (Y q 0) v).setCell (Y q 1) (sX (sY b 0) 0 0)) q v (sX (sY b 0) 0 0) (xs++ys) []/\Below N B ((W.setCell (Y q 0) v).setCell (Y q 1) (sX (sY b 0) 0 0))/\Bx ((W.setCell (Y q 0) v).setCell (Y q 1) (sX (sY b 0) 0 0)) q #[v,sX (sY b 0) 0 0] 30:=by
 have⟨bq,hq⟩:=h.h4 q rfl;have o1:=h.h2 v rfl;have o2:=(h.h3 b rfl).1;have m1:=o1.ne bq dC;have m2:=o2.ne bq dC;exact⟨⟨(bq.set 0 _).set 1 _,o1.kp eY,o2.kp eY,λc e e'=>h.n2 v b rfl rfl (by rw[show b=c from by simpa[Value.ownBlock] using e'];exact e),hq⟩,(h.bl.setCell hq _).setCell hq _,(bq.set 0 _).set 1 _⟩
end
section
variable {ops:Array Oper} {Q:Exit->Act->Wd->Prop} {S:Wd->Prop} {fuel:Nat} {listed:Array Bool} {a:Act} {w:Wd}
def BP(i j k:Nat){oj ok:Oper}(ei:ops[i]? = a_ oi)(ej:ops[j]? = a_ oj)(ek:ops[k]? = a_ ok)(hi:Sp ops Q S fuel listed i oi a w)(hj:Sp ops Q S fuel listed j oj a w)(hk:Sp ops Q S fuel listed k ok a w)(hr:Region.ready .any ops listed=[i,j,k]:=by kernel_rfl):wpAnyH prog .any ops Q S (fuel+1) listed a w :=
 A5 hr sI (vF ei hi (vF ej hj (vF ek hk A4)))
def iO(i:Nat)(ei:ops[i]? = a_ oi)(hi:Sp ops Q S fuel listed i oi a w)(hr:Region.ready .any ops listed=[i]:=by kernel_rfl):wpAnyH prog .any ops Q S (fuel+1) listed a w :=
 A5 hr sI (vF ei hi A4)
def zM{P:nK}{B:Nat}{zs ys:lI}{i:Nat}(hg:o.guard=c_)(s x:Operand)(gO:o.op=Op.call { callee:=Callee.builtin Builtin.append,args:=#[s,x],argTypes:=#[23,23] })(hs:a.eval s=v)(hx:a.eval x=u)(h:Oi B w v zs)(hu:Rw P w u ys)(kU:zs.length+ys.length<=16777216)(hB:B<=w.1.size)
  (hK:∀v' w',Oi B w' v' (zs++ys)->w.grownBy w' v.ownBlock->mY w v v'->S w'/\wpAnyH prog .any ops Q S fuel (listed.setIfInBounds i b_) (a.put o.dst v') w'):Sp ops Q S fuel listed i o a w:=λK' sh=>by
 refine AI hg s x gO hs hx h hu kU hB λv' w' ho hg ha=>?_;have⟨h1,h2⟩:=hK v' w' ho hg ha;exact sh.o _ _ h1 λ_=>h2
def Q7(ho:o.op=Op.buildSlice 23 0 #[]):(execOp a.eval o).run prog w=.ok (.value (sX (sY w.1.size 0) 0 0)) (w.alloc (.cells #[] 3)):=by
 have:(Instr.buildSlice 23 0 #[]).run prog w=.ok (sX (sY w.1.size 0) 0 0) (w.alloc (.cells #[] 3)):=by go_simp
 simp[execOp,ho,this,Result.andThen]
end
end
namespace Pl
def outer(op:Int)(a b:Ar):Except Int Ar:=if fN op=b_ then (if fy (a.1++b.1)=b_ then wS (a.1++b.1) (eU (λi=>two op (a.2.getD (i / b.2.length) 0) (b.2.getD (i % b.2.length) 0)) (eA (a.2.length * b.2.length))) else .error 6) else .error 9
end Pl
def Fl(f b:Bool):Prop:=f=b
def aiY.X'(h:ρ:=by
 have DB:=zH (gx HS.o.2 nq);have⟨d2,g2,l2⟩:=(HS.o.1.below (gx (jD _ _) nq)).all;go_wp2;refine eJ Jd rfl ?_;have:=DB.o;exact SP.err gG
 ):ρ:=h
def aiX.X_(h:ρ:=by
 refine tk 4 _ rfl hS (λW h=>fh _ _ rfl kF (kC h.2)) ?_;have M:MS B.1.size B B.drew sa sb c_ c_ c_ c_:=MS.start (show Bl B _ from by go_grown) (jR _);generalize B.drew=W at *
 iterate 5
  all_goals first
   |(have _g:MS _ _ _ _ _ c_ c_ c_ c_:=M;refine BP 2 6 11 rfl rfl rfl ?_ ?_ ?_)
   |(have _g:MS _ _ _ _ _ c_ c_ (a_ _) c_:=M;refine gT 2 11 rfl rfl ?_ ?_)
   |(have _g:MS _ _ _ _ _ c_ c_ c_ (a_ _):=M;refine gT 2 6 rfl rfl ?_ ?_)
   |(have _g:MS _ _ _ _ _ c_ c_ (a_ _) (a_ _):=M;refine iO 2 rfl ?_)
   |(have _g:MS _ _ _ _ _ (a_ _) c_ c_ c_:=M;refine BP 5 6 11 rfl rfl rfl ?_ ?_ ?_)
   |(have _g:MS _ _ _ _ _ (a_ _) c_ (a_ _) c_:=M;refine gT 5 11 rfl rfl ?_ ?_)
   |(have _g:MS _ _ _ _ _ (a_ _) c_ c_ (a_ _):=M;refine gT 5 6 rfl rfl ?_ ?_)
   |(have _g:MS _ _ _ _ _ (a_ _) c_ (a_ _) (a_ _):=M;refine iO 5 rfl ?_)
   |(have _g:MS _ _ _ _ _ c_ (a_ _) c_ c_:=M;refine gT 6 11 rfl rfl ?_ ?_)
   |(have _g:MS _ _ _ _ _ c_ (a_ _) c_ (a_ _):=M;refine iO 6 rfl ?_)
   |(have _g:=MD;refine iO 11 rfl ?_)
   |(have _g:MS _ _ _ _ _ c_ (a_ _) (a_ _) c_:=M;refine gT 7 11 rfl rfl ?_ ?_)
   |(have _g:MS _ _ _ _ _ c_ (a_ _) (a_ _) (a_ _):=M;refine iO 7 rfl ?_)
  all_goals first
   |(refine zM rfl (.tmp 31) (.tmp 33) rfl kF kF (M.h1 _ rfl) (RY.o _ M.bl) UB.o M.sz ?_
     intro v' W ho hg ha;have⟨ax,ay,e4⟩:=ho.form;rw[EA.o] at e4;subst e4;replace M:=M.app hg ho ha;refine⟨SS.o _ M.bl,?_⟩)
   |(refine iL (sX (a_ ⟨W.1.size,0,c_⟩) 0 0) (W.alloc (.cells #[] 3)) rfl (Q7 rfl) (SS.o _ M.emp.bl) ?_
     replace M:=M.emp;generalize W.alloc _=Wn at M ⊢;generalize W.1.size=b6 at M ⊢;obtain⟨W,rfl⟩:∃Y,Y=Wn:=⟨_,rfl⟩)
   |(refine iL (.pointer (a_ ⟨W.1.size,0,c_⟩)) (W.alloc (.cells nN 30)) rfl (xO _ rfl (BJ _)) (SS.o _ M.box.bl) ?_
     replace M:=M.box;generalize W.alloc _=Wn at M ⊢;generalize W.1.size=fP at M ⊢;obtain⟨W,rfl⟩:∃Y,Y=Wn:=⟨_,rfl⟩)
   |(refine lC rfl kF ((KC.o _ M.bl).mono ?_)
     rintro e W ⟨hb,u,rfl,o⟩;have⟨cx,cy,e2⟩:=o.form;rw[EX.o] at e2;subst e2;replace M:=M.copy hb o;refine⟨_,rfl,SS.o _ M.bl,?_⟩)
   |(refine lC rfl kF ((KM.o _ ax ay b6 ((M.h2 _ rfl).ri.rw.jG λ_ _ _=>trivial)).mono ?_)
     rintro e W ⟨hb,rfl⟩;replace M:=M.below hb;have MD:=True.intro;refine⟨_,rfl,SS.o _ M.bl,?_⟩;refine tk 8 (.tuple #[if ft=b_ then .agg #[sX ax p4 ay,sX (a_ ⟨b6,0,c_⟩) 0 0] else .agg nN,I (if ft=b_ then 0 else 6)]) rfl (SS.o _ M.bl) (λ_ _=>kF) ?_;refine tk 9 (if ft=b_ then .agg #[sX ax p4 ay,sX (a_ ⟨b6,0,c_⟩) 0 0] else .agg nN) rfl (SS.o _ M.bl) (λ_ _=>kF) ?_;refine tk 10 (I (if ft=b_ then 0 else 6)) rfl (SS.o _ M.bl) (λ_ _=>kF) ?_)
 all_goals
  have mb:=M.h4 fP rfl;have hN:=(J.o B (jD _ _)).2.2.2.2;have m1:¬w.1.size=fP:=by have:=mb.2;omega
  have m2:¬w.1.size+1=fP:=by have:=mb.2;omega
  have SZ:=SS.o _ M.bl
  cases ft
  ·refine ts 12 _ rfl rfl rfl (jf (.pointer (a_ ⟨fP,0,c_⟩)) (.agg nN) rfl kF kF (mU mb.1)) ⟨(SZ.1.eC JB _).eC JB _,(SZ.2.eC JA _).eC JA _⟩ ?_
   refine tk 13 (I 6) rfl ⟨(SZ.1.eC JB _).eC JB _,(SZ.2.eC JA _).eC JA _⟩ (λ_ _=>kF) ?_;have RR:Hid (Bl B ((W.setCell ⟨fP,0,c_⟩ (nJ)).setCell ⟨fP,1,c_⟩ (nJ))/\Bx ((W.setCell ⟨fP,0,c_⟩ (nJ)).setCell ⟨fP,1,c_⟩ (nJ)) fP nN 30):=⟨(M.bl.setCell mb.2 _).setCell mb.2 _,(mb.1.set 0 _).set 1 _⟩;refine te ?_;generalize ez (ez W _ _) _ _=Wy at *;go_simp;go_wp2;go_meet
   exact⟨fP,rfl,.inr ⟨rfl,rfl,RR⟩⟩
  refine ts 12 _ rfl rfl rfl (jf (.pointer (a_ ⟨fP,0,c_⟩)) (.agg #[sX ax p4 ay,sX (a_ ⟨b6,0,c_⟩) 0 0]) rfl kF kF (mU mb.1)) ⟨(SZ.1.eC JB _).eC JB _,(SZ.2.eC JA _).eC JA _⟩ ?_;refine tk 13 (I 0) rfl ⟨(SZ.1.eC JB _).eC JB _,(SZ.2.eC JA _).eC JA _⟩ (λ_ _=>kF) ?_;have RR:=zH M.fin;refine te ?_;generalize ez (ez W _ _) _ _=Wy at *;go_simp;go_wp2;go_meet
  exact⟨fP,rfl,.inl ⟨rfl,rfl,ax,ay,_,RR⟩⟩
 ):ρ:=h
def aj6.Yn(h:ρ:=by
 go_cut [8,9] from 83 (λv8 v9 W=>∃pb:Nat,v8=.pointer (a_ ⟨pb,0,c_⟩)/\((Fl ft b_/\v9=I 0/\∃ax ay dv,Hid (Ou B.1.size W pb (sX ax p4 ay) dv (sa++sb) []/\Bl B W/\Bx W pb #[sX ax p4 ay,dv] 30))\/(Fl ft d_/\v9=I 6/\Hid (Bl B W/\Bx W pb nN 30))))
 case first =>
  refine fT (S:=λW=>Bx W w.1.size #[sX x0 p0 y0,sX x1 p1 y1] 30/\Bx W (w.1.size+1) #[sX x2 p2 y2,sX x3 p3 y3] 30) kF (SS.o B (jD _ _)) (λhS=>?_);open aiX in exact YO
 case rest =>
  obtain⟨pb,rfl,hcut⟩:=hcut;rcases hcut with ⟨hft,rfl,ax,ay,dv,ik⟩|⟨hft,rfl,ik⟩
  rotate_left
  ·have hr:r=.error 6:=by rw[HR.o,show ft=d_ from hft];rfl
   subst hr;obtain⟨c0,f0,z0⟩:=ik.o.2.all;obtain⟨c1,f1,z1⟩:=(J.o _ ik.o.1).2.2.1.all;have jo:=zH (J.o _ ik.o.1).2.2.2.1;go_wp2;refine eJ Jd rfl ?_;have:=jo.o;exact SP.err gG
  have eP:Hid (r=Pl.wS (sa++sb) (Pl.eU (λi=>Pl.two op (da.getD (i / p3) 0) (db.getD (i % p3) 0)) (eA (p1 * p3)))):=by show _=_;rw[HR.o,show ft=b_ from hft];rfl
  have⟨F,HF⟩:∃F:Nat->Except Int Int,Hid (F=λi=>Pl.two op (da.getD (i / p3) 0) (db.getD (i % p3) 0)):=⟨_,rfl⟩;rw[<- HF.o] at eP;obtain⟨xd,yd,rfl⟩:=ik.o.1.o1.form;simp only[iA] at ik ⊢;go_wp2_with fail;go_loopw [10,11,12,13] (λi _ _ _ wr=>∃(k:Nat)(acc:lI) (dv:Va),i=I (k:Int)/\k<=p1/\Hid (acc.length=k * p3/\Pl.eU F (eA (p1 * p3))=gM F (eA (p1 * p3)) (k * p3) acc)/\Hid (Bl B wr)/\Hid (Ou B.1.size wr pb (sX ax p4 ay) dv (sa++sb) acc)) (λi _ _ _ _=>p1-(intOf i).toNat)
  case atStart=>exact⟨0,[],_,rfl,vZ _,⟨sI,by rw[py];exact(p_ _ _).symm⟩,ik.o.2.1,ik.o.1⟩
  obtain⟨k,acc,dv,rfl,hk,hE,hB,hU⟩:=hrel;have⟨S0,S1,S2,S3,S4⟩:=J.o _ hB.o;obtain⟨c0,f0,z0⟩:=S0.all;obtain⟨c1,f1,z1⟩:=S1.all;obtain⟨c2,f2,z2⟩:=S2.all;have HS:=zH (jA S2 (jA S3 S4));obtain⟨xd,yd,rfl⟩:=hU.o.o1.form;obtain⟨c3,f3,z3⟩:=hU.o.bx.all;by_cases fK:k=p1
  ·subst fK
   have hr:r=.ok (sa++sb,acc):=by rw[eP.o,hE.o.2,qf _ _ _ _ sI];rfl
   subst hr;go_wp2;refine eJ Jd rfl ?_;exact Ha
  have eI:(k:Int)<(p1:Int):=oM;have⟨z,hz⟩:=gF E1.o (show k<p1 by omega);go_wp2_with fail;go_loopw [11,12,13] (λi _ _ wr=>∃(j:Nat)(acc:lI) (dv:Va),i=I (j:Int)/\j<=p3/\Hid (acc.length=k * p3+j/\Pl.eU F (eA (p1 * p3))=gM F (eA (p1 * p3)) (k * p3+j) acc)/\Hid (Bl B wr)/\Hid (Ou B.1.size wr pb (sX ax p4 ay) dv (sa++sb) acc)) (λi _ _ _=>p3-(intOf i).toNat)
  case atStart=>exact⟨0,acc,_,rfl,vZ _,hE,hB,hU⟩
  obtain⟨j,acc,dv,rfl,hj,hE,hB,hU⟩:=hrel;have⟨S0,S1,S2,S3,S4⟩:=J.o _ hB.o;obtain⟨c0,f0,z0⟩:=S0.all;obtain⟨c1,f1,z1⟩:=S1.all;obtain⟨c2,f2,z2⟩:=S2.all;have HS:=zH (jA S2 S3);obtain⟨xd,yd,rfl⟩:=hU.o.o1.form;by_cases gD:j=p3
  ·subst gD
   have j_:Hid (acc.length=(k+1) * j/\Pl.eU F (eA (p1 * j))=gM F (eA (p1 * j)) ((k+1) * j) acc):=by rw[iu];exact hE
   go_wp2;go_roundw
   case rel=>exact⟨k+1,acc,_,gN,oM,j_,hB,hU⟩
   simp[intOf];omega
  have yh:(j:Int)<(p3:Int):=oM;have⟨z',gX⟩:=gF E3.o (show j<p3 by omega);obtain⟨ba,oa,rfl,yq,zY⟩:=(H.o.2.rw.kp (.of S3)).at hz;obtain⟨bb,ob,rfl,we,EI⟩:=(H'.o.2.rw.kp (.of S3)).at gX;have KK:=zH λn'=>KT.o z z' (Pl.oG VA.o hz) (Pl.oG VB.o gX) (wr.drewN n');have xK:k * p3+j<p1 * p3:=by
   have h1:(k+1) * p3<=p1 * p3:=gv _ oM;rw[iu] at h1;omega
  have eL:=zH (qc F (eA (p1 * p3)) (k * p3+j) acc (k * p3+j) (by rw[uw xK]));have wv:F (k * p3+j)=Pl.two op z z':=by
   rw[HF.o];have h1:(k * p3+j) / p3=k:=by rw[zj,Px _ _ oM,Pv oM,gY]
   have h2:(k * p3+j) % p3=j:=by rw[zj,Pu,Dz oM]
   simp only[h1,h2,ig,hz,gX,Dw]
  rw[wv] at eL;have xL:=zH (KE.o z z');have apt:p1 * p3<=1000000:=jT (IF ma mb) oM;have UB:Hid (∀y:Int,acc.length+[y].length<=16777216):=λy=>by have:=hE.o.1;simp;omega
  generalize Pl.two op z z'=q at *;have hN:B.1.size<=wr.1.size:=hB.o.size
  cases q with
  |error c =>
   have hc:(c != 0)=b_:=by rw[iH];exact xL.o c rfl
   have eN:r=.error c:=by rw[eP.o,hE.o.2,eL.o];rfl
   open aiY in exact YP
  |ok y =>
   replace KK:Hid (∀n',Cp 136 #[I op,I z,I z'] (wr.drewN n') λe w'=>e=rT (.tuple #[I y,I 0])/\w'=wr.drewN n'):=KK.o;have j_:Hid ((acc++[y]).length=k * p3+(j+1)/\Pl.eU F (eA (p1 * p3))=gM F (eA (p1 * p3)) (k * p3+(j+1)) (acc++[y])):=⟨by simp[hE.o.1];omega,by rw[hE.o.2,eL.o];rfl⟩;go_wp2_with fail;go_quiet ((go_at_call 136;exact nA (KK.o _)))
   have uZ:=zH (hU.o.below (gx (jD _ _) nq));have nQ:=zH (bv (gx (jD _ _) nq) hB.o);generalize wr.drewN nq=W at *;obtain⟨c3,f3,z3⟩:=uZ.o.bx.all;have Tq:B.1.size<=W.1.size:=nQ.o.size;go_wp2_with (at_builtin;refine nu rfl (.tmp 77) (.tmp 79) rfl rfl rfl (uZ.o.o1.kp eY) (mV _ y) (UB.o y) J2 ?_)
   intro v' w9 ho hg ha;have⟨R9,B9,bz⟩:=uZ.o.step nQ.o Tq hg ho ha;obtain⟨xv,yv,rfl⟩:=ho.form;have⟨d2,g2,l2⟩:=bz.all;rw[show (acc++[y]).length=acc.length+1 by simp] at R9 B9;go_wp2;go_roundw
   case rel=>exact⟨j+1,_,_,gN,oM,j_,B9,R9⟩
   simp[intOf];omega
 ):ρ:=h
def aiZ.Yb(h:ρ:=by
 have J:Hid (∀W,Bl B W->Bx W w.1.size #[sX x0 p0 y0,sX x1 p1 y1] 30/\Bx W (w.1.size+1) #[sX x2 p2 y2,sX x3 p3 y3] 30/\Bx W (w.1.size+1+1) nN 30/\Bl w W/\w.1.size+1+1<B.1.size):=λW k=>⟨(V1.o.1.below hb).below k,(V1.o.2.1.below hb).below k,(V1.o.2.2.1.below hb).below k,bv k (bv hb V1.o.2.2.2),(V1.o.2.2.1.below hb).lt⟩;go_wp2_with fail;have SS:Hid (∀W,Bl B W->Bx W w.1.size #[sX x0 p0 y0,sX x1 p1 y1] 30/\Bx W (w.1.size+1) #[sX x2 p2 y2,sX x3 p3 y3] 30):=λW k=>⟨(J.o W k).1,(J.o W k).2.1⟩;have KC:Hid (∀W,Bl B W->Cp 25 #[sX x0 p0 y0] W λe w'=>Bl W w'/\∃u,e=rT u/\Oi W.1.size w' u sa):=λW k=>lG _ sa W (H.o.1.rw.kp (.of (J.o W k).2.2.2.1)) JO;have RY:Hid (∀W,Bl B W->Rw P W (sX x2 p2 y2) sb):=λW k=>H'.o.1.rw.kp (.of (J.o W k).2.2.2.1);open aj6 in exact Zt
 ):ρ:=h
def amV.Qb(h:ρ:=by
 have H:=zH h;have H':=zH h';have HA:=zH ha;have HB:=zH hb;obtain⟨⟨x0,y0,rfl⟩,x1,y1,rfl⟩:=h.eS;obtain⟨⟨x2,y2,rfl⟩,x3,y3,rfl⟩:=h'.eS;unfold Pl.outer;obtain⟨sa,da⟩:=a;obtain⟨sb,db⟩:=b;simp only at H H' KA KB ⊢;have⟨p0,E0⟩:=jN (sa.length);obtain⟨p1,E1⟩:=jN (da.length);have⟨p2,E2⟩:=jN (sb.length);have⟨p3,E3⟩:=jN (db.length);rw[E0.o,E1.o] at H KA;rw[E2.o,E3.o] at H' KB;rw[E0.o,E1.o,E2.o,E3.o]
 cases ho:Pl.fN op
 ·rw[ho] at KO
  rw[eB sI];go_enter func107,ntmps107;go_wp2_with (go_at_call 123;refine(KO.o _).mono ?_;rintro e w' ⟨rfl,rfl⟩)
  refine eJ (by simp[results,results107,go_sem];try rfl) rfl ?_;exact ny
 ·rw[ho] at KO
  rw[eD rfl];have⟨r,HR⟩:∃r:Except Int Ar,Hid (r=if Pl.fy (sa++sb)=b_ then Pl.wS (sa++sb) (Pl.eU (λi=>Pl.two op (da.getD (i / p3) 0) (db.getD (i % p3) 0)) (eA (p1 * p3))) else .error 6):=⟨_,rfl⟩;rw[<- HR.o];have KT:=zH λx y (hx:Pl.fB x=b_) (hy:Pl.fB y=b_) W=>VF x y hx hy op ho W;have KE:=zH λx y c=>@Pl.AH op x y c;obtain⟨_,_,va,la,ma⟩:=Pl.ok_eq HA.o;have⟨_,_,vb,lb,mb⟩:=Pl.ok_eq HB.o;simp only at va vb la lb ma mb;have VA:=zH va;have VB:=zH vb;rw[E0.o] at la;rw[E1.o] at ma;rw[E2.o] at lb;rw[E3.o] at mb;go_enter func107,ntmps107;go_wp2_with (go_at_call 123;refine(KO.o _).mono ?_;rintro e w' ⟨rfl,rfl⟩)
  open aiZ in exact YU
 ):ρ:=h
def abA{P:nK}(op:Int)(v0 v1 v2 v3:Va)(a b:Ar)(w:Wd)(h:RA P w v0 v1 a)(h':RA P w v2 v3 b)(ha:Pl.okB a=b_)(hb:Pl.okB b=b_):Cp 107 #[I op,.agg #[v0,v1],.agg #[v2,v3]] w (SP w (Pl.outer op a b)):=by
 have KO:=zH λW=>wW op W;open amV in exact QC
namespace Pl
def iw(a:Ar):Ar:=if a.1=[] then ([(a.2.length:Int)],a.2) else a
def u_(a:Ar):Int:=match a.1 with
 |[]=>1
 |m::_=>m
def pS(l:lI)(v:Int):Nat->Nat
 |0=>l.length
 |k+1=>if l[l.length-(k+1)]? = a_ v then l.length-(k+1) else pS l v k
def mN(l:lI)(v:Int):Int:=(pS l v l.length:Nat)
def iota(a:Ar):Except Int Ar:=if ¬a.1=[] then .error 2 else if a.2.getD 0 0<0 then .error 1 else if 1000<a.2.getD 0 0 then .error 6 else .ok ([a.2.getD 0 0],(eA (a.2.getD 0 0).toNat).map Int.ofNat)
def rev(a:Ar):Ar:=match a.1 with
 |[]=>a
 |m::row=>(a.1,((eA m.toNat).map λi=>rowAt a.2 (eQ row) (m.toNat-1-i)).flatten)
end Pl
section
variable {P:nK} {w:Wd}
def amz.pe(h:ρ:=by
 refine(sH _ da W0 (H.o.2.rw.kp (.of V0.o.2.2.1)) JT).mono ?_;rintro e w1 ⟨hb,x2,y2,x3,y3,rfl,ra⟩;rw[E1.o] at ra ⊢;have V1:=zH (jA (V0.o.2.1.below hb) (jA (bv hb V0.o.2.2.1) (jA ra V0.o.2.2.2)));obtain⟨c0,f0,z0⟩:=V1.o.1.all;clear hb ra V0;go_wp2;refine eJ (by simp[results,results170,go_sem,c0];try rfl) rfl ?_;obtain⟨b1,bl,ra,sz⟩:=V1.o;rw[hr,E1.o];exact⟨gG,_,_,_,_,_,_,rfl,(ra.kp (((Kp.refl _ _).set J2 _).set J2 _)).mono λb h _=>.inr oM⟩
 ):ρ:=h
def Nb(v0 v1:Va)(a:Ar)(h:RA P w v0 v1 a)(hl:a.2.length<=1000):Cp 170 #[.agg #[v0,v1]] w λe w'=>Bl w w'/\∃x0 l0 y0 x1 l1 y1,e=rT (.agg #[sX x0 l0 y0,sX x1 l1 y1])/\RA (λb=>P b/\b<w.1.size\/w.1.size+2<=b) w' (sX x0 l0 y0) (sX x1 l1 y1) (Pl.iw a):=by
 have H:=zH h;obtain⟨⟨x0,y0,rfl⟩,x1,y1,rfl⟩:=h.eS;clear h;obtain⟨sh,da⟩:=a;simp only at H hl ⊢;have⟨r,HR⟩:∃r,Hid (r=Pl.iw (sh,da)):=⟨_,rfl⟩;rw[<- HR.o];obtain⟨p1,E1⟩:=jN (da.length);rw[E1.o] at H hl ⊢
 cases sh with
 |nil =>
  have hr:r=([(da.length:Int)],da):=HR.o;simp only[iA] at H ⊢;go_enter func170,ntmps170;open amz in exact pj
 |cons m row =>
  have hr:r=(m::row,da):=HR.o;simp only[fW] at H ⊢;generalize row.length=p0 at *;go_enter func170,ntmps170;go_wp2;refine eJ (by simp[results,results170,go_sem];try rfl) rfl ?_;rw[hr];refine⟨gG,_,_,_,_,_,_,rfl,?_⟩;have:=H.o.mono (Q:=λb=>P b/\b<w.1.size) λb h h'=>⟨h,h'⟩;exact(this.kp (.of gG)).mono λb h _=>.inl h
def acR(v0 v1:Va)(a:Ar)(h:RA P w v0 v1 a):Cp 132 #[.agg #[v0,v1]] w (rC (I (Pl.u_ a)) w):=by
 have H:=zH h;obtain⟨⟨x0,y0,rfl⟩,x1,y1,rfl⟩:=h.eS;clear h;obtain⟨sh,da⟩:=a;simp only at H ⊢;generalize da.length=p1 at *
 cases sh with
 |nil =>
  simp only[iA] at H ⊢;go_enter func132,ntmps132;exact IQ
 |cons m row =>
  obtain⟨b,o,rfl,hb,hc⟩:=H.o.1.rw.at (i:=0) rfl;rw[iz] at hc;have ne:¬b=w.1.size:=oM;simp only[fW] at H ⊢;generalize row.length=p0 at *;go_enter func132,ntmps132;exact IQ
def adS(v:Va)(zs:lI)(z:Int)(h:Rw P w v zs)(hl:zs.length<=1000):Cp 143 #[v,I z] w λe w'=>e=rT (I (Pl.mN zs z))/\w'=w:=by
 have⟨n,HN⟩:=jN (zs.length);have H:=zH h;obtain⟨x,y,rfl,-⟩:=h;have⟨r,HR⟩:=jN (Pl.mN zs z);rw[HR.o];rw[HN.o] at hl H ⊢;go_enter func143,ntmps143;go_wp2;go_loop [5] (λi=>∃k:Nat,k<=n/\i=I k/\Hid (r=(Pl.pS zs z (n-k):Nat))) (λi=>n-(intOf i).toNat)
 case atStart=>exact⟨0,vZ _,rfl,by show _=_;rw[<- HR.o,Pl.mN,HN.o];rfl⟩
 obtain⟨k,hk,rfl,hE⟩:=hrel;by_cases eI:k<n
 rotate_left 1
 ·have hr:r=(n:Int):=by rw[hE.o,show n-k=0 by omega,Pl.pS,HN.o]
  subst hr;exact mM
 have⟨q,hq⟩:=gF HN.o eI;obtain⟨b,o,rfl,hb,hc⟩:=H.o.at hq;have hs:Hid (Pl.pS zs z (n-k)=if q=z then k else Pl.pS zs z (n-(k+1))):=by
  show _=_;rw[show n-k=(n-(k+1))+1 by omega];simp only[Pl.pS,HN.o];rw[show n-(n-(k+1)+1)=k by omega,hq];simp
 by_cases Lk:q=z
 ·subst Lk
  have hr:r=(k:Int):=by rw[hE.o,hs.o,eD rfl]
  subst hr;exact mM
 have he:(q == z)=d_:=by simp[Lk]
 rw[eB Lk] at hs;clear Lk;go_wp2;go_round
 case rel=>exact⟨k+1,by omega,by go_num,by show _=_;rw[hE.o,hs.o]⟩
 simp[intOf];omega
def amA.pe(h:ρ:=by
 have J:Hid (∀W,Bl W0 W->Bx W w.1.size #[sX x0 0 y0,sX (sY b o) p1 y1] 30/\Bx W (w.1.size+1) nN 30/\Bl w W/\w.1.size+1+1=W0.1.size):=λW k=>⟨V0.o.1.below k,V0.o.2.1.below k,bv k V0.o.2.2.1,V0.o.2.2.2.symm⟩;have R0:Hid (Oi W0.1.size (W0.alloc (.cells #[] 3)) (sX (sY (w.1.size+1+1) 0) 0 0) []):=by have:=Oi.emp (B:=W0.1.size) (w:=W0) (jR _);rwa [V0.o.2.2.2] at this ⊢
 have B0:Hid (Bl W0 (W0.alloc (.cells #[] 3))):=(show Bl W0 _ from by go_grown);clear V0;go_loopw [4,5] (λv i wr=>∃k:Nat,i=I (k:Int)/\k<=n/\Hid (Bl W0 wr)/\Hid (Oi W0.1.size wr v ((eA k).map Int.ofNat))) (λ_ i _=>n-(intOf i).toNat)
 case atStart=>exact⟨0,rfl,vZ _,B0,R0⟩
 case round =>
  obtain⟨k,rfl,hk,hB,hO⟩:=hrel;have⟨S0,S1,S2,S3⟩:=J.o _ hB.o;obtain⟨c0,f0,z0⟩:=S0.all;have jS:=(S2.cell (p:=(Y b o)) hb).trans hc;have zb:b<wr.1.size:=jL hb S2.size;have⟨xd,yd,e8⟩:=hO.o.form;rw[qU,ux] at e8;subst e8;have HS:=zH (jA S1 (jA S2 S3));have sW:=hB.o.size;clear f0 S0 S1 S2 S3 R0 B0;by_cases fK:k=n
  ·subst fK
   have hr:=hr.o;subst hr;go_wp2_with fail;refine(sH _ _ wr hO.o.ri.rw J2).mono ?_;rintro e w1 ⟨rz,x2,y2,x3,y3,rfl,ra⟩;rw[qU,ux] at ra ⊢;have V1:=zH (jA (HS.o.1.below rz) (jA (bv rz HS.o.2.1) ra));obtain⟨c1,f1,z1⟩:=V1.o.1.all;clear rz ra;go_wp2;refine eJ (by simp[results,results129,go_sem,c1];try rfl) rfl ?_;have s3:=HS.o.2.2;exact SP.put (r:=.ok ([(k:Int)],_)) V1.o.2.2 V1.o.2.1 oM oM _ _
  have eI:(k:Int)<(n:Int):=oM;have UB:Hid (((eA k).map Int.ofNat).length+[(k:Int)].length<=16777216):=by show _<=_;simp;omega
  go_wp2_with (at_builtin;refine nu rfl (.tmp 32) (.tmp 34) rfl rfl rfl (hO.o.kp eY) (mV _ (k:Int)) UB.o J2 ?_)
  intro v' w9 ho hg ha;have B9:Hid (Bl W0 w9):=qu (B:=W0.1.size) (a:=W0) (bv (w:=W0) gG hB.o) hg J2 (λb e=>(hO.o.lt e).1);have O9:Hid (Oi W0.1.size w9 v' ((eA (k+1)).map Int.ofNat)):=by
   rw[uv,mP];exact ho
  clear ho hg ha;go_wp2;go_roundw
  case rel=>exact⟨k+1,gN,oM,B9,O9⟩
  simp[intOf];omega
 ):ρ:=h
def adP(v0 v1:Va)(a:Ar)(h:RA P w v0 v1 a)(ha:Pl.okB a=b_):Cp 129 #[.agg #[v0,v1]] w (SP w (Pl.iota a)):=by
 have H:=zH h;have HA:=zH ha;obtain⟨⟨x0,y0,rfl⟩,x1,y1,rfl⟩:=h.eS;clear h ha;obtain⟨sh,da⟩:=a;simp only at H ⊢;have⟨r,HR⟩:∃r,Hid (r=Pl.iota (sh,da)):=⟨_,rfl⟩;rw[<- HR.o]
 cases sh with
 |cons m row =>
  have hr:r=.error 2:=by rw[HR.o];simp[Pl.iota]
  subst hr;simp only[fW] at H ⊢;generalize row.length=p0,da.length=p1 at *;exact Pa
 |nil =>
  have⟨z,hz,gX,hv⟩:=Pl.ok_one HA.o rfl;simp only at hz gX;have eP:Hid (r=if z<0 then .error 1 else if 1000<z then .error 6 else .ok ([z],(eA z.toNat).map Int.ofNat)):=by show _=_;rw[HR.o];simp only[Pl.iota,gX];rfl
  obtain⟨b,o,rfl,hb,hc⟩:=H.o.2.rw.at hz;rw[iz] at hc;have hl:1<=da.length:=by cases da with
   |nil=>cases hz
   |cons _ _=>simp
  simp only[iA] at H ⊢;obtain⟨p1,E1⟩:=jN (da.length);rw[E1.o] at H hl ⊢;have⟨ne0,ne1⟩:¬b=w.1.size/\¬b=w.1.size+1:=oM;have rp:(0:Int)<(p1:Int):=oM;clear HR hv;by_cases h0:z<0
  ·have hr:r=.error 1:=by rw[eP.o,eD h0]
   subst hr;exact Pa
  rw[eB h0] at eP;by_cases h1:1000<z
  ·have hr:r=.error 6:=by rw[eP.o,eD h1]
   subst hr;exact Pa
  rw[eB h1] at eP;obtain⟨n,rfl⟩:=sZ (show 0<=z by omega);have hr:Hid (r=.ok ([(n:Int)],(eA n).map Int.ofNat)):=eP.o;have hn:n<=1000:=oM;have hn0:¬((n:Int)<0):=oM;clear eP h0;go_enter func129,ntmps129;open amA in exact pj
end
end Go.Proofs.YtiagfejlmafliaaGreatDoor
