import Derived.Laws.Pointers
import Derived.Test.YtiagfejlmafliaaGreatDoorWc
import Derived.Laws.OwnMore
import Derived.Laws.Bits64b
import Derived.Laws.CopyOwn
namespace Go.Proofs.YtiagfejlmafliaaGreatDoor
set_option linter.all false
open Go.Proofs.Tryz Pl
open Go.RowKit
set_option maxRecDepth 100000
set_option maxHeartbeats 16000000
open Pl (Ar)
open World renaming setCell->ez,alloc->ew
open List renaming range->eA,replicate->eE
open Option renaming some->a_,none->c_
open Bool renaming true->b_,false->d_
def aay(v:Va)(w:Wd):(Instr.typeAssert (.iface 254 v) 20 254 b_).run prog w=.ok (.tuple #[v,.bool b_]) w:=kF
def ZW(w:Wd):(Instr.typeAssert .nilIface 20 254 b_).run prog w=.ok (.tuple #[I 0,.bool d_]) w:=kF
def WO:(Array.replicate 15 undef:aV)=#[undef,undef,undef,undef,undef,undef,undef,undef,undef,undef,undef,undef,undef,undef,undef]:=rfl
def ad3(p q:Nat)(c:Int)(v0 v1 v2:Va)(DP:List PanicEntry)(w:Wd)(hp0:w.cell? (Y p 0)=a_ v0)(rp:w.cell? (Y p 1)=a_ v1)(hq:w.cell? (Y q 0)=a_ v2)(fp:∀o,w.frozen? (Y p o)=d_)(fq:∀o,w.frozen? (Y q o)=d_)(Ss:¬p=q):
  CallsD prog 228 #[pT p,pT q] (.panicking (lR c::DP)) w λe u' w' =>
   e=rT (.tuple #[])/\u'=.panicking ({ v:=.iface 254 (I c),recovered:=b_ }::DP)/\w'=((w.setCell (Y p 0) (nJ)).setCell (Y p 1) (nJ)).setCell (Y q 0) (I c):=by
 refine Iv func228 rfl λc₀ cs hu=>?_;apply wpS_seq
 apply Iu
 simp[wpOpsS,go_sem,recoverD,hu,ntmps228,Exit.thenS]
 refine It ?_;have Tu:=aay;have qZ:=ZW;rw[WO];simp
 go_wp2;simp[bodyPostS,results,results228]
def ae8(p q:Addr)(w:Wd):
  CallsD prog 228 #[.pointer (a_ p),.pointer (a_ q)] .returning w λe u' w'=>e=rT (.tuple #[])/\u'=.returning/\w'=w:=by
 refine Iv func228 rfl λc₀ cs hu=>?_;apply wpS_seq
 apply Iu
 simp[wpOpsS,go_sem,recoverD,hu,ntmps228,Exit.thenS]
 refine It ?_;have Tu:=aay;have qZ:=ZW;rw[WO];simp
 go_wp2
 cases c₀
 simp_all[bodyPostS,results,results228]
def KP(w:Wd)(r:Except Int Ar)(e:Ending)(w':Wd):Prop:=Below w.1.size w w'/\match r with
 |.ok a=>∃u0 u1,e=rT (.agg #[u0,u1])/\RA (w.1.size<=·) w' u0 u1 a
 |.error c=>e=.panicked [lR c]
def FP(w:Wd)(r:Except Int Ar)(e:Ending)(w':Wd):Prop:=Below w.1.size w w'/\∃u0 u1,e=rT (.tuple #[.agg #[u0,u1],I (f_ r).1])/\RA (w.1.size<=·) w' u0 u1 (f_ r).2
def RA.nil{P:nK}{w:Wd}:RA P w (nJ) (nJ) ([],[]):=⟨⟨c_,0,rfl,vZ _,oM,.inl rfl⟩,⟨c_,0,rfl,vZ _,oM,.inl rfl⟩⟩
def jv(fn:Fn)(first cap:aV)(w:Wd):(Instr.makeFunc fn first cap).run prog w=.ok (.func fn first cap) w:=rfl
def wX(f:Nat)(cap:aV)(r:Except Int Ar)(w:Wd)(sy:∀w,(callFunc f cap).run prog w=.ok (.enter f cap) w)
  (hk:∀W,Bl w W->Cp f cap W (KP W r)):Cp 201 #[.func (.func f) #[] cap] w (FP w r):=by
 have jv:=jv;have HK:=zH hk;go_enter_defers func201,ntmps201
 go_wp2_with fail;refine(HK.o _ gG).mono ?_;rintro e w1 ⟨hb,hor⟩;have b0:Bx w1 w.1.size nN 30:=.below (.al (.eK rfl) _) hb;have b1:Bx w1 (w.1.size+1) #[I 0] 3:=.below (.eK sI) hb;have HB:=zH (bv (w:=w) hb);obtain⟨c0,f0,z0⟩:=b0.all;obtain⟨c1,f1,z1⟩:=b1.all
 cases r with
 |ok a =>
  obtain⟨u0,u1,rfl,ra⟩:=hor;obtain⟨⟨x0,y0,rfl⟩,x1,y1,rfl⟩:=ra.eS;have R:=zH ra;go_wp2_with fail;refine Ba (f:=228) (args:=#[pT w.1.size,pT (w.1.size+1)]) sI J5 ?_;refine(ae8 _ _ _).mono ?_;rintro e u' zL ⟨rfl,rfl,rfl⟩;have:=HB.o;refine⟨.tuple #[.agg #[sX x0 a.1.length y0,sX x1 a.2.length y1],I 0],by simp[results,results201,go_sem,c0,c1],gG,_,_,rfl,?_⟩;exact(R.o.kp ((((Kp.refl _ _).set J2 _).set J2 _).set sI _)).mono λb h _=>by simp at h;omega
 |error c =>
  obtain rfl:=hor;refine Ba (f:=228) (args:=#[pT w.1.size,pT (w.1.size+1)]) sI J5 ?_;refine(ad3 w.1.size (w.1.size+1) c _ _ _ [] _ (c0 0) (c0 1) (c1 0) f0 f1 oM).mono ?_;rintro e u' zL ⟨rfl,rfl,rfl⟩;have:=HB.o;exact⟨.tuple #[.agg nN,I c],by simp[results,results201,go_sem,c0,c1],gG,_,_,rfl,RA.nil⟩
def Lv(w:Wd)(b n:Nat):Prop:=b<w.1.size/\∀i,i<n->∃v0 v1,∃a:Ar,w.cell? (Y b (i * 2))=a_ v0/\w.cell? (Y b (i * 2+1))=a_ v1/\RA (λb=>b<w.1.size) w v0 v1 a/\Pl.okB a=b_
def MQ(b n cap:Nat)(w:Wd)(h:Lv w b n)(hn:n<=2):Cp 203 #[sX (sY b 0) n cap] w (rC (.tuple #[]) w):=by
 have H:=zH h;go_enter func203,ntmps203;go_wp2_with fail;go_loopw [3,6] (λ_ i wr=>∃k:Nat,k<=n/\i=I k/\Hid (Bl w wr)) (λ_ i _=>n-(intOf i).toNat)
 case atStart=>exact⟨0,vZ _,rfl,jD _ _⟩
 obtain⟨k,hk,rfl,hB⟩:=hrel;by_cases eI:k<n
 rotate_left 1
 ·go_wp2
  go_returns
  exact⟨hB.o,rfl⟩
 obtain⟨v0,v1,a,c0,c1,ra,ho⟩:=H.o.2 k eI;have zb:b<wr.1.size:=jL H.o.1 hB.o.size;replace c0:=(hB.o.cell (p:=(Y b (k * 2))) H.o.1).trans c0;replace c1:=(hB.o.cell (p:=(Y b (k * 2+1))) H.o.1).trans c1;obtain⟨⟨x0,y0,rfl⟩,x1,y1,rfl⟩:=ra.eS;have RR:=zH (ra.kp (.of hB.o));have HO:=zH ho;have ne:¬b=wr.1.size:=oM;go_wp2_with fail;refine(Vf _ _ (RR.o.kp eY)).l λw1 hb1=>?_;rw[HO.o];have B1:=zH (bv hb1 (bv (w:=w) gG hB.o));go_wp2_with (go_at_call 229;refine(iV _ _).mono ?_;rintro e w' ⟨rfl,rfl⟩)
 go_roundw
 case rel=>exact⟨k+1,oM,gN,B1⟩
 simp[intOf];omega
section
variable {w w':Wd}
def CB(W:Wd)(r:Except Int Int)(e:Ending)(w':Wd):Prop:=Below W.1.size W w'/\match r with
 |.ok v=>e=rT (I v)
 |.error c=>e=.panicked [lR c]
def CI.cb{r:Except Int Int}{e:Ending}(h:CI w r e w'):CB w r e w':=⟨h.1 ▸ jD _ _,h.2⟩
def KP.put{w1:Wd}{N c:Nat}{v0 v1:Va}{sh da:lI}{cs:aV}(o0:Oi N w1 v0 sh)(o1:Oi N w1 v1 da)(hN:w.1.size<=N)(bc:Bx w1 c cs 30)(hb:Bl w w1)(h0:w.1.size<=c)(x y:Va):
  KP w (.ok (sh,da)) (rT (.agg #[v0,v1])) ((w1.setCell (Y c 0) x).setCell (Y c 1) y):=by
 have m0:=o0.ne bc dC;have m1:=o1.ne bc dC;exact⟨gG,_,_,rfl,o0.out eY hN,o1.out eY hN⟩
def KP.err{c:Int}(h:Bl w w'):KP w (.error c) (.panicked [lR c]) w':=⟨h,rfl⟩
def qg{P:nK}{W:Wd}{b:Nat}{v:Va}{zs:lI}{n:Nat}(e:zs.length=n)(hn:n<=1048576)(hb:b<W.1.size)(hc:W.cell? (Y b 0)=a_ v)(h:Rw P W v zs):
  Cp 91 #[sX (sY b 0) 1 1] W λe w'=>Bl W w'/\∃x y,e=rT (sX x n y)/\Oi W.1.size w' (sX x n y) zs:=by
 refine(vp [zs] b 1 W (Ls.one hc hb h) sI J2).mono ?_;rintro e' w' ⟨hb,u,rfl,o⟩;rw[show [zs].flatten=zs by simp] at o;have⟨x,y,e2⟩:=o.form;rw[e] at e2;subst e2;exact⟨hb,x,y,rfl,o⟩
section
variable {P:nK}
def Nq(f:Nat)(cap:aV)(F:Int->Except Int Int)(v0 v1:Va)(a:Ar)(w:Wd)(h:RA P w v0 v1 a)(gK:a.1.length<=1000)(gr:a.2.length<=1000)(sy:∀args w,(callFunc f args).run prog w=.ok (.enter f args) w)
  (aoT:∀x∈a.2,∀W,Bl w W->Cp f (#[I x]++cap) W (CB W (F x))):Cp 204 #[.func (.func f) #[] cap,.agg #[v0,v1]] w (KP w (Pl.wS a.1 (Pl.eU F a.2))):=by
 have H:=zH h;obtain⟨⟨x0,y0,rfl⟩,x1,y1,rfl⟩:=h.eS;have HO:=zH aoT;obtain⟨sh,da⟩:=a;simp only at H HO gK gr ⊢;have⟨r,HR⟩:∃r,Hid (r=Pl.wS sh (Pl.eU F da)):=⟨_,rfl⟩;rw[<- HR.o];have⟨p0,E0⟩:=jN (sh.length);have⟨n,E1⟩:=jN (da.length);rw[E0.o] at H gK ⊢;rw[E1.o] at H gr ⊢;have MK:=zH λW=>n8 W n oM;go_enter func204,ntmps204;go_wp2_with (rw[MK.o])
 generalize hW:ew (ew (ew w _) _) _=W0;have V0:=mK hW;go_loopw [6,7,15] (λ_ _ i wr=>∃(k:Nat)(acc:lI),k<=n/\i=I (k:Int)/\Hid (acc.length=k/\Pl.eU F da=gM F da k acc)/\Hid (Below (w.1.size+2) W0 wr)/\Hid (Bx wr (w.1.size+1+1) (Zr acc n) 3)) (λ_ _ i _=>n-(intOf i).toNat)
 case atStart=>exact⟨0,[],vZ _,rfl,⟨rfl,(p_ _ _).symm⟩,jD _ _,V0.o.2.2.1⟩
 obtain⟨k,acc,hk,rfl,hE,hB,hX⟩:=hrel;have hN:w.1.size+1+1<wr.1.size:=hX.o.lt;have BW:=zH (V0.o.2.2.2.1.trans (hB.o.mono oM));have jo:=zH (V0.o.2.1.bn hB.o oM);have b0:=V0.o.1.bn hB.o oM;obtain⟨c0,f0,z0⟩:=b0.all;by_cases fK:k=n
 ·subst fK
  have hr:r=.ok (sh,acc):=by rw[HR.o,hE.o.2,qf _ _ _ _ JT];rfl
  subst hr;have oD:=zH (sM hX.o (B:=w.1.size) oM oM hE.o.1);go_wp2_with fail;refine(qg E0.o oM sI J5 (H.o.1.rw.kp (.of (bv (w:=w) gG BW.o)))).mono ?_;rintro e w2 ⟨hb,x2,y2,rfl,o2⟩;have B2:Bl wr w2:=bv hb;have V2:=zH (jA (jo.o.below B2) (jA (bv B2 BW.o) (jA (oD.o.kp (.of B2)) (o2.base (B':=w.1.size) J2))));obtain⟨c2,f2,z2⟩:=V2.o.1.all;go_wp2;refine eJ (by simp[results,results204,go_sem,c2];try rfl) rfl ?_;exact KP.put V2.o.2.2.2 V2.o.2.2.1 (jR _) V2.o.1 V2.o.2.1 oM _ _
 have⟨x,hx⟩:=gF E1.o (show k<n by omega);obtain⟨b,o,rfl,hb,hc⟩:=(H.o.2.rw.kp (.of BW.o)).at hx;have KK:=zH (HO.o x (my hx) wr BW.o);have eL:=zH (qc F da k acc x hx);have eI:(k:Int)<(n:Int):=oM;generalize F x=q at *;go_wp2_with fail;refine KK.o.mono ?_;rintro e w2 ⟨hb2,hor⟩
 cases q with
 |error c =>
  obtain rfl:=hor;have hr:r=.error c:=by rw[HR.o,hE.o.2,eL.o];rfl
  subst hr;exact⟨rfl,KP.err (bv hb2 BW.o)⟩
 |ok y =>
  obtain rfl:=hor;have X2:=hX.o.below hb2;have⟨v9,kN⟩:=sN (l:=acc) (n:=n) (i:=k) JW oM;have jd:cL w2 (w.1.size+1+1) k (I v9):=(X2.cf.1 k).trans kN;have⟨_,fD,zD⟩:=X2.all;have X3:Hid (Bx (w2.setCell (Y (w.1.size+1+1) k) (I y)) (w.1.size+1+1) (Zr (acc++[y]) n) 3):=by
   have e:=um (l:=acc) (n:=n) JW y;rw[hE.o.1] at e;rw[<- e];exact X2.set k _
  have B3:Hid (Below (w.1.size+2) W0 (w2.setCell (Y (w.1.size+1+1) k) (I y))):=(nV hB.o hb2 oM).setCell sI _;have E3:Hid ((acc++[y]).length=k+1/\Pl.eU F da=gM F da (k+1) (acc++[y])):=⟨by simp[hE.o.1],by rw[hE.o.2,eL.o]⟩;go_wp2;go_roundw
  case rel=>exact⟨k+1,_,oM,gN,E3,B3,X3⟩
  simp[intOf];omega
end
end
variable {ρ:Prop}
section
def zI{o:Oper}{a:Act}{w:Wd}{x:Operand}{xs:Array Operand}{ts:Array TypeId}(f:Nat)(cap args:aV)(sy:∀args w,(callFunc f args).run prog w=.ok (.enter f args) w)(ho:o.op=Op.call { callee:=Callee.value x,args:=xs,argTypes:=ts })
  (hx:a.eval x=.func (.func f) #[] cap) (ha:xs.map a.eval=args):(execOp a.eval o).run prog w=.ok (.enter f (args++cap)) w:=by
 simp[execOp,ho,resolve,Deferred.ofValue,invoke,hx,ha,sy]
section
variable {P:nK} {w:Wd}
def wV(v0 v1:Va)(sh:lI){x1:oA}{n1 y1:Nat}(h:Rw P w v0 sh)(e:v1=sX x1 n1 y1):Cp 243 #[.agg #[v0,v1]] w (rB (.bool (decide (sh=[]))) w):=by
 subst e;obtain⟨x,y,rfl,-⟩:=h
 cases sh with
 |nil =>
  simp only[iA];go_enter func243,ntmps243;exact vD
 |cons m row =>
  simp only[fW];generalize row.length=p at *;have hp:(((p+1:Nat):Int) == 0)=d_:=by rw[gR];omega
  go_enter func243,ntmps243;exact vD
def ajX.Oo(h:ρ:=by
 by_cases qz:n=m
 ·subst qz
  go_enter func261,ntmps261;go_wp2;go_loopw [5,13] (λ_ i wr=>∃k:Nat,k<=n/\i=I k/\Hid (xs.take k=ys.take k)/\Hid (Bl w wr)) (λ_ i _=>n-(intOf i).toNat)
  case atStart=>exact⟨0,vZ _,rfl,rfl,jD _ _⟩
  exact aa0
 ·have hr:r=d_:=by
   exact Qh
  have gu:((n:Int) != (m:Int))=b_:=by rw[iH];omega
  subst hr;go_enter func261,ntmps261;exact vD
 ):ρ:=h
def Gg(v v':Va)(xs ys:lI)(h:Rw P w v xs)(h':Rw P w v' ys)(hl:xs.length<=1048576)(uS:ys.length<=1048576):Cp 261 #[v,v'] w (rB (.bool (decide (xs=ys))) w):=by
 open ajX in exact Ph
def yO(v:Va)(sh:lI)(h:Rw P w v sh):Cp 245 #[v] w λe w'=>w'=w/\if Pl.fy sh=b_ then e=rT (.tuple #[]) else e=.panicked [lR 6]:=by
 have K:=zH (UA v h);obtain⟨x,y,rfl,-⟩:=h
 cases hf:Pl.fy sh
 ·rw[hf] at K
  simp only[eB (show ¬d_=b_ by decide)];go_enter func245,ntmps245;go_wp2_with (first | (go_at_call 53;refine K.o.mono ?_;rintro e w' ⟨rfl,rfl⟩) | (go_at_call 229;refine(kY _ _).mono ?_;rintro e w' ⟨rfl,rfl⟩))
  exact⟨rfl,rfl,rfl⟩
 rw[hf] at K;simp only[kI];go_enter func245,ntmps245;go_wp2_with (first | (go_at_call 53;refine K.o.mono ?_;rintro e w' ⟨rfl,rfl⟩) | (go_at_call 229;refine(iV _ _).mono ?_;rintro e w' ⟨rfl,rfl⟩))
 exact pq
end
def ajZ.Yk(h:ρ:=by
 refine tk 2 (I x) rfl hS (λw h=>kF) ?_;refine tk 3 (.pointer (sY ba 1)) rfl hS (λw h=>kF) ?_;refine tk 4 (sX (sY b o) (n+1) y) rfl hS (λw h=>by obtain⟨h0,h1,h2⟩:=h;go_simp) ?_;refine tk 5 (.pointer (sY b o)) rfl hS (λw h=>by go_simp) ?_;refine tk 6 (I z) rfl hS (λw h=>by obtain⟨h0,h1,h2⟩:=h;go_simp) ?_;refine tc 7 f #[I x,I z] rfl rfl (zI f #[] #[I x,I z] sy rfl kF kF) ((HK.o _).mono ?_);exact aaa
 ):ρ:=h
def ajY.Yk(h:ρ:=by
 refine tk 2 (.pointer (sY ba 1)) rfl hS (λw h=>kF) ?_;refine tk 3 (sX (sY b o) (n+1) y) rfl hS (λw h=>by obtain⟨h0,h1,h2⟩:=h;go_simp) ?_;refine tk 4 (.pointer (sY b o)) rfl hS (λw h=>by go_simp) ?_;refine tk 5 (I z) rfl hS (λw h=>by obtain⟨h0,h1,h2⟩:=h;go_simp) ?_;refine tk 6 (I x) rfl hS (λw h=>kF) ?_;refine tc 7 f #[I z,I x] rfl rfl (zI f #[] #[I z,I x] sy rfl kF kF) ((HK.o _).mono ?_);exact aaa
 ):ρ:=h
def ZV(i:Nat)(hi:i=259\/i=260)(f bo ba b o n y:Nat)(x z:Int)(r:Except Int Int)(w:Wd)(sy:∀args w,(callFunc f args).run prog w=.ok (.enter f args) w)(h0:w.cell? (Y bo 0)=a_ (.func (.func f) #[] #[]))(h1:w.cell? (Y ba 1)=a_ (sX (sY b o) (n+1) y))(h2:w.cell? (Y b o)=a_ (I z))
  (hK:∀W,Cp f (if i=259 then #[I z,I x] else #[I x,I z]) W (CI W r)):Cp i #[I x,pT bo,pT ba] w (CB w r):=by
 have HK:=zH hK;rcases hi with rfl|rfl
 ·simp only[kI] at HK
  go_enter func259,ntmps259;open ajY in exact Zm
 simp only[eB (show ¬(260:Nat)=259 by decide)] at HK;go_enter func260,ntmps260;open ajZ in exact Zm
end
section
variable {w:Wd}{b o:Nat}{a:Ar}
def rZ{p:Addr}(h:¬b=p.block)(u:Va):(w.setCell p u).cell? (Y b o)=w.cell? (Y b o):=zy (w:=w) (zC _ _ _ _ h)
def DY{n y k:Nat}(h:k<n):(Instr.indexAt 23 (sX (sY b 0) n y) (I (k:Int))).run prog w=.ok (.pointer (sY b k)) w:=by have:=qx (w:=w) (b:=b) (o:=0) (y:=y) h;rwa [gY] at this
def Kq{z v:Int}(h:w.cell? (Y b o)=a_ (I z))(h':w.frozen? (Y b o)=d_):(Instr.storeAt 3 (.pointer (sY b o)) (I v)).run prog w=.ok () (w.setCell (Y b o) (I v)):=by go_simp
def yA{W:Wd}{c0 c1 c2 c3:aV}{t0 t1 t2 t3:TypeId}(h:(((w.alloc (.cells c0 t0)).alloc (.cells c1 t1)).alloc (.cells c2 t2)).alloc (.cells c3 t3)=W):Hid (Bx W w.1.size c0 t0/\Bx W (w.1.size+1) c1 t1/\Bx W (w.1.size+1+1) c2 t2/\Bx W (w.1.size+1+1+1) c3 t3/\Bl w W/\W.1.size=w.1.size+1+1+1+1):=by
 subst h;exact⟨.al (.al (.al (.eK rfl) _) _) _,.al (.al (.eK sI) _) _,.al (.eK sI) _,.eK sI,gG,sI⟩
def KP.open{w':Wd}{e:Ending}(h:KP w (.ok a) e w'):∃x0 l0 y0 x1 l1 y1,e=rT (.agg #[sX x0 l0 y0,sX x1 l1 y1])/\Hid (RA (w.1.size<=·) w' (sX x0 l0 y0) (sX x1 l1 y1) a)/\Bl w w':=by
 exact Zy
def KP.pass{w0 w1:Wd}{v0 v1:Va}{c:Nat}(hr:RA (w0.1.size<=·) w1 v0 v1 a)(hb:Bl w w1)(h0:w.1.size<=c)(h1:c<w0.1.size)(x y:Va):KP w (.ok a) (rT (.agg #[v0,v1])) ((w1.setCell (Y c 0) x).setCell (Y c 1) y) :=
 ⟨gG,_,_,rfl,(hr.kp (((Kp.refl _ _).set J2 _).set J2 _)).mono λb h _=>oM⟩
def XF{X:Prop}(h:X:=by
 rintro e w3 hK
 cases r with
 |error c =>
  obtain⟨hb,rfl⟩:=hK;exact⟨rfl,KP.err (bv hb V2.o.2.2.2.2)⟩
 |ok ar =>
  obtain⟨x4,l4,y4,x5,l5,y5,rfl,gP,hb⟩:=hK.open;have V3:=zH (jA (V2.o.2.2.2.1.below hb) (jA (bv hb V2.o.2.2.2.2) V2.o.2.2.2.1.lt));obtain⟨c5,f5,z5⟩:=V3.o.1.all;go_wp2;refine eJ (by simp[results,results214,go_sem,c5];try rfl) rfl ?_;exact KP.pass gP.o V3.o.2.1 oM V3.o.2.2 _ _):X:=h
section
variable {P:nK}
def amP.lH(h:ρ:=by
 have SA:=zH λW (kb:Bl w W)=>wV _ _ a.1 (h.1.rw.kp (.of kb)) (rfl:Value.slice x1 a.2.length y1=_);have SB:=zH λW (kb:Bl w W)=>wV _ _ b.1 (h'.1.rw.kp (.of kb)) (rfl:Value.slice x3 b.2.length y3=_);have SE:=zH λW (kb:Bl w W)=>Gg _ _ a.1 b.1 (h.1.rw.kp (.of kb)) (h'.1.rw.kp (.of kb)) JV (by have:=(Pl.ok_eq hb).2.2.2.1;omega);have CF:=zH (H6 k gp hk1);have CC:=zH λx y (hx:Pl.fB x=b_) (hy:Pl.fB y=b_) W=>Ga x y hx hy k gp hk1 W;have jv:=jv;obtain⟨sa,da⟩:=a;obtain⟨sb,db⟩:=b;obtain⟨_,_,va,la,ma⟩:=Pl.ok_eq HA.o;have⟨_,_,vb,lb,mb⟩:=Pl.ok_eq HB.o;simp only at H H' SA SB SE va la ma vb lb mb ⊢;have VA:=zH va;have VB:=zH vb;have⟨r,HR⟩:∃r,Hid (r=Pl.el (Pl.two k) (sa,da) (sb,db)):=⟨_,rfl⟩;rw[<- HR.o];have⟨p0,E0⟩:=jN (sa.length);obtain⟨p1,E1⟩:=jN (da.length);have⟨p2,E2⟩:=jN (sb.length);have⟨p3,E3⟩:=jN (db.length);rw[E0.o,E1.o] at H SA;rw[E2.o,E3.o] at H' SB;rw[E0.o,E2.o] at SE;rw[E0.o] at la;rw[E1.o] at ma;rw[E2.o] at lb;rw[E3.o] at mb;rw[E0.o,E1.o,E2.o,E3.o];by_cases mD:sa=[]
 ·have⟨z,hz,gX,hv⟩:=Pl.ok_one HA.o mD
  simp only at hz gX;rw[fM mD] at SA;have eP:Hid (r=Pl.wS sb (Pl.eU (Pl.two k z) db)):=by show _=_;rw[HR.o,Pl.el,eD mD,gX]
  obtain⟨b1,o1,rfl,hb1,gE⟩:=H.o.2.rw.at hz;rw[iz] at gE;obtain⟨q1,rfl⟩:∃q,p1=q+1:=⟨p1-1,by have:=(gQ.1 hz).1;have:=E1.o;omega⟩;have HC:=zH (jA hb1 gE);have HV:=zH hv;go_enter func214,ntmps214;go_wp2_with fail;generalize hW:ew (ew (ew (ew w _) _) _) _=W0;have V0:=yA hW;refine(SA.o W0 V0.o.2.2.2.2.1).k λw1 hb=>?_;have V2:=zH (jA (V0.o.1.below hb) (jA (V0.o.2.1.below hb) (jA (V0.o.2.2.1.below hb) (jA (V0.o.2.2.2.1.below hb) (bv hb V0.o.2.2.2.2.1)))));obtain⟨c1,f1,z1⟩:=V2.o.2.1.all;obtain⟨c2,f2,z2⟩:=V2.o.2.2.1.all;go_wp2_with fail;refine(Nq 259 _ (Pl.two k z) _ _ (sb,db) w1 (H'.o.kp (.of V2.o.2.2.2.2)) (by simp only;rw[E2.o];omega) (by simp only;rw[E3.o];omega) (λargs w=>kF) (λx hx W kb=>?_)).mono ?_
  ·exact ZV 259 (.inl rfl) _ _ _ _ _ _ _ x z _ W CF.o ((V2.o.1.below kb).cf.1 0) ((V2.o.2.1.below kb).cf.1 1) (((bv kb V2.o.2.2.2.2).cell (p:=(Y b1 o1)) HC.o.1).trans HC.o.2) λW=>CC.o z x HV.o (ga.1 VB.o x hx) W
  rw[<- eP.o];exact XF
 have hsA:=mD;rw[fH mD] at SA;by_cases nj:sb=[]
 ·have⟨z,hz,gX,hv⟩:=Pl.ok_one HB.o nj
  simp only at hz gX;rw[fM nj] at SB;have eP:Hid (r=Pl.wS sa (Pl.eU (λx=>Pl.two k x z) da)):=by show _=_;rw[HR.o,Pl.el,eB mD,eD nj,gX]
  obtain⟨b1,o1,rfl,hb1,gE⟩:=H'.o.2.rw.at hz;rw[iz] at gE;obtain⟨q1,rfl⟩:∃q,p3=q+1:=⟨p3-1,by have:=(gQ.1 hz).1;have:=E3.o;omega⟩;have HC:=zH (jA hb1 gE);have HV:=zH hv;go_enter func214,ntmps214;go_wp2_with fail;generalize hW:ew (ew (ew (ew w _) _) _) _=W0;have V0:=yA hW;refine(SA.o W0 V0.o.2.2.2.2.1).k λw1 hb=>?_;have V1:=zH (jA (V0.o.1.below hb) (jA (V0.o.2.1.below hb) (jA (V0.o.2.2.1.below hb) (jA (V0.o.2.2.2.1.below hb) (bv hb V0.o.2.2.2.2.1)))));obtain⟨c2,f2,z2⟩:=V1.o.2.2.1.all;go_wp2_with fail;refine(SB.o w1 V1.o.2.2.2.2).k λw2 hb=>?_;have V2:=zH (jA (V1.o.1.below hb) (jA (V1.o.2.1.below hb) (jA (V1.o.2.2.1.below hb) (jA (V1.o.2.2.2.1.below hb) (bv hb V1.o.2.2.2.2)))));obtain⟨c1,f1,z1⟩:=V2.o.2.1.all;obtain⟨c2,f2,z2⟩:=V2.o.2.2.1.all;go_wp2_with fail;refine(Nq 260 _ (λx=>Pl.two k x z) _ _ (sa,da) w2 (H.o.kp (.of V2.o.2.2.2.2)) (by simp only;rw[E0.o];omega) (by simp only;rw[E1.o];omega) (λargs w=>kF) (λx hx W kb=>?_)).mono ?_
  ·exact ZV 260 (.inr rfl) _ _ _ _ _ _ _ x z _ W CF.o ((V2.o.1.below kb).cf.1 0) ((V2.o.2.2.1.below kb).cf.1 1) (((bv kb V2.o.2.2.2.2).cell (p:=(Y b1 o1)) HC.o.1).trans HC.o.2) λW=>CC.o x z (ga.1 VA.o x hx) HV.o W
  rw[<- eP.o];exact XF
 rw[fH nj] at SB;have eP:Hid (r=qH (Pl.two k) (sa,da) (sb,db)):=by show _=_;rw[HR.o,Pl.Od mD nj]
 go_enter func214,ntmps214;go_wp2_with fail;generalize hW:ew (ew (ew (ew w _) _) _) _=W0;have V0:=yA hW;refine(SA.o W0 V0.o.2.2.2.2.1).k λw1 hb=>?_;have V1:=zH (jA (V0.o.1.below hb) (jA (V0.o.2.1.below hb) (jA (V0.o.2.2.1.below hb) (jA (V0.o.2.2.2.1.below hb) (bv hb V0.o.2.2.2.2.1)))));obtain⟨c2,f2,z2⟩:=V1.o.2.2.1.all;go_wp2_with fail;refine(SB.o w1 V1.o.2.2.2.2).k λw2 hb=>?_;have V2:=zH (jA (V1.o.1.below hb) (jA (V1.o.2.1.below hb) (jA (V1.o.2.2.1.below hb) (jA (V1.o.2.2.2.1.below hb) (bv hb V1.o.2.2.2.2)))));obtain⟨c1,f1,z1⟩:=V2.o.2.1.all;obtain⟨c2,f2,z2⟩:=V2.o.2.2.1.all;by_cases hlen:p0=p2
 ·subst hlen
  have ht:((p0:Int) != (p0:Int))=d_:=sI;go_wp2_with (go_at_call 229;refine(iV _ _).mono ?_;rintro e w2 ⟨rfl,rfl⟩)
  refine(SE.o w2 V2.o.2.2.2.2).k λw3 hb=>?_;have V3:=zH (jA (V2.o.1.below hb) (jA (V2.o.2.1.below hb) (jA (V2.o.2.2.1.below hb) (jA (V2.o.2.2.2.1.below hb) (bv hb V2.o.2.2.2.2)))));by_cases hs:sa=sb
  rotate_left 1
  ·have hr:r=.error 3:=by rw[eP.o,qH];simp only;rw[eB (by rw[E0.o,E2.o];simp),eD hs]
   subst hr;rw[fH hs];go_wp2_with (go_at_call 229;refine(kY _ _).mono ?_;rintro e w' ⟨rfl,rfl⟩)
   exact⟨rfl,KP.err V3.o.2.2.2.2⟩
  rw[fM hs];have hr:Hid (r=Pl.wS sa (Pl.eU (Pl.jK (Pl.two k)) (da.zip db))):=by show _=_;rw[eP.o,<- hs,Pl.Da]
  obtain rfl:p3=p1:=by
   have h1:=(Pl.ok_eq HA.o).2.1;have h2:=(Pl.ok_eq HB.o).2.1;simp only[<- hs] at h1 h2;rw[E1.o] at h1;rw[E3.o] at h2;omega
  have⟨G,HG⟩:∃G,Hid (G=Pl.jK (Pl.two k)):=⟨_,rfl⟩;have⟨zl,HZ⟩:∃zl,Hid (zl=da.zip db):=⟨_,rfl⟩;rw[<- HG.o,<- HZ.o] at hr;have LZ:Hid (zl.length=p3):=by show _=_;rw[HZ.o,zu,E1.o,E3.o,A8]
  obtain⟨c1,f1,z1⟩:=V3.o.2.1.all;have MK:=zH λW=>n8 W p3 oM;go_wp2_with (first | (go_at_call 229;refine(iV _ _).mono ?_;rintro e w3 ⟨rfl,rfl⟩) | (rw[MK.o]))
  generalize hW:ew w3 _=W4;have V4:=jV hW;go_loopw [8,9,42] (λ_ _ i wr=>∃(m:Nat)(acc:lI),m<=p3/\i=I (m:Int)/\Hid (acc.length=m/\Pl.eU G zl=gM G zl m acc)/\Hid (Bl w3 wr)/\Hid (Bx wr w3.1.size (Zr acc p3) 3)) (λ_ _ i _=>p3-(intOf i).toNat)
  case atStart=>exact⟨0,[],vZ _,rfl,⟨rfl,(p_ _ _).symm⟩,V4.o.2.1,V4.o.1⟩
  obtain⟨m,acc,hm,rfl,hE,hB,hX⟩:=hrel;have BW:=zH (bv hB.o V3.o.2.2.2.2);have B0:=zH (V3.o.1.below hB.o);have B1:=zH (V3.o.2.1.below hB.o);have B2:=zH (V3.o.2.2.1.below hB.o);have B3:=zH (V3.o.2.2.2.1.below hB.o);have hD:=V3.o.2.2.2.1.lt;by_cases Es:m=p3
  ·subst Es
   have eN:r=.ok (sa,acc):=by rw[hr.o,hE.o.2,qf _ _ _ _ (by rw[LZ.o];omega)];rfl
   subst eN;have oD:=zH (sM hX.o (B:=w.1.size) oM oM hE.o.1);obtain⟨c1,f1,z1⟩:=B1.o.all;go_wp2_with fail;refine(qg E0.o oM sI J5 (H.o.1.rw.kp (.of (bv (w:=w) gG BW.o)))).mono ?_;rintro e w5 ⟨hb,x5,y5,rfl,o5⟩;have K5:Bl wr w5:=bv hb;have V5:=zH (jA (B3.o.below K5) (jA (bv K5 BW.o) (jA (oD.o.kp (.of K5)) (o5.base (B':=w.1.size) (by have:=BW.o.size;simp;omega)))));obtain⟨c5,f5,z5⟩:=V5.o.1.all;go_wp2;refine eJ (by simp[results,results214,go_sem,c5];try rfl) rfl ?_;exact KP.put V5.o.2.2.2 V5.o.2.2.1 (jR _) V5.o.1 V5.o.2.1 oM _ _
  have eI:m<p3:=oM;have⟨x,hx⟩:=gF E1.o eI;have⟨y,hy⟩:=gF E3.o eI;obtain⟨b1,o1,rfl,hb1,gE⟩:=(H.o.2.rw.kp (.of BW.o)).at hx;obtain⟨b3,o3,rfl,eV,pQ⟩:=H'.o.2.rw.at hy;have BH:=(BW.o.cell (p:=(Y b3 (o3+m))) eV).trans pQ;have eL:=zH (qc G zl m acc (x,y) (by rw[HZ.o];exact Gq hx hy));have KK:=zH (CC.o x y (Pl.oG VA.o hx) (Pl.oG VB.o hy));have GE:Hid (G (x,y)=Pl.two k x y):=by rw[HG.o];rfl
  rw[GE.o] at eL;have⟨v9,kN⟩:=sN (l:=acc) (n:=p3) (i:=m) JW eI;have jd:wr.cell? (Y w3.1.size m)=a_ (I v9):=(hX.o.cf.1 m).trans kN;have fD:=hX.o.cf.2 m;have sw:=BW.o.size;have sw3:=V3.o.2.2.2.2.size;have aoW:(m:Int)<(p3:Int):=oM;have nb:¬b3=w3.1.size:=oM;generalize Pl.two k x y=q at *;go_wp2_with fail;refine fT (S:=λW=>W.cell? (Y w.1.size 0)=a_ (.func (.func (247+k)) #[] #[])/\W.cell? (Y (w.1.size+1+1) 1)=a_ (sX (sY b3 o3) p3 y3)/\W.cell? (Y b3 (o3+m))=a_ (I y)) kF ⟨B0.o.cf.1 0,B2.o.cf.1 1,BH⟩ (λhS=>?_);refine tk 0 (sX (sY w3.1.size 0) p3 p3) rfl hS (λ_ _=>kF) ?_;refine tk 1 (I (m:Int)) rfl hS (λ_ _=>kF) ?_;refine tk 2 (pT w.1.size) rfl hS (λ_ _=>kF) ?_;refine tk 3 (.func (.func (247+k)) #[] #[]) rfl hS (λ_ h=>by obtain⟨h0,h1,h2⟩:=h;go_simp) ?_;refine tk 4 (I x) rfl hS (λ_ _=>kF) ?_;refine tk 5 (.pointer (sY (w.1.size+1+1) 1)) rfl hS (λ_ _=>kF) ?_;refine tk 6 (sX (sY b3 o3) p3 y3) rfl hS (λ_ h=>by obtain⟨h0,h1,h2⟩:=h;go_simp) ?_;refine tk 7 (I (m:Int)) rfl hS (λ_ _=>kF) ?_;refine tk 8 (.pointer (sY b3 (o3+m))) rfl hS (λ_ _=>nD (sX (sY b3 o3) p3 y3) (I (m:Int)) rfl kF kF (qx eI)) ?_;refine tk 9 _ rfl hS (λ_ h=>fh _ _ rfl kF (nh h.2.2)) ?_;refine tc 10 (247+k) #[I x,I y] rfl rfl (zI (247+k) #[] #[I x,I y] CF.o rfl kF kF) ((KK.o _).mono ?_);rintro e w' ⟨rfl,hor⟩
  cases q with
  |error c =>
   obtain rfl:=hor;have eN:r=.error c:=by rw[hr.o,hE.o.2,eL.o];rfl
   subst eN;exact .inr ⟨_,rfl,rfl,KP.err (show Bl w wr.drew from by have:=BW.o;go_grown)⟩
  |ok v =>
   obtain rfl:=hor;have X3:Hid (Bx (wr.drew.setCell (Y w3.1.size m) (I v)) w3.1.size (Zr (acc++[v]) p3) 3):=by
    have e:=um (l:=acc) (n:=p3) JW v;rw[hE.o.1] at e;rw[<- e];exact Bx.set (w:=wr.drew) hX.o m _
   have B9:Hid (Bl w3 (wr.drew.setCell (Y w3.1.size m) (I v))):=(show Below _ _ _ from by have:=hB.o;go_grown);have E3:Hid ((acc++[v]).length=m+1/\Pl.eU G zl=gM G zl (m+1) (acc++[v])):=⟨by simp[hE.o.1],by rw[hE.o.2,eL.o]⟩;refine .inl ⟨_,rfl,hS,?_⟩;refine tk 11 (.pointer (sY w3.1.size m)) rfl hS (λ_ _=>nD (sX (sY w3.1.size 0) p3 p3) (I (m:Int)) rfl kF kF (DY eI)) ?_;refine ts 12 (wr.drew.setCell (Y w3.1.size m) (I v)) rfl rfl rfl (jf (.pointer (sY w3.1.size m)) (I v) rfl kF kF (Kq jd fD)) ⟨(rZ J2 _).trans hS.1,(rZ J2 _).trans hS.2.1,(rZ (by simpa using nb) _).trans hS.2.2⟩ ?_;refine te ?_;generalize ez (World.drew wr) _ _=W9 at *;go_simp;go_wp2;go_roundw
   case rel=>exact⟨m+1,_,oM,gN,E3,B9,X3⟩
   simp[intOf];omega
 ·have hr:r=.error 2:=by rw[eP.o,qH];simp only;rw[eD (by rw[E0.o,E2.o];exact hlen)]
  subst hr;have ht:((p0:Int) != (p2:Int))=b_:=by rw[iH];omega
  go_wp2_with (go_at_call 229;refine(kY _ _).mono ?_;rintro e w' ⟨rfl,rfl⟩)
  exact⟨rfl,KP.err V2.o.2.2.2.2⟩
 ):ρ:=h
def ae4(k:Nat)(gp:1<=k)(hk1:k<11)(v0 v1 v2 v3:Va)(a b:Ar)(w:Wd)(h:RA P w v0 v1 a)(h':RA P w v2 v3 b)(ha:Pl.okB a=b_)(hb:Pl.okB b=b_):Cp 214 #[mB k,.agg #[v0,v1],.agg #[v2,v3]] w (KP w (Pl.el (Pl.two k) a b)):=by
 have H:=zH h;have H':=zH h';have HA:=zH ha;have HB:=zH hb;open amP in exact lO
end
end
section
variable {dn acc:List Int}{t:Nat}
section
variable {P:Nat->Prop} {w:Wd}
def pc(x:Option Addr)(n y:Nat)(zs:List Int)(s r t:Nat)(h:Ri P w (.slice x n y) zs)(hrt:r<=t)(ht:t * s<=n)(hn:n<=1000000)(hs:s<=1000000)(hr:t<=1000000):Cp 258 #[.slice x n y,I (s:Int),I (r:Int),I (t:Int)] w λe w'=>w'=w/\e=.returned (.slice (fU x (r * s) y) (t * s-r * s) (y-r * s)):=by
 have hc:=h.cap.1;have h1:r * s<=t * s:=gv _ hrt;have C1:=zH λW=>Ps (w:=W) (x:=x) (n:=n) (y:=y) (l:=r * s) (h:=t * s) h1 oM;have⟨p,HP⟩:=jN (r * s);have⟨q,HQ⟩:=jN (t * s);have e1:(r:Int) * (s:Int)=(p:Int):=by rw[<- HP.o];simp
 have e2:(t:Int) * (s:Int)=(q:Int):=by rw[<- HQ.o];simp
 rw[HP.o,HQ.o] at h1;rw[HQ.o] at ht;rw[HP.o,HQ.o] at C1 ⊢;have hp:p<=1000000:=oM;have hq:q<=1000000:=oM;clear h hrt hc h1;go_enter func258,ntmps258;go_wp2_with (refine iW rfl (Oa rfl rfl rfl rfl (C1.o _)) ?_)
 exact pq
end
def Oi.at{B:Nat}{w:Wd}{x:Option Addr}{n y:Nat}{zs:List Int}(h:Oi B w (.slice x n y) zs){k:Nat}{v:Int}(hk:zs[k]? = a_ v):∃g,x=a_ (Y g 0)/\B<=g/\g<w.1.size/\w.cell? (Y g k)=a_ (I v)/\(∀j,w.frozen? (Y g j)=d_)/\∀u:Int,Oi B (w.setCell (Y g k) (I u)) (.slice x n y) (zs.set k u):=by
 have hn:n=zs.length:=by have:=h.ri.rw.len;omega
 subst hn;rcases h.2 with ⟨e,h0⟩|⟨g,cap,cur,e,hb,hg,h1,h2,h3,h4⟩
 ·simp[lP.1 h0] at hk
 simp only[s7] at e;obtain⟨rfl,-,rfl⟩:=e;have hkl:=(gQ.1 hk).1;refine⟨g,rfl,hb,(uB.1 hg).1,?_,World.ownsRow.frozenAt h,λu=>?_⟩
 ·rw[World.ownsRow.cellAt h k oM,qo,hk];rfl
 have:=(World.ownsRow.stored h k (I u)).1;unfold Oi;rwa [List.map_set,List.length_set]
namespace Pl
def ahf(h:dn.length=t)(ht:t<acc.length)(v:Int):(dn++acc.drop t).set t v=(dn++[v])++acc.drop (t+1):=by
 rw[Z3 _ _ oM,h,qt,qW ht,List.set_cons_zero];simp
def ahC(h:dn.length=t):(dn++acc.drop t)[t]? = acc[t]?:=by
 rw[oI oM,h,qt,PZ,iz]
end Pl
def LP(w:Wd)(r:Except Int (List Int))(e:Ending)(w':Wd):Prop:=Below w.1.size w w'/\match r with
 |.ok d=>∃u,e=.returned u/\Oi w.1.size w' u d
 |.error c=>e=.panicked [lR c]
section
variable {P:Nat->Prop} {w:Wd}
def WE(k:Nat)(gp:1<=k)(hk1:k<11)(x:Option Addr)(L y:Nat)(da:List Int)(s m:Nat)(h:Ri P w (.slice x L y) da)(hl:L=(m+1) * s)(hL:L<=1000)(hm:m<=1000)(hv:da.all Pl.fB=b_):Cp 244 #[mB k,.slice x L y,I ((m:Int)+1)] w (LP w (Pl.fold (Pl.two k) da s (m+1))):=by
 have hs:s<=1000:=by have:=xD s (show 0<m+1 by omega);omega
 have H:=zH h;have kv:=h.cap;have CF:=zH (H6 k gp hk1);have CC:=zH λx y (hx:Pl.fB x=b_) (hy:Pl.fB y=b_) W=>Ga x y hx hy k gp hk1 W;have HV:=zH hv;have⟨r,HR⟩:∃r,Hid (r=Pl.fd (Pl.two k) da s m (Pl.rowAt da s m)):=⟨_,rfl⟩;rw[show Pl.fold (Pl.two k) da s (m+1)=r by rw[HR.o];rfl];have KR:Hid (∀W (t:Nat),Bl w W->t<=m->Cp 258 #[.slice x L y,I (s:Int),I (t:Int),I ((t:Int)+1)] W λe w'=>w'=W/\∃x' y',e=.returned (.slice x' s y')/\Ri P w (.slice x' s y') (Pl.rowAt da s t)):=λW t kb ht=>by
  have hh:=h.kp (.of kb);have h1:(t+1) * s<=(m+1) * s:=gv _ oM;have:=pc x L y da s t (t+1) hh oM oM oM oM oM;have e:(t+1) * s-t * s=s:=by rw[iu];omega
  rw[e] at this;refine this.mono ?_;rintro e' w' ⟨rfl,rfl⟩;refine⟨rfl,_,_,rfl,?_⟩;have hc:=h.cut (l:=t * s) (h:=(t+1) * s) (by rw[iu];omega) oM;rw[e] at hc;exact hc
 have Lg:(L:Int).tdiv ((m:Int)+1)=(s:Int):=by
  rw[Bj oM,hl];have:(((m+1) * s:Nat):Int)=((m:Int)+1) * (s:Int):=sI;rw[this,Z0 _ oM]
 have Te:¬((m:Int)+1=0):=oM;have ya:Hid (∀t,t<=m->(Pl.rowAt da s t).length=s):=λt ht=>Pl.rK (by rw[kv.2.2,hl];exact gv _ oM);have RV:Hid (∀t,(Pl.rowAt da s t).all Pl.fB=b_):=λt=>Pl.C8 HV.o;clear h hl kv hv;go_enter func244,ntmps244;go_wp2_with fail;refine(KR.o _ m gG (jR _)).mono ?_;rintro e w1 ⟨rfl,x1,y1,rfl,R1⟩;have b0:Bx (w.alloc (.cells #[.func (.func (247+k)) #[] #[],I (Pl.iR k),.bool (decide (8<=k))] 244)) w.1.size _ _:=.eK rfl;have RR:=zH R1;clear R1;go_wp2_with fail;refine(qg (ya.o m (jR _)) oM sI J5 (RR.o.rw.kp (.of gG))).mono ?_;rintro e w2 ⟨hb,x2,y2,rfl,o2⟩;have V2:Hid (Bx w2 w.1.size #[.func (.func (247+k)) #[] #[],I (Pl.iR k),.bool (decide (8<=k))] 244/\Bl w w2/\Oi (w.1.size+1) w2 (.slice x2 s y2) (Pl.rowAt da s m)):=⟨.below (.al (.eK rfl) _) hb,bv hb,o2.base sI⟩;clear hb o2 b0 RR;go_wp2_with fail;have⟨G,HG⟩:∃G,Hid (G=Pl.jK (Pl.two k)):=⟨_,rfl⟩;clear Te Lg;go_loopw [9,10,11] (λi _ _ wr=>∃(q:Nat)(acc:List Int),q<=m/\i=I ((q:Int)-1)/\Hid (acc.length=s/\acc.all Pl.fB=b_/\r=Pl.fd (Pl.two k) da s q acc)/\Hid (Below (w.1.size+1) w2 wr)/\Hid (Oi (w.1.size+1) wr (.slice x2 s y2) acc)) (λi _ _ _=>(intOf i+1).toNat)
 case atStart=>exact⟨m,_,jR _,by congr 1;omega,⟨ya.o m (jR _),RV.o m,HR.o⟩,jD _ _,V2.o.2.2⟩
 obtain⟨q,acc,hq,rfl,hE,hB,hO⟩:=hrel;have sw2:=V2.o.1.lt;have BW:=zH (V2.o.2.1.trans (hB.o.mono oM))
 cases q with
 |zero =>
  have hr:r=.ok acc:=hE.o.2.2;subst hr;have e1:(((0:Nat):Int)-1)=-1:=rfl;rw[e1];clear e1;go_wp2;go_returns
  exact⟨BW.o,_,rfl,hO.o.base oM⟩
 |succ t =>
  have e1:(((t+1:Nat):Int)-1)=(t:Int):=oM;rw[e1];clear e1;go_wp2_with fail;refine(KR.o wr t BW.o oM).mono ?_;rintro e w3 ⟨rfl,x3,y3,rfl,R3⟩;have RR:=zH R3;have⟨xs,HX⟩:∃xs,Hid (xs=Pl.rowAt da s t):=⟨_,rfl⟩;have⟨zl,HZ⟩:∃zl,Hid (zl=xs.zip acc):=⟨_,rfl⟩;have LX:Hid (xs.length=s):=by show _=_;rw[HX.o];exact ya.o t oM
  have LA:Hid (acc.length=s):=hE.o.1;have LZ:Hid (zl.length=s):=by show _=_;rw[HZ.o,zu,LX.o,LA.o,A8]
  have hr:Hid (r=match Pl.eU G zl with
   |.error c=>.error c
   |.ok acc'=>Pl.fd (Pl.two k) da s t acc'):=by show _=_;rw[hE.o.2.2,HG.o,HZ.o,HX.o];rfl
  have XV:Hid (xs.all Pl.fB=b_):=by rw[HX.o];exact RV.o t
  have AV:Hid (acc.all Pl.fB=b_):=hE.o.2.1;rw[<- HX.o] at RR;clear R3 hE;go_wp2_with fail;go_loopw [10,11,37] (λ_ _ jj wq=>∃(j:Nat)(dn:List Int),j<=s/\jj=I (j:Int)/\Hid (dn.length=j/\Pl.eU G zl=gM G zl j dn)/\Hid (Below (w.1.size+1) w2 wq)/\Hid (Oi (w.1.size+1) wq (.slice x2 s y2) (dn++acc.drop j))) (λ_ _ jj _=>s-(intOf jj).toNat)
  case atStart=>exact⟨0,[],vZ _,rfl,⟨rfl,(p_ _ _).symm⟩,hB,hO⟩
  obtain⟨j,dn,hj,rfl,hF,hC,hP⟩:=hrel;have BQ:=zH (V2.o.2.1.trans (hC.o.mono oM));by_cases SF:j=s
  ·subst SF
   have fY:Pl.eU G zl=.ok dn:=by rw[hF.o.2,qf _ _ _ _ (by rw[LZ.o];omega)]
   have j_:Hid (dn.length=j/\dn.all Pl.fB=b_/\r=Pl.fd (Pl.two k) da j t dn):=⟨hF.o.1,by
    rw[HG.o,HZ.o] at fY;refine ga.2 (Pl.qL fY λp hp v hv=>?_);have:=DJ hp;exact Pl.w_ (by simp[Pl.fN] <;> omega) (ga.1 XV.o _ this.1) (ga.1 AV.o _ this.2) hv,by rw[hr.o,fY]⟩
   have hP2:Hid (Oi (w.1.size+1) wr (.slice x2 j y2) dn):=by
    have:=hP.o;rw[A_ (by rw[LA.o];omega),rU] at this;exact this
   clear fY hr;go_wp2;go_roundw
   case rel=>exact⟨t,dn,oM,gN,j_,hC,hP2⟩
   simp[intOf]
  have eI:j<s:=oM;have⟨x,hx⟩:=gF LX.o eI;have⟨y,hy⟩:=gF LA.o eI;obtain⟨b1,o1,rfl,hb1,gE⟩:=(RR.o.rw.kp (.of BQ.o)).at hx;have QV:(dn++acc.drop j)[j]? = a_ y:=by rw[ahC hF.o.1];exact hy
  obtain⟨g,rfl,tM,lF,uX,fD,aaP⟩:=hP.o.at QV;have HU:=zH aaP;have B0:=zH (V2.o.1.bn hC.o oM);have eL:=zH (qc G zl j dn (x,y) (by rw[HZ.o];exact Gq hx hy));have KK:=zH (CC.o x y (Pl.oG XV.o hx) (Pl.oG AV.o hy));have GE:Hid (G (x,y)=Pl.two k x y):=by rw[HG.o];rfl
  rw[GE.o] at eL;have fDj:=fD j;have SM:=zH λv=>ahf hF.o.1 (show j<acc.length by rw[LA.o];exact eI) v;have aoW:(j:Int)<(s:Int):=oM;have nw:¬w.1.size=g:=oM;generalize Pl.two k x y=qq at *;clear hx hy QV aaP fD GE;go_wp2_with fail;refine fT (S:=λW=>W.cell? (Y w.1.size 0)=a_ (.func (.func (247+k)) #[] #[])) kF (B0.o.cf.1 0) (λhS=>?_);refine tk 0 (.slice (a_ (Y g 0)) s y2) rfl hS (λ_ _=>kF) ?_;refine tk 1 (I (j:Int)) rfl hS (λ_ _=>kF) ?_;refine tk 2 (pT w.1.size) rfl hS (λ_ _=>kF) ?_;refine tk 3 (.func (.func (247+k)) #[] #[]) rfl hS (λ_ h=>by have h0:=h;go_simp) ?_;refine tk 4 (I x) rfl hS (λ_ _=>kF) ?_;refine tk 5 (.slice (a_ (Y g 0)) s y2) rfl hS (λ_ _=>kF) ?_;refine tk 6 (I (j:Int)) rfl hS (λ_ _=>kF) ?_;refine tk 7 (.pointer (a_ (Y g j))) rfl hS (λ_ _=>nD (.slice (a_ (Y g 0)) s y2) (I (j:Int)) rfl kF kF (DY eI)) ?_;refine tv 8 (I y) wr.drew rfl rfl (fh (.pointer (a_ (Y g j))) _ rfl kF (nh uX)) hS ?_;refine tc 9 (247+k) #[I x,I y] rfl rfl (zI (247+k) #[] #[I x,I y] CF.o rfl kF kF) ((KK.o _).mono ?_);rintro e w' ⟨rfl,hor⟩
  cases qq with
  |error c =>
   obtain rfl:=hor;have eN:r=.error c:=by rw[hr.o,hF.o.2,eL.o]
   subst eN;exact .inr ⟨_,rfl,rfl,(show Bl w wr.drew from by have:=BQ.o;go_grown),rfl⟩
  |ok v =>
   obtain rfl:=hor;have O9:Hid (Oi (w.1.size+1) (wr.drew.setCell (Y g j) (I v)) (.slice (a_ (Y g 0)) s y2) ((dn++[v])++acc.drop (j+1))):=by
    rw[<- SM.o v];exact HU.o v
   have B9:Hid (Below (w.1.size+1) w2 (wr.drew.setCell (Y g j) (I v))):=(show Below _ _ _ from by have:=hC.o;go_grown);have F9:Hid ((dn++[v]).length=j+1/\Pl.eU G zl=gM G zl (j+1) (dn++[v])):=⟨by simp[hF.o.1],by rw[hF.o.2,eL.o]⟩;refine .inl ⟨_,rfl,hS,?_⟩;refine tk 10 (.pointer (a_ (Y g j))) rfl hS (λ_ _=>nD (.slice (a_ (Y g 0)) s y2) (I (j:Int)) rfl kF kF (DY eI)) ?_;refine ts 11 (wr.drew.setCell (Y g j) (I v)) rfl rfl rfl (jf (.pointer (a_ (Y g j))) (I v) rfl kF kF (Kq uX fDj)) ((rZ (by simpa using nw) _).trans hS) ?_;refine te ?_;clear uX fDj gE hb1 HU;generalize ez (World.drew wr) _ _=W9 at *;go_simp;go_wp2;go_roundw
   case rel=>exact⟨j+1,_,oM,gN,F9,B9,O9⟩
   simp[intOf];omega
end
end
section
variable {w:Wd}{n j:Nat}{x:Int}
abbrev Zl(l:lI):aV:=(l.map (Value.int .i64)).toArray
def xH(n:Nat):Zr [] n=Zl (eE n 0):=by simp[Zr,Zl]
def y_{B D:Nat}{l:lI}(h:Bx w D (Zl l) 3)(hB:B<=D)(hn:n<=1048576)(e:l.length=n):Oi B w (sX (sY D 0) n n) l:=by
 subst e;exact sM (by simpa[Zr] using h) hB hn rfl
def Hy{P:nK}(ty:TypeId)(g off dl dc sl sc m:Nat)(dp sp:oA)(zs ss:lI)(hg:Bx w g (Zl zs) 3)(hs:Rw P w (sX sp sl sc) ss)(hm:m=min sl dl)(hd:0<m->dp=sY g off)(hf:off+m<=zs.length):
  ∃w',(Builtin.copy_ #[23,23] ty #[sX dp dl dc,sX sp sl sc]).run prog w=.ok (I (m:Int)) w'/\Bx w' g (Zl (splice zs off (ss.take m))) 3/\∀B w0,Below B w0 w->B<=g->Below B w0 w':=by
 have hz:(prog.info? 3).map (·.size)=a_ 1:=kF;have hl:=hs.len;by_cases h0:m=0
 ·subst h0
  exact⟨w,run_copy_none w 23 23 ty 3 dp sp dl dc sl sc underlying23 hz hm.symm,by simpa[splice] using hg,λB w0 h _=>h⟩
 obtain rfl:=hd oM;obtain⟨a,k,e,h|⟨b,o,e',hb,hc⟩⟩:=hs
 ·subst h;simp at hl;omega
 simp only[s7] at e;obtain⟨rfl,-,-⟩:=e;subst e';have hlen:((ss.take m).map (Value.int .i64)).length=m:=by rw[qU,jH];omega
 have hr:=run_copy_row (P:=prog) w 23 23 ty 3 g off dl dc (Y b o) sl sc (Zl zs) 3 ((ss.take m).map (Value.int .i64)) underlying23 hz hg (by rw[hlen];exact hm) (λj v hj=>by
  rw[qo] at hj;obtain⟨y,hy,rfl⟩:=xG.1 hj;rw[vN];rw[PM] at hy;split at hy
  ·exact hc j y hy
  cases hy) (by rw[hlen];simpa using hf) (λv hv=>by obtain⟨y,_,rfl⟩:=mu.1 hv;rfl)
 rw[hlen] at hr;refine⟨_,hr,?_,λB w0 h hB=>below_setRow h hB _⟩;have e2:(Zl (splice zs off (ss.take m)))=((Zl zs).toList.take off++(ss.take m).map (Value.int .i64)++(Zl zs).toList.drop (off+m)).toArray:=by
  have:(ss.take m).length=m:=by rw[jH];omega
  simp[splice,List.map_take,List.map_drop,this]
 rw[e2];exact setRow_heap w g _ _ 3 _ hg
def D3{o:Oper}{a:Act}{w':Wd}{v vd vs:Va}(d s:Operand)(ho:o.op=Op.call { callee:=Callee.builtin Builtin.copy,args:=#[d,s],argTypes:=#[23,23] })(hd:a.eval d=vd)(hs:a.eval s=vs)(hr:(Builtin.copy_ #[23,23] o.type #[vd,vs]).run prog w=.ok v w'):(execOp a.eval o).run prog w=.ok (.value v) w':=by
 simp[execOp,ho,resolve,invoke,builtin,hd,hs,hr,Result.andThen]
def M'(a:Nat)(h:a<=1000):bits .and .u64 (a:Int) 4294967295=(a:Int):=by
 have h1:=bits_and_u64_nat a 4294967295 oM oM;have e:a &&& 4294967295=a % 4294967296:=Nat.and_two_pow_sub_one_eq_mod a 32;rw[e] at h1;rw[show ((4294967295:Nat):Int)=4294967295 from rfl] at h1;rw[h1];omega
def aev(cp:Nat)(w:Wd)(h:cp<=1000):Cp 300 #[.int .u64 1,.int .u64 (cp:Int)] w λe w'=>e=rT (.tuple #[.int .u64 0,.int .u64 (cp:Int)])/\w'=w:=by
 have e1:bits .and .u64 1 4294967295=1:=M' 1 oM;have e0:bits .and .u64 0 4294967295=0:=M' 0 oM;have e2:=M' cp h;have d0:(cp:Int) / 4294967296=0:=oM;have wc:IntKind.u64.wrap (cp:Int)=(cp:Int):=by rw[PA];omega
 have w0:IntKind.u64.wrap 0=0:=by rw[PA];omega
 go_enter func300,ntmps300;exact mM
def mul_one(cp:Nat)(w:Wd)(h:cp<=1000):Cp 283 #[.int .u64 1,.int .u64 (cp:Int)] w λe w'=>e=rT (.tuple #[.int .u64 0,.int .u64 (cp:Int)])/\w'=w:=by
 have K:=zH (aev cp w h);go_enter func283,ntmps283;go_wp2_with (go_at_call 300;refine K.o.mono ?_;rintro e w' ⟨rfl,rfl⟩)
 exact pq
def pD(x:Int)(n j:Nat):lI:=eE j x++eE (n-j) 0
def Nv(h:j<=n):(pD x n j).length=n:=by simp[pD];omega
def UR{m:Nat}(h:j+m<=n):splice (pD x n j) j (eE m x)=pD x n (j+m):=by
 unfold splice pD;rw[PI sI,mR sI,vE,List.drop_append,Be sI,qn,vE,Iw,PS,<- Z7,vG];congr 3
 omega
def adq{P:nK}(v:Va)(x:Int)(n:Nat)(h:Rw P w v [x])(hn:n<=1000):Cp 246 #[v,I (n:Int)] w λe w'=>Bl w w'/\∃u,e=rT u/\Oi w.1.size w' u (eE n x):=by
 have KM:=zH (λw=>mul_one n w hn);have H:=zH h;obtain⟨sp,sc,rfl,-⟩:=h;have Bv:¬((n:Int)<0):=oM;have wc:IntKind.u64.wrap (n:Int)=(n:Int):=by rw[PA];omega
 have wi:IntKind.i64.wrap (n:Int)=(n:Int):=by rw[lj];omega
 have Jz:¬((9223372036854775807:Int)<(n:Int)):=oM;have MK:=zH λW=>n8 W n oM;have gr:[x].length=1:=rfl;rw[gr] at H ⊢;have R0:Hid (Bx (w.alloc (.cells (Zr [] n) 3)) w.1.size (Zl (pD x n 0)) 3):=by
  have:Zl (pD x n 0)=Zr [] n:=by rw[xH];simp[pD]
  rw[this];exact .eK rfl
 have⟨w2,hr,hx,hB⟩:=Hy 3 w.1.size 0 n n 1 sc (min 1 n) (sY w.1.size 0) sp _ _ R0.o (H.o.kp (.of gG)) rfl (λ_=>rfl) (by rw[Nv (vZ _)];omega);have CP:=zH hr;have B2:Hid (Bl w w2):=hB _ _ gG (jR _);have X2:Hid (Bx w2 w.1.size (Zl (pD x n (min 1 n))) 3):=by
  have e:([x]:lI).take (min 1 n)=eE (min 1 n) x:=by
   rcases rR n with h|h
   ·subst h;rfl
   rw[show min 1 n=1 by omega];rfl
  rw[e] at hx;have e2:=UR (x:=x) (n:=n) (j:=0) (m:=min 1 n) oM;rw[gY] at e2;rw[e2] at hx;exact hx
 clear hr hx hB R0;have⟨j0,J0⟩:∃j,Hid (min 1 n=j/\j<=n/\(0<n->1<=j)):=⟨_,rfl,oM,λ_=>oM⟩;rw[J0.o.1] at CP X2;go_enter func246,ntmps246;go_wp2_with (first
  |(go_at_call 283;refine(KM.o _).mono ?_;rintro e w ⟨rfl,rfl⟩)
  |(rw[MK.o])
  |(refine iW rfl (D3 (.tmp 31) (.tmp 32) rfl rfl rfl CP.o) ?_))
 clear wc wi Jz Bv MK KM CP;go_loopw [8] (λi wr=>∃j:Nat,j<=n/\(0<n->1<=j)/\i=I (j:Int)/\Hid (Bx wr w.1.size (Zl (pD x n j)) 3)/\Hid (Bl w wr)) (λi _=>n-(intOf i).toNat)
 case atStart=>exact⟨j0,J0.o.2.1,J0.o.2.2,rfl,X2,B2⟩
 obtain⟨j,hj,hj1,rfl,hX,hB⟩:=hrel;clear X2 B2 J0 H;by_cases gD:j=n
 ·subst gD
  go_wp2;go_returns
  have e:pD x j j=eE j x:=by simp[pD]
  refine⟨hB.o,_,rfl,y_ (B:=w.1.size) ?_ (jR _) oM sI⟩;rw[<- e];exact hX.o
 have eI:(j:Int)<(n:Int):=oM;have⟨m,hm⟩:∃m,m=min j (n-j):=⟨_,rfl⟩;have fY:j+m<=n:=oM;have jw:1<=m:=oM;have RI:=(y_ (B:=w.1.size) hX.o (jR _) oM (Nv hj)).ri;have RC:=RI.cut (l:=0) (h:=j) (vZ _) hj;have⟨w5,hr,hx,rA⟩:=Hy (w:=wr.drew) 3 w.1.size j (n-j) (n-j) (j-0) (n-0) m (fU (sY w.1.size 0) j n) (fU (sY w.1.size 0) 0 n) _ _ hX.o RC.rw (by rw[hm,mw]) (λ_=>by simp[fU,show ¬n=j by omega,Addr.add];omega) (by rw[Nv hj];exact fY);have C5:=zH hr;have B5:Hid (Bl w w5):=rA _ _ hB.o.drew (jR _);have X5:Hid (Bx w5 w.1.size (Zl (pD x n (j+m))) 3):=by
  have e:((((pD x n j).drop 0).take (j-0)).take m)=eE m x:=by
   rw[vK,mw,Bp,show min m j=m by omega];unfold pD;rw[PI J2,List.take_replicate,show min m j=m by omega]
  rw[e,UR fY] at hx;exact hx
 have CL:=zH λW=>mO (w:=W) (x:=sY w.1.size 0) (n:=n) (y:=n) hj;have CH:=zH λW=>DV (w:=W) (x:=sY w.1.size 0) (n:=n) (y:=n) hj;clear hr hx rA RI RC hm;generalize fU (sY w.1.size 0) j n=ad,fU (sY w.1.size 0) 0 n=as0 at *;go_wp2_with fail;refine fT (S:=λ_=>True) kF trivial (λhS=>?_);refine tk 0 (I (j:Int)) rfl hS (λ_ _=>kF) ?_;refine tk 1 (sX (sY w.1.size 0) n n) rfl hS (λ_ _=>kF) ?_;refine tk 2 (I (j:Int)) rfl hS (λ_ _=>kF) ?_;refine tk 3 (sX ad (n-j) (n-j)) rfl hS (λW _=>ie rfl kF kF (CL.o W)) ?_;refine tk 4 (sX (sY w.1.size 0) n n) rfl hS (λ_ _=>kF) ?_;refine tk 5 (I (j:Int)) rfl hS (λ_ _=>kF) ?_;refine tk 6 (sX as0 (j-0) (n-0)) rfl hS (λW _=>AW rfl kF kF (CH.o W)) ?_;refine tv 7 (I (m:Int)) w5 rfl rfl (D3 (.tmp 41) (.tmp 44) rfl kF kF C5.o) hS ?_;have SG:IntKind.i64.wrap ((j:Int)+(m:Int))=(j:Int)+(m:Int):=by rw[lj];omega
 refine tk 8 (I ((j:Int)+(m:Int))) rfl hS (λ_ _=>by go_simp) ?_;refine tk 9 (I ((j:Int)+(m:Int))) rfl hS (λ_ _=>kF) ?_;refine te ?_;clear C5 CL CH;go_simp;go_wp2;go_roundw
 case rel=>exact⟨j+m,oM,λ_=>oM,gN,X5,B5⟩
 simp[intOf];omega
end
section
def Kc{o:Oper}{a:Act}{w:Wd}{x:Operand}{p:Option Addr}{n y:Nat}(ho:o.op=Op.buildSlice 179 1 #[(0,x)])(hx:a.eval x=.slice p n y):(execOp a.eval o).run prog w=.ok (.value (.slice (a_ ⟨w.1.size,0,c_⟩) 1 1)) (w.alloc (.cells #[.slice p n y] 23)):=by
 have:(Instr.buildSlice 179 1 #[(0,.slice p n y)]).run prog w=.ok (.slice (a_ ⟨w.1.size,0,c_⟩) 1 1) (w.alloc (.cells #[.slice p n y] 23)):=by go_simp
 simp[execOp,ho,hx,this,Result.andThen]
abbrev oh(k:Nat):Array Va:=#[.func (.func (247+k)) #[] #[],.int .i64 (Pl.iR k),.bool (decide (8<=k))]
def Qf{w:Wd}{b k:Nat}(h:Bx w b (oh k) 244):(Instr.loadAt 244 (.pointer (a_ ⟨b,0,c_⟩))).run prog w=.ok (mB k) w:=by
 have c:=h.cf.1;have c0:=c 0;have c1:=c 1;have c2:=c 2;go_simp
def alO{w:Wd}{b k:Nat}(h:Bx w b (oh k) 244):(Instr.loadAt 3 (.pointer (a_ ⟨b,1,c_⟩))).run prog w=.ok (.int .i64 (Pl.iR k)) w:=nh (h.cf.1 1)
def KP.QP{w w1:Wd}{c:Nat}{v0 v1:Va}{a:Ar}{cs:Array Va}{B:Nat}(o:O2 B w1 v0 v1 a)(hN:w.1.size<=B)(bc:Bx w1 c cs 30)(hb:Below w.1.size w w1)(h0:w.1.size<=c)(x y:Va):KP w (.ok a) (.returned (.agg #[v0,v1])) ((w1.setCell ⟨c,0,c_⟩ x).setCell ⟨c,1,c_⟩ y) :=
 KP.put o.1 o.2.1 hN bc hb h0 x y
def τ{X:Prop}(h:X:=by
 refine tc 8 246 #[.slice (a_ ⟨bl,0,c_⟩) 1 1,.int .i64 (s:Int)] rfl rfl kF ((adq _ (Pl.iR k) s OL oM).mono ?_);rintro e w9 ⟨hb,u,rfl,o9⟩;obtain⟨x9,y9,e9⟩:=o9.form;rw[vE] at e9;subst e9;have K9:=bv hb KZ;have S9:=J.o _ K9;have sz:=KZ.size;have kX:=zH (KP.put (w:=w) (OS.kp (.of hb)) (o9.base sz) S9.2.2.2.2 S9.2.2.1 S9.2.2.2.1 (show w.1.size<=w.1.size+1+1 by omega) (.slice x2 p0 y2) (.slice x9 s y9));refine .inl ⟨_,rfl,⟨S9.1,S9.2.1⟩,?_⟩;refine tk 9 (.agg #[.slice x2 p0 y2,.slice x9 s y9]) rfl ⟨S9.1,S9.2.1⟩ (λ_ _=>kF) ?_;refine ts 10 _ rfl rfl rfl (jf (.pointer (a_ ⟨w.1.size+1+1,0,c_⟩)) (.agg #[.slice x2 p0 y2,.slice x9 s y9]) rfl kF kF (mU S9.2.2.1)) ⟨(S9.1.eC J2 _).eC J2 _,(S9.2.1.eC sI _).eC sI _⟩ ?_;refine te ?_;obtain⟨c5,f5,z5⟩:=S9.2.2.1.all;clear OS OL KZ hb o9 K9 S9 sz;go_simp;go_wp2_with fail;refine eJ (by simp[results,results209,go_sem,c5];try rfl) rfl ?_;exact kX.o):X:=h
section
variable {P:Nat->Prop} {w:Wd}
def amu.sK(h:ρ:=by
 refine(SA.o W0 V0.o.2.2.2.1).mono ?_;rintro e B ⟨rfl,hb⟩;have J:Hid (∀W,Below B.1.size B W->Bx W w.1.size (oh k) 244/\Bx W (w.1.size+1) #[.slice (a_ ⟨b0,o0,c_⟩) (p0+1) y0,.slice x1 p1 y1] 30/\Bx W (w.1.size+1+1) #[.slice c_ 0 0,.slice c_ 0 0] 30/\Below w.1.size w W/\w.1.size<=B.1.size):=λW kk=>⟨(V0.o.1.below hb).below kk,(V0.o.2.1.below hb).below kk,(V0.o.2.2.1.below hb).below kk,bv kk (bv hb V0.o.2.2.2.1),(bv hb V0.o.2.2.2.1).size⟩;obtain⟨S0,S1,S2,S3,hz⟩:=J.o B (jD _ _);obtain⟨c1,f1,z1⟩:=S1.all;obtain⟨c3,f3,z3⟩:=S0.all;have jS:=(S3.cell (p:=⟨b0,o0,c_⟩) kE).trans hc0;have zb:b0<B.1.size:=jL kE S3.size;have RB:=zH λW (kk:Below B.1.size B W)=>H0.o.rw.kp (.of (bv kk S3));clear hb V0 f1 f3 S0 S1 S2 S3;by_cases hn0:n=0
 ·subst hn0
  have eP:Hid (r=if 8<=(k:Int) then .error 1 else if Pl.fy row=b_ then .ok (row,eE s (Pl.iR k)) else .error 6):=by show _=_;rw[HR.o,<- HS.o];rfl
  clear HR;by_cases h8:8<=k
  ·have hr:r=.error 1:=by rw[eP.o,eD oM]
   subst hr;have TN:B.cell? ⟨w.1.size,2,c_⟩=a_ (.bool b_):=by rw[c3 2];simp[h8]
   clear c3;go_wp2_with (first | (refine iW rfl (ie rfl rfl rfl (C0.o _)) ?_) | (go_at_call 229;refine(kY _ _).mono ?_;rintro e w' ⟨rfl,rfl⟩))
   exact⟨rfl,KP.err (J.o _ (jD _ _)).2.2.2.1⟩
  rw[eB oM] at eP;have NF:=zH λW (kk:Below B.1.size B W)=>yO _ row (RB.o W kk)
  cases hft:Pl.fy row
  ·rw[hft,eB dC] at eP
   have hr:=eP.o;subst hr;rw[hft] at NF;have TN:B.cell? ⟨w.1.size,2,c_⟩=a_ (.bool d_):=by rw[c3 2];simp[h8]
   clear c3;go_wp2_with (first | (refine iW rfl (ie rfl rfl rfl (C0.o _)) ?_) | (go_at_call 229;refine(iV _ _).mono ?_;rintro e B ⟨rfl,rfl⟩))
   refine(NF.o B (jD _ _)).mono ?_;rintro e B ⟨rfl,he⟩;obtain rfl:e=.panicked [lR 6]:=he;exact⟨rfl,KP.err (J.o _ (jD _ _)).2.2.2.1⟩
  rw[hft,eD rfl] at eP;have hr:=eP.o;subst hr;rw[hft] at NF;have TN:B.cell? ⟨w.1.size,2,c_⟩=a_ (.bool d_):=by rw[c3 2];simp[h8]
  clear c3;have fe:=Pl.g_ hft;have hs:s<=1000:=by rw[<- HS.o];simp only[Pl.eQ];omega
  have es:Pl.eR row=(s:Int):=by rw[<- HS.o];simp[Pl.eQ,kl hp]
  have KC:Hid (∀W,Below B.1.size B W->Cp 54 #[.slice z9 p0 k9] W λe w'=>e=.returned (.int .i64 (s:Int))/\w'=W):=λW kk=>by
   have:=qJ _ (RB.o W kk) HBR.o;rw[es] at this;exact this
  clear fe es eP;go_wp2_with (first | (refine iW rfl (ie rfl rfl rfl (C0.o _)) ?_) | (go_at_call 229;refine(iV _ _).mono ?_;rintro e B ⟨rfl,rfl⟩))
  refine(NF.o B (jD _ _)).mono ?_;rintro e B ⟨rfl,he⟩;obtain rfl:e=.returned (.tuple #[]):=he;go_wp2_with fail;refine fT (S:=λW=>Bx W w.1.size (oh k) 244/\Bx W (w.1.size+1) #[.slice (a_ ⟨b0,o0,c_⟩) (p0+1) y0,.slice x1 p1 y1] 30) kF ⟨(J.o B (jD _ _)).1,(J.o B (jD _ _)).2.1⟩ (λhS=>?_);refine tk 0 (.slice z9 p0 k9) rfl hS (λ_ _=>kF) ?_;refine tk 3 (.pointer (a_ ⟨w.1.size,1,c_⟩)) rfl hS (λ_ _=>kF) ?_;refine tk 4 (.int .i64 (Pl.iR k)) rfl hS (λ_ h=>fh (.pointer (a_ ⟨w.1.size,1,c_⟩)) _ rfl kF (alO h.1)) ?_;refine tk 6 (.slice z9 p0 k9) rfl hS (λ_ _=>kF) ?_;clear hS c1 z1 TN z3 jS;have KB:Below B.1.size B B.drew:=gG;have sa:=KB.size;generalize B.drew=Wa at *;have SS:Hid (∀W,Below B.1.size B W->Bx W w.1.size (oh k) 244/\Bx W (w.1.size+1) #[.slice (a_ ⟨b0,o0,c_⟩) (p0+1) y0,.slice x1 p1 y1] 30):=λW kk=>⟨(J.o W kk).1,(J.o W kk).2.1⟩;have JN:Hid (∀W b,Below B.1.size B W->b<W.1.size->W.cell? ⟨b,0,c_⟩=a_ (.slice z9 p0 k9)->Cp 91 #[.slice (a_ ⟨b,0,c_⟩) 1 1] W λe w'=>Below W.1.size W w'/\∃x y,e=.returned (.slice x p0 y)/\Oi W.1.size w' (.slice x p0 y) row):=λW b kk hb hc=>qg E0.o oM hb hc (RB.o W kk);have LT:Hid (∀W:Wd,Rw (λ_=>True) (W.alloc (.cells #[.int .i64 (Pl.iR k)] 3)) (.slice (a_ ⟨W.1.size,0,c_⟩) 1 1) [Pl.iR k]):=λW=>mV W _;refine gT 1 5 rfl rfl ?_ ?_
  rotate_left 1
  ·have K1:Below B.1.size B (Wa.alloc (.cells #[.int .i64 (Pl.iR k)] 3)):=gG
   refine iL (.slice (a_ ⟨Wa.1.size,0,c_⟩) 1 1) _ rfl (n_ _ rfl kF) (SS.o _ K1) ?_;have OL:=LT.o Wa;have K2:Below B.1.size B ((Wa.alloc (.cells #[.int .i64 (Pl.iR k)] 3)).alloc (.cells #[.slice z9 p0 k9] 23)):=gG;refine tv 1 (.slice (a_ ⟨(Wa.alloc (.cells #[.int .i64 (Pl.iR k)] 3)).1.size,0,c_⟩) 1 1) _ rfl rfl (Kc rfl kF) (SS.o _ K2) ?_;refine tc 2 91 #[.slice (a_ ⟨(Wa.alloc (.cells #[.int .i64 (Pl.iR k)] 3)).1.size,0,c_⟩) 1 1] rfl rfl kF ((JN.o _ _ K2 sI J5).mono ?_);rintro e Wz ⟨hb,x2,y2,rfl,o2⟩;have KZ:=bv hb K2;refine .inl ⟨_,rfl,SS.o _ KZ,?_⟩;replace OL:=(OL.kp (w':=(Wa.alloc (.cells #[.int .i64 (Pl.iR k)] 3)).alloc (.cells #[.slice z9 p0 k9] 23)) eY).kp (.of hb);have OS:=o2.base K2.size;clear hb o2 K2 K1;generalize Wa.1.size=bl at *;exact Pc
  have K1:Below B.1.size B (Wa.alloc (.cells #[.slice z9 p0 k9] 23)):=gG;refine iL (.slice (a_ ⟨Wa.1.size,0,c_⟩) 1 1) _ rfl (Kc rfl kF) (SS.o _ K1) ?_;refine gT 2 5 rfl rfl ?_ ?_
  rotate_left 1
  ·have K2:Below B.1.size B ((Wa.alloc (.cells #[.slice z9 p0 k9] 23)).alloc (.cells #[.int .i64 (Pl.iR k)] 3)):=gG
   refine iL (.slice (a_ ⟨(Wa.alloc (.cells #[.slice z9 p0 k9] 23)).1.size,0,c_⟩) 1 1) _ rfl (n_ _ rfl kF) (SS.o _ K2) ?_;have OL:=LT.o (Wa.alloc (.cells #[.slice z9 p0 k9] 23));refine tc 2 91 #[.slice (a_ ⟨Wa.1.size,0,c_⟩) 1 1] rfl rfl kF ((JN.o _ _ K2 J2 J5).mono ?_);rintro e Wz ⟨hb,x2,y2,rfl,o2⟩;have KZ:=bv hb K2;refine .inl ⟨_,rfl,SS.o _ KZ,?_⟩;replace OL:=OL.kp (.of hb);have OS:=o2.base K2.size;clear hb o2 K2 K1;generalize (Wa.alloc (.cells #[.slice z9 p0 k9] 23)).1.size=bl at *;exact Pc
  refine lC rfl kF ((JN.o _ Wa.1.size K1 sI J5).mono ?_);rintro e W2 ⟨hb,x2,y2,rfl,o2⟩;have K2:=bv hb K1;have s1:=K1.size;have s2:=K2.size;refine⟨_,rfl,SS.o _ K2,?_⟩;refine gT 5 7 rfl rfl ?_ ?_
  ·have KZ:Below B.1.size B (W2.alloc (.cells #[.int .i64 (Pl.iR k)] 3)):=gG
   refine iL (.slice (a_ ⟨W2.1.size,0,c_⟩) 1 1) _ rfl (n_ _ rfl kF) (SS.o _ KZ) ?_;have OL:=LT.o W2;have OS:=(o2.base s1).kp (w':=W2.alloc (.cells #[.int .i64 (Pl.iR k)] 3)) eY;clear hb o2;generalize W2.alloc (.cells #[.int .i64 (Pl.iR k)] 3)=Wz at *;generalize W2.1.size=bl at *;exact Pc
  refine lC rfl kF ((KC.o W2 K2).mono ?_);rintro e w' ⟨rfl,rfl⟩;refine⟨_,rfl,SS.o _ K2,?_⟩;have KZ:Below B.1.size B (w'.alloc (.cells #[.int .i64 (Pl.iR k)] 3)):=gG;refine tv 5 (.slice (a_ ⟨w'.1.size,0,c_⟩) 1 1) _ rfl rfl (n_ _ rfl kF) (SS.o _ KZ) ?_;have OL:=LT.o w';have OS:=(o2.base s1).kp (w':=w'.alloc (.cells #[.int .i64 (Pl.iR k)] 3)) eY;clear hb o2;generalize w'.alloc (.cells #[.int .i64 (Pl.iR k)] 3)=Wz at *;generalize w'.1.size=bl at *;exact τ
 ·obtain⟨q,rfl⟩:∃q,n=q+1:=⟨n-1,oM⟩
  have eP:Hid (r=Pl.wS row (Pl.fold (Pl.two k) da s (q+1))):=by show _=_;rw[HR.o,<- HS.o];rfl
  rw[show ((q+1:Nat):Int)=(q:Int)+1 by omega] at jS;have KF:=zH λW (kk:Below B.1.size B W)=>WE k gp hk1 x1 p1 y1 da s q (H.o.2.kp (.of (J.o W kk).2.2.2.1)) hl.o ma oM VA.o;generalize Pl.fold (Pl.two k) da s (q+1)=rf at *;have CL:Hid (∀W,Below B.1.size B W->W.cell? ⟨b0,o0,c_⟩=a_ (.int .i64 ((q:Int)+1))):=λW kk=>(kk.cell (p:=⟨b0,o0,c_⟩) zb).trans jS;clear HR hn0 hl;go_wp2_with (refine iW rfl (ie rfl rfl rfl (C0.o _)) ?_)
  have SS:Hid (∀W,Below B.1.size B W->Bx W w.1.size (oh k) 244/\Bx W (w.1.size+1) #[.slice (a_ ⟨b0,o0,c_⟩) (p0+1) y0,.slice x1 p1 y1] 30/\W.cell? ⟨b0,o0,c_⟩=a_ (.int .i64 ((q:Int)+1))):=λW kk=>⟨(J.o W kk).1,(J.o W kk).2.1,CL.o W kk⟩;refine fT (S:=λW=>Bx W w.1.size (oh k) 244/\Bx W (w.1.size+1) #[.slice (a_ ⟨b0,o0,c_⟩) (p0+1) y0,.slice x1 p1 y1] 30/\W.cell? ⟨b0,o0,c_⟩=a_ (.int .i64 ((q:Int)+1))) kF (SS.o B (jD _ _)) (λhS=>?_);refine tk 0 (.slice z9 p0 k9) rfl hS (λ_ _=>kF) ?_;refine tk 3 (mB k) rfl hS (λ_ h=>fh (.pointer (a_ ⟨w.1.size,0,c_⟩)) _ rfl kF (Qf h.1)) ?_;refine tk 4 (.pointer (a_ ⟨w.1.size+1,1,c_⟩)) rfl hS (λ_ _=>kF) ?_;refine tk 5 (.slice x1 p1 y1) rfl hS (λ_ h=>fh (.pointer (a_ ⟨w.1.size+1,1,c_⟩)) _ rfl kF (jY h.2.1)) ?_;refine tk 6 (.pointer (a_ ⟨w.1.size+1,0,c_⟩)) rfl hS (λ_ _=>kF) ?_;refine tk 7 (.slice (a_ ⟨b0,o0,c_⟩) (p0+1) y0) rfl hS (λ_ h=>fh (.pointer (a_ ⟨w.1.size+1,0,c_⟩)) _ rfl kF (kC h.2.1)) ?_;refine tk 8 (.pointer (a_ ⟨b0,o0,c_⟩)) rfl hS (λ_ _=>nD (.slice (a_ ⟨b0,o0,c_⟩) (p0+1) y0) (.int .i64 ((0:Nat):Int)) rfl kF kF (qx (k:=0) oM)) ?_;refine tk 9 (.int .i64 ((q:Int)+1)) rfl hS (λ_ h=>fh (.pointer (a_ ⟨b0,o0,c_⟩)) _ rfl kF (nh h.2.2)) ?_;clear hS c1 z1 c3 z3 jS;have KB:Below B.1.size B B.drew:=gG;have sa:=KB.size;generalize B.drew=Wa at *;have K1:Below B.1.size B (Wa.alloc (.cells #[.slice z9 p0 k9] 23)):=gG;refine tv 1 (.slice (a_ ⟨Wa.1.size,0,c_⟩) 1 1) _ rfl rfl (Kc rfl kF) (SS.o _ K1) ?_;refine tc 2 91 #[.slice (a_ ⟨Wa.1.size,0,c_⟩) 1 1] rfl rfl kF ((qg E0.o oM sI J5 (RB.o _ K1)).mono ?_);rintro e W2 ⟨hb,x2,y2,rfl,o2⟩;have K2:=bv hb K1;refine .inl ⟨_,rfl,SS.o _ K2,?_⟩;refine tc 10 244 #[mB k,.slice x1 p1 y1,.int .i64 ((q:Int)+1)] rfl rfl kF ((KF.o W2 K2).mono ?_);rintro e W3 ⟨eV,hor⟩;have K3:=bv eV K2
  cases rf with
  |error c =>
   obtain rfl:=hor;have hr:=eP.o;subst hr;exact .inr ⟨_,rfl,rfl,KP.err (J.o _ K3).2.2.2.1⟩
  |ok d =>
   obtain⟨u,rfl,o3⟩:=hor;obtain⟨x3,y3,rfl⟩:=o3.form;have hr:=eP.o;subst hr;have S9:=J.o _ K3;have kX:=zH (KP.put (w:=w) ((o2.base K1.size).kp (.of eV)) (o3.base K2.size) S9.2.2.2.2 S9.2.2.1 S9.2.2.2.1 (show w.1.size<=w.1.size+1+1 by omega) (.slice x2 p0 y2) (.slice x3 d.length y3));refine .inl ⟨_,rfl,SS.o _ K3,?_⟩;refine tk 11 (.agg #[.slice x2 p0 y2,.slice x3 d.length y3]) rfl (SS.o _ K3) (λ_ _=>kF) ?_;refine ts 12 _ rfl rfl rfl (jf (.pointer (a_ ⟨w.1.size+1+1,0,c_⟩)) (.agg #[.slice x2 p0 y2,.slice x3 d.length y3]) rfl kF kF (mU S9.2.2.1)) ⟨(S9.1.eC J2 _).eC J2 _,(S9.2.1.eC sI _).eC sI _,(rZ J2 _).trans ((rZ J2 _).trans (CL.o _ K3))⟩ ?_;refine te ?_;obtain⟨c5,f5,z5⟩:=S9.2.2.1.all;clear hb o2 eV o3 K1 K2 K3 S9;go_simp;go_wp2_with fail;refine eJ (by simp[results,results209,go_sem,c5];try rfl) rfl ?_;exact kX.o
 ):ρ:=h
def amt.sK(h:ρ:=by
 refine(SA.o W0 V0.o.2.2.2.1).mono ?_;rintro e w1 ⟨rfl,hb⟩;have V1:=zH (jA (V0.o.2.1.below hb) (jA (V0.o.2.2.1.below hb) (bv hb V0.o.2.2.2.1)));obtain⟨c1,f1,z1⟩:=V1.o.1.all;clear hb V0 f1;go_wp2_with fail;refine(FV _ _ ([],da) w1 (H.o.kp (.of V1.o.2.2)) sI (by simp only;rw[E1.o];omega)).mono ?_;rintro e w2 ⟨hb,u0,u1,rfl,o2⟩;obtain⟨x4,y4,rfl⟩:=o2.1.form;obtain⟨x5,y5,rfl⟩:=o2.2.1.form;have V2:=zH (jA (V1.o.2.1.below hb) (jA (bv hb V1.o.2.2) (jA o2 V1.o.2.2.size)));obtain⟨c2,f2,z2⟩:=V2.o.1.all;clear hb o2 c1 z1;go_wp2_with fail;refine eJ (by simp[results,results209,go_sem,c2];try rfl) rfl ?_;exact KP.QP V2.o.2.2.1 V2.o.2.2.2 V2.o.1 V2.o.2.1 oM _ _
 ):ρ:=h
def aiD.XZ(h:ρ:=by
 have HBR:=zH hb;go_enter func209,ntmps209;open amu in exact sT
 ):ρ:=h
def ajQ.Dk(h:ρ:=by
 obtain⟨_,_,va,la,ma⟩:=Pl.ok_eq ha;clear h ha;obtain⟨sh,da⟩:=a;simp only at H SA va la ma ⊢;have VA:=zH va;clear va;obtain⟨p1,E1⟩:=jN (da.length);rw[E1.o] at H SA ma ⊢
 cases sh with
 |nil =>
  rw[show Pl.red (k:Int) ([],da)=.ok ([],da) from rfl];rw[fM rfl] at SA;simp only[iA] at H SA ⊢;go_enter func209,ntmps209;open amt in exact sT
 |cons m row =>
  rw[fH sI] at SA;obtain⟨n,rfl,hn,hb,hf,hp,hl,eN⟩:=Pl.ke HA.o;obtain⟨s,HS⟩:=jN (Pl.eQ row);rw[HS.o,E1.o] at hl;replace hl:=zH hl;obtain⟨r,HR⟩:∃r,Hid (r=Pl.red (k:Int) ((n:Int)::row,da)):=⟨_,rfl⟩;rw[<- HR.o];have H0:=zH H.o.1.tl;obtain⟨b0,o0,rfl,kE,hc0⟩:=H.o.1.rw.at (i:=0) rfl;rw[iz] at hc0;obtain⟨p0,E0⟩:=jN (row.length);open aiD in exact YF
 ):ρ:=h
def U9(k:Nat)(gp:1<=k)(hk1:k<11)(v0 v1:Va)(a:Ar)(h:RA P w v0 v1 a)(ha:Pl.okB a=b_):Cp 209 #[mB k,.agg #[v0,v1]] w (KP w (Pl.red k a)):=by
 have H:=zH h;have HA:=zH ha;open ajQ in exact Dr
end
end
section
def ajO.GN(h:ρ:=by
 have:=run_makeSlice (P:=prog) (w:=w) 23 3 i0 (I 0) underlying23 hi iC .i64 .i64 0 n oM oM (by rw[gy];omega) (by rw[iS];omega) oM;exact Τ
 ):ρ:=h
def Gx(w:Wd)(n:Nat)(h:n<=1048576):(Instr.makeSlice 23 (I 0) (I (n:Int))).run prog w=.ok (sX (sY w.1.size 0) 0 n) (w.alloc (.cells (Zr [] n) 3)):=by
 open ajO in exact Hf
def Gy{w:Wd}{B D n:Nat}(h:Bx w D (Zr [] n) 3)(hB:B<=D)(hn:n<=1048576):Oi B w (sX (sY D 0) 0 n) [] :=
 ⟨sI,.inr ⟨D,n,Zr [] n,rfl,hB,h,sI,by unfold maxLen;omega,by rw[GU sI];simp,sI⟩⟩
namespace Pl
def ZM(F:Int->Int->Except Int Int)(s:Nat):∀r,fd F [] s r []=.ok []
 |0=>rfl
 |r+1=>by
  have:rowAt [] s r=[]:=by simp[rowAt]
  simp only[fd,this,List.zip_nil_right,eU];exact ZM F s r
def U'{α:Type}{F:α->Except Int (lI)}:∀{l:List α},(∀x∈l,F x=.ok [])->eU F l=.ok (l.map λ_=>[])
 |[],h=>rfl
 |x::l,h=>by simp only[eU,h x sI,U' λy hy=>h y (mx _ hy),oH]
def ahg(op m:Int)(row:lI):uJ op (m::row,[])=.ok (m::row,[]):=by
 unfold uJ;simp only;rw[U' λk _=>by
  have:rowAt [] (eQ row) k=[]:=by simp[rowAt]
  show fd (two op) (([]:lI).take _) (eQ row) (k+1-1) (rowAt (([]:lI).take _) (eQ row) (k+1-1))=_;rw[List.take_nil,Py,this];exact ZM _ _ _]
 simp
end Pl
section
variable {P:nK} {w:Wd}
def ams.sK(h:ρ:=by
 refine(SA.o W0 V0.o.2.2.2.1).mono ?_;rintro e B ⟨rfl,hb⟩;have J:Hid (∀W,Bl B W->Bx W w.1.size (oh k) 244/\Bx W (w.1.size+1) #[sX (sY b0 o0) (p0+1) y0,sX x1 p1 y1] 30/\Bx W (w.1.size+1+1) nN 30/\Bl w W/\w.1.size<=B.1.size):=λW kk=>⟨(V0.o.1.below hb).below kk,(V0.o.2.1.below hb).below kk,(V0.o.2.2.1.below hb).below kk,bv kk (bv hb V0.o.2.2.2.1),(bv hb V0.o.2.2.2.1).size⟩;have⟨S0,S1,S2,S3,hz⟩:=J.o B (jD _ _);obtain⟨c1,f1,z1⟩:=S1.all;have jS:=(S3.cell (p:=(Y b0 o0)) kE).trans hc0;have zb:b0<B.1.size:=jL kE S3.size;have CL:Hid (∀W,Bl B W->W.cell? (Y b0 o0)=a_ (I (n:Int))):=λW kk=>(kk.cell (p:=(Y b0 o0)) zb).trans jS;clear hb V0 f1 S0 S1 S2 S3 SA;go_wp2_with fail;go_region
 all_goals
  clear c1 z1 jS;have c1:=(J.o B.drew (show Bl B B.drew from by go_grown)).2.1.cf.1;have z1:=(J.o B.drew (show Bl B B.drew from by go_grown)).2.1.lt;have KB:Hid (Bl B B.drew):=(show Bl B B.drew from by go_grown);generalize B.drew=Bd at *;go_wp2_with (rw[MK.o])
  generalize hW:ew Bd _=W1;have V1:=jV hW;clear hW c1 z1;have sB:=KB.o.size;go_loopw [6,7] (λdv i wr=>∃(j:Nat)(ds:List (lI)),j<=n/\i=I ((j:Int)+1)/\Hid (ds.flatten.length=j * s/\Pl.eU F (eA n)=gM F (eA n) j ds)/\Hid (Bl B wr)/\Hid (Oi B.1.size wr dv ds.flatten)) (λ_ i _=>n+1-(intOf i).toNat)
  case atStart=>exact⟨0,[],vZ _,rfl,⟨sI,(p_ _ _).symm⟩,nV KB.o V1.o.2.1 sB,Gy V1.o.1 sB oM⟩
  obtain⟨j,ds,hj,rfl,hE,hB,hO⟩:=hrel;obtain⟨S0,S1,S2,S3,-⟩:=J.o wr hB.o;have jS:=CL.o wr hB.o;obtain⟨c1,f1,z1⟩:=S1.all;have HS:=zH (jA S0 (jA S1 (jA S2 S3)));have sw:=hB.o.size;have zbr:b0<wr.1.size:=oM;have⟨q,HQ⟩:=jN (ds.flatten.length);have⟨xd,yd,e9⟩:=hO.o.form;rw[HQ.o] at e9;subst e9;clear f1 S0 S1 S2 S3;by_cases gD:j=n
  ·have hr:r=.ok ((n:Int)::row,ds.flatten):=by rw[eP.o,hE.o.2,qf _ _ _ _ (by simp[gD])]
   subst hr;have zU:¬((j:Int)+1<=(n:Int)):=oM;go_wp2_with fail;refine(qg EL.o oM sI J5 (H.o.1.rw.kp (.of (bv (w:=w) gG HS.o.2.2.2)))).mono ?_;rintro e w5 ⟨hb,x5,y5,rfl,o5⟩;have K5:Bl wr w5:=bv hb;have V5:=zH (jA (HS.o.2.2.1.below K5) (jA (bv K5 HS.o.2.2.2) (jA (hO.o.kp (.of K5)) (o5.base (B':=B.1.size) J2))));obtain⟨c5,f5,z5⟩:=V5.o.1.all;clear hb o5 K5 c1 z1 jS;go_wp2;refine eJ (by simp[results,results212,go_sem,c5];try rfl) rfl ?_;exact KP.put V5.o.2.2.2 V5.o.2.2.1 hz V5.o.1 V5.o.2.1 oM _ _
  have eI:(j:Int)+1<=(n:Int):=oM;have zR:j<n:=oM;have eL:=zH (qc F (eA n) j ds j (by rw[uw zR]));have K1:=zH λW kb=>KR.o W j kb zR;have K2:=zH λW x' l y' kb=>KF.o W j x' l y' kb zR;have Fy:=zH λz=>FL.o j z zR;have UB:Hid (∀z:lI,z.length=s->ds.flatten.length+z.length<=16777216):=λz h=>by rw[hE.o.1,h];have:=LS.o j zR;rw[iu] at this;omega
  generalize F j=rf at *;clear gD;go_wp2_with fail;refine fT (S:=λW=>Bx W w.1.size (oh k) 244/\Bx W (w.1.size+1) #[sX (sY b0 o0) (p0+1) y0,sX x1 p1 y1] 30) kF ⟨HS.o.1,HS.o.2.1⟩ (λhS=>?_);refine tk 0 (sX xd q yd) rfl hS (λ_ _=>kF) ?_;refine tk 1 _ rfl hS (λ_ h=>fh _ _ rfl kF (Qf h.1)) ?_;refine tk 2 (.pointer (sY (w.1.size+1) 1)) rfl hS (λ_ _=>kF) ?_;refine tk 3 _ rfl hS (λ_ h=>fh _ _ rfl kF (jY h.2)) ?_;refine tk 4 (I (s:Int)) rfl hS (λ_ _=>kF) ?_;refine tk 5 (I ((j:Int)+1)) rfl hS (λ_ _=>kF) ?_;refine tk 7 (I ((j:Int)+1)) rfl hS (λ_ _=>kF) ?_;have KD:Bl B wr.drew:=by have:=hB.o;go_grown
  have OD:Oi B.1.size wr.drew (sX xd q yd) ds.flatten:=hO.o.kp eY;clear c1 z1 jS hS;generalize wr.drew=Wd at *;refine tc 6 _ _ rfl rfl kF ((K1.o Wd (J.o _ KD).2.2.2.1).mono ?_);rintro e w' ⟨rfl,x',l,y',rfl,hl,tK⟩;refine .inl ⟨_,rfl,⟨(J.o _ KD).1,(J.o _ KD).2.1⟩,?_⟩;refine tc 8 _ _ rfl rfl kF ((K2.o w' x' l y' (J.o _ KD).2.2.2.1 hl tK).mono ?_);rintro e W3 ⟨eV,hor⟩;have K3:=bv eV KD;have S3:=J.o _ K3;have s3:=K3.size
  cases rf with
  |error c =>
   obtain rfl:=hor;have hr:r=.error c:=by rw[eP.o,hE.o.2,eL.o]
   subst hr;exact .inr ⟨_,rfl,rfl,KP.err S3.2.2.2.1⟩
  |ok z =>
   obtain⟨u,rfl,o3⟩:=hor;obtain⟨x3,y3,rfl⟩:=o3.form;refine .inl ⟨_,rfl,⟨S3.1,S3.2.1⟩,?_⟩;have O3:=OD.kp (.of eV);refine ta 9 rfl rfl (.tmp 38) (.tmp 46) rfl kF kF O3 o3.ri.rw (UB.o z (Fy.o z rfl)) s3 ?_;intro v' w9 ho hg ha;have kk:Kp (λb=>¬(Value.slice xd q yd).ownBlock=a_ b) W3 w9:=Kp.grown hg λb e q=>q e;have B9:=zH (O3.fI K3 hg s3);have E9:Hid ((ds++[z]).flatten.length=(j+1) * s/\Pl.eU F (eA n)=gM F (eA n) (j+1) (ds++[z])):=⟨by simp only[vL,hJ,DK,Iz,rU];rw[hE.o.1,Fy.o z rfl,iu],by rw[hE.o.2,eL.o]⟩;have O9:Hid (Oi B.1.size w9 v' (ds++[z]).flatten):=by rw[show (ds++[z]).flatten=ds.flatten++z by simp];exact ho
   have S9:Bx w9 w.1.size (oh k) 244/\Bx w9 (w.1.size+1) #[sX (sY b0 o0) (p0+1) y0,sX x1 p1 y1] 30:=⟨S3.1.kp kk (O3.ne S3.1 dC),S3.2.1.kp kk (O3.ne S3.2.1 dC)⟩;refine⟨S9,?_⟩;refine tk 10 v' rfl S9 (λ_ _=>kF) ?_;refine te ?_;clear ho hg ha kk O3 o3 eV K3 S3 S9 KD OD hl tK eL;go_simp;exact Y2
 ):ρ:=h
def ajP.Dk(h:ρ:=by
 have CO:=zH λW (kb:Bl w W)=>FV _ _ a W (h.kp (.of kb)) JV (Pl.ok_eq ha).2.2.2.2;obtain⟨_,_,va,la,ma⟩:=Pl.ok_eq ha;clear h ha;obtain⟨sh,da⟩:=a;simp only at H SA CO va la ma ⊢;have VA:=zH va;clear va;obtain⟨p1,E1⟩:=jN (da.length);rw[E1.o] at H SA CO ma ⊢;by_cases hc:sh=[]\/p1=0
 ·have hr:Pl.uJ (k:Int) (sh,da)=.ok (sh,da):=by
   rcases hc with rfl|rfl
   ·rfl
   obtain rfl:=lP.1 E1.o
   cases sh with
   |nil=>rfl
   |cons m row=>exact ahg _ m row
  rw[hr];have⟨p0,E0⟩:=jN (sh.length);rw[E0.o] at H SA CO la ⊢;have jC:decide (sh=[])=b_\/(decide (sh=[])=d_/\p1=0):=by
   by_cases hs:sh=[]
   ·exact .inl (fM hs)
   exact .inr ⟨fH hs,hc.resolve_left hs⟩
  clear hc hr;rcases jC with hd|⟨hd,rfl⟩
  all_goals
   rw[hd] at SA;clear hd;go_enter func212,ntmps212;go_wp2_with fail;generalize hW:ew (ew (ew w _) _) _=W0;have V0:=mK hW;clear hW;refine(SA.o W0 V0.o.2.2.2.1).mono ?_;rintro e w1 ⟨rfl,hb⟩;have V1:=zH (jA (V0.o.2.1.below hb) (jA (V0.o.2.2.1.below hb) (bv hb V0.o.2.2.2.1)));obtain⟨c1,f1,z1⟩:=V1.o.1.all;clear hb V0 f1;go_wp2_with fail;refine(CO.o w1 V1.o.2.2).mono ?_;rintro e w2 ⟨hb,u0,u1,rfl,o2⟩;obtain⟨x4,y4,rfl⟩:=o2.1.form;obtain⟨x5,y5,rfl⟩:=o2.2.1.form;have V2:=zH (jA (V1.o.2.1.below hb) (jA (bv hb V1.o.2.2) (jA o2 V1.o.2.2.size)));obtain⟨c2,f2,z2⟩:=V2.o.1.all;clear hb o2 c1 z1;go_wp2;refine eJ (by simp[results,results212,go_sem,c2];try rfl) rfl ?_;exact KP.QP V2.o.2.2.1 V2.o.2.2.2 V2.o.1 V2.o.2.1 oM _ _
 cases sh with
 |nil=>exact absurd (.inl rfl) hc
 |cons m row =>
  rw[fH sI] at SA;have rp:¬p1=0:=λe=>hc (.inr e);obtain⟨n,rfl,hn,hb,hf,hp,hl,eN⟩:=Pl.ke HA.o;have⟨s,HS⟩:=jN (Pl.eQ row);rw[HS.o,E1.o] at hl;have hn0:¬n=0:=λe=>by rw[e,py] at hl;exact rp hl
  have⟨F,HF⟩:∃F:Nat->Except Int (lI),Hid (F=λk'=>Pl.fold (Pl.two k) (da.take ((k'+1) * s)) s (k'+1)):=⟨_,rfl⟩;have⟨r,HR⟩:∃r,Hid (r=Pl.uJ (k:Int) ((n:Int)::row,da)):=⟨_,rfl⟩;rw[<- HR.o];have eP:Hid (r=match Pl.eU F (eA n) with
   |.error c=>.error c
   |.ok ds=>.ok ((n:Int)::row,ds.flatten)):=by show _=_;rw[HR.o,HF.o,<- HS.o];rfl
  have LS:Hid (∀j,j<n->(j+1) * s<=p1):=λj hj=>by rw[hl];exact gv _ hj
  have hs:s<=1000:=by have:=xD s (show 0<n by omega);omega
  have Lg:(p1:Int).tdiv (n:Int)=(s:Int):=by
   rw[Bj oM,hl];have:((n * s:Nat):Int)=(n:Int) * (s:Int):=sI;rw[this,Z0 _ oM]
  have KR:Hid (∀W (j:Nat),Bl w W->j<n->Cp 258 #[sX x1 p1 y1,I (s:Int),I 0,I ((j:Int)+1)] W λe w'=>w'=W/\∃x' l y',e=rT (sX x' l y')/\l=(j+1) * s/\Ri P w (sX x' l y') (da.take ((j+1) * s))):=λW j kb hj=>by
   have h1:=LS.o j hj;have:=pc x1 p1 y1 da s 0 (j+1) (H.o.2.kp (.of kb)) oM h1 oM oM oM;rw[py,mw,mw] at this;refine this.mono ?_;rintro e' w' ⟨rfl,rfl⟩;refine⟨rfl,_,_,_,rfl,rfl,?_⟩;have hc:=H.o.2.cut (l:=0) (h:=(j+1) * s) (vZ _) h1;simpa using hc
  have KF:Hid (∀W (j:Nat) x' l y',Bl w W->j<n->l=(j+1) * s->Ri P w (sX x' l y') (da.take ((j+1) * s))->Cp 244 #[mB k,sX x' l y',I ((j:Int)+1)] W (LP W (F j))):=λW j x' l y' kb hj e hr=>by
   rw[HF.o];exact WE k gp hk1 x' l y' _ s j (hr.kp (.of kb)) e (by rw[e];have:=LS.o j hj;omega) oM (Pl.Gp VA.o _)
  have FL:Hid (∀j z,j<n->F j=.ok z->z.length=s):=λj z hj e=>by
   rw[HF.o] at e;refine WD oM ?_ e;have:=LS.o j hj;have:=E1.o;rw[jH];omega
  have HNS:=zH hl;obtain⟨b0,o0,rfl,kE,hc0⟩:=H.o.1.rw.at (i:=0) rfl;rw[iz] at hc0;have⟨p0,E0⟩:=jN (row.length);have EL:Hid (((n:Int)::row).length=p0+1):=by show _=_;simp[E0.o]
  simp only[fW] at H SA ⊢;rw[E0.o] at H SA eN ⊢;have MK:=zH λW=>Gx W p1 oM;clear hf hp hb hl HR HF hc CO la;have hnz:¬((n:Int)=0):=oM;have Sn:¬((p1:Int)=0):=oM;have Te:¬n=0:=hn0;go_enter func212,ntmps212;open ams in exact sT
 ):ρ:=h
def afG(k:Nat)(gp:1<=k)(hk1:k<11)(v0 v1:Va)(a:Ar)(h:RA P w v0 v1 a)(ha:Pl.okB a=b_):Cp 212 #[mB k,.agg #[v0,v1]] w (KP w (Pl.uJ k a)):=by
 have H:=zH h;have HA:=zH ha;open ajP in exact Dr
end
end
def xb{P:nK}{W:Wd}{b:Nat}{v v':Va}{zs ys:lI}{n:Nat}(e:(zs++ys).length=n)(hn:n<=1048576)(hb:b<W.1.size)(hc:W.cell? (Y b 0)=a_ v)(mF:W.cell? (Y b 1)=a_ v')(h:Rw P W v zs)(h':Rw P W v' ys):
  Cp 91 #[sX (sY b 0) 2 2] W λe w'=>Bl W w'/\∃x y,e=rT (sX x n y)/\Oi W.1.size w' (sX x n y) (zs++ys):=by
 have ls:Ls P W b [zs,ys]:=⟨hb,λi z hi=>by
  match i,hi with
  |0,hi=>cases hi;exact⟨v,hc,h⟩
  |1,hi=>cases hi;exact⟨v',mF,h'⟩⟩
 have ef:[zs,ys].flatten=zs++ys:=sI;refine(vp [zs,ys] b 2 W ls sI (by rw[ef];omega)).mono ?_;rintro e' w' ⟨hb,u,rfl,o⟩;rw[ef] at o;have⟨x,y,e2⟩:=o.form;rw[e] at e2;subst e2;exact⟨hb,x,y,rfl,o⟩
def xi{k:Nat}(h0:1<=k)(h1:k<11):Pl.fN (k:Int)=b_:=by simp[Pl.fN] <;> omega
section
variable {P:nK} {w:Wd}
def ajD.Ok(h:ρ:=by
 exact⟨rfl,KP.err (J.o _ (jD _ _)).2.2.2.2.1⟩
 ):ρ:=h
def amO.lH(h:ρ:=by
 have sy:=H6 k gp hk1;have CC:=zH λx y (hx:Pl.fB x=b_) (hy:Pl.fB y=b_) W=>Ga x y hx hy k gp hk1 W;have oR:=(Pl.ok_eq ha).2.1;have su:=(Pl.ok_eq hb).2.1;obtain⟨_,_,va,la,ma⟩:=Pl.ok_eq ha;have⟨_,_,vb,lb,mb⟩:=Pl.ok_eq hb;clear h h' ha hb;obtain⟨sa,da⟩:=a;obtain⟨sb,db⟩:=b;simp only at H H' va la ma vb lb mb oR su ⊢;have VA:=zH va;have VB:=zH vb;clear va vb;have⟨r,HR⟩:∃r,Hid (r=Pl.outer (k:Int) (sa,da) (sb,db)):=⟨_,rfl⟩;rw[<- HR.o];have⟨p0,E0⟩:=jN (sa.length);obtain⟨p1,E1⟩:=jN (da.length);have⟨p2,E2⟩:=jN (sb.length);have⟨p3,E3⟩:=jN (db.length);have⟨F,HF⟩:∃F:Nat->Except Int Int,Hid (F=λi=>Pl.two k (da.getD (i / p3) 0) (db.getD (i % p3) 0)):=⟨_,rfl⟩;have eP:Hid (r=if Pl.fy (sa++sb)=b_ then Pl.wS (sa++sb) (Pl.eU F (eA (p1 * p3))) else .error 6):=by show _=_;rw[HR.o,Pl.outer,eD (xi gp hk1),HF.o];simp only[E1.o,E3.o]
 have EL:Hid ((sa++sb).length=p0+p2):=by show _=_;rw[hJ,E0.o,E2.o]
 rw[E0.o,E1.o] at H;rw[E2.o,E3.o] at H';rw[E0.o] at la;rw[E1.o] at ma oR;rw[E2.o] at lb;rw[E3.o] at mb su;rw[E0.o,E1.o,E2.o,E3.o];have PP:Hid (Pl.eR (sa++sb)=((p1 * p3:Nat):Int)):=by show _=_;rw[Pl.yR,<- oR,<- su];simp
 clear HR oR su;go_enter func218,ntmps218;go_wp2_with fail;generalize hW:ew (ew (ew (ew (ew w _) _) _) _) _=W0;have Cq:Hid (∃W4,ew (ew (ew (ew w _) _) _) _=W4/\ew W4 _=W0):=⟨_,rfl,hW⟩;clear hW;have⟨W4,h4,h5⟩:=Cq.o;have V4:=yA h4;have V5:=jV h5;clear h4 h5 Cq;have b9:=V5.o.1;rw[V4.o.2.2.2.2.2] at b9;obtain⟨c9,f9,z9⟩:=b9.all;have yL:=bv V5.o.2.1 V4.o.2.2.2.2.1;have⟨N,HN⟩:=jN (p1 * p3);rw[HN.o] at PP eP;refine(xb EL.o oM z9 (c9 0) (c9 1) (H.o.1.rw.kp (.of yL)) (H'.o.1.rw.kp (.of yL))).mono ?_;rintro e B ⟨hb,ax,ay,rfl,oS⟩;have sW0:=yL.size;have J:Hid (∀W,Bl B W->Bx W w.1.size (oh k) 244/\Bx W (w.1.size+1) #[sX x0 p0 y0,sX x1 p1 y1] 30/\Bx W (w.1.size+1+1) #[sX x2 p2 y2,sX x3 p3 y3] 30/\Bx W (w.1.size+1+1+1) nN 30/\Bl w W/\Oi w.1.size W (sX ax (p0+p2) ay) (sa++sb)/\w.1.size<=B.1.size):=λW kk =>
  ⟨((V4.o.1.below V5.o.2.1).below hb).below kk,((V4.o.2.1.below V5.o.2.1).below hb).below kk,((V4.o.2.2.1.below V5.o.2.1).below hb).below kk,((V4.o.2.2.2.1.below V5.o.2.1).below hb).below kk,bv kk (bv hb yL),(oS.base sW0).kp (.of kk),(bv hb yL).size⟩
 have NF:=zH (yO (w:=B) _ (sa++sb) oS.ri.rw);have KC:Hid (Pl.fy (sa++sb)=b_->Cp 54 #[sX ax (p0+p2) ay] B λe w'=>e=rT (I (N:Int))/\w'=B):=λhf=>by
  have:=qJ _ oS.ri.rw (Pl.g_ hf).2.2.2.2.2;rw[PP.o] at this;exact this
 clear hb oS V4 V5 b9 c9 f9 z9 yL sW0
 cases hft:Pl.fy (sa++sb)
 ·open ajD in exact Pb
 rw[hft,eD rfl] at eP;have hN:N<=1000:=by have:=(Pl.g_ hft).2.2.1;rw[PP.o] at this;omega
 replace KC:=zH (KC.o hft);rw[hft] at NF;have MK:=zH λW=>Gx W N oM;have c1:=(J.o B (jD _ _)).2.1.cf.1;have z1:=(J.o B (jD _ _)).2.1.lt;clear hft PP;go_wp2_with fail;refine NF.o.mono ?_;rintro e B ⟨rfl,he⟩;obtain rfl:e=rT (.tuple #[]):=he;go_wp2_with (first | (go_at_call 54;refine KC.o.mono ?_;rintro e B ⟨rfl,rfl⟩) | (rw[MK.o]))
 generalize hW:ew B _=W1;have V1:=jV hW;clear hW c1 z1;have B1:Hid (Bl B W1):=V1.o.2.1;go_loopw [8,10,12,27] (λdv _ _ i wr=>∃(m:Nat)(acc:lI),m<=p1/\i=I (m:Int)/\Hid (acc.length=m * p3/\Pl.eU F (eA N)=gM F (eA N) (m * p3) acc)/\Hid (Bl B wr)/\Hid (Oi B.1.size wr dv acc)) (λ_ _ _ i _=>p1-(intOf i).toNat)
 case atStart=>exact⟨0,[],vZ _,rfl,⟨sI,by rw[py];exact(p_ _ _).symm⟩,B1,Gy V1.o.1 (jR _) oM⟩
 case round =>
  obtain⟨m,acc,hm,rfl,hE,hB,hO⟩:=hrel;have⟨S0,S1,S2,S3,S4,S5,hz⟩:=J.o wr hB.o;obtain⟨c1,f1,z1⟩:=S1.all;obtain⟨c2,f2,z2⟩:=S2.all;have HS:=zH (jA S3 (jA S4 S5));obtain⟨xd,yd,rfl⟩:=hO.o.form;by_cases Es:m=p1
  ·subst Es
   have hr:r=.ok (sa++sb,acc):=by rw[eP.o,hE.o.2,qf _ _ _ _ (by simp[HN.o])];rfl
   subst hr;clear c1 f1 z1 c2 f2 z2 S0 S1 S2 S4 S5;obtain⟨c3,f3,z3⟩:=S3.all;clear S3;go_wp2;refine eJ (by simp[results,results218,go_sem,c3];try rfl) rfl ?_;exact KP.put HS.o.2.2 (hO.o.base hz) (jR _) HS.o.1 HS.o.2.1 oM _ _
  have eI:(m:Int)<(p1:Int):=oM;have⟨z,gy⟩:=gF E1.o (show m<p1 by omega);obtain⟨ba,oa,rfl,yq,zY⟩:=(H.o.2.rw.kp (.of S4)).at gy;clear f1 f2 S0 S1 S2 S3 S4 S5;go_wp2_with fail;go_loopw [8,12,34] (λdv _ i wr=>∃(j:Nat)(acc:lI),j<=p3/\i=I (j:Int)/\Hid (acc.length=m * p3+j/\Pl.eU F (eA N)=gM F (eA N) (m * p3+j) acc)/\Hid (Bl B wr)/\Hid (Oi B.1.size wr dv acc)) (λ_ _ i _=>p3-(intOf i).toNat)
  case atStart=>exact⟨0,acc,vZ _,rfl,hE,hB,hO⟩
  clear hE hB hO HS c1 z1 c2 z2 zY;obtain⟨j,acc,hj,rfl,hE,hB,hO⟩:=hrel;obtain⟨xe,ye,rfl⟩:=hO.o.form;by_cases gD:j=p3
  ·subst gD
   have j_:Hid (acc.length=(m+1) * j/\Pl.eU F (eA N)=gM F (eA N) ((m+1) * j) acc):=by rw[iu];exact hE
   go_wp2;go_roundw
   case rel=>exact⟨m+1,acc,oM,gN,j_,hB,hO⟩
   simp[intOf];omega
  have yh:(j:Int)<(p3:Int):=oM;have⟨z',gX⟩:=gF E3.o (show j<p3 by omega);obtain⟨S0,S1,S2,S3,S4,S5,-⟩:=J.o wr hB.o;obtain⟨bb,ob,rfl,we,EI⟩:=(H'.o.2.rw.kp (.of S4)).at gX;have KK:=zH λW=>CC.o z z' (Pl.oG VA.o gy) (Pl.oG VB.o gX) W;have xK:m * p3+j<N:=by
   have h1:(m+1) * p3<=p1 * p3:=gv _ oM;rw[iu,HN.o] at h1;omega
  have eL:=zH (qc F (eA N) (m * p3+j) acc (m * p3+j) (by rw[uw xK]));have wv:F (m * p3+j)=Pl.two k z z':=by
   rw[HF.o];have h1:(m * p3+j) / p3=m:=by rw[zj,Px _ _ oM,Pv oM,gY]
   have h2:(m * p3+j) % p3=j:=by rw[zj,Pu,Dz oM]
   simp only[h1,h2,ig,gy,gX,Dw]
  rw[wv] at eL;have UB:Hid (∀y:Int,acc.length+[y].length<=16777216):=λy=>by have:=hE.o.1;simp;omega
  have c0:wr.cell? (Y w.1.size 0)=a_ (.func (.func (247+k)) #[] #[]):=S0.cf.1 0;have z0:=S0.lt;have HS:=zH S4;have sw:=hB.o.size;clear wv xK S0 S1 S2 S3 S4 S5 gX;generalize Pl.two k z z'=q at *;go_wp2_with fail;refine(KK.o _).mono ?_;rintro e w' ⟨rfl,hor⟩
  cases q with
  |error c =>
   obtain rfl:=hor;have hr:r=.error c:=by rw[eP.o,hE.o.2,eL.o];rfl
   subst hr;exact⟨rfl,KP.err HS.o⟩
  |ok y =>
   obtain rfl:=hor;have E9:Hid ((acc++[y]).length=m * p3+(j+1)/\Pl.eU F (eA N)=gM F (eA N) (m * p3+(j+1)) (acc++[y])):=⟨by simp[hE.o.1];omega,by rw[hE.o.2,eL.o];rfl⟩;clear eL c0 z0 EI;go_wp2_with (at_builtin;refine nu rfl (.tmp 38) (.tmp 44) rfl rfl rfl (hO.o.kp eY) (mV _ y) (UB.o y) J2 ?_)
   intro v' w9 ho hg ha;have B9:=zH (Oi.fI (hO.o.kp eY) (show Bl B _ from by have:=hB.o;go_grown) hg J2);have O9:=zH ho;clear ho hg ha;exact Y2
 ):ρ:=h
def aeq(k:Nat)(gp:1<=k)(hk1:k<11)(v0 v1 v2 v3:Va)(a b:Ar)(h:RA P w v0 v1 a)(h':RA P w v2 v3 b)(ha:Pl.okB a=b_)(hb:Pl.okB b=b_):Cp 218 #[mB k,.agg #[v0,v1],.agg #[v2,v3]] w (KP w (Pl.outer k a b)):=by
 have H:=zH h;have H':=zH h';open amO in exact lO
end
end Go.Proofs.YtiagfejlmafliaaGreatDoor
