import Derived.Test.YtiagfejlmafliaaGreatDoorBx
namespace Go.Proofs.YtiagfejlmafliaaGreatDoor
set_option linter.all false
open Go.Proofs.Tryz Pl
open Go.RowKit
set_option maxRecDepth 100000
set_option maxHeartbeats 16000000
open Pl (Ar)
open World renaming setCell->ez,alloc->ew
open List renaming range->eA,replicate->eE
open Option renaming some->a_,none->c_
open Bool renaming true->b_,false->d_
section
variable {w:Wd}{Z:Nat}{f c d sd:Int}{v0 v1 u0 dv:Va}{sh acc:List Int}
def sQ(L:Lm)(a:Ar)(s:Int):Except Int (List Int × Int):=if L.r=d_ then .error 11 else match Pl.iy a.2 s with
 |none=>.error 1
 |some r=>.ok r
def qN(da:List Int)(k:Nat)(sd:Int)(acc:List Int):Option (List Int × Int):=(Pl.iy (da.drop k) sd).map λr=>(acc++r.1,r.2)
def U7(da:List Int)(s:Int):qN da 0 s []=Pl.iy da s:=by
 unfold qN
 cases h:Pl.iy da s <;> simp[h]
def Vu(da:List Int)(k:Nat)(s:Int)(acc:List Int)(h:da.length<=k):qN da k s acc=a_ (acc,s):=by
 simp[qN,A_ h,Pl.iy]
def U8(da:List Int)(k:Nat)(s n:Int)(acc:List Int)(h:da[k]? = a_ n):qN da k s acc=if n<1 then c_ else qN da (k+1) (s * 48271 % 2147483647) (acc++[s * 48271 % 2147483647 % n]):=by
 obtain⟨hk,e⟩:=gQ.1 h;unfold qN;rw[qW hk,e];simp only[Pl.iy];split
 ·rfl
 cases Pl.iy (da.drop (k+1)) (s * 48271 % 2147483647) <;> simp
def anV(w:Wd)(f c d:Int)(a:Ar)(r:Except Int (List Int × Int))(e:Ending)(w':Wd):Prop:=Below w.1.size w w'/\match r with
 |.error x=>∃a0 n0 c0 a1 n1 c1 s',e=.returned (.tuple #[.agg #[.slice a0 n0 c0,.slice a1 n1 c1],eW f c s' 2 x])
 |.ok (ds,s')=>∃u0 u1,e=.returned (.tuple #[.agg #[u0,u1],eW f c s' 0 d])/\RA (w.1.size<=·) w' u0 u1 (a.1,ds)
structure yD(w:Wd)(Z:Nat)(f c d:Int)(v0 v1 u0:Va)(sh:List Int)(sd:Int)(dv:Va)(acc:List Int)(wr:Wd):Prop where
 bl:Below w.1.size w wr
 b0:Bx wr w.1.size #[.int .i64 f,.int .i64 c,.int .i64 sd,.int .i64 0,.int .i64 d] 64
 b2:Bx wr (w.1.size+1+1) #[v0,v1] 30
 b3:Bx wr (w.1.size+1+1+1) #[.slice c_ 0 0,.slice c_ 0 0] 30
 b4:Bx wr (w.1.size+1+1+1+1) #[.int .i64 0,.int .i64 0,.int .i64 0,.int .i64 0,.int .i64 0] 64
 b5:Bx wr Z #[u0,dv] 30
 hz:w.1.size+5<=Z
 ou:Oi (w.1.size+5) wr u0 sh
 od:Oi (w.1.size+5) wr dv acc
 ap:∀b,u0.ownBlock=a_ b->dv.ownBlock=a_ b->False
def yD.QO{wr:Wd}(h:yD w Z f c d v0 v1 u0 sh sd dv acc wr)(t:Int):yD w Z f c d v0 v1 u0 sh t dv acc (wr.setCell ⟨w.1.size,2,c_⟩ (.int .i64 t)):=by
 have hz:=h.hz;have m0:=h.ou.ne h.b0 dC;have n0:=h.od.ne h.b0 dC;have:=h.bl;exact⟨gG,h.b0.set 2 _,h.b2.eC J2 _,h.b3.eC J2 _,h.b4.eC J2 _,h.b5.eC J2 _,hz,h.ou.kp eY,h.od.kp eY,h.ap⟩
def Kp.I6{P Q:Nat->Prop}{w':Wd}(h:Kp P w w')(hq:∀b,Q b->P b):Kp Q w w':=⟨h.sz,λb q=>h.bk b (hq b q)⟩
def yD.app{W w9:Wd}{v':Va}{acc':List Int}(h:yD w Z f c d v0 v1 u0 sh sd dv acc W)(k:Kp (λb=>¬dv.ownBlock=a_ b) W w9)(bl:Below w.1.size w w9)(ho:Oi (w.1.size+5) w9 v' acc')(ha:v'.ownBlock=dv.ownBlock\/∃m,W.1.size<=m/\v'.ownBlock=a_ m):yD w Z f c d v0 v1 u0 sh sd v' acc' (w9.setCell ⟨Z,1,c_⟩ v'):=by
 have hz:=h.hz;have bZ:=h.b5.kp k (h.od.ne h.b5 dC);have nZ:=ho.ne bZ dC;have mZ:=h.ou.ne h.b5 dC;refine⟨bl.setCell J2 _,(h.b0.kp k (h.od.ne h.b0 dC)).eC J2 _,(h.b2.kp k (h.od.ne h.b2 dC)).eC J2 _,(h.b3.kp k (h.od.ne h.b3 dC)).eC J2 _,(h.b4.kp k (h.od.ne h.b4 dC)).eC J2 _,bZ.set 1 _,hz,(h.ou.kp (k.I6 λb e e'=>h.ap b e e')).kp eY,ho.kp eY,λb e e'=>?_⟩;rcases ha with ha|⟨m,hm,ha⟩
 ·exact h.ap b e (ha ▸ e')
 have:=(h.ou.lt e).2;rw[ha] at e';injection e' with e';omega
def adF{P:Nat->Prop}(f c s d:Int)(L:Lm)(v0 v1:Va)(a:Ar)(w:Wd)(h:RA P w v0 v1 a)(gK:a.1.length<=1000)(gr:a.2.length<=1000)(h0:0<=s)(h1:s<=2147483647):
  Cp 77 #[eW f c s 0 d,jO L,.agg #[v0,v1]] w (anV w f c d a (sQ L a s)):=by
 obtain⟨⟨x,y,rfl⟩,x',y',rfl⟩:=h.eS;obtain⟨lf,lc,lr,ls⟩:=L;have HH:=zH h;clear h;obtain⟨r,hr⟩:∃r,Hid (r=sQ ⟨lf,lc,lr,ls⟩ a s):=⟨_,rfl⟩;rw[<- hr.o];go_enter func77,ntmps77;go_wp2_with fail;refine(lG _ a.1 _ (HH.o.1.rw.kp (.of gG)) oM).mono ?_;rintro e w1 ⟨hb,u,rfl,ho⟩;obtain⟨x0,y0,rfl⟩:=ho.form;obtain⟨b0,b1,b2,b3,b4⟩:=al5 hb;have OU:=zH ho;have HB:=zH (bv (w:=w) hb);have BX:=zH (jA b0 (jA b2 (jA b3 b4)));obtain⟨c0,f0,z0⟩:=b0.all;obtain⟨c1,f1,z1⟩:=b1.all;obtain⟨c2,f2,z2⟩:=b2.all;obtain⟨c3,f3,z3⟩:=b3.all;obtain⟨c4,f4,z4⟩:=b4.all;clear ho hb b0 b1 b2 b3 b4
 cases lr with
 |false =>
  have eN:Hid (r=.error 11):=hr.o;clear hr;go_wp2_with fail;go_region_with (go_at_call 24;refine(wZ _ _ _ _ _ _ _).mono ?_;rintro e w5 ⟨rfl,hb⟩;obtain⟨d3,g3,l3⟩:=(((BX.o.2.2.1.al _).al _).below (iq hb)).all;obtain⟨d4,g4,l4⟩:=(((BX.o.2.2.2.al _).al _).below (iq hb)).all;obtain⟨d5,g5,l5⟩:=(Bx.below (b:=w1.1.size+1) (.eK sI) (iq hb)).all;have vk:=zH (bv (w:=w) (iq hb) (by have:=HB.o;go_grown));clear hb)
  all_goals
   go_wp2;refine eJ Jg rfl ?_;rw[eN.o];have:=vk.o;exact⟨gG,_,_,_,_,_,_,_,rfl⟩
 |true =>
  have HR:Hid (r=match Pl.iy a.2 s with
   |none=>.error 1
   |some r=>.ok r):=hr.o
  clear hr;have R0:Hid (yD w (w1.1.size+1) f c d (.slice x a.1.length y) (.slice x' a.2.length y') (.slice x0 a.1.length y0) a.1 s (.slice (a_ ⟨w1.1.size,0,c_⟩) 0 0) [] ((w1.alloc (.cells #[] 3)).alloc (.cells #[.slice x0 a.1.length y0,.slice (a_ ⟨w1.1.size,0,c_⟩) 0 0] 30))) :=
   ⟨by have:=HB.o;go_grown,(BX.o.1.al _).al _,(BX.o.2.1.al _).al _,(BX.o.2.2.1.al _).al _,(BX.o.2.2.2.al _).al _,.eK sI,oM,(OU.o.base sI).kp (.of gG),(Oi.emp (B:=w.1.size+5) oM).kp (.of gG),λb e e'=>by
    have:=(OU.o.lt e).2;simp[Value.ownBlock] at e'
    omega⟩
  have HD:Hid (∀i x,a.2[i]? = a_ x->∃b o,x'=a_ ⟨b,o,c_⟩/\b<w.1.size/\w.cell? ⟨b,o+i,c_⟩=a_ (.int .i64 x)):=λi x hx=>by
   obtain⟨q,k,e,_,_,h|⟨b,o,e',hb,hc⟩⟩:=HH.o.2
   ·rw[h] at hx;cases hx
   simp only[s7] at e;exact⟨b,o,e.1.trans e',hb.2,hc i x hx⟩
  generalize Ti:a.2=da at *;generalize hL:da.length=n at *;have HL:=zH hL;clear hL;have HK:Hid (Pl.iy da s=qN da 0 s []):=(U7 da s).symm;go_wp2_with fail;generalize w1.1.size+1=Z at *;go_loopw [9] (λi wr=>∃(k:Nat)(acc:List Int) (sd:Int) (dv:Va),i=.int .i64 (k:Int)/\k<=n/\0<=sd/\sd<=2147483647/\Hid (acc.length=k)/\Hid (Pl.iy da s=qN da k sd acc)/\Hid (yD w Z f c d (.slice x a.1.length y) (.slice x' n y') (.slice x0 a.1.length y0) a.1 sd dv acc wr)) (λi _=>n-(intOf i).toNat)
  case atStart=>exact⟨0,[],s,_,rfl,vZ _,h0,h1,rfl,HK,R0⟩
  obtain⟨k,acc,sd,dv,rfl,hk,s0,s1,nL,pM,hR⟩:=hrel;obtain⟨xd,yd,rfl⟩:=hR.o.od.form;clear c0 f0 z0 c1 f1 z1 c2 f2 z2 c3 f3 z3 c4 f4 z4 R0 HK;obtain⟨c0,f0,z0⟩:=hR.o.b0.all;obtain⟨c2,f2,z2⟩:=hR.o.b2.all;obtain⟨c3,f3,z3⟩:=hR.o.b3.all;obtain⟨c4,f4,z4⟩:=hR.o.b4.all;obtain⟨c5,f5,z5⟩:=hR.o.b5.all;have hz:=hR.o.hz;by_cases fK:k=n
  ·have eN:Hid (r=.ok (acc,sd)):=by
    show _=_;rw[HR.o,pM.o,Vu da k sd acc (by rw[HL.o];omega)]
   subst fK;go_wp2_with fail;go_region
   all_goals
    go_wp2;refine eJ Jg rfl ?_;rw[eN.o];have:=hR.o.bl;have m3:=hR.o.ou.ne hR.o.b3 dC;have m4:=hR.o.ou.ne hR.o.b4 dC;have n3:=hR.o.od.ne hR.o.b3 dC;have n4:=hR.o.od.ne hR.o.b4 dC;exact⟨gG,_,_,rfl,hR.o.ou.out eY oM,hR.o.od.out eY oM⟩
  have eI:(k:Int)<(n:Int):=oM;obtain⟨nk,Er⟩:∃nk,da[k]? = a_ nk:=⟨_,fw (by rw[HL.o];omega)⟩;obtain⟨bd,od,rfl,kU,kT⟩:=HD.o k nk Er;have kT:=(hR.o.bl.cell (p:=⟨bd,od+k,c_⟩) kU).trans kT;have eL:=zH (U8 da k sd nk acc Er);have zd:bd<wr.1.size:=jL kU hR.o.bl.size;by_cases hn1:nk<1
  ·have eN:Hid (r=.error 1):=by
    show _=_;rw[HR.o,pM.o,eL.o,eD hn1]
   clear eL;go_wp2_with fail;go_region_with (go_at_call 24;refine(wZ _ _ _ _ _ _ _).mono ?_;rintro e w5 ⟨rfl,hb⟩;obtain⟨d3,g3,l3⟩:=(hR.o.b3.below (iq hb)).all;obtain⟨d4,g4,l4⟩:=(hR.o.b4.below (iq hb)).all;obtain⟨d5,g5,l5⟩:=(hR.o.b5.below (iq hb)).all;have vk:=zH (bv (w:=w) (iq hb) hR.o.bl);clear hb)
   all_goals
    go_wp2;refine eJ Jg rfl ?_;rw[eN.o];have:=vk.o;exact⟨gG,_,_,_,_,_,_,_,rfl⟩
  have hn0:¬nk=0:=oM;have gC:Hid (Pl.iy da s=qN da (k+1) (sd * 48271 % 2147483647) (acc++[(sd * 48271 % 2147483647).tmod nk])):=by
   show _=_;rw[pM.o,eL.o,eB hn1,zA oM]
  go_wp2_with fail;have t0:0<=sd * 48271 % 2147483647:=oM;have t1:sd * 48271 % 2147483647<=2147483647:=oM;have R2:=zH (hR.o.QO (sd * 48271 % 2147483647));have zd2:bd<(wr.setCell ⟨w.1.size,2,c_⟩ (.int .i64 (sd * 48271 % 2147483647))).1.size:=by simpa using zd
  have ao8:(wr.setCell ⟨w.1.size,2,c_⟩ (.int .i64 (sd * 48271 % 2147483647))).cell? ⟨bd,od+k,c_⟩=a_ (.int .i64 nk):=by go_simp
  clear pM eL hR c0 f0 z0 c2 f2 z2 c3 f3 z3 c4 f4 z4 c5 f5 z5 kT zd;generalize wr.setCell _ _=W at *;generalize sd * 48271 % 2147483647=s' at *;obtain⟨c0,f0,z0⟩:=R2.o.b0.all;obtain⟨c2,f2,z2⟩:=R2.o.b2.all;obtain⟨c5,f5,z5⟩:=R2.o.b5.all;have n0:=R2.o.od.ne R2.o.b0 dC;have n2:=R2.o.od.ne R2.o.b2 dC;have n5:=R2.o.od.ne R2.o.b5 dC;have nd:¬(Value.slice xd acc.length yd).ownBlock=a_ bd:=λe=>by have:=(R2.o.od.lt e).1;omega
  obtain⟨i0,i1,i2,i3,i4,i5⟩:(¬w.1.size=Z/\¬Z=w.1.size/\¬w.1.size+1+1=Z/\¬Z=w.1.size+1+1/\¬bd=Z/\¬Z=bd):=oM;have OA:=zH (R2.o.od.kp (w':=(W.alloc (.cells #[.int .i64 (s'.tmod nk)] 3)).drew) eY);have RX:=zH ((Oi.one (B:=w.1.size+5) (w:=W) oM (s'.tmod nk)).ri.rw.kp (w':=(W.alloc (.cells #[.int .i64 (s'.tmod nk)] 3)).drew) eY);have UB:Hid (acc.length+[s'.tmod nk].length<=16777216):=by have:=nL.o;show _<=_;simp;omega
  have HZ:Hid (w.1.size+5<=((W.alloc (.cells #[.int .i64 (s'.tmod nk)] 3)).drew).1.size):=by show _<=_;simp;omega
  go_region_law (first | (refine AI rfl (.tmp 43) (.tmp 52) rfl rfl rfl OA.o RX.o UB.o HZ.o ?_;intro v' w9 ho hg ha;have KW:Kp (λb=>¬(Value.slice xd acc.length yd).ownBlock=a_ b) W w9:=(((Kp.refl _ _).alloc _).drew).trans (Kp.grown hg λb e h=>h e);obtain⟨xv,yv,rfl⟩:=ho.form;obtain⟨d0,g0,l0⟩:=(R2.o.b0.kp KW n0).all;obtain⟨d2,g2,l2⟩:=(R2.o.b2.kp KW n2).all;obtain⟨d5,g5,l5⟩:=(R2.o.b5.kp KW n5).all;have apV:=(KW.cell (o:=od+k) nd zd2).trans ao8;have HO:=zH ho;have HG:=zH hg;have HA:=zH ha;have HW:=zH KW;clear ho hg ha KW))
  all_goals
   have R9:=zH (R2.o.app HW.o (qu (B:=w.1.size) (a:=w) (by have:=R2.o.bl;go_grown) HG.o J2 λb e=>by have:=(R2.o.od.lt e).1;omega) HO.o (HA.o.imp id λe=>⟨_,sI,e⟩));clear HW HG HA HO;rw[show (acc++[s'.tmod nk]).length=acc.length+1 by simp] at R9;go_wp2_with fail;go_roundw
   case rel=>exact⟨k+1,_,s',_,by go_num,by omega,t0,t1,by have:=nL.o;show _=_;simp;omega,gC,R9⟩
   simp[intOf];omega
end
variable {a x':oA}{n n' y y':Nat}
structure KO(K:Ks):Prop where
 eF:∀l,k_ l=b_->K.ok (oK l)
 roll:∀(a:Ar)(s:Int) (d:lI) (t:Int),K.ok a->Pl.iy a.2 s=a_ (d,t)->K.ok (a.1,d)
 len:∀a:Ar,K.ok a->a.1.length<=1000/\a.2.length<=1000
structure gL(m:Ms):Prop where
 f0:0<=m.f
 f1:m.f<=100000
 c0:0<=m.c
 c1:m.c<=100000
 s0:0<=m.s
 s1:m.s<=2147483647
structure kJ(L:Lm):Prop where
 f:L.f<=100000
 c:L.c<=100000
def COk(c:List Sv):Prop:=c.all Pl.fj=b_/\c.length<=1048576
def n6(c:List Sv):Prop:=COk c/\∃t,Pl.nd c c.length=a_ (t,0)
def t_(f:Pl.Tv):Prop:=f.k=3/\n6 f.code/\f.gs.length<=1048576/\∀g∈f.gs,n6 g.test/\n6 g.eT
def EPost(K:Ks)(P:nK)(w:Wd)(r:Pl.Rs)(e:Ending)(w':Wd):Prop:=Below w.1.size w w'/\gL r.2/\match r.1 with
 |.ok a=>∃u0 u1,e=rT (.tuple #[.agg #[u0,u1],eW r.2.f r.2.c r.2.s 0 0])/\RO K (λb=>P b\/w.1.size<=b) w' u0 u1 a
 |.error (k,x)=>¬k=0/\∃a0 n0 c0 a1 n1 c1 s',e=rT (.tuple #[.agg #[sX a0 n0 c0,sX a1 n1 c1],eW r.2.f r.2.c s' k x])
structure Eu(K:Ks)(P:nK)(w:Wd)(u:UV)(G:Gb)(own:List Ar)(eO:Option Pl.Tv)(d:Nat):Prop where
 nm:∃a c a' c',u.ns=sX a G.ns.length c/\u.vs=sX a' G.ns.length c'/\Rn P w a a' G.ns
 nl:G.ns.length<=1048576/\∀p∈G.ns,K.ok p.2
 fn:∃a c,u.fs=sX a G.fs.length c/\jF w.1.size w a G.fs
 fl:G.fs.length<=1048576/\∀f∈G.fs,t_ f
 wf:(∃x n y,u.w0=sX x n y)/\(∃x n y,u.w1=sX x n y)/\(∃x n y,u.a0=sX x n y)/\∃x n y,u.a1=sX x n y
 ol:own.length<=2
 ow:u.own=own.length
 ow0:∀x,own[0]? = a_ x->RO K P w u.w0 u.w1 x
 ow1:∀x,own[1]? = a_ x->RO K P w u.a0 u.a1 x
 sf:match eO with
  |some f=>t_ f/\u.sk=f.k/\u.sn=Pl.ba f.nm/\∃a1 c1 a2 c2,u.sc=sX a1 f.code.length c1/\u.sg=sX a2 f.gs.length c2/\gf w.1.size w a1 f.code/\iG w.1.size w a2 f.gs
  |none=>¬u.sk=3/\∃a1 n1 c1 a2 n2 c2,u.sc=sX a1 n1 c1/\u.sg=sX a2 n2 c2
 dp:d<=50
 cl:u.cl=50-(d:Int)
def jF.kp{w w':Wd}{c:List Pl.Tv}(h:jF w.1.size w a c)(hb:Bl w w'):jF w'.1.size w' a c:=(h.eG hb).up hb.size
section
variable {K:Ks} {P Q:nK} {w w':Wd} {u:UV} {G:Pl.Gb} {own:List Ar} {eO:Option Pl.Tv} {d:Nat}
def Rn.mono{a':oA}{ns:List (lJ × Ar)}(h:Rn P w a a' ns)(hq:∀b,P b->b<w.1.size->Q b):Rn Q w a a' ns :=
 h.imp id λ⟨b,o,b',o',e,e',hb,hb',hc⟩=>⟨b,o,b',o',e,e',hb,hb',λi p hp =>
  let ⟨c0,u0,u1,c1,c2,r⟩:=hc i p hp
  ⟨c0,u0,u1,c1,c2,r.mono hq⟩⟩
def Eu.eG(h:Eu K P w u G own eO d)(hb:Bl w w'):Eu K P w' u G own eO d:=by
 obtain⟨⟨a,c,a',c',e,e',hn⟩,nl,⟨a2,c2,e2,hf⟩,fl,wf,ol,ow,o0,o1,sf,dp,cl⟩:=h;refine⟨⟨a,c,a',c',e,e',hn.kp hb⟩,nl,⟨a2,c2,e2,hf.kp hb⟩,fl,wf,ol,ow,λx hx=>(o0 x hx).kp (.of hb),λx hx=>(o1 x hx).kp (.of hb),?_,dp,cl⟩
 cases eO with
 |none=>exact sf
 |some f=>obtain⟨h1,h2,h3,a1,c1,a2,c2,h4,h5,h6,h7⟩:=sf;exact⟨h1,h2,h3,a1,c1,a2,c2,h4,h5,h6.kp hb,h7.kp hb⟩
def Eu.mono(h:Eu K P w u G own eO d)(hq:∀b,P b->b<w.1.size->Q b):Eu K Q w u G own eO d:=by
 obtain⟨⟨a,c,a',c',e,e',hn⟩,nl,fn,fl,wf,ol,ow,o0,o1,sf,dp,cl⟩:=h;exact⟨⟨a,c,a',c',e,e',hn.mono hq⟩,nl,fn,fl,wf,ol,ow,λx hx=>(o0 x hx).mono hq,λx hx=>(o1 x hx).mono hq,sf,dp,cl⟩
def N7{α:Type}{k:α->List UInt8}{l:List α}{x:lJ}{p:α}:∀{n:Nat},jP k l x n=a_ p->p∈l
 |0,h=>by cases h
 |n+1,h=>by
  simp only[jP] at h;split at h
  ·next q hq =>
   split at h
   ·injection h with h;subst h;exact my hq
   exact N7 h
  cases h
def agf(L:Lm)(u:UV)(w:Wd)(h:0<u.own){x:oA}(e0:u.w0=sX x n y)(e1:u.w1=sX x' n' y'):Cp 74 #[uV L u,.string (Pl.ba [119])] w (rC (.tuple #[.agg #[u.w0,u.w1],.bool b_]) w):=by
 cases L with | mk lf lc lr ls =>
 cases u with | mk Km Kl Ko w0 w1 a0 a1 own sk sn sc sg cl =>
 simp only at e0 e1 h;subst e0 e1;have ho:((Pl.ba [119]).toList == [119])=b_:=by rw[uh];rfl
 go_enter func74,ntmps74;exact IQ
def agi(L:Lm)(u:UV)(w:Wd)(h:1<u.own){x:oA}(e0:u.a0=sX x n y)(e1:u.a1=sX x' n' y'):Cp 74 #[uV L u,.string (Pl.ba [97])] w (rC (.tuple #[.agg #[u.a0,u.a1],.bool b_]) w):=by
 cases L with | mk lf lc lr ls =>
 cases u with | mk Km Kl Ko w0 w1 a0 a1 own sk sn sc sg cl =>
 simp only at e0 e1 h;subst e0 e1;have ho:((Pl.ba [97]).toList == [97])=b_:=by rw[uh];rfl
 have ju:((Pl.ba [97]).toList == [119])=d_:=by rw[uh];rfl
 go_enter func74,ntmps74;exact IQ
def adG(L:Lm)(x:lJ)(h:Eu K P w u G own eO d):Cp 74 #[uV L u,.string (Pl.ba x)] w λe w'=>Bl w w'/\match gH G.ns own x with
  |some a=>∃u0 u1,e=rT (.tuple #[.agg #[u0,u1],.bool b_])/\RO K P w' u0 u1 a
  |none=>e=rT (.tuple #[.agg nN,.bool d_]):=by
 obtain⟨⟨x0,n0,y0,e0⟩,⟨x1,n1,y1,e1⟩,⟨x2,n2,y2,e2⟩,x3,n3,y3,e3⟩:=h.wf;have hg:(decide (0<u.own) && decide (x=[119]))=d_->(decide (1<u.own) && decide (x=[97]))=d_->Cp 74 #[uV L u,.string (Pl.ba x)] w λe w'=>Bl w w'/\match mr G.ns x with
  |some a=>∃u0 u1,e=rT (.tuple #[.agg #[u0,u1],.bool b_])/\RO K P w' u0 u1 a
  |none=>e=rT (.tuple #[.agg nN,.bool d_]):=λh1 h2=>by
  obtain⟨a,c,a',c',f0,f1,hr⟩:=h.nm;refine(agh L u x w G.ns a a' c c' f0 f1 hr h.nl.1 h1 h2).mono λe w' ⟨hb,hm⟩=>⟨hb,?_⟩
  cases hq:mr G.ns x with
  |none=>rw[hq] at hm;exact hm
  |some b =>
   rw[hq] at hm;obtain⟨u0,u1,e,ra⟩:=hm;refine⟨u0,u1,e,ra,?_⟩;unfold mr at hq;obtain⟨p,hp,rfl⟩:=xG.1 hq;exact h.nl.2 p (N7 hp)
 have uP:=h.ow;have hw:0<u.own->x=[119]->Cp 74 #[uV L u,.string (Pl.ba x)] w (rC (.tuple #[.agg #[u.w0,u.w1],.bool b_]) w):=λh1 h2=>h2 ▸ agf L u w h1 e0 e1;have ha:1<u.own->x=[97]->Cp 74 #[uV L u,.string (Pl.ba x)] w (rC (.tuple #[.agg #[u.a0,u.a1],.bool b_]) w):=λh1 h2=>h2 ▸ agi L u w h1 e2 e3;match own,h,uP with
 |[],h,uP =>
  simp only[iA] at uP;exact hg (by simp[uP]) (by simp[uP])
 |[b],h,uP =>
  simp only[fW,iA] at uP;simp only[gH];by_cases hx:x=[119]
  ·rw[eD hx]
   exact(hw oM hx).mono λe w' ⟨hb,he⟩=>⟨hb,_,_,he,(h.ow0 b rfl).kp (.of hb)⟩
  rw[eB hx];exact hg Jl (by simp[uP])
 |b::c::t,h,uP =>
  simp only[fW] at uP;simp only[gH];by_cases hx:x=[119]
  ·rw[eD hx]
   exact(hw oM hx).mono λe w' ⟨hb,he⟩=>⟨hb,_,_,he,(h.ow0 b rfl).kp (.of hb)⟩
  rw[eB hx];by_cases hy:x=[97]
  ·rw[eD hy]
   exact(ha oM hy).mono λe w' ⟨hb,he⟩=>⟨hb,_,_,he,(h.ow1 c rfl).kp (.of hb)⟩
  rw[eB hy];exact hg Jl (by simp[hy])
end
end Go.Proofs.YtiagfejlmafliaaGreatDoor
