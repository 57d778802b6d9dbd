import Derived.Test.YtiagfejlmafliaaGreatDoorNof
import Derived.Test.YtiagfejlmafliaaGreatDoorRt
import Derived.Test.YtiagfejlmafliaaGreatDoorUq
namespace Go.Proofs.YtiagfejlmafliaaGreatDoor
set_option linter.all false
open Go.Proofs.Tryz Pl
open Go.RowKit
set_option maxRecDepth 100000
set_option maxHeartbeats 16000000
open Pl (Ar)
open World renaming setCell->ez,alloc->ew
open List renaming range->eA,replicate->eE
open Option renaming some->a_,none->c_
open Bool renaming true->b_,false->d_
section
variable {w W:Wd}{c0 c2 c3:aV}{u:UV}
abbrev UV.in(u:UV)(f:Pl.Tv)(a1:oA)(c1:Nat)(a2:oA)(c2:Nat)(ow:Int)(v0 v1 v2 v3:Va):UV:={ u with w0:=v2,w1:=v3,a0:=v0,a1:=v1,own:=ow,sk:=f.k,sn:=Pl.ba f.nm,sc:=sX a1 f.code.length c1,sg:=sX a2 f.gs.length c2,cl:=u.cl+1 }
def Fc.p1{c1:aV}(h:Fc w c0 c1 c2 c3 W)(i:Nat)(v:Va):Fc w c0 (c1.setIfInBounds i v) c2 c3 (W.setCell (Y (w.1.size+1) i) v):=by
 have:=h.bl;exact⟨gG,h.b0.fa _,h.b1.set i _,h.b2.fa _,h.b3.fa _,h.b4.fa _,h.b5.fa _⟩
def Fc.put{L:Lm}(h:Fc w c0 (uC L u) c2 c3 W)(k:Int)(s:bA)(p q v0 v1 v2 v3:Va)(ow cl:Int):Fc w c0 (uC L { u with w0:=v2,w1:=v3,a0:=v0,a1:=v1,own:=ow,sk:=k,sn:=s,sc:=p,sg:=q,cl:=cl }) c2 c3 ((((((((((W.setCell (Y (w.1.size+1) 16) (I cl)).setCell (Y (w.1.size+1) 12) (I k)).setCell (Y (w.1.size+1) 13) (.string s)).setCell (Y (w.1.size+1) 14) p).setCell (Y (w.1.size+1) 15) q).setCell (Y (w.1.size+1) 11) (I ow)).setCell (Y (w.1.size+1) 7) v2).setCell (Y (w.1.size+1) 8) v3).setCell (Y (w.1.size+1) 9) v0).setCell (Y (w.1.size+1) 10) v1):=by
 have:=(((((((((h.p1 16 (I cl)).p1 12 (I k)).p1 13 (.string s)).p1 14 p).p1 15 q).p1 11 (I ow)).p1 7 v2).p1 8 v3).p1 9 v0).p1 10 v1;simpa[uC] using this
def aeQ{K:Ks}{P:nK}(L:Lm)(m:Ms)(nm:lJ)(ow:Int)(x0 x1 x2 x3:oA)(n0 n1 n2 n3 y0 y1 y2 y3:Nat)(hm:gL m)(hP:∀b,P b->b<w.1.size)(f:Pl.Tv)(hf:t_ f)(hc0:0<=u.cl)(gE:u.cl<50)(ex:List Sv->Ms->Pl.Rs)
  (KF:∀W,Bl w W->Cp 101 #[uV L u,.string (Pl.ba nm)] W (CT w.1.size W (a_ f)))
  (KW:∀(a1:oA)(c1:Nat) (a2:oA) (c2:Nat) W,Bl w W->gf w.1.size W a1 f.code->iG w.1.size W a2 f.gs->∀c,n6 c->∀ac cp,gf w.1.size W ac c->∀m,gL m->Cp 23 #[eW m.f m.c m.s 0 0,uV L (u.in f a1 c1 a2 c2 ow (sX x0 n0 y0) (sX x1 n1 y1) (sX x2 n2 y2) (sX x3 n3 y3)),sX ac c.length cp] W (EPost K P W (ex c m))) :
  Cp 75 #[eW m.f m.c m.s 0 0,uV L u,.string (Pl.ba nm),I ow,.agg #[sX x0 n0 y0,sX x1 n1 y1],.agg #[sX x2 n2 y2,sX x3 n3 y3]] w (EPost K P w (nT ex f.code f.gs m)):=by
 obtain⟨mf,mc,ms⟩:=m;obtain⟨lf,lc,lr,ls⟩:=L;have⟨r,HR⟩:∃r,Hid (r=nT ex f.code f.gs ⟨mf,mc,ms⟩):=⟨_,rfl⟩;rw[<- HR.o];have F0:=zH (Fc.new (w:=w) (fA mf mc ms 0 0) (uC ⟨lf,lc,lr,ls⟩ u) #[sX x0 n0 y0,sX x1 n1 y1] #[sX x2 n2 y2,sX x3 n3 y3]);replace KF:=zH KF;replace KW:=zH KW;go_enter func75,ntmps75;go_wp2_with fail;refine(KF.o _ gG).mono ?_;rintro e w1 ⟨hb,a1,c1,a2,c2,rfl,rs,rg⟩;have z5:=F0.o.b5.lt;have zb:=hb.size;have F1:=zH (((F0.o.call hb).put f.k (Pl.ba f.nm) (sX a1 f.code.length c1) (sX a2 f.gs.length c2) (sX x0 n0 y0) (sX x1 n1 y1) (sX x2 n2 y2) (sX x3 n3 y3) ow (u.cl+1)).call (W':=(((((((((((w1.setCell (Y (w.1.size+1) 16) (I (u.cl+1))).setCell (Y (w.1.size+1) 12) (I f.k)).setCell (Y (w.1.size+1) 13) (.string (Pl.ba f.nm))).setCell (Y (w.1.size+1) 14) (sX a1 f.code.length c1)).setCell (Y (w.1.size+1) 15) (sX a2 f.gs.length c2)).setCell (Y (w.1.size+1) 11) (I ow)).setCell (Y (w.1.size+1) 7) (sX x2 n2 y2)).setCell (Y (w.1.size+1) 8) (sX x3 n3 y3)).setCell (Y (w.1.size+1) 9) (sX x0 n0 y0)).setCell (Y (w.1.size+1) 10) (sX x1 n1 y1)).alloc (.cells #[I f.k,.string (Pl.ba f.nm),sX a1 f.code.length c1,sX a2 f.gs.length c2] 60))) gG);have RS:=zH rs;have RG:=zH rg;obtain⟨d1,f1,z1⟩:=(F0.o.call hb).b1.all;obtain⟨d2,f2,z2⟩:=(F0.o.call hb).b2.all;obtain⟨d3,f3,z3⟩:=(F0.o.call hb).b3.all;have HB:=zH zb;go_wp2_with fail;have b6:Bx (((((((((((w1.setCell (Y (w.1.size+1) 16) (I (u.cl+1))).setCell (Y (w.1.size+1) 12) (I f.k)).setCell (Y (w.1.size+1) 13) (.string (Pl.ba f.nm))).setCell (Y (w.1.size+1) 14) (sX a1 f.code.length c1)).setCell (Y (w.1.size+1) 15) (sX a2 f.gs.length c2)).setCell (Y (w.1.size+1) 11) (I ow)).setCell (Y (w.1.size+1) 7) (sX x2 n2 y2)).setCell (Y (w.1.size+1) 8) (sX x3 n3 y3)).setCell (Y (w.1.size+1) 9) (sX x0 n0 y0)).setCell (Y (w.1.size+1) 10) (sX x1 n1 y1)).alloc (.cells #[I f.k,.string (Pl.ba f.nm),sX a1 f.code.length c1,sX a2 f.gs.length c2] 60)) w1.1.size #[I f.k,.string (Pl.ba f.nm),sX a1 f.code.length c1,sX a2 f.gs.length c2] 60:=.eK sI;have B1:Below w.1.size w1 (((((((((((w1.setCell (Y (w.1.size+1) 16) (I (u.cl+1))).setCell (Y (w.1.size+1) 12) (I f.k)).setCell (Y (w.1.size+1) 13) (.string (Pl.ba f.nm))).setCell (Y (w.1.size+1) 14) (sX a1 f.code.length c1)).setCell (Y (w.1.size+1) 15) (sX a2 f.gs.length c2)).setCell (Y (w.1.size+1) 11) (I ow)).setCell (Y (w.1.size+1) 7) (sX x2 n2 y2)).setCell (Y (w.1.size+1) 8) (sX x3 n3 y3)).setCell (Y (w.1.size+1) 9) (sX x0 n0 y0)).setCell (Y (w.1.size+1) 10) (sX x1 n1 y1)).alloc (.cells #[I f.k,.string (Pl.ba f.nm),sX a1 f.code.length c1,sX a2 f.gs.length c2] 60)):=by
  have:w.1.size<=w1.1.size:=by have zb:=HB.o;simp at zb;omega
  go_grown
 have SB:=zH B1;have lZ:w.1.size+6<=w1.1.size:=by have zb:=HB.o;simp at zb;omega
 generalize ew (ez (ez (ez (ez (ez (ez (ez (ez (ez (ez w1 _ _) _ _) _ _) _ _) _ _) _ _) _ _) _ _) _ _) _ _) _=W2,hZ:w1.1.size=Z,hu:u.in f a1 c1 a2 c2 ow (sX x0 n0 y0) (sX x1 n1 y1) (sX x2 n2 y2) (sX x3 n3 y3)=u' at *;have F2:Fc w (fA mf mc ms 0 0) (uC ⟨lf,lc,lr,ls⟩ u') #[sX x0 n0 y0,sX x1 n1 y1] #[sX x2 n2 y2,sX x3 n3 y3] W2:=by subst hu;exact F1.o
 have wK:∀W,Bl w W->Below w.1.size w1 W->∀c,n6 c->∀ac cp,gf w.1.size W ac c->∀m,gL m->Cp 23 #[eW m.f m.c m.s 0 0,uV ⟨lf,lc,lr,ls⟩ u',sX ac c.length cp] W (EPost K P W (ex c m)):=λW h1 h2 c hc ac cp hr m hm=>by
  have:=KW.o a1 c1 a2 c2 W h1 (RS.o.eG h2) (RG.o.eG h2) c hc ac cp hr m hm;rwa [hu] at this
 refine ae9 hP hf lZ HR.o hm F2 b6 SB.o RG.o wK ?_;intro k fu ce sd wr _ _ _ _ _ _ _ _ _ _ _ _ _ _ _ _ _ _ _ _ _ _ _ _ _ _ _ _ _ _ _ _ _ _ _ _ _ _ _ _ _ _ _ _ _ _ _ _ _ _ _ _ _ _ _ _ _ _ _ _ _ _ _ _ oQ eN F3 b7 S3;replace wK:=zH wK;replace F3:=zH F3;replace S3:=zH S3;have HP:=zH hP;replace eN:=zH eN;replace oQ:=zH oQ;have HF:=zH hf;have lA:=F3.o.b5.lt;obtain⟨d0,f0,z0⟩:=F3.o.b0.all;obtain⟨d1,f1,z1⟩:=F3.o.b1.all;obtain⟨d6,f6,z6⟩:=b7.all;go_wp2_with fail;refine(wK.o _ F3.o.bl S3.o f.code HF.o.2.1 a1 c1 (RS.o.eG S3.o) ⟨fu,ce,sd⟩ oQ.o).mono ?_;rintro e w5 hp;have HQ:=zH hp;have F5:=zH (F3.o.call hp.1);obtain⟨r0,m0,e0,r1,m1,e1,f5,c5,s5,k5,x5,rfl⟩:=hp.form;have⟨d4,g4,z4⟩:=F5.o.b4.all;have⟨d5,g5,z5⟩:=F5.o.b5.all;go_wp2;refine bodyPost_ret (by simp[results,results75,go_sem,d4,d5];try rfl) rfl ?_;have:=F5.o.bl;have Et:=F3.o.bl.size;rw[eN.o];exact HQ.o.move (by repeat' (first | with_reducible exact Kp.refl _ _ | with_reducible refine Kp.set ?_ ?_ _ | exact λh=>h.elim (λh=>absurd (HP.o _ h) J6) (λh=>by dsimp only at h;omega))) gG (λb h=>h.imp id λh=>oM)
end
section
variable {K:Ks}{L:Lm}
def ait(K:Ks)(L:Lm)(G:Gb):PC K L G 0:=by
 intro P w u own eO nm vs m x0 x1 x2 x3 n0 n1 n2 n3 y0 y1 y2 y3 hm hP h hv h0 h1;have KF:=λW (hW:Bl w W)=>Wr L nm h hW;have e:ki K.k1 K.k2 L G 0 eO nm vs m=match mX G.fs eO nm with
  |none=>(.error (2,10),m)
  |some _=>(.error (2,13),m):=rfl
 rw[e]
 cases hf:mX G.fs eO nm with
 |none =>
  rw[hf] at KF;exact UZ L m nm _ x0 x1 x2 x3 n0 n1 n2 n3 y0 y1 y2 y3 hm KF
 |some f =>
  rw[hf] at KF;exact acM L m nm _ x0 x1 x2 x3 n0 n1 n2 n3 y0 y1 y2 y3 hm f (by have:=h.cl;omega) KF
def aiu(H:KS K)(O:KO K)(hL:kJ L){G:Gb}{d:Nat}(hd:d<50)(HC:PC K L G d):PC K L G (d+1):=by
 intro P w u own eO nm vs m x0 x1 x2 x3 n0 n1 n2 n3 y0 y1 y2 y3 hm hP h hv h0 h1;have KF:=λW (hW:Bl w W)=>Wr L nm h hW;have jy:=h.cl;have e:ki K.k1 K.k2 L G (d+1) eO nm vs m=match mX G.fs eO nm with
  |none=>(.error (2,10),m)
  |some f=>nT (oW K.k1 K.k2 L (gH G.ns vs) (ki K.k1 K.k2 L G d (a_ f))) f.code f.gs m:=rfl
 rw[e]
 cases hf:mX G.fs eO nm with
 |none =>
  rw[hf] at KF;exact UZ L m nm _ x0 x1 x2 x3 n0 n1 n2 n3 y0 y1 y2 y3 hm KF
 |some f =>
  rw[hf] at KF;have jk:=ahZ nm h hf;refine aeQ L m nm _ x0 x1 x2 x3 n0 n1 n2 n3 y0 y1 y2 y3 hm hP f jk oM oM _ KF ?_;intro a1 c1 a2 c2 W hW rs rg c hc ac cp hr m hm;have h':=h.eG hW;refine UX H O L hL HC c hc P W _ vs (a_ f) m ac cp (λb hb=>jL (hP b hb) hW.size) ⟨h'.nm,h.nl,h'.fn,h.fl,⟨⟨_,_,_,rfl⟩,⟨_,_,_,rfl⟩,⟨_,_,_,rfl⟩,_,_,_,rfl⟩,by omega,rfl,λx hx=>(h0 x hx).kp (.of hW),λx hx=>(h1 x hx).kp (.of hW),⟨jk,rfl,rfl,a1,c1,a2,c2,rfl,rfl,rs.up hW.size,rg.up hW.size⟩,by omega,by show u.cl+1=_;omega⟩ (hr.up hW.size) hm
def π(H:KS K)(O:KO K)(hL:kJ L)(G:Gb):∀d,d<=50->PC K L G d
 |0,_=>ait K L G
 |d+1,h=>aiu H O hL oM (π H O hL G d oM)
end
section
variable {B e1 z1 n1 b:Nat}{v1:Va}{x1:List Va}
def AR{e2 z2 n2:Nat}{w:Wd}{v2:Va}{x2:List Va}(h1:w.ownsRow B e1 z1 v1 n1 x1)(h2:w.ownsRow B e2 z2 v2 n2 x2)(he:¬e1=e2)(hb:v1.ownBlock=a_ b):¬v2.ownBlock=a_ b:=λhb2=>by
 rcases h1.2 with ⟨rfl,_⟩|⟨g,_,cur,rfl,_,hg,_⟩
 ·cases hb
 rcases h2.2 with ⟨rfl,_⟩|⟨g2,_,apY,rfl,_,kO,_⟩
 ·cases hb2
 have e1:g=b:=qT hb;have e2:g2=b:=qT hb2;subst e1 e2;rw[hg] at kO;injection kO with kO;injection kO with _ h _;exact he h
def jW{w:Wd}(h1:w.ownsRow B e1 z1 v1 n1 x1){t:Nat}{cs:aV}(h2:Bx w b cs t)(he:¬e1=t):¬v1.ownBlock=a_ b:=λhb=>by
 rcases h1.2 with ⟨rfl,_⟩|⟨g,_,cur,rfl,_,hg,_⟩
 ·cases hb
 have e1:g=b:=qT hb;subst e1;rw[h2] at hg;injection hg with hg;injection hg with _ h _;exact he h.symm
abbrev Nm:=List (lJ × Ar)
def Pg(A U:Nat)(ns vs fs:Va)(w:Wd)(b:Nat):Prop:=b<w.1.size/\(b<A\/U<=b)/\¬ns.ownBlock=a_ b/\¬vs.ownBlock=a_ b/\¬fs.ownBlock=a_ b
structure Gs(g:Prop)(K:Ks)(A U q:Nat)(w:Wd)(l1 l2:Nm)(fl:List Pl.Tv)(ns vs fs:Va):Prop where
 on:w.ownsRow A 9 1 ns l1.length (l1.map λp=>.string (Pl.ba p.1))
 ov:∃xs,w.ownsRow A 30 2 vs l2.length xs/\∀(i:Nat) p,l2[i]? = a_ p->∃u0 u1,xs[i * 2]? = a_ u0/\xs[i * 2+1]? = a_ u1/\(g->RO K (Pg A U ns vs fs w) w u0 u1 p.2)
 of:∃ys,w.ownsRow A 60 4 fs fl.length ys/\∀(i:Nat) f,fl[i]? = a_ f->t_ f/\∃a1 c1 a2 c2,ys[i * 4]? = a_ (I f.k)/\ys[i * 4+1]? = a_ (.string (Pl.ba f.nm))/\ys[i * 4+2]? = a_ (sX a1 f.code.length c1)/\ys[i * 4+3]? = a_ (sX a2 f.gs.length c2)/\gf A w a1 f.code/\iG A w a2 f.gs
 nq:¬vs.ownBlock=a_ q
 qs:A<=q/\q<U/\U<=w.1.size
section
variable {g g':Prop} {K:Ks} {A U q:Nat} {w w':Wd} {l1 l2:Nm} {fl:List Pl.Tv} {ns vs fs:Va}
def Gs.move(h:Gs g K A U q w l1 l2 fl ns vs fs)(kb:Below A w w')(k1:Kp (λb=>ns.ownBlock=a_ b) w w')(k2:Kp (λb=>vs.ownBlock=a_ b) w w')(k3:Kp (λb=>fs.ownBlock=a_ b) w w')(k4:Kp (Pg A U ns vs fs w) w w'):Gs g K A U q w' l1 l2 fl ns vs fs:=by
 obtain⟨on,⟨xs,o2,h2⟩,⟨ys,o3,h3⟩,nq,q1,q2,q3⟩:=h;refine⟨qi on k1,⟨xs,qi o2 k2,λi p hp=>?_⟩,⟨ys,qi o3 k3,λi f hf=>?_⟩,nq,q1,q2,jT q3 kb.size⟩
 ·have⟨u0,u1,e0,e1,r⟩:=h2 i p hp
  exact⟨u0,u1,e0,e1,λhg=>((r hg).kp k4).mono λb hb hl=>⟨hl,hb.2⟩⟩
 exact Qp
def Gs.below(h:Gs g K A U q w l1 l2 fl ns vs fs)(k:Bl w w'):Gs g K A U q w' l1 l2 fl ns vs fs :=
 h.move (k.mono (by have:=h.qs;omega)) (.of k) (.of k) (.of k) (.of k)
def Gs.I6(h:Gs g K A U q w l1 l2 fl ns vs fs)(hg:g'->g):Gs g' K A U q w l1 l2 fl ns vs fs:=by
 obtain⟨on,⟨xs,o2,h2⟩,o3,nq,qs⟩:=h;exact⟨on,⟨xs,o2,λi p hp=>let ⟨u0,u1,e0,e1,r⟩:=h2 i p hp;⟨u0,u1,e0,e1,λh=>r (hg h)⟩⟩,o3,nq,qs⟩
def Gs.box(h:Gs g K A U q w l1 l2 fl ns vs fs)(k:w.grownBy w' (a_ b))(hb:A<=b/\b<U)(n1:¬ns.ownBlock=a_ b)(n2:¬vs.ownBlock=a_ b)(n3:¬fs.ownBlock=a_ b):Gs g K A U q w' l1 l2 fl ns vs fs:=by
 have hq:=h.qs;refine h.move (qd k hb.1 oM) ⟨k.size,λc hc hl=>k.block c hl λe=>?_⟩ ⟨k.size,λc hc hl=>k.block c hl λe=>?_⟩ ⟨k.size,λc hc hl=>k.block c hl λe=>?_⟩ ⟨k.size,λc hc hl=>k.block c hl λe=>?_⟩
 ·injection e with e;subst e;exact n1 hc
 ·injection e with e;subst e;exact n2 hc
 ·injection e with e;subst e;exact n3 hc
 injection e with e;subst e;have:=hc.2.1;omega
def Pg.next{xW BK Ad:Va}(hs:w.1.size<=w'.1.size)(e1:mY w ns xW)(e2:mY w vs BK)(e3:mY w fs Ad)(h:Pg A U ns vs fs w b):Pg A U xW BK Ad w' b:=by
 obtain⟨h0,h1,h2,h3,h4⟩:=h;have hn:¬a_ w.1.size=a_ b:=λe=>by injection e with e;omega
 refine⟨oM,h1,?_,?_,?_⟩
 ·rcases e1 with e|e <;> rw[e] <;> assumption
 ·rcases e2 with e|e <;> rw[e] <;> assumption
 rcases e3 with e|e <;> rw[e] <;> assumption
def mY.rfl'(w:Wd)(v:Va):mY w v v:=.inl rfl
def np{Q:nK}{r:Option Nat}(k:w.grownBy w' r)(h:∀b,Q b->¬r=a_ b):Kp Q w w':=⟨k.size,λc hc hl=>k.block c hl λe=>h c hc e.symm⟩
def AA{e z n:Nat}{v:Va}{xs:List Va}(h:w.ownsRow B e z v n xs)(k:w.grownBy w' v.ownBlock)(hs:B<=w.1.size):Below B w w' :=
 ⟨k.os,k.tape,k.output,k.size,λb hb=>k.block b oM λe=>by have:=(h.lt b e.symm).1;omega⟩
def Gs.apm(h:Gs g K A U q w l1 l2 fl ns vs fs)(b cap:Nat)(p:lJ × Ar)(hc:∀o,w.cell? (Y b o)=#[Value.string (Pl.ba p.1)][o]?)(hl:l1.length+1<=16777216)(ty:TypeId):
  ∃v' w',(Builtin.append_ #[55,55] ty #[ns,sX (sY b 0) 1 cap]).run prog w=.ok v' w'/\Gs g K A U q w' (l1++[p]) l2 fl v' vs fs/\w.grownBy w' ns.ownBlock/\mY w ns v':=by
 obtain⟨on,⟨xs,o2,h2⟩,⟨ys,o3,h3⟩,nq,q1,q2,q3⟩:=h;have⟨v',w',hr,ho,hg,qB⟩:=Dh apf on b cap _ rfl hc (by simp[Value.oneCell']) hl oM ty;have kb:=AA on hg oM;have k4:Kp (Pg A U ns vs fs w) w w':=np hg λc hc=>hc.2.2.1;refine⟨v',w',hr,⟨by simpa using ho,⟨xs,qi o2 (np hg λc hc=>AR o2 on dC hc),λi p hp=>?_⟩,⟨ys,qi o3 (np hg λc hc=>AR o3 on dC hc),λi f hf=>?_⟩,nq,q1,q2,jT q3 hg.size⟩,hg,qB⟩
 ·have⟨u0,u1,e0,e1,r⟩:=h2 i p hp
  exact⟨u0,u1,e0,e1,λzV=>((r zV).kp k4).mono λb hb hl=>Pg.next hg.size qB (.rfl' _ _) (.rfl' _ _) hb⟩
 exact Qp
def Gs.apl(h:Gs g K A U q w l1 l2 fl ns vs fs)(b cap:Nat)(p:lJ × Ar)(u0 u1:Va)(f0:u0.oneCell'=b_/\u1.oneCell'=b_)(hc:∀o,w.cell? (Y b o)=#[u0,u1][o]?)(ro:g->RO K (Pg A U ns vs fs w) w u0 u1 p.2)(hl:l2.length+1<=16777216)(ty:TypeId):
  ∃v' w',(Builtin.append_ #[56,56] ty #[vs,sX (sY b 0) 1 cap]).run prog w=.ok v' w'/\Gs g K A U q w' l1 (l2++[p]) fl ns v' fs/\w.grownBy w' vs.ownBlock/\mY w vs v':=by
 obtain⟨on,⟨xs,o2,h2⟩,⟨ys,o3,h3⟩,nq,q1,q2,q3⟩:=h;have⟨v',w',hr,ho,hg,qB⟩:=Dh Q8 o2 b cap _ rfl hc (by simp[f0]) hl oM ty;have kb:=AA o2 hg oM;have k4:Kp (Pg A U ns vs fs w) w w':=np hg λc hc=>hc.2.2.2.1;refine⟨v',w',hr,⟨qi on (np hg λc hc=>AR on o2 dC hc),⟨_,by simpa using ho,λi z hz=>?_⟩,⟨ys,qi o3 (np hg λc hc=>AR o3 o2 dC hc),λi f hf=>?_⟩,?_,q1,q2,jT q3 hg.size⟩,hg,qB⟩
 rotate_left 1
 ·exact Qp
 ·rcases qB with e|e
  ·rw[e];exact nq
  rw[e];exact λe=>by injection e with e;omega
 have hx:=o2.1;by_cases hi:i<l2.length
 ·rw[pA hi] at hz
  have⟨z0,z1,e0,e1,r⟩:=h2 i z hz;exact⟨z0,z1,by rw[pA oM];exact e0,by rw[pA oM];exact e1,λzV=>((r zV).kp k4).mono λb hb hl=>Pg.next hg.size (.rfl' _ _) qB (.rfl' _ _) hb⟩
 have Ey:i=l2.length:=by
  have:=(gQ.1 hz).1;simp at this;omega
 subst Ey;obtain rfl:p=z:=by simpa using hz
 refine⟨u0,u1,?_,?_,λzV=>((ro zV).kp k4).mono λb hb hl=>Pg.next hg.size (.rfl' _ _) qB (.rfl' _ _) hb⟩
 ·rw[oI oM,show l2.length * 2-xs.length=0 by omega];rfl
 rw[oI oM,show l2.length * 2+1-xs.length=1 by omega];rfl
def Gs.apn(h:Gs g K A U q w l1 l2 fl ns vs fs)(b cap:Nat)(t:Pl.Tv)(ht:t_ t)(a1:oA)(c1:Nat)(a2:oA)(c2:Nat)(hc:∀o,w.cell? (Y b o)=#[Value.int .i64 t.k,.string (Pl.ba t.nm),sX a1 t.code.length c1,sX a2 t.gs.length c2][o]?)(r1:gf A w a1 t.code)(r2:iG A w a2 t.gs)(hl:fl.length+1<=16777216)(ty:TypeId):
  ∃v' w',(Builtin.append_ #[34,34] ty #[fs,sX (sY b 0) 1 cap]).run prog w=.ok v' w'/\Gs g K A U q w' l1 l2 (fl++[t]) ns vs v'/\w.grownBy w' fs.ownBlock/\mY w fs v':=by
 obtain⟨on,⟨xs,o2,h2⟩,⟨ys,o3,h3⟩,nq,q1,q2,q3⟩:=h;have⟨v',w',hr,ho,hg,qB⟩:=Dh apg o3 b cap _ rfl hc (by simp[Value.oneCell']) hl oM ty;have kb:=AA o3 hg oM;have k4:Kp (Pg A U ns vs fs w) w w':=np hg λc hc=>hc.2.2.2.2;refine⟨v',w',hr,⟨qi on (np hg λc hc=>AR on o3 dC hc),⟨xs,qi o2 (np hg λc hc=>AR o2 o3 dC hc),λi z hz=>?_⟩,⟨_,by simpa using ho,λi f hf=>?_⟩,nq,q1,q2,jT q3 hg.size⟩,hg,qB⟩
 ·have⟨u0,u1,e0,e1,r⟩:=h2 i z hz
  exact⟨u0,u1,e0,e1,λzV=>((r zV).kp k4).mono λb hb hl=>Pg.next hg.size (.rfl' _ _) (.rfl' _ _) qB hb⟩
 have hx:=o3.1;by_cases hi:i<fl.length
 ·rw[pA hi] at hf
  obtain⟨ok,d1,g1,d2,g2,e0,e1,e2,e3,s1,s2⟩:=h3 i f hf;exact⟨ok,d1,g1,d2,g2,by rw[pA oM];exact e0,by rw[pA oM];exact e1,by rw[pA oM];exact e2,by rw[pA oM];exact e3,s1.eG kb,s2.eG kb⟩
 have Ey:i=fl.length:=by
  have:=(gQ.1 hf).1;simp at this;omega
 subst Ey;obtain rfl:t=f:=by simpa using hf
 refine⟨ht,a1,c1,a2,c2,?_,?_,?_,?_,r1.eG kb,r2.eG kb⟩
 ·rw[oI oM,show fl.length * 4-ys.length=0 by omega];rfl
 ·rw[oI oM,show fl.length * 4+1-ys.length=1 by omega];rfl
 ·rw[oI oM,show fl.length * 4+2-ys.length=2 by omega];rfl
 rw[oI oM,show fl.length * 4+3-ys.length=3 by omega];rfl
abbrev uR(ns vs fs:Va):UV:=⟨ns,vs,fs,nJ,nJ,nJ,nJ,0,0,ByteArray.empty,nJ,nJ,0⟩
def Gs.eu(h:Gs g K A U q w l1 l1 fl ns vs fs)(hg:g)(hn:l1.length<=1048576)(hf:fl.length<=1048576):Eu K (Pg A U ns vs fs w) w (uR ns vs fs) ⟨l1,fl⟩ [] c_ 50:=by
 obtain⟨on,⟨xs,o2,h2⟩,⟨ys,o3,h3⟩,nq,q1,q2,q3⟩:=h;obtain⟨a,c,rfl⟩:=rL on;obtain⟨a',c',rfl⟩:=rL o2;obtain⟨af,cf,rfl⟩:=rL o3;refine⟨⟨a,c,a',c',rfl,rfl,?_⟩,⟨hn,λp hp=>?_⟩,⟨af,cf,rfl,?_⟩,⟨hf,λf hf=>?_⟩,⟨⟨_,_,_,rfl⟩,⟨_,_,_,rfl⟩,⟨_,_,_,rfl⟩,_,_,_,rfl⟩,sI,rfl,λx hx=>by simp at hx,λx hx=>by simp at hx,⟨sI,c_,0,0,c_,0,0,rfl,rfl⟩,oM,sI⟩
 ·by_cases hz:l1=[]
  ·exact .inl hz
  have hp:0<l1.length:=by cases l1 with | nil=>exact absurd rfl hz | cons=>simp
  obtain⟨gb,rfl,_,lg,cg⟩:=yT on hp;obtain⟨gb',rfl,_,lg',cg'⟩:=yT o2 hp;refine .inr ⟨gb,0,gb',0,rfl,rfl,lg,lg',λi p hi=>?_⟩;have eI:i<l1.length:=(gQ.1 hi).1;have⟨u0,u1,e0,e1,r⟩:=h2 i p hi;exact⟨by rw[gY,cg i oM,qo,hi];rfl,u0,u1,by rw[gY,cg' _ oM,e0],by rw[gY,cg' _ oM,e1],(r hg).1⟩
 ·obtain⟨i,hi⟩:=PH.1 hp
  have⟨u0,u1,e0,e1,r⟩:=h2 i p hi;exact(r hg).2
 ·by_cases hz:fl=[]
  ·exact .inl hz
  have hp:0<fl.length:=by cases fl with | nil=>exact absurd rfl hz | cons=>simp
  obtain⟨gb,rfl,_,lg,cg⟩:=yT o3 hp;refine .inr ⟨gb,0,lg,rfl,λi f hi=>?_⟩;have eI:i<fl.length:=(gQ.1 hi).1;obtain⟨ok,a1,c1,a2,c2,e0,e1,e2,e3,r1,r2⟩:=h3 i f hi;rw[gY];exact⟨a1,a2,c1,c2,by rw[cg _ oM,e0],by rw[cg _ oM,e1],by rw[cg _ oM,e2],by rw[cg _ oM,e3],r1.up oM,r2.up oM⟩
 obtain⟨i,hi⟩:=PH.1 hf;exact(h3 i f hi).1
end
end
section
variable {o:Oper}{a:Act}{t:TypeId}{p x:Operand}{q v y:Va}{w w':Wd}
def AK(gO:o.op=Op.load t p)(hp:a.eval p=q)(hr:(Instr.loadAt t q).run prog w=.ok v w):(execOp a.eval o).run prog w=.ok (.value v) w:=by simp[execOp,gO,hp,hr,Result.andThen]
def N'(gO:o.op=Op.store t p x)(hp:a.eval p=q)(hx:a.eval x=y)(hr:(Instr.storeAt t q y).run prog w=.ok () w'):(execOp a.eval o).run prog w=.ok .skip w':=by simp[execOp,gO,hp,hx,hr,Result.andThen]
def Gz{n:Nat}(gO:o.op=Op.buildSlice t n #[(0,x)])(hx:a.eval x=y)(hr:(Instr.buildSlice t n #[(0,y)]).run prog w=.ok v w'):(execOp a.eval o).run prog w=.ok (.value v) w':=by simp[execOp,gO,hx,hr,Result.andThen]
def rdv{ops:Array Oper}{Q:Exit->Act->Wd->Prop}{S:Wd->Prop}{fuel:Nat}{listed:Array Bool}(i j:Nat)(v u:Va)(w1:Wd){oi oj:Oper}(ei:ops[i]? = a_ oi)(ej:ops[j]? = a_ oj)(gi:oi.guard=c_)(gj:oj.guard=c_)(hi:(execOp a.eval oi).run prog w=.ok (.value v) w)(hj:(execOp a.eval oj).run prog w=.ok (.value u) w1)(Ez:(execOp (a.put oj.dst u).eval oi).run prog w1=.ok (.value v) w1)(zS:(execOp (a.put oi.dst v).eval oj).run prog w=.ok (.value u) w1)(hS:S w)(Tn:S w1)
  (h1:wpAnyH prog .any ops Q S fuel ((listed.setIfInBounds i b_).setIfInBounds j b_) ((a.put oi.dst v).put oj.dst u) w1) (h2:wpAnyH prog .any ops Q S fuel ((listed.setIfInBounds j b_).setIfInBounds i b_) ((a.put oj.dst u).put oi.dst v) w1)
  (hr:Region.ready .any ops listed=[i,j]:=by kernel_rfl) (yb:Region.ready .any ops (listed.setIfInBounds i b_)=[j]:=by kernel_rfl) (eN:Region.ready .any ops (listed.setIfInBounds j b_)=[i]:=by kernel_rfl):wpAnyH prog .any ops Q S (fuel+1+1) listed a w :=
 gT i j ei ej (iL v w gi hi hS (tv j u w1 ej gj zS Tn h1 yb)) (iL u w1 gj hj Tn (tv i v w1 ei gi Ez Tn h2 eN)) hr
def nrm{Q:Act->Prop}{b:Act}(h:Q b)(e:a=b:=by kernel_rfl):Q a:=e ▸ h
def TS(s:Pl.Tv):Prop:=(s.k=1\/s.k=2\/s.k=3)/\n6 s.code/\(s.k=3->t_ s)
def CN(L:Lm)(K:Ks)(r:Pl.Rs)(p:List Pl.Tv)(k:Nat)(G:Gb)(vo:Option Ar)(m:Ms)(s5 kk xx:Int):Prop:=gL m/\G.ns.length<=k+1/\G.fs.length<=k/\((kk=0/\xx=0/\s5=m.s/\r=iP K.k1 K.k2 L (p.drop k) G vo m)\/(¬kk=0/\r=(.error (kk,xx),m)))
structure Lw(K:Ks)(L:Lm)(w:Wd)(Z:Nat)(G:Gb)(l2:Nm)(vo:Option Ar)(m:Ms)(s5 kk xx:Int)(ns vs fs y0 y1:Va)(W:Wd):Prop where
 b6:Bx W (w.1.size+2) #[I 0,I 0,nJ,nJ,I 0,I 0] 32
 b7:Bx W Z (uC L (uR ns vs fs)) 62
 b8:Bx W (Z+1) (fA m.f m.c s5 kk xx) 64
 b9:Bx W (Z+2) #[y0,y1] 30
 gs:Gs (kk=0) K w.1.size (Z+3) (Z+2) W G.ns l2 G.fs ns vs fs
 vo:∀a,kk=0->vo=a_ a->RO K (Pg w.1.size (Z+3) ns vs fs W) W y0 y1 a
 bl:Below w.1.size w W
def Lw.below{K:Ks}{L:Lm}{W W':Wd}{Z:Nat}{G:Gb}{l2:Nm}{vo:Option Ar}{m:Ms}{s5 kk xx:Int}{ns vs fs y0 y1:Va}(h:Lw K L w Z G l2 vo m s5 kk xx ns vs fs y0 y1 W)(k:Bl W W'):Lw K L w Z G l2 vo m s5 kk xx ns vs fs y0 y1 W' :=
 ⟨h.b6.below k,h.b7.below k,h.b8.below k,h.b9.below k,h.gs.below k,λa e1 e2=>((h.vo a e1 e2).kp (.of k)).mono λb hb hl=>⟨hl,hb.2⟩,bv k h.bl⟩
end
def ahj{K:Ks}{P:nK}{wr:Wd}{u:UV}{rr:Pl.Rs}{fu ce sd lf lc ls:Int}{lr:Bool}{Z k n bp op cp tl p1:Nat}{t1:oA}(hP:∀b,P b->b<wr.1.size)(hk:(k:Int)<(n:Int))(hn:n<=1000000)(hb2:bp<Z)(b8:Bx wr (Z+1) (fA fu ce sd 0 0) 64)(b7:Bx wr Z (uC ⟨lf,lc,lr,ls⟩ u) 62)(hg:wr.cell? (Y bp (op+k * 4+2))=a_ (sX t1 tl p1))
  (KT:∀W,Bl wr W->Cp 23 #[eW fu ce sd 0 0,uV ⟨lf,lc,lr,ls⟩ u,sX t1 tl p1] W (EPost K P W rr))
  {K' K1 K2 K3:Act->Wd->Prop} {Q:Ending->Wd->Prop} {dg dj cX di de cT cY aU bH bU bE aQ ch a7 aT bK a3 bM cm bF cw cC bB aY aV cF cR bA cj bw cQ cD ck aN cO cK bW bc cz a5 bJ a8 bG cG bT bf bj ct a9 cg aZ bi cH aO aX bg co bz cB cq bN bS ci br cI bO aP bu bL a6 cP cu cJ cE cr aR bh bP bI aW bk cA bX bV bY aS bD ca cN cM bQ cc bC bR be bq af aH ah aJ ad ag aw aK ak aI aE ac aq am ab au aa ap aC ae aA ai aj az aG aM av aB aF aD aL:Va}
  (HK:∀(cS cU cV dc c9 dk c8 dh dl cW cZ:Va)(p q:Nat) (a0:oA) (n0 c0:Nat) (a1:oA) (n1 c1:Nat) (f5 c5 s5 k5 x5:Int) (wy:Wd),EPost K P wr rr (rT (.tuple #[.agg #[sX a0 n0 c0,sX a1 n1 c1],eW f5 c5 s5 k5 x5])) wy->Bx wy p #[sX a0 n0 c0,sX a1 n1 c1] 30->Bx wy q (fA f5 c5 s5 k5 x5) 64->wr.1.size<=p->wr.1.size<=q->Exit.then K' (Exit.inBlock 1 (Exit.then K1 (Exit.then K2 (Exit.inBlock 0 (Exit.then K3 (bodyPost prog Tryz.f6 Q)))))) .normal { tmps:=#[sX (sY bp op) n cp,dg,dj,cX,di,de,cT,pT Z,pT (Z+1),cY,aU,I (k:Int),pT p,pT q,bE,aQ,ch,a7,aT,bK,a3,bM,cm,bF,cw,cC,bB,aY,aV,cF,cR,bA,cj,bw,cQ,cD,ck,aN,cO,cK,bW,bc,cz,a5,bJ,a8,bG,cG,bT,bf,bj,ct,a9,cg,aZ,bi,cH,aO,aX,bg,co,bz,cB,cq,bN,cS,cU,cV,dc,c9,dk,c8,dh,dl,cW,cZ,cJ,cE,cr,aR,bh,bP,bI,aW,bk,cA,bX,bV,bY,aS,bD,ca,cN,cM,bQ,cc,bC,bR,be,bq,af,aH,ah,aJ,ad,ag,aw,aK,ak,aI,aE,ac,aq,am,ab,au,aa,ap,aC,ae,aA,ai,aj,az,aG,aM,av,aB,aF,aD,aL],defers:=[] } wy) :
  Code.wp prog ((oO 12 (Tryz.f6.body.getD .skip)).getD .skip) (Exit.then K' (Exit.inBlock 1 (Exit.then K1 (Exit.then K2 (Exit.inBlock 0 (Exit.then K3 (bodyPost prog Tryz.f6 Q))))))) { tmps:=#[sX (sY bp op) n cp,dg,dj,cX,di,de,cT,pT Z,pT (Z+1),cY,aU,I (k:Int),bH,bU,bE,aQ,ch,a7,aT,bK,a3,bM,cm,bF,cw,cC,bB,aY,aV,cF,cR,bA,cj,bw,cQ,cD,ck,aN,cO,cK,bW,bc,cz,a5,bJ,a8,bG,cG,bT,bf,bj,ct,a9,cg,aZ,bi,cH,aO,aX,bg,co,bz,cB,cq,bN,bS,ci,br,cI,bO,aP,bu,bL,a6,cP,cu,cJ,cE,cr,aR,bh,bP,bI,aW,bk,cA,bX,bV,bY,aS,bD,ca,cN,cM,bQ,cc,bC,bR,be,bq,af,aH,ah,aJ,ad,ag,aw,aK,ak,aI,aE,ac,aq,am,ab,au,aa,ap,aC,ae,aA,ai,aj,az,aG,aM,av,aB,aF,aD,aL],defers:=[] } wr:=by
 conv=>arg 2;whnf
 dsimp only;replace KT:=zH KT;replace HK:=zH HK;have lZ:=b8.lt;replace b7:=zH b7;replace b8:=zH b8;obtain⟨d0,f0,z0⟩:=b8.o.all;obtain⟨d1,f1,z1⟩:=b7.o.all;have z7:bp<wr.1.size:=oM;have⟨i0,i1,i2,i3,i4,i5,i6,i7,i8,i9,i10,i11⟩:¬Z=wr.1.size/\¬wr.1.size=Z/\¬Z=wr.1.size+1/\¬wr.1.size+1=Z/\¬Z+1=wr.1.size/\¬wr.1.size=Z+1/\¬Z+1=wr.1.size+1/\¬wr.1.size+1=Z+1/\¬bp=wr.1.size/\¬wr.1.size=bp/\¬bp=wr.1.size+1/\¬wr.1.size+1=bp:=oM;have HP:=zH hP;go_region_held3 (λw'=>(cL w' (Z+1) 0 (I fu)/\cL w' (Z+1) 1 (I ce)/\cL w' (Z+1) 2 (I sd)/\cL w' (Z+1) 3 (I 0)/\cL w' (Z+1) 4 (I 0))/\(cL w' Z 0 (I lf)/\cL w' Z 1 (I lc)/\cL w' Z 2 (.bool lr)/\cL w' Z 3 (I ls)/\cL w' Z 4 u.ns/\cL w' Z 5 u.vs/\cL w' Z 6 u.fs/\cL w' Z 7 u.w0/\cL w' Z 8 u.w1/\cL w' Z 9 u.a0/\cL w' Z 10 u.a1/\cL w' Z 11 (I u.own)/\cL w' Z 12 (I u.sk)/\cL w' Z 13 (.string u.sn)/\cL w' Z 14 u.sc/\cL w' Z 15 u.sg/\cL w' Z 16 (I u.cl))/\cL w' bp (op+k * 4+2) (sX t1 tl p1)) (go_keep) (first | (go_at_call 23;refine(KT.o _ gG).mono ?_;rintro e w1 hp;obtain⟨a0,n0,c0,a1,n1,c1,f5,c5,s5,k5,x5,rfl⟩:=hp.form;have HB:=zH (bv (w:=wr) hp.1);have⟨e0,g0,l0⟩:=(b8.o.below HB.o).all;have⟨e1,g1,l1⟩:=(b7.o.below HB.o).all;have e7:=(HB.o.cell (p:=(Y bp (op+k * 4+2))) z7).trans hg;have l7:=jL z7 HB.o.size;have⟨hc,hf,hs,iF⟩:=Gn hp.1;have HQ:=zH hp))
 all_goals
  refine HK.o _ _ _ _ _ _ _ _ _ _ _ _ _ a0 n0 c0 a1 n1 c1 f5 c5 s5 k5 x5 _ ?_ ?_ ?_ ?_ ?_
  ·have:=HB.o
   have j8:=HB.o.size;exact HQ.o.move (by repeat' (first | with_reducible exact Kp.refl _ _ | with_reducible refine Kp.set ?_ ?_ _ | with_reducible refine Kp.alloc ?_ _ | exact λh=>h.elim (λh=>absurd (HP.o _ h) J6) (λh=>by simp at h;try omega))) gG (λb h=>h.imp id λh=>by simp at h;omega)
  ·first
    |(with_reducible refine Bx.al (Bx.eK ?_) _;rfl)
    |(with_reducible refine Bx.eK ?_;simp)
    |(have b:=(show Bx w1 wr.1.size nN 30 from sC HQ.o.1 (.eK rfl));exact .al ((b.set 0 _).set 1 _) _)
    |(have b:=(show Bx w1 wr.1.size nN 30 from sC HQ.o.1 (.al (.eK rfl) _));exact((((((b.set 0 _).set 1 _).fa _).fa _).fa _).fa _).fa _)
    |(have b:=(show Bx w1 (wr.1.size+1) nN 30 from sC HQ.o.1 (.eK sI));exact((((((b.set 0 _).set 1 _).fa _).fa _).fa _).fa _).fa _)
  ·first
    |(with_reducible refine Bx.al (Bx.eK ?_) _;rfl)
    |(with_reducible refine Bx.eK ?_;simp)
    |(have b:=(show Bx w1 wr.1.size (fA 0 0 0 0 0) 64 from sC HQ.o.1 (.eK rfl));exact .al (((((b.set 0 _).set 1 _).set 2 _).set 3 _).set 4 _) _)
    |(have b:=(show Bx w1 wr.1.size (fA 0 0 0 0 0) 64 from sC HQ.o.1 (.al (.eK rfl) _));exact((((((b.fa _).fa _).set 0 _).set 1 _).set 2 _).set 3 _).set 4 _)
    |(have b:=(show Bx w1 (wr.1.size+1) (fA 0 0 0 0 0) 64 from sC HQ.o.1 (.eK sI));exact((((((b.fa _).fa _).set 0 _).set 1 _).set 2 _).set 3 _).set 4 _)
  ·have:=HB.o.size
   first | exact this | exact jR _ | omega
  have:=HB.o.size
  first | exact this | exact jR _ | omega
end Go.Proofs.YtiagfejlmafliaaGreatDoor
