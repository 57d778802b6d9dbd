import Derived.Test.YtiagfejlmafliaaGreatDoorTs4
import Derived.Laws.IdiomCopy
import Derived.Test.YtiagfejlmafliaaGreatDoorRh
namespace Go.Proofs.YtiagfejlmafliaaGreatDoor
set_option linter.all false
open Go.Proofs.Tryz Pl
open Go.RowKit
set_option maxRecDepth 100000
set_option maxHeartbeats 16000000
open World renaming setCell->ez,alloc->ew
open List renaming range->eA,replicate->eE
open Option renaming some->a_,none->c_
open Bool renaming true->b_,false->d_
variable {ρ:Prop}
namespace Pl
def sb(l:Int)(n:Nat):Int:=if l<n then -1 else l-n
def iK(s:Sv):Nat:=s.eF.length+s.nm.length+s.fn.nm.length
def wC(c:List Sv):Nat:=c.length+(c.map iK).sum
def wG(g:Gv):Nat:=wC g.test+wC g.eT
def tu(c:List Gv):Nat:=c.length+(c.map wG).sum
def wT(s:Tv):Nat:=s.nm.length+wC s.code+tu s.gs
def wP(p:List Tv):Nat:=p.length+(p.map wT).sum
def Kx(s:Sv):Prop:=s.eF.length<=9223372036854775807/\s.nm.length<=9223372036854775807/\s.fn.nm.length<=9223372036854775807
def Ec(c:List Sv):Prop:=c.length<=9223372036854775807/\∀s∈c,Kx s
def Ky(g:Gv):Prop:=Ec g.test/\Ec g.eT
def QQ(c:List Gv):Prop:=c.length<=9223372036854775807/\∀g∈c,Ky g
def Kw(s:Tv):Prop:=s.nm.length<=9223372036854775807/\Ec s.code/\QQ s.gs
def DX(p:List Tv):Prop:=p.length<=9223372036854775807/\∀s∈p,Kw s
def CY{α:Type}(f:α->Nat){c:List α}{k:Nat}{s:α}(h:c[k]? = a_ s):((c.take (k+1)).map f).sum=((c.take k).map f).sum+f s:=by
 rw[pB,h];simp
def C3{α:Type}(f:α->Nat)(c:List α)(k:Nat):((c.take k).map f).sum<=(c.map f).sum:=by
 have e:=lQ (λl=>(l.map f).sum) (vM k c);simp only[mP,Ib] at e;omega
end Pl
def M8(ao:oA)(n cap:Nat)(l:Int)(w:Wd)(hn:n<=9223372036854775807)(h0:0<=l)(h1:l<=1048576):
  Cp 19 #[sX ao n cap,I l] w λe w'=>e=rT (I (Pl.sb l n))/\w'=w:=by
 by_cases g:l-(n:Int)<0
 ·have HR:Hid (Pl.sb l n=-1):=by show _=_;unfold Pl.sb;rw[eD oM]
  generalize Pl.sb l n=r at *;go_enter func19,ntmps19;go_wp2;go_ret
  exact⟨by rw[HR.o];rfl,rfl⟩
 have HR:Hid (Pl.sb l n=l-n):=by show _=_;unfold Pl.sb;rw[eB oM]
 generalize Pl.sb l n=r at *;go_enter func19,ntmps19;go_wp2;go_ret
 exact⟨by rw[HR.o];rfl,rfl⟩
def ak7.ui(h:ρ:=by
 have HF:Hid (∀n,nm.size=n->Pl.sb l nm.size=Pl.sb l n):=λn h=>by rw[h]
 generalize hz:nm.size=n at *;by_cases g:l-(n:Int)<0
 ·have HR:Hid (Pl.sb l n=-1):=by show _=_;unfold Pl.sb;rw[eD oM]
  generalize Pl.sb l n=r at *;go_enter func94,ntmps94;go_wp2;exact He
 ·have HR:Hid (Pl.sb l n=l-n):=by show _=_;unfold Pl.sb;rw[eB oM]
  generalize Pl.sb l n=r at *;go_enter func94,ntmps94;go_wp2;exact He
 ):ρ:=h
def afn(k a b:Int)(nm:bA)(l:Int)(w:Wd)(hn:nm.size<=9223372036854775807)(h0:0<=l)(h1:l<=1048576):
  Cp 94 #[.agg #[I k,I a,I b,.string nm],I l] w (rB (I (Pl.sb l nm.size)) w):=by
 open ak7 in exact uq
def ahs{n:Int}(h:Pl.fN n=b_):n=1\/n=2\/n=3\/n=4\/n=5\/n=6\/n=7\/n=8\/n=9\/n=10:=by
 simp[Pl.fN] at h
 omega
def NI(n:Int)(h:Pl.fN n=b_)(w:Wd):Cp 124 #[I n] w (Sg 5 w):=by
 rcases ahs h with rfl|rfl|rfl|rfl|rfl|rfl|rfl|rfl|rfl|rfl <;>
 ·go_enter func124,ntmps124
  go_wp2;go_ret
  exact⟨_,rfl,dC,gG⟩
def tD(x:UInt8):(⟨#[x]⟩:bA).size=1:=rfl
def alY{k a b:Int}{nm:lJ}{two:Bool}(h:Pl.jk ⟨k,a,b,nm⟩ two=b_):(k=10/\Pl.wk nm=3)\/k=9\/(k=1/\1<=a/\a<=4)\/((k=2\/k=6)/\1<=a/\a<=7)\/((k=3\/k=4\/k=5\/k=7)/\Pl.fN a=b_)\/(k=8/\Pl.fN a=b_/\Pl.fN b=b_):=by
 unfold Pl.jk at h;repeat' split at h
 all_goals (simp_all;try omega)
def Tx(h:ρ:=by
 go_enter func97,ntmps97;go_wp2;go_ret
 exact⟨_,rfl,dC,gG⟩):ρ:=h
def Vd(k a b:Int)(nm:lJ)(two:Bool)(hf:Pl.jk ⟨k,a,b,nm⟩ two=b_)(w:Wd):
  Cp 97 #[.agg #[I k,I a,I b,.string (Pl.ba nm)]] w (Sg 20 w):=by
 rcases alY hf with ⟨rfl,hn⟩|rfl|⟨rfl,ha⟩|⟨rfl|rfl,ha⟩|⟨hk,ha⟩|⟨rfl,ha,hb⟩
 ·have hz:(Pl.ba nm).size<=20:=GW (by rw[hn];decide)
  generalize Pl.ba nm=s at *;go_enter func97,ntmps97;go_wp2;go_ret
  exact⟨_,rfl,hz,gG⟩
 ·exact Tx
 ·obtain rfl|rfl|rfl|rfl:a=1\/a=2\/a=3\/a=4:=oM
  all_goals exact Tx
 ·exact ZC
 ·exact ZC
 ·have K:=zH (NI a ha)
  rcases hk with rfl|rfl|rfl|rfl
  all_goals
   go_enter func97,ntmps97;go_wp2_with fail;refine(K.o _).mono ?_;rintro e w' ⟨s,rfl,hs,hb⟩;have h1:¬(9223372036854775807<s.size+1):=oM;have h2:¬(9223372036854775807<1+s.size):=oM;replace hb:=zH (bv (w:=w) hb);go_wp2;go_ret
   exact⟨_,rfl,by first | omega | (simp[rV,tD];omega),hb.o⟩
 ·have K:=zH (NI a ha)
  have K2:=zH (NI b hb);go_enter func97,ntmps97;go_wp2;refine Bi (S:=λW=>Bx W w.1.size #[I 8,I a,I b,.string (Pl.ba nm)] 116/\Bl w W) kF ?_;change wpAnyH _ _ _ _ _ _ _ _ (World.drew _);have hS:Bx (World.drew (ew w (.cells #[I 8,I a,I b,.string (Pl.ba nm)] 116))) w.1.size #[I 8,I a,I b,.string (Pl.ba nm)] 116/\Bl w (World.drew (ew w (.cells #[I 8,I a,I b,.string (Pl.ba nm)] 116))):=⟨Bx.new w _ _,gG⟩;generalize World.drew _=wd at hS ⊢;refine tk 0 (.pointer (sY w.1.size 1)) rfl hS (λ_ _=>kF) ?_;refine tk 1 (I a) rfl hS (λW h=>by have:=h.1.cf.1 1;go_simp) ?_;refine tk 4 (.pointer (sY w.1.size 2)) rfl hS (λ_ _=>kF) ?_;refine tk 5 (I b) rfl hS (λW h=>by have:=h.1.cf.1 2;go_simp) ?_;refine tc 2 _ _ rfl rfl kF ((K.o _).mono ?_);rintro e w1 ⟨s,rfl,hs,hb1⟩;have S1:=jA (hS.1.below hb1) (bv hb1 hS.2);have h1:¬(9223372036854775807<s.size+1):=oM;refine .inl ⟨_,rfl,S1,tk 3 (.string (s++⟨#[46]⟩)) rfl S1 (λ_ _=>by go_simp) (tc 6 124 #[I b] rfl rfl kF ((K2.o _).mono ?_))⟩;rintro e w2 ⟨s2,rfl,vV,hb2⟩;have S2:=jA (S1.1.below hb2) (bv hb2 S1.2);have h2:¬(9223372036854775807<s.size+1+s2.size):=oM;refine .inl ⟨_,rfl,S2,tk 7 (.string (s++⟨#[46]⟩++s2)) rfl S2 (λ_ _=>by have:=rV (a:=s) (b:=⟨#[46]⟩);rw[tD] at this;go_simp) (tk 8 (.string (s++⟨#[46]⟩++s2)) rfl S2 (λ_ _=>kF) (te ?_))⟩;go_simp;go_wp2;go_ret
  exact⟨s++⟨#[46]⟩++s2,rfl,by simp[rV,tD];omega,S2.2⟩
section
variable {w w' w2:Wd}{ao:oA}{z B n k:Nat}
def Mv(P Q:nK)(w w':Wd):Prop:=∀b,P b->Q b/\∀o,w'.cell? (Y b o)=w.cell? (Y b o)
def XI(P:nK)(w:Wd)(ao:oA)(l:lI):Prop :=
 l=[]\/∃b off,P b/\ao=sY b off/\∀(i:Nat)(x:Int),l[i]? = a_ x->w.cell? (Y b (off+i))=a_ (I x)
def XI.mv{P Q:nK}{l:lI}(h:XI P w ao l)(m:Mv P Q w w'):XI Q w' ao l:=by
 rcases h with h|⟨b,off,hB,rfl,hc⟩
 ·exact .inl h
 exact .inr ⟨b,off,(m b hB).1,rfl,λi x hi=>((m b hB).2 _).trans (hc i x hi)⟩
def QS(P:nK)(w:Wd)(b o:Nat)(s:Sv):Prop :=
 ∃an,w.cell? (Y b o)=a_ (I s.k)/\w.cell? (Y b (o+1))=a_ (sX an s.eF.length s.eF.length)/\w.cell? (Y b (o+2))=a_ (.string (Pl.ba s.nm))/\w.cell? (Y b (o+3))=a_ (I s.fn.k)/\w.cell? (Y b (o+4))=a_ (I s.fn.a)/\w.cell? (Y b (o+5))=a_ (I s.fn.b)/\w.cell? (Y b (o+6))=a_ (.string (Pl.ba s.fn.nm))/\XI P w an s.eF
def QS.mv{P Q:nK}{b o:Nat}{s:Sv}(h:QS P w b o s)(m:Mv P Q w w')(hc:∀j,j<7->w'.cell? (Y b (o+j))=w.cell? (Y b (o+j))):QS Q w' b o s:=by
 obtain⟨an,h0,h1,h2,h3,h4,h5,h6,h7⟩:=h;exact⟨an,(hc 0 oM).trans h0,(hc 1 oM).trans h1,(hc 2 oM).trans h2,(hc 3 oM).trans h3,(hc 4 oM).trans h4,(hc 5 oM).trans h5,(hc 6 oM).trans h6,h7.mv m⟩
def XL{α:Type}(Q:(nK)->Wd->Nat->Nat->α->Prop)(z:Nat)(P:nK)(w:Wd)(ao:oA)(c:List α):Prop :=
 c=[]\/∃b off,P b/\ao=sY b off/\∀(i:Nat)(s:α),c[i]? = a_ s->Q P w b (off+i * z) s
structure xJ{α:Type}(Q:(nK)->Wd->Nat->Nat->α->Prop)(z:Nat):Prop where
 go:∀{P P':nK} {w w':Wd} {b o:Nat} {s:α},Q P w b o s->Mv P P' w w'->(∀j,j<z->w'.cell? (Y b (o+j))=w.cell? (Y b (o+j)))->Q P' w' b o s
def XL.mv{α:Type}{Q:(nK)->Wd->Nat->Nat->α->Prop}(mQ:xJ Q z){P P':nK}{c:List α}(h:XL Q z P w ao c)(m:Mv P P' w w'):XL Q z P' w' ao c:=by
 rcases h with h|⟨b,off,hB,rfl,hc⟩
 ·exact .inl h
 exact .inr ⟨b,off,(m b hB).1,rfl,λi x hi=>mQ.go (hc i x hi) m (λj _=>(m b hB).2 _)⟩
def mS:xJ QS 7:=⟨λh m hc=>h.mv m hc⟩
def QG(P:nK)(w:Wd)(b o:Nat)(g:Gv):Prop :=
 ∃a1 c1 a2 c2,w.cell? (Y b o)=a_ (sX a1 g.test.length c1)/\w.cell? (Y b (o+1))=a_ (sX a2 g.eT.length c2)/\XL QS 7 P w a1 g.test/\XL QS 7 P w a2 g.eT
def mG:xJ QG 2:=⟨λh m hc=>by
 obtain⟨a1,c1,a2,c2,h0,h1,h2,h3⟩:=h;exact⟨a1,c1,a2,c2,(hc 0 oM).trans h0,(hc 1 oM).trans h1,h2.mv mS m,h3.mv mS m⟩⟩
def QT(P:nK)(w:Wd)(b o:Nat)(s:Pl.Tv):Prop :=
 ∃a1 c1 a2 c2,w.cell? (Y b o)=a_ (I s.k)/\w.cell? (Y b (o+1))=a_ (.string (Pl.ba s.nm))/\w.cell? (Y b (o+2))=a_ (sX a1 s.code.length c1)/\w.cell? (Y b (o+3))=a_ (sX a2 s.gs.length c2)/\XL QS 7 P w a1 s.code/\XL QG 2 P w a2 s.gs
def mT:xJ QT 4:=⟨λh m hc=>by
 obtain⟨a1,c1,a2,c2,h0,h1,h2,h3,h4,h5⟩:=h;exact⟨a1,c1,a2,c2,(hc 0 oM).trans h0,(hc 1 oM).trans h1,(hc 2 oM).trans h2,(hc 3 oM).trans h3,h4.mv mS m,h5.mv mG m⟩⟩
def XL.Ea{c:List Sv}(h:XL QS 7 (λb=>b<B) w ao c):gf B w ao c:=by
 rcases h with h|⟨b,off,hB,rfl,hc⟩
 ·exact .inl h
 refine .inr ⟨b,off,hB,rfl,λi s hi=>?_⟩;have⟨an,h0,h1,h2,h3,h4,h5,h6,h7⟩:=hc i s hi;exact⟨an,_,h0,h1,h2,h3,h4,h5,h6,h7⟩
def XL.rdG{c:List Gv}(h:XL QG 2 (λb=>b<B) w ao c):iG B w ao c:=by
 rcases h with h|⟨b,off,hB,rfl,hc⟩
 ·exact .inl h
 refine .inr ⟨b,off,hB,rfl,λi s hi=>?_⟩;have⟨a1,c1,a2,c2,h0,h1,h2,h3⟩:=hc i s hi;exact⟨a1,a2,c1,c2,h0,h1,h2.Ea,h3.Ea⟩
def XL.Rm{c:List Pl.Tv}(h:XL QT 4 (λb=>b<B) w ao c):jF B w ao c:=by
 rcases h with h|⟨b,off,hB,rfl,hc⟩
 ·exact .inl h
 refine .inr ⟨b,off,hB,rfl,λi s hi=>?_⟩;have⟨a1,c1,a2,c2,h0,h1,h2,h3,h4,h5⟩:=hc i s hi;exact⟨a1,a2,c1,c2,h0,h1,h2,h3,h4.Ea,h5.rdG⟩
abbrev XS(B:Nat)(w:Wd)(a:oA)(c:List Sv):Prop:=XL QS 7 (λb=>b<B) w a c
abbrev XG(B:Nat)(w:Wd)(a:oA)(c:List Gv):Prop:=XL QG 2 (λb=>b<B) w a c
def N4(k:Below B w w'):Mv (λb=>b<B) (λb=>b<B) w w':=λb h=>⟨h,λo=>k.cell (p:=(Y b o)) h⟩
def XS.eG{a:oA}{c:List Sv}(h:XS B w a c)(k:Below B w w'):XS B w' a c:=XL.mv mS h (N4 k)
def XG.eG{a:oA}{c:List Gv}(h:XG B w a c)(k:Below B w w'):XG B w' a c:=XL.mv mG h (N4 k)
abbrev Fr(B:Nat)(w:Wd):nK:=λb=>B<=b/\b<w.1.size/\∀o,w.frozen? (Y b o)=d_
def aga{C:Nat}(hb:Below C w w')(hC:w.1.size<=C){B':Nat}(hB:B'<=B):Mv (Fr B w) (Fr B' w') w w':=λb h=>⟨⟨oM,jL h.2.1 hb.size,λo=>(hb.frozen (p:=(Y b o)) J2).trans (h.2.2 o)⟩,λo=>hb.cell (p:=(Y b o)) J2⟩
def vn(b:Nat):∀(vs:List Va)(o:Nat) (w:Wd),(w.setCells b o vs).1.size=w.1.size
 |[],_,_=>rfl
 |v::r,o,w=>by rw[World.setCells,vn b r];simp
def Av{a:Wd}(b:Nat)(hb:B<=b):∀(vs:List Va)(o:Nat) (w:Wd),Below B a w->Below B a (w.setCells b o vs)
 |[],_,_,h=>h
 |v::r,o,w,h=>by rw[World.setCells];exact Av b hb r _ _ (h.setCell hb v)
structure Inv{α:Type}(Q:(nK)->Wd->Nat->Nat->α->Prop)(z:Nat)(w:Wd)(c:List α)(n k:Nat)(wr:Wd):Prop where
 fI:Below w.1.size w wr
 lt:w.1.size<wr.1.size
 fz:∀o,wr.frozen? (Y w.1.size o)=d_
 cl:∀o,o<n * z->∃v,wr.cell? (Y w.1.size o)=a_ v
 el:∀i s,i<k->c[i]? = a_ s->Q (Fr (w.1.size+1) wr) wr w.1.size (i * z) s
def Inv.eG{α:Type}{Q:(nK)->Wd->Nat->Nat->α->Prop}(mQ:xJ Q z){c:List α}{wr:Wd}(h:Inv Q z w c n k wr)(hb:Bl wr w2):Inv Q z w c n k w2 :=
 ⟨h.fI.trans (hb.mono h.fI.size),jL h.lt hb.size,λo=>(hb.frozen (p:=(Y w.1.size o)) h.lt).trans (h.fz o),λo ho=>by
  have⟨v,hv⟩:=h.cl o ho;exact⟨v,(hb.cell (p:=(Y w.1.size o)) h.lt).trans hv⟩,λi s hi hs=>mQ.go (h.el i s hi hs) (aga hb (jR _) (jR _)) (λj _=>hb.cell (p:=(Y w.1.size _)) h.lt)⟩
def Inv.put{α:Type}{Q:(nK)->Wd->Nat->Nat->α->Prop}(mQ:xJ Q z){c:List α}(h:Inv Q z w c n k w2)(vs:List Va)(hz:vs.length=z)(hk:k<n){s:α}(hs:c[k]? = a_ s)
  (hq:∀w3:Wd,(∀j (hj:j<vs.length),w3.cell? (Y w.1.size (k * z+j))=a_ vs[j])->Mv (Fr (w.1.size+1) w2) (Fr (w.1.size+1) w3) w2 w3->Q (Fr (w.1.size+1) w3) w3 w.1.size (k * z) s) :
  Inv Q z w c n (k+1) (w2.setCells w.1.size (k * z) vs):=by
 have hm:Mv (Fr (w.1.size+1) w2) (Fr (w.1.size+1) (w2.setCells w.1.size (k * z) vs)) w2 (w2.setCells w.1.size (k * z) vs):=λb hb=>⟨⟨hb.1,by rw[vn];exact hb.2.1,λo=>by rw[xE];exact hb.2.2 o⟩,λo=>zo _ _ _ _ _ (λe _=>by have:b=w.1.size:=e;have:=hb.1;omega)⟩;have hzz:k * z+z<=n * z:=by have:=gv z hk;rw[iu] at this;exact this
 have mE:∀j (hj:j<vs.length),(w2.setCells w.1.size (k * z) vs).cell? (Y w.1.size (k * z+j))=a_ vs[j]:=λj hj=>World.cell?_setCells_in _ _ _ _ (λj hj=>by
  have⟨v,hv⟩:=h.cl (k * z+j) oM;rw[hv];rfl) j hj
 refine⟨Av _ (jR _) _ _ _ h.fI,by rw[vn];exact h.lt,λo=>by rw[xE];exact h.fz o,λo ho=>?_,λi t hi ht=>?_⟩
 ·by_cases hr:k * z<=o/\o<k * z+z
  ·have:=mE (o-k * z) oM
   rw[show k * z+(o-k * z)=o by omega] at this;exact⟨_,this⟩
  have⟨v,hv⟩:=h.cl o ho;exact⟨v,(zo _ _ _ _ _ (λ_ _=>by simp only;omega)).trans hv⟩
 by_cases hik:i=k
 ·subst hik
  obtain rfl:s=t:=qT (hs.symm.trans ht);exact hq _ mE hm
 have eI:i<k:=oM;have:i * z+z<=k * z:=by have:=gv z eI;rw[iu] at this;exact this
 refine mQ.go (h.el i t eI ht) hm (λj hj=>zo _ _ _ _ _ (λ_ _=>by simp only;omega))
def Inv.done{α:Type}{Q:(nK)->Wd->Nat->Nat->α->Prop}(mQ:xJ Q z){c:List α}(h:Inv Q z w c n k w2)(hk:c.length<=k):XL Q z (Fr w.1.size w2) w2 (sY w.1.size 0) c:=by
 refine .inr ⟨w.1.size,0,⟨jR _,h.lt,h.fz⟩,rfl,λi s hs=>?_⟩;have hi:i<c.length:=(gQ.1 hs).1;rw[gY];exact mQ.go (h.el i s oM hs) (λb hb=>⟨⟨by have:=hb.1;omega,hb.2⟩,λ_=>rfl⟩) (λ_ _=>rfl)
def Inv.made{α:Type}{Q:(nK)->Wd->Nat->Nat->α->Prop}{c:List α}{w1:Wd}{t:TypeId}{xs:List Va}(ho:w1.ownsRow w.1.size t z (sX (sY w.1.size 0) n n) n xs)(hl:xs.length=n * z)(hb:Bl w w1):Inv Q z w c n 0 w1 :=
 ⟨hb,(ho.lt _ rfl).2,λo=>ho.frozenAt o,λo eI=>⟨_,(ho.cellAt o eI).trans (fw oM)⟩,λi s hi=>absurd hi oM⟩
end
def Tryz.aoI:(prog.info? 3).map (λi=>(i.zero,i.size,i.bytes))=a_ (a_ (I 0),1,8):=kF
def QI(P:nK)(w:Wd)(b o:Nat)(x:Int):Prop:=w.cell? (Y b o)=a_ (I x)
def mI:xJ QI 1:=⟨λh _ hc=>(hc 0 oM).trans h⟩
def ade(l:lI)(ao:oA)(cap:Nat)(w:Wd)(hl:l.length<=1048576)(hR:j' w.1.size w ao l):
  Cp 27 #[sX ao l.length cap] w λe w'=>e=rT (sX (sY w.1.size 0) l.length l.length)/\XI (Fr w.1.size w') w' (sY w.1.size 0) l/\Bl w w'/\w.1.size<w'.1.size:=by
 obtain⟨i0,hi,iC,gy,iS⟩:=info_parts Tryz.aoI;have HG:Hid (∀k,k<l.length->∃x b off,l[k]? = a_ x/\ao=sY b off/\b<w.1.size/\∀w',Bl w w'->cL w' b (off+k) (I x)):=λk hk=>by
  rcases hR with rfl|⟨b,off,hb,rfl,hc⟩
  ·cases hk
  exact⟨l[k],b,off,fw hk,rfl,hb,λw' hw=>(hw.cell (p:=(Y b (off+k))) hb).trans (hc k l[k] (fw hk))⟩
 generalize hn:l.length=n at *;have Hn:Hid (l.length=n):=hn;go_enter func27,ntmps27;go_wp2_with (at_make;refine Ia _ rfl _ _ 23 rfl w.1.size 3 i0 (I 0) 1 underlying23 hi iC gy _ _ _ _ n rfl rfl rfl rfl ?b2 ?b3 ?b4 ?_)
 case b2=>rw[iS];omega
 case b3=>unfold maxLen;omega
 case b4=>exact jR _
 intro w1 lu ph;have I0:Hid (Inv QI 1 w l n 0 w1):=Inv.made lu Jq ((jD _ _).grown ph (jR _) (by intro k h;cases h));go_wp2;go_loopw [4] (λi wr=>∃k:Nat,k<=n/\i=I k/\Hid (Inv QI 1 w l n k wr)) (λi _=>n-(intOf i).toNat)
 case atStart=>exact⟨0,vZ _,rfl,I0⟩
 obtain⟨k,hk,rfl,hI⟩:=hrel;by_cases eI:k<n
 ·obtain⟨x,b,off,hs,rfl,hb,eL⟩:=HG.o k eI
  have c0:=eL _ hI.o.fI;have f0:=hI.o.fz k;have⟨v0,g0⟩:=hI.o.cl k oM;have R:Hid (Inv QI 1 w l n (k+1) (wr.setCell (Y w.1.size k) (I x))):=by
   have:=hI.o.put mI [I x] rfl eI hs (λw3 hc hm=>hc 0 sI);rw[Ii] at this;exact this
  go_wp2;go_roundw
  case rel=>exact⟨k+1,oM,gN,R⟩
  simp[intOf];omega
 have R:Hid (XI (Fr w.1.size wr) wr (sY w.1.size 0) l/\Bl w wr/\w.1.size<wr.1.size):=by
  refine⟨?_,hI.o.fI,hI.o.lt⟩;rcases hI.o.done mI (by rw[Hn.o];omega) with h|⟨b,off,hB,e,hc⟩
  ·exact .inl h
  exact .inr ⟨b,off,hB,e,λi x hi=>by have:=hc i x hi;rw[Ii] at this;exact this⟩
 go_wp2;go_ret
 exact⟨rfl,R.o⟩
def H7(w:Wd)(o1 o2 o3:Obj):Bl w (((w.alloc o1).alloc o2).alloc o3) :=
 (((jD _ _).alloc (jR _) _).alloc sI _).alloc J2 _
def afi(k a b:Int)(nm:bA)(w:Wd):
  Cp 110 #[.agg #[I k,I a,I b,.string nm]] w (rB (.agg #[I k,I a,I b,.string nm]) w):=by
 have HB:=zH (H7 w);go_enter func110,ntmps110;go_wp2;refine eJ (v:=.agg #[I k,I a,I b,.string nm]) (by simp[results,results110,go_sem]) rfl ⟨rfl,?_⟩;repeat (refine Below.setCell ?_ sI _)
 exact HB.o _ _ _
open Pl (Ar)
section
variable {b c:Nat}
namespace Pl
def pE(own:List Ar)(x:lJ):Option Ar:=match own with
 |[]=>c_
 |[w]=>if x=[119] then a_ w else c_
 |w::a::_=>if x=[119] then a_ w else if x=[97] then a_ a else c_
def af9(ns:List (lJ × Ar))(own:List Ar)(x:lJ):gH ns own x=match pE own x with
  |some a=>a_ a
  |none=>mr ns x:=by
 match own with
 |[]=>rfl
 |[w]=>simp only[gH,pE];split <;> rfl
 |w::a::_=>simp only[gH,pE];split <;> (try rfl);split <;> rfl
end Pl
section
variable {K:Ks} {P Q:nK} {B:Nat} {w w':Wd} {f M:Nat} {G:Pl.Gb} {own:List Ar} {eO:Option Pl.Tv}
def pY(c:Nat)(K:Ks)(P:nK)(w:Wd)(b:Nat)(g:lJ->Option Ar):Prop:=∃n F,Om prog 9 w b n F/\n<=c/\∀x,match g x with
 |some a=>∃u0 u1,F x=a_ (.agg #[u0,u1])/\RO K P w u0 u1 a
 |none=>F x=c_
abbrev MA:=pY 16777216
def vg(c:List Sv):Prop:=∀s∈c,s.nm.length<=1048576/\s.fn.nm.length<=1048576
def FI(t:Pl.Tv):Prop:=t_ t/\vg t.code/\∀g∈t.gs,vg g.test/\vg g.eT
def sE(c B:Nat)(w:Wd)(b:Nat)(g:lJ->Option Pl.Tv):Prop:=∃n F,Om prog 9 w b n F/\n<=c/\∀x,match g x with
 |some t=>FI t/\∃a1 c1 a2 c2,F x=a_ (D9 t a1 c1 a2 c2)/\XS B w a1 t.code/\XG B w a2 t.gs
 |none=>F x=c_
abbrev MF:=sE 16777216
def Bx.eX{cs:aV}{t:TypeId}(h:Bx w b cs t)(e:w'.1[b]? = w.1[b]?):Bx w' b cs t:=e.trans h
def pY.kp{g:lJ->Option Ar}(h:pY c K P w b g)(k:w.grownBy w' (a_ M))(hb:¬b=M)(hP:∀b,P b->¬b=M):pY c K P w' b g:=by
 obtain⟨n,F,ho,hn,h⟩:=h;refine⟨n,F,ho.eX (k.block b ho.lt JS),hn,λx=>?_⟩;have h:=h x;have kp:Kp P w w':=⟨k.size,λb pb hb=>k.block b hb (by simpa using hP b pb)⟩
 cases hg:g x with
 |none=>rw[hg] at h;exact h
 |some a=>rw[hg] at h;obtain⟨u0,u1,e,r⟩:=h;exact⟨u0,u1,e,r.kp kp⟩
def qd(k:w.grownBy w' (a_ M))(hB:B<=M)(hs:B<=w.1.size):Below B w w':=⟨k.os,k.tape,k.output,k.size,λb hb=>k.block b oM J2⟩
def sE.kp{g:lJ->Option Pl.Tv}(h:sE c B w b g)(k:w.grownBy w' (a_ M))(hb:¬b=M)(hB:B<=M)(hs:B<=w.1.size):sE c B w' b g:=by
 obtain⟨n,F,ho,hn,h⟩:=h;refine⟨n,F,ho.eX (k.block b ho.lt JS),hn,λx=>?_⟩;have h:=h x;have kb:=qd k hB hs
 cases hg:g x with
 |none=>rw[hg] at h;exact h
 |some a=>rw[hg] at h;obtain⟨ok,a1,c1,a2,c2,e,r,q⟩:=h;exact⟨ok,a1,c1,a2,c2,e,XS.eG r kb,XG.eG q kb⟩
structure Fi(K:Ks)(P:nK)(B:Nat)(w:Wd)(f M:Nat)(G:Gb)(own:List Ar)(eO:Option Pl.Tv):Prop where
 hp:∀b,P b->b<w.1.size/\¬b=M
 hb:B<=M
 hs:B<=w.1.size
 pb:∀b,b<B->P b
 fr:∃bb ow sp,Bx w f #[pT M,pT bb,ow,sp] 108/\¬f=M/\¬bb=M/\(∃ba bf,Bx w bb #[.map (a_ ba),.map (a_ bf)] 105/\¬ba=M/\¬bf=M/\MA K P w ba (mr G.ns)/\MF B w bf (λx=>jP (·.nm) G.fs x G.fs.length)) /\
  (match own with
   |[]=>ow=.map c_
   |_=>∃bo,ow=.map (a_ bo)/\¬bo=M/\MA K P w bo (pE own)) /\
  match eO with
   |some t=>FI t/\∃b a1 c1 a2 c2,sp=pT b/\¬b=M/\Bx w b #[I t.k,.string (Pl.ba t.nm),sX a1 t.code.length c1,sX a2 t.gs.length c2] 60/\XS B w a1 t.code/\XG B w a2 t.gs
   |none=>sp=.pointer c_
def Fi.kp(h:Fi K P B w f M G own eO)(k:w.grownBy w' (a_ M)):Fi K P B w' f M G own eO:=by
 obtain⟨hp,hb,hs,pb,bb,ow,sp,b0,n0,n1,⟨ba,bf,b1,n2,n3,ma,mf⟩,ho,hf⟩:=h;have bk:∀b,b<w.1.size->¬b=M->w'.1[b]? = w.1[b]?:=λb h h'=>k.block b h (by simpa using h');have uO:∀b,P b->¬b=M:=λb h=>(hp b h).2;have kb:=qd k hb hs;refine⟨λb h=>⟨jL (hp b h).1 k.size,(hp b h).2⟩,hb,jT hs k.size,pb,bb,ow,sp,b0.eX (bk _ b0.lt n0),n0,n1,⟨ba,bf,b1.eX (bk _ b1.lt n1),n2,n3,ma.kp k n2 uO,mf.kp k n3 hb hs⟩,?_,?_⟩
 ·match own,ho with
  |[],ho=>exact ho
  |_::_,⟨bo,e,n,m⟩=>exact⟨bo,e,n,m.kp k n uO⟩
 match eO,hf with
 |none,hf=>exact hf
 |some t,⟨ok,b,a1,c1,a2,c2,e,n,bx,r1,r2⟩=>exact⟨ok,b,a1,c1,a2,c2,e,n,bx.eX (bk _ bx.lt n),XS.eG r1 kb,XG.eG r2 kb⟩
def pY.mono{g:lJ->Option Ar}(h:pY c K P w b g)(hq:∀b,P b->Q b):pY c K Q w b g:=by
 obtain⟨n,F,ho,hn,h⟩:=h;refine⟨n,F,ho,hn,λx=>?_⟩;have h:=h x
 cases hg:g x with
 |none=>rw[hg] at h;exact h
 |some a=>rw[hg] at h;obtain⟨u0,u1,e,r⟩:=h;exact⟨u0,u1,e,r.mono λb hb _=>hq b hb⟩
def Fi.mono(h:Fi K P B w f M G own eO)(hq:∀b,P b->Q b)(hQ:∀b,Q b->b<w.1.size/\¬b=M):Fi K Q B w f M G own eO:=by
 obtain⟨hp,hb,hs,pb,bb,ow,sp,b0,n0,n1,⟨ba,bf,b1,n2,n3,ma,mf⟩,ho,hf⟩:=h;refine⟨hQ,hb,hs,λb h=>hq b (pb b h),bb,ow,sp,b0,n0,n1,⟨ba,bf,b1,n2,n3,ma.mono hq,mf⟩,?_,hf⟩;match own,ho with
 |[],ho=>exact ho
 |_::_,⟨bo,e,n,m⟩=>exact⟨bo,e,n,m.mono hq⟩
def Fi.below(h:Fi K P B w f M G own eO)(k:Bl w w'):Fi K P B w' f M G own eO:=h.kp ⟨k.os,k.tape,k.output,k.size,λb hb _=>k.block b hb⟩
end
end
section
def ale(w:Wd):(zeroValue 30).run prog w=.ok (.agg nN) w:=kF
def ald(w:Wd):(zeroValue 60).run prog w=.ok (.agg #[I 0,.string ByteArray.empty,nJ,nJ]) w:=kF
def look_nil(x:Va)(w:Wd):(Instr.lookup 102 (.map c_) x b_).run prog w=.ok (.tuple #[.agg nN,.bool d_]) w:=kF
section
variable {K:Ks} {P:nK} {B:Nat} {w:Wd} {f M:Nat} {G:Pl.Gb} {own:List Ar} {eO:Option Pl.Tv}
def LkA(K:Ks)(P:nK)(w:Wd)(m:Va)(x:lJ)(r:Option Ar):Prop:=∃v0 n0 c0 v1 n1 c1,(∀W,Below w.1.size w W->(Instr.lookup 102 m (.string (Pl.ba x)) b_).run prog W=.ok (.tuple #[.agg #[sX v0 n0 c0,sX v1 n1 c1],.bool r.isSome]) W)/\∀a,r=a_ a->RO K P w (sX v0 n0 c0) (sX v1 n1 c1) a
def pY.look{c b:Nat}{g:lJ->Option Ar}(h:pY c K P w b g)(x:lJ)(hx:x.length<=1048576):LkA K P w (.map (a_ b)) x (g x):=by
 obtain⟨n,F,ho,hn,h⟩:=h;have hl:=λW (hW:Bl w W)=>(ho.eX (hW.block b ho.lt)).look underlying9 underlying102 (ale W) x J8;have h:=h x
 cases hg:g x with
 |none=>rw[hg] at h;rw[h] at hl;exact⟨c_,0,0,c_,0,0,hl,λa e=>by cases e⟩
 |some a =>
  rw[hg] at h;obtain⟨u0,u1,e,r⟩:=h;obtain⟨⟨x0,y0,rfl⟩,x1,y1,rfl⟩:=r.1.eS;rw[e] at hl;exact⟨_,_,_,_,_,_,hl,λb hb=>by cases hb;exact r⟩
def aaC(K:Ks)(P:nK)(w:Wd)(r:Option Ar)(e:Ending)(w':Wd):Prop:=Below w.1.size w w'/\match r with
 |some a=>∃u0 u1,e=rT (.agg #[u0,u1])/\RO K P w' u0 u1 a
 |none=>e=.panicked [iI 2 10]
def afd(h:Fi K P B w f M G own eO)(x:lJ)(hx:x.length<=1048576):Cp 117 #[pT f,.string (Pl.ba x)] w (aaC K P w (gH G.ns own x)):=by
 obtain⟨bb,ow,sp,b0,n0,n1,⟨ba,bf,b1,n2,n3,ma,mf⟩,ho,hf⟩:=h.fr;have HO:LkA K P w ow x (pE own x):=by
  match own,ho with
  |[],ho=>rw[ho];exact⟨_,_,_,_,_,_,λW _=>look_nil _ W,λa e=>by cases e⟩
  |_::_,⟨bo,e,n,m⟩=>rw[e];exact m.look x hx
 obtain⟨o0,p0,q0,o1,p1,q1,l1,r1⟩:=HO;have⟨o2,p2,q2,o3,p3,q3,l2,r2⟩:=ma.look x hx;rw[af9];obtain⟨d0,f0,z0⟩:=b0.all;obtain⟨d1,f1,z1⟩:=b1.all;have k1:=l1 (w.alloc (.cells nN 30)) gG;have k2:=l2 ((w.alloc (.cells nN 30)).alloc (.cells #[sX o0 p0 q0,sX o1 p1 q1] 30)) gG;have KN:=zH (yP 10);have KY:=zH (yN 10);replace r1:=zH r1;replace r2:=zH r2
 cases hg:pE own x with
 |some a =>
  have R:=zH (r1.o a hg);rw[hg] at k1;simp only[IB] at k1;go_enter func117,ntmps117;go_wp2_with fail;exact ZB
 |none =>
  rw[hg] at k1;simp only[IA] at k1
  cases hn:mr G.ns x with
  |some a =>
   have R:=zH (r2.o a hn);rw[hn] at k2;simp only[IB] at k2;go_enter func117,ntmps117;go_wp2_with (go_at_call 59;refine(KN.o _).mono ?_;rintro e w' ⟨rfl,rfl⟩)
   exact ZB
  |none =>
   rw[hn] at k2;simp only[IA] at k2;go_enter func117,ntmps117;exact Qk
end
end
section
section
variable {K:Ks} {P:nK} {B:Nat} {w w':Wd} {f M:Nat} {G:Pl.Gb} {own:List Ar} {eO:Option Pl.Tv}
def Tb(B:Nat)(w:Wd)(b:Nat)(t:Pl.Tv):Prop:=FI t/\∃a1 c1 a2 c2,Bx w b #[I t.k,.string (Pl.ba t.nm),sX a1 t.code.length c1,sX a2 t.gs.length c2] 60/\XS B w a1 t.code/\XG B w a2 t.gs
def anX(B M:Nat)(w:Wd)(r:Option Pl.Tv)(e:Ending)(w':Wd):Prop:=Below w.1.size w w'/\match r with
 |some t=>∃b,e=rT (pT b)/\¬b=M/\Tb B w' b t
 |none=>e=.panicked [iI 2 10]
def sE.look{c b:Nat}{g:lJ->Option Pl.Tv}(h:sE c B w b g)(x:lJ)(hx:x.length<=1048576):∃k s a1 n1 c1 a2 n2 c2,(∀W,Bl w W->(Instr.lookup 103 (.map (a_ b)) (.string (Pl.ba x)) b_).run prog W=.ok (.tuple #[.agg #[I k,.string s,sX a1 n1 c1,sX a2 n2 c2],.bool (g x).isSome]) W)/\∀t,g x=a_ t->(k=t.k/\s=Pl.ba t.nm/\n1=t.code.length/\n2=t.gs.length)/\FI t/\XS B w a1 t.code/\XG B w a2 t.gs:=by
 obtain⟨n,F,ho,hn,h⟩:=h;have hl:=λW (hW:Bl w W)=>(ho.eX (hW.block b ho.lt)).look underlying9 underlying103 (ald W) x J8;have h:=h x
 cases hg:g x with
 |none=>rw[hg] at h;rw[h] at hl;exact⟨0,.empty,c_,0,0,c_,0,0,hl,λa e=>by cases e⟩
 |some t =>
  rw[hg] at h;obtain⟨ok,a1,c1,a2,c2,e,r1,r2⟩:=h;rw[e] at hl;exact⟨_,_,_,_,_,_,_,_,hl,λt' ht=>by cases ht;exact⟨⟨rfl,rfl,rfl,rfl⟩,ok,r1,r2⟩⟩
def MN(h:Fi K P B w f M G own eO)(hM:M<w.1.size)(x:lJ)(hx:x.length<=1048576):Cp 152 #[pT f,.string (Pl.ba x)] w (anX B M w (mX G.fs eO x)):=by
 have hs:=h.hs;obtain⟨bb,ow,sp,b0,n0,n1,⟨ba,bf,b1,n2,n3,ma,mf⟩,ho,hf⟩:=h.fr;obtain⟨d0,f0,z0⟩:=b0.all;obtain⟨d1,f1,z1⟩:=b1.all;have KN:=zH (yP 10);have KY:=zH (yN 10);unfold mX;by_cases Eh:x=lL
 ·subst Eh
  have eb:((Pl.ba lL).toList == [115,101,108,102])=b_:=by rw[uh];rfl
  rw[eD rfl];match eO,hf with
  |none,hf =>
   subst hf;go_enter func152,ntmps152;exact Qk
  |some t,⟨ok,b,a1,c1,a2,c2,e,n,bx,r1,r2⟩ =>
   subst e;have HT:Hid (Tb B w b t):=⟨ok,a1,c1,a2,c2,bx,r1,r2⟩;have HN:=zH n;go_enter func152,ntmps152;go_wp2_with (go_at_call 59;refine(KN.o _).mono ?_;rintro e w' ⟨rfl,rfl⟩)
   go_returns
   exact⟨gG,b,rfl,HN.o,HT.o⟩
 rw[eB Eh];have eb:((Pl.ba x).toList == [115,101,108,102])=d_:=by rw[uh];exact fH Eh
 obtain⟨k,s,a1,m1,c1,a2,m2,c2,l1,r1⟩:=mf.look x hx;have k1:=l1 w (.refl _ _);replace r1:=zH r1
 cases hg:jP (·.nm) G.fs x G.fs.length with
 |none =>
  simp only[hg,IA] at k1;go_enter func152,ntmps152;exact Qk
 |some t =>
  simp only[hg,IB] at k1;obtain⟨⟨rfl,rfl,rfl,rfl⟩,ok,q1,q2⟩:=r1.o t hg;have HT:Hid (Tb B (w.alloc (.cells #[I t.k,.string (Pl.ba t.nm),sX a1 t.code.length c1,sX a2 t.gs.length c2] 60)) w.1.size t):=⟨ok,a1,c1,a2,c2,.new _ _ _,XS.eG q1 gG,XG.eG q2 gG⟩;go_enter func152,ntmps152;go_wp2_with (go_at_call 59;refine(KN.o _).mono ?_;rintro e w' ⟨rfl,rfl⟩)
  go_returns
  exact⟨gG,_,rfl,oM,HT.o⟩
def akG.ζ(h:ρ:=by
 obtain⟨w2,s2,o2,t2⟩:=o1.store underlying9 underlying102 dC [97] dC (.agg #[sX x2 b.1.length y2,sX x3 b.2.length y3]);have g2:(Instr.mapUpdate 102 (.map (a_ w.1.size)) (.string ⟨#[97]⟩) (.agg #[sX x2 b.1.length y2,sX x3 b.2.length y3])).run prog w1=.ok () w2:=s2;have B1:=BG w1 t1.grown;have HB:=zH (BG w2 (t1.trans t2).grown);have vT:=(B1.cell (p:=(Y S (o+2))) hS).trans k2;have k3':=(B1.cell (p:=(Y S (o+2+1))) hS).trans k3;have HM:Hid (MA K P w2 w.1.size (pE [a,b])):=⟨_,_,o2,dC,λx=>by
  by_cases h:x=[119]
  ·simp only[pE,h,kI];exact⟨_,_,rfl,r.kp (.of HB.o)⟩
  by_cases h':x=[97]
  ·subst h';exact⟨_,_,rfl,r'.kp (.of HB.o)⟩
  simp[pE,h,h']⟩
 go_enter func155,ntmps155;go_wp2;go_returns
 exact⟨HB.o,_,rfl,jR _,HM.o⟩
 ):ρ:=h
def akF.ζ(h:ρ:=by
 have HB:=zH (BG w1 t1.grown);have HM:Hid (MA K P w1 w.1.size (pE [a])):=⟨_,_,o1,dC,λx=>by
  by_cases h:x=[119]
  ·simp only[pE,h,kI];exact⟨_,_,rfl,r.kp (.of HB.o)⟩
  simp[pE,h]⟩
 go_enter func155,ntmps155;go_wp2;go_returns
 exact⟨HB.o,_,rfl,jR _,HM.o⟩
 ):ρ:=h
def aca(vs:List Ar)(hv:vs.length=1\/vs.length=2)(S o cap:Nat)(hS:S<w.1.size)(hc:∀i a,vs[i]? = a_ a->∃u0 u1,w.cell? (Y S (o+i * 2))=a_ u0/\w.cell? (Y S (o+i * 2+1))=a_ u1/\RO K P w u0 u1 a):
  Cp 155 #[sX (sY S o) vs.length cap] w λe w'=>Bl w w'/\∃b,e=rT (.map (a_ b))/\w.1.size<=b/\MA K P w' b (pE vs):=by
 have qA:=@run_makeMap prog;have BG:∀W,(w.alloc (.map #[] 0)).grownBy W (a_ w.1.size)->Bl w W:=λW h=>(qu (B:=w.1.size) (a:=w) gG h sI (λk hk=>by injection hk with hk;omega));match vs,hv,hc with
 |[a],_,hc =>
  obtain⟨u0,u1,k0,k1,r⟩:=hc 0 a rfl;obtain⟨⟨x0,y0,rfl⟩,x1,y1,rfl⟩:=r.1.eS;have e0:o+0 * 2=o:=oM;rw[e0] at k0 k1;open akF in exact Θ
 |[a,b],_,hc =>
  obtain⟨u0,u1,k0,k1,r⟩:=hc 0 a rfl;obtain⟨u2,u3,k2,k3,r'⟩:=hc 1 b rfl;obtain⟨⟨x0,y0,rfl⟩,x1,y1,rfl⟩:=r.1.eS;obtain⟨⟨x2,y2,rfl⟩,x3,y3,rfl⟩:=r'.1.eS;have e0:o+0 * 2=o:=oM;have e1:o+1 * 2=o+2:=oM;rw[e0] at k0 k1;rw[e1] at k2 k3;open akG in exact Θ
end
end
section
variable {a m b mid s e n c d:Nat}{k:Int->Int}{f f':Nat->Int}{ok:Int->Prop}
structure yK(a m b mid s0 r0:Nat):Prop where
 q1:a<=s0
 q2:s0<=r0
 q3:r0<=m
 q4:r0<=mid
 q5:mid+m<=b+s0
 q6:s0=a\/mid+m=b+s0
 q7:r0=m\/r0=mid
def yK.hi(h1:a<m)(h2:m<b)(hd:a+b<=2 * mid+1)(ry:2 * mid<=a+b)(h:mid<m):yK a m b mid (mid+m-b) mid:=⟨oM,oM,oM,oM,oM,oM,oM⟩
def yK.lo(h1:a<m)(h2:m<b)(hd:a+b<=2 * mid+1)(ry:2 * mid<=a+b)(h:¬mid<m):yK a m b mid a m:=⟨oM,oM,oM,oM,oM,oM,oM⟩
def ahb{s0 r0:Nat}(hB:yK a m b mid s0 r0)(h1:a<m)(h2:m<b)(En:s0<=s)(Em:s<=r0)(he:e+s=mid+m)(sL:nE k f a m)(sR:nE k f m b)
  (hL:∀t,s0<=t->t<s->k (f t)<=k (f (mid+m-1-t))) (hR:∀t,s<=t->t<r0->k (f (mid+m-1-t))<k (f t)) :
  gW k (e_ f a m) (e_ f m b)=gW k (e_ f a s) (e_ f m e)++gW k (e_ f s m) (e_ f e b):=by
 obtain⟨b1,b2,b3,b4,b5,b6,b7⟩:=hB;rw[<- sJ f (show a<=s by omega) (show s<=m by omega),<- sJ f (show m<=e by omega) (show e<=b by omega)];refine N5 (λx hx y hy=>?_) (λx hx y hy=>?_)
 ·obtain⟨t,t1,t2,rfl⟩:=vw hx
  obtain⟨u,u1,u2,rfl⟩:=vw hy;by_cases hs:s0<s
  ·have c:=hL (s-1) oM oM
   rw[show mid+m-1-(s-1)=e by omega] at c;have c1:k (f t)<=k (f (s-1)):=by
    by_cases ee:t=s-1
    ·rw[ee];omega
    exact sL t (s-1) t1 oM oM
   have c2:k (f e)<=k (f u):=by
    by_cases ee:u=e
    ·rw[ee];omega
    exact sR e u oM oM u2
   omega
  omega
 obtain⟨t,t1,t2,rfl⟩:=vw hx;obtain⟨u,u1,u2,rfl⟩:=vw hy;by_cases hs:s<r0
 ·have c:=hR s (jR _) hs
  rw[show mid+m-1-s=e-1 by omega] at c;have c1:k (f t)<=k (f (e-1)):=by
   by_cases ee:t=e-1
   ·rw[ee];omega
   exact sR t (e-1) t1 oM oM
  have c2:k (f s)<=k (f u):=by
   by_cases ee:u=s
   ·rw[ee];omega
   exact sL s u oM oM u2
  omega
 omega
def afR(fJ:s<=m)(vW:m<=e)(h:¬(s<m/\m<e)):fE f s m e=f:=by
 funext t
 unfold fE;repeat' split
 all_goals first | rfl | (congr 1;omega) | (exfalso;omega)
def afQ{f:Nat->Int}(has:a<=s)(fJ:s<=m)(vW:m<=e)(LH:e<=b)(he:e+s=mid+m):
  e_ (fE f s m e) a s=e_ f a s/\e_ (fE f s m e) s mid=e_ f m e/\e_ (fE f s m e) mid e=e_ f s m/\e_ (fE f s m e) e b=e_ f e b:=by
 refine⟨wY λt t1 t2=>?_,FX oM λt ht=>?_,FX oM λt ht=>?_,wY λt t1 t2=>?_⟩
 ·exact Bs
 ·unfold fE
  rw[eD oM];congr 1;omega
 ·unfold fE
  rw[eB oM,eD oM];congr 1;omega
 exact Bs
def adp{t:Nat}(fJ:s<=m)(vW:m<=e)(h:t<s\/e<=t):fE f s m e t=f t:=by
 exact Bs
def alx(fJ:s<=m)(vW:m<=e)(LG:e<=n)(h:∀t,t<n->ok (f t)):∀t,t<n->ok (fE f s m e t):=by
 intro t ht;unfold fE;repeat' split
 all_goals exact h _ oM
def alL{L R:lI}(hb:b<=n)(h:∀t,t<n->ok (f t))(hs:e_ f' a b=gW k L R)(hL:∀x∈L,ok x)(hR:∀x∈R,ok x)(ho:∀t,(t<a\/b<=t)->f' t=f t):∀t,t<n->ok (f' t):=by
 intro t ht;by_cases mE:a<=t/\t<b
 ·have hm:f' t∈e_ f' a b:=OF mE.1 mE.2
  rw[hs] at hm;rcases ahD k _ L R (jR _) hm with h1|h1
  ·exact hL _ h1
  exact hR _ h1
 rw[ho t oM];exact h t ht
def Yv(hb:b<=n)(h:∀t,t<n->ok (f t)):∀x∈e_ f a b,ok x:=by
 intro x hx;obtain⟨t,_,t2,rfl⟩:=vw hx;exact h t oM
def Gt(h:e_ f a b=e_ f' c d)(hs:nE k f' c d):nE k f a b:=NM (by rw[h];exact Yr hs)
def Ge(hs:nE k f a b)(h1:a<=c)(h2:d<=b):nE k f c d:=λi j x y z=>hs i j oM y oM
def ajI.Ol(h:ρ:=by
 have hqh:((mid+m-1-h:Nat):Int)=(mid:Int)+(m:Int)-1-(h:Int):=oM;have apF:mid+m-1-h<n:=oM;have jS:∀t,t<n->wr.cell? (Y g (off+t))=a_ (I (f t)):=λt ht=>(RR.o.2 t ht).1;have KC:Hid (∀m',Cp 281 #[I (f (mid+m-1-h)),I (f h),pT pa] (wr.drewN m') λe w'=>e=rT (I (nU (k (f (mid+m-1-h))) (k (f h))))/\∃q,w'=(wr.drewN m').drewN q):=λm' =>
  HX.o.cmp (f (mid+m-1-h)) (f h) (wr.drewN m') (HK.o _ oM) (HK.o _ oM) (gx BW.o m')
 have⟨c,hc⟩:∃c,nU (k (f (mid+m-1-h))) (k (f h))=c:=⟨_,rfl⟩;have kQ:c<0 ↔ k (f (mid+m-1-h))<k (f h):=by rw[<- hc];exact GC
 rw[hc] at KC;by_cases hl:k (f (mid+m-1-h))<k (f h)
 ·have jy:c<0:=kQ.2 hl
  have kT:decide (c<0)=b_:=fM jy;have Ur:Hid (∀t,h<=t->t<r0->k (f (mid+m-1-t))<k (f t)):=λt h1 h2=>by
   by_cases e:t=h
   ·rw[e];exact hl
   have c1:=Fh.o h t oM oM oM;have c2:=Fg.o (mid+m-1-t) (mid+m-1-h) oM oM oM;omega
  go_upto_region 35 with fail
  exact Qw
 ·have jy:¬c<0:=λh=>hl (kQ.1 h)
  have kT:decide (c<0)=d_:=fH jy;have Up:Hid (∀t,s0<=t->t<h+1->k (f t)<=k (f (mid+m-1-t))):=λt h1 h2=>by
   by_cases e:t=h
   ·rw[e];omega
   have c1:=Fh.o t h oM oM oM;have c2:=Fg.o (mid+m-1-h) (mid+m-1-t) oM oM oM;omega
  go_upto_region 35 with fail
  exact Qx
 ):ρ:=h
def alr(B0:Nat)(w0:Wd)(pa g off cap n a m b:Nat)(k:Int->Int)(ok:Int->Prop)(f:Nat->Int)(w:Wd)(hX:Cx B0 w0 pa g n k ok)(hR:fC g off n f w)(h1:a+1<m)(h2:m+1<b)(hb:b<=n)(hn:n<=1000000)(fF:∀t,t<n->ok (f t))(sL:nE k f a m)(sR:nE k f m b)(hB:Below B0 w0 w)
  (aoP:∀(a' m' b':Nat)(f':Nat->Int) (w':Wd),b'-a'<b-a->a'<m'->m'<b'->b'<=n->fC g off n f' w'->(∀t,t<n->ok (f' t))->nE k f' a' m'->nE k f' m' b'->Below B0 w0 w'->Cp 309 #[sX (sY g off) n cap,I (a':Int),I (m':Int),I (b':Int),cl pa] w' (za g off n a' m' b' k f' w')) :
  Cp 309 #[sX (sY g off) n cap,I (a:Int),I (m:Int),I (b:Int),cl pa] w (za g off n a m b k f w):=by
 have HR:=zH hR;have HX:=zH hX;have HB:=zH hB;have HK:=zH fF;have Fh:=zH sL;have Fg:=zH sR;have aa8:=zH aoP;have sy:=GF;have yH:Hid (B0<=w.1.size):=jT HX.o.g (Bc HR.o.1);have hma:((m:Int)-(a:Int) == 1)=d_:=by rw[gR];omega
 have oU:((b:Int)-(m:Int) == 1)=d_:=by rw[gR];omega
 have⟨mid,QV⟩:∃mid:Nat,((a:Int)+(b:Int)) / 2=(mid:Int):=⟨(a+b) / 2,oM⟩;have yp:a+b<=2 * mid+1:=oM;have ry:2 * mid<=a+b:=oM;go_enter func309,ntmps309;go_upto_if 140 with fail
 go_cut [20,21] from 138 to 219 (λv20 v21 wx=>∃s0 r0:Nat,v20=I (s0:Int)/\v21=I (r0:Int)/\yK a m b mid s0 r0/\wx=w)
 case first =>
  by_cases Tg:mid<m
  ·have ao4:(mid:Int)<(m:Int):=oM
   go_wp2;go_meet
   exact⟨mid+m-b,mid,by congr 1;omega,rfl,yK.hi oM oM yp ry Tg,rfl⟩
  have ao4:¬(mid:Int)<(m:Int):=oM;go_wp2;go_meet
  exact⟨a,m,rfl,rfl,yK.lo oM oM yp ry Tg,rfl⟩
 obtain⟨s0,r0,rfl,rfl,Tt,rfl⟩:=hcut;have HBn:=zH Tt;obtain⟨b1,b2,b3,b4,b5,b6,b7⟩:=Tt;rename Wd=>w
 go_wp2_with fail;go_loopw [20,21,23] (λvi vj _ wr=>∃i j:Nat,s0<=i/\i<=j/\j<=r0/\vi=I (i:Int)/\vj=I (j:Int)/\Hid (∀t,s0<=t->t<i->k (f t)<=k (f (mid+m-1-t)))/\Hid (∀t,j<=t->t<r0->k (f (mid+m-1-t))<k (f t))/\Hid (fC g off n f wr)/\Hid (Gr g w wr)) (λvi vj _ _=>(intOf vj).toNat-(intOf vi).toNat)
 case atStart=>exact⟨s0,r0,jR _,b2,jR _,rfl,rfl,λt h1 h2=>oM,λt h1 h2=>oM,HR,Gr.refl _ _⟩
 obtain⟨i,j,yg,hij,Ex,rfl,rfl,HL,HG,RR,GG⟩:=hrel;by_cases eI:i<j
 ·open ajI in exact Pd
 have nC:¬(i:Int)<(j:Int):=oM;obtain rfl:i=j:=oM;have⟨e,he⟩:∃e,e+i=mid+m:=⟨mid+m-i,oM⟩;have yj:(mid:Int)+(m:Int)-(i:Int)=(e:Int):=oM;have HM:=zH (ahb HBn.o oM oM yg Ex he Fh.o Fg.o HL.o HG.o);have vW:m<=e:=oM;have uT:i<=m:=oM;have Cn:a<=i:=oM;have LH:e<=b:=oM;have wO:=zH (afQ (f:=f) Cn uT vW LH he);have Um:=zH (alx (f:=f) (s:=i) (m:=m) (e:=e) (n:=n) (ok:=ok) uT vW oM HK.o);go_upto_region 39 with fail
 go_cut [185] from 178 to 219 (λc wx=>c=.bool (decide (i<m/\m<e))/\wx=wr)
 case first =>
  by_cases gE:i<m
  ·have uG:(i:Int)<(m:Int):=oM
   by_cases jC:m<e
   ·have DZ:(m:Int)<(e:Int):=oM
    exact Ql
   have DZ:¬(m:Int)<(e:Int):=oM;exact Qn
  have uG:¬(i:Int)<(m:Int):=oM;exact Qm
 case rest =>
 obtain⟨rfl,rfl⟩:=hcut;go_upto_if 185 with fail
 go_cut [24] from 178 to 219 (λv24 wx=>v24=I (e:Int)/\Hid (fC g off n (fE f i m e) wx)/\Hid (Gr g w wx))
 case first =>
  by_cases hc:i<m/\m<e
  ·have KR:=zH (ado g off cap n i m e f (cl pa) wc RR.o hc.1 hc.2 oM hn)
   have kT:decide (i<m/\m<e)=b_:=fM hc;go_wp2_with fail;refine KR.o.mono ?_;rintro _ w2 ⟨rfl,hr,hg⟩;have R2:=zH hr;have G2:=zH (GG.o.trans hg);go_wp2;go_meet
   exact⟨rfl,R2,G2⟩
  have R2:Hid (fC g off n (fE f i m e) wc):=by show fC _ _ _ _ _;rw[afR uT vW hc];exact RR.o
  have kT:decide (i<m/\m<e)=d_:=fH hc;go_wp2;go_meet
  exact⟨rfl,R2,GG⟩
 obtain⟨rfl,RR,GG⟩:=hcut;obtain⟨f1,EF⟩:∃f1,fE f i m e=f1:=⟨_,rfl⟩;have Fv:=zH EF;rw[EF] at RR wO Um;go_upto_region 41 with fail
 go_cut [199] from 192 to 219 (λc wx=>c=.bool (decide (a<i/\i<mid))/\wx=wc)
 case first =>
  by_cases gE:a<i
  ·have uG:(a:Int)<(i:Int):=oM
   by_cases jC:i<mid
   ·have DZ:(i:Int)<(mid:Int):=oM
    exact Ql
   have DZ:¬(i:Int)<(mid:Int):=oM;exact Qn
  have uG:¬(a:Int)<(i:Int):=oM;exact Qm
 case rest =>
 obtain⟨rfl,rfl⟩:=hcut;go_upto_if 199 with fail
 go_cut [24] from 192 to 219 (λv24 wx=>v24=I (e:Int)/\∃f2,Hid (fC g off n f2 wx)/\Hid (e_ f2 a mid=gW k (e_ f a i) (e_ f m e))/\Hid (∀t,(t<a\/mid<=t)->f2 t=f1 t)/\Hid (Gr g w wx))
 case first =>
  by_cases hc:a<i/\i<mid
  ·have BW:=zH (GG.o.eG HB.o HX.o.g yH.o)
   have KM:=zH (aa8.o a i mid f1 wc oM hc.1 hc.2 oM RR.o Um.o (Gt wO.o.1 (Ge Fh.o (jR _) uT)) (Gt wO.o.2.1 (Ge Fg.o (jR _) LH)) BW.o);have kT:decide (a<i/\i<mid)=b_:=fM hc;go_wp2_with fail;refine KM.o.mono ?_;rintro _ w2 ⟨rfl,⟨f2,hr,hs,ho⟩,hg⟩;have R2:=zH hr;have G2:=zH (GG.o.trans hg);have O2:=zH ho;have S2:Hid (e_ f2 a mid=gW k (e_ f a i) (e_ f m e)):=by
    rw[wO.o.1,wO.o.2.1] at hs;exact hs
   go_wp2;go_meet
   exact⟨rfl,f2,R2,S2,O2,G2⟩
  have S2:Hid (e_ f1 a mid=gW k (e_ f a i) (e_ f m e)):=by
   show _=_;rw[<- sJ f1 Cn (show i<=mid by omega),wO.o.1,wO.o.2.1];by_cases ha:a<i
   ·rw[yU f (show e<=m by omega),qe,rU]
   rw[yU f (show i<=a by omega),qM,qn]
  have kT:decide (a<i/\i<mid)=d_:=fH hc;go_wp2;go_meet
  exact⟨rfl,f1,RR,S2,λ_ _=>rfl,GG⟩
 obtain⟨rfl,f2,RR,CQ,Mp,GG⟩:=hcut;have wJ:Hid (∀f3 w3,fC g off n f3 w3->e_ f3 mid b=gW k (e_ f i m) (e_ f e b)->(∀t,(t<mid\/b<=t)->f3 t=f2 t)->Gr g w w3->za g off n a m b k f w (rT (.tuple #[])) w3):=λf3 w3 hr hs ho hg=>by
  refine⟨rfl,⟨f3,hr,?_,λt ht=>?_⟩,hg⟩
  ·rw[HM.o,<- sJ f3 (show a<=mid by omega) (show mid<=b by omega),hs,<- CQ.o]
   rw[wY (f:=f3) (f':=f2) (a:=a) (b:=mid) (λt _ t2=>ho t (.inl t2))]
  rw[ho t oM,Mp.o t oM,<- Fv.o,adp uT vW oM]
 have E2:Hid (e_ f2 mid e=e_ f i m/\e_ f2 e b=e_ f e b):=by
  refine⟨?_,?_⟩
  ·rw[wY (f:=f2) (f':=f1) (a:=mid) (b:=e) (λt t1 _=>Mp.o t (.inr t1))];exact wO.o.2.2.1
  rw[wY (f:=f2) (f':=f1) (a:=e) (b:=b) (λt t1 _=>Mp.o t (.inr oM))];exact wO.o.2.2.2
 go_upto_region 43 with fail
 go_cut [213] from 206 to 219 (λc wx=>c=.bool (decide (mid<e/\e<b))/\wx=wc)
 case first =>
  by_cases gE:mid<e
  ·have uG:(mid:Int)<(e:Int):=oM
   by_cases jC:e<b
   ·have DZ:(e:Int)<(b:Int):=oM
    exact Ql
   have DZ:¬(e:Int)<(b:Int):=oM;exact Qn
  have uG:¬(mid:Int)<(e:Int):=oM;exact Qm
 case rest =>
 obtain⟨rfl,rfl⟩:=hcut;by_cases hc:mid<e/\e<b
 ·have BW:=zH (GG.o.eG HB.o HX.o.g yH.o)
  have OK2:=alL oM Um.o CQ.o (Yv oM HK.o) (Yv oM HK.o) Mp.o;have KM:=zH (aa8.o mid e b f2 wc oM hc.1 hc.2 hb RR.o OK2 (Gt E2.o.1 (Ge Fh.o Cn (jR _))) (Gt E2.o.2 (Ge Fg.o vW (jR _))) BW.o);have kT:decide (mid<e/\e<b)=b_:=fM hc;go_wp2_with fail;refine KM.o.mono ?_;rintro _ w3 ⟨rfl,⟨f3,hr,hs,ho⟩,hg⟩;rw[E2.o.1,E2.o.2] at hs;have F3:=zH (wJ.o f3 w3 hr hs ho (GG.o.trans hg));go_wp2_with fail;go_end0
  exact F3.o
 have F3:Hid (za g off n a m b k f w (rT (.tuple #[])) wc):=wJ.o f2 wc RR.o (by
  rw[<- sJ f2 (show mid<=e by omega) LH,E2.o.1,E2.o.2];by_cases ha:mid<e
  ·rw[yU f (show b<=e by omega),qe,rU]
  rw[yU f (show m<=i by omega),qM,qn]) (λ_ _=>rfl) GG.o
 have kT:decide (mid<e/\e<b)=d_:=fH hc;go_wp2_with fail;go_end0
 exact F3.o
end
def ak6.ui(h:ρ:=by
 have K:Hid (∀w',Cp 19 #[sX ao s.eF.length cap,I l] w' λe w2=>e=rT (I (Pl.sb l s.eF.length))/\w2=w'):=λw'=>M8 ao s.eF.length cap l w' o1 h0 h1;have KF:Hid (∀q w',0<=q->q<=1048576->Cp 94 #[.agg #[I s.fn.k,I s.fn.a,I s.fn.b,.string (Pl.ba s.fn.nm)],I q] w' λe w2=>e=rT (I (Pl.sb q s.fn.nm.length))/\Bl w' w2):=λq w' g0 g1=>afn s.fn.k s.fn.a s.fn.b (Pl.ba s.fn.nm) q w' o3 g0 g1;have HV:Hid (Pl.sb l (iK s)=if l<(s.eF.length+s.nm.length+s.fn.nm.length:Nat) then -1 else l-(s.eF.length+s.nm.length+s.fn.nm.length:Nat)):=rfl;have hs:(Pl.ba s.nm).size=s.nm.length:=rfl;generalize Pl.sb l (iK s)=r,s.eF.length=n1,s.nm.length=n2,s.fn.nm.length=n3,Pl.ba s.nm=nm at *;generalize Pl.ba s.fn.nm=pR,s.k=kk,s.fn.k=fk,s.fn.a=fa,s.fn.b=fb at *;by_cases g1:l<n1
 ·have HR:=zH (show r=-1 by rw[HV.o,eD oM])
  have E:Hid (Pl.sb l n1=-1):=by show _=_;unfold Pl.sb;rw[eD g1]
  rw[E.o] at K;exact YH
 ·have E:Hid (Pl.sb l n1=l-n1):=by show _=_;unfold Pl.sb;rw[eB g1]
  rw[E.o] at K;by_cases g2:l-(n1:Int)-(n2:Int)<0
  ·have HR:=zH (show r=-1 by rw[HV.o,eD oM])
   exact YH
  have K3:=zH (λw'=>KF.o (l-n1-n2) w' oM oM);by_cases g3:l-(n1:Int)-(n2:Int)<n3
  ·have HR:=zH (show r=-1 by rw[HV.o,eD oM])
   have E3:Hid (Pl.sb (l-n1-n2) n3=-1):=by show _=_;unfold Pl.sb;rw[eD g3]
   rw[E3.o] at K3;exact Zi
  have HR:=zH (show r=l-n1-n2-n3 by rw[HV.o,eB oM];omega);have E3:Hid (Pl.sb (l-n1-n2) n3=l-n1-n2-n3):=by show _=_;unfold Pl.sb;rw[eB g3]
  rw[E3.o] at K3;have g4:¬(l-(n1:Int)-n2-n3<0):=oM;exact Zi
 ):ρ:=h
def adg(s:Sv)(ao:oA)(cap:Nat)(l:Int)(w:Wd)(hk:Kx s)(h0:0<=l)(h1:l<=1048576):
  Cp 64 #[.agg #[I s.k,sX ao s.eF.length cap,.string (Pl.ba s.nm),I s.fn.k,I s.fn.a,I s.fn.b,.string (Pl.ba s.fn.nm)],I l] w (rB (I (Pl.sb l (iK s))) w):=by
 obtain⟨o1,o2,o3⟩:=hk;open ak6 in exact uq
def alc.uj(h:ρ:=by
 generalize s.k=kk,s.eF.length=sn at *;have wN:=zH tf;have HQ:=zH (show q-iK s=l-L-(((c.take (k+1)).map iK).sum:Nat) by rw[wN.o,hq.o];omega);have Fq:=zH (show (((c.take (k+1)).map iK).sum)<=T from hle);by_cases g1:q<iK s
 ·have HR:=zH (show r=-1 by
   have:=Fq.o;have:=HQ.o;rw[HV.o,eD oM])
  have E:Hid (Pl.sb q (iK s)=-1):=by show _=_;unfold Pl.sb;rw[eD g1]
  rw[E.o] at K;generalize iK s=ws at *;go_wp2_with (go_at_call 64;refine K.o.mono ?_;rintro e w2 ⟨rfl,hb2⟩)
  exact O8
 ·have E:Hid (Pl.sb q (iK s)=q-iK s):=by show _=_;unfold Pl.sb;rw[eB g1]
  rw[E.o] at K;generalize iK s=ws at *;have g2:¬(q-(ws:Int)<0):=oM;go_wp2_with (go_at_call 64;refine K.o.mono ?_;rintro e w2 ⟨rfl,hb2⟩)
  go_roundw
  case rel=>exact⟨k+1,_,oM,gN,rfl,oM,oM,HQ,BB.o.trans (hb2.mono BB.o.size)⟩
  simp[intOf];omega
 ):ρ:=h
def M5(c:List Sv)(ao:oA)(cap:Nat)(l:Int)(w:Wd)(hk:Ec c)(h0:0<=l)(h1:l<=1048576)(hR:gf w.1.size w ao c):
  Cp 42 #[sX ao c.length cap,I l] w (rB (I (Pl.sb l (wC c))) w):=by
 obtain⟨o1,o2⟩:=hk;have HG:Hid (∀k,k<c.length->∃s b off,c[k]? = a_ s/\s∈c/\ao=sY b off/\b<w.1.size/\(∃an cn,∀w',Bl w w'->jE w.1.size w' b (off+k * 7) s an cn)/\((c.take (k+1)).map iK).sum=((c.take k).map iK).sum+iK s/\((c.take (k+1)).map iK).sum<=(c.map iK).sum):=λk hk=>by
  rcases hR with rfl|⟨b,off,hb,rfl,hc⟩
  ·cases hk
  have⟨an,cn,h⟩:=hc k c[k] (fw hk);exact⟨c[k],b,off,fw hk,lh hk,rfl,hb,⟨an,cn,λw' hw=>h.eG hb hw⟩,CY _ (fw hk),C3 _ _ _⟩
 have HO:Hid (∀s∈c,Kx s):=o2;have HV:Hid (Pl.sb l (wC c)=if l<(c.length+(c.map iK).sum:Nat) then -1 else l-(c.length+(c.map iK).sum:Nat)):=rfl;have HE:Hid (((c.take c.length).map iK).sum=(c.map iK).sum):=by show _=_;rw[km]
 have HZ:Hid (((c.take 0).map iK).sum=0):=rfl;generalize Pl.sb l (wC c)=r,hT:(c.map iK).sum=T,hL:c.length=L at *;by_cases g:l-(L:Int)<0
 ·have HR:=zH (show r=-1 by rw[HV.o,eD oM])
  go_enter func42,ntmps42;go_wp2;go_ret
  exact⟨by rw[HR.o];rfl,jD _ _⟩
 go_enter func42,ntmps42;go_wp2;go_loopw [1,5] (λu v wr=>∃(k:Nat)(q:Int),k<=L/\v=I k/\u=I q/\0<=q/\q<=1048576/\Hid (q=l-L-(((c.take k).map iK).sum:Nat))/\Hid (Bl w wr)) (λ_ v _=>L-(intOf v).toNat)
 case atStart=>exact⟨0,_,vZ _,rfl,rfl,by omega,by omega,by show _=_;rw[HZ.o];simp,jD _ _⟩
 obtain⟨k,q,hk,rfl,rfl,yf,oB,hq,BB⟩:=hrel;by_cases eI:k<L
 ·obtain⟨s,b,off,hs,hm,rfl,hb,⟨an,cn,eL⟩,tf,hle⟩:=HG.o k eI
  have⟨c0,c1,c2,c3,c4,c5,c6,rD⟩:=eL _ BB.o;have K:=zH (adg s an cn q wr (HO.o s hm) yf oB);open alc in exact uu
 exact Qu
def amY.II(h:ρ:=by
 generalize Pl.sb l (wG g)=r,wC g.test=n1,wC g.eT=n2,g.test.length=l1,g.eT.length=l2 at *;by_cases g1:l<n1
 ·have HR:=zH (show r=-1 by rw[HV.o,eD oM])
  have E:Hid (Pl.sb l n1=-1):=by show _=_;unfold Pl.sb;rw[eD g1]
  rw[E.o] at K1;go_enter func65,ntmps65;exact Y5
 ·have E:Hid (Pl.sb l n1=l-n1):=by show _=_;unfold Pl.sb;rw[eB g1]
  rw[E.o] at K1;have K3:=zH (λw' h=>K2.o (l-n1) w' oM oM h);have g2:¬(l-(n1:Int)<0):=oM;by_cases g3:l-(n1:Int)<n2
  ·have HR:=zH (show r=-1 by rw[HV.o,eD oM])
   have E3:Hid (Pl.sb (l-n1) n2=-1):=by show _=_;unfold Pl.sb;rw[eD g3]
   rw[E3.o] at K3;exact Zq
  have HR:=zH (show r=l-n1-n2 by rw[HV.o,eB oM];omega);have E3:Hid (Pl.sb (l-n1) n2=l-n1-n2):=by show _=_;unfold Pl.sb;rw[eB g3]
  rw[E3.o] at K3;have g4:¬(l-(n1:Int)-n2<0):=oM;exact Zq
 ):ρ:=h
def ajS.ud(h:ρ:=by
 have K1:Hid (∀o,Cp 42 #[sX a1 g.test.length c1,I l] (w.alloc o) λe w2=>e=rT (I (Pl.sb l (wC g.test)))/\Below (w.alloc o).1.size (w.alloc o) w2):=λo=>M5 g.test a1 c1 l (w.alloc o) hk.1 h0 h1 ((r1.eG (HB.o o)).up (HB.o o).size);have K2:Hid (∀q w',0<=q->q<=1048576->Bl w w'->Cp 42 #[sX a2 g.eT.length c2,I q] w' λe w2=>e=rT (I (Pl.sb q (wC g.eT)))/\Bl w' w2):=λq w' g0 g1 h=>M5 g.eT a2 c2 q w' hk.2 g0 g1 ((r2.eG h).up h.size);have HV:Hid (Pl.sb l (wG g)=if l<(wC g.test+wC g.eT:Nat) then -1 else l-(wC g.test+wC g.eT:Nat)):=rfl;open amY in exact IX
 ):ρ:=h
def acD(g:Gv)(a1 a2:oA)(c1 c2:Nat)(l:Int)(w:Wd)(hk:Ky g)(h0:0<=l)(h1:l<=1048576)(r1:gf w.1.size w a1 g.test)(r2:gf w.1.size w a2 g.eT):
  Cp 65 #[.agg #[sX a1 g.test.length c1,sX a2 g.eT.length c2],I l] w (rB (I (Pl.sb l (wG g))) w):=by
 open ajS in exact ug
def abZ(c:List Gv)(ao:oA)(cap:Nat)(l:Int)(w:Wd)(hk:QQ c)(h0:0<=l)(h1:l<=1048576)(hR:iG w.1.size w ao c):
  Cp 43 #[sX ao c.length cap,I l] w (rB (I (Pl.sb l (tu c))) w):=by
 obtain⟨o1,o2⟩:=hk;have HG:Hid (∀k,k<c.length->∃s b off,c[k]? = a_ s/\s∈c/\ao=sY b off/\b<w.1.size/\(∃a1 a2 c1 c2,∀w',Bl w w'->Gd w.1.size w' b (off+k * 2) s a1 a2 c1 c2)/\((c.take (k+1)).map wG).sum=((c.take k).map wG).sum+wG s/\((c.take (k+1)).map wG).sum<=(c.map wG).sum):=λk hk=>by
  exact Ω
 have HO:Hid (∀s∈c,Ky s):=o2;have HV:Hid (Pl.sb l (tu c)=if l<(c.length+(c.map wG).sum:Nat) then -1 else l-(c.length+(c.map wG).sum:Nat)):=rfl;have HE:Hid (((c.take c.length).map wG).sum=(c.map wG).sum):=by show _=_;rw[km]
 have HZ:Hid (((c.take 0).map wG).sum=0):=rfl;generalize Pl.sb l (tu c)=r,hT:(c.map wG).sum=T,hL:c.length=L at *;by_cases g:l-(L:Int)<0
 ·have HR:=zH (show r=-1 by rw[HV.o,eD oM])
  go_enter func43,ntmps43;go_wp2;go_ret
  exact⟨by rw[HR.o];rfl,jD _ _⟩
 go_enter func43,ntmps43;go_wp2;go_loopw [1,5] (λu v wr=>∃(k:Nat)(q:Int),k<=L/\v=I k/\u=I q/\0<=q/\q<=1048576/\Hid (q=l-L-(((c.take k).map wG).sum:Nat))/\Hid (Bl w wr)) (λ_ v _=>L-(intOf v).toNat)
 case atStart=>exact⟨0,_,vZ _,rfl,rfl,by omega,by omega,by show _=_;rw[HZ.o];simp,jD _ _⟩
 obtain⟨k,q,hk,rfl,rfl,yf,oB,hq,BB⟩:=hrel;by_cases eI:k<L
 rotate_left 1
 ·exact Qu
 obtain⟨s,b,off,hs,hm,rfl,hb,⟨a1,a2,c1,c2,eL⟩,tf,hle⟩:=HG.o k eI;have⟨g0,g1',BO,Rk⟩:=eL _ BB.o;have K:=zH (acD s a1 a2 c1 c2 q wr (HO.o s hm) yf oB (BO.up BB.o.size) (Rk.up BB.o.size));generalize s.test.length=l1,s.eT.length=l2 at *;have wN:=zH tf;have HQ:=zH (show q-wG s=l-L-(((c.take (k+1)).map wG).sum:Nat) by rw[wN.o,hq.o];omega);have Fq:=zH (show (((c.take (k+1)).map wG).sum)<=T from hle);by_cases g1:q<wG s
 ·have HR:=zH (show r=-1 by
   have:=Fq.o;have:=HQ.o;rw[HV.o,eD oM])
  have E:Hid (Pl.sb q (wG s)=-1):=by show _=_;unfold Pl.sb;rw[eD g1]
  rw[E.o] at K;generalize wG s=ws at *;go_wp2_with (go_at_call 65;refine K.o.mono ?_;rintro e w2 ⟨rfl,hb2⟩)
  exact O8
 have E:Hid (Pl.sb q (wG s)=q-wG s):=by show _=_;unfold Pl.sb;rw[eB g1]
 rw[E.o] at K;generalize wG s=ws at *;have g2:¬(q-(ws:Int)<0):=oM;go_wp2_with (go_at_call 65;refine K.o.mono ?_;rintro e w2 ⟨rfl,hb2⟩)
 exact Ψ
def amX.II(h:ρ:=by
 have hs:(Pl.ba s.nm).size=s.nm.length:=rfl;generalize Pl.sb l (wT s)=r,wC s.code=n1,tu s.gs=n2,s.nm.length=n0,Pl.ba s.nm=nm,s.code.length=l1,s.gs.length=l2,s.k=kk at *;by_cases g0:l-(n0:Int)<0
 ·have HR:=zH (show r=-1 by rw[HV.o,eD oM])
  go_enter func18,ntmps18;go_wp2;exact He
 have K1:=zH (λo=>K1.o (l-n0) o oM oM);by_cases g1:l-(n0:Int)<n1
 ·have HR:=zH (show r=-1 by rw[HV.o,eD oM])
  have E:Hid (Pl.sb (l-n0) n1=-1):=by show _=_;unfold Pl.sb;rw[eD g1]
  rw[E.o] at K1;go_enter func18,ntmps18;exact Y5
 ·have E:Hid (Pl.sb (l-n0) n1=l-n0-n1):=by show _=_;unfold Pl.sb;rw[eB g1]
  rw[E.o] at K1;have K3:=zH (λw' h=>K2.o (l-n0-n1) w' oM oM h);have g2:¬(l-(n0:Int)-(n1:Int)<0):=oM;by_cases g3:l-(n0:Int)-(n1:Int)<n2
  ·have HR:=zH (show r=-1 by rw[HV.o,eD oM])
   have E3:Hid (Pl.sb (l-n0-n1) n2=-1):=by show _=_;unfold Pl.sb;rw[eD g3]
   rw[E3.o] at K3;exact Zp
  have HR:=zH (show r=l-n0-n1-n2 by rw[HV.o,eB oM];omega);have E3:Hid (Pl.sb (l-n0-n1) n2=l-n0-n1-n2):=by show _=_;unfold Pl.sb;rw[eB g3]
  rw[E3.o] at K3;have g4:¬(l-(n0:Int)-(n1:Int)-n2<0):=oM;exact Zp
 ):ρ:=h
def ajR.ud(h:ρ:=by
 have K1:Hid (∀q o,0<=q->q<=1048576->Cp 42 #[sX a1 s.code.length c1,I q] (w.alloc o) λe w2=>e=rT (I (Pl.sb q (wC s.code)))/\Below (w.alloc o).1.size (w.alloc o) w2):=λq o g0 g1=>M5 s.code a1 c1 q (w.alloc o) o2 g0 g1 ((r1.eG (HB.o o)).up (HB.o o).size);have K2:Hid (∀q w',0<=q->q<=1048576->Bl w w'->Cp 43 #[sX a2 s.gs.length c2,I q] w' λe w2=>e=rT (I (Pl.sb q (tu s.gs)))/\Bl w' w2):=λq w' g0 g1 h=>abZ s.gs a2 c2 q w' o3 g0 g1 ((r2.eG h).up h.size);have HV:Hid (Pl.sb l (wT s)=if l<(s.nm.length+wC s.code+tu s.gs:Nat) then -1 else l-(s.nm.length+wC s.code+tu s.gs:Nat)):=rfl;open amX in exact IX
 ):ρ:=h
def adf(s:Pl.Tv)(a1 a2:oA)(c1 c2:Nat)(l:Int)(w:Wd)(hk:Kw s)(h0:0<=l)(h1:l<=1048576)(r1:gf w.1.size w a1 s.code)(r2:iG w.1.size w a2 s.gs):
  Cp 18 #[.agg #[I s.k,.string (Pl.ba s.nm),sX a1 s.code.length c1,sX a2 s.gs.length c2],I l] w (rB (I (Pl.sb l (wT s))) w):=by
 obtain⟨o1,o2,o3⟩:=hk;open ajR in exact ug
def M4(c:List Pl.Tv)(ao:oA)(cap:Nat)(l:Int)(w:Wd)(hk:DX c)(h0:0<=l)(h1:l<=1048576)(hR:jF w.1.size w ao c):
  Cp 4 #[sX ao c.length cap,I l] w (rB (I (Pl.sb l (wP c))) w):=by
 obtain⟨o1,o2⟩:=hk;have HG:Hid (∀k,k<c.length->∃s b off,c[k]? = a_ s/\s∈c/\ao=sY b off/\b<w.1.size/\(∃a1 a2 c1 c2,∀w',Bl w w'->Sm w.1.size w' b (off+k * 4) s a1 a2 c1 c2)/\((c.take (k+1)).map wT).sum=((c.take k).map wT).sum+wT s/\((c.take (k+1)).map wT).sum<=(c.map wT).sum):=λk hk=>by
  exact Ω
 have HO:Hid (∀s∈c,Kw s):=o2;have HV:Hid (Pl.sb l (wP c)=if l<(c.length+(c.map wT).sum:Nat) then -1 else l-(c.length+(c.map wT).sum:Nat)):=rfl;have HE:Hid (((c.take c.length).map wT).sum=(c.map wT).sum):=by show _=_;rw[km]
 have HZ:Hid (((c.take 0).map wT).sum=0):=rfl;generalize Pl.sb l (wP c)=r,hT:(c.map wT).sum=T,hL:c.length=L at *;by_cases g:l-(L:Int)<0
 ·have HR:=zH (show r=-1 by rw[HV.o,eD oM])
  go_enter func4,ntmps4;go_wp2;go_ret
  exact⟨by rw[HR.o];rfl,jD _ _⟩
 go_enter func4,ntmps4;go_wp2;go_loopw [1,5] (λu v wr=>∃(k:Nat)(q:Int),k<=L/\v=I k/\u=I q/\0<=q/\q<=1048576/\Hid (q=l-L-(((c.take k).map wT).sum:Nat))/\Hid (Bl w wr)) (λ_ v _=>L-(intOf v).toNat)
 case atStart=>exact⟨0,_,vZ _,rfl,rfl,by omega,by omega,by show _=_;rw[HZ.o];simp,jD _ _⟩
 obtain⟨k,q,hk,rfl,rfl,yf,oB,hq,BB⟩:=hrel;by_cases eI:k<L
 rotate_left 1
 ·exact Qu
 obtain⟨s,b,off,hs,hm,rfl,hb,⟨a1,a2,c1,c2,eL⟩,tf,hle⟩:=HG.o k eI;have⟨g0,g1',Cy,g3',BO,Rk⟩:=eL _ BB.o;have K:=zH (adf s a1 a2 c1 c2 q wr (HO.o s hm) yf oB (BO.up BB.o.size) (Rk.up BB.o.size));generalize Pl.ba s.nm=nm,s.code.length=l1,s.gs.length=l2,s.k=kk at *;have wN:=zH tf;have HQ:=zH (show q-wT s=l-L-(((c.take (k+1)).map wT).sum:Nat) by rw[wN.o,hq.o];omega);have Fq:=zH (show (((c.take (k+1)).map wT).sum)<=T from hle);by_cases g1:q<wT s
 ·have HR:=zH (show r=-1 by
   have:=Fq.o;have:=HQ.o;rw[HV.o,eD oM])
  have E:Hid (Pl.sb q (wT s)=-1):=by show _=_;unfold Pl.sb;rw[eD g1]
  rw[E.o] at K;generalize wT s=ws at *;go_wp2_with (go_at_call 18;refine K.o.mono ?_;rintro e w2 ⟨rfl,hb2⟩)
  exact O8
 have E:Hid (Pl.sb q (wT s)=q-wT s):=by show _=_;unfold Pl.sb;rw[eB g1]
 rw[E.o] at K;generalize wT s=ws at *;have g2:¬(q-(ws:Int)<0):=oM;go_wp2_with (go_at_call 18;refine K.o.mono ?_;rintro e w2 ⟨rfl,hb2⟩)
 exact Ψ
end Go.Proofs.YtiagfejlmafliaaGreatDoor
