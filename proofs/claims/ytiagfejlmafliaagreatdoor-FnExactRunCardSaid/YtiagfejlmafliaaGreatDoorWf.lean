import Derived.Test.YtiagfejlmafliaaGreatDoorNst
import Derived.Test.YtiagfejlmafliaaGreatDoorVx
import Derived.Test.YtiagfejlmafliaaGreatDoorUh
namespace Go.Proofs.YtiagfejlmafliaaGreatDoor.Pl
set_option linter.all false
open Go.Proofs.Tryz Pl
set_option maxHeartbeats 16000000
open World renaming setCell->ez,alloc->ew
open List renaming range->eA,replicate->eE
open Option renaming some->a_,none->c_
open Bool renaming true->b_,false->d_
variable {sh row da l db:lI}{a b:Ar}{op m:Int}
def Gd:Except Int Ar->Prop
 |.ok a=>okB a=b_
 |.error c=>¬c=0
def qO{d:lI}(hf:fy sh=b_)(hl:(d.length:Int)=eR sh)(hv:∀x∈d,fB x=b_):okB (sh,d)=b_:=by
 simp only[okB,fO,fQ,ga];exact⟨⟨hf,hl⟩,hv⟩
def lU(h:okB a=b_):∀x∈a.2,fB x=b_:=ga.1 (ok_eq h).2.2.1
def zh{r:Except Int (lI)}(hf:fy sh=b_)(hk:∀d,r=.ok d->(d.length:Int)=eR sh/\∀x∈d,fB x=b_)(he:∀c,r=.error c->¬c=0):Gd (wS sh r):=by
 cases r with
 |error c=>exact he c rfl
 |ok d=>exact qO hf (hk d rfl).1 (hk d rfl).2
def xa{α β:Type}{F:α->Except Int β}{c:Int}:∀{l:List α},eU F l=.error c->∃x∈l,F x=.error c
 |[],h=>by cases h
 |x::l,h=>by
  simp only[eU] at h
  cases hx:F x with
  |error c'=>rw[hx] at h;injection h with h;subst h;exact⟨x,sI,hx⟩
  |ok y =>
   rw[hx] at h
   cases hl:eU F l with
   |error c'=>rw[hl] at h;injection h with h;subst h;have⟨z,hz,e⟩:=xa hl;exact⟨z,by simp[hz],e⟩
   |ok r=>rw[hl] at h;cases h
def WB(op:Int)(h:okB a=b_):Gd (qQ op a):=by
 unfold qQ;split
 ·exact xp
 refine zh (ok_eq h).1 (λd e=>⟨by rw[qK e];exact(ok_eq h).2.1,qL e λx hx y hy=>aht (lU h x hx) hy⟩) λc e=>?_;have⟨x,_,e⟩:=xa e;exact Xe e
def QH(ho:fN op=b_)(h:okB a=b_)(h':okB b=b_):Gd (el (two op) a b):=by
 unfold el;split
 ·next h0 =>
  have⟨x,_,e,hx⟩:=ok_one h h0;rw[e];refine zh (ok_eq h').1 (λd e=>⟨by rw[qK e];exact(ok_eq h').2.1,qL e λy hy z hz=>w_ ho hx (lU h' y hy) hz⟩) λc e=>?_;have⟨x,_,e⟩:=xa e;exact AH e
 split
 ·next h0 =>
  have⟨x,_,e,hx⟩:=ok_one h' h0;rw[e];refine zh (ok_eq h).1 (λd e=>⟨by rw[qK e];exact(ok_eq h).2.1,qL e λy hy z hz=>w_ ho (lU h y hy) hx hz⟩) λc e=>?_;have⟨x,_,e⟩:=xa e;exact AH e
 split
 ·exact xn
 split
 ·show ¬(3:Int)=0;decide
 next hs =>
 have hs:a.1=b.1:=Classical.not_not.1 hs;refine zh (ok_eq h).1 (λd e=>⟨?_,qL e λp hp z hz=>?_⟩) λc e=>C' e
 ·have h1:=(ok_eq h).2.1
  have h2:=(ok_eq h').2.1;rw[<- hs] at h2;rw[qK e,zu];omega
 have:=DJ hp;exact w_ ho (lU h _ this.1) (lU h' _ this.2) hz
def WA(op:Int)(h:okB a=b_)(h':okB b=b_):Gd (sU op a b):=by
 unfold sU;split
 ·next ho=>exact QH ho h h'
 exact xp
def aar(ho:fN op=b_){s:Nat}:∀{r:Nat}{acc z:lI},okB (row,acc)=b_->(∀k,k<r->okB (row,rowAt da s k)=b_)->fd (two op) da s r acc=.ok z->okB (row,z)=b_
 |0,acc,z,h,hr,e=>by injection e with e;rw[<- e];exact h
 |r+1,acc,z,h,hr,e=>by
  simp only[fd] at e
  cases hm:eU (jK (two op)) ((rowAt da s r).zip acc) with
  |error c=>rw[hm] at e;cases e
  |ok acc'=>rw[hm] at e;exact aar ho (Xo ho (hr r oM) h hm) (λk hk=>hr k oM) e
def ahw(op:Int):fB (iR op)=b_:=by
 unfold iR;repeat' split
 all_goals decide
def Ds(ho:fN op=b_)(h:okB a=b_):Gd (red op a):=by
 obtain⟨sh,da⟩:=a;unfold red
 cases sh with
 |nil=>exact h
 |cons m row =>
  simp only;split
  ·split
   ·show ¬(1:Int)=0;decide
   split
   ·next hf=>exact OI hf (ahw op)
   exact uo
  next hm =>
  obtain⟨n,rfl,hn,hb,hf,hp,hl,eN⟩:=ke h;have hn0:0<n:=oM;have hR:=λk (hk:k<n)=>Nx h (n:=n) (r:=k) rfl hk;refine zh (hf hn0) (λd e=>?_) λc e=>Hu e;have:=aar (r:=n-1) ho (hR (n-1) oM) (λk hk=>hR k oM) (by simpa[fold] using e);exact⟨(ok_eq this).2.1,lU this⟩
def VI(op:Int)(h:okB a=b_):Gd (reduce op a):=by
 unfold reduce;split
 ·next ho=>exact Ds ho h
 exact xp
def Xy(op:Int)(h:okB a=b_):Gd (scan op a):=by
 unfold scan;split
 rotate_left 1
 ·exact xp
 next ho =>
 obtain⟨sh,da⟩:=a;unfold uJ
 cases sh with
 |nil=>exact h
 |cons m row =>
  obtain⟨n,rfl,hn,hb,hf,hp,hl,eN⟩:=ke h;simp only[qp];have key:∀k,k<n->∀z,fold (two op) (da.take ((k+1) * eQ row)) (eQ row) (k+1)=.ok z->okB (row,z)=b_:=λk hk z e=>by
   have h1:=(Ny h (n:=n) (k:=k+1) rfl oM oM).1;have h2:=Ds ho h1;unfold red at h2;simp only at h2;rw[eB oM] at h2;simp only[qp] at h2;rw[e] at h2;exact h2
  cases hm:eU (λk=>fold (two op) (da.take ((k+1) * eQ row)) (eQ row) (k+1)) (eA n) with
  |error c =>
   obtain⟨k,hk,e⟩:=xa hm;exact Hu (by simpa[fold] using e)
  |ok ds =>
   have hA:∀d∈ds,okB (row,d)=b_:=qL hm λk hk z hz=>key k (qV.1 hk) z hz;have hL:ds.length=n:=by rw[qK hm];simp
   have hF:=ub (s:=eQ row) (ds:=ds) λd hd=>by have:=(ok_eq (hA d hd)).2.1;simp only at this;simp[eQ,<- this]
   rw[hL] at hF;refine qO (ok_eq h).1 ?_ λx hx=>?_
   ·have:=(ok_eq h).2.1
    simp only at this;rw[hF,<- hl];exact this
   have⟨d,hd,hx⟩:=Ir.1 hx;exact lU (hA d hd) x hx
def AF(h:∀x∈l,fB x=b_)(k:Nat):fB (l.getD k 0)=b_:=by
 rw[ig]
 cases e:l[k]? with
 |none=>decide
 |some x=>exact h x (my e)
def ahG{sa sb:lI}(ha:(da.length:Int)=eR sa)(hb:(db.length:Int)=eR sb):((da.length * db.length:Nat):Int)=eR (sa++sb):=by rw[yR,<- ha,<- hb];simp
def Wv(op:Int)(h:okB a=b_)(h':okB b=b_):Gd (outer op a b):=by
 unfold outer;split
 ·next ho =>
  split
  ·next hf =>
   refine zh hf (λd e=>⟨?_,qL e λi hi z hz=>w_ ho (AF (lU h) _) (AF (lU h') _) hz⟩) λc e=>?_
   ·rw[qK e,ux]
    exact ahG (ok_eq h).2.1 (ok_eq h').2.1
   have⟨x,_,e⟩:=xa e;exact AH e
  exact uo
 exact xp
def Xx{x:Int}(h:jc x=b_):fB x=b_:=by have:=rM h;exact rN oM oM
def WG{n:Int}(h0:0<=n)(h1:n<=1000):fy [n]=b_:=by simp[fy,gV,jc,eR,h0,h1]
def W_(n:Int):eR [n]=n:=by simp[eR]
def xj(h:l.length<=1000)(hv:∀x∈l,fB x=b_):okB ([(l.length:Int)],l)=b_:=qO (WG oM oM) (by rw[W_]) hv
def ahV(h:okB a=b_):Gd (iota a):=by
 unfold iota;split
 ·exact xn
 split
 ·show ¬(1:Int)=0;decide
 split
 ·exact uo
 next h0 h1 =>
 generalize a.2.getD 0 0=z at *;refine qO (WG oM oM) (by rw[W_];simp;omega) λx hx=>?_;simp only[mu,qV] at hx;obtain⟨k,hk,rfl⟩:=hx;exact rN (by simp only[Int.ofNat_eq_natCast];omega) (by simp only[Int.ofNat_eq_natCast];omega)
def af3(h:okB a=b_):okB ([(a.1.length:Int)],a.1)=b_:=xj (by have:=(ok_eq h).2.2.2.1;omega) λx hx=>Xx (ga.1 (g_ (ok_eq h).1).2.2.2.2.1 x hx)
def af4(h:okB a=b_):okB ([(a.2.length:Int)],a.2)=b_:=xj (ok_eq h).2.2.2.2 (lU h)
def OH{x:Int}(h:fB x=b_):okB ([],[x])=b_:=qO dC (by simp[eR]) (by simpa using h)
def aia(h:okB a=b_):fB (u_ a)=b_:=by
 obtain⟨sh,da⟩:=a;unfold u_
 cases sh with
 |nil=>show fB 1=b_;decide
 |cons m row=>exact Xx (ga.1 (g_ (ok_eq h).1).2.2.2.2.1 m sI)
def Gu(h:∀x∈da,fB x=b_)(s r:Nat):∀x∈rowAt da s r,fB x=b_:=ga.1 (C8 (ga.2 h))
def alG(h:okB a=b_):okB (rev a)=b_:=by
 obtain⟨sh,da⟩:=a;unfold rev
 cases sh with
 |nil=>exact h
 |cons m row =>
  obtain⟨n,rfl,hn,hb,hf,hp,hl,eN⟩:=ke h;refine qO (ok_eq h).1 ?_ λx hx=>?_
  ·rw[ub (s:=eQ row) λd hd=>?_]
   ·simp only[qU,ux,qp]
    rw[<- hl];exact(ok_eq h).2.1
   simp only[mu,qV,qp] at hd;obtain⟨i,hi,rfl⟩:=hd;exact rK (by simp only[hl];exact gv _ oM)
  have⟨d,hd,hx⟩:=Ir.1 hx;simp only[mu] at hd;obtain⟨i,hi,rfl⟩:=hd;exact Gu (lU h) _ _ x hx
def Nj:∀l:lI,eR l.reverse=eR l
 |[]=>rfl
 |x::l=>by rw[xF,M_,Nj l,oF,Int.mul_comm]
def agz(h:fy l=b_):fy l.reverse=b_:=by
 have e:=g_ h;simp only[fy,gV,fO,fQ,ld,Nj,List.all_reverse];exact⟨⟨e.2.2.2.1,e.2.2.2.2.1⟩,e.2.2.1⟩
def ahv(h:okB a=b_):okB (flip a)=b_:=by
 refine qO (agz (ok_eq h).1) (by simp only[qU,ux,Nj];exact(ok_eq h).2.1) λx hx=>?_;simp only[mu] at hx;obtain⟨i,hi,rfl⟩:=hx;exact AF (lU h) _
def af5(k:Int->Int){n:Nat}(h:n<=1000):okB ([(n:Int)],im k 0 n)=b_:=by
 have:=xj (l:=im k 0 n) (by rw[Xr];exact h) λx hx=>by have:=N6 hx;exact rN oM oM
 rwa [Xr] at this
def ahU(h:okB a=b_)(h':okB b=b_):Gd (td a b):=by
 unfold td;split
 ·exact xn
 split
 ·exact uo
 split
 ·show ¬(1:Int)=0;decide
 split
 ·exact uo
 split
 ·show ¬(3:Int)=0;decide
 next hf _ =>
 have hf:fy a.2=b_:=by simpa using hf
 refine qO hf (by simp[eQ,kl (g_ hf).2.1]) λx hx=>?_;simp only[mu] at hx;obtain⟨i,hi,rfl⟩:=hx;exact AF (lU h') _
def aiy(h:∀x∈db,fB x=b_)(s:Nat)(k:Int):∀x∈s_ m db s k,fB x=b_:=by
 unfold s_;split
 ·exact Gu h _ _
 intro x hx;rw[(List.mem_replicate.1 hx).2];decide
def ahT(h:okB (m::row,db)=b_){i j:Int}(hij:i<=j):Gd (span m row db i j):=by
 unfold span;split
 ·exact uo
 split
 rotate_left 1
 ·exact uo
 next hf =>
 obtain⟨n,rfl,hn,hb,Ta,hp,hl,eN⟩:=ke h;refine qO hf ?_ λx hx=>?_
 ·rw[ub (s:=eQ row) λd hd=>by
   simp only[gq,mu] at hd;obtain⟨t,ht,rfl⟩:=hd;exact Gc hl _]
  simp only[gq,qU,ux,oF];simp[eQ,kl hp,kl (show 0<=j-i by omega)]
 have⟨d,hd,hx⟩:=Ir.1 hx;simp only[gq,mu] at hd;obtain⟨t,ht,rfl⟩:=hd;exact aiy (lU h) _ _ x hx
def ahS(f:Int)(h:okB a=b_)(h':okB b=b_):Gd (take f a b):=by
 unfold take;split
 ·exact xn
 obtain⟨ok,m,row,e⟩:=vy h';generalize iw b=q at *;obtain⟨sh,db⟩:=q;obtain rfl:sh=m::row:=e;obtain⟨n,rfl,hn,-⟩:=ke ok;simp only;repeat' split
 all_goals exact ahT ok oM
def ahX(h:okB a=b_)(h':okB b=b_):Gd (from_ a b):=by
 obtain⟨sb,db⟩:=b;unfold from_
 cases sb with
 |nil=>show ¬(2:Int)=0;decide
 |cons m row =>
  simp only;split
  rotate_left 1
  ·exact uo
  next hf =>
  obtain⟨n,rfl,hn,hb,Ta,hp,hl,eN⟩:=ke h'
  cases hm:eU (qY (n:Int) db (eQ row)) a.2 with
  |error c =>
   have⟨x,_,e⟩:=xa hm;unfold qY at e;split at e
   ·injection e with e;subst e;show ¬(4:Int)=0;decide
   cases e
  |ok ds =>
   have hA:∀d∈ds,d.length=eQ row/\∀x∈d,fB x=b_:=qL hm λi hi z hz=>by
    unfold qY at hz;split at hz
    ·cases hz
    next hi =>
    injection hz with hz;subst hz;exact⟨rK (by rw[hl];exact gv _ oM),Gu (lU h') _ _⟩
   refine qO hf ?_ λx hx=>?_
   ·rw[ub λd hd=>(hA d hd).1,qK hm,yR,<- (ok_eq h).2.1]
    simp[eQ,kl hp]
   have⟨d,hd,hx⟩:=Ir.1 hx;exact(hA d hd).2 x hx
def ZK(l:lI)(v:Int):∀k,pS l v k<=l.length
 |0=>jR _
 |k+1=>by
  rw[pS];split
  ·omega
  exact ZK l v k
def find(a b:Ar):Except Int Ar:=if ¬a.1.length=1 then .error 2 else .ok (b.1,b.2.map (mN a.2))
def ahY(h:okB a=b_)(h':okB b=b_):Gd (find a b):=by
 unfold find;split
 ·exact xn
 refine qO (ok_eq h').1 (by rw[qU];exact(ok_eq h').2.1) λx hx=>?_;simp only[mu] at hx;obtain⟨v,hv,rfl⟩:=hx;have:=ZK a.2 v a.2.length;have:=(ok_eq h).2.2.2.2;exact rN (by unfold mN;omega) (by unfold mN;omega)
def B_(a b:Ar):Ar:=([],[nW (decide (a.1=b.1) && decide (a.2=b.2))])
def alH(a b:Ar):okB (B_ a b)=b_:=OH (by have:=xq (decide (a.1=b.1) && decide (a.2=b.2));exact rN oM oM)
def pH(a b:Ar):Except Int Ar:=if ¬a.1.length=b.1.length then .error 2 else if ¬a.1.tail=b.1.tail then .error 3 else if fy ((a.1.headD 0+b.1.headD 0)::a.1.tail)=b_ then .ok ((a.1.headD 0+b.1.headD 0)::a.1.tail,a.2++b.2) else .error 6
def kL(a b:Ar):Ar:=if b.1.length=a.1.length+1 then (1::a.1,a.2) else a
def cat(a b:Ar):Except Int Ar:=pH (kL (iw a) (iw b)) (kL (iw b) (iw a))
def AG(h:okB a=b_):((iw a).2.length:Int)=eR (iw a).1/\(∀x∈(iw a).2,fB x=b_)/\∃m row,(iw a).1=m::row/\row.length<=2/\0<=m/\m<=1000:=by
 obtain⟨ok,m,row,e⟩:=vy h;refine⟨(ok_eq ok).2.1,lU ok,m,row,e,?_⟩;generalize iw a=q at *;obtain⟨sh,da⟩:=q;obtain rfl:sh=m::row:=e;obtain⟨n,rfl,hn,-,-,-,-,hr⟩:=ke ok;omega
def WU(h:(a.2.length:Int)=eR a.1):((kL a b).2.length:Int)=eR (kL a b).1:=by
 unfold kL;split
 ·rw[oF,Iq];exact h
 exact h
def WT(a b:Ar):(kL a b).2=a.2:=by unfold kL;split <;> rfl
def V_(b:Ar)(h:a.1=m::row):∃m' aaI,(kL a b).1=m'::aaI/\(m'=1\/m'=m):=by
 unfold kL;split
 ·exact⟨_,_,rfl,.inl rfl⟩
 exact⟨_,_,h,.inr rfl⟩
def alX(h:okB a=b_)(h':okB b=b_):Gd (cat a b):=by
 obtain⟨l1,v1,m1,r1,e1,k1,-⟩:=AG h;obtain⟨l2,v2,m2,r2,e2,k2,-⟩:=AG h';unfold cat pH;split
 ·exact xn
 split
 ·show ¬(3:Int)=0;decide
 split
 rotate_left 1
 ·exact uo
 next ht hf =>
 have ht:=Classical.not_not.1 ht;refine qO hf ?_ λx hx=>?_
 ·obtain⟨m,row,e,-⟩:=V_ (iw b) e1
  obtain⟨m',aaI,e',-⟩:=V_ (iw a) e2;have p1:=WU (b:=iw b) l1;have p2:=WU (b:=iw a) l2;rw[e,e'] at ht;rw[e] at p1 ⊢;rw[e'] at p2 ⊢;simp only[List.tail_cons,List.headD_cons,oF] at ht p1 p2 ⊢;subst ht;rw[hJ,Int.add_mul];omega
 rcases zq.1 hx with hx|hx
 ·rw[WT] at hx;exact v1 x hx
 rw[WT] at hx;exact v2 x hx
def uD(f g:Int)(x y:lI):Except Int Int:=match eU (jK (two g)) (x.zip y) with
 |.error c=>.error c
 |.ok z=>match red f ([(z.length:Int)],z) with
  |.error c=>.error c
  |.ok r=>.ok (r.2.getD 0 0)
def rP(db:lI)(t n k:Nat):lI:=(eA n).map λm=>db.getD (m * t+k) 0
def mC(f g:Int)(a b:Ar):Except Int Ar:=match a.1.reverse,b.1 with
 |n::ra,m::row=>if ¬n=m then .error 3 else if fy (ra.reverse++row)=b_ then wS (ra.reverse++row) (eU (λi=>uD f g (rowAt a.2 m.toNat (i / eQ row)) (rP b.2 (eQ row) m.toNat (i % eQ row))) (eA (eQ ra.reverse * eQ row))) else .error 6
 |_,_=>.error 2
def inner(f g:Int)(a b:Ar):Except Int Ar:=if fN f=b_/\fN g=b_ then mC f g a b else .error 9
def ahW{f g:Int}(hf:fN f=b_)(hg:fN g=b_){x y:lI}(hx:∀v∈x,fB v=b_)(hy:∀v∈y,fB v=b_)(hl:x.length<=1000):match uD f g x y with
  |.error c=>¬c=0
  |.ok v=>fB v=b_:=by
 unfold uD
 cases hm:eU (jK (two g)) (x.zip y) with
 |error c=>exact C' hm
 |ok z =>
  have hz:okB ([(z.length:Int)],z)=b_:=xj (by rw[qK hm,zu];omega) (qL hm λp hp v hv=>by have:=DJ hp;exact w_ hg (hx _ this.1) (hy _ this.2) hv);have:=Ds hf hz;simp only
  cases hr:red f ([(z.length:Int)],z) with
  |error c=>rw[hr] at this;exact this
  |ok r=>rw[hr] at this;exact AF (lU this) 0
def Oe(h:∀x∈db,fB x=b_)(t n k:Nat):∀x∈rP db t n k,fB x=b_:=λx hx=>by
 simp only[rP,mu] at hx;obtain⟨m,hm,rfl⟩:=hx;exact AF h _
def Wx(f g:Int)(h:okB a=b_)(h':okB b=b_):Gd (inner f g a b):=by
 unfold inner;split
 rotate_left 1
 ·exact xp
 next ho =>
 unfold mC;split
 rotate_left 1
 ·exact xn
 next n ra m row e1 e2 =>
 split
 ·show ¬(3:Int)=0;decide
 split
 rotate_left 1
 ·exact uo
 next hf =>
 have hfe:=g_ hf;have ek:a.1=ra.reverse++[n]:=by rw[<- zp a.1,e1,xF]
 have ya:∀i,(rowAt a.2 m.toNat i).length<=1000:=λi=>by
  unfold rowAt;rw[jH,qX];have:=(ok_eq h).2.2.2.2;omega
 have nn:∀x∈ra.reverse++row,0<=x:=λx hx=>(rM (ga.1 hfe.2.2.2.2.1 x hx)).1;refine zh hf (λd e=>⟨?_,qL e λi hi z hz=>?_⟩) λc e=>?_
 ·rw[qK e,ux,yR]
  simp[eQ,kl (AD λx hx=>nn x (List.mem_append_left _ hx)),kl (AD λx hx=>nn x (List.mem_append_right _ hx))]
 ·exact ZG
 have⟨i,_,hz⟩:=xa e;exact ZG
def rO(f:Int)(a:Ar):Except Int Ar:=if f=1 then iota a else if f=2 then .ok ([(a.1.length:Int)],a.1) else if f=3 then .ok ([(a.2.length:Int)],a.2) else if f=4 then .ok (rev a) else if f=5 then .ok (flip a)
 else if f=6 then (if a.1.length=1 then .ok ([(a.2.length:Int)],im (mW a.2) 0 a.2.length) else .error 2) else if f=7 then .ok ([],[u_ a]) else .error 9
def rY(f:Int)(a b:Ar):Except Int Ar:=if f=1 then td a b else if f=2\/f=3 then take f a b else if f=4 then cat a b else if f=5 then from_ a b else if f=6 then find a b else if f=7 then .ok (B_ a b) else .error 9
def Ww(f:Int)(h:okB a=b_):Gd (rO f a):=by
 unfold rO;split
 ·exact ahV h
 split
 ·exact af3 h
 split
 ·exact af4 h
 split
 ·exact alG h
 split
 ·exact ahv h
 split
 ·split
  ·exact af5 _ (ok_eq h).2.2.2.2
  exact xn
 split
 ·exact OH (aia h)
 exact xp
def Xz(f:Int)(h:okB a=b_)(h':okB b=b_):Gd (rY f a b):=by
 unfold rY;split
 ·exact ahU h h'
 split
 ·exact ahS f h h'
 split
 ·exact alX h h'
 split
 ·exact ahX h h'
 split
 ·exact ahY h h'
 split
 ·exact alH a b
 exact xp
end Go.Proofs.YtiagfejlmafliaaGreatDoor.Pl
namespace Go.Proofs.YtiagfejlmafliaaGreatDoor
set_option linter.all false
open Go.Proofs.Tryz Pl
open Go.RowKit
set_option maxRecDepth 100000
set_option maxHeartbeats 16000000
open Pl (Ar)
open World renaming setCell->ez,alloc->ew
open List renaming range->eA,replicate->eE
open Option renaming some->a_,none->c_
open Bool renaming true->b_,false->d_
variable {ρ:Prop}
section
def aaJ(w:Wd)(c:Obj)(z:Int):Oi (w.1.size+1) ((w.alloc c).alloc (.cells #[I z] 3)) (sX (sY (w.1.size+1) 0) 1 1) [z]:=by
 have o:=Oi.one (B:=w.1.size+1) (w:=w.alloc c) sI z;rwa [show (w.alloc c).1.size=w.1.size+1 by simp] at o
def Aw(w:Wd)(x:oA)(n y:Nat)(hn:n<=1048576):Cp 160 #[sX x n y] w λe w'=>Bl w w'/\e=rT (.agg #[sX (sY (w.1.size+1) 0) 1 1,sX x n y])/\Oi (w.1.size+1) w' (sX (sY (w.1.size+1) 0) 1 1) [(n:Int)]:=by
 go_enter func160,ntmps160;go_wp2;refine eJ (by simp[results,results160,go_sem];try rfl) rfl ?_;exact⟨gG,rfl,aaJ _ _ _⟩
def U5(w:Wd)(z:Int):Cp 159 #[I z] w λe w'=>Bl w w'/\e=rT (.agg #[nJ,sX (sY (w.1.size+1) 0) 1 1])/\Oi (w.1.size+1) w' (sX (sY (w.1.size+1) 0) 1 1) [z]:=by
 go_enter func159,ntmps159;go_wp2;refine eJ (by simp[results,results159,go_sem];try rfl) rfl ?_;exact⟨gG,rfl,aaJ _ _ _⟩
namespace Pl
def WY{op:Int}{n:Int}{z:lI}{r:Ar}(h:red op ([n],z)=.ok r):r.1=[]:=by
 unfold red at h;simp only at h;split at h
 ·split at h
  ·cases h
  split at h
  ·injection h with h;rw[<- h]
  cases h
 cases hf:fold (two op) z (eQ []) n.toNat with
 |error c=>rw[hf] at h;cases h
 |ok d=>rw[hf] at h;injection h with h;rw[<- h]
structure InF(fL:lI)(m t:Nat)(row da db:lI)(H N:Nat):Prop where
 m1:m<=1000
 t1:t<=1000000000
 tt:eR row=(t:Int)
 br:gV row=b_
 hp:eR fL=(H:Int)
 la:da.length=H * m
 lb:db.length=m * t
 ll:da.length<=1000/\db.length<=1000
 nn:N=H * t
 pn:eR (fL++row)=(N:Int)
def inF{fL row da db:lI}{m:Int}(ha:okB (fL++[m],da)=b_)(hb:okB (m::row,db)=b_):∃k t H N,m=(k:Nat)/\eQ row=t/\eQ fL=H/\InF fL k t row da db H N:=by
 obtain⟨k,rfl,hk,qD,-,hp,hl,-⟩:=ke hb;have ea:=ok_eq ha;have fa:=g_ ea.1;have nn:∀x∈fL,0<=x:=λx hx=>(rM (ga.1 fa.2.2.2.2.1 x Jl)).1;have hi:=AD nn;have e1:=ea.2.1;simp only[M_] at e1;have h1:((eQ fL:Nat):Int)=eR fL:=by simp[eQ,kl hi]
 have h2:((eQ row:Nat):Int)=eR row:=by simp[eQ,kl hp]
 have tb:=(uc row qD).1.2;refine⟨k,eQ row,eQ fL,eQ fL * eQ row,rfl,rfl,rfl,hk,oM,h2.symm,qD,h1.symm,?_,hl,⟨ea.2.2.2.2,(ok_eq hb).2.2.2.2⟩,rfl,?_⟩
 ·rw[<- h1] at e1
  have:((eQ fL * k:Nat):Int)=(eQ fL:Int) * (k:Int):=sI;omega
 rw[yR,<- h1,<- h2];simp
end Pl
def TO{w W:Wd}{c0 c1 c2 c3 c4:aV}{t0 t1 t2 t3 t4:TypeId}(h:((((w.alloc (.cells c0 t0)).alloc (.cells c1 t1)).alloc (.cells c2 t2)).alloc (.cells c3 t3)).alloc (.cells c4 t4)=W):Hid (Bx W w.1.size c0 t0/\Bx W (w.1.size+1) c1 t1/\Bx W (w.1.size+1+1) c2 t2/\Bx W (w.1.size+1+1+1) c3 t3/\Bx W (w.1.size+1+1+1+1) c4 t4/\Bl w W/\W.1.size=w.1.size+1+1+1+1+1):=by
 subst h;exact⟨.al (.al (.al (.al (.eK rfl) _) _) _) _,.al (.al (.al (.eK sI) _) _) _,.al (.al (.eK sI) _) _,.al (.eK sI) _,.eK sI,gG,sI⟩
def D4{o:Oper}{a:Act}{w:Wd}{x x':Operand}{p p':oA}{n y n' y':Nat}(ho:o.op=Op.buildSlice 179 2 #[(0,x),(1,x')])(hx:a.eval x=sX p n y)(R_:a.eval x'=sX p' n' y'):(execOp a.eval o).run prog w=.ok (.value (sX (sY w.1.size 0) 2 2)) (w.alloc (.cells #[sX p n y,sX p' n' y'] 23)):=by
 have:(Instr.buildSlice 179 2 #[(0,sX p n y),(1,sX p' n' y')]).run prog w=.ok (sX (sY w.1.size 0) 2 2) (w.alloc (.cells #[sX p n y,sX p' n' y'] 23)):=by go_simp
 simp[execOp,ho,hx,R_,this,Result.andThen]
section
variable {P:nK} {w:Wd}
def ajC.Ok(h:ρ:=by
 exact⟨rfl,KP.err (J.o _ (jD _ _)).2.2.2.2.2.1⟩
 ):ρ:=h
def aiM.X8(h:ρ:=by
 obtain⟨c3,f3,z3⟩:=(V0.o.2.2.2.1.below hb).all;clear hb f3;go_wp2_with fail;refine(SB.o w1 BW.o).k λw2 hb=>?_;replace BW:=zH (bv hb BW.o);clear hb c3 z3;exact O_
 ):ρ:=h
def aiL.X8(h:ρ:=by
 clear hb;exact O_
 ):ρ:=h
def amN.lH(h:ρ:=by
 have SA:=zH λW (kb:Bl w W)=>wV _ _ a.1 (h.1.rw.kp (.of kb)) (rfl:Value.slice x1 a.2.length y1=_);have SB:=zH λW (kb:Bl w W)=>wV _ _ b.1 (h'.1.rw.kp (.of kb)) (rfl:Value.slice x3 b.2.length y3=_);have⟨r,HR⟩:∃r,Hid (r=Pl.mC f g a b):=⟨_,rfl⟩;rw[<- HR.o];have va:=(Pl.ok_eq ha).2.2.1;have vb:=(Pl.ok_eq hb).2.2.1;have VA:=zH va;have VB:=zH vb;clear h h' ha hb va vb;obtain⟨sa,da⟩:=a;obtain⟨sb,db⟩:=b;simp only at H H' SA SB VA VB ⊢;obtain⟨p1,E1⟩:=jN (da.length);have⟨p3,E3⟩:=jN (db.length);rw[E1.o] at H SA ⊢;rw[E3.o] at H' SB ⊢;by_cases mD:sa=[]
 ·have hr:r=.error 2:=by rw[HR.o,mD];rfl
  subst hr;rw[fM mD] at SA;generalize sa.length=p0,sb.length=p2 at *;clear SB HR mD;open aiL in exact YM
 rw[fH mD] at SA;by_cases nj:sb=[]
 ·have hr:r=.error 2:=by rw[HR.o,nj,Pl.mC];cases hc:sa.reverse <;> rfl
  subst hr;rw[fM nj] at SB;generalize sa.length=p0,sb.length=p2 at *;clear HR mD nj;open aiM in exact YM
 rw[fH nj] at SB;obtain⟨fL,n,rfl⟩:∃fL n,sa=fL++[n]:=⟨sa.dropLast,sa.getLast mD,(ZZ mD).symm⟩;obtain⟨m,row,rfl⟩:∃m row,sb=m::row:=by cases sb with
  |nil=>exact absurd rfl nj
  |cons m row=>exact⟨m,row,rfl⟩
 have eP:Hid (r=if ¬n=m then .error 3 else if Pl.fy (fL++row)=b_ then Pl.wS (fL++row) (Pl.eU (λi=>Pl.uD f g (Pl.rowAt da m.toNat (i / Pl.eQ row)) (Pl.rP db (Pl.eQ row) m.toNat (i % Pl.eQ row))) (eA (Pl.eQ fL * Pl.eQ row))) else .error 6):=by
  exact Y4
 have⟨p0,E0⟩:=jN (fL.length);have⟨p2,E2⟩:=jN (row.length);have H0:=zH (H.o.1.cut (l:=0) (h:=p0) (vZ _) (by simp[E0.o]));have e0:((fL++[n]).drop 0).take (p0-0)=fL:=by rw[vK,mw,<- E0.o];simp
 rw[e0] at H0;have H2:=zH H'.o.1.tl;have kv:=H.o.1.cap.1;simp only[hJ,fW,iA] at H SA H0 kv ⊢;simp only[fW] at H' SB H2 ⊢;rw[E0.o] at H SA kv ⊢;rw[E2.o] at H' SB H2 ⊢;rw[gY] at H SA kv ⊢;rw[show p2+1-1=p2 by omega] at H2;rw[mw,mw] at H0;obtain⟨b0,o0,rfl,kE,hc0⟩:=H.o.1.rw.at (i:=p0) (v:=n) (by rw[<- E0.o];simp);obtain⟨b2,o2,rfl,hb2,jC⟩:=H'.o.1.rw.at (i:=0) rfl;rw[iz] at jC;have CH:=zH λW=>DV (w:=W) (x:=sY b0 o0) (n:=p0+1) (y:=y0) (h:=p0) oM;have CL:=zH λW=>mO (w:=W) (x:=sY b2 o2) (n:=p2+1) (y:=y2) (l:=1) oM;simp only[mw,Py] at CH CL;have la:p0<=2:=by have:=(Pl.ok_eq HA.o).2.2.2.1;simp[E0.o] at this;omega
 have lb:p2<=2:=by have:=(Pl.ok_eq HB.o).2.2.2.1;simp[E2.o] at this;omega
 generalize fU (sY b0 o0) 0 y0=xh,fU (sY b2 o2) 1 y2=xl,y2-1=yl at *;clear HR mD nj e0 kv;go_enter func220,ntmps220;go_wp2_with fail;generalize hW:ew (ew (ew (ew (ew w _) _) _) _) _=W0;have V0:=TO hW;clear hW;refine(SA.o W0 V0.o.2.2.2.2.2.1).k λw1 hb=>?_;have BW:=zH (bv hb V0.o.2.2.2.2.2.1);have B1:=zH (show Bl W0 w1 from hb);obtain⟨c3,f3,z3⟩:=(V0.o.2.2.2.1.below hb).all;clear hb f3;go_wp2_with fail;refine(SB.o w1 BW.o).k λw2 hb=>?_;have J0:Hid (∀W,Bl w2 W->Bx W w.1.size (oh f) 244/\Bx W (w.1.size+1) (oh g) 244/\Bx W (w.1.size+1+1) #[sX (sY b0 o0) (p0+1) y0,sX x1 p1 y1] 30/\Bx W (w.1.size+1+1+1) #[sX (sY b2 o2) (p2+1) y2,sX x3 p3 y3] 30/\Bx W (w.1.size+1+1+1+1) nN 30/\Bl w W/\w.1.size+1+1+1+1<w2.1.size):=λW kk =>
  ⟨((V0.o.1.below B1.o).below hb).below kk,((V0.o.2.1.below B1.o).below hb).below kk,((V0.o.2.2.1.below B1.o).below hb).below kk,((V0.o.2.2.2.1.below B1.o).below hb).below kk,((V0.o.2.2.2.2.1.below B1.o).below hb).below kk,bv kk (bv hb BW.o),((V0.o.2.2.2.2.1.below B1.o).below hb).lt⟩
 clear hb c3 z3 V0 BW B1 SA SB;have⟨S0,S1,S2,S3,S4,S5,S6⟩:=J0.o w2 (jD _ _);obtain⟨c2,f2,z2⟩:=S2.all;obtain⟨c3,f3,z3⟩:=S3.all;have vY:=(S5.cell (p:=(Y b0 (o0+p0))) kE).trans hc0;have ry:=(S5.cell (p:=(Y b2 o2)) hb2).trans jC;have l0:b0<w2.1.size:=jL kE S5.size;have l2:b2<w2.1.size:=jL hb2 S5.size;clear f2 f3 S0 S1 S2 S3 S4 S5;by_cases qz:n=m
 rotate_left
 ·have hr:r=.error 3:=by rw[eP.o,eD qz]
  subst hr;have gu:(n != m)=b_:=by rw[iH];exact qz
  go_wp2_with (first | (go_at_call 229;with_reducible refine(kY _ _).mono ?_;rintro e w' ⟨rfl,rfl⟩) | (go_at_call 229;refine(iV _ _).mono ?_;rintro e w2 ⟨rfl,rfl⟩))
  exact⟨rfl,KP.err (J0.o _ (jD _ _)).2.2.2.2.2.1⟩
 subst qz;have gu:(n != n)=d_:=sI;rw[eB sI] at eP;obtain⟨k,tt,Hh,N,rfl,ht,hH,hF⟩:=inF HA.o HB.o;rw[ht,hH,qp] at eP;have HF:=zH hF;rw[<- hF.nn] at eP;have⟨F,HG⟩:∃F:Nat->Except Int Int,Hid (F=λi=>Pl.uD f g (Pl.rowAt da k (i / tt)) (Pl.rP db tt k (i % tt))):=⟨_,rfl⟩;rw[<- HG.o] at eP;clear hF ht hH;go_wp2_with (go_at_call 229;refine(iV _ _).mono ?_;rintro e w2 ⟨rfl,rfl⟩)
 have EL:Hid ((fL++row).length=p0+p2):=by show _=_;rw[hJ,E0.o,E2.o]
 have S2:Hid (∀W,Bl w2 W->Bx W (w.1.size+1+1) #[sX (sY b0 o0) (p0+1) y0,sX x1 p1 y1] 30/\Bx W (w.1.size+1+1+1) #[sX (sY b2 o2) (p2+1) y2,sX x3 p3 y3] 30):=λW kk=>⟨(J0.o W kk).2.2.1,(J0.o W kk).2.2.2.1⟩;refine fT (S:=λW=>Bx W (w.1.size+1+1) #[sX (sY b0 o0) (p0+1) y0,sX x1 p1 y1] 30/\Bx W (w.1.size+1+1+1) #[sX (sY b2 o2) (p2+1) y2,sX x3 p3 y3] 30) kF (S2.o w2 (jD _ _)) (λhS=>?_);refine tk 0 (pT (w.1.size+1+1)) rfl hS (λ_ _=>kF) ?_;refine tk 1 _ rfl hS (λ_ h=>fh _ _ rfl kF (kC h.1)) ?_;refine tk 2 (I (p0:Int)) rfl hS (λ_ _=>kF) ?_;refine tk 3 (sX xh p0 y0) rfl hS (λW _=>AW rfl kF kF (CH.o W)) ?_;refine tk 4 (pT (w.1.size+1+1+1)) rfl hS (λ_ _=>kF) ?_;refine tk 5 _ rfl hS (λ_ h=>fh _ _ rfl kF (kC h.2)) ?_;refine tk 6 (sX xl p2 yl) rfl hS (λW _=>ie rfl kF kF (CL.o W)) ?_;have KD:Bl w2 w2.drew:=gG;have sD:=KD.size;clear hS c2 z2 c3 z3 vY ry;generalize w2.drew=Wd at *;have K7:Bl w2 (Wd.alloc (.cells #[sX xh p0 y0,sX xl p2 yl] 23)):=gG;refine tv 7 (sX (sY Wd.1.size 0) 2 2) _ rfl rfl (D4 rfl kF kF) (S2.o _ K7) ?_;have wR:=(J0.o _ K7).2.2.2.2.2.1;refine tc 8 91 #[sX (sY Wd.1.size 0) 2 2] rfl rfl kF ((xb EL.o oM sI J5 J5 (H0.o.rw.kp (.of wR)) (H2.o.rw.kp (.of wR))).mono ?_);rintro e B ⟨hb,ax,ay,rfl,oS⟩;have KB:=bv hb K7;have sW:=wR.size;have J:Hid (∀W,Bl B W->Bx W w.1.size (oh f) 244/\Bx W (w.1.size+1) (oh g) 244/\Bx W (w.1.size+1+1) #[sX (sY b0 o0) (p0+1) y0,sX x1 p1 y1] 30/\Bx W (w.1.size+1+1+1) #[sX (sY b2 o2) (p2+1) y2,sX x3 p3 y3] 30/\Bx W (w.1.size+1+1+1+1) nN 30/\Bl w W/\Oi w.1.size W (sX ax (p0+p2) ay) (fL++row)/\w.1.size+1+1+1+1<B.1.size):=λW kk=>by
  have⟨S0,S1,S2,S3,S4,S5,S6⟩:=J0.o W (bv kk KB);exact⟨S0,S1,S2,S3,S4,S5,(oS.base sW).kp (.of kk),by have:=KB.size;omega⟩
 have NF:=zH (yO (w:=B) _ (fL++row) oS.ri.rw);have KN:Hid (Pl.fy (fL++row)=b_->Cp 54 #[sX ax (p0+p2) ay] B λe w'=>e=rT (I (N:Int))/\w'=B):=λhf=>by
  have:=qJ _ oS.ri.rw (Pl.g_ hf).2.2.2.2.2;rw[HF.o.pn] at this;exact this
 have KT:Hid (Cp 54 #[sX xl p2 yl] B λe w'=>e=rT (I (tt:Int))/\w'=B):=by
  have:=qJ _ (H2.o.rw.kp (.of (J.o B (jD _ _)).2.2.2.2.2.1)) HF.o.br;rw[HF.o.tt] at this;exact this
 refine .inl ⟨_,rfl,S2.o _ KB,?_⟩;refine tk 9 (sX ax (p0+p2) ay) rfl (S2.o _ KB) (λ_ _=>kF) ?_;refine te ?_;have c3:=(J.o B (jD _ _)).2.2.2.1.cf.1;have z3:=(J.o B (jD _ _)).2.2.2.1.lt;clear hb oS K7 wR KB sW KD S2 J0 l0 l2 sD;go_simp
 cases hft:Pl.fy (fL++row)
 ·open ajC in exact Pb
 rw[hft,eD rfl] at eP;have hN:N<=1000:=by have:=(Pl.g_ hft).2.2.1;rw[HF.o.pn] at this;omega
 replace KN:=zH (KN.o hft);rw[hft] at NF;have MK:=zH λW=>n8 W N oM;have Ua:=zH λW=>n8 W k (by have:=HF.o.m1;omega);clear hft;go_wp2_with fail;refine NF.o.mono ?_;rintro e B ⟨rfl,he⟩;obtain rfl:e=rT (.tuple #[]):=he;go_wp2_with (first | (refine iW rfl (ie rfl rfl rfl (CL.o _)) ?_) | (go_at_call 54;(first | with_reducible refine KT.o.mono ?_ | with_reducible refine KN.o.mono ?_);rintro e B ⟨rfl,rfl⟩) | (rw[MK.o]))
 generalize hW:ew B _=W1;have V1:=jV hW;clear hW c3 z3 NF KN KT MK CH CL H0 H2 E0 E2 EL;have B1:Hid (Bl B W1):=V1.o.2.1;have uX:=H6 g tM lF;have CC:=zH λx y (hx:Pl.fB x=b_) (hy:Pl.fB y=b_) W=>Ga x y hx hy g tM lF W;have KR:Hid (∀W (u:Nat),Bl w W->u<Hh->u+1<=1000000->Cp 258 #[sX x1 p1 y1,I (k:Int),I (u:Int),I ((u:Int)+1)] W λe w'=>w'=W/\∃x' y',e=rT (sX x' k y')/\Ri P w (sX x' k y') (Pl.rowAt da k u)/\(Pl.rowAt da k u).length=k):=λW u kb hu hu2=>by
  have oR:=HF.o.la;have su:=HF.o.ll.1;have gJ:=HF.o.m1;rw[E1.o] at oR su;have h1:(u+1) * k<=Hh * k:=gv _ oM;have:=pc x1 p1 y1 da k u (u+1) (H.o.2.kp (.of kb)) oM oM oM oM hu2;have e:(u+1) * k-u * k=k:=by rw[iu];omega
  rw[e] at this;refine this.mono ?_;rintro e' w' ⟨rfl,rfl⟩;refine⟨rfl,_,_,rfl,?_,Pl.rK (by rw[E1.o,oR];exact h1)⟩;have hc:=H.o.2.cut (l:=u * k) (h:=(u+1) * k) (by rw[iu];omega) oM;rw[e] at hc;exact hc
 go_loopw [14,15,16,17,18,19,63] (λ_ _ _ _ _ _ i wr=>∃(q:Nat)(acc:lI),q<=N/\i=I (q:Int)/\Hid (acc.length=q/\Pl.eU F (eA N)=gM F (eA N) q acc)/\Hid (Bl B wr)/\Hid (Bx wr B.1.size (Zr acc N) 3)) (λ_ _ _ _ _ _ i _=>N-(intOf i).toNat)
 case atStart=>exact⟨0,[],vZ _,rfl,⟨rfl,(p_ _ _).symm⟩,B1,V1.o.1⟩
 case round =>
  obtain⟨q,acc,hq,rfl,hE,hB,hX⟩:=hrel;have⟨S0,S1,S2,S3,S4,S5,S6,hz⟩:=J.o wr hB.o;have HS:=zH (jA S0 (jA S1 (jA S2 (jA S3 (jA S4 (jA S5 S6))))));have sw:=hB.o.size;clear V1 B1;by_cases oP:q=N
  ·subst oP
   have hr:r=.ok (fL++row,acc):=by rw[eP.o,hE.o.2,qf _ _ _ _ sI];rfl
   subst hr;have oD:=zH (sM hX.o (B:=w.1.size) oM oM hE.o.1);obtain⟨c4,f4,z4⟩:=S4.all;clear S0 S1 S2 S3 S4 S5 S6;go_wp2;refine eJ (by simp[results,results220,go_sem,c4];try rfl) rfl ?_;exact KP.put HS.o.2.2.2.2.2.2 oD.o (jR _) HS.o.2.2.2.2.1 HS.o.2.2.2.2.2.1 oM _ _
  have eI:(q:Int)<(N:Int):=oM;have Sl:q<N:=oM;have zO:=HF.o.nn;have htz:¬tt=0:=λe=>by rw[e,Nat.mul_zero] at zO;omega
  have htN:tt<=1000:=by
   have hHz:¬Hh=0:=λe=>by rw[e,py] at zO;omega
   have:=xD tt (show 0<Hh by omega);omega
  have⟨u,hu⟩:∃u,q / tt=u:=⟨_,rfl⟩;have⟨c,hc⟩:∃c,q % tt=c:=⟨_,rfl⟩;have huH:u<Hh:=by rw[<- hu];exact Nat.div_lt_of_lt_mul (by rw[PD];omega)
  have hct:c<tt:=by rw[<- hc];exact zv _ oM
  have huq:u<=1000:=by have:=Is q tt;omega
  have ht1:(q:Int).tmod (tt:Int)=(c:Int):=by rw[zA oM,<- hc];simp
  have Lg:(q:Int).tdiv (tt:Int)=(u:Int):=by rw[Bj oM,<- hu];simp
  have eL:=zH (qc F (eA N) q acc q (by rw[uw Sl]));have⟨xs,HX⟩:∃xs,Hid (xs=Pl.rowAt da k u):=⟨_,rfl⟩;have⟨ys,HY⟩:∃ys,Hid (ys=Pl.rP db tt k c):=⟨_,rfl⟩;have⟨G,HQ⟩:∃G,Hid (G=Pl.jK (Pl.two g)):=⟨_,rfl⟩;have⟨zl,HZ⟩:∃zl,Hid (zl=xs.zip ys):=⟨_,rfl⟩;have FQ:Hid (F q=match Pl.eU G zl with
   |.error c=>.error c
   |.ok z=>match Pl.red f ([(z.length:Int)],z) with
    |.error c=>.error c
    |.ok r=>.ok (r.2.getD 0 0)):=by show _=_;rw[HG.o,HZ.o,HQ.o,HX.o,HY.o,<- hu,<- hc];rfl
  have LY:Hid (ys.length=k):=by show _=_;rw[HY.o];simp[Pl.rP]
  have XV:Hid (xs.all Pl.fB=b_):=by rw[HX.o];exact Pl.C8 VA.o
  have YV:Hid (ys.all Pl.fB=b_):=by rw[HY.o];exact ga.2 (Pl.Oe (ga.1 VB.o) _ _ _)
  have YD:Hid (∀j,j<k->∃y,ys[j]? = a_ y/\db[j * tt+c]? = a_ y/\j * tt+c<p3):=λj hj=>by
   have h1:(j+1) * tt<=k * tt:=gv _ hj;rw[iu,<- HF.o.lb,E3.o] at h1;have hi:j * tt+c<p3:=oM;exact YZ
  have hk1:=HF.o.m1;have sj:=HF.o.ll.2;rw[E3.o] at sj;clear zO hu hc S0 S1 S2 S3 S4 S5 S6;go_wp2_with fail;go_region
  all_goals
   have KD:Hid (Bl B wr.drew):=hB.o.drew;have XD:Hid (Bx wr.drew B.1.size (Zr acc N) 3):=hX.o;clear hX hB HS sw;generalize wr.drew=Wd at *;have sw:=KD.o.size;have c2:=(J.o Wd KD.o).2.2.1.cf.1;have z2:=(J.o Wd KD.o).2.2.1.lt;go_wp2_with (rw[Ua.o])
   generalize hW:ew Wd _=W2;have V2:=jV hW;clear hW c2 z2;refine(KR.o W2 u (bv V2.o.2.1 (J.o Wd KD.o).2.2.2.2.2.1) huH oM).mono ?_;rintro e w9 ⟨rfl,x5,y5,rfl,tK,ya⟩;have B2:Hid (Bl Wd w9):=V2.o.2.1;have X2:Hid (Bx w9 Wd.1.size (Zr [] k) 3):=V2.o.1;have LX:Hid (xs.length=k):=by show _=_;rw[HX.o];exact ya
   rw[<- HX.o] at tK;have RR:=zH tK;have LZ:Hid (zl.length=k):=by show _=_;rw[HZ.o,zu,LX.o,LY.o,A8]
   clear V2 tK ya;go_wp2_with fail;go_loopw [18,19,82] (λ_ _ jj wq=>∃(j:Nat)(dn:lI),j<=k/\jj=I (j:Int)/\Hid (dn.length=j/\Pl.eU G zl=gM G zl j dn)/\Hid (Bl Wd wq)/\Hid (Bx wq Wd.1.size (Zr dn k) 3)) (λ_ _ jj _=>k-(intOf jj).toNat)
   case atStart=>exact⟨0,[],vZ _,rfl,⟨rfl,(p_ _ _).symm⟩,B2,X2⟩
   obtain⟨j,dn,hj,rfl,hI,hC,hY⟩:=hrel;have KQ:=zH (bv hC.o KD.o);obtain⟨S0,S1,S2,S3,S4,S5,S6,-⟩:=J.o wr KQ.o;have BQ:=zH S5;have sq:=hC.o.size;clear B2 X2;by_cases SH:j=k
   ·subst SH
    have fY:Pl.eU G zl=.ok dn:=by rw[hI.o.2,qf _ _ _ _ (by rw[LZ.o];omega)]
    have Lr:dn.length=j:=hI.o.1;have FQ2:Hid (F q=match Pl.red f ([(j:Int)],dn) with
     |.error c=>.error c
     |.ok r=>.ok (r.2.getD 0 0)):=by show _=_;rw[FQ.o,fY];simp only[Lr]
    have Ru:Hid (Pl.okB ([(j:Int)],dn)=b_):=by
     have:=Pl.xj (l:=dn) oM (by
      rw[HQ.o,HZ.o] at fY;exact Pl.qL fY λp hp v hv=>by
       have:=DJ hp;exact Pl.w_ (xi tM lF) (ga.1 XV.o _ this.1) (ga.1 YV.o _ this.2) hv)
     rw[Lr] at this;exact this
    have oV:=zH (sM hY.o (B:=Wd.1.size) (jR _) oM Lr);have KF:Hid (∀W v0 {Q:nK},RA Q W v0 (sX (sY Wd.1.size 0) j j) ([(j:Int)],dn)->Cp 209 #[mB f,.agg #[v0,sX (sY Wd.1.size 0) j j]] W (KP W (Pl.red f ([(j:Int)],dn)))):=λW v0 {Q} Eo=>U9 f Td EF _ _ _ Eo Ru.o;have GR:=zH (Pl.Ds (xi Td EF) Ru.o);have RV:=zH λa=>@WY (f:Int) (j:Int) dn a;generalize Pl.red f ([(j:Int)],dn)=qq at *;clear fY Lr hI FQ Ru S1 S2 S3 S4 S5 S6;have kG:Hid (∀W,Bl wr W->Bx W w.1.size (oh f) 244):=λW kk=>S0.below kk;have XW:Hid (∀W,Bl wr W->Bx W B.1.size (Zr acc N) 3):=λW kk=>((XD.o.below hC.o).below kk);clear S0;have apK:(q:Int)<(N:Int):=eI;go_wp2_with fail;refine fT (S:=λW=>Bx W w.1.size (oh f) 244) kF (kG.o wr (jD _ _)) (λhS=>?_);refine tk 0 (sX (sY B.1.size 0) N N) rfl hS (λ_ _=>kF) ?_;refine tk 1 (I (q:Int)) rfl hS (λ_ _=>kF) ?_;refine tk 2 _ rfl hS (λ_ h=>fh _ _ rfl kF (Qf h)) ?_;refine tk 3 (sX (sY Wd.1.size 0) j j) rfl hS (λ_ _=>kF) ?_;have KW:Bl wr wr.drew:=gG;clear hS;generalize wr.drew=Wq at *;refine tc 4 160 #[sX (sY Wd.1.size 0) j j] rfl rfl kF ((Aw Wq _ j j oM).mono ?_);rintro e W3 ⟨eV,rfl,o3⟩;have K3:=bv eV KW;refine .inl ⟨_,rfl,kG.o _ K3,?_⟩;have Aj:RA (λ_=>True) W3 (sX (sY (Wq.1.size+1) 0) 1 1) (sX (sY Wd.1.size 0) j j) ([(j:Int)],dn):=⟨o3.ri.mono λ_ _ _=>trivial,(oV.o.kp (.of K3)).ri.mono λ_ _ _=>trivial⟩;refine tc 5 _ _ rfl rfl kF ((KF.o W3 _ Aj).mono ?_);rintro e W4 hK
    cases qq with
    |error ce =>
     obtain⟨fZ,rfl⟩:=hK;have hr:r=.error ce:=by rw[eP.o,hE.o.2,eL.o,FQ2.o];rfl
     subst hr;exact .inr ⟨_,rfl,rfl,KP.err (bv (bv fZ K3) BQ.o)⟩
    |ok ar =>
     obtain⟨x6,l6,y6,x7,l7,y7,rfl,TZ,fZ⟩:=hK.open;have K4:=bv fZ K3;have⟨z,hz,gX,hv⟩:=Pl.ok_one (show Pl.okB ar=b_ from GR.o) (RV.o ar rfl);obtain⟨b7,o7,rfl,yu,zZ⟩:=TZ.o.2.rw.at hz;rw[iz] at zZ;have hl7:0<l7:=by have:=TZ.o.2.rw.len;have:=(gQ.1 hz).1;omega
     have X4:=XW.o W4 K4;have⟨v9,kN⟩:=sN (l:=acc) (n:=N) (i:=q) JW Sl;have jd:W4.cell? (Y B.1.size q)=a_ (I v9):=(X4.cf.1 q).trans kN;have fD:=X4.cf.2 q;have nB:¬w.1.size=B.1.size:=oM;have X5:Hid (Bx (W4.setCell (Y B.1.size q) (I z)) B.1.size (Zr (acc++[z]) N) 3):=by
      have e:=um (l:=acc) (n:=N) JW z;rw[hE.o.1] at e;rw[<- e];exact X4.set q _
     have B9:Hid (Bl B (W4.setCell (Y B.1.size q) (I z))):=(bv K4 KQ.o).setCell sI _;have E9:Hid ((acc++[z]).length=q+1/\Pl.eU F (eA N)=gM F (eA N) (q+1) (acc++[z])):=⟨by simp[hE.o.1],by rw[hE.o.2,eL.o,FQ2.o];simp only[gX]⟩;have S4:=kG.o _ K4;refine .inl ⟨_,rfl,S4,?_⟩;refine tk 6 (sX (sY b7 o7) l7 y7) rfl S4 (λ_ _=>kF) ?_;refine tk 7 (.pointer (sY b7 o7)) rfl S4 (λ_ _=>nD (sX (sY b7 o7) l7 y7) (I ((0:Nat):Int)) rfl kF kF (qx (k:=0) hl7)) ?_;refine tv 8 (I z) W4 rfl rfl (fh (.pointer (sY b7 o7)) _ rfl kF (nh zZ)) S4 ?_;refine tk 9 (.pointer (sY B.1.size q)) rfl S4 (λ_ _=>nD (sX (sY B.1.size 0) N N) (I (q:Int)) rfl kF kF (DY Sl)) ?_;refine ts 10 (W4.setCell (Y B.1.size q) (I z)) rfl rfl rfl (jf (.pointer (sY B.1.size q)) (I z) rfl kF kF (Kq jd fD)) (S4.eC (by simpa using nB) _) ?_;refine te ?_;clear jd fD zZ yu kN hK TZ Aj o3 eV fZ K3 K4 KW S4 X4;generalize W4.setCell _ _=W9 at *;go_simp;go_wp2;go_roundw
     case rel=>exact⟨q+1,_,oM,gN,E9,B9,X5⟩
     simp[intOf];omega
   have BE:j<k:=oM;have⟨x,hx⟩:=gF LX.o BE;have⟨y,hy,EH,Cl⟩:=YD.o j BE;obtain⟨b1,o1,rfl,hb1,gE⟩:=(RR.o.rw.kp (.of BQ.o)).at hx;obtain⟨b3,o3,rfl,eV,pQ⟩:=H'.o.2.rw.at EH;have BH:=(BQ.o.cell (p:=(Y b3 (o3+(j * tt+c)))) eV).trans pQ;have Se:=zH (qc G zl j dn (x,y) (by rw[HZ.o];exact Gq hx hy));have KK:=zH (CC.o x y (Pl.oG XV.o hx) (Pl.oG YV.o hy));have GE:Hid (G (x,y)=Pl.two g x y):=by rw[HQ.o];rfl
   rw[GE.o] at Se;have⟨v9,kN⟩:=sN (l:=dn) (n:=k) (i:=j) (by have:=hI.o.1;omega) BE;have jd:wr.cell? (Y Wd.1.size j)=a_ (I v9):=(hY.o.cf.1 j).trans kN;have fD:=hY.o.cf.2 j;have c1f:wr.cell? (Y (w.1.size+1) 0)=a_ (.func (.func (247+g)) #[] #[]):=S1.cf.1 0;have c3f:=S3.cf.1 1;have⟨jt,HJ⟩:=jN (j * tt);have gJ:(j:Int) * (tt:Int)=(jt:Int):=by rw[<- HJ.o];simp
   rw[HJ.o] at Cl BH;have⟨ix,Ap⟩:=jN (jt+c);have fY:(jt:Int)+(c:Int)=(ix:Int):=by rw[<- Ap.o];simp
   rw[Ap.o] at Cl BH;have aoZ:(jt:Int)<=1000:=by have:=Ap.o;omega
   have wj:IntKind.i64.wrap (jt:Int)=(jt:Int):=by rw[lj];omega
   have wi:IntKind.i64.wrap (ix:Int)=(ix:Int):=by rw[lj];omega
   have nb:¬b3=Wd.1.size:=by have:=S5.size;have:=(J.o Wd KD.o).2.2.2.2.2.1.size;omega
   have hjI:(j:Int)<(k:Int):=oM;generalize Pl.two g x y=qq at *;clear hx hy EH pQ kN GE S0 S1 S2 S3 S4 S5 S6;go_wp2_with fail;refine fT (S:=λW=>W.cell? (Y (w.1.size+1) 0)=a_ (.func (.func (247+g)) #[] #[])/\W.cell? (Y (w.1.size+1+1+1) 1)=a_ (sX (sY b3 o3) p3 y3)/\W.cell? (Y b3 (o3+ix))=a_ (I y)) kF ⟨c1f,c3f,BH⟩ (λhS=>?_);refine tk 0 (sX (sY Wd.1.size 0) k k) rfl hS (λ_ _=>kF) ?_;refine tk 1 (I (j:Int)) rfl hS (λ_ _=>kF) ?_;refine tk 2 (pT (w.1.size+1)) rfl hS (λ_ _=>kF) ?_;refine tk 3 (.func (.func (247+g)) #[] #[]) rfl hS (λ_ h=>by obtain⟨h0,h1,h2⟩:=h;go_simp) ?_;refine tk 4 (I x) rfl hS (λ_ _=>kF) ?_;refine tk 5 (.pointer (sY (w.1.size+1+1+1) 1)) rfl hS (λ_ _=>kF) ?_;refine tk 6 (sX (sY b3 o3) p3 y3) rfl hS (λ_ h=>by obtain⟨h0,h1,h2⟩:=h;go_simp) ?_;refine tk 7 (I (j:Int)) rfl hS (λ_ _=>kF) ?_;refine tk 8 (I (tt:Int)) rfl hS (λ_ _=>kF) ?_;refine tk 9 (I (jt:Int)) rfl hS (λ_ _=>by go_simp) ?_;refine tk 10 (I (c:Int)) rfl hS (λ_ _=>kF) ?_;refine tk 11 (I (ix:Int)) rfl hS (λ_ _=>by go_simp) ?_;refine tk 12 (.pointer (sY b3 (o3+ix))) rfl hS (λ_ _=>nD (sX (sY b3 o3) p3 y3) (I (ix:Int)) rfl kF kF (qx Cl)) ?_;refine tk 13 _ rfl hS (λ_ h=>fh _ _ rfl kF (nh h.2.2)) ?_;refine tc 14 (247+g) #[I x,I y] rfl rfl (zI (247+g) #[] #[I x,I y] uX rfl kF kF) ((KK.o _).mono ?_);rintro e w' ⟨rfl,hor⟩
   cases qq with
   |error ce =>
    obtain rfl:=hor;have hr:r=.error ce:=by rw[eP.o,hE.o.2,eL.o,FQ.o,hI.o.2,Se.o];rfl
    subst hr;exact .inr ⟨_,rfl,rfl,KP.err (show Bl w wr.drew from by have:=BQ.o;go_grown)⟩
   |ok v =>
    obtain rfl:=hor;have X3:Hid (Bx (wr.drew.setCell (Y Wd.1.size j) (I v)) Wd.1.size (Zr (dn++[v]) k) 3):=by
     have e:=um (l:=dn) (n:=k) (by have:=hI.o.1;omega) v;rw[hI.o.1] at e;rw[<- e];exact Bx.set (w:=wr.drew) hY.o j _
    have B9:Hid (Bl Wd (wr.drew.setCell (Y Wd.1.size j) (I v))):=(show Below _ _ _ from by have:=hC.o;go_grown);have E9:Hid ((dn++[v]).length=j+1/\Pl.eU G zl=gM G zl (j+1) (dn++[v])):=⟨by simp[hI.o.1],by rw[hI.o.2,Se.o]⟩;have sB:=(J.o Wd KD.o).2.2.2.2.2.2.2;refine .inl ⟨_,rfl,hS,?_⟩;refine tk 15 (.pointer (sY Wd.1.size j)) rfl hS (λ_ _=>nD (sX (sY Wd.1.size 0) k k) (I (j:Int)) rfl kF kF (DY BE)) ?_;refine ts 16 (wr.drew.setCell (Y Wd.1.size j) (I v)) rfl rfl rfl (jf (.pointer (sY Wd.1.size j)) (I v) rfl kF kF (Kq jd fD)) ⟨(rZ J2 _).trans hS.1,(rZ J2 _).trans hS.2.1,(rZ (by simpa using nb) _).trans hS.2.2⟩ ?_;refine te ?_;clear jd fD gE hb1 BH c1f c3f hS;generalize ez (World.drew wr) _ _=W9 at *;go_simp;go_wp2;go_roundw
    case rel=>exact⟨j+1,_,oM,gN,E9,B9,X3⟩
    simp[intOf];omega
 ):ρ:=h
def aeV(f g:Nat)(Td:1<=f)(EF:f<11)(tM:1<=g)(lF:g<11)(v0 v1 v2 v3:Va)(a b:Ar)(h:RA P w v0 v1 a)(h':RA P w v2 v3 b)(ha:Pl.okB a=b_)(hb:Pl.okB b=b_):Cp 220 #[mB f,mB g,.agg #[v0,v1],.agg #[v2,v3]] w (KP w (Pl.mC f g a b)):=by
 have H:=zH h;have H':=zH h';have HA:=zH ha;have HB:=zH hb;open amN in exact lO
end
end
section
def adr(k:Nat):(eA (k+1)).map Int.ofNat=(eA k).map Int.ofNat++[(k:Int)]:=by rw[uv,mP];rfl
def UC(n:Nat)(w:Wd)(hn:n<=1000000):Cp 277 #[I (n:Int)] w λe w'=>Bl w w'/\e=rT (sX (sY w.1.size 0) n n)/\Bx w' w.1.size (Zl ((eA n).map Int.ofNat)) 3:=by
 have MK:=zH λW=>n8 W n oM;go_enter func277,ntmps277;go_wp2_with (rw[MK.o])
 generalize hW:ew w _=W0;have V0:=jV hW;go_loopw [4,9] (λ_ i wr=>∃k:Nat,k<=n/\i=I (k:Int)/\Hid (Bl w wr)/\Hid (Bx wr w.1.size (Zr ((eA k).map Int.ofNat) n) 3)) (λ_ i _=>n-(intOf i).toNat)
 case atStart=>exact⟨0,vZ _,rfl,V0.o.2.1,V0.o.1⟩
 obtain⟨k,hk,rfl,hB,hX⟩:=hrel;by_cases fK:k=n
 ·subst fK
  go_wp2;go_returns
  refine⟨hB.o,rfl,?_⟩;have:Zr ((eA k).map Int.ofNat) k=Zl ((eA k).map Int.ofNat):=by simp[Zr,Zl]
  rw[<- this];exact hX.o
 have eI:(k:Int)<(n:Int):=oM;have⟨v9,kN⟩:=sN (l:=(eA k).map Int.ofNat) (n:=n) (i:=k) J2 oM;have jd:cL wr w.1.size k (I v9):=(hX.o.cf.1 k).trans kN;have⟨_,fD,zD⟩:=hX.o.all;have X3:Hid (Bx (wr.setCell (Y w.1.size k) (I (k:Int))) w.1.size (Zr ((eA (k+1)).map Int.ofNat) n) 3):=by
  have e:=um (l:=(eA k).map Int.ofNat) (n:=n) J2 (k:Int);rw[qU,ux] at e;rw[adr,<- e];exact hX.o.set k _
 have B3:Hid (Bl w (wr.setCell (Y w.1.size k) (I (k:Int)))):=hB.o.setCell sI _;go_wp2;go_roundw
 case rel=>exact⟨k+1,oM,gN,B3,X3⟩
 simp[intOf];omega
section
variable {P:nK} {w:Wd}
def amj.sK(h:ρ:=by
 obtain⟨c2,f2,z2⟩:=V0.o.2.2.1.all;refine(qg E0.o oM z2 (c2 0) (H.o.1.rw.kp (.of V0.o.2.2.2.1))).mono ?_;rintro e B ⟨hb,x2,y2,rfl,o2⟩;have VB:=zH (jA (V0.o.2.1.below hb) (jA (bv hb V0.o.2.2.2.1) (o2.base (B':=w.1.size) (by have:=V0.o.2.2.2.2;omega))));go_wp2_with fail;refine(Aw B _ n0 _ oM).mono ?_;rintro e w5 ⟨hb,rfl,o5⟩;have V5:=zH (jA (VB.o.1.below hb) (jA (bv hb VB.o.2.1) (jA (VB.o.2.2.kp (.of hb)) (o5.base (B':=w.1.size) (by have:=VB.o.2.1.size;omega)))));obtain⟨c5,f5,z5⟩:=V5.o.1.all;go_wp2;refine eJ (by simp[results,results237,go_sem,c5];try rfl) rfl ?_;exact KP.put V5.o.2.2.2 V5.o.2.2.1 (jR _) V5.o.1 V5.o.2.1 oM _ _
 ):ρ:=h
def acF(v0 v1:Va)(a:Ar)(h:RA P w v0 v1 a)(gK:a.1.length<=1000)(gr:a.2.length<=1000):Cp 237 #[.agg #[v0,v1]] w (KP w (.ok ([(a.1.length:Int)],a.1))):=by
 have H:=zH h;obtain⟨⟨x0,y0,rfl⟩,x1,y1,rfl⟩:=h.eS;have⟨n0,E0⟩:=jN (a.1.length);have⟨n1,E1⟩:=jN (a.2.length);rw[E0.o] at H gK;rw[E1.o] at H gr;simp only[E0.o,E1.o];go_enter func237,ntmps237;open amj in exact sT
def amk.sK(h:ρ:=by
 obtain⟨c2,f2,z2⟩:=V0.o.2.2.1.all;refine(qg E1.o oM z2 (c2 0) (H.o.2.rw.kp (.of V0.o.2.2.2.1))).mono ?_;rintro e B ⟨hb,x2,y2,rfl,o2⟩;have VB:=zH (jA (V0.o.2.1.below hb) (jA (bv hb V0.o.2.2.2.1) (o2.base (B':=w.1.size) (by have:=V0.o.2.2.2.2;omega))));go_wp2_with fail;refine(Aw B _ n1 _ oM).mono ?_;rintro e w5 ⟨hb,rfl,o5⟩;have V5:=zH (jA (VB.o.1.below hb) (jA (bv hb VB.o.2.1) (jA (VB.o.2.2.kp (.of hb)) (o5.base (B':=w.1.size) (by have:=VB.o.2.1.size;omega)))));obtain⟨c5,f5,z5⟩:=V5.o.1.all;go_wp2;refine eJ (by simp[results,results238,go_sem,c5];try rfl) rfl ?_;exact KP.put V5.o.2.2.2 V5.o.2.2.1 (jR _) V5.o.1 V5.o.2.1 oM _ _
 ):ρ:=h
def aeo(v0 v1:Va)(a:Ar)(h:RA P w v0 v1 a)(gK:a.1.length<=1000)(gr:a.2.length<=1000):Cp 238 #[.agg #[v0,v1]] w (KP w (.ok ([(a.2.length:Int)],a.2))):=by
 have H:=zH h;obtain⟨⟨x0,y0,rfl⟩,x1,y1,rfl⟩:=h.eS;have⟨n0,E0⟩:=jN (a.1.length);have⟨n1,E1⟩:=jN (a.2.length);rw[E0.o] at H gK;rw[E1.o] at H gr;simp only[E0.o,E1.o];go_enter func238,ntmps238;open amk in exact sT
def amo.P_(h:ρ:=by
 go_wp2_with (go_at_call 229;refine(iV _ _).mono ?_;rintro e w1 ⟨rfl,rfl⟩)
 refine(UC n _ oM).mono ?_;rintro e B ⟨hb,rfl,bx⟩;have VB:=zH (jA (V1.o.1.below hb) (jA (bv hb V1.o.2) (y_ (B:=w.1.size) bx V1.o.2.size oM (by simp:_=n))));go_wp2_with fail;refine(Aw B _ n _ oM).mono ?_;rintro e w5 ⟨hb,rfl,o5⟩;have V5:=zH (jA (VB.o.1.below hb) (jA (bv hb VB.o.2.1) (jA (VB.o.2.2.kp (.of hb)) (o5.base (B':=w.1.size) (by have:=VB.o.2.1.size;omega)))));obtain⟨c5,f5,z5⟩:=V5.o.1.all;go_wp2;refine eJ (by simp[results,results236,go_sem,c5];try rfl) rfl ?_;exact KP.put V5.o.2.2.2 V5.o.2.2.1 (jR _) V5.o.1 V5.o.2.1 oM _ _
 ):ρ:=h
def amn.P_(h:ρ:=by
 go_wp2_with fail;refine(iV _ _).mono ?_;rintro e w1 ⟨rfl,rfl⟩;go_wp2_with fail;refine(iV _ _).mono ?_;rintro e w1 ⟨rfl,rfl⟩;go_wp2_with fail;refine(kY _ _).mono ?_;rintro e w1 ⟨rfl,rfl⟩;exact⟨rfl,KP.err V1.o.2⟩
 ):ρ:=h
def amm.P_(h:ρ:=by
 go_wp2_with fail;refine(iV _ _).mono ?_;rintro e w1 ⟨rfl,rfl⟩;go_wp2_with fail;refine(kY _ _).mono ?_;rintro e w1 ⟨rfl,rfl⟩;exact⟨rfl,KP.err V1.o.2⟩
 ):ρ:=h
def aml.pe(h:ρ:=by
 refine(SA.o W0 V0.o.2.2.1).k λw1 hb=>?_;have BW:=zH (bv hb V0.o.2.2.1);go_wp2_with (go_at_call 229;refine(kY _ _).mono ?_;rintro e w' ⟨rfl,rfl⟩)
 exact⟨rfl,KP.err BW.o⟩
 ):ρ:=h
def ajM.Dk(h:ρ:=by
 have⟨r,HR⟩:∃r,Hid (r=Pl.iota a):=⟨_,rfl⟩;rw[<- HR.o];obtain⟨sh,da⟩:=a;simp only at H SA ⊢;obtain⟨p1,E1⟩:=jN (da.length);rw[E1.o] at H SA ⊢;by_cases hs:sh=[]
 rotate_left
 ·have hr:r=.error 2:=by rw[HR.o,Pl.iota,eD hs]
  subst hr;rw[fH hs] at SA;generalize sh.length=p0 at *;go_enter func236,ntmps236;open aml in exact pj
 have⟨z,hz,gX,hv⟩:=Pl.ok_one HA.o hs;simp only at hz gX;have eP:Hid (r=if z<0 then .error 1 else if 1000<z then .error 6 else .ok ([z],(eA z.toNat).map Int.ofNat)):=by show _=_;rw[HR.o];simp only[Pl.iota,gX,hs];rfl
 rw[fM hs] at SA;obtain⟨b,o,rfl,hb,hc⟩:=H.o.2.rw.at hz;rw[iz] at hc;have rp:(0:Int)<(p1:Int):=by have:=(gQ.1 hz).1;have:=E1.o;omega
 generalize sh.length=p0 at *;have hzc:z<0\/(¬z<0/\1000<z)\/(¬z<0/\¬1000<z):=oM;rcases hzc with h0|⟨h0,h1⟩|⟨h0,h1⟩
 ·have hr:r=.error 1:=by rw[eP.o,eD h0]
  subst hr;have d0:decide (z<0)=b_:=fM h0;open amm in exact Qy
 ·have hr:r=.error 6:=by rw[eP.o,eB h0,eD h1]
  subst hr;have d0:decide (z<0)=d_:=fH h0;have d1:decide (1000<z)=b_:=fM h1;open amn in exact Qy
 ·obtain⟨n,rfl⟩:=sZ (show 0<=z by omega)
  have hr:r=.ok ([(n:Int)],(eA n).map Int.ofNat):=by rw[eP.o,eB h0,eB h1];rfl
  subst hr;have d0:decide ((n:Int)<0)=d_:=fH h0;have d1:decide (1000<(n:Int))=d_:=fH h1;open amo in exact Qy
 ):ρ:=h
def ac1(v0 v1:Va)(a:Ar)(h:RA P w v0 v1 a)(ha:Pl.okB a=b_):Cp 236 #[.agg #[v0,v1]] w (KP w (Pl.iota a)):=by
 have H:=zH h;have HA:=zH ha;open ajM in exact Dr
def amq.pe(h:ρ:=by
 refine(SA.o W0 V0.o.2.2.1).k λw1 hb=>?_;have V1:=zH (jA (V0.o.2.1.below hb) (bv hb V0.o.2.2.1));obtain⟨c1,f1,z1⟩:=(V0.o.1.below hb).all;obtain⟨c2,f2,z2⟩:=V1.o.1.all;go_wp2;refine eJ (by simp[results,results282,go_sem,c2];try rfl) rfl ?_;have bl:=V1.o.2;exact⟨gG,_,_,_,_,_,_,rfl,((HM.o.kp (.of bl)).kp (((Kp.refl _ _).set sI _).set sI _)).mono λb h _=>.inl h⟩
 ):ρ:=h
def amp.pe(h:ρ:=by
 refine(SA.o W0 V0.o.2.2.1).k λw1 hb=>?_;have V1:=zH (jA (V0.o.2.1.below hb) (jA (bv hb V0.o.2.2.1) (show w.1.size+2<=w1.1.size by have:=hb.size;have:=V0.o.2.2.2;omega)));obtain⟨c1,f1,z1⟩:=(V0.o.1.below hb).all;go_wp2_with fail;refine(Aw w1 _ p1 _ oM).mono ?_;rintro e w5 ⟨hb,rfl,o5⟩;have V5:=zH (jA (V1.o.1.below hb) (jA (bv hb V1.o.2.1) (jA o5 (V1.o.2.2))));obtain⟨c5,f5,z5⟩:=V5.o.1.all;go_wp2;refine eJ (by simp[results,results282,go_sem,c5];try rfl) rfl ?_;obtain⟨b1,bl,o1,sz⟩:=V5.o;have m1:=o1.ne b1 dC;refine⟨gG,_,_,_,_,_,_,rfl,(o1.o (B0:=w.1.size+2) eY oM).mono λb h _=>.inr h,?_⟩;exact((HM.o.2.kp (.of bl)).kp (((Kp.refl _ _).set sI _).set sI _)).mono λb h _=>.inl h
 ):ρ:=h
def ajN.Dk(h:ρ:=by
 obtain⟨sh,da⟩:=a;simp only at H SA hl ⊢;have⟨r,HR⟩:∃r,Hid (r=Pl.iw (sh,da)):=⟨_,rfl⟩;rw[<- HR.o];obtain⟨p1,E1⟩:=jN (da.length);rw[E1.o] at H SA hl ⊢;have HM:=zH (H.o.mono (Q:=λb=>P b/\b<w.1.size) λb h h'=>⟨h,h'⟩);by_cases hs:sh=[]
 ·have hr:r=([(da.length:Int)],da):=by rw[HR.o,hs];rfl
  rw[E1.o] at hr;subst hr;rw[fM hs] at SA;generalize sh.length=p0 at *;go_enter func282,ntmps282;open amp in exact pj
 ·have hr:r=(sh,da):=by rw[HR.o,Pl.iw];simp only;rw[eB hs]
  subst hr;rw[fH hs] at SA;generalize sh.length=p0 at *;go_enter func282,ntmps282;open amq in exact pj
 ):ρ:=h
def CZ(v0 v1:Va)(a:Ar)(h:RA P w v0 v1 a)(hl:a.2.length<=1000):Cp 282 #[.agg #[v0,v1]] w λe w'=>Bl w w'/\∃x0 l0 y0 x1 l1 y1,e=rT (.agg #[sX x0 l0 y0,sX x1 l1 y1])/\RA (λb=>P b/\b<w.1.size\/w.1.size+2<=b) w' (sX x0 l0 y0) (sX x1 l1 y1) (Pl.iw a):=by
 have H:=zH h;open ajN in exact Dr
def agI{a:Ar}(h:Pl.okB a=b_):(Pl.iw a).1[0]? = a_ (Pl.u_ a):=by
 obtain⟨sh,da⟩:=a;unfold Pl.iw Pl.u_
 cases sh with
 |nil =>
  have e:=(Pl.ok_eq h).2.1;simp only[Pl.eR,Io] at e;simp[e]
 |cons m row=>simp
def amr.pe(h:ρ:=by
 refine(KA.o W0 V0.o.2.2.1).mono ?_;rintro e w1 ⟨hb,x4,l4,y4,x5,l5,y5,rfl,ra⟩;have hl:=ra.1.rw.len;have gK:=(gQ.1 CA.o).1;obtain⟨b4,o4,rfl,fZ,pP⟩:=ra.1.rw.at CA.o;rw[iz] at pP;have hl4:(0:Int)<(l4:Int):=oM;have V1:=zH (jA (V0.o.2.1.below hb) (jA (bv hb V0.o.2.2.1) (show w.1.size<=w1.1.size from (bv hb V0.o.2.2.1).size)));generalize Pl.u_ a=z at *;have S_:∀W,(Instr.field 30 (.agg #[sX (sY b4 o4) l4 y4,sX x5 l5 y5]) 0).run prog W=.ok (sX (sY b4 o4) l4 y4) W:=λW=>kF;go_wp2_with fail;refine(U5 w1 z).mono ?_;rintro e w5 ⟨hb,rfl,o5⟩;have V5:=zH (jA (V1.o.1.below hb) (jA (bv hb V1.o.2.1) (o5.base (B':=w.1.size) (by have:=V1.o.2.2;omega))));obtain⟨c5,f5,z5⟩:=V5.o.1.all;go_wp2;refine eJ (by simp[results,results242,go_sem,c5];try rfl) rfl ?_;exact KP.put (Oi.nil _) V5.o.2.2 (jR _) V5.o.1 V5.o.2.1 oM _ _
 ):ρ:=h
def ae5(v0 v1:Va)(a:Ar)(h:RA P w v0 v1 a)(ha:Pl.okB a=b_):Cp 242 #[.agg #[v0,v1]] w (KP w (.ok ([],[Pl.u_ a]))):=by
 have CA:=zH (agI ha);have KA:=zH λW (kb:Bl w W)=>CZ v0 v1 a (h.kp (.of kb)) (Pl.ok_eq ha).2.2.2.2;obtain⟨⟨x0,y0,rfl⟩,x1,y1,rfl⟩:=h.eS;generalize a.1.length=p0,a.2.length=p1 at *;go_enter func242,ntmps242;open amr in exact pj
end
end
section
section
variable {P:nK} {w:Wd}
def ajB.Ok(h:ρ:=by
 exact⟨rfl,KP.err (J.o _ (jD _ _)).2.2.2.1⟩
 ):ρ:=h
def amI.lH(h:ρ:=by
 have SB:=zH λW (kb:Bl w W)=>wV _ _ b.1 (h'.1.rw.kp (.of kb)) (rfl:Value.slice x3 b.2.length y3=_);have⟨r,HR⟩:∃r,Hid (r=Pl.from_ a b):=⟨_,rfl⟩;rw[<- HR.o];have la:=(Pl.ok_eq ha).2.2.2.1;have ma:=(Pl.ok_eq ha).2.2.2.2;have mb:=(Pl.ok_eq hb).2.2.2.2;have VL:=zH ((Pl.ok_eq ha).2.2.1);clear h h' ha hb;obtain⟨sa,da⟩:=a;obtain⟨sb,db⟩:=b;simp only at H H' SB la ma mb VL ⊢;have⟨p0,E0⟩:=jN (sa.length);obtain⟨p1,E1⟩:=jN (da.length);have⟨p3,E3⟩:=jN (db.length);rw[E0.o,E1.o] at H;rw[E0.o] at la;rw[E1.o] at ma;rw[E3.o] at H' SB mb;rw[E0.o,E1.o,E3.o]
 cases sb with
 |nil =>
  have hr:r=.error 2:=HR.o;subst hr;rw[fM rfl] at SB;simp only[iA] at H' SB ⊢;go_enter func267,ntmps267;go_wp2_with fail;generalize hW:ew (ew (ew w _) _) _=W0;have V0:=mK hW;clear hW;refine(SB.o W0 V0.o.2.2.2.1).mono ?_;rintro e w1 ⟨rfl,hb⟩;have BW:=zH (bv hb V0.o.2.2.2.1);clear hb;exact O_
 |cons m row =>
  rw[fH sI] at SB;obtain⟨n,rfl,hn,qD,-,hp,hl,eN⟩:=Pl.ke HB.o;have⟨s,HS⟩:=jN (Pl.eQ row);rw[HS.o,E3.o] at hl;have es:Pl.eR row=(s:Int):=by rw[<- HS.o];simp[Pl.eQ,kl hp]
  have HL:=zH hl;have eP:Hid (r=if Pl.fy (sa++row)=b_ then Pl.wS (sa++row) (LV (Pl.eU (Pl.qY (n:Int) db s) da)) else .error 6):=by show _=_;rw[HR.o,<- HS.o];rfl
  have H2:=zH H'.o.1.tl;obtain⟨b2,o2,rfl,hb2,jC⟩:=H'.o.1.rw.at (i:=0) rfl;rw[iz] at jC;have⟨p2,E2⟩:=jN (row.length);have EL:Hid ((sa++row).length=p0+p2):=by show _=_;rw[hJ,E0.o,E2.o]
  simp only[fW] at H' SB H2 ⊢;rw[E2.o] at H' SB H2 eN ⊢;rw[show p2+1-1=p2 by omega] at H2;have CL:=zH λW=>mO (w:=W) (x:=sY b2 o2) (n:=p2+1) (y:=y2) (l:=1) oM;rw[show p2+1-1=p2 by omega] at CL;generalize fU (sY b2 o2) 1 y2=xl,y2-1=yl at *;have sb1:=(Pl.uc row qD).1.2;rw[es] at sb1;clear HR hp hl;go_enter func267,ntmps267;go_wp2_with fail;generalize hW:ew (ew (ew w _) _) _=W0;have V0:=mK hW;clear hW;refine(SB.o W0 V0.o.2.2.2.1).mono ?_;rintro e w2 ⟨rfl,hb⟩;have J0:Hid (∀W,Bl w2 W->Bx W w.1.size #[sX x0 p0 y0,sX x1 p1 y1] 30/\Bx W (w.1.size+1) #[sX (sY b2 o2) (p2+1) y2,sX x3 p3 y3] 30/\Bx W (w.1.size+1+1) nN 30/\Bl w W/\w.1.size+1+1<w2.1.size):=λW kk=>⟨(V0.o.1.below hb).below kk,(V0.o.2.1.below hb).below kk,(V0.o.2.2.1.below hb).below kk,bv kk (bv hb V0.o.2.2.2.1),(V0.o.2.2.1.below hb).lt⟩;clear hb V0 SB;go_wp2_with (go_at_call 229;refine(iV _ _).mono ?_;rintro e w2 ⟨rfl,rfl⟩)
  have S2:Hid (∀W,Bl w2 W->Bx W w.1.size #[sX x0 p0 y0,sX x1 p1 y1] 30/\Bx W (w.1.size+1) #[sX (sY b2 o2) (p2+1) y2,sX x3 p3 y3] 30):=λW kk=>⟨(J0.o W kk).1,(J0.o W kk).2.1⟩;refine fT (S:=λW=>Bx W w.1.size #[sX x0 p0 y0,sX x1 p1 y1] 30/\Bx W (w.1.size+1) #[sX (sY b2 o2) (p2+1) y2,sX x3 p3 y3] 30) kF (S2.o w2 (jD _ _)) (λhS=>?_);refine tk 0 (pT w.1.size) rfl hS (λ_ _=>kF) ?_;refine tk 1 _ rfl hS (λ_ h=>fh _ _ rfl kF (kC h.1)) ?_;refine tk 2 (pT (w.1.size+1)) rfl hS (λ_ _=>kF) ?_;refine tk 3 _ rfl hS (λ_ h=>fh _ _ rfl kF (kC h.2)) ?_;refine tk 4 (sX xl p2 yl) rfl hS (λW _=>ie rfl kF kF (CL.o W)) ?_;have KD:Bl w2 w2.drew:=gG;have sD:=KD.size;clear hS;generalize w2.drew=Wd at *;have K7:Bl w2 (Wd.alloc (.cells #[sX x0 p0 y0,sX xl p2 yl] 23)):=gG;refine tv 5 (sX (sY Wd.1.size 0) 2 2) _ rfl rfl (D4 rfl kF kF) (S2.o _ K7) ?_;have wR:=(J0.o _ K7).2.2.2.1;refine tc 6 91 #[sX (sY Wd.1.size 0) 2 2] rfl rfl kF ((xb EL.o oM sI J5 J5 (H.o.1.rw.kp (.of wR)) (H2.o.rw.kp (.of wR))).mono ?_);rintro e B ⟨hb,ax,ay,rfl,oS⟩;have KB:=bv hb K7;have sW:=wR.size;have J:Hid (∀W,Bl B W->Bx W w.1.size #[sX x0 p0 y0,sX x1 p1 y1] 30/\Bx W (w.1.size+1) #[sX (sY b2 o2) (p2+1) y2,sX x3 p3 y3] 30/\Bx W (w.1.size+1+1) nN 30/\Bl w W/\Oi w.1.size W (sX ax (p0+p2) ay) (sa++row)/\w.1.size+1+1<B.1.size):=λW kk=>by
   have⟨S0,S1,S2,S3,S4⟩:=J0.o W (bv kk KB);exact⟨S0,S1,S2,S3,(oS.base sW).kp (.of kk),by have:=KB.size;omega⟩
  have NF:=zH (yO (w:=B) _ (sa++row) oS.ri.rw);have KN:Hid (Pl.fy (sa++row)=b_->Cp 54 #[sX ax (p0+p2) ay] B λe w'=>e=rT (I (Pl.eR (sa++row)))/\w'=B):=λhf=>qJ _ oS.ri.rw (Pl.g_ hf).2.2.2.2.2;have KT:Hid (Cp 54 #[sX xl p2 yl] B λe w'=>e=rT (I (s:Int))/\w'=B):=by
   have:=qJ _ (H2.o.rw.kp (.of (J.o B (jD _ _)).2.2.2.1)) qD;rw[es] at this;exact this
  refine .inl ⟨_,rfl,S2.o _ KB,?_⟩;refine tk 7 (sX ax (p0+p2) ay) rfl (S2.o _ KB) (λ_ _=>kF) ?_;refine te ?_;have c3:=(J.o B (jD _ _)).2.1.cf.1;have z3:=(J.o B (jD _ _)).2.1.lt;have c0:=(J.o B (jD _ _)).1.cf.1;have z0:=(J.o B (jD _ _)).1.lt;clear hb oS K7 wR KB sW KD S2 J0 sD es;go_simp
  cases hft:Pl.fy (sa++row)
  ·open ajB in exact Pb
  rw[hft,eD rfl] at eP;have⟨N,HN⟩:∃N:Nat,Hid (Pl.eR (sa++row)=N):=⟨(Pl.eR (sa++row)).toNat,by have:=(Pl.g_ hft).2.1;show _=_;omega⟩;have hN:N<=1000:=by have:=(Pl.g_ hft).2.2.1;rw[HN.o] at this;omega
  replace KN:=zH (KN.o hft);rw[HN.o] at KN;rw[hft] at NF;have MK:=zH λW=>Gx W N oM;clear hft;go_wp2_with fail;refine NF.o.mono ?_;rintro e B ⟨rfl,he⟩;obtain rfl:e=rT (.tuple #[]):=he;go_wp2_with (first | (refine iW rfl (ie rfl rfl rfl (CL.o _)) ?_) | (go_at_call 54;(first | with_reducible refine KT.o.mono ?_ | with_reducible refine KN.o.mono ?_);rintro e B ⟨rfl,rfl⟩) | (rw[MK.o]))
  generalize hW:ew B _=W1;have V1:=jV hW;clear hW c3 z3 c0 z0 NF KN KT MK CL H2 EL;have B1:Hid (Bl B W1):=V1.o.2.1;have⟨F,HF⟩:∃F,Hid (F=Pl.qY (n:Int) db s):=⟨_,rfl⟩;rw[<- HF.o] at eP;have KR:Hid (∀W (t:Nat),Bl w W->t<n->Cp 258 #[sX x3 p3 y3,I (s:Int),I (t:Int),I ((t:Int)+1)] W λe w'=>w'=W/\∃x' y',e=rT (sX x' s y')/\Ri P W (sX x' s y') (Pl.rowAt db s t)):=λW t kb ht=>by
   have hh:=H'.o.2.kp (.of kb);have h1:(t+1) * s<=n * s:=gv _ ht;have h2:=HL.o;have h3:=xD s (show 0<n by omega);have:=pc x3 p3 y3 db s t (t+1) hh oM oM oM oM oM;exact YT
  have RT:Hid (∀t,t<n->(Pl.rowAt db s t).length<=1000):=λt ht=>by
   rw[Pl.rK (by rw[E3.o,HL.o];exact gv _ ht)];have h2:=HL.o;have h3:=xD s (show 0<n by omega);omega
  go_loopw [7,9,32] (λdv _ i wr=>∃(k:Nat)(ds:List (lI)),k<=p1/\i=I (k:Int)/\Hid (ds.flatten.length<=k * 1000/\Pl.eU F da=gM F da k ds)/\Hid (Bl B wr)/\Hid (Oi B.1.size wr dv ds.flatten)) (λ_ _ i _=>p1-(intOf i).toNat)
  case atStart=>exact⟨0,[],vZ _,rfl,⟨sI,(p_ _ _).symm⟩,B1,Gy V1.o.1 (jR _) oM⟩
  clear V1 B1;obtain⟨k,ds,hk,rfl,hE,hB,hO⟩:=hrel;have⟨S0,S1,S2,S3,S4,hz⟩:=J.o wr hB.o;have sw:=hB.o.size;have⟨qq,HQ⟩:=jN (ds.flatten.length);have⟨xd,yd,e9⟩:=hO.o.form;rw[HQ.o] at e9;subst e9;by_cases fK:k=p1
  ·subst fK
   have hr:r=.ok (sa++row,ds.flatten):=by rw[eP.o,hE.o.2,qf _ _ _ _ JT];rfl
   subst hr;obtain⟨c5,f5,z5⟩:=S2.all;have HS:=zH (jA S2 (jA S3 S4));clear S0 S1 S2 S3 S4;go_wp2;refine eJ (by simp[results,results267,go_sem,c5];try rfl) rfl ?_;exact KP.put HS.o.2.2 (hO.o.base oM) (jR _) HS.o.1 HS.o.2.1 oM _ _
  have eI:(k:Int)<(p1:Int):=oM;have⟨z,gy⟩:=gF E1.o (show k<p1 by omega);obtain⟨b1,o1,rfl,hb1,gE⟩:=(H.o.2.rw.kp (.of S3)).at gy;have eL:=zH (qc F da k ds z gy);have jS:=(S3.cell (p:=(Y b2 o2)) hb2).trans jC;have zb2:b2<wr.1.size:=jL hb2 S3.size;obtain⟨c1,f1,z1⟩:=S1.all;have HS:=zH S3;have hvz:=Pl.qh (Pl.oG VL.o gy);clear f1 S0 S1 S2 S3 S4 gy;have j9:z<0\/(¬z<0/\(n:Int)<=z)\/(0<=z/\z<n):=oM;rcases j9 with h0|⟨h0,h1⟩|⟨h0,h1⟩
  ·have hr:r=.error 4:=by rw[eP.o,hE.o.2,eL.o,HF.o,Pl.qY,eD (.inl h0)];rfl
   subst hr;have d0:decide (z<0)=b_:=fM h0;go_wp2_with fail;refine(kY _ _).mono ?_;rintro e w' ⟨rfl,rfl⟩;exact⟨rfl,KP.err HS.o⟩
  ·have hr:r=.error 4:=by rw[eP.o,hE.o.2,eL.o,HF.o,Pl.qY,eD (.inr h1)];rfl
   subst hr;have d0:decide (z<0)=d_:=fH h0;have d1:decide ((n:Int)<=z)=b_:=fM h1;go_wp2_with fail;refine(kY _ _).mono ?_;rintro e w' ⟨rfl,rfl⟩;exact⟨rfl,KP.err HS.o⟩
  obtain⟨t,rfl⟩:=sZ h0;have ht:t<n:=oM;have hFz:F (t:Int)=.ok (Pl.rowAt db s t):=by rw[HF.o,Pl.qY,eB oM];rfl
  rw[hFz] at eL;have d0:decide ((t:Int)<0)=d_:=fH oM;have d1:decide ((n:Int)<=(t:Int))=d_:=fH oM;have n1:¬(n:Int)<=(t:Int):=oM;have K1:=zH (KR.o wr t HS.o ht);have UB:Hid (ds.flatten.length+(Pl.rowAt db s t).length<=16777216):=by
   have h1:=hE.o.1;have h2:=RT.o t ht;have h3:k * 1000<=1000 * 1000:=gv _ oM;show _<=_;omega
  have E9:Hid ((ds++[Pl.rowAt db s t]).flatten.length<=(k+1) * 1000/\Pl.eU F da=gM F da (k+1) (ds++[Pl.rowAt db s t])):=⟨by
   have h1:=hE.o.1;have h2:=RT.o t ht;simp only[vL,hJ,DK,Iz,rU];rw[iu];omega,by rw[hE.o.2,eL.o]⟩
  clear hFz eL h0 h1;go_wp2_with fail;refine(iV _ _).mono ?_;rintro e wr ⟨rfl,rfl⟩;go_wp2_with fail;refine K1.o.mono ?_;rintro e w' ⟨rfl,x',y',rfl,tK⟩;have RR:=zH tK.rw;clear tK;go_wp2_with (at_builtin;refine nu rfl (.tmp 47) (.tmp 54) rfl rfl rfl hO.o RR.o UB.o sw ?_)
  intro v' w9 ho hg ha;have B9:=zH (Oi.fI hO.o hB.o hg sw);have O9:Hid (Oi B.1.size w9 v' (ds++[Pl.rowAt db s t]).flatten):=by rw[show (ds++[Pl.rowAt db s t]).flatten=ds.flatten++Pl.rowAt db s t by simp];exact ho
  clear ho hg ha c1 z1 jS gE;go_wp2;go_roundw
  case rel=>exact⟨k+1,_,oM,gN,E9,B9,O9⟩
  simp[intOf];omega
 ):ρ:=h
def agu(v0 v1 v2 v3:Va)(a b:Ar)(h:RA P w v0 v1 a)(h':RA P w v2 v3 b)(ha:Pl.okB a=b_)(hb:Pl.okB b=b_):Cp 267 #[.agg #[v0,v1],.agg #[v2,v3]] w (KP w (Pl.from_ a b)):=by
 have H:=zH h;have H':=zH h';have HB:=zH hb;open amI in exact lO
end
end
end Go.Proofs.YtiagfejlmafliaaGreatDoor
namespace Go.Proofs.YtiagfejlmafliaaGreatDoor.Pl
set_option linter.all false
open Go.Proofs.Tryz Pl
set_option maxHeartbeats 16000000
open World renaming setCell->ez,alloc->ew
open List renaming range->eA,replicate->eE
open Option renaming some->a_,none->c_
open Bool renaming true->b_,false->d_
variable {n s k:Nat}{db row:lI}
def Vt(db:lI)(s o:Nat):∀k,((eA k).map λt=>rowAt db s (o+t)).flatten=(db.drop (o * s)).take (k * s)
 |0=>sI
 |k+1=>by
  rw[uv,mP,vL,Vt db s o k,iu,List.take_add];simp only[oH,PU,DK,Iz,rU,rowAt,List.drop_drop];rw[Nat.add_mul]
def U2(s:Nat):∀k,((eA k).map λ_=>eE s (0:Int)).flatten=eE (k * s) 0
 |0=>sI
 |k+1=>by
  rw[uv,mP,vL,U2 s k,iu,<- Z7];simp
def UL(m:Int)(db:lI)(s:Nat)(i:Int)(a b:Nat):gq m db s i (a+b)=gq m db s i a++gq m db s (i+a) b:=by
 unfold gq;rw[List.range_add,mP,List.map_map];congr 1
 refine A9 λt _=>?_;simp only[Function.comp_apply];congr 1
 omega
def Ns(db:lI)(s o k:Nat)(h:o+k<=n):(gq (n:Int) db s (o:Int) k).flatten=(db.drop (o * s)).take (k * s):=by
 rw[<- Vt];unfold gq;congr 1
 refine A9 λt ht=>?_;have:=qV.1 ht;unfold s_;rw[eD oM];congr 1
def Vn(db:lI)(s:Nat)(i:Int)(k:Nat)(h:i+k<=0\/(n:Int)<=i):(gq (n:Int) db s i k).flatten=eE (k * s) 0:=by
 rw[<- U2];unfold gq;congr 1
 refine A9 λt ht=>?_;have:=qV.1 ht;unfold s_;rw[eB oM]
def afk(hl:db.length=n * s)(k:Nat):(gq (n:Int) db s 0 k).flatten=splice (eE (k * s) 0) 0 (((db.drop (0 * s)).take (min k n * s-0 * s)).take (min k n * s)):=by
 have⟨z,hz⟩:∃z,k=min k n+z:=⟨k-min k n,oM⟩;have e:(((db.drop (0 * s)).take (min k n * s-0 * s)).take (min k n * s))=db.take (min k n * s):=by rw[py,vK,mw,Bp,A8]
 rw[e];have hlen:(db.take (min k n * s)).length=min k n * s:=by
  rw[jH,hl];have:=gv s (Nat.min_le_right k n);omega
 have e1:gq (n:Int) db s 0 k=gq (n:Int) db s 0 (min k n)++gq (n:Int) db s (0+((min k n:Nat):Int)) z:=by
  conv=>lhs;rw[hz]
  exact UL _ _ _ _ _ _
 rw[e1,vL,show (0:Int)=((0:Nat):Int) from rfl,Ns db s 0 (min k n) oM];have e2:(gq (n:Int) db s (((0:Nat):Int)+((min k n:Nat):Int)) z).flatten=eE (z * s) 0:=by
  rcases rR z with h|h
  ·subst h;simp[gq]
  exact Vn db s _ z (.inr oM)
 rw[e2];unfold splice;rw[hlen,A7,qn,PS,gY,py,vK];congr 2
 rw[<- DH];congr 1
 omega
def afl(hl:db.length=n * s)(k:Nat):(gq (n:Int) db s ((n:Int)-k) k).flatten=splice (eE (k * s) 0) ((k-min k n) * s) (((db.drop ((n-min k n) * s)).take (n * s-(n-min k n) * s)).take (min k n * s)):=by
 have ht:n * s-(n-min k n) * s=min k n * s:=by rw[<- DH];congr 1;omega
 rw[ht,Bp,A8];have hlen:((db.drop ((n-min k n) * s)).take (min k n * s)).length=min k n * s:=by
  rw[jH,qX,hl];omega
 have e1:gq (n:Int) db s ((n:Int)-k) k=gq (n:Int) db s ((n:Int)-k) (k-min k n)++gq (n:Int) db s ((n:Int)-k+((k-min k n:Nat):Int)) (min k n):=by
  conv=>lhs;rw[show k=(k-min k n)+min k n by omega]
  rw[UL];congr 2 <;> omega
 have e2:(gq (n:Int) db s ((n:Int)-k) (k-min k n)).flatten=eE ((k-min k n) * s) 0:=by
  rcases rR (k-min k n) with h|h
  ·rw[h];simp[gq]
  exact Vn db s _ _ (.inl oM)
 rw[e1,vL,e2,show (n:Int)-k+((k-min k n:Nat):Int)=((n-min k n:Nat):Int) by omega,Ns db s _ (min k n) oM];unfold splice;rw[hlen,List.take_replicate,PS,uA (gv s (Nat.sub_le k (min k n))),<- Nat.add_mul,show k-min k n+min k n=k by omega,qt];simp
def ah1(h:fy ((n:Int)::row)=b_)(hk:k<=n):fy ((k:Int)::row)=b_:=by
 have e:=g_ h;have hb:=e.2.2.2.2.2;simp only[gV,fO,fQ,fW,vJ] at hb;have hn:=rM hb.2.1;have nn:0<=eR row:=AD λx hx=>(rM (ga.1 hb.2.2 x hx)).1;have e3:=e.2.2.1;rw[oF] at e3;have:=Im (show (k:Int)<=(n:Int) by omega) nn;simp only[fy,gV,fO,fQ,fW,vJ,oF];exact⟨⟨hb.1,by simp[jc];omega,hb.2.2⟩,oM⟩
def Ng(h:okB ((n:Int)::row,db)=b_){i j:Nat}(hij:i<=j)(hj:j<=n):span (n:Int) row db i j=.ok (((j-i:Nat):Int)::row,(db.drop (i * eQ row)).take (j * eQ row-i * eQ row)):=by
 obtain⟨n',e,hn,-⟩:=ke h;have:n'=n:=oM;subst this;unfold span;rw[show (j:Int)-i=((j-i:Nat):Int) by omega,eB oM,eD (ah1 (ok_eq h).1 oM),qp,Ns db (eQ row) i (j-i) oM,DH]
def Wg(h:gV row=b_)(h2:row.length<=2):eR row<=1000000:=by
 simp only[gV,fO,fQ] at h;match row,h2,h.2 with
 |[],_,_=>simp[eR]
 |[a],_,h=>simp[jc] at h;simp[eR];omega
 |[a,b],_,h =>
  simp[jc] at h
  obtain⟨⟨a0,a1⟩,b0,b1⟩:=h;have:=AT a0 a1 b0 b1;simp[eR]
  omega
def aed(h:okB ((n:Int)::row,db)=b_){m:Int}(hm:m=k\/(m<0/\m=-(k:Int))):(if m<0 then span (n:Int) row db (n+m) n else span (n:Int) row db 0 m)=if fy ((k:Int)::row)=b_ then .ok ((k:Int)::row,(gq (n:Int) db (eQ row) (if m<0 then (n:Int)-k else 0) k).flatten) else .error 6:=by
 have Jz:1000<k->¬fy ((k:Int)::row)=b_:=λhk hf=>by
  have:=(g_ hf).2.2.2.2.1;simp only[vJ,fO] at this;have:=rM this.1;omega
 by_cases h0:m<0
 ·have SC:m=-(k:Int):=oM
  rw[eD h0,eD h0];unfold span;rw[show (n:Int)-(n+m)=(k:Int) by omega,show (n:Int)+m=(n:Int)-k by omega,qp];by_cases hk:1000<k
  ·rw[eD oM,eB (Jz hk)]
  rw[eB oM]
 have SC:m=(k:Int):=oM;rw[eB h0,eB h0];unfold span;rw[SC,show (k:Int)-0=(k:Int) by omega,qp];by_cases hk:1000<k
 ·rw[eD oM,eB (Jz hk)]
 rw[eB oM]
end Go.Proofs.YtiagfejlmafliaaGreatDoor.Pl
namespace Go.Proofs.YtiagfejlmafliaaGreatDoor
set_option linter.all false
open Go.Proofs.Tryz Pl
open Go.RowKit
set_option maxRecDepth 100000
set_option maxHeartbeats 16000000
open Pl (Ar)
open World renaming setCell->ez,alloc->ew
open List renaming range->eA,replicate->eE
open Option renaming some->a_,none->c_
open Bool renaming true->b_,false->d_
variable {ρ:Prop}
section
section
variable {P:nK} {w:Wd}
def akY.pe(h:ρ:=by
 have S9:Hid (∀W,Bl W0 W->Bx W w.1.size #[sX x0 n y0,sX x1 n1 y1] 30):=λW kk=>V0.o.1.below kk;refine fT (S:=λW=>Bx W w.1.size #[sX x0 n y0,sX x1 n1 y1] 30) kF (S9.o W0 (jD _ _)) (λhS=>?_);refine tk 1 (pT w.1.size) rfl hS (λ_ _=>kF) ?_;refine tk 2 _ rfl hS (λ_ h=>fh _ _ rfl kF (kC h)) ?_;refine tk 5 (.pointer (sY w.1.size 1)) rfl hS (λ_ _=>kF) ?_;refine tk 6 _ rfl hS (λ_ h=>fh _ _ rfl kF (jY h)) ?_;have KD:Bl W0 W0.drew:=gG;have sD:=KD.size;generalize W0.drew=Wd at *;have K3:Bl W0 (Wd.alloc (.cells #[I 1] 3)):=gG;refine tv 0 (sX (sY Wd.1.size 0) 1 1) _ rfl rfl (n_ 1 rfl kF) (S9.o _ K3) ?_;have LK:=mV Wd 1;have s3:=K3.size;generalize Wd.alloc _=W3,Wd.1.size=bl at *;have K7:Bl W0 (W3.alloc (.cells #[sX (sY bl 0) 1 1,sX x0 n y0] 23)):=gG;refine tv 3 (sX (sY W3.1.size 0) 2 2) _ rfl rfl (D4 rfl kF kF) (S9.o _ K7) ?_;refine tc 4 91 #[sX (sY W3.1.size 0) 2 2] rfl rfl kF ((xb EL.o oM sI J5 J5 ((LK.kp eY).jG λ_ _ _=>trivial) ((H.o.kp (.of (bv K7 V0.o.2.2.1))).jG (Q:=λ_=>True) λ_ _ _=>trivial)).mono ?_);rintro e W8 ⟨hb,ax,ay,rfl,oS⟩;have K8:=bv hb K7;have T:=V0.o.2.1.below K8;refine .inl ⟨_,rfl,S9.o _ K8,?_⟩;refine tk 7 (.agg #[sX ax (n+1) ay,sX x1 n1 y1]) rfl (S9.o _ K8) (λ_ _=>kF) ?_;refine ts 8 _ rfl rfl rfl (jf (pT (w.1.size+1)) (.agg #[sX ax (n+1) ay,sX x1 n1 y1]) rfl kF kF (mU T)) (((S9.o _ K8).eC sI _).eC sI _) ?_;refine te ?_;have vQ:=zH (oS.base (B':=w.1.size+2) (by have:=K7.size;have:=V0.o.2.2.2;omega));have BW:=zH (bv K8 V0.o.2.2.1);have HT:=zH T;obtain⟨c5,f5,z5⟩:=T.all;go_simp;go_wp2;refine eJ (by simp[results,results286,go_sem,c5];try rfl) rfl ?_;have m1:=vQ.o.ne HT.o dC;have:=BW.o;exact⟨gG,_,_,rfl,vQ.o.kp eY⟩
 ):ρ:=h
def VQ(v0:Va)(sh:lI)(x1:oA)(n1 y1:Nat){n:Nat}(h:Rw P w v0 sh)(e:sh.length=n)(hn:n<=1000):Cp 286 #[.agg #[v0,sX x1 n1 y1]] w λe w'=>Bl w w'/\∃x y,e=rT (.agg #[sX x (n+1) y,sX x1 n1 y1])/\Oi (w.1.size+2) w' (sX x (n+1) y) (1::sh):=by
 have H:=zH h;obtain⟨x0,y0,rfl,-⟩:=h;rw[e] at H ⊢;have EL:Hid (([(1:Int)]++sh).length=n+1):=by show _=_;simp[e]
 go_enter func286,ntmps286;open akY in exact pj
end
end
section
variable {W:Wd}{A B:Ar}{xU xT xS xR u0 u1:Va}{X:Prop}{h1 h2:Int}{t1 t2 da db:lI}
structure C2(w W:Wd)(A B:Ar)(xU xT xS xR:Va):Prop where
 a:Bx W w.1.size #[xU,xT] 30
 b:Bx W (w.1.size+1) #[xS,xR] 30
 r:Bx W (w.1.size+1+1) nN 30
 bl:Below w.1.size w W
 ra:RA (λb=>b<w.1.size\/w.1.size+3<=b) W xU xT A
 rb:RA (λb=>b<w.1.size\/w.1.size+3<=b) W xS xR B
def C2.below{w W':Wd}(h:C2 w W A B xU xT xS xR)(k:Bl W W'):C2 w W' A B xU xT xS xR:=⟨h.a.below k,h.b.below k,h.r.below k,bv k h.bl,h.ra.kp (.of k),h.rb.kp (.of k)⟩
def C2.Jw{w:Wd}{A':Ar}(h:C2 w W A B xU xT xS xR)(ra:RA (λb=>b<w.1.size\/w.1.size+3<=b) W u0 u1 A'):C2 w ((W.setCell (Y w.1.size 0) u0).setCell (Y w.1.size 1) u1) A' B u0 u1 xS xR :=
 have k:Kp (λb=>b<w.1.size\/w.1.size+3<=b) W ((W.setCell (Y w.1.size 0) u0).setCell (Y w.1.size 1) u1):=((Kp.refl _ _).set sI _).set sI _;⟨(h.a.set 0 _).set 1 _,(h.b.eC sI _).eC sI _,(h.r.eC J2 _).eC J2 _,by have:=h.bl;go_grown,ra.kp k,h.rb.kp k⟩
def C2.Jv{w:Wd}{B':Ar}(h:C2 w W A B xU xT xS xR)(rb:RA (λb=>b<w.1.size\/w.1.size+3<=b) W u0 u1 B'):C2 w ((W.setCell (Y (w.1.size+1) 0) u0).setCell (Y (w.1.size+1) 1) u1) A B' xU xT u0 u1 :=
 have k:Kp (λb=>b<w.1.size\/w.1.size+3<=b) W ((W.setCell (Y (w.1.size+1) 0) u0).setCell (Y (w.1.size+1) 1) u1):=((Kp.refl _ _).set sI _).set sI _;⟨(h.a.eC sI _).eC sI _,(h.b.set 0 _).set 1 _,(h.r.eC sI _).eC sI _,by have:=h.bl;go_grown,h.ra.kp k,rb.kp k⟩
def ZT (h:X:=by
 have k1:=bv hb1 KD;have T1:=T0.o.below k1;refine tc 3 _ _ rfl rfl kF ((KB.o w1 T1.bl).mono ?_);rintro e w2 ⟨hb2,x6,l6,y6,x7,l7,y7,rfl,rb⟩;have T2:=T1.below hb2;have z1:=T1.r.lt;have tW:=(ra.kp (.of hb2)).mono (Q:=λb=>b<w.1.size\/w.1.size+3<=b) λb h _=>by have:=KD.size;have:=T0.o.r.lt;omega
 have RB2:=rb.mono (Q:=λb=>b<w.1.size\/w.1.size+3<=b) λb h _=>oM;have T3:=T2.Jw tW;have T4:=T3.Jv (RB2.kp (w':=(w2.setCell (Y w.1.size 0) (sX x4 l4 y4)).setCell (Y w.1.size 1) (sX x5 l5 y5)) (((Kp.refl _ _).set sI _).set sI _));refine .inl ⟨_,rfl,trivial,?_⟩;refine ts 4 _ rfl rfl rfl (jf (pT w.1.size) (.agg #[sX x4 l4 y4,sX x5 l5 y5]) rfl kF kF (mU T2.a)) trivial ?_;refine ts 5 _ rfl rfl rfl (jf (pT (w.1.size+1)) (.agg #[sX x6 l6 y6,sX x7 l7 y7]) rfl kF kF (mU T3.b)) trivial ?_;refine te ?_;have T5:=zH T4;clear T0 T1 T2 T3 T4 tW RB2 ra rb hb1 hb2 k1 KD;generalize ez (ez (ez (ez w2 _ _) _ _) _ _) _ _=W9 at *;go_simp;go_wp2;go_meet
 exact⟨_,_,_,_,_,_,_,_,_,_,_,_,T5⟩):X:=h
namespace Pl
def XN(hl:t1.length=t2.length)(ht:¬t1=t2):pH (h1::t1,da) (h2::t2,db)=.error 3:=by
 unfold pH;rw[eB (by simp[hl]),eD Jr]
def XO(ht:t1=t2):pH (h1::t1,da) (h2::t2,db)=if fy ((h1+h2)::t1)=b_ then .ok ((h1+h2)::t1,da++db) else .error 6:=by
 subst ht;unfold pH;rw[eB sI,eB sI];rfl
end Pl
def NL (h:X:=by
 have⟨g1,u1,TG,lF,xN⟩:=TC.o.ra.1.rw.at (i:=0) rfl;have⟨g2,u2,TF,kO,xM⟩:=TC.o.rb.1.rw.at (i:=0) rfl;rw[iz] at xN xM;subst TG TF;have H1:=zH TC.o.ra.1.tl;have H2:=zH TC.o.rb.1.tl;rw[show q+1-1=q by omega] at H1 H2;have vm:=zH λW=>mO (w:=W) (x:=sY g1 u1) (n:=q+1) (y:=y4) (l:=1) oM;have yJ:=zH λW=>mO (w:=W) (x:=sY g2 u2) (n:=q+1) (y:=y6) (l:=1) oM;rw[show q+1-1=q by omega] at vm yJ;generalize fU (sY g1 u1) 1 y4=xl,y4-1=yl,fU (sY g2 u2) 1 y6=xm,y6-1=ym at *;have SE:=zH (Gg _ _ t1 t2 (H1.o.rw.kp (.of (show Bl wc wc.drew from by go_grown))) (H2.o.rw.kp (.of (show Bl wc wc.drew from by go_grown))) JT (by rw[E2.o];omega));have S9:Hid (∀W,Bl wc W->Bx W w.1.size #[sX (sY g1 u1) (q+1) y4,sX x5 l5 y5] 30/\Bx W (w.1.size+1) #[sX (sY g2 u2) (q+1) y6,sX x7 l7 y7] 30):=λW kk=>⟨(TC.o.below kk).a,(TC.o.below kk).b⟩;refine fT (S:=λW=>Bx W w.1.size #[sX (sY g1 u1) (q+1) y4,sX x5 l5 y5] 30/\Bx W (w.1.size+1) #[sX (sY g2 u2) (q+1) y6,sX x7 l7 y7] 30) kF (S9.o wc (jD _ _)) (λhS=>?_);refine tk 0 (pT w.1.size) rfl hS (λ_ _=>kF) ?_;refine tk 1 _ rfl hS (λ_ h=>fh _ _ rfl kF (kC h.1)) ?_;refine tk 2 (sX xl q yl) rfl hS (λW _=>ie rfl kF kF (vm.o W)) ?_;refine tk 3 (pT (w.1.size+1)) rfl hS (λ_ _=>kF) ?_;refine tk 4 _ rfl hS (λ_ h=>fh _ _ rfl kF (kC h.2)) ?_;refine tk 5 (sX xm q ym) rfl hS (λW _=>ie rfl kF kF (yJ.o W)) ?_;refine tc 6 _ _ rfl rfl kF (SE.o.mono ?_);rintro e B ⟨rfl,hb⟩;have KB:Bl wc B:=bv hb;refine .inl ⟨_,rfl,S9.o _ KB,?_⟩;by_cases ht:t1=t2
 rotate_left
 ·rw[fH ht]
  have eN:r=.error 3:=by rw[hr.o,XN (by rw[E1.o,E2.o]) ht]
  subst eN;refine tk 7 (.bool b_) rfl (S9.o _ KB) (λ_ _=>kF) ?_;refine tc 8 229 #[.bool b_,I 3] rfl rfl kF ((kY _ _).mono ?_);rintro e B ⟨rfl,rfl⟩;exact .inr ⟨_,rfl,rfl,KP.err (TC.o.below KB).bl⟩
 rw[fM ht];have eN:Hid (r=if Pl.fy ((h1+h2)::t1)=b_ then .ok ((h1+h2)::t1,da++db) else .error 6):=by show _=_;rw[hr.o,XO ht]
 refine tk 7 (.bool d_) rfl (S9.o _ KB) (λ_ _=>kF) ?_;refine tc 8 229 #[.bool d_,I 3] rfl rfl kF ((iV _ _).mono ?_);rintro e B ⟨rfl,rfl⟩;refine .inl ⟨_,rfl,S9.o _ KB,?_⟩;refine te ?_;clear hS SE hb hr ht;go_simp;go_wp2_with fail;have TB:=TC.o.below KB;have lg1:g1<B.1.size:=by have:=KB.size;omega
 have lg2:g2<B.1.size:=by have:=KB.size;omega
 have S8:Hid (∀W,Bl B W->Bx W w.1.size #[sX (sY g1 u1) (q+1) y4,sX x5 l5 y5] 30/\Bx W (w.1.size+1) #[sX (sY g2 u2) (q+1) y6,sX x7 l7 y7] 30/\W.cell? (Y g1 u1)=a_ (I h1)/\W.cell? (Y g2 u2)=a_ (I h2)):=λW kk=>⟨(TB.below kk).a,(TB.below kk).b,((bv kk KB).cell (p:=(Y g1 u1)) lF).trans xN,((bv kk KB).cell (p:=(Y g2 u2)) kO).trans xM⟩;have QL:IntKind.i64.wrap (h1+h2)=h1+h2:=by rw[lj];omega
 refine fT (S:=λW=>Bx W w.1.size #[sX (sY g1 u1) (q+1) y4,sX x5 l5 y5] 30/\Bx W (w.1.size+1) #[sX (sY g2 u2) (q+1) y6,sX x7 l7 y7] 30/\W.cell? (Y g1 u1)=a_ (I h1)/\W.cell? (Y g2 u2)=a_ (I h2)) kF (S8.o B (jD _ _)) (λhS=>?_);refine tk 0 (pT w.1.size) rfl hS (λ_ _=>kF) ?_;refine tk 1 _ rfl hS (λ_ h=>fh _ _ rfl kF (kC h.1)) ?_;refine tk 2 (.pointer (sY g1 u1)) rfl hS (λ_ _=>nD (sX (sY g1 u1) (q+1) y4) (I ((0:Nat):Int)) rfl kF kF (qx (k:=0) oM)) ?_;refine tk 3 _ rfl hS (λ_ h=>fh _ _ rfl kF (nh h.2.2.1)) ?_;refine tk 4 (pT (w.1.size+1)) rfl hS (λ_ _=>kF) ?_;refine tk 5 _ rfl hS (λ_ h=>fh _ _ rfl kF (kC h.2.1)) ?_;refine tk 6 (.pointer (sY g2 u2)) rfl hS (λ_ _=>nD (sX (sY g2 u2) (q+1) y6) (I ((0:Nat):Int)) rfl kF kF (qx (k:=0) oM)) ?_;refine tk 7 _ rfl hS (λ_ h=>fh _ _ rfl kF (nh h.2.2.2)) ?_;refine tk 8 (I (h1+h2)) rfl hS (λ_ _=>by go_simp) ?_;refine tk 10 (pT w.1.size) rfl hS (λ_ _=>kF) ?_;refine tk 11 _ rfl hS (λ_ h=>fh _ _ rfl kF (kC h.1)) ?_;refine tk 12 (sX xl q yl) rfl hS (λW _=>ie rfl kF kF (vm.o W)) ?_;have KD:Bl B B.drew:=gG;have sD:=KD.size;have EL:([h1+h2]++t1).length=q+1:=by simp[E1.o]
 generalize h1+h2=hs at *;clear hS QL xN xM;generalize B.drew=Wd at *;have K3:Bl B (Wd.alloc (.cells #[I hs] 3)):=gG;refine tv 9 (sX (sY Wd.1.size 0) 1 1) _ rfl rfl (n_ _ rfl kF) (S8.o _ K3) ?_;have LK:=mV Wd hs;have s3:=K3.size;generalize Wd.alloc _=W3,Wd.1.size=bl at *;have K7:Bl B (W3.alloc (.cells #[sX (sY bl 0) 1 1,sX xl q yl] 23)):=gG;refine tv 13 (sX (sY W3.1.size 0) 2 2) _ rfl rfl (D4 rfl kF kF) (S8.o _ K7) ?_;refine tc 14 91 #[sX (sY W3.1.size 0) 2 2] rfl rfl kF ((xb EL oM sI J5 J5 (LK.kp eY) ((H1.o.rw.kp (.of (bv K7 KB))).jG λ_ _ _=>trivial)).mono ?_);rintro e C ⟨hb,ax,ay,rfl,oS⟩;have KC:=bv hb K7;refine .inl ⟨_,rfl,S8.o _ KC,?_⟩;refine tk 15 (sX ax (q+1) ay) rfl (S8.o _ KC) (λ_ _=>kF) ?_;refine te ?_;have TD:=zH (TB.below KC);have vQ:Hid (Oi w.1.size C (sX ax (q+1) ay) (hs::t1)):=oS.base (by have:=K7.size;have:=TB.bl.size;omega);have NF:=zH (yO (w:=C) _ (hs::t1) vQ.o.ri.rw);clear hb oS K3 K7 KC TB KB LK S8 S9 TC vm yJ H1 H2 sD s3 KD lg1 lg2 lF kO;go_simp
 cases hft:Pl.fy (hs::t1)
 ·rw[hft,eB dC] at eN
  have gC:=eN.o;subst gC;rw[hft] at NF;go_wp2_with fail;refine NF.o.mono ?_;rintro e w' ⟨rfl,he⟩;obtain rfl:e=.panicked [lR 6]:=he;exact⟨rfl,KP.err TD.o.bl⟩
 rw[hft,eD rfl] at eN;have gC:=eN.o;subst gC;rw[hft] at NF;have c3:=TD.o.a.cf.1;have z3:=TD.o.a.lt;have c4:=TD.o.b.cf.1;have z4:=TD.o.b.lt;have ED:Hid ((da++db).length=l5+l7):=by show _=_;rw[hJ,I5.o,I7.o]
 clear hft eN;go_wp2_with fail;refine NF.o.mono ?_;rintro e C ⟨rfl,he⟩;obtain rfl:e=rT (.tuple #[]):=he;go_wp2_with fail;generalize hW:ew C _=W6;have V6:=jV hW;clear hW c3 z3 c4 z4;have T6:=TD.o.below V6.o.2.1;refine(xb ED.o oM V6.o.1.lt (V6.o.1.cf.1 0) (V6.o.1.cf.1 1) T6.ra.2.rw T6.rb.2.rw).mono ?_;rintro e w8 ⟨hb8,dx,dy,rfl,o8⟩;have k8:=bv hb8 V6.o.2.1;have V8:=zH (jA (TD.o.below k8) (jA (vQ.o.kp (.of k8)) (o8.base (B':=w.1.size) (by have:=T6.bl.size;omega))));obtain⟨c5,f5,z5⟩:=V8.o.1.r.all;clear hb8 o8 k8 T6 V6;go_wp2;refine eJ (by simp[results,results266,go_sem,c5];try rfl) rfl ?_;exact KP.put V8.o.2.1 V8.o.2.2 (jR _) V8.o.1.r V8.o.1.bl oM _ _):X:=h
section
variable {P:nK} {w:Wd}
def amH.lH(h:ρ:=by
 have KA:=zH λW (k:Bl w W)=>CZ _ _ a (h.kp (.of k)) (Pl.ok_eq ha).2.2.2.2;have KB:=zH λW (k:Bl w W)=>CZ _ _ b (h'.kp (.of k)) (Pl.ok_eq hb).2.2.2.2;have⟨r,HR⟩:∃r,Hid (r=Pl.cat a b):=⟨_,rfl⟩;rw[<- HR.o];unfold Pl.cat at HR;have LA:=zH (Pl.AG ha);have LB:=zH (Pl.AG hb);have OA:=zH (Pl.vy ha).1;have OB:=zH (Pl.vy hb).1;clear h h' ha hb;generalize a.1.length=p0,a.2.length=p1,b.1.length=p2,b.2.length=p3 at *;have E8:Hid (∀W,(((w.alloc (.cells #[sX x0 p0 y0,sX x1 p1 y1] 30)).alloc (.cells #[sX x2 p2 y2,sX x3 p3 y3] 30)).alloc (.cells nN 30))=W->C2 w W a b (sX x0 p0 y0) (sX x1 p1 y1) (sX x2 p2 y2) (sX x3 p3 y3)):=λW hW=>by
  exact Y'
 go_enter func266,ntmps266;go_wp2_with fail;generalize hW:ew (ew (ew w _) _) _=W0;have T0:=zH (E8.o _ hW);clear hW E8 H;go_cut [] from 6 (λW=>∃x4 l4 y4 x5 l5 y5 x6 l6 y6 x7 l7 y7,Hid (C2 w W (Pl.iw a) (Pl.iw b) (sX x4 l4 y4) (sX x5 l5 y5) (sX x6 l6 y6) (sX x7 l7 y7)))
 case first =>
  refine fT (S:=λ_=>True) kF trivial (λhS=>?_);have KD:Bl W0 W0.drew:=gG;generalize W0.drew=Wd at *;have TD:=zH (T0.o.below KD);refine gT 0 2 rfl rfl ?_ ?_
  ·refine iL (.agg #[sX x0 p0 y0,sX x1 p1 y1]) Wd rfl (fh (pT w.1.size) _ rfl kF (oL TD.o.a)) trivial ?_
   refine gT 1 2 rfl rfl ?_ ?_
   ·refine lC rfl kF ((KA.o Wd TD.o.bl).mono ?_)
    rintro e w1 ⟨hb1,x4,l4,y4,x5,l5,y5,rfl,ra⟩;refine⟨_,rfl,trivial,?_⟩;refine tv 2 (.agg #[sX x2 p2 y2,sX x3 p3 y3]) w1 rfl rfl (fh (pT (w.1.size+1)) _ rfl kF (oL (TD.o.below hb1).b)) trivial ?_;exact ZT
   refine iL (.agg #[sX x2 p2 y2,sX x3 p3 y3]) Wd rfl (fh (pT (w.1.size+1)) _ rfl kF (oL TD.o.b)) trivial ?_;exact Zd
  refine iL (.agg #[sX x2 p2 y2,sX x3 p3 y3]) Wd rfl (fh (pT (w.1.size+1)) _ rfl kF (oL TD.o.b)) trivial ?_;refine tv 0 (.agg #[sX x0 p0 y0,sX x1 p1 y1]) Wd rfl rfl (fh (pT w.1.size) _ rfl kF (oL TD.o.a)) trivial ?_;exact Zd
 case rest =>
  clear T0 KA KB;obtain⟨x4,l4,y4,x5,l5,y5,x6,l6,y6,x7,l7,y7,TC⟩:=hcut;obtain⟨_,_,m1,t1,e1,k1,gJ,aaR⟩:=LA.o;obtain⟨_,_,m2,t2,e2,k2,fY,aaQ⟩:=LB.o;have EV:=(Pl.ok_eq OA.o).2.2.2.2;have EU:=(Pl.ok_eq OB.o).2.2.2.2;generalize Pl.iw a=A,Pl.iw b=B at *;obtain⟨sa,da⟩:=A;obtain⟨sb,db⟩:=B;obtain rfl:sa=m1::t1:=e1;obtain rfl:sb=m2::t2:=e2;have i4:t1.length+1=l4:=TC.o.ra.1.rw.len;have i6:t2.length+1=l6:=TC.o.rb.1.rw.len;have i5:da.length=l5:=TC.o.ra.2.rw.len;have i7:db.length=l7:=TC.o.rb.2.rw.len;subst i4 i6;simp only at EV EU;rw[i5] at EV;rw[i7] at EU;have I5:=zH i5;have I7:=zH i7;clear LA LB OA OB i5 i7;have⟨q1,E1⟩:=jN (t1.length);have⟨q2,E2⟩:=jN (t2.length);rw[E1.o] at TC k1;rw[E2.o] at TC k2;have c0:=TC.o.a.cf.1;have z0:=TC.o.a.lt;have c1:=TC.o.b.cf.1;have z1:=TC.o.b.lt;have j9:(q1=q2)\/(q2=q1+1)\/(q1=q2+1)\/(¬q1=q2/\¬q2=q1+1/\¬q1=q2+1):=oM;rcases j9 with rfl|rfl|rfl|⟨n1,n2,n3⟩
  rotate_left 3
  ·have hr:r=.error 2:=by
    rw[HR.o,Pl.kL,Pl.kL,eB Jo,eB Jo,Pl.pH,eD Jo]
   subst hr;have j0:((q1:Int)+1-((q2:Int)+1) == -1)=d_:=by rw[gR];omega
   have j1:((q1:Int)+1-((q2:Int)+1) == 1)=d_:=by rw[gR];omega
   have j2:((q1:Int)+1 != (q2:Int)+1)=b_:=by rw[iH];omega
   go_wp2_with (go_at_call 229;refine(kY _ _).mono ?_;rintro e w7 ⟨rfl,rfl⟩)
   exact⟨rfl,KP.err TC.o.bl⟩
  ·have hr:Hid (r=Pl.pH (m1::t1,da) (m2::t2,db)):=by
    show _=_;rw[HR.o,Pl.kL,Pl.kL,eB Jp,eB Jp]
   obtain⟨h1,rfl⟩:∃z,z=m1:=⟨_,rfl⟩;obtain⟨h2,rfl⟩:∃z,z=m2:=⟨_,rfl⟩;obtain⟨q,rfl⟩:∃z,z=q1:=⟨_,rfl⟩;go_wp2_with (go_at_call 229;refine(iV _ _).mono ?_;rintro e wc ⟨rfl,rfl⟩)
   clear c0 z0 c1 z1;exact NL
  ·have hr:Hid (r=Pl.pH (1::m1::t1,da) (m2::t2,db)):=by
    show _=_;rw[HR.o,Pl.kL,Pl.kL,eD Jp,eB Jp]
   have KR:=zH (VQ _ (m1::t1) x5 l5 y5 TC.o.ra.1.rw (n:=q1+1) (by simp[E1.o]) oM);have⟨h1,pO⟩:∃z:Int,1=z:=⟨1,rfl⟩;rw[pO] at hr;have⟨t3,ni⟩:∃t,m1::t1=t:=⟨_,rfl⟩;have E3:Hid (t3.length=q1+1):=by rw[<- ni];show _=_;simp[E1.o]
   have a1:0<=h1:=oM;have a2:h1<=1000:=oM;rw[ni] at hr;have PT:Hid (∀o:lI,o=1::m1::t1->o=h1::t3):=λo e=>by rw[e,pO,ni]
   clear pO ni E1;go_wp2_with fail;refine KR.o.mono ?_;rintro e w5 ⟨kV,x4,y4,rfl,o8⟩;have o9:=PT.o _ rfl ▸ o8;have T5:=TC.o.below kV;have T6:=zH (T5.Jw (A':=(h1::t3,da)) ⟨(o9.o (B0:=w.1.size+3) (Kp.refl _ _) (by have:=TC.o.r.lt;omega)).mono λb h _=>.inr h,T5.ra.2⟩);have c0:=T5.a.cf.1;have f0:=T5.a.cf.2;have z0:=T5.a.lt;have c1:=T5.b.cf.1;have z1:=T5.b.lt;clear kV o8 o9 T5 TC KR PT;go_wp2_with (go_at_call 229;refine(iV _ _).mono ?_;rintro e w7 ⟨rfl,rfl⟩)
   clear c0 f0 z0 c1 z1;generalize ez (ez w5 _ _) _ _=wc at *;have TC:=T6;have E1:=E3;obtain⟨t1,rfl⟩:∃t,t=t3:=⟨_,rfl⟩;obtain⟨h2,rfl⟩:∃z,z=m2:=⟨_,rfl⟩;generalize q1+1=q at *;exact NL
  have hr:Hid (r=Pl.pH (m1::t1,da) (1::m2::t2,db)):=by
   show _=_;rw[HR.o,Pl.kL,Pl.kL,eB JU,eD Jp]
  have KR:=zH (VQ _ (m2::t2) x7 l7 y7 TC.o.rb.1.rw (n:=q2+1) (by simp[E2.o]) oM);have⟨h2,pO⟩:∃z:Int,1=z:=⟨1,rfl⟩;rw[pO] at hr;have⟨t3,ni⟩:∃t,m2::t2=t:=⟨_,rfl⟩;have E3:Hid (t3.length=q2+1):=by rw[<- ni];show _=_;simp[E2.o]
  have a1:0<=h2:=oM;have a2:h2<=1000:=oM;rw[ni] at hr;have PT:Hid (∀o:lI,o=1::m2::t2->o=h2::t3):=λo e=>by rw[e,pO,ni]
  clear pO ni E2;have j0:((q2:Int)+1+1-((q2:Int)+1) == -1)=d_:=by rw[gR];omega
  go_wp2_with fail;refine KR.o.mono ?_;rintro e w5 ⟨kV,x6,y6,rfl,o8⟩;have o9:=PT.o _ rfl ▸ o8;have T5:=TC.o.below kV;have T6:=zH (T5.Jv (B':=(h2::t3,db)) ⟨(o9.o (B0:=w.1.size+3) (Kp.refl _ _) (by have:=TC.o.r.lt;omega)).mono λb h _=>.inr h,T5.rb.2⟩);have c0:=T5.a.cf.1;have f0:=T5.b.cf.2;have z0:=T5.a.lt;have c1:=T5.b.cf.1;have z1:=T5.b.lt;clear kV o8 o9 T5 TC KR PT j0;go_wp2_with (go_at_call 229;refine(iV _ _).mono ?_;rintro e w7 ⟨rfl,rfl⟩)
  clear c0 f0 z0 c1 z1;generalize ez (ez w5 _ _) _ _=wc at *;have TC:=T6;have E2:=E3;obtain⟨t2,rfl⟩:∃t,t=t3:=⟨_,rfl⟩;obtain⟨h1,rfl⟩:∃z,z=m1:=⟨_,rfl⟩;generalize q2+1=q at *;exact NL
 ):ρ:=h
def aid(v0 v1 v2 v3:Va)(a b:Ar)(h:RA P w v0 v1 a)(h':RA P w v2 v3 b)(ha:Pl.okB a=b_)(hb:Pl.okB b=b_):Cp 266 #[.agg #[v0,v1],.agg #[v2,v3]] w (KP w (Pl.cat a b)):=by
 have h:=h.mono (Q:=λb=>b<w.1.size) λb _ k=>k;have h':=h'.mono (Q:=λb=>b<w.1.size) λb _ k=>k;have H:=zH (jA h h');open amH in exact lO
end
end
def DQ{X:Prop}(h:X:=by
 go_enter func105,ntmps105;go_wp2_with fail;generalize hW:ew (ew w _) _=W0;have V0:=jU hW;refine(KA.o _ V0.o.2.2.1).l λw1 hb=>?_;have V1:=zH (jA (V0.o.1.below hb) (jA (V0.o.2.1.below hb) (bv hb V0.o.2.2.1)));obtain⟨c0,f0,z0⟩:=V1.o.1.all;go_wp2_with fail;refine(KE.o _ V1.o.2.2).mono ?_;rintro e w3 ⟨hb,x4,l4,y4,x5,l5,y5,rfl,ra⟩;have V3:=zH (jA (V1.o.2.1.below hb) (jA (bv hb V1.o.2.2) (jA V1.o.2.1.lt ra)));obtain⟨c3,f3,z3⟩:=V3.o.1.all;go_wp2;refine eJ Je rfl ?_;exact SP.put (r:=.ok _) V3.o.2.2.2 V3.o.2.1 oM V3.o.2.2.1 _ _):X:=h
def aj2.GP(h:ρ:=by
 go_wp2_with fail;have K4:Bl w1 (w1.alloc (.cells #[] 3)):=gG;have O4:=zH (Oi.emp (w:=w1) (jR _));generalize w1.alloc _=W4 at *;refine(KE.o W4 (bv K4 V1.o.2.2)).l λw3 hb=>?_;have K6:=bv hb K4;have s6:=K6.size;have B6:=bv K6 V1.o.2.2;have R6:=zH (V1.o.2.1.below K6);have O6:=zH (O4.o.kp (.of hb));have l6:=V1.o.2.1.lt;have R5:Hid (∀x y,RA (w1.1.size<=·) (((w3.setCell (Y (w.1.size+1) 0) x).setCell (Y (w.1.size+1) 1) y).alloc (.cells #[I r] 3)) (sX (sY w1.1.size 0) 0 0) (sX (sY w3.1.size 0) 1 1) ([],[r])):=λx y=>by
  have o1:=Oi.one (B:=w1.1.size) (w:=(w3.setCell (Y (w.1.size+1) 0) x).setCell (Y (w.1.size+1) 1) y) J2 r;rw[show ((w3.setCell (Y (w.1.size+1) 0) x).setCell (Y (w.1.size+1) 1) y).1.size=w3.1.size by simp] at o1;exact YI
 obtain⟨c3,f3,z3⟩:=R6.o.all;go_wp2;refine eJ (by simp[results,results105,go_sem, *];try rfl) rfl ?_;exact⟨gG,_,_,rfl,(R5.o _ _).mono λb h _=>oM⟩
 ):ρ:=h
def aj1.GP(h:ρ:=by
 go_wp2_with fail;refine(KE.o _ V1.o.2.2).mono ?_;rintro e w3 ⟨hb,u0,u1,rfl,ra⟩;obtain⟨⟨x4,y4,rfl⟩,x5,y5,rfl⟩:=ra.eS;have V3:=zH (jA (V1.o.2.1.below hb) (jA (bv hb V1.o.2.2) (jA V1.o.2.1.lt ra)));obtain⟨c3,f3,z3⟩:=V3.o.1.all;go_wp2;refine eJ Je rfl ?_;exact SP.put V3.o.2.2.2 V3.o.2.1 oM V3.o.2.2.1 _ _
 ):ρ:=h
def amw.Qa(h:ρ:=by
 have hl:=(Pl.ok_eq ha).2.2.2.1;have hd:=(Pl.ok_eq ha).2.2.2.2;obtain⟨⟨x0,y0,rfl⟩,x1,y1,rfl⟩:=h.eS;by_cases hf:1<=f/\f<=7
 ·have hc:f=1\/f=2\/f=3\/f=4\/f=5\/f=6\/f=7:=oM
  rcases hc with rfl|rfl|rfl|rfl|rfl|rfl|rfl
  rotate_left 6
  ·show Calls _ _ _ _ (SP w (.ok ([],[Pl.u_ a])))
   have KE:=zH λW (k:Bl w W)=>acR _ _ a (h.kp (.of k));generalize a.1.length=p0,a.2.length=p1,Pl.u_ a=r at *;go_enter func105,ntmps105;go_wp2_with fail;open aj2 in exact Ho
  ·show Calls _ _ _ _ (SP w (Pl.iota a))
   have KE:=zH λW (k:Bl w W)=>adP _ _ a (h.kp (.of k)) ha;generalize a.1.length=p0,a.2.length=p1,Pl.iota a=r at *;go_enter func105,ntmps105;go_wp2_with fail;open aj1 in exact Ho
  ·show Calls _ _ _ _ (SP w (.ok ([(a.1.length:Int)],a.1)))
   have KE:Hid (∀W,Bl w W->Cp 76 #[sX x0 a.1.length y0] W λe w'=>Bl W w'/\∃x4 l4 y4 x5 l5 y5,e=rT (.agg #[sX x4 l4 y4,sX x5 l5 y5])/\RA (W.1.size<=·) w' (sX x4 l4 y4) (sX x5 l5 y5) ([(a.1.length:Int)],a.1)):=λW k=>(sH _ a.1 W (h.kp (.of k)).1.rw oM).mono λe w' ⟨hb,x0,y0,x1,y1,he,ra⟩=>⟨hb,_,_,_,_,_,_,he,ra⟩;generalize ([(a.1.length:Int)],a.1)=r at *;generalize a.1.length=p0,a.2.length=p1 at *;exact DQ
  ·show Calls _ _ _ _ (SP w (.ok ([(a.2.length:Int)],a.2)))
   have KE:Hid (∀W,Bl w W->Cp 76 #[sX x1 a.2.length y1] W λe w'=>Bl W w'/\∃x4 l4 y4 x5 l5 y5,e=rT (.agg #[sX x4 l4 y4,sX x5 l5 y5])/\RA (W.1.size<=·) w' (sX x4 l4 y4) (sX x5 l5 y5) ([(a.2.length:Int)],a.2)):=λW k=>(sH _ a.2 W (h.kp (.of k)).2.rw oM).mono λe w' ⟨hb,x0,y0,x1,y1,he,ra⟩=>⟨hb,_,_,_,_,_,_,he,ra⟩;generalize ([(a.2.length:Int)],a.2)=r at *;generalize a.1.length=p0,a.2.length=p1 at *;exact DQ
  ·show Calls _ _ _ _ (SP w (.ok (Pl.rev a)))
   have KE:Hid (∀W,Bl w W->Cp 130 #[.agg #[sX x0 a.1.length y0,sX x1 a.2.length y1]] W λe w'=>Bl W w'/\∃x4 l4 y4 x5 l5 y5,e=rT (.agg #[sX x4 l4 y4,sX x5 l5 y5])/\RA (W.1.size<=·) w' (sX x4 l4 y4) (sX x5 l5 y5) (Pl.rev a)):=λW k=>(aeS _ _ a (h.kp (.of k)) ha).mono λe w' ⟨hb,x0,l0,y0,x1,l1,y1,he,ra⟩=>⟨hb,_,_,_,_,_,_,he,ra.mono λb h _=>oM⟩;generalize a.1.length=p0,a.2.length=p1,Pl.rev a=r at *;exact DQ
  ·show Calls _ _ _ _ (SP w (.ok (Pl.flip a)))
   have KE:Hid (∀W,Bl w W->Cp 131 #[.agg #[sX x0 a.1.length y0,sX x1 a.2.length y1]] W λe w'=>Bl W w'/\∃x4 l4 y4 x5 l5 y5,e=rT (.agg #[sX x4 l4 y4,sX x5 l5 y5])/\RA (W.1.size<=·) w' (sX x4 l4 y4) (sX x5 l5 y5) (Pl.flip a)):=λW k=>(adR _ _ a (h.kp (.of k)) ha).mono λe w' ⟨hb,u0,u1,he,ra⟩=>by obtain⟨⟨x4,y4,rfl⟩,x5,y5,rfl⟩:=ra.eS;exact⟨hb,_,_,_,_,_,_,he,ra⟩
   generalize a.1.length=p0,a.2.length=p1,Pl.flip a=r at *;exact DQ
  show Calls _ _ _ _ (SP w (if a.1.length=1 then .ok ([(a.2.length:Int)],Pl.im (Pl.mW a.2) 0 a.2.length) else .error 2));have KE:Hid (∀W,Bl w W->Cp 133 #[.agg #[sX x0 a.1.length y0,sX x1 a.2.length y1]] W λe w'=>Bl W w'/\∃x4 l4 y4 x5 l5 y5,e=rT (.agg #[sX x4 l4 y4,sX x5 l5 y5])/\RA (W.1.size<=·) w' (sX x4 l4 y4) (sX x5 l5 y5) ([(a.2.length:Int)],Pl.im (Pl.mW a.2) 0 a.2.length)):=λW k=>(acP _ _ a (h.kp (.of k)) hd).mono λe w' ⟨hb,u0,u1,he,ra⟩=>by obtain⟨⟨x4,y4,rfl⟩,x5,y5,rfl⟩:=ra.eS;exact⟨hb,_,_,_,_,_,_,he,ra⟩
  generalize ([(a.2.length:Int)],Pl.im (Pl.mW a.2) 0 a.2.length)=r at *;generalize a.1.length=p0,a.2.length=p1 at *;by_cases h1:p0=1
  ·subst h1
   rw[eD rfl];exact DQ
  rw[eB h1];have j2:((p0:Int) != 1)=b_:=by rw[iH];omega
  go_enter func105,ntmps105;go_wp2_with fail;generalize hW:ew (ew w _) _=W0;have V0:=jU hW;refine(KA.o _ V0.o.2.2.1).l λw1 hb=>?_;have V1:=bv hb V0.o.2.2.1;obtain⟨c0,f0,z0⟩:=(V0.o.1.below hb).all;obtain⟨c3,f3,z3⟩:=(V0.o.2.1.below hb).all;go_wp2;refine eJ Je rfl ?_;exact ny
 ·have hr:Pl.rO f a=.error 9:=by unfold Pl.rO;repeat rw[eB oM]
  rw[hr];generalize a.1.length=p0,a.2.length=p1 at *;by_cases h1:f<1
  ·exact YK
  have h7:7<f:=oM;exact YK
 ):ρ:=h
def abB{P:nK}(f:Int)(v0 v1:Va)(a:Ar)(w:Wd)(h:RA P w v0 v1 a)(ha:Pl.okB a=b_):Cp 105 #[I f,.agg #[v0,v1]] w (SP w (Pl.rO f a)):=by
 open amw in exact QB
end Go.Proofs.YtiagfejlmafliaaGreatDoor
