import Derived.Test.YtiagfejlmafliaaGreatDoorMac
import Derived.Laws.Strings
namespace Go.Proofs.YtiagfejlmafliaaGreatDoor
set_option linter.all false
open Go.Proofs.Tryz Pl
set_option maxHeartbeats 16000000
open World renaming setCell->ez,alloc->ew
open List renaming range->eA,replicate->eE
open Option renaming some->a_,none->c_
open Bool renaming true->b_,false->d_
namespace Pl
inductive Nd (α:Type) where
 |at (s:α)
 |one (s:α) (r:Nd α)
 |two (s:α) (l r:Nd α)
namespace Nd
def post{α:Type}:Nd α->List α
 |.at s=>[s]
 |.one s r=>post r++[s]
 |.two s l r=>post r++post l++[s]
def Wf{α:Type}(ar:α->Nat):Nd α->Prop
 |.at s=>ar s=0
 |.one s r=>ar s=1/\r.Wf ar
 |.two s l r=>2<=ar s/\l.Wf ar/\r.Wf ar
end Nd
def run{α:Type}(ar:α->Nat):List α->List (Nd α)->Option (List (Nd α))
 |[],st=>a_ st
 |s::c,st =>
  if ar s=0 then run ar c (.at s::st)
  else if ar s=1 then match st with
   |x::st=>run ar c (.one s x::st)
   |[]=>c_
  else match st with
   |l::r::st=>run ar c (.two s l r::st)
   |_=>c_
def par{α:Type}(ar:α->Nat):Nat->List α->Option (Nd α × List α)
 |0,_=>c_
 |_+1,[]=>c_
 |n+1,s::p =>
  if ar s=0 then a_ (.at s,p)
  else match par ar n p with
   |none=>c_
   |some (t,q) =>
    if ar s=1 then a_ (.one s t,q)
    else match par ar n q with
     |none=>c_
     |some (r,q')=>a_ (.two s t r,q')
def C_{α:Type}{ar:α->Nat}:∀(n:Nat)(p:List α) (t:Nd α) (q:List α),par ar n p=a_ (t,q)->p=t.post.reverse++q/\t.Wf ar:=by
 intro n;induction n with
 |zero=>intro p t q h;simp[par] at h
 |succ n ih =>
  intro p t q h
  cases p with
  |nil=>simp[par] at h
  |cons s p =>
   unfold par at h;split at h
   ·rename_i h0
    simp only[kh,kH] at h;obtain⟨rfl,rfl⟩:=h;exact⟨by simp[Nd.post],h0⟩
   rename_i h0
   split at h
   ·simp at h
   rename_i t1 q1 e1
   obtain⟨rfl,w1⟩:=ih _ _ _ e1;split at h
   ·rename_i h1
    simp only[kh,kH] at h;obtain⟨rfl,rfl⟩:=h;exact⟨by simp[Nd.post],h1,w1⟩
   rename_i h1
   split at h
   ·simp at h
   rename_i r q2 e2
   obtain⟨rfl,w2⟩:=ih _ _ _ e2;simp only[kh,kH] at h;obtain⟨rfl,rfl⟩:=h;exact⟨by simp[Nd.post],oM,w1,w2⟩
def afW{α:Type}(t:Nd α):0<t.post.length:=by cases t <;> simp only[Nd.post,hJ,fW,iA] <;> omega
def alF{α:Type}{ar:α->Nat}:∀(t:Nd α),t.Wf ar->∀(n:Nat)(q:List α),t.post.length<=n->par ar n (t.post.reverse++q)=a_ (t,q):=by
 intro t;induction t with
 |«at» s =>
  intro w n q hn
  cases n with
  |zero=>simp[Nd.post] at hn
  |succ n =>
   simp only[Nd.Wf] at w;simp[Nd.post,par,w]
 |one s r ih =>
  intro w n q hn
  cases n with
  |zero=>simp[Nd.post] at hn
  |succ n =>
   obtain⟨w0,w1⟩:=w;simp only[Nd.post,hJ,fW,iA] at hn;simp only[Nd.post,Bf,xF,Iy,qn,qm,par,w0];rw[ih w1 n q oM];simp
 |two s l r il ir =>
  intro w n q hn
  cases n with
  |zero=>simp[Nd.post] at hn
  |succ n =>
   obtain⟨w0,w1,w2⟩:=w;simp only[Nd.post,hJ,fW,iA] at hn;simp only[Nd.post,Bf,xF,Iy,qn,qm,vG,par];rw[eB oM,il w1 n _ oM];simp only[];rw[eB oM,ir w2 n q oM]
def afJ{α:Type}{ar:α->Nat}:∀(t:Nd α),t.Wf ar->∀(c:List α)(st:List (Nd α)),run ar (t.post++c) st=run ar c (t::st):=by
 intro t;induction t with
 |«at» s=>intro w c st;simp only[Nd.Wf] at w;simp[Nd.post,run,w]
 |one s r ih =>
  intro w c st;obtain⟨w0,w1⟩:=w;simp only[Nd.post,vG];rw[ih w1];simp[run,w0]
 |two s l r il ir =>
  intro w c st;obtain⟨w0,w1,w2⟩:=w;simp only[Nd.post,vG];rw[ir w2,il w1];simp only[qm,qn,run];rw[eB oM,eB oM]
def flat{α:Type}(st:List (Nd α)):List α:=(st.reverse.map Nd.post).flatten
def Az{α:Type}(t:Nd α)(st:List (Nd α)):flat (t::st)=flat st++t.post:=by simp[flat]
def afM{α:Type}{ar:α->Nat}:∀(c:List α)(st js:List (Nd α)),(∀t∈st,t.Wf ar)->run ar c st=a_ js->flat js=flat st++c/\∀t∈js,t.Wf ar:=by
 intro c;induction c with
 |nil=>intro st js hw h;simp only[run,kh] at h;subst h;exact⟨sI,hw⟩
 |cons s c ih =>
  intro st js hw h;unfold run at h;split at h
  ·rename_i h0
   have⟨e,w⟩:=ih (.at s::st) _ (PJ.2 ⟨h0,hw⟩) h;exact⟨by rw[e,Az];simp[Nd.post],w⟩
  rename_i h0
  split at h
  ·rename_i h1
   split at h
   ·rename_i x st
    have⟨e,w⟩:=ih (.one s x::st) _ (PJ.2 ⟨⟨h1,hw x (Ij ..)⟩,λt ht=>hw t (mx _ ht)⟩) h;exact⟨by rw[e,Az,Az];simp[Nd.post],w⟩
   simp at h
  rename_i h1
  split at h
  ·rename_i l r st
   have⟨e,w⟩:=ih (.two s l r::st) _ (PJ.2 ⟨⟨oM,hw l (Ij ..),hw r (mx _ (Ij ..))⟩,λt ht=>hw t (mx _ (mx _ ht))⟩) h;exact⟨by rw[e,Az,Az,Az];simp[Nd.post],w⟩
  simp at h
def NR{α:Type}{ar:α->Nat}(c:List α)(t:Nd α):run ar c []=a_ [t] ↔ par ar c.length c.reverse=a_ (t,[]):=by
 constructor
 ·intro h
  have⟨e,w⟩:=afM c [] [t] sI h;simp[flat] at e
  have:=alF t (w t sI) c.length [] (by rw[e];exact jR _);rw[rU,e] at this;exact this
 intro h;have⟨e,w⟩:=C_ _ _ _ _ h;have e2:c=t.post:=by simpa using lQ List.reverse e
 have:=afJ t w [] [];rw[rU] at this;rw[e2,this];rfl
end Pl
namespace Pl
def bl(b:Bool):lJ:=match b with | b_=>[] | d_=>[32]
def spt(tg:lJ->List UInt8->Bool):lJ->List (lJ)->List UInt8
 |_,[]=>[]
 |p,t::r=>bl (tg p t)++t++spt tg t r
def sp(tg:lJ->List UInt8->Bool):List (lJ)->List UInt8
 |[]=>[]
 |t::r=>t++spt tg t r
def sV{α:Type}:Nd α->Bool
 |.at _=>b_
 |.one _ _=>d_
 |.two _ _ _=>d_
def nest{α:Type}:Nd α->Nat
 |.at _=>0
 |.one _ r=>nest r
 |.two _ l r=>max (match sV l with | b_=>nest l | d_=>nest l+1) (nest r)
end Pl
namespace Pl
structure fS where
 k:Int
 a:Int
 b:Int
 nm:lJ
deriving DecidableEq
structure Sv where
 k:Int
 eF:lI
 nm:lJ
 fn:fS
def f0:fS:=⟨0,0,0,[]⟩
structure Mg where
 t:lJ
 ok:Int
 ow:Int
 tk:Int
 tw:Int
def Mg.one(m:Mg):fS:=⟨m.ok,m.ow,0,[]⟩
def Mg.two(m:Mg):fS:=⟨m.tk,m.tw,0,[]⟩
def fX:List Mg:=[⟨[43],0,0,5,1⟩,⟨[45],1,1,5,2⟩,⟨[42],0,0,5,3⟩,⟨[37],0,0,5,4⟩,⟨[124],0,0,5,5⟩,⟨[109,105,110],0,0,5,6⟩,⟨[109,97,120],0,0,5,7⟩,⟨[60],0,0,5,8⟩,⟨[61],0,0,5,9⟩,⟨[62],0,0,5,10⟩,⟨[126],1,4,0,0⟩,⟨[97,98,115],1,2,0,0⟩,⟨[115,105,103,110],1,3,0,0⟩,⟨[105,111,116,97],2,1,6,6⟩,⟨[114,104,111],2,2,6,1⟩,⟨[99,97,116],2,3,6,4⟩,⟨[114,101,118],2,4,0,0⟩,⟨[102,108,105,112],2,5,0,0⟩,⟨[103,114,97,100,101],2,6,0,0⟩,⟨[99,111,117,110,116],2,7,0,0⟩,⟨[116,97,107,101],0,0,6,2⟩,⟨[100,114,111,112],0,0,6,3⟩,⟨[102,114,111,109],0,0,6,5⟩,⟨[109,97,116,99,104],0,0,6,7⟩,⟨[114,111,108,108],9,0,0,0⟩]
def kA(f:fS):lJ:=match fX.find? (λm=>decide (f=m.one) || decide (f=m.two)) with | a_ m=>m.t | c_=>[]
def i_(n:Int):lJ:=kA ⟨5,n,0,[]⟩
def fN(n:Int):Bool:=decide (1<=n) && decide (n<=10)
def Cc(c:UInt8):Bool:=decide (65<=c) && decide (c<=90)
def qy(c:UInt8):Bool:=Cc c || (decide (97<=c) && decide (c<=122))
def Ef(c:UInt8):Bool:=decide (48<=c) && decide (c<=57)
def lL:lJ:=[115,101,108,102]
def wk(s:lJ):Int :=
 if s=[] then 0 else if 20<s.length then 0 else if qy (s.headD 0)=d_ then 0 else if s.all (λc=>qy c || Ef c)=d_ then 0
 else if s=lL\/Cc (s.headD 0)=b_ then 3 else if fX.any (λm=>decide (m.t=s))=b_ then 4 else 2
def rQ(f:fS):Bool:=decide (wk f.nm=3) && decide (f=⟨10,0,0,f.nm⟩)
def rX(f:fS):Bool :=
 if f.k=1\/f.k=2\/f.k=9 then decide (kA f ≠ []) else if f.k=3\/f.k=4 then decide (i_ f.a ≠ []) && decide (f=⟨f.k,f.a,0,[]⟩) else rQ f
def rW(f:fS):Bool :=
 if f.k=5\/f.k=6 then decide (kA f ≠ []) else if f.k=7 then decide (i_ f.a ≠ []) && decide (f=⟨f.k,f.a,0,[]⟩) else if f.k=8 then decide (i_ f.a ≠ []) && decide (i_ f.b ≠ []) && decide (f.nm=[]) else rQ f
def jk(f:fS)(two:Bool):Bool :=
 if f.k=10 then decide (f.a=0) && decide (f.b=0) && decide (wk f.nm=3)
 else if f.nm ≠ []\/(f.k ≠ 8/\f.b ≠ 0) then d_
 else if f.k=9 then !two && decide (f.a=0)
 else if f.k=1 then !two && decide (1<=f.a) && decide (f.a<=4)
 else if f.k=2\/f.k=6 then decide (two=decide (f.k=6)) && decide (1<=f.a) && decide (f.a<=7)
 else if f.k=3\/f.k=4 then !two && fN f.a
 else if f.k=8 then two && fN f.a && fN f.b
 else two && (decide (f.k=5) || decide (f.k=7)) && fN f.a
def Gh{f:fS}(h:f.b ≠ 0\/f.nm ≠ []):kA f=[]:=by
 have:fX.find? (λm=>decide (f=m.one) || decide (f=m.two))=c_:=by
  rw[DF];intro m _;simp only[zn,fQ,not_or];constructor <;> (intro e;rw[e] at h;simp[Mg.one,Mg.two] at h)
 unfold kA;rw[this]
def Nh(k a:Int):kA ⟨k,a,0,[]⟩ ≠ [] ↔ (k=0/\a=0)\/(k=1/\1<=a/\a<=4)\/(k=2/\1<=a/\a<=7)\/(k=5/\1<=a/\a<=10)\/(k=6/\1<=a/\a<=7)\/(k=9/\a=0):=by
 constructor
 ·intro h
  cases e:fX.find? (λm=>decide ((⟨k,a,0,[]⟩:fS)=m.one) || decide ((⟨k,a,0,[]⟩:fS)=m.two)) with
  |none=>unfold kA at h;rw[e] at h;exact absurd rfl h
  |some m =>
   have hm:=List.mem_of_find?_eq_some e;have hp:=List.find?_some e;simp only[Bool.or_eq_true,decide_eq_true_eq,Mg.one,Mg.two,fS.mk.injEq,and_true] at hp;simp only[fX,List.mem_cons,List.not_mem_nil,or_false] at hm;rcases hm with rfl|rfl|rfl|rfl|rfl|rfl|rfl|rfl|rfl|rfl|rfl|rfl|rfl|rfl|rfl|rfl|rfl|rfl|rfl|rfl|rfl|rfl|rfl|rfl|rfl <;> (dsimp only at hp;omega)
 have r4:∀a:Int,1<=a/\a<=4->a=1\/a=2\/a=3\/a=4:=oM;have r7:∀a:Int,1<=a/\a<=7->a=1\/a=2\/a=3\/a=4\/a=5\/a=6\/a=7:=oM;have r10:∀a:Int,1<=a/\a<=10->a=1\/a=2\/a=3\/a=4\/a=5\/a=6\/a=7\/a=8\/a=9\/a=10:=oM;rintro (⟨rfl,rfl⟩|⟨rfl,h⟩|⟨rfl,h⟩|⟨rfl,h⟩|⟨rfl,h⟩|⟨rfl,rfl⟩)
 ·decide
 ·rcases r4 a h with rfl|rfl|rfl|rfl <;> decide
 ·rcases r7 a h with rfl|rfl|rfl|rfl|rfl|rfl|rfl <;> decide
 ·rcases r10 a h with rfl|rfl|rfl|rfl|rfl|rfl|rfl|rfl|rfl|rfl <;> decide
 ·rcases r7 a h with rfl|rfl|rfl|rfl|rfl|rfl|rfl <;> decide
 decide
def NV(n:Int):i_ n ≠ [] ↔ fN n=b_:=by
 unfold i_ fN;rw[Nh];simp
def Yq:wk []=0:=dC
def XT(f:fS):rQ f=(decide (f.k=10) && decide (f.a=0) && decide (f.b=0) && decide (wk f.nm=3)):=by
 obtain⟨k,a,b,nm⟩:=f;rw[mz];simp only[rQ,fO,fQ,fS.mk.injEq,and_true];constructor <;> (intro h;simp_all)
def OG(f:fS):rX f=jk f d_:=by
 obtain⟨k,a,b,nm⟩:=f;rw[mz];unfold rX jk;rw[XT];by_cases hb:b=0
 ·by_cases hn:nm=[]
  ·subst hb hn
   simp only[Nh,NV,ne_eq,fN,Yq];split <;> (try split) <;> (try split) <;> (try split) <;> (try split) <;> (try split) <;> (try split) <;> (try split) <;> simp_all <;> omega
  have e:=Gh (f:=⟨k,a,b,nm⟩) (.inr hn);simp only[e];split <;> (try split) <;> (try split) <;> (try split) <;> simp_all <;> omega
 have e:=Gh (f:=⟨k,a,b,nm⟩) (.inl hb);simp only[e];split <;> (try split) <;> (try split) <;> (try split) <;> simp_all <;> omega
def Oy(f:fS):rW f=jk f b_:=by
 obtain⟨k,a,b,nm⟩:=f;rw[mz];unfold rW jk;rw[XT];by_cases hb:b=0
 ·by_cases hn:nm=[]
  ·subst hb hn
   simp only[Nh,NV,ne_eq,fN,Yq];split <;> (try split) <;> (try split) <;> (try split) <;> (try split) <;> (try split) <;> (try split) <;> (try split) <;> simp_all <;> omega
  have e:=Gh (f:=⟨k,a,b,nm⟩) (.inr hn);simp only[e];split <;> (try split) <;> (try split) <;> (try split) <;> simp_all <;> omega
 have e:=Gh (f:=⟨k,a,b,nm⟩) (.inl hb);simp only[e,NV,ne_eq,fN];split <;> (try split) <;> (try split) <;> (try split) <;> (try split) <;> (try split) <;> (try split) <;> (try split) <;> simp_all <;> omega
def ftk(f:fS):List (lJ) :=
 if f.k=3 then [i_ f.a,[47]] else if f.k=4 then [i_ f.a,[92]] else if f.k=7 then [[64],i_ f.a] else if f.k=8 then [i_ f.a,[46],i_ f.b] else if f.k=10 then [f.nm] else [kA f]
def lfB(t:lJ):Bool:=decide (t=[40]) || decide (t=[64]) || decide (t=[46])
def rtB(t:lJ):Bool:=decide (t=[41]) || decide (t=[47]) || decide (t=[92]) || decide (t=[46])
def tg(a b:lJ):Bool:=lfB a || rtB b
end Pl
namespace Pl
def ar(s:Sv):Nat:=if s.k=1\/s.k=2 then 0 else if s.k=3 then 1 else 2
def k_(l:lI):Bool:=l.all (λx=>decide (-3000000000<=x) && decide (x<=3000000000)) && decide (1<=l.length) && decide (l.length<=1000)
def fj(s:Sv):Bool :=
 if s.k=1 then k_ s.eF && decide (s.nm=[]) && decide (s.fn=f0)
 else if s.k=2 then decide (wk s.nm=2) && decide (s.eF=[]) && decide (s.fn=f0)
 else if s.k=3 then rX s.fn && decide (s.eF=[]) && decide (s.nm=[])
 else if s.k=4 then rW s.fn && decide (s.eF=[]) && decide (s.nm=[])
 else d_
def Bt(s:Sv):Bool :=
 if s.k=1 then k_ s.eF && decide (s.nm=[]) && decide (s.fn=f0)
 else if s.eF ≠ [] then d_
 else if s.k=2 then decide (wk s.nm=2) && decide (s.fn=f0)
 else decide (s.nm=[]) && (decide (s.k=3) || decide (s.k=4)) && jk s.fn (decide (s.k=4))
def Ys(s:Sv):fj s=Bt s:=by
 unfold fj Bt;rw[OG,Oy];by_cases h1:s.k=1
 ·rw[eD h1,eD h1]
 rw[eB h1,eB h1];by_cases hn:s.eF=[]
 ·have hx:(if s.eF ≠ [] then d_ else if s.k=2 then decide (wk s.nm=2) && decide (s.fn=f0) else decide (s.nm=[]) && (decide (s.k=3) || decide (s.k=4)) && jk s.fn (decide (s.k=4)))=(if s.k=2 then decide (wk s.nm=2) && decide (s.fn=f0) else decide (s.nm=[]) && (decide (s.k=3) || decide (s.k=4)) && jk s.fn (decide (s.k=4))):=eB (λh=>h hn)
  rw[hx];by_cases h2:s.k=2
  ·simp[h2,hn]
  by_cases h3:s.k=3
  ·simp[hn,h3,Bool.and_comm]
  by_cases h4:s.k=4
  ·simp[hn,h4,Bool.and_comm]
  simp[h2,h3,h4]
 simp[hn]
def vt{s:Sv}(h:fj s=b_):s.k=1\/s.k=2\/s.k=3\/s.k=4:=by
 unfold fj at h;split at h
 ·exact .inl ‹_›
 split at h
 ·exact .inr (.inl ‹_›)
 split at h
 ·exact .inr (.inr (.inl ‹_›))
 split at h
 ·exact .inr (.inr (.inr ‹_›))
 cases h
def fa(nt:Int->List UInt8)(s:Sv):List (lJ):=if s.k=1 then s.eF.map nt else [s.nm]
def ff(s:Sv):List (lJ):=ftk s.fn
def ta(nt:Int->List UInt8)(s:Sv):lJ:=sp tg (fa nt s)
def ah0{s:Sv}(h:fj s=b_)(h0:ar s ≠ 0):s.fn.k=10->wk s.fn.nm=3:=by
 intro mJ;have key:∀b,jk s.fn b=b_->wk s.fn.nm=3:=by
  intro b hb;unfold jk at hb;rw[eD mJ] at hb;simp only[fO,fQ] at hb;exact hb.2
 unfold fj at h;rw[OG,Oy] at h;rcases Classical.em (s.k=1) with k|k1
 ·exact absurd (by simp[ar,k]) h0
 rcases Classical.em (s.k=2) with k|k2
 ·exact absurd (by simp[ar,k]) h0
 rw[eB k1,eB k2] at h;split at h
 ·simp only[fO] at h;exact key _ h.1.1
 split at h
 ·simp only[fO] at h;exact key _ h.1.1
 cases h
end Pl
namespace Pl
def adt{α:Type}{ar:α->Nat}:∀(n m:Nat)(p:List α),p.length<=n->p.length<=m->par ar n p=par ar m p:=by
 intro n;induction n with
 |zero =>
  intro m p h _;match p,h with
  |[],_=>cases m <;> rfl
 |succ n ih =>
  intro m p h hm;match p,m,h,hm with
  |[],0,_,_=>rfl
  |[],m+1,_,_=>rfl
  |s::p,m+1,h,hm =>
   simp only[fW] at h hm;unfold par;rw[ih m p oM oM]
   cases e:par ar m p with
   |none=>rfl
   |some r =>
    obtain⟨t,q⟩:=r;have hq:=lQ List.length (C_ _ _ _ _ e).1;rw[hJ] at hq;simp only[];rw[ih m q oM oM]
def nd(c:List Sv)(n:Nat):Option (Nd Sv × Nat):=(par ar n (c.take n).reverse).map λr=>(r.1,r.2.length)
def UM{α:Type}(c:List α)(n:Nat)(a q:List α)(h:(c.take n).reverse=a++q):q=(c.take q.length).reverse:=by
 have e:c.take n=q.reverse++a.reverse:=by rw[<- Bf,<- h,zp]
 have hl:q.length<=n:=by
  have:=lQ List.length e;simp only[jH,hJ,ld] at this;omega
 have e2:c.take q.length=q.reverse:=by
  have:=lQ (List.take q.length) e;rw[Bp,uA hl,PI sI] at this;rw[this];rw[mR sI]
 rw[e2,zp]
def NZ(c:List Sv):nd c 0=c_:=rfl
def xy{c:List Sv}{n:Nat}{t:Nd Sv}{m:Nat}(h:nd c n=a_ (t,m)):m<n/\m<=c.length/\c.take n=c.take m++t.post/\t.Wf ar:=by
 unfold nd at h
 cases e:par ar n (c.take n).reverse with
 |none=>rw[e] at h;cases h
 |some r =>
  obtain⟨t',q⟩:=r;rw[e] at h;simp only[vH,kh,kH] at h;obtain⟨rfl,rfl⟩:=h;have⟨hp,hw⟩:=C_ _ _ _ _ e;have hl:=lQ List.length hp;have zF:=afW t';simp only[ld,jH,hJ] at hl;have hq:=UM c n _ _ hp;refine⟨oM,oM,?_,hw⟩;have:=lQ List.reverse hp;rw[zp,Bf,zp] at this;rw[this];congr 1
  rw[hq,zp];simp
def afZ{α:Type}(ar:α->Nat)(n:Nat)(s:α)(p:List α):par ar (n+1) (s::p)=if ar s=0 then a_ (.at s,p) else match par ar n p with
  |none=>c_
  |some (t,q)=>if ar s=1 then a_ (.one s t,q) else match par ar n q with
   |none=>c_
   |some (r,q')=>a_ (.two s t r,q'):=rfl
def Df(c:List Sv)(i:Nat)(s:Sv)(h:c[i]? = a_ s):nd c (i+1)=if ar s=0 then a_ (.at s,i) else match nd c i with
  |none=>c_
  |some (t,m)=>if ar s=1 then a_ (.one s t,m) else match nd c m with
   |none=>c_
   |some (r,m')=>a_ (.two s t r,m'):=by
 obtain⟨hi,hs⟩:=gQ.1 h;have e:(c.take (i+1)).reverse=s::(c.take i).reverse:=by
  rw[pB,h];simp
 have hlen:(c.take i).reverse.length=i:=by simp;omega
 unfold nd;rw[e,afZ];split
 ·simp only[vH,hlen]
 cases e1:par ar i (c.take i).reverse with
 |none=>rfl
 |some r =>
  obtain⟨t,q⟩:=r;have hp:=(C_ _ _ _ _ e1).1;have hq:=UM c i _ _ hp;have hl:=lQ List.length hp;rw[hJ,hlen] at hl;simp only[vH];split
  ·rfl
  rw[adt i q.length q oM (jR _),<- hq]
  cases par ar q.length q with
  |none=>rfl
  |some r=>rfl
end Pl
namespace Pl
structure Gv where
 test:List Sv
 eT:List Sv
structure Tv where
 k:Int
 nm:lJ
 code:List Sv
 gs:List Gv
def h_(c:List Sv):Nat:=c.length+(c.map λs=>s.eF.length).sum
def qE(g:Gv):Nat:=h_ g.test+h_ g.eT
def jX(s:Tv):Nat:=h_ s.code+s.gs.length+(s.gs.map qE).sum
def oe(p:List Tv):Nat:=p.length+(p.map jX).sum
end Pl
open Go.RowKit
namespace Pl
def ku(x:Int):Bool:=decide (97<=x/\x<=122) || decide (65<=x/\x<=90)
def tj(x:Int):Bool:=decide (48<=x/\x<=57)
end Pl
def jq{k:IntKind}{a b:Int}(h:a=b):Ending.returned (.int k a)=rT (.int k b):=by rw[h]
def iD{a b:Bool}(h:a=b):Ending.returned (.bool a)=rT (.bool b):=by rw[h]
def apv{p:Prop}(h:p):Hid p:=h
def acO(x:Int)(w:Wd):
  Cp 98 #[.int .u8 x] w λe w'=>e=rT (.bool (tj x))/\w'=w:=by
 by_cases h0:48<=x <;> by_cases h1:x<=57 <;>
 ·go_enter func98,ntmps98
  go_wp2;go_ret
  exact⟨iD (by simp[tj];omega),rfl⟩
def acS(x:Int)(w:Wd):
  Cp 199 #[.int .u8 x] w λe w'=>e=rT (.bool (tj x))/\w'=w:=by
 by_cases h0:48<=x <;> by_cases h1:x<=57 <;>
 ·go_enter func199,ntmps199
  go_wp2;go_ret
  exact⟨iD (by simp[tj];omega),rfl⟩
def UE(x:Int)(w:Wd):
  Cp 149 #[.int .u8 x] w λe w'=>e=rT (.bool (decide (65<=x/\x<=90)))/\w'=w:=by
 by_cases h0:65<=x <;> by_cases h1:x<=90 <;>
 ·go_enter func149,ntmps149
  go_wp2;go_ret
  exact⟨iD J2,rfl⟩
def UG(x:Int)(w:Wd):
  Cp 70 #[.int .u8 x] w λe w'=>e=rT (.bool (ku x))/\w'=w:=by
 by_cases h0:97<=x <;> by_cases h1:x<=122 <;> by_cases h2:65<=x <;> by_cases h3:x<=90 <;> first
 |(exfalso;omega)
 |(go_enter func70,ntmps70
   go_wp2;go_ret
   exact⟨iD (by simp[ku];omega),rfl⟩)
def UI(x:Int)(w:Wd):
  Cp 147 #[.int .u8 x] w λe w'=>e=rT (.bool (ku x))/\w'=w:=by
 have K:Hid (∀w,Cp 149 #[.int .u8 x] w λe w'=>e=rT (.bool (decide (65<=x/\x<=90)))/\w'=w):=UE x;by_cases hc:65<=x/\x<=90
 ·have hd:decide (65<=x/\x<=90)=b_:=fM hc
  rw[hd] at K;go_enter func147,ntmps147;go_wp2_with (go_at_call 149;refine(K.o _).mono ?_;rintro e w' ⟨rfl,rfl⟩)
  go_ret
  exact⟨iD (by first | (symm;simp only[ku,zn,fQ];omega) | (symm;simp only[ku,Bool.or_eq_false_iff,Bk];omega) | (rw[mz];simp only[ku,zn,fQ];omega)),rfl⟩
 ·have hd:decide (65<=x/\x<=90)=d_:=fH hc
  rw[hd] at K;have HC:=zH hc;by_cases h0:97<=x <;> by_cases h1:x<=122 <;> first
  |(exfalso;omega)
  |(go_enter func147,ntmps147
    go_wp2_with (go_at_call 149;refine(K.o _).mono ?_;rintro e w' ⟨rfl,rfl⟩)
    go_ret
    have hc:=HC.o;exact⟨iD (by first | (symm;simp only[ku,zn,fQ];omega) | (symm;simp only[ku,Bool.or_eq_false_iff,Bk];omega) | (rw[mz];simp only[ku,zn,fQ];omega)),rfl⟩)
def aa9(x:Int)(w:Wd):
  Cp 178 #[.int .u8 x] w λe w'=>e=rT (.bool (ku x || tj x))/\w'=w:=by
 have K:Hid (∀w,Cp 147 #[.int .u8 x] w λe w'=>e=rT (.bool (ku x))/\w'=w):=UI x;have K2:Hid (∀w,Cp 199 #[.int .u8 x] w λe w'=>e=rT (.bool (tj x))/\w'=w):=acS x
 cases hd:ku x
 ·rw[hd] at K
  generalize tj x=q at *;exact Λ
 ·rw[hd] at K
  exact Λ
variable {ρ:Prop}
section
variable {s:bA}{k:Nat}
namespace Pl
def bt(s:bA)(k:Nat):Int:=(s.data[k]!).toNat
def pJ(x:Int):Bool:=tj x || ku x
def ij(s:bA):Nat->Nat->Nat
 |0,k=>k
 |n+1,k=>if pJ (bt s k)=b_ then ij s n (k+1) else k
def afr(h:k<s.size)(hx:pJ (bt s k)=b_):ij s (s.size-k) k=ij s (s.size-(k+1)) (k+1):=by
 have⟨m,hm⟩:∃m,s.size-k=m+1:=⟨s.size-k-1,oM⟩;rw[hm,ij,eD hx];congr 1
 omega
def ag6(h:k<s.size)(hx:pJ (bt s k)=d_):ij s (s.size-k) k=k:=by
 have⟨m,hm⟩:∃m,s.size-k=m+1:=⟨s.size-k-1,oM⟩;rw[hm,ij,eB Jl]
def afs(h:s.size<=k):ij s (s.size-k) k=k:=by
 have hm:s.size-k=0:=oM;rw[hm,ij]
end Pl
def agW(s:bA)(k:Nat)(h:k<s.size):((s[k]'h).toNat:Int)=Pl.bt s k:=by
 cases s with
 |mk d=>exact lQ (λb:UInt8=>(b.toNat:Int)) (getElem!_pos d k h).symm
def aob:prog.underlying 9=a_ .string:=kF
def Dg(s:bA)(k:Nat)(h:k<s.size)(w:Wd):(Instr.index 9 (.string s) (I k)).run prog w=.ok (.int .u8 (Pl.bt s k)) w:=by
 rw[run_index_string w 9 s .i64 k aob,dif_pos ⟨oM,oM⟩];simp only[qp,agW]
def ajs.Yi(h:ρ:=by
 generalize hr:ij s (n-i) i=r at *;have Hn:Hid (s.size=n):=hn;have Hr:=zH hr;go_enter func71,ntmps71;go_wp2;go_loop [1] (λv=>∃k:Nat,k<=n/\v=I k/\Hid (ij s (n-k) k=r)) (λv=>n-(intOf v).toNat)
 case atStart=>exact⟨i,hi,rfl,Hr.o⟩
 case round =>
  obtain⟨k,hk,rfl,eL⟩:=hrel;by_cases eI:k<n
  rotate_left 1
  ·have E:=zH (HE.o k oM)
   go_wp2;go_ret
   exact⟨jq (by rw[<- eL.o,E.o]),rfl⟩
  have Lu:=Dg s k oM;have Y:=zH (HY.o k eI);have N:=zH (HN.o k eI);generalize Pl.bt s k=x at *;have K:Hid (∀w,Cp 98 #[.int .u8 x] w λe w'=>e=rT (.bool (tj x))/\w'=w):=acO x;have K2:Hid (∀w,Cp 70 #[.int .u8 x] w λe w'=>e=rT (.bool (ku x))/\w'=w):=UG x
  cases h1:tj x
  ·cases h2:ku x
   ·have HX:=zH (show pJ x=d_ by simp[pJ,h1,h2])
    rw[h1] at K;rw[h2] at K2;go_wp2_with (first | (go_at_call 98;refine(K.o _).mono ?_;rintro e w' ⟨rfl,rfl⟩) | (go_at_call 70;refine(K2.o _).mono ?_;rintro e w' ⟨rfl,rfl⟩))
    go_ret
    exact⟨jq (by rw[<- eL.o,N.o HX.o]),rfl⟩
   have HX:=zH (show pJ x=b_ by simp[pJ,h2]);rw[h1] at K;rw[h2] at K2;exact Υ
  have HX:=zH (show pJ x=b_ by simp[pJ,h1]);rw[h1] at K;exact Υ
 ):ρ:=h
def abL(s:bA)(i:Nat)(w:Wd)(hi:i<=s.size)(hl:s.size<=9223372036854775807):
  Cp 71 #[.string s,I i] w λe w'=>e=rT (I (ij s (s.size-i) i:Nat))/\w'=w:=by
 open ajs in exact Zg
end
def wW(x:Int)(w:Wd):
  Cp 123 #[I x] w λe w'=>e=rT (.bool (Pl.fN x))/\w'=w:=by
 by_cases h0:1<=x <;> by_cases h1:x<=10 <;>
 ·go_enter func123,ntmps123
  go_wp2;go_ret
  exact⟨iD Jm,rfl⟩
def MO(x:Int)(w:Wd):
  Cp 55 #[I x] w λe w'=>e=rT (.bool (decide (-3000000000<=x) && decide (x<=3000000000)))/\w'=w:=by
 by_cases h0:-3000000000<=x <;> by_cases h1:x<=3000000000 <;>
 ·go_enter func55,ntmps55
  go_wp2;go_ret
  exact⟨iD J2,rfl⟩
def ajt.Yi(h:ρ:=by
 generalize hr:ij s (n-(i+1)) (i+1)=r at *;have Hn:Hid (s.size=n):=hn;have Hr:=zH hr;go_enter func148,ntmps148;go_wp2;go_loop [5] (λv=>∃k:Nat,k<=n/\v=I k/\Hid (ij s (n-k) k=r)) (λv=>n-(intOf v).toNat)
 case atStart=>exact⟨i+1,hi,gN,Hr.o⟩
 case round =>
  obtain⟨k,hk,rfl,eL⟩:=hrel;by_cases eI:k<n
  ·have Lu:=Dg s k oM
   have Y:=zH (HY.o k eI);have N:=zH (HN.o k eI);generalize Pl.bt s k=x at *;have K:Hid (∀w,Cp 178 #[.int .u8 x] w λe w'=>e=rT (.bool (pJ x))/\w'=w):=λw=>by
    have h:=aa9 x w;rw[Bool.or_comm] at h;exact h
   cases h1:pJ x
   ·rw[h1] at K
    have HX:=zH h1;go_wp2_with (go_at_call 178;refine(K.o _).mono ?_;rintro e w' ⟨rfl,rfl⟩)
    go_ret
    exact⟨jq (by rw[<- eL.o,N.o HX.o]),rfl⟩
   ·rw[h1] at K
    have HX:=zH h1;go_wp2_with (go_at_call 178;refine(K.o _).mono ?_;rintro e w' ⟨rfl,rfl⟩)
    go_round
    case rel=>exact⟨k+1,by omega,by go_num,by show _=_;rw[<- eL.o,Y.o HX.o]⟩
    case measure=>simp[intOf];omega
  ·have E:=zH (HE.o k oM)
   go_wp2;go_ret
   exact⟨jq (by rw[<- eL.o,E.o]),rfl⟩
 ):ρ:=h
def abm(s:bA)(i:Nat)(w:Wd)(hi:i<s.size)(hl:s.size<=9223372036854775807):
  Cp 148 #[.string s,I i] w λe w'=>e=rT (I (ij s (s.size-(i+1)) (i+1):Nat))/\w'=w:=by
 open ajt in exact Zg
section
variable {L:List bA}{s:bA}{k:Nat}
namespace Pl
def hasB(L:List bA)(s:bA)(k:Nat):Bool:=(L.take k).any (λx=>decide (x=s))
def aeX(h:k<L.length):hasB L s (k+1)=(hasB L s k || decide (L.getD k default=s)):=by
 unfold hasB;rw[pB,List.any_append,fw h];simp[ig,fw h]
def agr(h:k<L.length)(e:L.getD k default=s):hasB L s L.length=b_:=by
 unfold hasB;rw[km,Bh];refine⟨L[k],lh h,?_⟩;rw[<- e];simp[ig,fw h]
end Pl
def zi{a b:bA}:(a.toList == b.toList)=decide (a=b):=by
 rw[uz,uz];by_cases h:a=b
 ·subst h;simp
 have:¬a.data.toList=b.data.toList:=λe=>h (by cases a;cases b;simp at e ⊢;exact e);rw[fH h];exact gR.2 this
def aeR(L:List bA)(b o cap:Nat)(s:bA)(w:Wd)(hl:L.length<=1000000)(hc:∀j,j<L.length->w.cell? ⟨b,o+j,c_⟩=a_ (.string (L.getD j default))):
  Cp 99 #[sX (a_ ⟨b,o,c_⟩) L.length cap,.string s] w λe w'=>e=rT (.bool (hasB L s L.length))/\w'=w:=by
 have HS:Hid (∀k,k<L.length->hasB L s (k+1)=(hasB L s k || decide (L.getD k default=s))):=λk=>aeX;have HY:Hid (∀k,k<L.length->L.getD k default=s->hasB L s L.length=b_):=λk=>agr;have HC:=zH hc;clear hc;generalize hn:L.length=n at *;go_enter func99,ntmps99;go_wp2;go_loop [5] (λv=>∃k:Nat,k<=n/\v=I k/\Hid (hasB L s k=d_)) (λv=>n-(intOf v).toNat)
 case atStart=>exact⟨0,vZ _,rfl,rfl⟩
 obtain⟨k,hk,rfl,eL⟩:=hrel;by_cases eI:k<n
 rotate_left 1
 ·obtain rfl:k=n:=oM
  go_wp2;go_ret
  exact⟨iD (by rw[eL.o]),rfl⟩
 have vC:=HC.o k eI;have Y:=zH (HY.o k eI);have N:=zH (HS.o k eI);clear HY HS HC;generalize L.getD k default=x at *;by_cases hx:x=s
 ·have HX:=zH (Y.o hx)
  have hq:(x.toList == s.toList)=b_:=by rw[zi];exact fM hx
  clear hx Y N;go_wp2;go_ret
  exact⟨iD (by rw[HX.o]),rfl⟩
 have HX:=zH (show hasB L s (k+1)=d_ by rw[N.o,eL.o];simp[hx]);have hq:(x.toList == s.toList)=d_:=by rw[zi];exact fH hx
 clear hx Y N;go_wp2;go_round
 case rel=>exact⟨k+1,oM,gN,HX.o⟩
 simp[intOf];omega
end
set_option maxRecDepth 100000
namespace Pl
def words:List bA:=[⟨#[109,97,120]⟩,⟨#[109,105,110]⟩,⟨#[97,98,115]⟩,⟨#[115,105,103,110]⟩,⟨#[105,111,116,97]⟩,⟨#[114,104,111]⟩,⟨#[99,97,116]⟩,⟨#[114,101,118]⟩,⟨#[102,108,105,112]⟩,⟨#[103,114,97,100,101]⟩,⟨#[99,111,117,110,116]⟩,⟨#[116,97,107,101]⟩,⟨#[100,114,111,112]⟩,⟨#[102,114,111,109]⟩,⟨#[109,97,116,99,104]⟩,⟨#[114,111,108,108]⟩,⟨#[115,101,108,102]⟩]
def uI(s:bA):Int:=if 20<s.size then 120 else if s=⟨#[115,101,108,102]⟩\/(65<=bt s 0/\bt s 0<=90) then 70 else if hasB words s 17=b_ then 115 else 119
end Pl
def acN(w:Wd):
  Cp 100 #[] w λe w'=>e=rT (sX (sY w.1.size 0) 17 17)/\w'=w.alloc (.cells (words.map Value.string).toArray 9):=by
 go_enter func100,ntmps100;go_wp2;go_ret
 exact⟨rfl,rfl⟩
def afg(j:Nat)(hj:j<words.length):(words.map Value.string).toArray[0+j]? = a_ (.string (words.getD j default)):=by
 simp[ig,fw hj]
def FW:ByteArray.toList ⟨#[115,101,108,102]⟩=[115,101,108,102]:=by rw[uz]
def aju.ud(h:ρ:=by
 generalize Obj.cells (words.map Value.string).toArray 9=ob,hasB words s 17=q at *;have HG:=zH g2;by_cases g4:65<=x
 ·have g5:¬x<=90:=λh=>g3 ⟨g4,h⟩
  exact YL
 ·exact YL
 ):ρ:=h
def abu(s:bA)(w:Wd)(h0:0<s.size)(hl:s.size<=9223372036854775807):
  Cp 72 #[.string s] w (rB (.int .u8 (uI s)) w):=by
 have Lu:∀w,(Instr.index 9 (.string s) (I 0)).run prog w=.ok (.int .u8 (Pl.bt s 0)) w:=Dg s 0 h0;have HW:Hid (∀x,Pl.bt s 0=x->uI s=if 20<s.size then 120 else if s=⟨#[115,101,108,102]⟩\/(65<=x/\x<=90) then 70 else if hasB words s 17=b_ then 115 else 119):=λx e=>by rw[<- e];rfl
 generalize hx:Pl.bt s 0=x at *;have HW:=zH (HW.o x rfl);generalize uI s=r,hn:s.size=n at *;by_cases g1:(20:Int)<n
 ·have HR:=zH (show r=120 by rw[HW.o,eD oM])
  go_enter func72,ntmps72;go_wp2;exact xz
 have HW:=zH (show r=if s=⟨#[115,101,108,102]⟩\/(65<=x/\x<=90) then 70 else if hasB words s 17=b_ then 115 else 119 by rw[HW.o,eB oM]);by_cases g2:s=⟨#[115,101,108,102]⟩
 ·have HR:=zH (show r=70 by rw[HW.o,eD (.inl g2)])
  have hq:(s.toList == [115,101,108,102])=b_:=by rw[<- FW,zi];exact fM g2
  go_enter func72,ntmps72;go_wp2;exact xz
 have hq:(s.toList == [115,101,108,102])=d_:=by rw[<- FW,zi];exact fH g2
 by_cases g3:65<=x/\x<=90
 ·have HR:=zH (show r=70 by rw[HW.o,eD (.inr g3)])
  obtain⟨g4,g5⟩:=g3;go_enter func72,ntmps72;go_wp2;exact xz
 have HW:=zH (show r=if hasB words s 17=b_ then 115 else 119 by rw[HW.o,eB (by rintro (h | h);exact g2 h;exact g3 h)]);have K:Hid (∀w,Cp 100 #[] w λe w'=>e=rT (sX (sY w.1.size 0) 17 17)/\w'=w.alloc (.cells (words.map Value.string).toArray 9)):=acN;have K2:Hid (∀w:Wd,Cp 99 #[sX (sY w.1.size 0) 17 17,.string s] (w.alloc (.cells (words.map Value.string).toArray 9)) λe w'=>e=rT (.bool (hasB words s 17))/\w'=w.alloc (.cells (words.map Value.string).toArray 9)):=λw=>aeR words w.1.size 0 17 s _ dC (by
  intro j hj;rw[World.cell?_alloc_at _ _ _ _ sI];exact afg j hj)
 open aju in exact ug
section
namespace Pl
abbrev Ar:=lI × lI
structure Lm where
 f:Int
 c:Int
 r:Bool
 s:Int
structure Ms where
 f:Int
 c:Int
 s:Int
abbrev Rs:=Except (Int × Int) Ar × Ms
def jP{α:Type}(k:α->List UInt8)(l:List α)(x:lJ):Nat->Option α
 |0=>c_
 |i+1=>match l[i]? with
  |some p=>if k p=x then a_ p else jP k l x i
  |none=>c_
structure Gb where
 ns:List (lJ × Ar)
 fs:List Tv
def eG(L:Lm)(a:Ar)(m:Ms):Rs:=if L.c<m.c+a.2.length then (.error (4,0),m) else (.ok a,{ m with c:=m.c+a.2.length })
def fin(L:Lm)(r:Int × Ar)(m:Ms):Rs:=if r.1=0 then eG L r.2 m else (.error (2,r.1),m)
def iy:lI->Int->Option (lI × Int)
 |[],s=>a_ ([],s)
 |n::r,s=>if n<1 then c_ else match iy r (s * 48271 % 2147483647) with
  |none=>c_
  |some (d,t)=>a_ (s * 48271 % 2147483647 % n::d,t)
def roll(L:Lm)(w:Ar)(m:Ms):Rs:=if L.r=d_ then (.error (2,11),m) else match iy w.2 m.s with
 |none=>(.error (2,1),m)
 |some (d,s)=>eG L (w.1,d) { m with s:=s }
def oK(l:lI):Ar:=(if l.length=1 then [] else [(l.length:Int)],l)
def mr(ns:List (lJ × Ar))(x:lJ):Option Ar:=(jP (·.1) ns x ns.length).map (·.2)
def gH(ns:List (lJ × Ar))(own:List Ar)(x:lJ):Option Ar :=
 match own with
 |[]=>mr ns x
 |[w]=>if x=[119] then a_ w else mr ns x
 |w::a::_=>if x=[119] then a_ w else if x=[97] then a_ a else mr ns x
def mX(fs:List Tv)(self:Option Tv)(x:lJ):Option Tv:=if x=lL then self else jP (·.nm) fs x fs.length
section
variable (k1:fS->Ar->Int × Ar) (k2:fS->Ar->Ar->Int × Ar) (L:Lm)
def iQ(m:Ms)(k:Ms->Rs):Rs:=if L.f<=m.f then (.error (3,0),m) else k { m with f:=m.f+1 }
def jl(r:Rs)(k:Ar->Ms->Rs):Rs:=match r with
 |(.ok a,m)=>k a m
 |(.error e,m)=>(.error e,m)
def qG(call:lJ->List Ar->Ms->Rs)(s:Sv)(w:Ar)(m:Ms):Rs :=
 if s.fn.k=10 then call s.fn.nm [w] m else if s.fn.k=9 then roll L w m else fin L (k1 s.fn w) m
def mi(call:lJ->List Ar->Ms->Rs)(s:Sv)(a w:Ar)(m:Ms):Rs :=
 if s.fn.k=10 then call s.fn.nm [w,a] m else fin L (k2 s.fn a w) m
def tU(nm:lJ->Option Ar)(s:Sv)(m:Ms):Rs :=
 if s.k=2 then match nm s.nm with
  |some a=>(.ok a,m)
  |none=>(.error (2,10),m)
 else eG L (oK s.eF) m
def oE(nm:lJ->Option Ar)(call:lJ->List Ar->Ms->Rs):Nd Sv->Ms->Rs
 |.at s,m=>iQ L m (tU L nm s)
 |.one s r,m=>jl (oE nm call r m) λw m=>iQ L m (qG k1 L call s w)
 |.two s l r,m=>jl (oE nm call r m) λw m=>jl (oE nm call l m) λa m=>iQ L m (mi k2 L call s a w)
def oW(nm:lJ->Option Ar)(call:lJ->List Ar->Ms->Rs)(c:List Sv)(m:Ms):Rs:=match nd c c.length with
 |some (t,_)=>oE k1 k2 L nm call t m
 |none=>(.error (0,0),m)
def nT(ex:List Sv->Ms->Rs)(code:List Sv):List Gv->Ms->Rs
 |[],m=>ex code m
 |g::gs,m=>jl (ex g.test m) λt m=>if t.2=[1] then ex g.eT m else if t.2=[0] then nT ex code gs m else (.error (2,1),m)
def ki(G:Gb):Nat->Option Tv->List UInt8->List Ar->Ms->Rs
 |0,self,x,own,m=>match mX G.fs self x with
  |none=>(.error (2,10),m)
  |some _=>(.error (2,13),m)
 |d+1,self,x,own,m=>match mX G.fs self x with
  |none=>(.error (2,10),m)
  |some f=>nT (oW k1 k2 L (gH G.ns own) (ki G d (a_ f))) f.code f.gs m
def top(G:Gb)(c:List Sv)(m:Ms):Rs:=oW k1 k2 L (gH G.ns []) (ki k1 k2 L G 50 c_) c m
def iP:List Tv->Gb->Option Ar->Ms->Rs
 |[],G,v,m=>match v with
  |some a=>(.ok a,m)
  |none=>(.error (2,12),m)
 |s::p,G,v,m=>if s.k=3 then iP p ⟨G.ns,G.fs++[s]⟩ v m else jl (top k1 k2 L G s.code m) λa m =>
  if s.k=2 then iP p ⟨G.ns++[(s.nm,a)],G.fs⟩ v m else iP p G (a_ a) m
def rn(p:List Tv)(w:Ar):Rs:=iP k1 k2 L p ⟨[([119],w)],[]⟩ c_ ⟨0,0,L.s⟩
end
end Pl
end
section
namespace Pl
section
variable {α β γ:Type}
def eU(F:α->Except Int β):List α->Except Int (List β)
 |[]=>.ok []
 |x::l=>match F x with
  |.error c=>.error c
  |.ok y=>match eU F l with
   |.error c=>.error c
   |.ok r=>.ok (y::r)
def gM(F:α->Except Int β)(l:List α)(k:Nat)(acc:List β):Except Int (List β):=match eU F (l.drop k) with
 |.error c=>.error c
 |.ok r=>.ok (acc++r)
def p_(F:α->Except Int β)(l:List α):gM F l 0 []=eU F l:=by
 unfold gM
 cases h:eU F l <;> simp[h]
def qf(F:α->Except Int β)(l:List α)(k:Nat)(acc:List β)(h:l.length<=k):gM F l k acc=.ok acc:=by
 simp[gM,A_ h,eU]
def qc(F:α->Except Int β)(l:List α)(k:Nat)(acc:List β)(x:α)(h:l[k]? = a_ x):gM F l k acc=match F x with
  |.error c=>.error c
  |.ok y=>gM F l (k+1) (acc++[y]):=by
 have⟨hk,e⟩:=gQ.1 h;unfold gM;rw[qW hk,e];simp only[eU]
 cases F x with
 |error c=>rfl
 |ok y=>cases eU F (l.drop (k+1)) <;> simp
def VE{F:α->Except Int β}{x:α}{l:List α}{r:List β}(h:eU F (x::l)=.ok r):∃y r',r=y::r'/\F x=.ok y/\eU F l=.ok r':=by
 simp only[eU] at h
 cases hx:F x with
 |error c=>rw[hx] at h;cases h
 |ok y =>
  rw[hx] at h
  cases hl:eU F l with
  |error c=>rw[hl] at h;cases h
  |ok r'=>rw[hl] at h;injection h with h;exact⟨y,r',h.symm,rfl,rfl⟩
def qK{F:α->Except Int β}:∀{l:List α}{r:List β},eU F l=.ok r->r.length=l.length
 |[],r,h=>by injection h with h;rw[<- h];rfl
 |x::l,r,h=>by obtain⟨y,r',rfl,_,h'⟩:=VE h;simp[qK h']
def qL{F:α->Except Int β}{P:β->Prop}:∀{l:List α}{r:List β},eU F l=.ok r->(∀x∈l,∀y,F x=.ok y->P y)->∀y∈r,P y
 |[],r,h,hp=>by injection h with h;rw[<- h];simp
 |x::l,r,h,hp=>by
  obtain⟨y,r',rfl,hy,h'⟩:=VE h;intro z hz;rcases qR.1 hz with rfl|hz
  ·exact hp x sI z hy
  exact qL h' (λx hx=>hp x Jl) z hz
def NA(F:β->Except Int γ)(g:α->β):∀l:List α,eU F (l.map g)=eU (λx=>F (g x)) l
 |[]=>rfl
 |x::l=>by simp only[oH,eU,NA F g l]
def aff(n:Nat)(x:Int)(ys:lI)(h:n=ys.length):(eE n x).zip ys=ys.map (λy=>(x,y)):=by
 subst h;induction ys with
 |nil=>rfl
 |cons y ys ih=>simp only[fW,PY,List.zip_cons_cons,oH,ih]
def afe(n:Nat)(y:Int)(xs:lI)(h:n=xs.length):xs.zip (eE n y)=xs.map (λx=>(x,y)):=by
 subst h;induction xs with
 |nil=>rfl
 |cons x xs ih=>simp only[fW,PY,List.zip_cons_cons,oH,ih]
end
def wS(sh:lI):Except Int (lI)->Except Int Ar
 |.error c=>.error c
 |.ok d=>.ok (sh,d)
def f_:Except Int Ar->Int × Ar
 |.error c=>(c,([],[]))
 |.ok a=>(0,a)
def lE(v:Int):Except Int Int:=if -3000000000<=v/\v<=3000000000 then .ok v else .error 5
def nW(b:Bool):Int:=if b=b_ then 1 else 0
def jI(x y:Int):Int:=if ((x.tmod y != 0) && (decide (x<0) != decide (y<0)))=b_ then x.tdiv y-1 else x.tdiv y
def two(op x y:Int):Except Int Int :=
 if op=1 then lE (x+y) else if op=2 then lE (x-y) else if op=3 then lE (x * y)
 else if op=4 then (if y=0 then .error 1 else .ok (jI x y)) else if op=5 then (if y=0 then .ok x else .ok (x-y * jI x y))
 else if op=6 then .ok (min x y) else if op=7 then .ok (max x y) else if op=8 then .ok (nW (decide (x<y))) else if op=9 then .ok (nW (x == y)) else .ok (nW (decide (y<x)))
def one(op x:Int):Except Int Int :=
 if op=1 then .ok (-x) else if op=2 then .ok (max x (-x)) else if op=3 then .ok (nW (decide (0<x))-nW (decide (x<0))) else if x=0\/x=1 then .ok (1-x) else .error 1
def qQ(op:Int)(a:Ar):Except Int Ar:=if op<1\/4<op then .error 9 else wS a.1 (eU (one op) a.2)
abbrev jK(F:Int->Int->Except Int Int)(p:Int × Int):Except Int Int:=F p.1 p.2
def el(F:Int->Int->Except Int Int)(a b:Ar):Except Int Ar :=
 if a.1=[] then wS b.1 (eU (F (a.2.getD 0 0)) b.2) else if b.1=[] then wS a.1 (eU (λx=>F x (b.2.getD 0 0)) a.2)
 else if ¬a.1.length=b.1.length then .error 2 else if ¬a.1=b.1 then .error 3 else wS a.1 (eU (jK F) (a.2.zip b.2))
def sU(op:Int)(a b:Ar):Except Int Ar:=if fN op=b_ then el (two op) a b else .error 9
end Pl
end
end Go.Proofs.YtiagfejlmafliaaGreatDoor
namespace Go.Proofs.YtiagfejlmafliaaGreatDoor.Pl
set_option linter.all false
open Go.Proofs.Tryz Pl
set_option maxHeartbeats 16000000
open World renaming setCell->ez,alloc->ew
open List renaming range->eA,replicate->eE
open Option renaming some->a_,none->c_
open Bool renaming true->b_,false->d_
variable {k:Nat}{zs:lI}
def jc(x:Int):Bool:=decide (0<=x/\x<=1000)
def lK(p x:Int):Int:=if 1000<p * x then 1001 else p * x
def mq(zs:lI):Int:=zs.foldl lK 1
def eR(zs:lI):Int:=zs.foldl (λp x=>p * x) 1
def gV(zs:lI):Bool:=decide (zs.length<=3) && zs.all jc
def fy(zs:lI):Bool:=gV zs && decide (eR zs<=1000)
def fB(x:Int):Bool:=decide (-3000000000<=x) && decide (x<=3000000000)
def okB(a:Ar):Bool:=fy a.1 && decide ((a.2.length:Int)=eR a.1) && a.2.all fB
def vq{α:Type}{l:List α}{x:α}(h:l[k]? = a_ x):l.take (k+1)=l.take k++[x]:=by rw[pB,h];rfl
def ads(l:lI)(x:Int):mq (l++[x])=lK (mq l) x:=by simp[mq]
def M_(l:lI)(x:Int):eR (l++[x])=eR l * x:=by simp[eR]
def AT{a b A B:Int}(ha:0<=a)(ha':a<=A)(hb:0<=b)(hb':b<=B):0<=a * b/\a * b<=A * B :=
 ⟨PW ha hb,Int.mul_le_mul ha' hb' hb (IC ha ha')⟩
def afw{p x:Int}(hp:0<=p)(uO:p<=1001)(hx:0<=x)(R_:x<=1000):0<=lK p x/\lK p x<=1001:=by
 have:=AT hp uO hx R_;unfold lK;split <;> omega
def agv(l:lI)(h:l.all jc=b_)(p:Int)(hp:0<=p)(uO:p<=1001):0<=l.foldl lK p/\l.foldl lK p<=1001:=by
 induction l generalizing p with
 |nil=>exact⟨hp,uO⟩
 |cons x xs ih =>
  simp[jc] at h
  have hb:=afw hp uO h.1.1 h.1.2;exact ih (by simp[jc];exact h.2) _ hb.1 hb.2
def Nw(l:lI)(h:l.all jc=b_):0<=mq l/\mq l<=1001:=agv l h 1 oM oM
def Gp{l:lI}{p:Int->Bool}(h:l.all p=b_)(k:Nat):(l.take k).all p=b_:=by
 simp only[ga] at *;exact λx hx=>h x (Ip hx)
def oG{l:lI}{p:Int->Bool}(h:l.all p=b_){x:Int}(hk:l[k]? = a_ x):p x=b_:=ga.1 h x (my hk)
def Db{l:lI}(p:Int->Bool){x:Int}(hk:l[k]? = a_ x):(l.take (k+1)).all p=((l.take k).all p && p x):=by rw[vq hk];simp
def Du{l:lI}{p:Int->Bool}{x:Int}(hk:l[k]? = a_ x)(h:p x=d_):l.all p=d_:=by
 cases e:l.all p
 ·rfl
 rw[oG e hk] at h;cases h
def rM{x:Int}(h:jc x=b_):0<=x/\x<=1000:=by simpa[jc] using h
def uc(zs:lI)(h:gV zs=b_):(0<=eR zs/\eR zs<=1000000000)/\((mq zs<=1000 ↔ eR zs<=1000)/\(mq zs<=1000->mq zs=eR zs)):=by
 simp only[gV,fO,fQ] at h;obtain⟨hl,hr⟩:=h;match zs,hl,hr with
 |[],_,_=>simp[mq,eR]
 |[a],_,hr =>
  simp[jc] at hr
  simp[mq,eR,lK]
  split <;> omega
 |[a,b],_,hr =>
  simp[jc] at hr
  obtain⟨⟨a0,a1⟩,b0,b1⟩:=hr;have Co:=AT a0 a1 b0 b1;have e:lK 1 a=a:=by unfold lK;split <;> omega
  simp[mq,eR,e]
  unfold lK;split <;> omega
 |[a,b,c],_,hr =>
  simp[jc] at hr
  obtain⟨⟨a0,a1⟩,⟨b0,b1⟩,c0,c1⟩:=hr;have Co:=AT a0 a1 b0 b1;have apX:=AT Co.1 Co.2 c0 c1;have e:lK 1 a=a:=by unfold lK;split <;> omega
  simp only[mq,eR,List.foldl_cons,Io,e,Iq];by_cases h1:1000<a * b
  ·have e1:lK a b=1001:=by unfold lK;rw[eD h1]
   rw[e1];by_cases hc:c=0
   ·subst hc;simp[lK]
   have h2:a * b * 1<=a * b * c:=Z9 oM Co.1;have h3:lK 1001 c=1001:=by unfold lK;rw[eD oM]
   rw[h3];omega
  have e1:lK a b=a * b:=by unfold lK;rw[eB h1]
  rw[e1];unfold lK;split <;> omega
def afb(h:gV zs=b_)(k:Nat):gV (zs.take k)=b_:=by
 simp only[gV,fO,fQ] at h ⊢;exact⟨by have:=List.length_take_le' k zs;omega,Gp h.2 k⟩
def al0(h:gV zs=b_):fy zs=decide (mq zs<=1000):=by
 have:=(uc zs h).2.1;simp[fy,h,this]
def g_(h:fy zs=b_):mq zs=eR zs/\0<=eR zs/\eR zs<=1000/\zs.length<=3/\zs.all jc=b_/\gV zs=b_:=by
 simp only[fy,fO,fQ] at h;have:=uc zs h.1;have hb:=h.1;simp only[gV,fO,fQ] at hb;exact⟨this.2.2 (this.2.1.2 h.2),this.1.1,h.2,hb.1,hb.2,h.1⟩
def ok_eq{a:Ar}(h:okB a=b_):fy a.1=b_/\(a.2.length:Int)=eR a.1/\a.2.all fB=b_/\a.1.length<=3/\a.2.length<=1000:=by
 simp only[okB,fO,fQ] at h;have:=g_ h.1.1;exact⟨h.1.1,h.1.2,h.2,this.2.2.2.1,oM⟩
def VJ(l:lI)(p:Int):l.foldl (λp x=>p * x) p=p * eR l:=by
 induction l generalizing p with
 |nil=>simp[eR]
 |cons x xs ih=>simp only[eR,List.foldl_cons];rw[ih,ih (1 * x),Iq,Int.mul_assoc]
def oF(x:Int)(l:lI):eR (x::l)=x * eR l:=by
 show l.foldl _ (1 * x)=_;rw[VJ,Iq]
def yR(l m:lI):eR (l++m)=eR l * eR m:=by
 show (l++m).foldl _ 1=_;rw[List.foldl_append,VJ];rfl
end Go.Proofs.YtiagfejlmafliaaGreatDoor.Pl
namespace Go.Proofs.YtiagfejlmafliaaGreatDoor.Pl
set_option linter.all false
open Go.Proofs.Tryz Pl
set_option maxHeartbeats 16000000
open World renaming setCell->ez,alloc->ew
open List renaming range->eA,replicate->eE
open Option renaming some->a_,none->c_
open Bool renaming true->b_,false->d_
variable {x y M op v z:Int}
def WQ(h0:-M<=x)(h1:x<=M):-M<=x.tdiv y/\x.tdiv y<=M:=by
 have h:(x.tdiv y).natAbs<=x.natAbs:=by rw[Int.natAbs_tdiv];exact Is _ _
 omega
def ag4(h0:-M<=x)(h1:x<=M):-M<=x.tmod y/\x.tmod y<=M:=by
 have h:(x.tmod y).natAbs<=x.natAbs:=by rw[PX];exact Nat.mod_le _ _
 omega
def Nz(x y:Int):y * x.tdiv y=x-x.tmod y:=by
 have:=Int.mul_tdiv_add_tmod x y;omega
def VU(x y:Int):x.tdiv y * y=x-x.tmod y:=by rw[Int.mul_comm];exact Nz x y
def ag3(x y:Int)(h:y ≠ 0):(x.tmod y).natAbs<y.natAbs:=by rw[PX];exact zv _ oM
def ad8(x y:Int):(0<=x->0<=x.tmod y)/\(x<=0->x.tmod y<=0):=by
 refine⟨λh=>Int.tmod_nonneg y h,λh=>?_⟩;have:=Int.tmod_nonneg y (show 0<=-x by omega);rw[Int.neg_tmod] at this;omega
def aog(x y:Int):(x.tdiv y * y != x)=(x.tmod y != 0):=by
 rw[VU,mz];simp only[iH];omega
def G9(hy:y ≠ 0)(h0:-M<=x)(h1:x<=M)(h2:-M<=y)(h3:y<=M):-M<=x-y * jI x y/\x-y * jI x y<=M:=by
 have a:=ag3 x y hy;have b:=ad8 x y;unfold jI;split
 ·rename_i h
  rw[Int.mul_sub,Nz];simp only[fO,iH] at h;by_cases hx:x<0
  ·have:¬y<0:=λCe=>h.2 (by simp[hx,Ce])
   have:=b.2 oM;omega
  have:y<0:=Z_ λCe=>h.2 (by simp[hx,Ce]);have:=b.1 oM;omega
 rw[Nz];omega
def Hv(hy:y ≠ 0)(h0:-M<=x)(h1:x<=M):-M<=jI x y/\jI x y<=M:=by
 have a:=WQ (y:=y) h0 h1;unfold jI;split
 ·rename_i h
  simp only[fO,iH] at h;refine⟨?_,oM⟩;have hq:(x.tdiv y).natAbs=x.natAbs / y.natAbs:=Int.natAbs_tdiv x y;have hr:(x.tmod y).natAbs=x.natAbs % y.natAbs:=PX x y;have gu:x.natAbs % y.natAbs ≠ 0:=oM;have hy1:y.natAbs ≠ 1:=λe=>by rw[e] at gu;omega
  have:x.natAbs / y.natAbs<=x.natAbs / 2:=Nat.div_le_div_left oM oM;have:1<=x.natAbs:=Z_ λh=>gu (by rw[show x.natAbs=0 by omega];simp);omega
 exact a
def Xl(h0:-3000000000<=x)(h1:x<=3000000000)(h2:-3000000000<=y)(h3:y<=3000000000):-9000000000000000000<=x * y/\x * y<=9000000000000000000:=by
 have h:(x * y).natAbs<=3000000000 * 3000000000:=by rw[Int.natAbs_mul];exact IF oM oM
 omega
def qh(h:fB x=b_):-3000000000<=x/\x<=3000000000:=by simpa[fB] using h
def rN(h:-3000000000<=x)(h':x<=3000000000):fB x=b_:=by simp[fB,h,h']
def Nl(h:fN op=b_):op=1\/op=2\/op=3\/op=4\/op=5\/op=6\/op=7\/op=8\/op=9\/op=10:=by simp[fN] at h;omega
def vl:Except Int Int->Int
 |.ok v=>v
 |.error _=>0
def cd{α:Type}:Except Int α->Int
 |.ok _=>0
 |.error c=>c
def YE(h0:-3000000000<=v)(h1:v<=3000000000):lE v=.ok v:=eD ⟨h0,h1⟩
def N8(h:lE v=.ok z):fB z=b_:=by
 unfold lE at h;split at h
 ·next hv=>injection h with h;subst h;exact rN hv.1 hv.2
 cases h
def xq(b:Bool):0<=nW b/\nW b<=1:=by cases b <;> simp[nW]
def w_(ho:fN op=b_)(hx:fB x=b_)(hy:fB y=b_)(h:two op x y=.ok z):fB z=b_:=by
 obtain⟨x0,x1⟩:=qh hx;have⟨y0,y1⟩:=qh hy;rcases Nl ho with rfl|rfl|rfl|rfl|rfl|rfl|rfl|rfl|rfl|rfl <;> simp[two] at h
 ·exact N8 h
 ·exact N8 h
 ·exact N8 h
 ·split at h
  ·cases h
  next hy=>injection h with h;subst h;exact rN (Hv hy x0 x1).1 (Hv hy x0 x1).2
 ·split at h
  ·injection h with h;subst h;exact hx
  next hy=>injection h with h;subst h;exact rN (G9 hy x0 x1 y0 y1).1 (G9 hy x0 x1 y0 y1).2
 ·subst h;exact rN oM oM
 ·subst h;exact rN oM oM
 all_goals
  subst h;have:=xq (decide (x<y));have:=xq (x == y);have:=xq (decide (y<x));exact rN oM oM
def aht(hx:fB x=b_)(h:one op x=.ok z):fB z=b_:=by
 obtain⟨x0,x1⟩:=qh hx;unfold one at h;have:=xq (decide (0<x));have:=xq (decide (x<0));split at h
 ·exact IP
 split at h
 ·exact IP
 split at h
 ·exact IP
 split at h
 ·exact IP
 cases h
def ahQ{c:Int}(h:lE v=.error c):c=5:=by
 unfold lE at h;split at h
 ·cases h
 injection h with h;exact h.symm
def AH{op x y c:Int}(h:two op x y=.error c):¬c=0:=by
 unfold two at h;repeat' split at h
 all_goals first | (have:=ahQ h;omega) | (cases h;done) | (cases h;decide)
def Xe{op x c:Int}(h:one op x=.error c):¬c=0:=by
 unfold one at h;repeat' split at h
 all_goals first | (cases h;done) | (cases h;decide)
end Go.Proofs.YtiagfejlmafliaaGreatDoor.Pl
namespace Go.Proofs.YtiagfejlmafliaaGreatDoor
set_option linter.all false
open Go.Proofs.Tryz Pl
set_option maxHeartbeats 16000000
open World renaming setCell->ez,alloc->ew
open List renaming range->eA,replicate->eE
open Option renaming some->a_,none->c_
open Bool renaming true->b_,false->d_
variable {f f':Nat->Int}{a b t:Nat}{x r:Int}{k:Int->Int}{L R:lI}
namespace Pl
def e_(f:Nat->Int)(a b:Nat):lI:=(eA (b-a)).map λt=>f (a+t)
def yV(f:Nat->Int)(a b:Nat):(e_ f a b).length=b-a:=by simp[e_]
def yW(h:t<b-a):(e_ f a b)[t]? = a_ (f (a+t)):=by
 unfold e_;rw[qo,uw h];rfl
def VZ(f:Nat->Int)(h:b-a<=t):(e_ f a b)[t]? = c_:=List.getElem?_eq_none (by rw[yV];exact h)
def yU(f:Nat->Int)(h:b<=a):e_ f a b=[]:=by
 unfold e_;rw[show b-a=0 by omega];rfl
def sJ(f:Nat->Int){m:Nat}(h1:a<=m)(h2:m<=b):e_ f a m++e_ f m b=e_ f a b:=by
 apply List.ext_getElem?
 intro t;by_cases ht:t<m-a
 ·rw[pA (by rw[yV];exact ht),yW ht,yW oM]
 rw[oI (by rw[yV];omega),yV];by_cases hb:t<b-a
 ·rw[yW oM,yW hb]
  congr 2;omega
 rw[VZ f oM,VZ f oM]
def wY(h:∀t,a<=t->t<b->f t=f' t):e_ f a b=e_ f' a b:=by
 unfold e_;apply A9
 intro t ht;have:=qV.1 ht;exact h _ oM oM
def FX{c d:Nat}(hl:b-a=d-c)(h:∀t,t<b-a->f (a+t)=f' (c+t)):e_ f a b=e_ f' c d:=by
 unfold e_;rw[<- hl];apply A9
 intro t ht;exact h t (qV.1 ht)
def De(f:Nat->Int)(a:Nat):e_ f a (a+1)=[f a]:=by
 unfold e_;rw[show a+1-a=1 by omega];rfl
def vw(h:x∈e_ f a b):∃t,a<=t/\t<b/\f t=x:=by
 unfold e_ at h;obtain⟨t,ht,rfl⟩:=mu.1 h;have:=qV.1 ht;exact⟨a+t,oM,oM,rfl⟩
def OF(h1:a<=t)(h2:t<b):f t∈e_ f a b:=by
 unfold e_;exact mu.2 ⟨t-a,qV.2 oM,by congr 1;omega⟩
def gW(k:Int->Int):lI->List Int->List Int
 |[],R=>R
 |l::L,[]=>l::L
 |l::L,r::R=>if k r<k l then r::gW k (l::L) R else l::gW k L (r::R)
termination_by L R=>L.length+R.length
def qe(k:Int->Int)(L:lI):gW k L []=L:=by cases L <;> simp[gW]
def qM(k:Int->Int)(R:lI):gW k [] R=R:=by simp[gW]
def ue{l:Int}(h:k r<k l):gW k (l::L) (r::R)=r::gW k (l::L) R:=by rw[gW,eD h]
def uf{l:Int}(h:¬k r<k l):gW k (l::L) (r::R)=l::gW k L (r::R):=by rw[gW,eB h]
def aew(k:Int->Int):∀(n:Nat)(L1 R1 L2 R2:lI),L1.length+R1.length<=n->(∀x∈L1,∀y∈R2,k x<=k y)->(∀x∈R1,∀y∈L2,k x<k y)->gW k (L1++L2) (R1++R2)=gW k L1 R1++gW k L2 R2:=by
 intro n;induction n with
 |zero =>
  intro L1 R1 L2 R2 h _ _;obtain rfl:L1=[]:=lP.1 oM;obtain rfl:R1=[]:=lP.1 oM;simp[qe]
 |succ n ih =>
  intro L1 R1 L2 R2 h hL hR
  cases L1 with
  |nil =>
   cases R1 with
   |nil=>simp[qe]
   |cons r R1 =>
    cases L2 with
    |nil=>simp[qM]
    |cons l L2 =>
     have e:=ih [] R1 (l::L2) R2 JE sI (λx hx y hy=>hR x (mx _ hx) y hy);rw[qn] at e ⊢;rw[qm,ue (hR r sI l sI),e,qM,qM];rfl
  |cons l L1 =>
   cases R1 with
   |nil =>
    cases R2 with
    |nil=>simp[qe]
    |cons r R2 =>
     have e:=ih L1 [] L2 (r::R2) JE (λx hx y hy=>hL x (mx _ hx) y hy) sI;rw[qn] at e ⊢;rw[qm,uf (by have:=hL l sI r sI;omega),e,qe,qe];rfl
   |cons r R1 =>
    by_cases hk:k r<k l
    ·have e:=ih (l::L1) R1 L2 R2 JE hL (λx hx y hy=>hR x (mx _ hx) y hy)
     rw[qm,qm,ue hk,<- qm,e,ue hk];rfl
    have e:=ih L1 (r::R1) L2 R2 JE (λx hx y hy=>hL x (mx _ hx) y hy) hR;rw[qm,qm,uf hk,<- qm,e,uf hk];rfl
def N5{L1 R1 L2 R2:lI}(h1:∀x∈L1,∀y∈R2,k x<=k y)(h2:∀x∈R1,∀y∈L2,k x<k y):gW k (L1++L2) (R1++R2)=gW k L1 R1++gW k L2 R2:=aew k _ L1 R1 L2 R2 (jR _) h1 h2
def ahD(k:Int->Int):∀(n:Nat)(L R:lI),L.length+R.length<=n->x∈gW k L R->x∈L\/x∈R:=by
 intro n;induction n with
 |zero =>
  intro L R h hx;obtain rfl:L=[]:=lP.1 oM;rw[qM] at hx;exact .inr hx
 |succ n ih =>
  intro L R h hx
  cases L with
  |nil=>rw[qM] at hx;exact .inr hx
  |cons l L =>
   cases R with
   |nil=>rw[qe] at hx;exact .inl hx
   |cons r R =>
    by_cases hk:k r<k l
    ·rw[ue hk] at hx
     rcases qR.1 hx with rfl|hx
     ·exact .inr sI
     rcases ih _ _ JE hx with h|h
     ·exact .inl h
     exact .inr (mx _ h)
    rw[uf hk] at hx;rcases qR.1 hx with rfl|hx
    ·exact .inl sI
    rcases ih _ _ JE hx with h|h
    ·exact .inl (mx _ h)
    exact .inr h
def ins(k:Int->Int)(x:Int):lI->List Int
 |[]=>[x]
 |y::l=>if k x<k y then x::y::l else y::ins k x l
def VG{P Q:lI}(hP:∀p∈P,k p<=k x)(hQ:∀q∈Q,k x<k q):ins k x (P++Q)=P++x::Q:=by
 induction P with
 |nil =>
  cases Q with
  |nil=>rfl
  |cons q Q=>rw[qn,ins,eD (hQ q sI)];rfl
 |cons p P ih =>
  rw[qm,ins,eB (by have:=hP p sI;omega),ih (λy hy=>hP y (mx _ hy))];rfl
def Xn{y:Int}{l:lI}(h:y∈ins k x l):y=x\/y∈l:=by
 induction l with
 |nil=>simp[ins] at h;exact .inl h
 |cons z l ih =>
  rw[ins] at h;split at h
  ·rcases qR.1 h with h|h
   ·exact .inl h
   exact .inr h
  rcases qR.1 h with h|h
  ·exact .inr (by rw[h];simp)
  rcases ih h with h|h
  ·exact .inl h
  exact .inr (mx _ h)
def vf(k:Int->Int)(l:lI):Prop:=l.Pairwise λx y=>k x<=k y
def ag9{l:lI}(h:vf k l):vf k (ins k x l):=by
 induction l with
 |nil=>simp[ins,vf]
 |cons y l ih =>
  have h':=DI.1 h;rw[ins];split
  ·rename_i hk
   refine DI.2 ⟨λz hz=>?_,h⟩;rcases qR.1 hz with rfl|hz
   ·omega
   have:=h'.1 z hz;omega
  rename_i hk
  refine DI.2 ⟨λz hz=>?_,ih h'.2⟩;rcases Xn hz with rfl|hz
  ·omega
  exact h'.1 z hz
def Xm(k:Int->Int)(x:Int):∀(n:Nat)(L R:lI),L.length+R.length<=n->vf k L->vf k R->gW k L (ins k x R)=ins k x (gW k L R):=by
 intro n;induction n with
 |zero =>
  intro L R h _ _;obtain rfl:L=[]:=lP.1 oM;rw[qM,qM]
 |succ n ih =>
  intro L R h sL sR
  cases L with
  |nil=>rw[qM,qM]
  |cons l L =>
   have Rj:=DI.1 sL
   cases R with
   |nil =>
    rw[qe];show gW k (l::L) [x]=ins k x (l::L);rw[ins];by_cases hk:k x<k l
    ·rw[ue hk,eD hk,qe]
    rw[uf hk,eB hk];have:=ih L [] JE Rj.2 sR;rw[qe] at this;rw[<- this];rfl
   |cons r R =>
    have sR':=DI.1 sR;by_cases hx:k x<k r
    ·have e:ins k x (r::R)=x::r::R:=by rw[ins,eD hx]
     rw[e];by_cases hr:k r<k l
     ·rw[ue oM,ue hr,ins,eD hx]
     by_cases hl:k x<k l
     ·rw[ue hl,uf hr,ins,eD hl]
     rw[uf hl,uf hr,ins,eB hl];have:=ih L (r::R) JE Rj.2 sR;rw[e] at this;rw[this]
    have e:ins k x (r::R)=r::ins k x R:=by rw[ins,eB hx]
    rw[e];by_cases hr:k r<k l
    ·rw[ue hr,ue hr,ins,eB hx]
     have:=ih (l::L) R JE sL sR'.2;rw[this]
    rw[uf hr,uf hr,ins,eB oM];have:=ih L (r::R) JE Rj.2 sR;rw[e] at this;rw[this]
def im(k:Int->Int)(a:Nat):Nat->List Int
 |0=>[]
 |n+1=>ins k ((a+n:Nat):Int) (im k a n)
def Dc(k:Int->Int)(a n:Nat):vf k (im k a n):=by
 induction n with
 |zero=>exact List.Pairwise.nil
 |succ n ih=>exact ag9 ih
def ahF(k:Int->Int)(x:Int)(l:lI):(ins k x l).length=l.length+1:=by
 induction l with
 |nil=>rfl
 |cons y l ih=>rw[ins];split <;> simp[ih]
def Xr(k:Int->Int)(a n:Nat):(im k a n).length=n:=by
 induction n with
 |zero=>rfl
 |succ n ih=>rw[im,ahF,ih]
def N6{n:Nat}(h:x∈im k a n):(a:Int)<=x/\x<(a:Int)+n:=by
 induction n with
 |zero=>cases h
 |succ n ih =>
  rcases Xn h with rfl|h
  ·omega
  have:=ih h;omega
def ahA(k:Int->Int)(a n m:Nat):gW k (im k a n) (im k (a+n) m)=im k a (n+m):=by
 induction m with
 |zero=>rw[im,qe];rfl
 |succ m ih =>
  rw[im,Xm k _ _ _ _ (jR _) (Dc k a n) (Dc k _ m),ih];show _=ins k ((a+(n+m):Nat):Int) (im k a (n+m));rw[PV]
def nE(k:Int->Int)(f:Nat->Int)(a b:Nat):Prop:=∀i j,a<=i->i<j->j<b->k (f i)<=k (f j)
def NM(h:vf k (e_ f a b)):nE k f a b:=by
 intro i j h1 h2 h3;have hi:(i-a)<(e_ f a b).length:=by rw[yV];omega
 have hj:(j-a)<(e_ f a b).length:=by rw[yV];omega
 have:=Z8.1 h (i-a) (j-a) hi hj oM;have e1:=yW (f:=f) (a:=a) (b:=b) (t:=i-a) oM;have e2:=yW (f:=f) (a:=a) (b:=b) (t:=j-a) oM;rw[fw hi] at e1;rw[fw hj] at e2;rw[qT e1,qT e2,show a+(i-a)=i by omega,show a+(j-a)=j by omega] at this;exact this
def mW(da:lI)(x:Int):Int:=da.getD x.toNat 0
def agt{us:lI}{j p:Nat}(hu:us=im k 0 j)(hp:p<=us.length)(h1:∀t,t<p->k (us.getD t 0)<=k (j:Int))(h2:p<us.length->k (j:Int)<k (us.getD p 0)):us.take p++(j:Int)::us.drop p=im k 0 (j+1):=by
 have hs:vf k us:=by rw[hu];exact Dc _ _ _
 show _=ins k ((0+j:Nat):Int) (im k 0 j);rw[<- hu,gY];have e:ins k (j:Int) (us.take p++us.drop p)=us.take p++(j:Int)::us.drop p:=VG (λx hx=>by
   obtain⟨t,ht,rfl⟩:=List.getElem_of_mem hx;have hl:=List.length_take_le p us;have h:=h1 t (by rw[jH] at ht;omega);rw[List.getD,fw (by rw[jH] at ht;omega)] at h;rw[List.getElem_take];exact h) (λx hx=>by
   obtain⟨t,ht,rfl⟩:=List.getElem_of_mem hx;rw[qX] at ht;rw[List.getElem_drop];have h:=h2 oM;rw[List.getD,fw oM] at h;by_cases e:t=0
   ·subst e;exact h
   have:=Z8.1 hs p (p+t) oM oM oM;have h':k (j:Int)<k us[p]:=h;omega)
 rw[vM] at e;exact e.symm
end Pl
end Go.Proofs.YtiagfejlmafliaaGreatDoor
