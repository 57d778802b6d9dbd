import Derived.KernelRfl
import Derived.Test.YtbiiicbfpcfgdaaGreatDoorRows
namespace Go.Proofs.YtbiiicbfpcfgdaaGreatDoor
set_option maxHeartbeats 16000000
set_option linter.unusedVariables false
theorem oM {P:Prop}(h:P:=by omega):P:=h
theorem kR {P:Prop}(h:P:=by kernel_rfl):P:=h
theorem sI {P:Prop}(h:P:=by simp):P:=h
namespace Pl
inductive Nd (α:Type) where
 |at (s:α)
 |one (s:α) (r:Nd α)
 |two (s:α) (l r:Nd α)
namespace Nd
def post {α:Type}:Nd α->List α
 |.at s=>[s]
 |.one s r=>post r++[s]
 |.two s l r=>post r++post l++[s]
def Wf {α:Type}(ar:α->Nat):Nd α->Prop
 |.at s=>ar s=0
 |.one s r=>ar s=1/\r.Wf ar
 |.two s l r=>2<=ar s/\l.Wf ar/\r.Wf ar
end Nd
def run {α:Type}(ar:α->Nat):List α->List (Nd α)->Option (List (Nd α))
 |[],st=>some st
 |s::c,st =>
  if ar s=0 then run ar c (.at s::st)
  else if ar s=1 then match st with
   |x::st=>run ar c (.one s x::st)
   |[]=>none
  else match st with
   |l::r::st=>run ar c (.two s l r::st)
   |_=>none
def par {α:Type}(ar:α->Nat):Nat->List α->Option (Nd α × List α)
 |0,_=>none
 |_+1,[]=>none
 |n+1,s::p =>
  if ar s=0 then some (.at s,p)
  else match par ar n p with
   |none=>none
   |some (t,q) =>
    if ar s=1 then some (.one s t,q)
    else match par ar n q with
     |none=>none
     |some (r,q')=>some (.two s t r,q')
theorem par_post {α:Type}{ar:α->Nat}:∀(n:Nat) (p:List α) (t:Nd α) (q:List α),par ar n p=some (t,q)->p=t.post.reverse++q/\t.Wf ar:=by
 intro n
 induction n with
 |zero=>intro p t q h;simp[par] at h
 |succ n ih =>
  intro p t q h
  cases p with
  |nil=>simp[par] at h
  |cons s p =>
   unfold par at h
   split at h
   ·rename_i h0
    simp only[Option.some.injEq,Prod.mk.injEq] at h
    obtain⟨rfl,rfl⟩:=h
    exact⟨by simp[Nd.post],h0⟩
   rename_i h0
   split at h
   ·simp at h
   rename_i t1 q1 e1
   obtain⟨rfl,w1⟩:=ih _ _ _ e1
   split at h
   ·rename_i h1
    simp only[Option.some.injEq,Prod.mk.injEq] at h
    obtain⟨rfl,rfl⟩:=h
    exact⟨by simp[Nd.post],h1,w1⟩
   rename_i h1
   split at h
   ·simp at h
   rename_i r q2 e2
   obtain⟨rfl,w2⟩:=ih _ _ _ e2
   simp only[Option.some.injEq,Prod.mk.injEq] at h
   obtain⟨rfl,rfl⟩:=h
   exact⟨by simp[Nd.post],by omega,w1,w2⟩
theorem post_pos {α:Type}(t:Nd α):0<t.post.length:=by cases t <;> simp only[Nd.post,List.length_append,List.length_cons,List.length_nil] <;> omega
theorem par_of {α:Type}{ar:α->Nat}:∀(t:Nd α),t.Wf ar->∀(n:Nat) (q:List α),t.post.length<=n->par ar n (t.post.reverse++q)=some (t,q):=by
 intro t
 induction t with
 |«at» s =>
  intro w n q hn
  cases n with
  |zero=>simp[Nd.post] at hn
  |succ n =>
   simp only[Nd.Wf] at w
   simp[Nd.post,par,w]
 |one s r ih =>
  intro w n q hn
  cases n with
  |zero=>simp[Nd.post] at hn
  |succ n =>
   obtain⟨w0,w1⟩:=w
   simp only[Nd.post,List.length_append,List.length_cons,List.length_nil] at hn
   simp only[Nd.post,List.reverse_append,List.reverse_cons,List.reverse_nil,List.nil_append,List.cons_append,par,w0]
   rw[ih w1 n q (by omega)]
   simp
 |two s l r il ir =>
  intro w n q hn
  cases n with
  |zero=>simp[Nd.post] at hn
  |succ n =>
   obtain⟨w0,w1,w2⟩:=w
   simp only[Nd.post,List.length_append,List.length_cons,List.length_nil] at hn
   simp only[Nd.post,List.reverse_append,List.reverse_cons,List.reverse_nil,List.nil_append,List.cons_append,List.append_assoc,par]
   rw[if_neg (by omega),il w1 n _ (by omega)]
   simp only[]
   rw[if_neg (by omega),ir w2 n q (by omega)]
theorem run_post {α:Type}{ar:α->Nat}:∀(t:Nd α),t.Wf ar->∀(c:List α) (st:List (Nd α)),run ar (t.post++c) st=run ar c (t::st):=by
 intro t
 induction t with
 |«at» s=>intro w c st;simp only[Nd.Wf] at w;simp[Nd.post,run,w]
 |one s r ih =>
  intro w c st
  obtain⟨w0,w1⟩:=w
  simp only[Nd.post,List.append_assoc]
  rw[ih w1]
  simp[run,w0]
 |two s l r il ir =>
  intro w c st
  obtain⟨w0,w1,w2⟩:=w
  simp only[Nd.post,List.append_assoc]
  rw[ir w2,il w1]
  simp only[List.cons_append,List.nil_append,run]
  rw[if_neg (by omega),if_neg (by omega)]
def flat {α:Type}(st:List (Nd α)):List α:=(st.reverse.map Nd.post).flatten
theorem flat_cons {α:Type}(t:Nd α) (st:List (Nd α)):flat (t::st)=flat st++t.post:=by simp[flat]
theorem run_flat {α:Type}{ar:α->Nat}:∀(c:List α) (st st':List (Nd α)),(∀t∈st,t.Wf ar)->run ar c st=some st'->flat st'=flat st++c/\∀t∈st',t.Wf ar:=by
 intro c
 induction c with
 |nil=>intro st st' hw h;simp only[run,Option.some.injEq] at h;subst h;exact⟨by simp,hw⟩
 |cons s c ih =>
  intro st st' hw h
  unfold run at h
  split at h
  ·rename_i h0
   obtain⟨e,w⟩:=ih (.at s::st) _ (List.forall_mem_cons.2 ⟨h0,hw⟩) h
   exact⟨by rw[e,flat_cons];simp[Nd.post],w⟩
  rename_i h0
  split at h
  ·rename_i h1
   split at h
   ·rename_i x st
    obtain⟨e,w⟩:=ih (.one s x::st) _ (List.forall_mem_cons.2 ⟨⟨h1,hw x (List.mem_cons_self ..)⟩,fun t ht=>hw t (List.mem_cons_of_mem _ ht)⟩) h
    exact⟨by rw[e,flat_cons,flat_cons];simp[Nd.post],w⟩
   simp at h
  rename_i h1
  split at h
  ·rename_i l r st
   obtain⟨e,w⟩:=ih (.two s l r::st) _ (List.forall_mem_cons.2 ⟨⟨by omega,hw l (List.mem_cons_self ..),hw r (List.mem_cons_of_mem _ (List.mem_cons_self ..))⟩,fun t ht=>hw t (List.mem_cons_of_mem _ (List.mem_cons_of_mem _ ht))⟩) h
   exact⟨by rw[e,flat_cons,flat_cons,flat_cons];simp[Nd.post],w⟩
  simp at h
theorem run_iff {α:Type}{ar:α->Nat}(c:List α) (t:Nd α):run ar c []=some [t] ↔ par ar c.length c.reverse=some (t,[]):=by
 constructor
 ·intro h
  obtain⟨e,w⟩:=run_flat c [] [t] (by simp) h
  simp[flat] at e
  have:=par_of t (w t (by simp)) c.length [] (by rw[e];exact Nat.le_refl _)
  rw[List.append_nil,e] at this
  exact this
 intro h
 obtain⟨e,w⟩:=par_post _ _ _ _ h
 have e2:c=t.post:=by simpa using congrArg List.reverse e
 have:=run_post t w [] []
 rw[List.append_nil] at this
 rw[e2,this]
 rfl
end Pl
namespace Pl
def bl (b:Bool):List UInt8:=match b with | true=>[] | false=>[32]
def lst:List UInt8->List (List UInt8)->List UInt8
 |p,[]=>p
 |_,t::r=>lst t r
theorem lst_append:∀(a:List (List UInt8)) (p x:List UInt8) (b:List (List UInt8)),lst p (a++x::b)=lst x b:=by
 intro a
 induction a with
 |nil=>intro p x b;rfl
 |cons y a ih=>intro p x b;exact ih y x b
def spt (tg:List UInt8->List UInt8->Bool):List UInt8->List (List UInt8)->List UInt8
 |_,[]=>[]
 |p,t::r=>bl (tg p t)++t++spt tg t r
def sp (tg:List UInt8->List UInt8->Bool):List (List UInt8)->List UInt8
 |[]=>[]
 |t::r=>t++spt tg t r
theorem spt_append (tg:List UInt8->List UInt8->Bool):∀(a:List (List UInt8)) (p x:List UInt8) (b:List (List UInt8)),spt tg p (a++x::b)=spt tg p a++bl (tg (lst p a) x)++sp tg (x::b):=by
 intro a
 induction a with
 |nil=>intro p x b;simp[spt,sp,lst]
 |cons y a ih =>
  intro p x b
  simp only[List.cons_append,spt,ih,lst]
  simp
theorem sp_append (tg:List UInt8->List UInt8->Bool) (p:List UInt8) (a:List (List UInt8)) (x:List UInt8) (b:List (List UInt8)):sp tg (p::a++x::b)=sp tg (p::a)++bl (tg (lst p a) x)++sp tg (x::b):=by
 simp only[List.cons_append,sp,spt_append]
 simp
def Fine (lf rt:List UInt8->Bool) (a:List (List UInt8)):Prop:=∃p r,a=p::r/\rt p=false/\lf (lst p r)=false
theorem fine_append {lf rt:List UInt8->Bool}{tg:List UInt8->List UInt8->Bool}(htg:∀a b,tg a b=(lf a || rt b)) {a b:List (List UInt8)}(ha:Fine lf rt a) (hb:Fine lf rt b):Fine lf rt (a++b)/\sp tg (a++b)=sp tg a++[32]++sp tg b:=by
 obtain⟨p,r,rfl,h1,h2⟩:=ha
 obtain⟨q,s,rfl,h3,h4⟩:=hb
 refine⟨⟨p,r++q::s,rfl,h1,by rw[lst_append];exact h4⟩,?_⟩
 rw[sp_append,htg,h2,h3]
 rfl
theorem fine_in {lf rt:List UInt8->Bool}{tg:List UInt8->List UInt8->Bool}(htg:∀a b,tg a b=(lf a || rt b)) (h40:lf [40]=true) (h40':rt [40]=false) (h41:rt [41]=true) (h41':lf [41]=false) {a:List (List UInt8)}(ha:Fine lf rt a):Fine lf rt ([40]::(a++[[41]]))/\sp tg ([40]::(a++[[41]]))=[40]++sp tg a++[41]:=by
 obtain⟨p,r,rfl,h1,h2⟩:=ha
 refine⟨⟨[40],p::r++[[41]],rfl,h40',by rw[lst_append];exact h41'⟩,?_⟩
 show [40]++spt tg [40] (p::(r++[[41]]))=_
 simp only[spt,spt_append,sp,htg,h40,h41,h2]
 simp[bl]
def bareN {α:Type}:Nd α->Bool
 |.at _=>true
 |.one _ _=>false
 |.two _ _ _=>false
def toks {α:Type}(fa ff:α->List (List UInt8)):Nd α->List (List UInt8)
 |.at s=>fa s
 |.one s r=>ff s++toks fa ff r
 |.two s l r=>(match bareN l with | true=>toks fa ff l | false=>[40]::(toks fa ff l++[[41]]))++(ff s++toks fa ff r)
def txt {α:Type}(ta tf:α->List UInt8):Nd α->List UInt8
 |.at s=>ta s
 |.one s r=>tf s++[32]++txt ta tf r
 |.two s l r=>(match bareN l with | true=>txt ta tf l | false=>[40]++txt ta tf l++[41])++[32]++tf s++[32]++txt ta tf r
def nest {α:Type}:Nd α->Nat
 |.at _=>0
 |.one _ r=>nest r
 |.two _ l r=>max (match bareN l with | true=>nest l | false=>nest l+1) (nest r)
def AllN {α:Type}(p q:α->Prop):Nd α->Prop
 |.at s=>p s
 |.one s r=>q s/\AllN p q r
 |.two s l r=>q s/\AllN p q l/\AllN p q r
theorem sp_toks {α:Type}{lf rt:List UInt8->Bool}{tg:List UInt8->List UInt8->Bool}(htg:∀a b,tg a b=(lf a || rt b)) (h40:lf [40]=true) (h40':rt [40]=false) (h41:rt [41]=true) (h41':lf [41]=false)
  {fa ff:α->List (List UInt8)} {p q:α->Prop} (hfa:∀s,p s->Fine lf rt (fa s)) (hff:∀s,q s->Fine lf rt (ff s)) :
  ∀t:Nd α,AllN p q t->Fine lf rt (toks fa ff t)/\sp tg (toks fa ff t)=txt (fun s=>sp tg (fa s)) (fun s=>sp tg (ff s)) t:=by
 intro t
 induction t with
 |«at» s=>intro h;exact⟨hfa s h,rfl⟩
 |one s r ih =>
  intro h
  obtain⟨i1,i2⟩:=ih h.2
  obtain⟨a1,a2⟩:=fine_append htg (hff s h.1) i1
  exact⟨a1,by simp only[toks,txt];rw[a2,i2]⟩
 |two s l r il ir =>
  intro h
  obtain⟨l1,l2⟩:=il h.2.1
  obtain⟨r1,r2⟩:=ir h.2.2
  obtain⟨a1,a2⟩:=fine_append htg (hff s h.1) r1
  simp only[toks,txt]
  cases hb:bareN l with
  |true =>
   obtain⟨b1,b2⟩:=fine_append htg l1 a1
   exact⟨b1,by rw[b2,a2,l2,r2];simp⟩
  |false =>
   obtain⟨c1,c2⟩:=fine_in htg h40 h40' h41 h41' l1
   obtain⟨b1,b2⟩:=fine_append htg c1 a1
   exact⟨b1,by rw[b2,a2,c2,l2,r2];simp⟩
end Pl
namespace Pl
structure Fnv where
 k:Int
 a:Int
 b:Int
 nm:List UInt8
deriving DecidableEq
structure Sv where
 k:Int
 nums:List Int
 nm:List UInt8
 fn:Fnv
def f0:Fnv:=⟨0,0,0,[]⟩
structure Mg where
 t:List UInt8
 ok:Int
 ow:Int
 tk:Int
 tw:Int
def Mg.one (m:Mg):Fnv:=⟨m.ok,m.ow,0,[]⟩
def Mg.two (m:Mg):Fnv:=⟨m.tk,m.tw,0,[]⟩
def mgs:List Mg:=[⟨[43],0,0,5,1⟩,⟨[45],1,1,5,2⟩,⟨[42],0,0,5,3⟩,⟨[37],0,0,5,4⟩,⟨[124],0,0,5,5⟩,⟨[109,105,110],0,0,5,6⟩,⟨[109,97,120],0,0,5,7⟩,⟨[60],0,0,5,8⟩,⟨[61],0,0,5,9⟩,⟨[62],0,0,5,10⟩,⟨[126],1,4,0,0⟩,⟨[97,98,115],1,2,0,0⟩,⟨[115,105,103,110],1,3,0,0⟩,⟨[105,111,116,97],2,1,6,6⟩,⟨[114,104,111],2,2,6,1⟩,⟨[99,97,116],2,3,6,4⟩,⟨[114,101,118],2,4,0,0⟩,⟨[102,108,105,112],2,5,0,0⟩,⟨[103,114,97,100,101],2,6,0,0⟩,⟨[99,111,117,110,116],2,7,0,0⟩,⟨[116,97,107,101],0,0,6,2⟩,⟨[100,114,111,112],0,0,6,3⟩,⟨[102,114,111,109],0,0,6,5⟩,⟨[109,97,116,99,104],0,0,6,7⟩,⟨[114,111,108,108],9,0,0,0⟩]
def sgn (f:Fnv):List UInt8:=match mgs.find? (fun m=>decide (f=m.one) || decide (f=m.two)) with | some m=>m.t | none=>[]
def osg (n:Int):List UInt8:=sgn ⟨5,n,0,[]⟩
def opk (n:Int):Bool:=decide (1<=n) && decide (n<=10)
def isC (c:UInt8):Bool:=decide (65<=c) && decide (c<=90)
def isL (c:UInt8):Bool:=isC c || (decide (97<=c) && decide (c<=122))
def isD (c:UInt8):Bool:=decide (48<=c) && decide (c<=57)
def selfW:List UInt8:=[115,101,108,102]
def wk (s:List UInt8):Int :=
 if s=[] then 0 else if 20<s.length then 0 else if isL (s.headD 0)=false then 0 else if s.all (fun c=>isL c || isD c)=false then 0
 else if s=selfW\/isC (s.headD 0)=true then 3 else if mgs.any (fun m=>decide (m.t=s))=true then 4 else 2
def callB (f:Fnv):Bool:=decide (wk f.nm=3) && decide (f=⟨10,0,0,f.nm⟩)
def oneB (f:Fnv):Bool :=
 if f.k=1\/f.k=2\/f.k=9 then decide (sgn f ≠ []) else if f.k=3\/f.k=4 then decide (osg f.a ≠ []) && decide (f=⟨f.k,f.a,0,[]⟩) else callB f
def twoB (f:Fnv):Bool :=
 if f.k=5\/f.k=6 then decide (sgn f ≠ []) else if f.k=7 then decide (osg f.a ≠ []) && decide (f=⟨f.k,f.a,0,[]⟩) else if f.k=8 then decide (osg f.a ≠ []) && decide (osg f.b ≠ []) && decide (f.nm=[]) else callB f
def fok (f:Fnv) (two:Bool):Bool :=
 if f.k=10 then decide (f.a=0) && decide (f.b=0) && decide (wk f.nm=3)
 else if f.nm ≠ []\/(f.k ≠ 8/\f.b ≠ 0) then false
 else if f.k=9 then !two && decide (f.a=0)
 else if f.k=1 then !two && decide (1<=f.a) && decide (f.a<=4)
 else if f.k=2\/f.k=6 then decide (two=decide (f.k=6)) && decide (1<=f.a) && decide (f.a<=7)
 else if f.k=3\/f.k=4 then !two && opk f.a
 else if f.k=8 then two && opk f.a && opk f.b
 else two && (decide (f.k=5) || decide (f.k=7)) && opk f.a
theorem sgn_none {f:Fnv}(h:f.b ≠ 0\/f.nm ≠ []):sgn f=[]:=by
 have:mgs.find? (fun m=>decide (f=m.one) || decide (f=m.two))=none:=by
  rw[List.find?_eq_none]
  intro m _
  simp only[Bool.or_eq_true,decide_eq_true_eq,not_or]
  constructor <;> (intro e;rw[e] at h;simp[Mg.one,Mg.two] at h)
 unfold sgn
 rw[this]
theorem sgn_cases (k a:Int):sgn ⟨k,a,0,[]⟩ ≠ [] ↔ (k=0/\a=0)\/(k=1/\1<=a/\a<=4)\/(k=2/\1<=a/\a<=7)\/(k=5/\1<=a/\a<=10)\/(k=6/\1<=a/\a<=7)\/(k=9/\a=0):=by
 constructor
 ·intro h
  cases e:mgs.find? (fun m=>decide ((⟨k,a,0,[]⟩:Fnv)=m.one) || decide ((⟨k,a,0,[]⟩:Fnv)=m.two)) with
  |none=>unfold sgn at h;rw[e] at h;exact absurd rfl h
  |some m =>
   have hm:=List.mem_of_find?_eq_some e
   have hp:=List.find?_some e
   simp only[Bool.or_eq_true,decide_eq_true_eq,Mg.one,Mg.two,Fnv.mk.injEq,and_true] at hp
   simp only[mgs,List.mem_cons,List.not_mem_nil,or_false] at hm
   rcases hm with rfl|rfl|rfl|rfl|rfl|rfl|rfl|rfl|rfl|rfl|rfl|rfl|rfl|rfl|rfl|rfl|rfl|rfl|rfl|rfl|rfl|rfl|rfl|rfl|rfl <;> (dsimp only at hp;omega)
 have r4:∀a:Int,1<=a/\a<=4->a=1\/a=2\/a=3\/a=4:=by omega
 have r7:∀a:Int,1<=a/\a<=7->a=1\/a=2\/a=3\/a=4\/a=5\/a=6\/a=7:=by omega
 have r10:∀a:Int,1<=a/\a<=10->a=1\/a=2\/a=3\/a=4\/a=5\/a=6\/a=7\/a=8\/a=9\/a=10:=by omega
 rintro (⟨rfl,rfl⟩|⟨rfl,h⟩|⟨rfl,h⟩|⟨rfl,h⟩|⟨rfl,h⟩|⟨rfl,rfl⟩)
 ·decide
 ·rcases r4 a h with rfl|rfl|rfl|rfl <;> decide
 ·rcases r7 a h with rfl|rfl|rfl|rfl|rfl|rfl|rfl <;> decide
 ·rcases r10 a h with rfl|rfl|rfl|rfl|rfl|rfl|rfl|rfl|rfl|rfl <;> decide
 ·rcases r7 a h with rfl|rfl|rfl|rfl|rfl|rfl|rfl <;> decide
 decide
theorem osg_iff (n:Int):osg n ≠ [] ↔ opk n=true:=by
 unfold osg opk
 rw[sgn_cases]
 simp
theorem wk_nil:wk []=0:=by decide
theorem call_eq (f:Fnv):callB f=(decide (f.k=10) && decide (f.a=0) && decide (f.b=0) && decide (wk f.nm=3)):=by
 obtain⟨k,a,b,nm⟩:=f
 rw[Bool.eq_iff_iff]
 simp only[callB,Bool.and_eq_true,decide_eq_true_eq,Fnv.mk.injEq,and_true]
 constructor <;> (intro h;simp_all)
theorem tPn1 {P:Prop}(h:P:=by
 by_cases hn:nm=[]
 ·subst hb hn
  simp only[sgn_cases,osg_iff,ne_eq,opk,wk_nil]
  split <;> (try split) <;> (try split) <;> (try split) <;> (try split) <;> (try split) <;> (try split) <;> (try split) <;> simp_all <;> omega
 ·have e:=sgn_none (f:=⟨k,a,b,nm⟩) (.inr hn)
  simp only[e]
  split <;> (try split) <;> (try split) <;> (try split) <;> simp_all <;> omega
 ):P:=h
theorem one_eq (f:Fnv):oneB f=fok f false:=by
 obtain⟨k,a,b,nm⟩:=f
 rw[Bool.eq_iff_iff]
 unfold oneB fok
 rw[call_eq]
 by_cases hb:b=0
 ·exact tPn1
 have e:=sgn_none (f:=⟨k,a,b,nm⟩) (.inl hb)
 simp only[e]
 split <;> (try split) <;> (try split) <;> (try split) <;> simp_all <;> omega
theorem two_eq (f:Fnv):twoB f=fok f true:=by
 obtain⟨k,a,b,nm⟩:=f
 rw[Bool.eq_iff_iff]
 unfold twoB fok
 rw[call_eq]
 by_cases hb:b=0
 ·exact tPn1
 have e:=sgn_none (f:=⟨k,a,b,nm⟩) (.inl hb)
 simp only[e,osg_iff,ne_eq,opk]
 split <;> (try split) <;> (try split) <;> (try split) <;> (try split) <;> (try split) <;> (try split) <;> (try split) <;> simp_all <;> omega
def ftk (f:Fnv):List (List UInt8) :=
 if f.k=3 then [osg f.a,[47]] else if f.k=4 then [osg f.a,[92]] else if f.k=7 then [[64],osg f.a] else if f.k=8 then [osg f.a,[46],osg f.b] else if f.k=10 then [f.nm] else [sgn f]
def lfB (t:List UInt8):Bool:=decide (t=[40]) || decide (t=[64]) || decide (t=[46])
def rtB (t:List UInt8):Bool:=decide (t=[41]) || decide (t=[47]) || decide (t=[92]) || decide (t=[46])
def tg (a b:List UInt8):Bool:=lfB a || rtB b
def ftx (f:Fnv):List UInt8 :=
 if f.k=3 then osg f.a++[47] else if f.k=4 then osg f.a++[92] else if f.k=7 then [64]++osg f.a else if f.k=8 then osg f.a++[46]++osg f.b else if f.k=10 then f.nm else sgn f
theorem sgn_fine (f:Fnv):lfB (sgn f)=false/\rtB (sgn f)=false:=by
 unfold sgn
 split
 ·rename_i m e
  have hm:=List.mem_of_find?_eq_some e
  have:∀m∈mgs,lfB m.t=false/\rtB m.t=false:=by decide
  exact this m hm
 decide
theorem ftk_fine (f:Fnv) (h:f.k=10->wk f.nm=3):Fine lfB rtB (ftk f)/\sp tg (ftk f)=ftx f:=by
 have s1:=sgn_fine ⟨5,f.a,0,[]⟩
 have s2:=sgn_fine ⟨5,f.b,0,[]⟩
 have s3:=sgn_fine f
 unfold ftk ftx
 split
 ·exact⟨⟨_,_,rfl,s1.2,by simp[lst,lfB]⟩,by simp[sp,spt,tg,bl,lfB,rtB]⟩
 split
 ·exact⟨⟨_,_,rfl,s1.2,by simp[lst,lfB]⟩,by simp[sp,spt,tg,bl,lfB,rtB]⟩
 split
 ·exact⟨⟨_,_,rfl,by decide,s1.1⟩,by simp[sp,spt,tg,bl,lfB,rtB]⟩
 split
 ·exact⟨⟨_,_,rfl,s1.2,s2.1⟩,by simp[sp,spt,tg,bl,lfB,rtB]⟩
 split
 ·rename_i h10
  have w:=h h10
  have e:∀c:UInt8,isL c=false->f.nm ≠ [c]:=by
   intro c hc e
   rw[e] at w
   unfold wk at w
   simp[hc] at w
  have hl:lfB f.nm=false:=by simp[lfB,e 40 (by decide),e 64 (by decide),e 46 (by decide)]
  have hr:rtB f.nm=false:=by simp[rtB,e 41 (by decide),e 47 (by decide),e 92 (by decide),e 46 (by decide)]
  exact⟨⟨_,_,rfl,hr,hl⟩,by simp[sp,spt]⟩
 exact⟨⟨_,_,rfl,s3.2,s3.1⟩,by simp[sp,spt]⟩
end Pl
namespace Pl
def ar (s:Sv):Nat:=if s.k=1\/s.k=2 then 0 else if s.k=3 then 1 else 2
def numsB (l:List Int):Bool:=l.all (fun x=>decide (-3000000000<=x) && decide (x<=3000000000)) && decide (1<=l.length) && decide (l.length<=1000)
def sok (s:Sv):Bool :=
 if s.k=1 then numsB s.nums && decide (s.nm=[]) && decide (s.fn=f0)
 else if s.k=2 then decide (wk s.nm=2) && decide (s.nums=[]) && decide (s.fn=f0)
 else if s.k=3 then oneB s.fn && decide (s.nums=[]) && decide (s.nm=[])
 else if s.k=4 then twoB s.fn && decide (s.nums=[]) && decide (s.nm=[])
 else false
def sokS (s:Sv):Bool :=
 if s.k=1 then numsB s.nums && decide (s.nm=[]) && decide (s.fn=f0)
 else if s.nums ≠ [] then false
 else if s.k=2 then decide (wk s.nm=2) && decide (s.fn=f0)
 else decide (s.nm=[]) && (decide (s.k=3) || decide (s.k=4)) && fok s.fn (decide (s.k=4))
theorem sok_eq (s:Sv):sok s=sokS s:=by
 unfold sok sokS
 rw[one_eq,two_eq]
 by_cases h1:s.k=1
 ·rw[if_pos h1,if_pos h1]
 rw[if_neg h1,if_neg h1]
 by_cases hn:s.nums=[]
 ·have hx:(if s.nums ≠ [] then false else if s.k=2 then decide (wk s.nm=2) && decide (s.fn=f0) else decide (s.nm=[]) && (decide (s.k=3) || decide (s.k=4)) && fok s.fn (decide (s.k=4)))=(if s.k=2 then decide (wk s.nm=2) && decide (s.fn=f0) else decide (s.nm=[]) && (decide (s.k=3) || decide (s.k=4)) && fok s.fn (decide (s.k=4))):=if_neg (fun h=>h hn)
  rw[hx]
  by_cases h2:s.k=2
  ·simp[h2,hn]
  by_cases h3:s.k=3
  ·simp[hn,h3,Bool.and_comm]
  by_cases h4:s.k=4
  ·simp[hn,h4,Bool.and_comm]
  simp[h2,h3,h4]
 simp[hn]
theorem sok_kind {s:Sv}(h:sok s=true):s.k=1\/s.k=2\/s.k=3\/s.k=4:=by
 unfold sok at h
 split at h
 ·exact .inl ‹_›
 split at h
 ·exact .inr (.inl ‹_›)
 split at h
 ·exact .inr (.inr (.inl ‹_›))
 split at h
 ·exact .inr (.inr (.inr ‹_›))
 cases h
def fa (nt:Int->List UInt8) (s:Sv):List (List UInt8):=if s.k=1 then s.nums.map nt else [s.nm]
def ff (s:Sv):List (List UInt8):=ftk s.fn
def ta (nt:Int->List UInt8) (s:Sv):List UInt8:=sp tg (fa nt s)
def tf (s:Sv):List UInt8:=ftx s.fn
theorem nm_fine {nm:List UInt8}(h:wk nm=2\/wk nm=3):lfB nm=false/\rtB nm=false:=by
 have e:∀c:UInt8,isL c=false->nm ≠ [c]:=by
  intro c hc e
  rw[e] at h
  unfold wk at h
  simp[hc] at h
 exact⟨by simp[lfB,e 40 (by decide),e 64 (by decide),e 46 (by decide)],by simp[rtB,e 41 (by decide),e 47 (by decide),e 92 (by decide),e 46 (by decide)]⟩
theorem lst_map (nt:Int->List UInt8) (h:∀n,lfB (nt n)=false):∀(l:List Int) (x:Int),lfB (lst (nt x) (l.map nt))=false:=by
 intro l
 induction l with
 |nil=>intro x;exact h x
 |cons y l ih=>intro x;exact ih y
theorem fa_fine {nt:Int->List UInt8}(hn:∀n,lfB (nt n)=false/\rtB (nt n)=false) (s:Sv) (h:sok s=true/\ar s=0):Fine lfB rtB (fa nt s):=by
 obtain⟨h,h0⟩:=h
 unfold fa
 by_cases h1:s.k=1
 ·rw[if_pos h1]
  unfold sok at h
  rw[if_pos h1] at h
  simp only[numsB,Bool.and_eq_true,decide_eq_true_eq] at h
  match e:s.nums,h with
  |[],h=>simp at h
  |x::l,_=>exact⟨nt x,l.map nt,rfl,(hn x).2,lst_map nt (fun n=>(hn n).1) l x⟩
 rw[if_neg h1]
 have h2:s.k=2:=by
  rcases sok_kind h with k|k|k|k
  ·exact absurd k h1
  ·exact k
  ·simp[ar,k] at h0
  simp[ar,k] at h0
 unfold sok at h
 rw[if_neg h1,if_pos h2] at h
 simp only[Bool.and_eq_true,decide_eq_true_eq] at h
 have f:=nm_fine (.inl h.1.1)
 exact⟨s.nm,[],rfl,f.2,f.1⟩
theorem fn_call {s:Sv}(h:sok s=true) (h0:ar s ≠ 0):s.fn.k=10->wk s.fn.nm=3:=by
 intro h10
 have key:∀b,fok s.fn b=true->wk s.fn.nm=3:=by
  intro b hb
  unfold fok at hb
  rw[if_pos h10] at hb
  simp only[Bool.and_eq_true,decide_eq_true_eq] at hb
  exact hb.2
 unfold sok at h
 rw[one_eq,two_eq] at h
 rcases Classical.em (s.k=1) with k|k1
 ·exact absurd (by simp[ar,k]) h0
 rcases Classical.em (s.k=2) with k|k2
 ·exact absurd (by simp[ar,k]) h0
 rw[if_neg k1,if_neg k2] at h
 split at h
 ·simp only[Bool.and_eq_true] at h;exact key _ h.1.1
 split at h
 ·simp only[Bool.and_eq_true] at h;exact key _ h.1.1
 cases h
theorem all_post {t:Nd Sv}(w:t.Wf ar) (h:∀s∈t.post,sok s=true):AllN (fun s=>sok s=true/\ar s=0) (fun s=>sok s=true/\ar s ≠ 0) t:=by
 induction t with
 |«at» s=>exact⟨h s (by simp[Nd.post]),w⟩
 |one s r ih =>
  refine⟨⟨h s (by simp[Nd.post]),by have:=w.1;omega⟩,ih w.2 (fun x hx=>h x (by simp[Nd.post,hx]))⟩
 |two s l r il ir =>
  refine⟨⟨h s (by simp[Nd.post]),by have:=w.1;omega⟩,il w.2.1 (fun x hx=>h x (by simp[Nd.post,hx])),ir w.2.2 (fun x hx=>h x (by simp[Nd.post,hx]))⟩
theorem txt_congr {α:Type}{ta tf ta' tf':α->List UInt8}{p q:α->Prop}(h1:∀s,p s->ta s=ta' s) (h2:∀s,q s->tf s=tf' s):∀t:Nd α,AllN p q t->txt ta tf t=txt ta' tf' t:=by
 intro t
 induction t with
 |«at» s=>intro h;exact h1 s h
 |one s r ih=>intro h;simp only[txt];rw[ih h.2,h2 s h.1]
 |two s l r il ir =>
  intro h
  simp only[txt]
  rw[il h.2.1,ir h.2.2,h2 s h.1]
theorem node_text {nt:Int->List UInt8}(hn:∀n,lfB (nt n)=false/\rtB (nt n)=false) {t:Nd Sv}(w:t.Wf ar) (h:∀s∈t.post,sok s=true):sp tg (toks (fa nt) ff t)=txt (ta nt) tf t:=by
 have ha:=all_post w h
 have:=(sp_toks (lf:=lfB) (rt:=rtB) (tg:=tg) (fun _ _=>rfl) (by decide) (by decide) (by decide) (by decide) (fa_fine hn) (ff:=ff) (q:=fun s=>sok s=true/\ar s ≠ 0) (fun s hs=>(ftk_fine s.fn (fn_call hs.1 hs.2)).1) t ha).2
 rw[this]
 exact txt_congr (fun s _=>rfl) (fun s hs=>(ftk_fine s.fn (fn_call hs.1 hs.2)).2) t ha
end Pl
namespace Pl
theorem par_stable {α:Type}{ar:α->Nat}:∀(n m:Nat) (p:List α),p.length<=n->p.length<=m->par ar n p=par ar m p:=by
 intro n
 induction n with
 |zero =>
  intro m p h _
  match p,h with
  |[],_=>cases m <;> rfl
 |succ n ih =>
  intro m p h hm
  match p,m,h,hm with
  |[],0,_,_=>rfl
  |[],m+1,_,_=>rfl
  |s::p,m+1,h,hm =>
   simp only[List.length_cons] at h hm
   unfold par
   rw[ih m p (by omega) (by omega)]
   cases e:par ar m p with
   |none=>rfl
   |some r =>
    obtain⟨t,q⟩:=r
    have hq:=congrArg List.length (par_post _ _ _ _ e).1
    rw[List.length_append] at hq
    simp only[]
    rw[ih m q (by omega) (by omega)]
def nd (c:List Sv) (n:Nat):Option (Nd Sv × Nat):=(par ar n (c.take n).reverse).map fun r=>(r.1,r.2.length)
theorem take_suffix {α:Type}(c:List α) (n:Nat) (a q:List α) (h:(c.take n).reverse=a++q):q=(c.take q.length).reverse:=by
 have e:c.take n=q.reverse++a.reverse:=by rw[<- List.reverse_append,<- h,List.reverse_reverse]
 have hl:q.length<=n:=by
  have:=congrArg List.length e
  simp only[List.length_take,List.length_append,List.length_reverse] at this
  omega
 have e2:c.take q.length=q.reverse:=by
  have:=congrArg (List.take q.length) e
  rw[List.take_take,Nat.min_eq_left hl,List.take_append_of_le_length (by simp)] at this
  rw[this]
  rw[List.take_of_length_le (by simp)]
 rw[e2,List.reverse_reverse]
theorem nd_zero (c:List Sv):nd c 0=none:=rfl
theorem nd_le {c:List Sv}{n:Nat}{t:Nd Sv}{m:Nat}(h:nd c n=some (t,m)):m<n/\m<=c.length/\c.take n=c.take m++t.post/\t.Wf ar:=by
 unfold nd at h
 cases e:par ar n (c.take n).reverse with
 |none=>rw[e] at h;cases h
 |some r =>
  obtain⟨t',q⟩:=r
  rw[e] at h
  simp only[Option.map_some,Option.some.injEq,Prod.mk.injEq] at h
  obtain⟨rfl,rfl⟩:=h
  obtain⟨hp,hw⟩:=par_post _ _ _ _ e
  have hl:=congrArg List.length hp
  have hpos:=post_pos t'
  simp only[List.length_reverse,List.length_take,List.length_append] at hl
  have hq:=take_suffix c n _ _ hp
  refine⟨by omega,by omega,?_,hw⟩
  have:=congrArg List.reverse hp
  rw[List.reverse_reverse,List.reverse_append,List.reverse_reverse] at this
  rw[this]
  congr 1
  rw[hq,List.reverse_reverse]
  simp
theorem par_cons {α:Type}(ar:α->Nat) (n:Nat) (s:α) (p:List α):par ar (n+1) (s::p)=if ar s=0 then some (.at s,p) else match par ar n p with
  |none=>none
  |some (t,q)=>if ar s=1 then some (.one s t,q) else match par ar n q with
   |none=>none
   |some (r,q')=>some (.two s t r,q'):=rfl
theorem nd_succ (c:List Sv) (i:Nat) (s:Sv) (h:c[i]? = some s):nd c (i+1)=if ar s=0 then some (.at s,i) else match nd c i with
  |none=>none
  |some (t,m)=>if ar s=1 then some (.one s t,m) else match nd c m with
   |none=>none
   |some (r,m')=>some (.two s t r,m'):=by
 obtain⟨hi,hs⟩:=List.getElem?_eq_some_iff.1 h
 have e:(c.take (i+1)).reverse=s::(c.take i).reverse:=by
  rw[List.take_add_one,h]
  simp
 have hlen:(c.take i).reverse.length=i:=by simp;omega
 unfold nd
 rw[e,par_cons]
 split
 ·simp only[Option.map_some,hlen]
 cases e1:par ar i (c.take i).reverse with
 |none=>rfl
 |some r =>
  obtain⟨t,q⟩:=r
  have hp:=(par_post _ _ _ _ e1).1
  have hq:=take_suffix c i _ _ hp
  have hl:=congrArg List.length hp
  rw[List.length_append,hlen] at hl
  simp only[Option.map_some]
  split
  ·rfl
  rw[par_stable i q.length q (by omega) (Nat.le_refl _),<- hq]
  cases par ar q.length q with
  |none=>rfl
  |some r=>rfl
def xt (nt:Int->List UInt8) (c:List Sv):Option (List UInt8):=match nd c c.length with
 |some (t,0)=>if c.all sok=true/\nest t<=40 then some (txt (ta nt) tf t) else none
 |_=>none
def xtI (nt:Int->List UInt8) (c:List Sv):Option (List UInt8):=if c.all sok=true then match run ar c [] with
 |some [t]=>if nest t<=40 then some (sp tg (toks (fa nt) ff t)) else none
 |_=>none
 else none
theorem xt_eq {nt:Int->List UInt8}(hn:∀n,lfB (nt n)=false/\rtB (nt n)=false) (c:List Sv):xtI nt c=xt nt c:=by
 unfold xtI xt
 by_cases ha:c.all sok=true
 rotate_left 1
 ·rw[if_neg ha]
  split
  ·rw[if_neg (fun h=>ha h.1)]
  rfl
 rw[if_pos ha]
 cases e:nd c c.length with
 |none =>
  have:∀t,run ar c [] ≠ some [t]:=by
   intro t h
   have:=(run_iff c t).1 h
   unfold nd at e
   rw[List.take_length,this] at e
   cases e
  split
  ·rename_i t h;exact absurd h (this t)
  rfl
 |some r =>
  obtain⟨t,m⟩:=r
  unfold nd at e
  rw[List.take_length] at e
  cases e2:par ar c.length c.reverse with
  |none=>rw[e2] at e;cases e
  |some r2 =>
   obtain⟨t2,q⟩:=r2
   rw[e2] at e
   simp only[Option.map_some,Option.some.injEq,Prod.mk.injEq] at e
   obtain⟨rfl,rfl⟩:=e
   cases q with
   |nil =>
    have hr:=(run_iff c t2).2 e2
    obtain⟨hp,hw⟩:=par_post _ _ _ _ e2
    have hc:c=t2.post:=by simpa using congrArg List.reverse hp
    rw[hr]
    simp only[List.length_nil,ha,true_and]
    rw[node_text hn hw (by rw[<- hc];exact fun s hs=>List.all_eq_true.1 ha s hs)]
   |cons x q =>
    have:∀t,run ar c [] ≠ some [t]:=by
     intro t h
     have:=(run_iff c t).1 h
     rw[e2] at this
     cases this
    split
    ·rename_i t h;exact absurd h (this t)
    rfl
end Pl
namespace Pl
structure Gv where
 test:List Sv
 thn:List Sv
structure Tv where
 k:Int
 nm:List UInt8
 code:List Sv
 gs:List Gv
def csz (c:List Sv):Nat:=c.length+(c.map fun s=>s.nums.length).sum
def gsz (g:Gv):Nat:=csz g.test+csz g.thn
def ssz (s:Tv):Nat:=csz s.code+s.gs.length+(s.gs.map gsz).sum
def psz (p:List Tv):Nat:=p.length+(p.map ssz).sum
def gtx (nt:Int->List UInt8):List Gv->Option (List UInt8)
 |[]=>some []
 |g::r=>match xt nt g.test,xt nt g.thn,gtx nt r with
  |some a,some b,some t=>some (a++[32,58,32]++b++[59,32]++t)
  |_,_,_=>none
def stx (nt:Int->List UInt8) (s:Tv):Option (List UInt8):=match xt nt s.code,gtx nt s.gs with
 |some e,some g =>
  if s.k=1 then (if s.nm=[]/\s.gs=[] then some e else none)
  else if s.k=2 then (if wk s.nm=2/\s.gs=[] then some (s.nm++[32,58,61,32]++e) else none)
  else if s.k=3 then (if wk s.nm=3/\s.nm ≠ selfW then some (s.nm++[32,58,61,32,123]++g++e++[125]) else none)
  else none
 |_,_=>none
def ltx (nt:Int->List UInt8):List Tv->Option (List UInt8)
 |[]=>some []
 |s::r=>match stx nt s,ltx nt r with
  |some a,some t=>some (a++[10]++t)
  |_,_=>none
def prt (nt:Int->List UInt8) (p:List Tv):List UInt8 × Bool :=
 if psz p<=16000 then match ltx nt p with
  |some t=>if t.length<=4000 then (t,true) else ([],false)
  |none=>([],false)
 else ([],false)
theorem gtx_snoc (nt:Int->List UInt8):∀(l:List Gv) (g:Gv),gtx nt (l++[g])=match gtx nt l,xt nt g.test,xt nt g.thn with
  |some t,some a,some b=>some (t++(a++[32,58,32]++b++[59,32]))
  |_,_,_=>none:=by
 intro l
 induction l with
 |nil =>
  intro g
  simp only[List.nil_append,gtx]
  cases xt nt g.test <;> cases xt nt g.thn <;> simp
 |cons x l ih =>
  intro g
  simp only[List.cons_append,gtx,ih]
  cases xt nt x.test <;> cases xt nt x.thn <;> cases gtx nt l <;> cases xt nt g.test <;> cases xt nt g.thn <;> simp
theorem ltx_snoc (nt:Int->List UInt8):∀(l:List Tv) (s:Tv),ltx nt (l++[s])=match ltx nt l,stx nt s with
  |some t,some a=>some (t++(a++[10]))
  |_,_=>none:=by
 intro l
 induction l with
 |nil=>intro s;simp only[List.nil_append,ltx];cases stx nt s <;> simp
 |cons x l ih =>
  intro s
  simp only[List.cons_append,ltx,ih]
  cases stx nt x <;> cases ltx nt l <;> cases stx nt s <;> simp
theorem gtx_none {nt:Int->List UInt8}{l:List Gv}{g:Gv}(hg:g∈l) (h:xt nt g.test=none\/xt nt g.thn=none):gtx nt l=none:=by
 induction l with
 |nil=>cases hg
 |cons x l ih =>
  rcases List.mem_cons.1 hg with rfl|hg
  ·unfold gtx
   rcases h with h|h
   ·rw[h]
   rw[h];cases xt nt g.test <;> rfl
  unfold gtx
  rw[ih hg]
  cases xt nt x.test <;> cases xt nt x.thn <;> rfl
theorem ltx_none {nt:Int->List UInt8}{l:List Tv}{s:Tv}(hs:s∈l) (h:stx nt s=none):ltx nt l=none:=by
 induction l with
 |nil=>cases hs
 |cons x l ih =>
  rcases List.mem_cons.1 hs with rfl|hs
  ·unfold ltx;rw[h]
  unfold ltx;rw[ih hs];cases stx nt x <;> rfl
theorem gtx_some {nt:Int->List UInt8}{l:List Gv}(h:∀g∈l,(xt nt g.test).isSome=true/\(xt nt g.thn).isSome=true):(gtx nt l).isSome=true:=by
 induction l with
 |nil=>rfl
 |cons x l ih =>
  obtain⟨a,ea⟩:=Option.isSome_iff_exists.1 (h x (List.mem_cons_self ..)).1
  obtain⟨b,eb⟩:=Option.isSome_iff_exists.1 (h x (List.mem_cons_self ..)).2
  obtain⟨t,et⟩:=Option.isSome_iff_exists.1 (ih fun g hg=>h g (List.mem_cons_of_mem _ hg))
  unfold gtx
  rw[ea,eb,et]
  rfl
theorem ltx_some {nt:Int->List UInt8}{l:List Tv}(h:∀s∈l,(stx nt s).isSome=true):(ltx nt l).isSome=true:=by
 induction l with
 |nil=>rfl
 |cons x l ih =>
  obtain⟨a,ea⟩:=Option.isSome_iff_exists.1 (h x (List.mem_cons_self ..))
  obtain⟨t,et⟩:=Option.isSome_iff_exists.1 (ih fun g hg=>h g (List.mem_cons_of_mem _ hg))
  unfold ltx
  rw[ea,et]
  rfl
def stB (nt:Int->List UInt8) (s:Tv):Bool :=
 (xt nt s.code).isSome && (decide (s.k=3) || decide (s.gs=[])) && (!(decide (s.k=1)) || decide (s.nm=[])) && (!(decide (s.k=2)) || decide (wk s.nm=2)) && (!(decide (s.k=3)) || (decide (wk s.nm=3) && !(decide (s.nm=selfW)))) && decide (1<=s.k) && decide (s.k<=3) && s.gs.all (fun g=>(xt nt g.test).isSome && (xt nt g.thn).isSome)
theorem stB_eq (nt:Int->List UInt8) (s:Tv):stB nt s=(stx nt s).isSome:=by
 unfold stB stx
 cases e:xt nt s.code with
 |none=>simp
 |some a =>
  by_cases hg:s.gs.all (fun g=>(xt nt g.test).isSome && (xt nt g.thn).isSome)=true
  ·have h2:=gtx_some (nt:=nt) (l:=s.gs) (by
    intro g hm
    have:=List.all_eq_true.1 hg g hm
    simp only[Bool.and_eq_true] at this
    exact this)
   obtain⟨g,eg⟩:=Option.isSome_iff_exists.1 h2
   rw[eg,hg]
   simp only[]
   by_cases k1:s.k=1
   ·by_cases n:s.nm=[] <;> by_cases gs:s.gs=[] <;> simp[k1,n,gs]
   by_cases k2:s.k=2
   ·by_cases n:wk s.nm=2 <;> by_cases gs:s.gs=[] <;> simp[k2,n,gs]
   by_cases k3:s.k=3
   ·by_cases n:wk s.nm=3 <;> by_cases n2:s.nm=selfW <;> simp[k3,n,n2]
   rw[if_neg k1,if_neg k2,if_neg k3]
   have:¬(1<=s.k/\s.k<=3):=by omega
   simp[k1,k2,k3]
   intro _ h1
   omega
  have:∃g∈s.gs,xt nt g.test=none\/xt nt g.thn=none:=by
   simp only[List.all_eq_true,Bool.and_eq_true,Classical.not_forall] at hg
   obtain⟨g,hm,h⟩:=hg
   refine⟨g,hm,?_⟩
   cases e1:xt nt g.test with
   |none=>exact .inl rfl
   |some _ =>
    cases e2:xt nt g.thn with
    |none=>exact .inr rfl
    |some _=>rw[e1,e2] at h;exact absurd ⟨rfl,rfl⟩ h
  obtain⟨g,hm,h⟩:=this
  rw[gtx_none hm h]
  have hf:s.gs.all (fun g=>(xt nt g.test).isSome && (xt nt g.thn).isSome)=false:=by simpa using hg
  rw[hf]
  simp
end Pl
end Go.Proofs.YtbiiicbfpcfgdaaGreatDoor
