import Derived.Test.YtbiiicbfpcfgdaaGreatDoorPn
import Derived.Deep.RegionHeld
namespace Go.Proofs.YtbiiicbfpcfgdaaGreatDoor
set_option maxRecDepth 100000
set_option maxHeartbeats 16000000
set_option linter.unusedVariables false
namespace Pl
inductive T where
 |num (v:Int)
 |arr (nm:List UInt8)
 |fn (nm:List UInt8)
 |op (m:Mg)
 |lp | rp | lb | rb | col | asg | sl | bs | amp | dot | sep
inductive F where
 |call (nm:List UInt8)
 |plain (m:Mg)
 |red (m:Mg)
 |scan (m:Mg)
 |inner (m m':Mg)
 |outer (m:Mg)
 |bad
mutual
inductive E where
 |opd (o:O)
 |one (f:F) (e:E)
 |two (o:O) (f:F) (e:E)
inductive O where
 |nums (v:Int) (vs:List Int)
 |name (nm:List UInt8)
 |br (e:E)
end
def en (m:Mg):Int:=if m.tk=5 then m.tw else 0
def F.one:F->Fnv
 |.call nm=>⟨10,0,0,nm⟩
 |.plain m=>⟨m.ok,m.ow,0,[]⟩
 |.red m=>⟨3,en m,0,[]⟩
 |.scan m=>⟨4,en m,0,[]⟩
 |_=>f0
def F.two:F->Fnv
 |.call nm=>⟨10,0,0,nm⟩
 |.plain m=>⟨m.tk,m.tw,0,[]⟩
 |.inner m m'=>⟨8,en m,en m',[]⟩
 |.outer m=>⟨7,en m,0,[]⟩
 |_=>f0
def F.toks:F->List T
 |.call nm=>[.fn nm]
 |.plain m=>[.op m]
 |.red m=>[.op m,.sl]
 |.scan m=>[.op m,.bs]
 |.inner m m'=>[.op m,.dot,.op m']
 |.outer m=>[.amp,.op m]
 |.bad=>[]
def F.wf:F->Prop
 |.red m=>en m ≠ 0
 |.scan m=>en m ≠ 0
 |.inner m m'=>en m ≠ 0/\en m' ≠ 0
 |.outer m=>en m ≠ 0
 |.bad=>False
 |_=>True
mutual
def E.toks:E->List T
 |.opd o=>o.toks
 |.one f e=>f.toks++e.toks
 |.two o f e=>o.toks++(f.toks++e.toks)
def O.toks:O->List T
 |.nums v vs=>.num v::vs.map .num
 |.name nm=>[.arr nm]
 |.br e=>.lp::(e.toks++[.rp])
end
mutual
def E.wf:E->Prop
 |.opd o=>o.wf
 |.one f e=>f.wf/\f.one.k ≠ 0/\e.wf
 |.two o f e=>o.wf/\f.wf/\f.two.k ≠ 0/\e.wf
def O.wf:O->Prop
 |.br e=>e.wf
 |_=>True
end
def atF:List T->Bool
 |.fn _::_=>true
 |.op _::_=>true
 |.amp::_=>true
 |_=>false
def enT:List T->Int
 |.op m::_=>en m
 |_=>0
def pfun:List T->F × List T
 |.fn nm::r=>(.call nm,r)
 |.amp::.op m::r=>(if en m=0 then .bad else .outer m,r)
 |.amp::r=>(.bad,r.tail)
 |.op m::.sl::r=>(if en m=0 then .bad else .red m,r)
 |.op m::.bs::r=>(if en m=0 then .bad else .scan m,r)
 |.op m::.dot::.op m'::r=>(if en m=0\/en m'=0 then .bad else .inner m m',r)
 |.op m::.dot::r=>(.bad,r.tail)
 |.op m::r=>(.plain m,r)
 |r=>(.bad,r)
def spn:List T->List Int × List T
 |.num v::r=>(v::(spn r).1,(spn r).2)
 |r=>([],r)
mutual
def pexpr:Nat->List T->Option (E × List T)
 |0,_=>none
 |n+1,ts =>
  if atF ts then
   if (pfun ts).1.one.k=0 then none
   else match pexpr n (pfun ts).2 with
    |some (e,r)=>some (.one (pfun ts).1 e,r)
    |none=>none
  else match popnd n ts with
   |none=>none
   |some (o,r) =>
    if atF r then
     if (pfun r).1.two.k=0 then none
     else match pexpr n (pfun r).2 with
      |some (e,r')=>some (.two o (pfun r).1 e,r')
      |none=>none
    else some (.opd o,r)
def popnd:Nat->List T->Option (O × List T)
 |0,_=>none
 |_+1,.num v::r=>some (.nums v (spn r).1,(spn r).2)
 |_+1,.arr nm::r=>some (.name nm,r)
 |n+1,.lp::r=>match pexpr n r with
  |some (e,.rp::r')=>some (.br e,r')
  |_=>none
 |_+1,_=>none
end
def rfun:List T->Option (F × List T)
 |.sl::.op m::r=>if en m=0 then none else some (.red m,r)
 |.sl::_=>none
 |.bs::.op m::r=>if en m=0 then none else some (.scan m,r)
 |.bs::_=>none
 |.op m'::.dot::.op m::r=>if en m=0\/en m'=0 then none else some (.inner m m',r)
 |_::.dot::_=>none
 |.op m::.amp::r=>if en m=0 then none else some (.outer m,r)
 |_::.amp::_=>none
 |.fn nm::r=>some (.call nm,r)
 |.op m::r=>some (.plain m,r)
 |_::r=>some (.bad,r)
 |[]=>none
def ends:List T->Bool
 |.num _::_=>true
 |.arr _::_=>true
 |.rp::_=>true
 |_=>false
def cut:Nat->List T->List T->Option (List T × List T)
 |_,_,[]=>none
 |k,acc,.rp::r=>cut (k+1) (.rp::acc) r
 |0,acc,.lp::r=>some (acc,r)
 |k+1,acc,.lp::r=>cut k (.lp::acc) r
 |k,acc,t::r=>cut k (t::acc) r
mutual
def rexpr:Nat->List T->Option E
 |0,_=>none
 |n+1,ts=>match ropnd n ts.reverse with
  |none=>none
  |some (o,r)=>rloop n (.opd o) r
def ropnd:Nat->List T->Option (O × List T)
 |0,_=>none
 |_+1,.num v::r=>some (match (v::(spn r).1).reverse with | a::l=>.nums a l | []=>.nums v [],(spn r).2)
 |_+1,.arr nm::r=>some (.name nm,r)
 |n+1,.rp::r=>match cut 0 [] r with
  |none=>none
  |some (i,r')=>match rexpr n i with
   |some e=>some (.br e,r')
   |none=>none
 |_+1,_=>none
def rloop:Nat->E->List T->Option E
 |0,_,_=>none
 |n+1,e,r =>
  if r=[] then some e
  else match rfun r with
   |none=>none
   |some (f,r1) =>
    if ends r1 then match ropnd n r1 with
     |none=>none
     |some (o,r2)=>if f.two.k=0 then none else rloop n (.two o f e) r2
    else if f.one.k=0 then none else rloop n (.one f e) r1
end
end Pl
namespace Pl
theorem spn_eq:∀ts:List T,ts=(spn ts).1.map .num++(spn ts).2
 |[]=>rfl
 |.num v::r=>by
  have:=spn_eq r
  simp only[spn,List.map_cons,List.cons_append]
  rw[<- this]
 |.arr _::_=>rfl
 |.fn _::_=>rfl
 |.op _::_=>rfl
 |.lp::_=>rfl
 |.rp::_=>rfl
 |.lb::_=>rfl
 |.rb::_=>rfl
 |.col::_=>rfl
 |.asg::_=>rfl
 |.sl::_=>rfl
 |.bs::_=>rfl
 |.amp::_=>rfl
 |.dot::_=>rfl
 |.sep::_=>rfl
def isNum:List T->Bool
 |.num _::_=>true
 |_=>false
theorem spn_none:∀{r:List T},isNum r=false->spn r=([],r)
 |[],_=>rfl
 |.num _::_,h=>by simp[isNum] at h
 |.arr _::_,_=>rfl
 |.fn _::_,_=>rfl
 |.op _::_,_=>rfl
 |.lp::_,_=>rfl
 |.rp::_,_=>rfl
 |.lb::_,_=>rfl
 |.rb::_,_=>rfl
 |.col::_,_=>rfl
 |.asg::_,_=>rfl
 |.sl::_,_=>rfl
 |.bs::_,_=>rfl
 |.amp::_,_=>rfl
 |.dot::_,_=>rfl
 |.sep::_,_=>rfl
theorem spn_app:∀(vs:List Int) {r:List T},isNum r=false->spn (vs.map .num++r)=(vs,r)
 |[],_,h=>spn_none h
 |v::vs,_,h=>by simp[spn,spn_app vs h]
theorem spn_len (ts:List T):(spn ts).1.length+(spn ts).2.length=ts.length:=by
 have:=congrArg List.length (spn_eq ts)
 simp at this
 omega
theorem bad_one {f:F}(h:f.one.k ≠ 0):f ≠ .bad:=by rintro rfl;exact h rfl
theorem bad_two {f:F}(h:f.two.k ≠ 0):f ≠ .bad:=by rintro rfl;exact h rfl
theorem pfun_sound (ts:List T) (h:(pfun ts).1 ≠ .bad):ts=(pfun ts).1.toks++(pfun ts).2/\(pfun ts).1.wf:=by
 revert h
 unfold pfun
 split
 ·intro _;exact⟨rfl,trivial⟩
 ·split
  ·intro h;exact absurd rfl h
  intro _;exact⟨rfl,by assumption⟩
 ·intro h;exact absurd rfl h
 ·split
  ·intro h;exact absurd rfl h
  intro _;exact⟨rfl,by assumption⟩
 ·split
  ·intro h;exact absurd rfl h
  intro _;exact⟨rfl,by assumption⟩
 ·split
  ·intro h;exact absurd rfl h
  rename_i h0
  intro _;exact⟨rfl,by simpa only [not_or,F.wf] using h0⟩
 ·intro h;exact absurd rfl h
 ·intro _;exact⟨rfl,trivial⟩
 intro h;exact absurd rfl h
theorem psound:∀n,(∀ts e r,pexpr n ts=some (e,r)->ts=e.toks++r/\e.wf)/\(∀ts o r,popnd n ts=some (o,r)->ts=o.toks++r/\o.wf)
 |0=>⟨fun ts e r h=>by simp[pexpr] at h,fun ts o r h=>by simp[popnd] at h⟩
 |n+1=>by
  obtain⟨ih1,ih2⟩:=psound n
  refine⟨fun ts e r h=>?_,fun ts o r h=>?_⟩
  rotate_left 1
  ·unfold popnd at h
   split at h
   ·rename_i heq;cases heq
   ·rename_i v r' _
    cases h
    refine⟨?_,trivial⟩
    simp only[O.toks,List.cons_append]
    rw[<- spn_eq]
   ·cases h
    exact⟨rfl,trivial⟩
   ·rename_i heq
    cases heq
    split at h
    ·rename_i e r2 h1
     cases h
     obtain⟨g1,g2⟩:=ih1 _ _ _ h1
     refine⟨?_,g2⟩
     rw[g1]
     simp[O.toks]
    cases h
   cases h
  rw[pexpr] at h
  split at h
  ·split at h
   ·cases h
   rename_i h1
   split at h
   ·rename_i e' r' h2
    cases h
    obtain⟨g1,g2⟩:=pfun_sound ts (bad_one h1)
    obtain⟨g3,g4⟩:=ih1 _ _ _ h2
    refine⟨?_,g2,h1,g4⟩
    rw[E.toks,List.append_assoc,<- g3]
    exact g1
   cases h
  split at h
  ·cases h
  rename_i o r' h1
  obtain⟨g1,g2⟩:=ih2 _ _ _ h1
  split at h
  ·split at h
   ·cases h
   rename_i h2
   split at h
   ·rename_i e' r2 h3
    cases h
    obtain⟨g3,g4⟩:=pfun_sound r' (bad_two h2)
    obtain⟨g5,g6⟩:=ih1 _ _ _ h3
    refine⟨?_,g2,g4,h2,g6⟩
    rw[E.toks,List.append_assoc,List.append_assoc,<- g5,<- g3]
    exact g1
   cases h
  cases h
  exact⟨g1,g2⟩
def beg:List T->Bool
 |.num _::_=>true
 |.arr _::_=>true
 |.lp::_=>true
 |.fn _::_=>true
 |.op _::_=>true
 |.amp::_=>true
 |_=>false
def fol:List T->Bool
 |.sl::_=>false
 |.bs::_=>false
 |.dot::_=>false
 |_=>true
def stop:List T->Bool
 |.num _::_=>false
 |.fn _::_=>false
 |.op _::_=>false
 |.amp::_=>false
 |_=>true
theorem beg_fol:∀{r:List T},beg r=true->fol r=true
 |[],h=>rfl
 |t::r,h=>by cases t <;> first | rfl | simp[beg] at h
theorem stop_num:∀{r:List T},stop r=true->isNum r=false
 |[],h=>rfl
 |t::r,h=>by cases t <;> first | rfl | simp[stop] at h
theorem stop_atF:∀{r:List T},stop r=true->atF r=false
 |[],h=>rfl
 |t::r,h=>by cases t <;> first | rfl | simp[stop] at h
theorem F.atF {f:F}(h:f.wf) (r:List T):atF (f.toks++r)=true:=by cases f <;> first | rfl | exact h.elim
theorem F.beg {f:F}(h:f.wf) (r:List T):beg (f.toks++r)=true:=by cases f <;> first | rfl | exact h.elim
theorem F.isNum {f:F}(h:f.wf) (r:List T):isNum (f.toks++r)=false:=by cases f <;> first | rfl | exact h.elim
theorem O.beg (o:O) (r:List T):beg (o.toks++r)=true:=by cases o <;> rfl
theorem O.atF (o:O) (r:List T):Pl.atF (o.toks++r)=false:=by cases o <;> rfl
theorem E.beg {e:E}(h:e.wf) (r:List T):beg (e.toks++r)=true:=by
 cases e with
 |opd o=>exact o.beg r
 |one f e=>rw[E.toks,List.append_assoc];exact F.beg h.1 _
 |two o f e=>rw[E.toks,List.append_assoc];exact o.beg _
theorem pfun_complete {f:F}(h:f.wf) {r:List T}(hr:fol r=true):pfun (f.toks++r)=(f,r):=by
 cases f with
 |call nm=>rfl
 |plain m =>
  cases r with
  |nil=>rfl
  |cons t r=>cases t <;> first | rfl | simp[fol] at hr
 |red m=>simp only[F.toks,List.cons_append,List.nil_append,pfun];rw[if_neg h]
 |scan m=>simp only[F.toks,List.cons_append,List.nil_append,pfun];rw[if_neg h]
 |inner m m'=>simp only[F.toks,List.cons_append,List.nil_append,pfun];rw[if_neg (by rw[not_or];exact h)]
 |outer m=>simp only[F.toks,List.cons_append,List.nil_append,pfun];rw[if_neg h]
 |bad=>exact h.elim
mutual
def E.sz:E->Nat
 |.opd o=>o.sz+1
 |.one f e=>e.sz+1
 |.two o f e=>o.sz+e.sz+1
def O.sz:O->Nat
 |.br e=>e.sz+2
 |_=>1
end
theorem pcomplete:∀n,(∀e r,e.sz<=n->e.wf->stop r=true->pexpr n (e.toks++r)=some (e,r))/\(∀o r,o.sz<=n->o.wf->isNum r=false->popnd n (o.toks++r)=some (o,r))
 |0=>⟨fun e r h=>by cases e <;> simp[E.sz] at h,fun o r h=>by cases o <;> simp[O.sz] at h⟩
 |n+1=>by
  obtain⟨ih1,ih2⟩:=pcomplete n
  refine⟨fun e r hs hw hr=>?_,fun o r hs hw hr=>?_⟩
  rotate_left 1
  ·cases o with
   |nums v vs=>simp only[O.toks,List.cons_append,popnd];rw[spn_app vs hr]
   |name nm=>rfl
   |br e =>
    simp only[O.sz] at hs
    simp only[O.toks,List.cons_append,popnd,List.append_assoc,List.nil_append]
    rw[ih1 e (.rp::r) oM hw rfl]
  cases e with
  |opd o =>
   simp only[E.sz] at hs
   rw[pexpr,E.toks,O.atF,ih2 o r oM hw (stop_num hr)]
   simp[stop_atF hr]
  |one f e =>
   simp only[E.sz] at hs
   obtain⟨w1,w2,w3⟩:=hw
   have hp:=pfun_complete w1 (beg_fol (E.beg w3 r))
   rw[pexpr,E.toks,List.append_assoc,F.atF w1,hp]
   simp only[if_true]
   rw[if_neg w2,ih1 e r oM w3 hr]
  |two o f e =>
   simp only[E.sz] at hs
   obtain⟨w0,w1,w2,w3⟩:=hw
   have hp:=pfun_complete w1 (beg_fol (E.beg w3 r))
   rw[pexpr,E.toks,List.append_assoc,List.append_assoc,O.atF,ih2 o _ oM w0 (F.isNum w1 _)]
   simp only[F.atF w1,hp,if_true,Bool.false_eq_true,if_false]
   rw[if_neg w2,ih1 e r oM w3 hr]
theorem rfun_sound {r r':List T}{f:F}(h:rfun r=some (f,r')) (hb:f ≠ .bad):r=f.toks.reverse++r'/\f.wf:=by
 revert h
 unfold rfun
 split
 ·split
  ·intro h;cases h
  intro h;cases h;exact⟨rfl,by assumption⟩
 ·intro h;cases h
 ·split
  ·intro h;cases h
  intro h;cases h;exact⟨rfl,by assumption⟩
 ·intro h;cases h
 ·split
  ·intro h;cases h
  rename_i h0
  intro h;cases h;exact⟨rfl,by simpa only [not_or,F.wf] using h0⟩
 ·intro h;cases h
 ·split
  ·intro h;cases h
  intro h;cases h;exact⟨rfl,by assumption⟩
 ·intro h;cases h
 ·intro h;cases h;exact⟨rfl,trivial⟩
 ·intro h;cases h;exact⟨rfl,trivial⟩
 ·intro h;cases h;exact absurd rfl hb
 intro h;cases h
theorem cut_sound:∀(r:List T) (k:Nat) (acc i r':List T),cut k acc r=some (i,r')->∃mid,r=mid++.lp::r'/\i=mid.reverse++acc
 |[],k,acc,i,r',h=>by cases k <;> simp[cut] at h
 |t::r,k,acc,i,r',h=>by
  have step (t:T) (k':Nat) (h:cut k' (t::acc) r=some (i,r')):∃mid,t::r=mid++.lp::r'/\i=mid.reverse++acc:=by
   obtain⟨mid,h1,h2⟩:=cut_sound r k' (t::acc) i r' h
   exact⟨t::mid,by rw[h1];rfl,by rw[h2];simp⟩
  cases t <;> cases k <;> simp only[cut] at h <;> first | exact step _ _ h | (cases h;exact⟨[],rfl,rfl⟩)
theorem rsound:∀n,(∀ts e,rexpr n ts=some e->ts=e.toks/\e.wf)/\(∀r o r',ropnd n r=some (o,r')->r=o.toks.reverse++r'/\o.wf)/\(∀e r e',rloop n e r=some e'->e.wf->e'.toks=r.reverse++e.toks/\e'.wf)
 |0=>⟨fun ts e h=>by simp[rexpr] at h,fun ts o r h=>by simp[ropnd] at h,fun e r e' h=>by simp[rloop] at h⟩
 |n+1=>by
  obtain⟨ih1,ih2,ih3⟩:=rsound n
  refine⟨fun ts e h=>?_,fun r o r' h=>?_,fun e r e' h hw=>?_⟩
  ·rw[rexpr] at h
   split at h
   ·cases h
   rename_i o r h1
   obtain⟨g1,g2⟩:=ih2 _ _ _ h1
   obtain⟨g3,g4⟩:=ih3 _ _ _ h g2
   refine⟨?_,g4⟩
   rw[g3,E.toks]
   have:=congrArg List.reverse g1
   simpa using this
  ·unfold ropnd at h
   split at h
   rotate_left 4
   ·cases h
   ·rename_i heq;cases heq
   ·rename_i v r2 _
    cases h
    have hq:=spn_eq r2
    cases hv:(v::(spn r2).1).reverse with
    |nil=>simp at hv
    |cons a l =>
     refine⟨?_,trivial⟩
     simp only[O.toks]
     have h2:v::(spn r2).1=(a::l).reverse:=by rw[<- hv,List.reverse_reverse]
     have h3:(T.num a::l.map T.num).reverse=((a::l).reverse).map T.num:=by rw[<- List.map_cons,List.map_reverse]
     rw[h3,<- h2,List.map_cons,List.cons_append,<- hq]
   ·cases h
    exact⟨rfl,trivial⟩
   rename_i heq
   cases heq
   split at h
   ·cases h
   rename_i i r3 h1
   split at h
   ·rename_i e h2
    cases h
    obtain⟨g1,g2⟩:=ih1 _ _ h2
    obtain⟨mid,m1,m2⟩:=cut_sound _ _ _ _ _ h1
    refine⟨?_,g2⟩
    rw[m1,O.toks]
    rw[List.append_nil] at m2
    rw[<- g1,m2]
    simp
   cases h
  rw[rloop] at h
  split at h
  ·rename_i h0
   cases h
   subst h0
   exact⟨rfl,hw⟩
  split at h
  ·cases h
  rename_i f r1 h1
  split at h
  ·split at h
   ·cases h
   rename_i o r2 h2
   split at h
   ·cases h
   rename_i h3
   obtain⟨g1,g2⟩:=rfun_sound h1 (bad_two h3)
   obtain⟨g3,g4⟩:=ih2 _ _ _ h2
   obtain⟨g5,g6⟩:=ih3 _ _ _ h ⟨g4,g2,h3,hw⟩
   refine⟨?_,g6⟩
   rw[g5,g1,g3,E.toks]
   simp
  split at h
  ·cases h
  rename_i h3
  obtain⟨g1,g2⟩:=rfun_sound h1 (bad_one h3)
  obtain⟨g5,g6⟩:=ih3 _ _ _ h ⟨g2,h3,hw⟩
  refine⟨?_,g6⟩
  rw[g5,g1,E.toks]
  simp
def preT:List T->Bool
 |[]=>true
 |.fn _::_=>true
 |.op _::_=>true
 |.sl::_=>true
 |.bs::_=>true
 |_=>false
theorem pre_num:∀{r:List T},preT r=true->isNum r=false
 |[],h=>rfl
 |t::r,h=>by cases t <;> first | rfl | simp[preT] at h
theorem pre_ends:∀{r:List T},preT r=true->ends r=false
 |[],h=>rfl
 |t::r,h=>by cases t <;> first | rfl | simp[preT] at h
def noda:List T->Bool
 |.dot::_=>false
 |.amp::_=>false
 |_=>true
theorem pre_noda:∀{r:List T},preT r=true->noda r=true
 |[],h=>rfl
 |t::r,h=>by cases t <;> first | rfl | simp[preT] at h
theorem ends_noda:∀{r:List T},ends r=true->noda r=true
 |[],h=>rfl
 |t::r,h=>by cases t <;> first | rfl | simp[ends] at h
theorem O.ends (o:O) (r:List T):Pl.ends (o.toks.reverse++r)=true:=by
 cases o with
 |nums v vs =>
  cases hv:(O.nums v vs).toks.reverse with
  |nil=>simp[O.toks] at hv
  |cons t l =>
   have:t∈(O.nums v vs).toks:=by rw[<- List.mem_reverse,hv];simp
   simp only[O.toks,List.mem_cons,List.mem_map] at this
   rcases this with rfl|⟨x,_,rfl⟩ <;> rfl
 |name nm=>rfl
 |br e=>simp only[O.toks,List.reverse_cons,List.reverse_append];rfl
theorem F.preT {f:F}(h:f.wf) (r:List T):Pl.preT (f.toks.reverse++r)=true:=by cases f <;> first | rfl | exact h.elim
theorem rfun_complete {f:F}(h:f.wf) {r:List T}(hr:noda r=true):rfun (f.toks.reverse++r)=some (f,r):=by
 cases f with
 |call nm =>
  cases r with
  |nil=>rfl
  |cons t r=>cases t <;> first | rfl | simp[noda] at hr
 |plain m =>
  cases r with
  |nil=>rfl
  |cons t r=>cases t <;> first | rfl | simp[noda] at hr
 |red m=>show rfun (.sl::.op m::r)=_;simp only[rfun];rw[if_neg h]
 |scan m=>show rfun (.bs::.op m::r)=_;simp only[rfun];rw[if_neg h]
 |inner m m'=>show rfun (.op m'::.dot::.op m::r)=_;simp only[rfun];rw[if_neg (by rw[not_or];exact h)]
 |outer m=>show rfun (.op m::.amp::r)=_;simp only[rfun];rw[if_neg h]
 |bad=>exact h.elim
theorem cut_nums:∀(l:List Int) (k:Nat) (acc r:List T),cut k acc (l.map .num++r)=cut k (l.reverse.map .num++acc) r
 |[],k,acc,r=>rfl
 |v::l,k,acc,r=>by
  have:cut k acc ((v::l).map .num++r)=cut k (.num v::acc) (l.map .num++r):=by cases k <;> rfl
  rw[this,cut_nums l]
  simp
mutual
theorem E.cut:∀(e:E) (k:Nat) (acc r:List T),e.wf->Pl.cut k acc (e.toks.reverse++r)=Pl.cut k (e.toks++acc) r
 |.opd o,k,acc,r,h=>O.cut o k acc r h
 |.one f e,k,acc,r,h=>by
  rw[E.toks,List.reverse_append,List.append_assoc,E.cut e k acc _ h.2.2]
  have hf:∀acc,Pl.cut k acc (f.toks.reverse++r)=Pl.cut k (f.toks++acc) r:=by
   intro acc
   obtain⟨h1,_⟩:=h
   cases f <;> first | exact h1.elim | (cases k <;> rfl)
  rw[hf,List.append_assoc]
 |.two o f e,k,acc,r,h=>by
  rw[E.toks,List.reverse_append,List.reverse_append,List.append_assoc,List.append_assoc,E.cut e k acc _ h.2.2.2]
  have hf:∀acc r,Pl.cut k acc (f.toks.reverse++r)=Pl.cut k (f.toks++acc) r:=by
   intro acc r
   obtain⟨_,h1,_⟩:=h
   cases f <;> first | exact h1.elim | (cases k <;> rfl)
  rw[hf,O.cut o k _ r h.1,List.append_assoc,List.append_assoc]
theorem O.cut:∀(o:O) (k:Nat) (acc r:List T),o.wf->Pl.cut k acc (o.toks.reverse++r)=Pl.cut k (o.toks++acc) r
 |.nums v vs,k,acc,r,h=>by
  have e1:(O.nums v vs).toks=(v::vs).map .num:=rfl
  rw[e1,<- List.map_reverse,cut_nums,List.reverse_reverse]
 |.name nm,k,acc,r,h=>by cases k <;> rfl
 |.br e,k,acc,r,h=>by
  simp only[O.toks,List.reverse_cons,List.reverse_append,List.append_assoc,List.cons_append,List.nil_append,List.reverse_nil]
  have e1:Pl.cut k acc (.rp::(e.toks.reverse++.lp::r))=Pl.cut (k+1) (.rp::acc) (e.toks.reverse++.lp::r):=by cases k <;> rfl
  rw[e1,E.cut e (k+1) _ _ h]
  rfl
end
def E.sp:E->Nat
 |.opd _=>0
 |.one _ e=>e.sp+1
 |.two _ _ e=>e.sp+1
theorem E.sp_sz:∀e:E,e.sp+1<=e.sz
 |.opd o=>by simp[E.sp,E.sz]
 |.one f e=>by have:=E.sp_sz e;simp only[E.sp,E.sz];omega
 |.two o f e=>by have:=E.sp_sz e;simp only[E.sp,E.sz];omega
def rstart (n:Nat) (r:List T):Option E:=match ropnd n r with
 |none=>none
 |some (o,r)=>rloop n (.opd o) r
theorem O.toks_len (o:O):1<=o.toks.length:=by cases o <;> simp[O.toks]
theorem F.toks_len {f:F}(h:f.wf):1<=f.toks.length:=by cases f <;> first | exact h.elim | simp[F.toks]
theorem ne_of_len {r:List T}(h:1<=r.length):¬r=[]:=by rintro rfl;simp at h
theorem ropnd_br {n:Nat}{r i r':List T}{e:E}(h1:cut 0 [] r=some (i,r')) (h2:rexpr n i=some e):ropnd (n+1) (.rp::r)=some (.br e,r'):=by
 simp only[ropnd]
 rw[h1]
 simp only
 rw[h2]
theorem ropnd_nums {n:Nat}{v a:Int}{vs l:List Int}{r:List T}(hv:(v::vs).reverse=a::l) (hr:isNum r=false):ropnd (n+1) (.num a::(l.map .num++r))=some (.nums v vs,r):=by
 have h2:(a::l).reverse=v::vs:=by rw[<- hv,List.reverse_reverse]
 simp only[ropnd]
 rw[spn_app l hr]
 simp only[h2]
mutual
theorem E.rc:∀(e:E) (n:Nat) (r:List T),e.sz<=n->e.wf->Pl.preT r=true->rstart n (e.toks.reverse++r)=rloop (n-e.sp) e r
 |.opd o,n,r,hs,hw,hr=>by
  simp only[E.sz] at hs
  rw[rstart,E.toks,O.rc o n r oM hw (pre_num hr)]
  rfl
 |.one f e,n,r,hs,hw,hr=>by
  simp only[E.sz] at hs
  have h1:=E.sp_sz e
  obtain⟨w1,w2,w3⟩:=hw
  rw[E.toks,List.reverse_append,List.append_assoc,E.rc e n _ oM w3 (F.preT w1 r)]
  rw[show n-e.sp=(n-(E.one f e).sp)+1 by simp only[E.sp];omega,rloop,if_neg (ne_of_len (by have:=F.toks_len w1;simp;omega)),rfun_complete w1 (pre_noda hr)]
  simp only[pre_ends hr,Bool.false_eq_true,if_false]
  rw[if_neg w2]
 |.two o f e,n,r,hs,hw,hr=>by
  simp only[E.sz] at hs
  have h1:=E.sp_sz e
  obtain⟨w0,w1,w2,w3⟩:=hw
  rw[E.toks,List.reverse_append,List.reverse_append,List.append_assoc,List.append_assoc,E.rc e n _ oM w3 (F.preT w1 _)]
  rw[show n-e.sp=(n-(E.two o f e).sp)+1 by simp only[E.sp];omega,rloop,if_neg (ne_of_len (by have:=F.toks_len w1;simp;omega)),rfun_complete w1 (ends_noda (o.ends r))]
  simp only[o.ends r,if_true]
  rw[O.rc o _ r (by simp only[E.sp];omega) w0 (pre_num hr)]
  simp only
  rw[if_neg w2]
theorem O.rc:∀(o:O) (n:Nat) (r:List T),o.sz<=n->o.wf->isNum r=false->ropnd n (o.toks.reverse++r)=some (o,r)
 |.nums v vs,0,r,hs,hw,hr=>by simp[O.sz] at hs
 |.nums v vs,n+1,r,hs,hw,hr=>by
  have e1:(O.nums v vs).toks=(v::vs).map .num:=rfl
  cases hv:(v::vs).reverse with
  |nil=>simp at hv
  |cons a l =>
   rw[e1,<- List.map_reverse,hv,List.map_cons,List.cons_append]
   exact ropnd_nums hv hr
 |.name nm,0,r,hs,hw,hr=>by simp[O.sz] at hs
 |.name nm,n+1,r,hs,hw,hr=>rfl
 |.br e,n,r,hs,hw,hr=>by
  simp only[O.sz] at hs
  obtain⟨m,rfl⟩:∃m,n=m+1+1:=⟨n-2,by omega⟩
  have e1:(O.br e).toks.reverse++r=.rp::(e.toks.reverse++.lp::r):=by simp[O.toks]
  rw[e1]
  have h0:Pl.cut 0 [] (e.toks.reverse++.lp::r)=some (e.toks,r):=by
   rw[E.cut e 0 _ _ hw,List.append_nil]
   rfl
  refine ropnd_br h0 ?_
  have h1:=E.rc e m [] oM hw rfl
  rw[List.append_nil] at h1
  have h2:=E.sp_sz e
  rw[rexpr]
  show rstart m e.toks.reverse=_
  rw[h1,show m-e.sp=(m-e.sp-1)+1 by omega,rloop,if_pos rfl]
end
theorem rcomplete {e:E}(hw:e.wf) {n:Nat}(hn:e.sz+1<=n):rexpr n e.toks=some e:=by
 obtain⟨m,rfl⟩:∃m,n=m+1:=⟨n-1,by omega⟩
 have h1:=E.rc e m [] oM hw rfl
 rw[List.append_nil] at h1
 have h2:=E.sp_sz e
 rw[rexpr]
 show rstart m e.toks.reverse=_
 rw[h1,show m-e.sp=(m-e.sp-1)+1 by omega,rloop,if_pos rfl]
mutual
theorem E.sz_le:∀e:E,e.wf->e.sz<=2 * e.toks.length
 |.opd o,h=>by have:=O.sz_le o h;simp only[E.sz,E.toks];omega
 |.one f e,h=>by have:=E.sz_le e h.2.2;have:=F.toks_len h.1;simp only[E.sz,E.toks,List.length_append];omega
 |.two o f e,h=>by have:=O.sz_le o h.1;have:=E.sz_le e h.2.2.2;simp only[E.sz,E.toks,List.length_append];omega
theorem O.sz_le:∀o:O,o.wf->o.sz+1<=2 * o.toks.length
 |.nums v vs,h=>by simp only[O.sz,O.toks,List.length_cons];omega
 |.name nm,h=>by simp[O.sz,O.toks]
 |.br e,h=>by have:=E.sz_le e h;simp only[O.sz,O.toks,List.length_cons,List.length_append,List.length_nil];omega
end
theorem right_left {n m:Nat}{ts r:List T}{e:E}(h:rexpr n ts=some e) (hr:stop r=true) (hm:2 * ts.length<=m):pexpr m (ts++r)=some (e,r):=by
 obtain⟨rfl,hw⟩:=(rsound n).1 _ _ h
 exact(pcomplete m).1 e r (by have:=e.sz_le hw;omega) hw hr
theorem left_right {n m:Nat}{t r:List T}{e:E}(h:pexpr m t=some (e,r)) (hn:2 * t.length+1<=n):t=e.toks++r/\e.wf/\rexpr n e.toks=some e:=by
 obtain⟨rfl,hw⟩:=(psound m).1 _ _ _ h
 refine⟨rfl,hw,rcomplete hw ?_⟩
 have:=e.sz_le hw
 simp at hn
 omega
end Pl
namespace Pl
inductive S where
 |val (e:E)
 |asg (nm:List UInt8) (e:E)
 |fn (nm:List UInt8) (gs:List (E × E)) (e:E)
def seps:List T->List T
 |.sep::r=>seps r
 |r=>r
def pbody (n:Nat):Nat->List T->Option (List (E × E) × E × List T)
 |0,_=>none
 |k+1,ts=>match pexpr n ts with
  |none=>none
  |some (x,.col::r)=>match pexpr n r with
   |some (y,.sep::r2)=>match pbody n k (seps r2) with
    |some (gs,e,r3)=>some ((x,y)::gs,e,r3)
    |none=>none
   |_=>none
  |some (x,r)=>match seps r with
   |.rb::r2=>some ([],x,r2)
   |_=>none
def pstmt (n k:Nat):List T->Option (S × List T)
 |.arr nm::.asg::r=>match pexpr n r with
  |some (e,r)=>some (.asg nm e,r)
  |none=>none
 |.fn nm::.asg::.lb::r=>if nm=selfW then none else match pbody n k (seps r) with
  |some (gs,e,r)=>some (.fn nm gs e,r)
  |none=>none
 |_::.asg::_=>none
 |ts=>match pexpr n ts with
  |some (e,r)=>some (.val e,r)
  |none=>none
def pprog (n:Nat):Nat->List T->Option (List S)
 |_,[]=>some []
 |0,_=>none
 |k+1,ts=>match pstmt n n ts with
  |none=>none
  |some (s,[])=>some [s]
  |some (s,.sep::r)=>match pprog n k (seps r) with
   |some l=>some (s::l)
   |none=>none
  |some _=>none
def br:T->Int
 |.lb=>1
 |.rb=>-1
 |_=>0
def isSep:T->Bool
 |.sep=>true
 |_=>false
def rsp:Int->List T->List T->List (List T)
 |_,acc,[]=>if acc=[] then [] else [acc.reverse]
 |o,acc,t::r =>
  if o+br t<=0/\isSep t=true then (if acc=[] then rsp (o+br t) [] r else acc.reverse::rsp (o+br t) [] r)
  else rsp (o+br t) (t::acc) r
def cutc:List T->Option (List T × List T)
 |[]=>none
 |.col::r=>some ([],r)
 |t::r=>match cutc r with
  |some (a,b)=>some (t::a,b)
  |none=>none
def rbd (n:Nat):List (List T)->Option (List (E × E) × E)
 |[]=>none
 |[p]=>match cutc p with
  |some _=>none
  |none=>match rexpr n p with
   |some e=>some ([],e)
   |none=>none
 |p::ps=>match cutc p with
  |none=>none
  |some (a,b)=>match rexpr n a,rexpr n b,rbd n ps with
   |some x,some y,some (gs,e)=>some ((x,y)::gs,e)
   |_,_,_=>none
def rstmt (n:Nat):List T->Option S
 |.arr nm::.asg::r=>match rexpr n r with
  |some e=>some (.asg nm e)
  |none=>none
 |.fn nm::.asg::r=>if nm=selfW then none else match r with
  |.lb::r2=>match r2.reverse with
   |.rb::r3=>match rbd n (rsp 0 [] r3.reverse) with
    |some (gs,e)=>some (.fn nm gs e)
    |none=>none
   |_=>none
  |_=>none
 |ts=>match rexpr n ts with
  |some e=>some (.val e)
  |none=>none
def rall (n:Nat):List (List T)->Option (List S)
 |[]=>some []
 |p::ps=>match rstmt n p,rall n ps with
  |some s,some l=>some (s::l)
  |_,_=>none
def ein:T->Bool
 |.lb=>false
 |.rb=>false
 |.col=>false
 |.asg=>false
 |.sep=>false
 |_=>true
theorem F.ein {f:F}:∀t∈f.toks,Pl.ein t=true:=by cases f <;> simp[F.toks,Pl.ein]
mutual
theorem E.ein:∀(e:E),∀t∈e.toks,Pl.ein t=true
 |.opd o=>O.ein o
 |.one f e=>fun t h=>by
  rw[E.toks,List.mem_append] at h
  rcases h with h|h
  ·exact F.ein t h
  ·exact E.ein e t h
 |.two o f e=>fun t h=>by
  rw[E.toks,List.mem_append,List.mem_append] at h
  rcases h with h|h|h
  ·exact O.ein o t h
  ·exact F.ein t h
  exact E.ein e t h
theorem O.ein:∀(o:O),∀t∈o.toks,Pl.ein t=true
 |.nums v vs=>fun t h=>by
  simp only[O.toks,List.mem_cons,List.mem_map] at h
  rcases h with rfl|⟨x,_,rfl⟩ <;> rfl
 |.name nm=>fun t h=>by simp[O.toks] at h;subst h;rfl
 |.br e=>fun t h=>by
  simp only[O.toks,List.mem_cons,List.mem_append,List.not_mem_nil,or_false] at h
  rcases h with rfl|h|rfl
  ·rfl
  ·exact E.ein e t h
  rfl
end
theorem rsp_ein:∀(p:List T) (acc r:List T),(∀t∈p,ein t=true)->rsp 0 acc (p++r)=rsp 0 (p.reverse++acc) r
 |[],acc,r,h=>rfl
 |t::p,acc,r,h=>by
  have h1:=h t sI
  rw[List.cons_append,rsp,if_neg (by cases t <;> simp[isSep,ein] at h1 ⊢),show (0:Int)+br t=0 by cases t <;> first | rfl | simp[ein] at h1,rsp_ein p _ r (fun x hx=>h x (by simp[hx]))]
  simp
theorem rsp_col (acc r:List T):rsp 0 acc (.col::r)=rsp 0 (.col::acc) r:=by
 rw[rsp,if_neg (by simp[isSep])];rfl
theorem rsp_sep (acc r:List T) (h:acc ≠ []):rsp 0 acc (.sep::r)=acc.reverse::rsp 0 [] r:=by
 rw[rsp,if_pos ⟨by decide,rfl⟩,if_neg h];rfl
theorem rsp_sep0 (r:List T):rsp 0 [] (.sep::r)=rsp 0 [] r:=by
 rw[rsp,if_pos ⟨by decide,rfl⟩,if_pos rfl];rfl
theorem rsp_seps:∀r:List T,rsp 0 [] r=rsp 0 [] (seps r)
 |[]=>rfl
 |t::r=>by
  cases t <;> first | rfl | skip
  rw[rsp_sep0,rsp_seps r]
  rfl
theorem rsp_first:∀(ts:List T) (o:Int) (acc:List T),acc ≠ []->∃q r ps,rsp o acc ts=(acc.reverse++q)::ps/\ts=q++r/\(r=[]/\ps=[]\/∃r' o',r=.sep::r'/\ps=rsp o' [] r')
 |[],o,acc,h=>⟨[],[],[],by rw[rsp,if_neg h];simp,rfl,.inl ⟨rfl,rfl⟩⟩
 |t::ts,o,acc,h=>by
  rw[rsp]
  by_cases hs:o+br t<=0/\isSep t=true
  ·rw[if_pos hs,if_neg h]
   have:t=.sep:=by cases t <;> first | rfl | simp[isSep] at hs
   exact⟨[],t::ts,rsp (o+br t) [] ts,by rw[List.append_nil],rfl,.inr ⟨ts,_,by rw[this],rfl⟩⟩
  rw[if_neg hs]
  obtain⟨q,r,ps,h1,h2,h3⟩:=rsp_first ts (o+br t) (t::acc) sI
  exact⟨t::q,r,ps,by rw[h1];simp,by rw[h2];rfl,h3⟩
theorem rsp_nil:∀(r:List T),rsp 0 [] r=[]->seps r=[]
 |[],_=>rfl
 |t::r,h=>by
  by_cases ht:t=.sep
  ·subst ht
   rw[rsp_sep0] at h
   exact rsp_nil r h
  exfalso
  rw[rsp,if_neg (by rintro ⟨_,h⟩;cases t <;> first | exact ht rfl | simp[isSep] at h)] at h
  obtain⟨q,r',ps,h1,_⟩:=rsp_first r (0+br t) [t] sI
  rw[h1] at h
  cases h
theorem seps_sep:∀(r:List T),seps r=[]\/∃t r',seps r=t::r'/\isSep t=false
 |[]=>.inl rfl
 |t::r=>by
  cases t <;> first | exact .inr ⟨_,_,rfl,rfl⟩ | skip
  exact seps_sep r
theorem seps_app_rb:∀(r R:List T),seps r=[]->seps (r++.rb::R)=.rb::R
 |[],R,_=>rfl
 |t::r,R,h=>by
  cases t <;> first | (simp[seps] at h;done) | skip
  exact seps_app_rb r R h
theorem seps_pre:∀(r:List T),∃p,r=p++seps r/\∀t∈p,t=.sep
 |[]=>⟨[],rfl,by simp⟩
 |t::r=>by
  cases t <;> first | exact⟨[],rfl,by simp⟩ | skip
  obtain⟨p,h1,h2⟩:=seps_pre r
  exact⟨.sep::p,by rw[seps,List.cons_append,<- h1],by intro t ht;rcases List.mem_cons.1 ht with h | h;exact h;exact h2 t h⟩
theorem seps_of_pre:∀(p r:List T),(∀t∈p,t=.sep)->seps (p++r)=seps r
 |[],r,_=>rfl
 |t::p,r,h=>by
  obtain rfl:=h t sI
  rw[List.cons_append,seps]
  exact seps_of_pre p r (fun t ht=>h t (by simp[ht]))
theorem cutc_ein:∀(a b:List T),(∀t∈a,ein t=true)->cutc (a++.col::b)=some (a,b)
 |[],b,_=>rfl
 |t::a,b,h=>by
  have h1:=h t sI
  have h2:=cutc_ein a b (fun x hx=>h x (by simp[hx]))
  cases t <;> first | (simp[ein] at h1;done) | (rw[List.cons_append,cutc,h2];rintro ⟨⟩)
theorem cutc_none:∀(a:List T),(∀t∈a,ein t=true)->cutc a=none
 |[],_=>rfl
 |t::a,h=>by
  have h1:=h t sI
  have h2:=cutc_none a (fun x hx=>h x (by simp[hx]))
  cases t <;> first | (simp[ein] at h1;done) | (rw[cutc,h2];rintro ⟨⟩)
theorem cutc_some:∀(p a b:List T),cutc p=some (a,b)->p=a++.col::b
 |[],a,b,h=>by simp[cutc] at h
 |t::p,a,b,h=>by
  have step (h:(match cutc p with | some (a,b)=>some (t::a,b) | none=>none)=some (a,b)):t::p=a++.col::b:=by
   split at h
   ·rename_i a' b' h1
    cases h
    rw[cutc_some p a' b h1];rfl
   cases h
  cases t <;> first | exact step h | (simp only[cutc,Option.some.injEq,Prod.mk.injEq] at h;obtain⟨rfl,rfl⟩:=h;rfl)
theorem E.ne {e:E}(h:e.wf):e.toks ≠ []:=by
 have:=E.beg h []
 intro h0
 rw[h0] at this
 simp[Pl.beg] at this
theorem ein_stop_col (r:List T):stop (.col::r)=true:=rfl
theorem seps_stop {R2 R:List T}(h:R2=[]\/∃r,R2=.sep::r):stop (R2++.rb::R)=true:=by rcases h with rfl | ⟨r,rfl⟩ <;> rfl
theorem body_rl (n m:Nat):∀(k:Nat) (B R:List T) (gs:List (E × E)) (e:E),B.length<k->2 * B.length<=m->rbd n (rsp 0 [] B)=some (gs,e)->pbody m k (seps (B++.rb::R))=some (gs,e,R)
 |0,B,R,gs,e,h,_,_=>absurd h oM
 |k+1,B,R,gs,e,hk,hm,h=>by
  rw[rsp_seps] at h
  obtain⟨p,hp,hs⟩:=seps_pre B
  have hl:(seps B).length<=B.length:=by have:=congrArg List.length hp;simp at this;omega
  rw[show B++.rb::R=p++(seps B++.rb::R) by rw[<- List.append_assoc,<- hp],seps_of_pre p _ hs]
  rcases seps_sep B with h0|⟨t,r,h0,ht⟩
  ·rw[h0] at h
   simp[rsp,rbd] at h
  rw[h0] at h hl ⊢
  have e0:seps (t::r++.rb::R)=t::r++.rb::R:=by cases t <;> first | rfl | simp[isSep] at ht
  rw[e0]
  have h':=h
  rw[rsp,if_neg (by rw[ht];simp)] at h'
  obtain⟨q,R2,ps,h1,h2,h3⟩:=rsp_first r (0+br t) [t] sI
  rw[h1] at h'
  simp only[List.reverse_cons,List.reverse_nil,List.nil_append,List.singleton_append] at h'
  have e1:t::r=t::q++R2:=by rw[h2];rfl
  have hlen:(t::q).length+R2.length=(t::r).length:=by rw[e1];simp;omega
  have hlen2:(t::q).length=q.length+1:=rfl
  rw[e1,List.append_assoc]
  cases ps with
  |nil =>
   rw[rbd] at h'
   split at h'
   ·cases h'
   split at h'
   rotate_left 1
   ·cases h'
   rename_i e' he
   cases h'
   obtain⟨g1,g2⟩:=(rsound n).1 _ _ he
   have hR2:seps R2=[]:=by
    rcases h3 with ⟨rfl,_⟩|⟨r',o',rfl,hp2⟩
    ·rfl
    have h5:=h1
    rw[<- h2] at *
    have:rsp 0 [] (t::r)=[t::q]:=by rw[rsp,if_neg (by rw[ht];simp),h1];rfl
    rw[e1,g1,rsp_ein _ _ _ (E.ein e),List.append_nil,rsp_sep _ _ (by have:=E.ne g2;simpa using this)] at this
    simp at this
    exact rsp_nil r' this
   have hst:stop (R2++.rb::R)=true:=seps_stop (by rcases h3 with ⟨h,_⟩ | ⟨r',_,h,_⟩;exact .inl h;exact .inr ⟨r',h⟩)
   have hpx:=right_left he hst (m:=m) (by simp at hlen hl ⊢;omega)
   rw[pbody,hpx]
   have hsr:=seps_app_rb R2 R hR2
   rcases h3 with ⟨rfl,_⟩|⟨r',_,rfl,_⟩
   ·rfl
   simp only[List.cons_append] at hsr ⊢
   rw[hsr]
  |cons p2 ps2 =>
   rw[rbd] at h'
   rotate_left 1
   ·intro hh;cases hh
   split at h'
   ·cases h'
   rename_i a b hc
   split at h'
   rotate_left 1
   ·cases h'
   rename_i x y gs' e' hx hy hr
   cases h'
   have e2:=cutc_some _ _ _ hc
   rcases h3 with ⟨_,h4⟩|⟨r',o',rfl,hp2⟩
   ·cases h4
   obtain⟨g1,g2⟩:=(rsound n).1 _ _ hx
   obtain⟨g3,g4⟩:=(rsound n).1 _ _ hy
   have hlab:a.length+b.length+1=(t::q).length:=by rw[e2];simp;omega
   have hps:rsp 0 [] r'=p2::ps2:=by
    have:rsp 0 [] (t::r)=(t::q)::p2::ps2:=by rw[rsp,if_neg (by rw[ht];simp),h1];rfl
    rw[e1,e2,g1,g3,List.append_assoc,rsp_ein _ _ _ (E.ein x),List.append_nil,List.cons_append,rsp_col,rsp_ein _ _ _ (E.ein y),rsp_sep _ _ sI] at this
    simp at this
    exact this
   rw[e2,List.append_assoc,List.cons_append]
   have hpx:=right_left hx (ein_stop_col (b++((.sep::r')++.rb::R))) (m:=m) (by simp at hlen hl ⊢;omega)
   have hpy:=right_left hy (r:=(.sep::r')++.rb::R) rfl (m:=m) (by simp at hlen hl ⊢;omega)
   rw[<- hps] at hr
   have ih:=body_rl n m k r' R gs' e (by simp at hlen hl;omega) (by simp at hlen hl;omega) hr
   rw[pbody,hpx]
   simp only
   rw[hpy]
   simp only[List.cons_append]
   rw[ih]
theorem body_lr (n m:Nat):∀(k:Nat) (ts R:List T) (gs:List (E × E)) (e:E),2 * ts.length+1<=n->pbody m k ts=some (gs,e,R)->∃B,ts=B++.rb::R/\rbd n (rsp 0 [] B)=some (gs,e)/\∀t∈B,br t=0
 |0,ts,R,gs,e,_,h=>by simp[pbody] at h
 |k+1,ts,R,gs,e,hn,h=>by
  rw[pbody] at h
  have hein (e:E):∀t∈e.toks,br t=0:=fun t ht=>by have:=E.ein e t ht;cases t <;> first | rfl | simp[ein] at this
  split at h
  rotate_left 2
  ·rename_i x r _ hx
   obtain⟨g1,g2,g3⟩:=left_right hx hn
   split at h
   rotate_left 1
   ·cases h
   rename_i r2 hr
   simp only[Option.some.injEq,Prod.mk.injEq] at h
   obtain⟨rfl,rfl,rfl⟩:=h
   obtain⟨p,hp,hs⟩:=seps_pre r
   refine⟨x.toks++p,?_,?_,?_⟩
   ·rw[g1,List.append_assoc,<- hr,<- hp]
   ·have hpn:rsp 0 x.toks.reverse p=[x.toks]:=by
     cases p with
     |nil=>rw[rsp,if_neg (by have:=E.ne g2;simpa using this),List.reverse_reverse]
     |cons t p =>
      obtain rfl:=hs t sI
      rw[rsp_sep _ _ (by have:=E.ne g2;simpa using this),List.reverse_reverse]
      have:=seps_of_pre p [] (fun t ht=>hs t (by simp[ht]))
      rw[List.append_nil] at this
      rw[rsp_seps,this]
      rfl
    rw[rsp_ein _ _ _ (E.ein x),List.append_nil,hpn,rbd,cutc_none _ (E.ein x)]
    simp only
    rw[g3]
   intro t ht
   rw[List.mem_append] at ht
   rcases ht with ht|ht
   ·exact hein x t ht
   rw[hs t ht];rfl
  ·cases h
  rename_i x r hx
  obtain⟨g1,g2,g3⟩:=left_right hx hn
  split at h
  rotate_left 1
  ·cases h
  rename_i y r2 hy
  have hln:2 * r.length+1<=n:=by have:=congrArg List.length g1;simp at this;omega
  obtain⟨g4,g5,g6⟩:=left_right hy hln
  split at h
  rotate_left 1
  ·cases h
  rename_i gs' e' r3 hb
  cases h
  obtain⟨p,hp,hs⟩:=seps_pre r2
  have hl2:(seps r2).length<=r2.length:=by have:=congrArg List.length hp;simp at this;omega
  obtain⟨B',i1,i2,i3⟩:=body_lr n m k (seps r2) R gs' e (by have:=congrArg List.length g4;simp at this;omega) hb
  refine⟨x.toks++.col::(y.toks++.sep::(p++B')),?_,?_,?_⟩
  ·rw[g1,g4]
   simp only[List.append_assoc,List.cons_append]
   rw[<- i1,<- hp]
  ·rw[rsp_ein _ _ _ (E.ein x),List.append_nil,rsp_col,rsp_ein _ _ _ (E.ein y),rsp_sep _ _ sI]
   have e1:rsp 0 [] (p++B')=rsp 0 [] B':=by rw[rsp_seps,seps_of_pre p _ hs,<- rsp_seps]
   rw[e1]
   simp only[List.reverse_append,List.reverse_cons,List.reverse_reverse,List.append_assoc,List.singleton_append]
   cases hq:rsp 0 [] B' with
   |nil=>rw[hq] at i2;simp[rbd] at i2
   |cons p1 ps1 =>
    rw[hq] at i2
    rw[rbd,cutc_ein _ _ (E.ein x)]
    ·simp only
     rw[g3,g6,i2]
    intro hh;cases hh
  intro t ht
  simp only[List.mem_append,List.mem_cons] at ht
  rcases ht with ht|rfl|ht|rfl|ht|ht
  ·exact hein x t ht
  ·rfl
  ·exact hein y t ht
  ·rfl
  ·rw[hs t ht];rfl
  exact i3 t ht
end Pl
namespace Pl
def noAsg (ts:List T):Prop:=∀t r,ts ≠ t::.asg::r
theorem pstmt_default {n k:Nat}{ts:List T}(h:noAsg ts):pstmt n k ts=match pexpr n ts with | some (e,r)=>some (.val e,r) | none=>none:=by
 unfold pstmt
 split
 ·exact absurd rfl (h _ _)
 ·exact absurd rfl (h _ _)
 ·exact absurd rfl (h _ _)
 rfl
theorem rstmt_default {n:Nat}{ts:List T}(h:noAsg ts):rstmt n ts=match rexpr n ts with | some e=>some (.val e) | none=>none:=by
 unfold rstmt
 split
 ·exact absurd rfl (h _ _)
 ·exact absurd rfl (h _ _)
 rfl
theorem E.noAsg (e:E) {R:List T}(hR:R=[]\/∃r,R=.sep::r) (he:e.toks ≠ []):noAsg (e.toks++R):=by
 intro t r h
 cases ht:e.toks with
 |nil=>exact he ht
 |cons a l =>
  rw[ht] at h
  cases l with
  |nil =>
   rcases hR with rfl|⟨r',rfl⟩
   ·simp at h
   simp at h
  |cons b l =>
   simp at h
   have:=E.ein e b (by rw[ht];simp)
   rw[h.2.1] at this
   simp[Pl.ein] at this
theorem rsp_push (o:Int) (acc r:List T) (t:T) (h:br t=0) (hs:isSep t=false):rsp o acc (t::r)=rsp o (t::acc) r:=by
 rw[rsp,if_neg (by rw[hs];simp),h,Int.add_zero]
theorem rsp_in:∀(B acc r:List T),(∀t∈B,br t=0)->rsp 1 acc (B++r)=rsp 1 (B.reverse++acc) r
 |[],acc,r,_=>rfl
 |t::B,acc,r,h=>by
  have h1:=h t sI
  rw[List.cons_append,rsp,if_neg (by rw[h1];simp),h1,Int.add_zero,rsp_in B _ r (fun x hx=>h x (by simp[hx]))]
  simp
theorem stop_sep {R:List T}(hR:R=[]\/∃r,R=.sep::r):stop R=true:=by rcases hR with rfl | ⟨r,rfl⟩ <;> rfl
theorem stmt_rl {n m k:Nat}{P R:List T}{s:S}(h:rstmt n P=some s) (hR:R=[]\/∃r,R=.sep::r) (hm:2 * P.length<=m) (hk:P.length<k):pstmt m k (P++R)=some (s,R):=by
 unfold rstmt at h
 split at h
 rotate_left 2
 ·rename_i hd1 hd2
  split at h
  ·rename_i e he
   cases h
   obtain⟨rfl,hw⟩:=(rsound n).1 _ _ he
   rw[pstmt_default (E.noAsg e hR (E.ne hw)),right_left he (stop_sep hR) (m:=m) hm]
  cases h
 ·rename_i nm r
  split at h
  ·rename_i e he
   cases h
   have:=right_left he (stop_sep hR) (m:=m) (by simp at hm;omega)
   simp only[List.cons_append,pstmt]
   rw[this]
  cases h
 rename_i nm r
 split at h
 ·cases h
 rename_i hself
 split at h
 rotate_left 1
 ·cases h
 rename_i r2
 split at h
 ·rename_i r3 hr3
  split at h
  ·rename_i gs e hb
   cases h
   have e1:r2=r3.reverse++[.rb]:=by rw[<- List.reverse_reverse r2,hr3];simp
   have hlen:r2.length=r3.length+1:=by rw[e1];simp
   have:=body_rl n m k r3.reverse R gs e (by simp at hk ⊢;omega) (by simp at hm ⊢;omega) hb
   simp only[List.cons_append,pstmt]
   rw[if_neg hself,e1,List.append_assoc,List.singleton_append,this]
  cases h
 cases h
theorem stmt_lr {n m k:Nat}{ts R:List T}{s:S}(h:pstmt m k ts=some (s,R)) (hn:2 * ts.length+1<=n):∃P,ts=P++R/\P ≠ []/\rstmt n P=some s/\∀acc r,rsp 0 acc (P++r)=rsp 0 (P.reverse++acc) r:=by
 unfold pstmt at h
 split at h
 rotate_left 2
 ·cases h
 ·rename_i hd1 hd2 hd3
  split at h
  ·rename_i e r he
   cases h
   obtain⟨g1,g2,g3⟩:=left_right he hn
   refine⟨e.toks,g1,E.ne g2,?_,fun acc r=>rsp_ein _ _ _ (E.ein e)⟩
   have:=E.noAsg e (.inl rfl) (E.ne g2)
   rw[List.append_nil] at this
   rw[rstmt_default this,g3]
  cases h
 ·rename_i nm r
  split at h
  ·rename_i e r' he
   cases h
   obtain⟨g1,g2,g3⟩:=left_right he (n:=n) (by simp at hn;omega)
   refine⟨.arr nm::.asg::e.toks,by rw[g1];rfl,by simp,?_,fun acc r=>?_⟩
   ·simp only[rstmt]
    rw[g3]
   rw[List.cons_append,List.cons_append,rsp_push _ _ _ _ rfl rfl,rsp_push _ _ _ _ rfl rfl,rsp_ein _ _ _ (E.ein e)]
   simp
  cases h
 rename_i nm r
 split at h
 ·cases h
 rename_i hself
 split at h
 rotate_left 1
 ·cases h
 rename_i gs e r' hb
 cases h
 obtain⟨p,hp,hs⟩:=seps_pre r
 have hl:(seps r).length<=r.length:=by have:=congrArg List.length hp;simp at this;omega
 obtain⟨B,b1,b2,b3⟩:=body_lr n m k (seps r) R gs e (by simp at hn;omega) hb
 refine⟨.fn nm::.asg::.lb::(p++B++[.rb]),?_,by simp,?_,fun acc r=>?_⟩
 ·rw[hp,b1];simp
 ·simp only[rstmt]
  rw[if_neg hself]
  have e1:(p++B++[T.rb]).reverse=.rb::(p++B).reverse:=by simp
  rw[e1]
  simp only[List.reverse_reverse]
  have e2:rsp 0 [] (p++B)=rsp 0 [] B:=by rw[rsp_seps,seps_of_pre p _ hs,<- rsp_seps]
  rw[e2,b2]
 have hbr:∀t∈p++B,br t=0:=fun t ht=>by
  rcases List.mem_append.1 ht with h|h
  ·rw[hs t h];rfl
  exact b3 t h
 have e3:∀acc r,rsp 0 acc (.lb::r)=rsp 1 (.lb::acc) r:=fun acc r=>by rw[rsp,if_neg (by simp[isSep])];rfl
 have e4:∀acc r,rsp 1 acc (.rb::r)=rsp 0 (.rb::acc) r:=fun acc r=>by rw[rsp,if_neg (by simp[isSep])];rfl
 rw[List.cons_append,List.cons_append,List.cons_append,rsp_push _ _ _ _ rfl rfl,rsp_push _ _ _ _ rfl rfl,e3,List.append_assoc,rsp_in _ _ _ hbr,List.singleton_append,e4]
 simp
theorem seps_idem (t:T) (r:List T) (h:isSep t=false):seps (t::r)=t::r:=by cases t <;> first | rfl | simp[isSep] at h
theorem pprog_none {n k:Nat}{t:T}{r:List T}(h:pstmt n n (t::r)=none):pprog n (k+1) (t::r)=none:=by simp[pprog,h]
theorem pprog_end {n k:Nat}{t:T}{r:List T}{s:S}(h:pstmt n n (t::r)=some (s,[])):pprog n (k+1) (t::r)=some [s]:=by simp[pprog,h]
theorem pprog_sep {n k:Nat}{t:T}{r r':List T}{s:S}(h:pstmt n n (t::r)=some (s,.sep::r')):pprog n (k+1) (t::r)=match pprog n k (seps r') with | some l=>some (s::l) | none=>none:=by simp[pprog,h] <;> cases pprog n k (seps r') <;> rfl
theorem pprog_bad {n k:Nat}{t t':T}{r r':List T}{s:S}(h:pstmt n n (t::r)=some (s,t'::r')) (ht:t' ≠ .sep):pprog n (k+1) (t::r)=none:=by
 cases t' <;> first | exact absurd rfl ht | simp[pprog,h]
theorem prog_eq (n:Nat):∀(k:Nat) (ts:List T),ts.length<k->2 * ts.length+1<=n->rall n (rsp 0 [] ts)=pprog n k (seps ts)
 |0,ts,h,_=>absurd h oM
 |k+1,ts,hk,hn=>by
  obtain⟨p,hp,hs⟩:=seps_pre ts
  have hl:(seps ts).length<=ts.length:=by have:=congrArg List.length hp;simp at this;omega
  rw[rsp_seps]
  rcases seps_sep ts with h0|⟨t,r,h0,ht⟩
  ·rw[h0];rfl
  rw[h0] at hl ⊢
  have hn':2 * (t::r).length+1<=n:=by omega
  have hcons:rsp 0 [] (t::r)=rsp (0+br t) [t] r:=by rw[rsp,if_neg (by rw[ht];simp)]
  obtain⟨q,R2,ps,h1,h2,h3⟩:=rsp_first r (0+br t) [t] sI
  have hfirst:rsp 0 [] (t::r)=(t::q)::ps:=by rw[hcons,h1];rfl
  have e1:t::r=(t::q)++R2:=by rw[h2];rfl
  have hR2:R2=[]\/∃r,R2=.sep::r:=by
   rcases h3 with ⟨h,_⟩|⟨r',_,h,_⟩
   ·exact .inl h
   exact .inr ⟨r',h⟩
  have hq:(t::q).length<=(t::r).length:=by rw[e1];simp
  cases hst:pstmt n n (t::r) with
  |none =>
   rw[pprog_none hst,hfirst,rall]
   cases hr:rstmt n (t::q) with
   |none=>rfl
   |some s =>
    exfalso
    have:=stmt_rl hr hR2 (m:=n) (k:=n) oM oM
    rw[<- e1,hst] at this
    cases this
  |some sr =>
   obtain⟨s,R⟩:=sr
   obtain⟨P,g1,g2,g3,g4⟩:=stmt_lr hst hn'
   have hlen:=congrArg List.length g1
   rw[List.length_append] at hlen
   have hP:1<=P.length:=by cases P with | nil=>exact absurd rfl g2 | cons _ _=>simp
   have g4':=g4 []
   cases R with
   |nil =>
    rw[pprog_end hst]
    rw[List.append_nil] at g1
    have:rsp 0 [] (t::r)=[P]:=by
     have:=g4' []
     rw[List.append_nil,List.append_nil] at this
     rw[g1,this,rsp,if_neg (by simpa using g2),List.reverse_reverse]
    rw[this,rall,g3]
    rfl
   |cons t' R' =>
    by_cases ht':t'=.sep
    ·subst ht'
     have:rsp 0 [] (t::r)=P::rsp 0 [] R':=by
      rw[g1,g4',List.append_nil,rsp_sep _ _ (by simpa using g2),List.reverse_reverse]
     have ih:=prog_eq n k R' (by simp at hlen hl;omega) (by simp at hlen hl;omega)
     rw[pprog_sep hst,this,rall,g3,ih]
     cases pprog n k (seps R') <;> rfl
    rw[pprog_bad hst ht',hfirst,rall]
    cases hr:rstmt n (t::q) with
    |none=>rfl
    |some s' =>
     exfalso
     have:=stmt_rl hr hR2 (m:=n) (k:=n) oM oM
     rw[<- e1,hst] at this
     simp only[Option.some.injEq,Prod.mk.injEq] at this
     obtain⟨_,h5⟩:=this
     rcases hR2 with h6|⟨r6,h6⟩
     ·rw[h6] at h5;cases h5
     rw[h6] at h5;cases h5;exact ht' rfl
end Pl
namespace Pl
mutual
def E.code:E->List Sv
 |.opd o=>o.code
 |.one f e=>e.code++[⟨3,[],[],f.one⟩]
 |.two o f e=>e.code++(o.code++[⟨4,[],[],f.two⟩])
def O.code:O->List Sv
 |.nums v vs=>[⟨1,v::vs,[],f0⟩]
 |.name nm=>[⟨2,[],nm,f0⟩]
 |.br e=>e.code
end
mutual
def E.nest:E->Nat
 |.opd o=>o.nest
 |.one _ e=>e.nest
 |.two o _ e=>max e.nest o.nest
def O.nest:O->Nat
 |.nums _ _=>0
 |.name _=>0
 |.br e=>e.nest+1
end
mutual
def E.long:E->Bool
 |.opd o=>o.long
 |.one _ e=>e.long
 |.two o _ e=>e.long || o.long
def O.long:O->Bool
 |.nums _ vs=>decide (1000<vs.length+1)
 |.name _=>false
 |.br e=>e.long
end
mutual
def E.bey:Nat->E->Bool
 |d,.opd o=>o.bey d
 |d,.one _ e=>e.bey d
 |d,.two o _ e=>o.bey d || e.bey d
def O.bey:Nat->O->Bool
 |_,.nums _ vs=>decide (1000<vs.length+1)
 |_,.name _=>false
 |d,.br e=>decide (40<d+1) || e.bey (d+1)
end
mutual
theorem E.bey_eq:∀(e:E) (d:Nat),e.bey d=(e.long || (decide (0<e.nest) && decide (40<d+e.nest)))
 |.opd o,d=>O.bey_eq o d
 |.one _ e,d=>E.bey_eq e d
 |.two o _ e,d=>by
  rw[E.bey,E.long,E.nest,O.bey_eq o d,E.bey_eq e d,Bool.eq_iff_iff]
  cases e.long <;> cases o.long <;> simp
  omega
theorem O.bey_eq:∀(o:O) (d:Nat),o.bey d=(o.long || (decide (0<o.nest) && decide (40<d+o.nest)))
 |.nums _ vs,d=>by simp[O.bey,O.long,O.nest]
 |.name _,d=>by simp[O.bey,O.long,O.nest]
 |.br e,d=>by
  rw[O.bey,O.long,O.nest,E.bey_eq e (d+1),Bool.eq_iff_iff]
  cases e.long <;> simp
  omega
end
def E.fine (e:E):Bool:=decide (e.nest<=40) && !e.long
theorem E.fine_bey (e:E):e.fine=!e.bey 0:=by
 rw[E.bey_eq,E.fine,Bool.eq_iff_iff]
 cases e.long <;> simp
 omega
mutual
theorem E.code_len:∀e:E,e.wf->e.code.length<=e.toks.length
 |.opd o,h=>O.code_len o h
 |.one f e,h=>by
  have:=E.code_len e h.2.2
  have:=F.toks_len h.1
  simp[E.code,E.toks]
  omega
 |.two o f e,h=>by
  have:=E.code_len e h.2.2.2
  have:=O.code_len o h.1
  have:=F.toks_len h.2.1
  simp[E.code,E.toks]
  omega
theorem O.code_len:∀o:O,o.wf->o.code.length<=o.toks.length
 |.nums _ _,_=>by simp[O.code,O.toks]
 |.name _,_=>by simp[O.code,O.toks]
 |.br e,h=>by
  have:=E.code_len e h
  simp[O.code,O.toks]
  omega
end
mutual
theorem E.nest_len:∀e:E,e.nest<=e.toks.length
 |.opd o=>O.nest_len o
 |.one f e=>by
  have:=E.nest_len e
  simp[E.nest,E.toks]
  omega
 |.two o f e=>by
  have:=E.nest_len e
  have:=O.nest_len o
  simp[E.nest,E.toks]
  omega
theorem O.nest_len:∀o:O,o.nest<=o.toks.length
 |.nums _ _=>by simp[O.nest]
 |.name _=>by simp[O.nest]
 |.br e=>by
  have:=E.nest_len e
  simp[O.nest,O.toks]
  omega
end
mutual
theorem E.code_nums:∀e:E,∀s∈e.code,s.nums.length<=e.toks.length
 |.opd o,s,h=>O.code_nums o s h
 |.one f e,s,h=>by
  simp only[E.code,List.mem_append,List.mem_singleton] at h
  rcases h with h|rfl
  ·have:=E.code_nums e s h
   simp[E.toks];omega
  ·simp
 |.two o f e,s,h=>by
  simp only[E.code,List.mem_append,List.mem_singleton] at h
  rcases h with h|h|rfl
  ·have:=E.code_nums e s h
   simp[E.toks];omega
  ·have:=O.code_nums o s h
   simp[E.toks];omega
  simp
theorem O.code_nums:∀o:O,∀s∈o.code,s.nums.length<=o.toks.length
 |.nums v vs,s,h=>by simp[O.code] at h;subst h;simp[O.toks]
 |.name _,s,h=>by simp[O.code] at h;subst h;simp
 |.br e,s,h=>by have:=E.code_nums e s h;simp[O.toks];omega
end
def S.tv:S->Tv
 |.val e=>⟨1,[],e.code,[]⟩
 |.asg nm e=>⟨2,nm,e.code,[]⟩
 |.fn nm gs e=>⟨3,nm,e.code,gs.map fun g=>⟨g.1.code,g.2.code⟩⟩
def gsB (gs:List (E × E)):Bool:=gs.any fun g=>g.1.bey 0 || g.2.bey 0
def gsF (gs:List (E × E)):Bool:=gs.all fun g=>g.1.fine && g.2.fine
theorem gsF_eq (gs:List (E × E)):gsF gs=!gsB gs:=by
 induction gs with
 |nil=>rfl
 |cons g gs ih =>
  simp only[gsF,gsB,List.all_cons,List.any_cons] at ih ⊢
  rw[ih,E.fine_bey,E.fine_bey]
  cases g.1.bey 0 <;> cases g.2.bey 0 <;> simp
def S.bey:S->Bool
 |.val e=>e.bey 0
 |.asg _ e=>e.bey 0
 |.fn _ gs e=>gsB gs || e.bey 0
def S.fine:S->Bool
 |.val e=>e.fine
 |.asg _ e=>e.fine
 |.fn _ gs e=>gsF gs && e.fine
theorem S.fine_bey (s:S):s.fine=!s.bey:=by
 cases s with
 |val e=>exact e.fine_bey
 |asg _ e=>exact e.fine_bey
 |fn _ gs e=>simp only[S.fine,S.bey,gsF_eq,e.fine_bey,Bool.not_or]
end Pl
theorem tz {P:Program}{md:Region.Mode}{ops:Array Oper}{Q:Exit → Act → World → Prop}{S:World → Prop}{fuel:Nat}{listed:Array Bool}{a:Act}{w:World}(i : Nat) (v : Value) {oi : Oper}(hi : ops[i]? = some oi) (hS : S w) (hy : ∀ w, S w → (execOp a.eval oi).run P w = .ok (.value v) w) (h : wpAnyH P md ops Q S fuel (listed.setIfInBounds i true) (a.put oi.dst v) w) (hs : Region.noSelect ops = true := by kernel_rfl) (hf : Region.free md ops listed i = true := by kernel_rfl) (hr : (Region.ready md ops listed).contains i = true := by kernel_rfl) (hQ : ∀ c a w, Q (.panic c) (a.put oi.dst v) w → Q (.panic c) a w := by exact fun _ _ _ h => h) (hw : Region.wanted oi (yielded ops a.tmps) = true := by rfl) : wpAnyH P md ops Q S (fuel + 1) listed a w := wpAnyH_take hi hs hf hr hQ (Or.inl ⟨hw, hy⟩) hS h
abbrev Sq (P : Program) (md : Region.Mode) (ops : Array Oper) (Q : Exit → Act → World → Prop) (S : World → Prop) (fuel : Nat) (listed : Array Bool) (i : Nat) (o : Oper) (a : Act) (w : World) : Prop := ∀ K' : Act → World → Prop, Shut (∀ a w, S w → (S w → wpAnyH P md ops Q S fuel (listed.setIfInBounds i true) a w) → K' a w) → if Region.wanted o (yielded ops a.tmps) = true then Oper.wp P o a w K' Q else K' (a.put o.dst undef) w
theorem ry1 {P:Program}{md:Region.Mode}{ops:Array Oper}{Q:Exit → Act → World → Prop}{S:World → Prop}{fuel:Nat}{listed:Array Bool}{a:Act}{w:World}(i : Nat) {x : Oper}(e : ops[i]? = some x) (h : Sq P md ops Q S fuel listed i x a w) (hr : Region.ready md ops listed = [i] := by kernel_rfl) : wpAnyH P md ops Q S (fuel + 1) listed a w := wpAnyH_ready hr (by simp) (AllReadyH.cons e h AllReadyH.nil)
theorem ry2 {P:Program}{md:Region.Mode}{ops:Array Oper}{Q:Exit → Act → World → Prop}{S:World → Prop}{fuel:Nat}{listed:Array Bool}{a:Act}{w:World}(i j : Nat) {x y : Oper}(e : ops[i]? = some x) (e2 : ops[j]? = some y) (h : Sq P md ops Q S fuel listed i x a w) (h2 : Sq P md ops Q S fuel listed j y a w) (hr : Region.ready md ops listed = [i, j] := by kernel_rfl) : wpAnyH P md ops Q S (fuel + 1) listed a w := wpAnyH_ready hr (by simp) (AllReadyH.cons e h (AllReadyH.cons e2 h2 AllReadyH.nil))
theorem ry3 {P:Program}{md:Region.Mode}{ops:Array Oper}{Q:Exit → Act → World → Prop}{S:World → Prop}{fuel:Nat}{listed:Array Bool}{a:Act}{w:World}(i j k : Nat) {x y z : Oper}(e : ops[i]? = some x) (e2 : ops[j]? = some y) (e3 : ops[k]? = some z) (h : Sq P md ops Q S fuel listed i x a w) (h2 : Sq P md ops Q S fuel listed j y a w) (h3 : Sq P md ops Q S fuel listed k z a w) (hr : Region.ready md ops listed = [i, j, k] := by kernel_rfl) : wpAnyH P md ops Q S (fuel + 1) listed a w := wpAnyH_ready hr (by simp) (AllReadyH.cons e h (AllReadyH.cons e2 h2 (AllReadyH.cons e3 h3 AllReadyH.nil)))
end Go.Proofs.YtbiiicbfpcfgdaaGreatDoor
