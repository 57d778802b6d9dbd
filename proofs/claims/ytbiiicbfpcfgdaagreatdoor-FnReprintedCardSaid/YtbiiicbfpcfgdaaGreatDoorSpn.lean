import Derived.Test.YtbiiicbfpcfgdaaGreatDoorOpe2
import Derived.Test.YtbiiicbfpcfgdaaGreatDoorLxm
import Derived.Test.YtbiiicbfpcfgdaaGreatDoorItq
namespace Go.Proofs.YtbiiicbfpcfgdaaGreatDoor
open Go.RowKit
set_option maxRecDepth 100000
set_option maxHeartbeats 16000000
set_option linter.unusedVariables false
namespace Pl
def spl (l:List Tok):Nat->Nat->Int->Nat->List (Nat × Nat)
 |0,i,_,fr=>if fr<i then [(fr,i)] else []
 |m+1,i,o,fr=>if o+br (tkT (tq l i))<=0/\isSep (tkT (tq l i))=true then (if fr<i then (fr,i)::spl l m (i+1) (o+br (tkT (tq l i))) (i+1) else spl l m (i+1) (o+br (tkT (tq l i))) (i+1)) else spl l m (i+1) (o+br (tkT (tq l i))) fr
def pieceT (l:List Tok) (q:Nat × Nat):List Tok:=(l.take q.2).drop q.1
theorem piece_succ {l:List Tok}{fr i:Nat}(hi:i<l.length) (hf:fr<=i):pieceT l (fr,i+1)=pieceT l (fr,i)++[tq l i]:=by
 have h1:l.take (i+1)=l.take i++[tq l i]:=by
  rw[List.take_add_one,List.getElem?_eq_getElem hi]
  unfold tq
  rw[List.getElem?_eq_getElem hi]
  rfl
 unfold pieceT
 simp only
 rw[h1,List.drop_append_of_le_length (by simp;omega)]
theorem piece_nil {l:List Tok}{fr i:Nat}(h:i<=fr):pieceT l (fr,i)=[]:=by
 unfold pieceT
 simp only
 rw[List.drop_eq_nil_of_le (by simp;omega)]
theorem piece_len {l:List Tok}{fr i:Nat}(h:i<=l.length):(pieceT l (fr,i)).length=i-fr:=by
 unfold pieceT;simp;omega
theorem spl_rsp (l:List Tok):∀(m i:Nat) (o:Int) (fr:Nat),m=l.length-i->i<=l.length->fr<=i->rsp o ((pieceT l (fr,i)).map tkT).reverse ((l.drop i).map tkT)=(spl l m i o fr).map fun q=>(pieceT l q).map tkT
 |0,i,o,fr,hm,hi,hf=>by
  rw[List.drop_eq_nil_of_le oM]
  simp only[List.map_nil,rsp,spl]
  have hlen:=piece_len (l:=l) (fr:=fr) hi
  by_cases h:fr<i
  ·rw[if_neg (by intro e;have:=congrArg List.length e;simp at this;rw[this] at hlen;simp at hlen;omega),if_pos h]
   simp
  ·rw[if_pos (by rw[piece_nil oM];rfl),if_neg h]
   rfl
 |m+1,i,o,fr,hm,hi,hf=>by
  have hlt:i<l.length:=by omega
  have hlen:=piece_len (l:=l) (fr:=fr) hi
  have hd:l.drop i=tq l i::l.drop (i+1):=by
   rw[List.drop_eq_getElem_cons hlt]
   unfold tq
   rw[List.getElem?_eq_getElem hlt]
   rfl
  rw[hd,List.map_cons,rsp,spl]
  have hsep:=spl_rsp l m (i+1) (o+br (tkT (tq l i))) (i+1) oM hlt (Nat.le_refl _)
  rw[piece_nil (Nat.le_refl _)] at hsep
  simp only[List.map_nil,List.reverse_nil] at hsep
  split
  ·by_cases h:fr<i
   ·rw[if_neg (by intro e;have:=congrArg List.length e;simp at this;rw[this] at hlen;simp at hlen;omega),if_pos h,hsep]
    simp
   rw[if_pos (by rw[piece_nil oM];rfl),if_neg h,hsep]
  have h2:=spl_rsp l m (i+1) (o+br (tkT (tq l i))) fr oM hlt oM
  rw[piece_succ hlt hf,List.map_append,List.reverse_append] at h2
  exact h2
theorem split_T (l:List Tok):rsp 0 [] (l.map tkT)=(spl l l.length 0 0 0).map fun q=>(pieceT l q).map tkT:=by
 have:=spl_rsp l l.length 0 0 0 rfl (Nat.zero_le _) (Nat.le_refl _)
 rw[piece_nil (Nat.le_refl _)] at this
 simpa using this
theorem spl_in (l:List Tok):∀(m i:Nat) (o:Int) (fr:Nat),m=l.length-i->i<=l.length->fr<=i->∀q∈spl l m i o fr,fr<=q.1/\q.1<q.2/\q.2<=l.length
 |0,i,o,fr,hm,hi,hf,q,hq=>by
  rw[spl] at hq
  split at hq
  ·simp at hq;subst hq;simp only;omega
  ·simp at hq
 |m+1,i,o,fr,hm,hi,hf,q,hq=>by
  rw[spl] at hq
  split at hq
  ·split at hq
   ·rcases List.mem_cons.1 hq with rfl|hq
    ·simp only;omega
    have:=spl_in l m (i+1) _ (i+1) oM oM (Nat.le_refl _) q hq;omega
   have:=spl_in l m (i+1) _ (i+1) oM oM (Nat.le_refl _) q hq;omega
  exact spl_in l m (i+1) _ fr oM oM oM q hq
theorem spl_len (l:List Tok):∀(m i:Nat) (o:Int) (fr:Nat),(spl l m i o fr).length<=m+1
 |0,i,o,fr=>by rw[spl];split <;> simp
 |m+1,i,o,fr=>by
  rw[spl]
  have h1:=spl_len l m (i+1) (o+br (tkT (tq l i))) (i+1)
  have h2:=spl_len l m (i+1) (o+br (tkT (tq l i))) fr
  split
  ·split
   ·simp;omega
   omega
  omega
theorem br_is {l:List Tok}(hl:∀t∈l,kOk t.k) {k:Nat}(h:k<l.length):br (tkT (tq l k))=(if isV l k ⟨#[123]⟩=true then 1 else 0)-(if isV l k ⟨#[125]⟩=true then 1 else 0)/\¬(isV l k ⟨#[123]⟩=true/\isV l k ⟨#[125]⟩=true):=by
 have a0:isV l k ⟨#[123]⟩=decide (sgTx (tkT (tq l k))=[123]):=isV_in hl (c:=[123]) (by decide) h
 have a1:isV l k ⟨#[125]⟩=decide (sgTx (tkT (tq l k))=[125]):=isV_in hl (c:=[125]) (by decide) h
 rw[a0,a1]
 cases tkT (tq l k) <;> simp[sgTx,br]
def tOk (t:Tok):Prop:=kOk t.k/\(isSep (tkT t)=true ↔ t.k=59)
end Pl
def Qk (b off cap:Nat) (w:World) (x:List Value) (q:Nat × Nat) (f:List Nat):Prop:=x=[.slice (some ⟨b,off+q.1 * 4,none⟩) (q.2-q.1) (cap-q.1)]/\f=[]
theorem Qk.lives (b off cap:Nat):Lives (Qk b off cap):=⟨fun _ _ _ _ _ h _=>h⟩
namespace Pl
def fcol (l:List Tok):Nat->Option Nat
 |0=>none
 |k+1=>match fcol l k with
  |some c=>some c
  |none=>if isV l k ⟨#[58]⟩=true then some k else none
theorem col_is {l:List Tok}(hl:∀t∈l,kOk t.k) {k:Nat}(h:k<l.length):isV l k ⟨#[58]⟩=true ↔ tkT (tq l k)=.col:=by
 have a0:isV l k ⟨#[58]⟩=decide (sgTx (tkT (tq l k))=[58]):=isV_in hl (c:=[58]) (by decide) h
 rw[a0]
 cases tkT (tq l k) <;> simp[sgTx]
theorem fcol_spec {l:List Tok}(hl:∀t∈l,kOk t.k):∀k,k<=l.length->match fcol l k with | none=>∀i,i<k->tkT (tq l i) ≠ .col | some c=>c<k/\tkT (tq l c)=.col/\∀i,i<c->tkT (tq l i) ≠ .col
 |0,_=>by intro i hi;omega
 |k+1,h=>by
  have ih:=fcol_spec hl k oM
  rw[fcol]
  cases hf:fcol l k with
  |some c =>
   rw[hf] at ih
   exact⟨by omega,ih.2⟩
  |none =>
   rw[hf] at ih
   simp only
   by_cases hc:isV l k ⟨#[58]⟩=true
   ·rw[if_pos hc]
    exact⟨by omega,(col_is hl oM).1 hc,ih⟩
   rw[if_neg hc]
   intro i hi
   by_cases e:i=k
   ·subst e;exact fun h2=>hc ((col_is hl oM).2 h2)
   exact ih i oM
theorem cutc_no:∀a:List T,(∀t∈a,t ≠ .col)->cutc a=none
 |[],_=>rfl
 |t::a,h=>by
  have h1:=h t sI
  have h2:=cutc_no a (fun x hx=>h x (by simp[hx]))
  cases t <;> simp_all[cutc]
theorem cutc_at:∀(a b:List T),(∀t∈a,t ≠ .col)->cutc (a++.col::b)=some (a,b)
 |[],b,_=>rfl
 |t::a,b,h=>by
  have h1:=h t sI
  have h2:=cutc_at a b (fun x hx=>h x (by simp[hx]))
  cases t <;> simp_all[cutc]
theorem mem_tq {l:List Tok}{k:Nat}{t:T}(hk:k<=l.length) (h:t∈(l.take k).map tkT):∃i,i<k/\tkT (tq l i)=t:=by
 obtain⟨x,hx,rfl⟩:=List.mem_map.1 h
 obtain⟨i,hi,e⟩:=List.mem_iff_getElem.1 hx
 simp at hi
 refine⟨i,by omega,?_⟩
 unfold tq
 rw[List.getElem?_eq_getElem oM]
 simp at e
 rw[<- e]
 rfl
theorem cutc_T {l:List Tok}(hl:∀t∈l,kOk t.k):cutc (l.map tkT)=match fcol l l.length with | none=>none | some c=>some ((l.take c).map tkT,(l.drop (c+1)).map tkT):=by
 have h:=fcol_spec hl l.length (Nat.le_refl _)
 cases hf:fcol l l.length with
 |none =>
  rw[hf] at h
  simp only
  refine cutc_no _ (fun t ht=>?_)
  obtain⟨i,hi,e⟩:=mem_tq (Nat.le_refl _) (by rw[List.take_length];exact ht)
  rw[<- e]
  exact h i hi
 |some c =>
  rw[hf] at h
  obtain⟨h1,h2,h3⟩:=h
  simp only
  have e:l.map tkT=(l.take c).map tkT++.col::(l.drop (c+1)).map tkT:=by
   have:l=l.take c++(tq l c::l.drop (c+1)):=by
    have hd:l.drop c=tq l c::l.drop (c+1):=by
     rw[List.drop_eq_getElem_cons h1]
     unfold tq
     rw[List.getElem?_eq_getElem h1]
     rfl
    rw[<- hd,List.take_append_drop]
   have h4:=congrArg (List.map tkT) this
   rw[List.map_append,List.map_cons,h2] at h4
   exact h4
  rw[e]
  refine cutc_at _ _ (fun t ht=>?_)
  obtain⟨i,hi,e⟩:=mem_tq oM ht
  rw[<- e]
  exact h3 i hi
theorem rbd_last (n:Nat) (p:List T):rbd n [p]=match cutc p with | some _=>none | none=>(rexpr n p).map fun e=>([],e):=by
 rw[rbd]
 cases cutc p with
 |some _=>rfl
 |none=>cases rexpr n p <;> rfl
theorem rbd_cons (n:Nat) (p q:List T) (ps:List (List T)):rbd n (p::q::ps)=match cutc p with | none=>none | some (a,b)=>match rexpr n a,rexpr n b,rbd n (q::ps) with | some x,some y,some (gs,e)=>some ((x,y)::gs,e) | _,_,_=>none:=by
 rw[rbd] <;> first | rfl | (intro h;cases h)
def gv (g:E × E):Gv:=⟨g.1.code,g.2.code⟩
end Pl
structure Bo (w:World) (p:Nat) (wr:World) (kd:Int) (nm:ByteArray) (ac:Option Addr) (nc cc:Nat) (ag:Option Addr) (ng cg:Nat) (ok fi:Bool):Prop where
 b:Below w.heap.size w wr
 r0:wr.cell? ⟨w.heap.size,0,none⟩=some (.int .i64 0)
 r1:wr.cell? ⟨w.heap.size,1,none⟩=some (.string ⟨#[]⟩)
 r2:wr.cell? ⟨w.heap.size,2,none⟩=some (.slice none 0 0)
 r3:wr.cell? ⟨w.heap.size,3,none⟩=some (.slice none 0 0)
 r4:wr.cell? ⟨w.heap.size,4,none⟩=some (.bool false)
 r5:wr.cell? ⟨w.heap.size,5,none⟩=some (.bool false)
 rf:∀j,wr.frozen? ⟨w.heap.size,j,none⟩=false
 ge:w.heap.size<p
 lt:p<wr.heap.size
 c0:wr.cell? ⟨p,0,none⟩=some (.int .i64 kd)
 c1:wr.cell? ⟨p,1,none⟩=some (.string nm)
 c2:wr.cell? ⟨p,2,none⟩=some (.slice ac nc cc)
 c3:wr.cell? ⟨p,3,none⟩=some (.slice ag ng cg)
 c4:wr.cell? ⟨p,4,none⟩=some (.bool ok)
 c5:wr.cell? ⟨p,5,none⟩=some (.bool fi)
 cf:∀j,wr.frozen? ⟨p,j,none⟩=false
section
variable {w:World} {p:Nat} {wr wr':World} {kd:Int} {nm:ByteArray} {ac:Option Addr} {nc cc:Nat} {ag:Option Addr} {ng cg:Nat} {ok fi:Bool}
theorem Bo.same (h:Bo w p wr kd nm ac nc cc ag ng cg ok fi) (hb:Below w.heap.size w wr') (h1:wr'.heap[w.heap.size]? = wr.heap[w.heap.size]?) (h2:wr'.heap[p]? = wr.heap[p]?) (hs:wr.heap.size<=wr'.heap.size):Bo w p wr' kd nm ac nc cc ag ng cg ok fi:=by
 have g1 (j:Nat):wr'.cell? ⟨w.heap.size,j,none⟩=wr.cell? ⟨w.heap.size,j,none⟩:=World.cell?_of_block h1
 have g2 (j:Nat):wr'.cell? ⟨p,j,none⟩=wr.cell? ⟨p,j,none⟩:=World.cell?_of_block h2
 exact⟨hb,(g1 0).trans h.r0,(g1 1).trans h.r1,(g1 2).trans h.r2,(g1 3).trans h.r3,(g1 4).trans h.r4,(g1 5).trans h.r5,fun j=>(World.frozen?_of_block (a:=⟨w.heap.size,j,none⟩) h1).trans (h.rf j),h.ge,Nat.lt_of_lt_of_le h.lt hs,(g2 0).trans h.c0,(g2 1).trans h.c1,(g2 2).trans h.c2,(g2 3).trans h.c3,(g2 4).trans h.c4,(g2 5).trans h.c5,fun j=>(World.frozen?_of_block (a:=⟨p,j,none⟩) h2).trans (h.cf j)⟩
theorem Bo.keep (h:Bo w p wr kd nm ac nc cc ag ng cg ok fi) (hb:Below wr.heap.size wr wr'):Bo w p wr' kd nm ac nc cc ag ng cg ok fi :=
 h.same (h.b.trans (hb.mono (by have:=h.ge;have:=h.lt;omega))) (hb.block _ (by have:=h.ge;have:=h.lt;omega)) (hb.block _ h.lt) hb.size
theorem Bo.grown (h:Bo w p wr kd nm ac nc cc ag ng cg ok fi) {r:Option Nat}(hg:wr.grownBy wr' r) (hr:∀b,r=some b->w.heap.size<b/\b ≠ p):Bo w p wr' kd nm ac nc cc ag ng cg ok fi :=
 h.same (h.b.grown hg (by have:=h.ge;have:=h.lt;omega) (fun k hk=>Nat.le_of_lt (hr k hk).1)) (hg.block _ (by have:=h.ge;have:=h.lt;omega) (fun e=>by have:=(hr _ e.symm).1;omega)) (hg.block _ h.lt (fun e=>(hr _ e.symm).2 rfl)) hg.size
theorem Bo.put (h:Bo w p wr kd nm ac nc cc ag ng cg ok fi) (j:Nat) (v:Value):wr.grownBy (wr.setCell ⟨p,j,none⟩ v) (some p)/\Below w.heap.size w (wr.setCell ⟨p,j,none⟩ v)/\(∀i,(wr.setCell ⟨p,j,none⟩ v).cell? ⟨w.heap.size,i,none⟩=wr.cell? ⟨w.heap.size,i,none⟩)/\(∀i,¬j=i->(wr.setCell ⟨p,j,none⟩ v).cell? ⟨p,i,none⟩=wr.cell? ⟨p,i,none⟩) :=
 ⟨grown_one p j v (World.grownBy.refl _ _),h.b.setCell (Nat.le_of_lt h.ge) _,fun i=>World.cell?_setCell_far _ _ _ _ (by have:=h.ge;show p ≠ w.heap.size;omega),fun i hi=>World.cell?_setCell_other _ _ _ _ (by intro e;cases e;exact hi rfl)⟩
theorem Bo.set2 (h:Bo w p wr kd nm ac nc cc ag ng cg ok fi) (ac':Option Addr) (nc' cc':Nat):Bo w p (wr.setCell ⟨p,2,none⟩ (.slice ac' nc' cc')) kd nm ac' nc' cc' ag ng cg ok fi:=by
 obtain⟨_,hb,g1,g2⟩:=h.put 2 (.slice ac' nc' cc')
 exact⟨hb,(g1 0).trans h.r0,(g1 1).trans h.r1,(g1 2).trans h.r2,(g1 3).trans h.r3,(g1 4).trans h.r4,(g1 5).trans h.r5,fun j=>by rw[World.frozen?_setCell];exact h.rf j,h.ge,by simpa using h.lt,(g2 0 oM).trans h.c0,(g2 1 oM).trans h.c1,World.cell?_setCell_same _ _ _ h.c2,(g2 3 oM).trans h.c3,(g2 4 oM).trans h.c4,(g2 5 oM).trans h.c5,fun j=>by rw[World.frozen?_setCell];exact h.cf j⟩
theorem Bo.set3 (h:Bo w p wr kd nm ac nc cc ag ng cg ok fi) (ag':Option Addr) (ng' cg':Nat):Bo w p (wr.setCell ⟨p,3,none⟩ (.slice ag' ng' cg')) kd nm ac nc cc ag' ng' cg' ok fi:=by
 obtain⟨_,hb,g1,g2⟩:=h.put 3 (.slice ag' ng' cg')
 exact⟨hb,(g1 0).trans h.r0,(g1 1).trans h.r1,(g1 2).trans h.r2,(g1 3).trans h.r3,(g1 4).trans h.r4,(g1 5).trans h.r5,fun j=>by rw[World.frozen?_setCell];exact h.rf j,h.ge,by simpa using h.lt,(g2 0 oM).trans h.c0,(g2 1 oM).trans h.c1,(g2 2 oM).trans h.c2,World.cell?_setCell_same _ _ _ h.c3,(g2 4 oM).trans h.c4,(g2 5 oM).trans h.c5,fun j=>by rw[World.frozen?_setCell];exact h.cf j⟩
theorem Bo.set4 (h:Bo w p wr kd nm ac nc cc ag ng cg ok fi) (ok':Bool):Bo w p (wr.setCell ⟨p,4,none⟩ (.bool ok')) kd nm ac nc cc ag ng cg ok' fi:=by
 obtain⟨_,hb,g1,g2⟩:=h.put 4 (.bool ok')
 exact⟨hb,(g1 0).trans h.r0,(g1 1).trans h.r1,(g1 2).trans h.r2,(g1 3).trans h.r3,(g1 4).trans h.r4,(g1 5).trans h.r5,fun j=>by rw[World.frozen?_setCell];exact h.rf j,h.ge,by simpa using h.lt,(g2 0 oM).trans h.c0,(g2 1 oM).trans h.c1,(g2 2 oM).trans h.c2,(g2 3 oM).trans h.c3,World.cell?_setCell_same _ _ _ h.c4,(g2 5 oM).trans h.c5,fun j=>by rw[World.frozen?_setCell];exact h.cf j⟩
theorem Bo.set5 (h:Bo w p wr kd nm ac nc cc ag ng cg ok fi) (fi':Bool):Bo w p (wr.setCell ⟨p,5,none⟩ (.bool fi')) kd nm ac nc cc ag ng cg ok fi':=by
 obtain⟨_,hb,g1,g2⟩:=h.put 5 (.bool fi')
 exact⟨hb,(g1 0).trans h.r0,(g1 1).trans h.r1,(g1 2).trans h.r2,(g1 3).trans h.r3,(g1 4).trans h.r4,(g1 5).trans h.r5,fun j=>by rw[World.frozen?_setCell];exact h.rf j,h.ge,by simpa using h.lt,(g2 0 oM).trans h.c0,(g2 1 oM).trans h.c1,(g2 2 oM).trans h.c2,(g2 3 oM).trans h.c3,(g2 4 oM).trans h.c4,World.cell?_setCell_same _ _ _ h.c5,fun j=>by rw[World.frozen?_setCell];exact h.cf j⟩
end
theorem grown_box6 (w:World) (p:Nat) (v0 v1 v2 v3 v4 v5:Value):w.grownBy ((((((w.setCell ⟨p,0,none⟩ v0).setCell ⟨p,1,none⟩ v1).setCell ⟨p,2,none⟩ v2).setCell ⟨p,3,none⟩ v3).setCell ⟨p,4,none⟩ v4).setCell ⟨p,5,none⟩ v5) (some p) :=
 grown_one p 5 _ (grown_one p 4 _ (grown_one p 3 _ (grown_one p 2 _ (grown_one p 1 _ (grown_one p 0 _ (World.grownBy.refl w _))))))
def Qx (w:World) (x:List Value) (a:Unit) (f:List Nat):Prop:=(∃a1 n1 c1 a2 n2 c2,x=[.slice a1 n1 c1,.slice a2 n2 c2])/\f=[]
theorem Qx.lives:Lives Qx:=⟨fun _ _ _ _ _ h _=>h⟩
theorem RowQ.forget {w:World}:∀{xs:List Value}{c:List Pl.Gv}{F:List Nat},RowQ Qg w xs c F->RowQ Qx w xs (c.map fun _=>()) []
 |xs,[],F,h=>⟨h.1,rfl⟩
 |xs,a::c,F,h=>by
  obtain⟨x,xs',f,F',rfl,rfl,h1,h2⟩:=h
  obtain⟨v1,v2,f1,f2,rfl,_,k1,k2⟩:=h1
  obtain⟨a1,c1,rfl⟩:=k1.slice
  obtain⟨a2,c2,rfl⟩:=k2.slice
  exact⟨_,xs',[],[],rfl,rfl,⟨⟨_,_,_,_,_,_,rfl⟩,rfl⟩,h2.forget⟩
theorem Own.forget {w:World}{v:Value}{c:List Pl.Gv}{F:List Nat}(h:OwG w v c F):∃F',Own 57 2 Qx w v (c.map fun _=>()) F'/\∀b∈F',b∈F:=by
 obtain⟨xs,fp,rfl,ho,hq,hn⟩:=h
 refine⟨v.ownBlock.toList,⟨xs,[],by simp,by rw[List.length_map];exact ho,hq.forget,?_⟩,fun b hb=>List.mem_append_left _ hb⟩
 rw[List.nodup_append] at hn
 exact hn.1
theorem tSpw1 {P:Prop}(h:P:=by
 rw[show (o+((if false=true then 1 else 0)-(if true=true then 1 else 0)):Int)=o-1 by simp <;> omega,if_neg (fun h=>hsp h.2)] at HQ'
 go_wp2_with (first | (go_at_call 31;with_reducible refine(K1.out _ HH.out.2.2 oM).mono ?_;rintro e w2 ⟨rfl,rfl⟩) | (go_at_call 31;with_reducible refine(K2.out _ HH.out.2.2 oM).mono ?_;rintro e w2 ⟨rfl,rfl⟩))
 go_roundw
 case rel=>exact⟨i+1,fr,o-1,dn,F,by omega,by omega,by go_num,by go_num,by go_num,by omega,by omega,by first | exact HH | (rw[hdn];exact HH),⟨fun h=>HQ',fun h=>by omega⟩⟩
 case measure=>simp[intOf] <;> omega
 ):P:=h
theorem tSpw2 {P:Prop}(h:P:=by
 rw[show (o+((if true=true then 1 else 0)-(if false=true then 1 else 0)):Int)=o+1 by simp <;> omega,if_neg (fun h=>hsp h.2)] at HQ'
 go_wp2_with (first | (go_at_call 31;with_reducible refine(K1.out _ HH.out.2.2 oM).mono ?_;rintro e w2 ⟨rfl,rfl⟩) | (go_at_call 31;with_reducible refine(K2.out _ HH.out.2.2 oM).mono ?_;rintro e w2 ⟨rfl,rfl⟩))
 go_roundw
 case rel=>exact⟨i+1,fr,o+1,dn,F,by omega,by omega,by go_num,by go_num,by go_num,by omega,by omega,by first | exact HH | (rw[hdn];exact HH),⟨fun h=>HQ',fun h=>by omega⟩⟩
 case measure=>simp[intOf] <;> omega
 ):P:=h
theorem tSpw3 {P:Prop}(h:P:=by
 go_wp2_with (first | (go_at_call 31;with_reducible refine(K1.out _ HH.out.2.2 oM).mono ?_;rintro e w2 ⟨rfl,rfl⟩) | (go_at_call 31;with_reducible refine(K2.out _ HH.out.2.2 oM).mono ?_;rintro e w2 ⟨rfl,rfl⟩))
 go_roundw
 case rel=>exact⟨i+1,fr,o,dn,F,by omega,by omega,by go_num,by go_num,by go_num,by omega,by omega,by first | exact HH | (rw[hdn];exact HH),⟨fun h=>HQ',fun h=>by omega⟩⟩
 case measure=>simp[intOf] <;> omega
 ):P:=h
theorem l3Split_any (l:List Pl.Tok) (b off cap:Nat) (w:World) (hl:l.length<=1048576) (hcap:l.length<=cap) (hcp:cap<=9223372036854775807) (hk:∀t∈l,Pl.tOk t) (hR:RdK w.heap.size w (some ⟨b,off,none⟩) l) :
  Calls Tryz.prog 13 #[.slice (some ⟨b,off,none⟩) l.length cap] w fun e w'=>∃v F,e=.returned v/\Below w.heap.size w w'/\Own 34 1 (Qk b off cap) w' v (Pl.spl l l.length 0 0 0) F/\Inb w.heap.size w' F:=by
 have KI:Hid (∀(j:Nat) (text:ByteArray) (W:World),Below w.heap.size w W->j<=1048576->Calls Tryz.prog 31 #[.slice (some ⟨b,off,none⟩) l.length cap,.int .i64 j,.string text] W fun e w'=>e=.returned (.bool (Pl.isV l j text))/\w'=W):=fun j text W hW h1 =>
  l3Is_any l _ cap j text W hl ⟨by omega,by omega⟩ ((hR.keep hW).up hW.size)
 have HT:Hid (∀k,k<l.length->∀W,Below w.heap.size w W->W.cell? ⟨b,off+k * 4,none⟩=some (.int .u8 (Pl.tq l k).k)):=fun k hk W hW=>by
  rcases hR with rfl|⟨b',off',hbw,e,hc⟩
  ·simp at hk
  cases e
  have:=hc k (Pl.tq l k) (by unfold Pl.tq;rw[List.getElem?_eq_getElem hk];rfl)
  exact bcell hW hbw this.1
 have HS:Hid (∀j,j<l.length->Pl.br (Pl.tkT (Pl.tq l j))=(if Pl.isV l j ⟨#[123]⟩=true then 1 else 0)-(if Pl.isV l j ⟨#[125]⟩=true then 1 else 0)/\¬(Pl.isV l j ⟨#[123]⟩=true/\Pl.isV l j ⟨#[125]⟩=true)/\(Pl.isSep (Pl.tkT (Pl.tq l j))=true ↔ (Pl.tq l j).k=59)):=fun j hj=>⟨(Pl.br_is (fun t ht=>(hk t ht).1) hj).1,(Pl.br_is (fun t ht=>(hk t ht).1) hj).2,(hk _ (Pl.tq_mem hj)).2⟩
 have HNS:Hid (∀j,j<l.length->Pl.isV l j ⟨#[123]⟩=true\/Pl.isV l j ⟨#[125]⟩=true->¬(Pl.tq l j).k=59):=fun j hj h e=>by
  have a0:Pl.isV l j ⟨#[123]⟩=decide (Pl.sgTx (Pl.tkT (Pl.tq l j))=[123]):=Pl.isV_in (fun t ht=>(hk t ht).1) (c:=[123]) (by decide) hj
  have a1:Pl.isV l j ⟨#[125]⟩=decide (Pl.sgTx (Pl.tkT (Pl.tq l j))=[125]):=Pl.isV_in (fun t ht=>(hk t ht).1) (c:=[125]) (by decide) hj
  have h59:=(hk _ (Pl.tq_mem hj)).2.2 e
  rw[a0,a1] at h
  revert h h59
  cases Pl.tkT (Pl.tq l j) <;> simp[Pl.isSep,Pl.sgTx]
 have HU:Hid (∀j o fr,j<l.length->Pl.spl l (l.length-j) j o fr=if o+Pl.br (Pl.tkT (Pl.tq l j))<=0/\Pl.isSep (Pl.tkT (Pl.tq l j))=true then (if fr<j then (fr,j)::Pl.spl l (l.length-(j+1)) (j+1) (o+Pl.br (Pl.tkT (Pl.tq l j))) (j+1) else Pl.spl l (l.length-(j+1)) (j+1) (o+Pl.br (Pl.tkT (Pl.tq l j))) (j+1)) else Pl.spl l (l.length-(j+1)) (j+1) (o+Pl.br (Pl.tkT (Pl.tq l j))) fr):=fun j o fr hj=>by
  rw[show l.length-j=(l.length-(j+1))+1 by omega,Pl.spl]
 have HE:Hid (∀o fr,Pl.spl l (l.length-l.length) l.length o fr=if fr<l.length then [(fr,l.length)] else []):=fun o fr=>by rw[Nat.sub_self,Pl.spl]
 have HLEN:Hid ((Pl.spl l l.length 0 0 0).length<=l.length+1):=Pl.spl_len l _ _ _ _
 have B0:Hid (Below w.heap.size w (w.alloc (.cells #[] 34))):=(Below.refl _ _).alloc (Nat.le_refl _) _
 clear hR hk
 generalize hQ:Pl.spl l l.length 0 0 0=Q at *
 generalize hL:l.length=n at *
 have H0:Hid (Q=[]++Pl.spl l (n-0) 0 0 0):=by show _=_;rw[Nat.sub_zero];exact hQ.symm
 clear hQ
 go_enter Tryz.func13,Tryz.ntmps13
 go_wp2_with fail
 go_loopw [3,4,5,6] (fun v3 v4 v5 v6 wr=>∃(i fr:Nat) (o:Int) (dn:List (Nat × Nat)) (F:List Nat),i<=n+1/\fr<=i/\v6=.int .i64 i/\v4=.int .i64 fr/\v5=.int .i64 o/\-(i:Int)<=o/\o<=i/\Hid (Own 34 1 (Qk b off cap) wr v3 dn F/\Inb w.heap.size wr F/\Below w.heap.size w wr)/\Hid ((i<=n->Q=dn++Pl.spl l (n-i) i o fr)/\(i=n+1->Q=dn))) (fun _ _ _ v6 _=>n+2-(intOf v6).toNat)
 case atStart=>exact⟨0,0,0,[],[w.heap.size],by omega,Nat.le_refl _,rfl,rfl,rfl,by omega,by omega,⟨Own.emp _ _ rfl,fun x hx=>by simp at hx ⊢;omega,B0.out⟩,⟨fun _=>H0.out,fun h=>by omega⟩⟩
 rename World=>wr
 obtain⟨i,fr,o,dn,F,hi,hfr,rfl,rfl,rfl,ho1,ho2,HH,HQ⟩:=hrel
 obtain⟨ao3,cap3,e3⟩:=HH.out.1.slice
 have hdl:dn.length<=n+1:=by
  have h1:=HLEN.out
  by_cases h:i=n+1
  ·rw[HQ.out.2 h] at h1;exact h1
  rw[HQ.out.1 oM] at h1;simp at h1;omega
 generalize hdn:dn.length=dl at e3 hdl
 subst e3
 have hsz:=HH.out.2.2.size
 by_cases hx:i=n+1
 ·subst hx
  have HQ':=zH (HQ.out.2 rfl)
  have HF:Hid (Own 34 1 (Qk b off cap) wr (.slice ao3 dl cap3) Q F):=by show Own _ _ _ _ _ _ _;rw[HQ'.out];exact HH.out.1
  clear HQ
  go_wp2_with fail
  refine bodyPost_ret (v:=.slice ao3 dl cap3) (by simp[results,Tryz.results13,go_sem]) rfl ⟨_,F,rfl,HH.out.2.2,HF.out,HH.out.2.1⟩
 by_cases hin:i=n
 ·subst hin
  have HQ':=HQ.out.1 (Nat.le_refl _)
  rw[HE.out] at HQ'
  by_cases hf:fr<i
  rotate_left 1
  ·rw[if_neg hf,List.append_nil] at HQ'
   go_wp2_with (first | (go_at_call 31;with_reducible refine(K1.out _ HH.out.2.2).mono ?_;rintro e w2 ⟨rfl,rfl⟩) | (go_at_call 31;with_reducible refine(K2.out _ HH.out.2.2).mono ?_;rintro e w2 ⟨rfl,rfl⟩))
   go_roundw
   case rel=>exact⟨i+1,i+1,o,dn,F,by omega,by omega,by go_num,by go_num,by go_num,by omega,by omega,by first | exact HH | (rw[hdn];exact HH),⟨fun h=>by omega,fun _=>HQ'⟩⟩
   simp[intOf] <;> omega
  rw[if_pos hf] at HQ'
  have hcapf:fr<=cap:=by omega
  go_wp2_with (first | (at_builtin;refine wpList_append_o el32 (Qk.lives b off cap) _ rfl _ _ rfl _ _ _ _ _ rfl rfl dn [(fr,i)] F [] [.slice (some ⟨b,off+fr * 4,none⟩) (i-fr) (cap-fr)] w.heap.size ?ho ?hi ?hy ?hG ?hn ?hd rfl rfl ?hc ?h1 ?hbd ?hB ?_) | (go_at_call 31;with_reducible refine(K1.out _ HH.out.2.2).mono ?_;rintro e w2 ⟨rfl,rfl⟩) | (go_at_call 31;with_reducible refine(K2.out _ HH.out.2.2).mono ?_;rintro e w2 ⟨rfl,rfl⟩))
  case ho=>exact HH.out.1.below (Qk.lives b off cap) HH.out.2.1 ((Below.refl _ _).alloc (Nat.le_refl _) _) (Nat.le_refl _)
  case hi=>exact HH.out.2.1.up (Nat.le_refl _) sI
  case hy=>exact RowQ.one ⟨rfl,rfl⟩
  case hG=>exact Inb.nil _ _
  case hn=>exact List.nodup_nil
  case hd=>simp
  case hc=>exact cells_new (l:=[.slice (some ⟨b,off+fr * 4,none⟩) (i-fr) (cap-fr)]) rfl
  case h1=>simp[Value.oneCell']
  case hbd=>simp;omega
  case hB=>simp;omega
  intro v9 w9 F9 ho9 hi9 hg9 _ _
  have B9:Below w.heap.size w w9:=(HH.out.2.2.alloc hsz _).grown hg9 (by simp;omega) (fun q hq=>(HH.out.2.1 q (HH.out.1.lt q hq).1).1)
  have H9:Hid (Own 34 1 (Qk b off cap) w9 v9 (dn++[(fr,i)]) F9/\Inb w.heap.size w9 F9/\Below w.heap.size w w9):=⟨ho9,hi9,B9⟩
  clear ho9 hi9 hg9 HH
  go_wp2_with fail
  go_roundw
  case rel=>exact⟨i+1,i+1,o,dn++[(fr,i)],F9,by omega,Nat.le_refl _,by go_num,by go_num,by go_num,by omega,by omega,H9,⟨fun h=>by omega,fun _=>HQ'⟩⟩
  simp[intOf] <;> omega
 have hlt:i<n:=by omega
 have HQ':=HQ.out.1 oM
 rw[HU.out i o fr hlt] at HQ'
 obtain⟨hs1,hs2,hs3⟩:=HS.out i hlt
 have hns:=HNS.out i hlt
 rw[hs1] at HQ'
 have d0:=HT.out i hlt wr HH.out.2.2
 have K1:=zH (KI.out i ⟨#[123]⟩)
 have K2:=zH (KI.out i ⟨#[125]⟩)
 have hIe:((i:Int) == (n:Int))=false:=by simp;omega
 clear HU HE HLEN H0 HS HNS HT KI HQ
 generalize Pl.isV l i ⟨#[123]⟩=c1 at *
 generalize Pl.isV l i ⟨#[125]⟩=c2 at *
 generalize Pl.isSep (Pl.tkT (Pl.tq l i))=sp at *
 generalize (Pl.tq l i).k=kk at *
 cases c1
 rotate_left 1
 ·cases c2
  ·have hk59:¬kk=59:=hns sI
   have hkb:(kk == 59)=false:=by simpa using hk59
   have hsp:¬sp=true:=fun h=>hk59 (hs3.1 h)
   by_cases hle:o+1<=0
   ·exact tSpw2
   exact tSpw2
  exact absurd ⟨rfl,rfl⟩ hs2
 cases c2
 rotate_left 1
 ·have hk59:¬kk=59:=hns sI
  have hkb:(kk == 59)=false:=by simpa using hk59
  have hsp:¬sp=true:=fun h=>hk59 (hs3.1 h)
  by_cases hle:o-1<=0
  ·exact tSpw1
  exact tSpw1
 have ed:(o+((if false=true then 1 else 0)-(if false=true then 1 else 0)):Int)=o:=by simp
 rw[ed] at HQ'
 by_cases hle:o<=0
 rotate_left 1
 ·rw[if_neg (fun h=>hle h.1)] at HQ'
  exact tSpw3
 by_cases hk59:kk=59
 rotate_left 1
 ·have hkb:(kk == 59)=false:=by simpa using hk59
  rw[if_neg (fun h=>hk59 (hs3.1 h.2))] at HQ'
  exact tSpw3
 have hsp:sp=true:=hs3.2 hk59
 rw[if_pos ⟨hle,hsp⟩] at HQ'
 subst hk59
 by_cases hf:fr<i
 rotate_left 1
 ·rw[if_neg hf] at HQ'
  go_wp2_with (first | (go_at_call 31;with_reducible refine(K1.out _ HH.out.2.2 oM).mono ?_;rintro e w2 ⟨rfl,rfl⟩) | (go_at_call 31;with_reducible refine(K2.out _ HH.out.2.2 oM).mono ?_;rintro e w2 ⟨rfl,rfl⟩))
  go_roundw
  case rel=>exact⟨i+1,i+1,o,dn,F,by omega,by omega,by go_num,by go_num,by go_num,by omega,by omega,by first | exact HH | (rw[hdn];exact HH),⟨fun h=>HQ',fun h=>by omega⟩⟩
  simp[intOf] <;> omega
 rw[if_pos hf] at HQ'
 have hcapf:fr<=cap:=by omega
 go_wp2_with (first | (at_builtin;refine wpList_append_o el32 (Qk.lives b off cap) _ rfl _ _ rfl _ _ _ _ _ rfl rfl dn [(fr,i)] F [] [.slice (some ⟨b,off+fr * 4,none⟩) (i-fr) (cap-fr)] w.heap.size ?ho ?hi ?hy ?hG ?hn ?hd rfl rfl ?hc ?h1 ?hbd ?hB ?_) | (go_at_call 31;with_reducible refine(K1.out _ HH.out.2.2 oM).mono ?_;rintro e w2 ⟨rfl,rfl⟩) | (go_at_call 31;with_reducible refine(K2.out _ HH.out.2.2 oM).mono ?_;rintro e w2 ⟨rfl,rfl⟩))
 case ho=>exact HH.out.1.below (Qk.lives b off cap) HH.out.2.1 ((Below.refl _ _).alloc (Nat.le_refl _) _) (Nat.le_refl _)
 case hi=>exact HH.out.2.1.up (Nat.le_refl _) sI
 case hy=>exact RowQ.one ⟨rfl,rfl⟩
 case hG=>exact Inb.nil _ _
 case hn=>exact List.nodup_nil
 case hd=>simp
 case hc=>exact cells_new (l:=[.slice (some ⟨b,off+fr * 4,none⟩) (i-fr) (cap-fr)]) rfl
 case h1=>simp[Value.oneCell']
 case hbd=>simp;omega
 case hB=>simp;omega
 intro v9 w9 F9 ho9 hi9 hg9 _ _
 have B9:Below w.heap.size w w9:=(HH.out.2.2.alloc hsz _).grown hg9 (by simp;omega) (fun q hq=>(HH.out.2.1 q (HH.out.1.lt q hq).1).1)
 have H9:Hid (Own 34 1 (Qk b off cap) w9 v9 (dn++[(fr,i)]) F9/\Inb w.heap.size w9 F9/\Below w.heap.size w w9):=⟨ho9,hi9,B9⟩
 clear ho9 hi9 hg9 HH
 go_wp2_with fail
 go_roundw
 case rel=>exact⟨i+1,i+1,o,dn++[(fr,i)],F9,by omega,Nat.le_refl _,by go_num,by go_num,by go_num,by omega,by omega,H9,⟨fun h=>by rw[HQ',List.append_assoc];rfl,fun h=>by omega⟩⟩
 simp[intOf] <;> omega
namespace Pl
theorem hasB_mem {L:List ByteArray}{s:ByteArray}{k:Nat}(h:hasB L s k=true):s∈L:=by
 unfold hasB at h
 obtain⟨x,hx,e⟩:=List.any_eq_true.1 h
 rw[decide_eq_true_eq] at e
 subst e
 exact List.mem_of_mem_take hx
theorem words_op:∀x∈words,x=⟨#[115,101,108,102]⟩\/isSep (sgT x.data.toList)=false:=by decide
theorem signs_op:∀x∈sg18,isSep (sgT x.data.toList)=false:=by decide
theorem tok_ok (s:ByteArray) (i:Nat) (h:¬(tokAt s i).k=120):tOk (tokAt s i):=by
 unfold tokAt at h ⊢
 split
 ·rename_i h1
  rw[if_pos h1] at h
  simp only at h
  by_cases hn:(numS (st1 s i)).2=true
  ·simp only[if_pos hn]
   exact⟨.inl rfl,by unfold tkT;simp[isSep]⟩
  rw[if_neg hn] at h;exact absurd rfl h
 rename_i h1
 rw[if_neg h1] at h
 split
 ·rename_i h2
  rw[if_pos h2] at h
  simp only at h
  unfold wkS at h ⊢
  by_cases a1:20<(st0 s i).size
  ·rw[if_pos a1] at h;exact absurd rfl h
  rw[if_neg a1] at h ⊢
  by_cases a2:st0 s i=⟨#[115,101,108,102]⟩\/(65<=bt (st0 s i) 0/\bt (st0 s i) 0<=90)
  ·rw[if_pos a2]
   exact⟨.inr (.inr (.inl rfl)),by unfold tkT;simp[isSep]⟩
  rw[if_neg a2]
  by_cases a3:hasB words (st0 s i) 17=true
  ·rw[if_pos a3]
   have hm:=hasB_mem a3
   refine⟨.inr (.inr (.inr (.inr rfl))),?_⟩
   have:=(words_op _ hm).resolve_left (fun e=>a2 (.inl e))
   unfold tkT
   simp only
   rw[if_neg (by decide),if_neg (by decide),if_neg (by decide),if_neg (by decide),this]
   simp
  rw[if_neg a3]
  exact⟨.inr (.inl rfl),by unfold tkT;simp[isSep]⟩
 rename_i h2
 rw[if_neg h2] at h
 split
 ·exact⟨.inr (.inr (.inr (.inl rfl))),by unfold tkT;simp[isSep]⟩
 rename_i h3
 rw[if_neg h3] at h
 split
 ·refine⟨.inr (.inr (.inr (.inr rfl))),?_⟩
  unfold tkT
  simp only
  rw[if_neg (by decide),if_neg (by decide),if_neg (by decide),if_neg (by decide)]
  decide
 rename_i h4
 rw[if_neg h4] at h
 simp only at h
 by_cases a3:hasB sg18 (s.extract i (i+1)) 18=true
 ·simp only[if_pos a3]
  have:=signs_op _ (hasB_mem a3)
  refine⟨.inr (.inr (.inr (.inr rfl))),?_⟩
  unfold tkT
  simp only
  rw[if_neg (by decide),if_neg (by decide),if_neg (by decide),if_neg (by decide),this]
  simp
 rw[if_neg a3] at h;exact absurd rfl h
theorem lex_mem (s:ByteArray):∀(n i:Nat) (t:Tok),t∈lexS s n i->∃j,t=tokAt s j
 |0,i,t,h=>by simp[lexS] at h
 |n+1,i,t,h=>by
  rw[lexS] at h
  split at h
  ·simp at h
  split at h
  ·exact lex_mem s n _ t h
  split at h
  ·exact lex_mem s n _ t h
  rcases List.mem_cons.1 h with rfl|h
  ·exact⟨i,rfl⟩
  exact lex_mem s n _ t h
def fb:List Tok->Option Nat
 |[]=>none
 |t::l=>if t.k=120 then some t.pos else fb l
theorem fb_none:∀(l:List Tok),fb l=none->∀t∈l,¬t.k=120
 |[],_,t,ht=>by simp at ht
 |x::l,h,t,ht=>by
  rw[fb] at h
  split at h
  ·cases h
  rename_i hx
  rcases List.mem_cons.1 ht with rfl|ht
  ·exact hx
  exact fb_none l h t ht
theorem lx_ok {s:ByteArray}(h:fb (lxT s 0)=none):∀t∈lxT s 0,tOk t:=fun t ht=>by
 obtain⟨j,rfl⟩:=lex_mem s _ _ t ht
 exact tok_ok s j (fb_none _ h _ ht)
theorem fb_drop (l:List Tok) (i:Nat) (h:i<l.length):fb (l.drop i)=if (tq l i).k=120 then some (tq l i).pos else fb (l.drop (i+1)):=by
 rw[List.drop_eq_getElem_cons h,fb]
 unfold tq
 rw[List.getElem?_eq_getElem h]
 rfl
def prsS (s:ByteArray):List Tv × Int × Int :=
 if 4000<s.size then ([],1,0)
 else match fb (lxT s 0) with
  |some p=>([],2,p)
  |none=>match rall (2 * (lxT s 0).length+1) (rsp 0 [] ((lxT s 0).map tkT)) with
   |none=>([],3,0)
   |some ss=>if ss.all S.fine=true then (ss.map S.tv,0,0) else ([],4,0)
end Pl
namespace Pl
def iTk (t:Tok):Itk:=if t.k=110 then ⟨1,⟨#[]⟩,t.v⟩ else if t.k=119 then ⟨2,t.tx,0⟩ else if t.k=70 then ⟨3,t.tx,0⟩ else if t.k=59 then ⟨4,⟨#[59]⟩,0⟩ else ⟨4,t.tx,0⟩
def sgL:List Int:=[43,45,42,37,124,60,61,62,126,40,41,123,125,58,59,47,92,64,46]
def tkI (x:ByteArray):Itk × Bool :=
 if bt x 0=95\/digI (bt x 0)=true then (⟨1,⟨#[]⟩,(numS x).1⟩,(numS x).2)
 else if lttI (bt x 0)=true then (⟨wk x.data.toList,x,0⟩,decide (¬wk x.data.toList=0))
 else if bt x 0=10 then (⟨4,⟨#[59]⟩,0⟩,true)
 else (⟨4,x,0⟩,decide (bt x 0∈sgL))
def endI (s:ByteArray) (i:Nat):Nat :=
 if bt s i=95\/ldI (bt s i)=true then stre s (s.size-(i+1)) (i+1)
 else if bt s i=58/\i+1<s.size/\bt s (i+1)=61 then i+2 else i+1
theorem bt_ext {s:ByteArray}{i e k:Nat}(h:i+k<e) (he:e<=s.size):bt (s.extract i e) k=bt s (i+k):=by
 unfold bt
 have hd:(s.extract i e).data=s.data.extract i e:=ByteArray.data_extract
 have hs:s.data.size=s.size:=rfl
 have h1:k<(s.data.extract i e).size:=by rw[Array.size_extract];omega
 have h2:i+k<s.data.size:=by omega
 rw[hd,getElem!_pos (s.data.extract i e) k h1,getElem!_pos s.data (i+k) h2,Array.getElem_extract]
theorem stre_in (s:ByteArray):∀n k j,k<=j->j<stre s n k->ldI (bt s j)=true
 |0,k,j,h1,h2=>by simp only[stre] at h2;omega
 |n+1,k,j,h1,h2=>by
  rw[stre] at h2
  split at h2
  ·rename_i hx
   by_cases e:j=k
   ·rw[e];exact hx
   exact stre_in s n (k+1) j oM h2
  omega
theorem stre_all (s:ByteArray):∀n k,(∀j,k<=j->j<k+n->ldI (bt s j)=true)->stre s n k=k+n
 |0,k,_=>rfl
 |n+1,k,h=>by
  rw[stre,if_pos (h k (Nat.le_refl _) oM),stre_all s n (k+1) (fun j h1 h2=>h j oM oM)]
  omega
theorem st1_stre (s:ByteArray) (i:Nat) (hi:i<s.size):stre (st1 s i) ((st1 s i).size-1) 1=(st1 s i).size:=by
 have hz:=st1_size s i hi
 rw[stre_all]
 ·omega
 intro j h1 h2
 have e:st1 s i=s.extract i (stre s (s.size-(i+1)) (i+1)):=rfl
 rw[e,bt_ext (s:=s) (i:=i) (e:=stre s (s.size-(i+1)) (i+1)) (k:=j) oM oM]
 exact stre_in s (s.size-(i+1)) (i+1) (i+j) oM oM
theorem st0_st1 {s:ByteArray}{i:Nat}(hi:i<s.size) (h:lttI (bt s i)=true):st0 s i=st1 s i:=by
 unfold st0 st1
 rw[stre_yes hi (by simp[ldI,h])]
theorem wk_wkS {x:ByteArray}(h0:x.size ≠ 0) (hl:lttI (bt x 0)=true) (ha:stre x (x.size-1) 1=x.size):wk x.data.toList=if wkS x=120 then 0 else if wkS x=70 then 3 else if wkS x=115 then 4 else 2:=by
 have hne:x.data.toList ≠ []:=fun e=>h0 (by rw[sz_eq,e];rfl)
 have hL:isL (x.data.toList.headD 0)=true:=by rw[<- ltt_eq,<- bt_zero x hne];exact hl
 have hlf:¬lttI (bt x 0)=false:=by rw[hl];decide
 have hst:¬stre x (x.size-1) 1<x.size:=by omega
 have hiff:(x=⟨#[115,101,108,102]⟩\/(65<=bt x 0/\bt x 0<=90)) ↔ (x.data.toList=selfW\/isC (x.data.toList.headD 0)=true):=by rw[self_iff,bt_zero x hne,cap_eq]
 rw[wk_I x h0,wkS_eq x hne hL,<- sz_eq,if_neg hlf,if_neg hst]
 by_cases h20:20<x.size
 ·rw[if_pos h20,if_pos h20];rfl
 rw[if_neg h20,if_neg h20]
 by_cases hs:x.data.toList=selfW\/isC (x.data.toList.headD 0)=true
 ·rw[if_pos (hiff.2 hs),if_pos hs];rfl
 rw[if_neg (fun h=>hs (hiff.1 h)),if_neg hs]
 by_cases hm:mgs.any (fun m=>decide (m.t=x.data.toList))=true
 ·rw[if_pos hm,if_pos hm];rfl
 rw[if_neg hm,if_neg hm];rfl
theorem rowOf_nil {l:List UInt8}(h:mgs.any (fun m=>decide (m.t=l))=false):rowOf l=none:=by
 have:=rowOf_any l
 rw[h] at this
 simpa using this
theorem mgs_cap:∀m∈mgs,¬(m.t=selfW\/isC (m.t.headD 0)=true):=by decide
theorem ten_let:∀x∈ten,isL (x.headD 0)=false:=by decide
theorem word_nm {x:ByteArray}(h0:x.size ≠ 0) (hl:lttI (bt x 0)=true) (hk:wkS x=119\/wkS x=70):nmT x.data.toList:=by
 have hne:x.data.toList ≠ []:=fun e=>h0 (by rw[sz_eq,e];rfl)
 have hL:isL (x.data.toList.headD 0)=true:=by rw[<- ltt_eq,<- bt_zero x hne];exact hl
 rw[wkS_eq x hne hL] at hk
 refine⟨rowOf_nil ?_,fun hm=>?_,fun e=>?_⟩
 ·rw[Bool.eq_false_iff]
  intro hm
  obtain⟨m,hm1,hm2⟩:=List.any_eq_true.1 hm
  have hm2:=of_decide_eq_true hm2
  have:=mgs_cap m hm1
  rw[hm2] at this
  rw[if_neg this,if_pos hm] at hk
  split at hk <;> rcases hk with h | h <;> cases h
 ·have:=ten_let _ hm
  rw[hL] at this
  cases this
 rw[e] at hL
 revert hL
 decide
theorem sg18_ten:∀x∈sg18,x.data.toList∈ten\/(rowOf x.data.toList).isSome=true:=by decide
theorem iTk_T {t:Tok}(h:kOk t.k):itT (iTk t)=tkT t:=by
 obtain⟨k,tx,v,pos⟩:=t
 simp only at h
 rcases h with rfl|rfl|rfl|rfl|rfl
 ·rfl
 ·rfl
 ·rfl
 ·rfl
 rfl
theorem iTk_ok {s:ByteArray}{i:Nat}(hi:i<s.size) (h:¬(tokAt s i).k=120):iOk (iTk (tokAt s i)):=by
 unfold tokAt at h ⊢
 split
 ·rename_i h1
  rw[if_pos h1] at h
  simp only at h
  have hn:(numS (st1 s i)).2=true:=by
   by_cases hn:(numS (st1 s i)).2=true
   ·exact hn
   rw[if_neg hn] at h;exact absurd rfl h
  rw[if_pos hn]
  exact .inl ⟨rfl,rfl⟩
 rename_i h1
 rw[if_neg h1] at h
 split
 rotate_left 1
 ·rename_i h2
  rw[if_neg h2] at h
  split
  ·exact .inr (.inr (.inr ⟨rfl,.inr (.inr rfl)⟩))
  rename_i h3
  rw[if_neg h3] at h
  split
  ·exact .inr (.inr (.inr ⟨rfl,.inl (show [58,61]∈ten by decide)⟩))
  rename_i h4
  rw[if_neg h4] at h
  simp only at h
  by_cases a3:hasB sg18 (s.extract i (i+1)) 18=true
  ·simp only[if_pos a3]
   rcases sg18_ten _ (hasB_mem a3) with e|e
   ·exact .inr (.inr (.inr ⟨rfl,.inl e⟩))
   exact .inr (.inr (.inr ⟨rfl,.inr (.inl e)⟩))
  rw[if_neg a3] at h;exact absurd rfl h
 rename_i h2
 rw[if_pos h2] at h
 simp only at h
 have hz:=st1_size s i hi
 rw[st0_st1 hi h2] at h ⊢
 have hl:lttI (bt (st1 s i) 0)=true:=by
  have e:st1 s i=s.extract i (stre s (s.size-(i+1)) (i+1)):=rfl
  rw[e,bt_ext (s:=s) (i:=i) (e:=stre s (s.size-(i+1)) (i+1)) (k:=0) oM oM]
  exact h2
 have h0:(st1 s i).size ≠ 0:=by omega
 have hw:∀k,wkS (st1 s i)=k->k=120\/k=70\/k=115\/k=119:=by
  intro k e
  unfold wkS at e
  subst e
  split
  ·exact .inl rfl
  split
  ·exact .inr (.inl rfl)
  split
  ·exact .inr (.inr (.inl rfl))
  exact .inr (.inr (.inr rfl))
 rcases hw _ rfl with e|e|e|e
 ·exact absurd e h
 ·have hm:=word_nm h0 hl (.inr e)
  rw[e]
  exact .inr (.inr (.inl ⟨rfl,hm⟩))
 ·have hne:(st1 s i).data.toList ≠ []:=fun e=>h0 (by rw[sz_eq,e];rfl)
  have hL:isL ((st1 s i).data.toList.headD 0)=true:=by rw[<- ltt_eq,<- bt_zero _ hne];exact hl
  have hk:=wkS_eq _ hne hL
  rw[e] at hk ⊢
  refine .inr (.inr (.inr ⟨rfl,.inr (.inl ?_)⟩))
  show (rowOf (st1 s i).data.toList).isSome=true
  rw[rowOf_any]
  by_cases ha:mgs.any (fun m=>decide (m.t=(st1 s i).data.toList))=true
  ·exact ha
  rw[if_neg ha] at hk
  split at hk
  ·cases hk
  split at hk <;> cases hk
 have hm:=word_nm h0 hl (.inl e)
 rw[e]
 exact .inr (.inl ⟨rfl,hm⟩)
theorem ext_one {s:ByteArray}{i:Nat}(hi:i<s.size):s.extract i (i+1)=⟨#[s.data[i]!]⟩:=by
 have h1:(s.extract i (i+1)).data=s.data.extract i (i+1):=ByteArray.data_extract
 have h2:s.data.extract i (i+1)=#[s.data[i]!]:=by
  have hs:i<s.data.size:=hi
  apply Array.ext
  ·simp;omega
  intro j hj hj2
  have:j=0:=by simpa using hj2
  subst this
  simp
  exact(getElem!_pos s.data i hs).symm
 rw[<- h2,<- h1]
theorem sg_all:∀n:Fin 256,hasB sg18 ⟨#[UInt8.ofNat n.1]⟩ 18=decide ((n.1:Int)∈sgL/\(n.1:Int) ≠ 59):=by decide
theorem sg_at {s:ByteArray}{i:Nat}(hi:i<s.size):hasB sg18 (s.extract i (i+1)) 18=decide (bt s i∈sgL/\bt s i ≠ 59):=by
 rw[ext_one hi]
 have hl:=UInt8.toNat_lt (s.data[i]!)
 have:=sg_all ⟨(s.data[i]!).toNat,hl⟩
 simp only[UInt8.ofNat_toNat] at this
 exact this
theorem two_at {s:ByteArray}{i:Nat}(h1:bt s i=58) (hi:i+1<s.size) (h2:bt s (i+1)=61):s.extract i (i+2)=⟨#[58,61]⟩:=by
 have e1:(s.extract i (i+2)).data=s.data.extract i (i+2):=ByteArray.data_extract
 have e2:s.data.extract i (i+2)=#[58,61]:=by
  have hs:i+1<s.data.size:=hi
  have b1:s.data[i]'oM=58:=by
   have:(s.data[i]!).toNat=58:=by unfold bt at h1;omega
   rw[getElem!_pos s.data i oM] at this
   exact UInt8.toNat_inj.1 this
  have b2:s.data[i+1]'hs=61:=by
   have:(s.data[i+1]!).toNat=61:=by unfold bt at h2;omega
   rw[getElem!_pos s.data (i+1) hs] at this
   exact UInt8.toNat_inj.1 this
  apply Array.ext
  ·simp;omega
  intro j hj hj2
  have:j=0\/j=1:=by simp at hj2;omega
  rcases this with rfl|rfl
  ·simpa using b1
  simpa using b2
 rw[<- e2,<- e1]
theorem endI_tok {s:ByteArray}{i:Nat}(hi:i<s.size):endI s i=i+(tokAt s i).tx.size:=by
 have hz:=st1_size s i hi
 unfold endI tokAt
 by_cases h1:bt s i=95\/digI (bt s i)=true
 ·rw[if_pos h1,if_pos (by rcases h1 with h | h <;> simp[ldI,h])]
  simp only
  omega
 rw[if_neg h1]
 by_cases h2:lttI (bt s i)=true
 ·rw[if_pos h2,if_pos (by simp[ldI,h2]),st0_st1 hi h2]
  simp only
  omega
 have hx:¬(bt s i=95\/ldI (bt s i)=true):=by
  intro h
  rcases h with h|h
  ·exact h1 (.inl h)
  rcases(by simpa[ldI] using h) with h|h
  ·exact h1 (.inr h)
  exact h2 h
 rw[if_neg h2,if_neg hx]
 by_cases h3:bt s i=10\/bt s i=59
 ·rw[if_pos h3,if_neg (by rintro ⟨e,_⟩;rcases h3 with h | h <;> rw[h] at e <;> cases e)]
  simp only
  rw[ext_size s i _ oM]
  omega
 rw[if_neg h3]
 by_cases h4:bt s i=58/\i+1<s.size/\bt s (i+1)=61
 ·rw[if_pos h4,if_pos h4];rfl
 rw[if_neg h4,if_neg h4]
 simp only
 rw[ext_size s i _ oM]
 omega
theorem endI_le {s:ByteArray}{i:Nat}(hi:i<s.size):i+1<=endI s i/\endI s i<=s.size:=by
 have:=tok_size s i hi
 rw[endI_tok hi]
 omega
theorem tkI_tok {s:ByteArray}{i:Nat}(hi:i<s.size):(tkI (s.extract i (endI s i))).2=decide (¬(tokAt s i).k=120)/\(¬(tokAt s i).k=120->(tkI (s.extract i (endI s i))).1=iTk (tokAt s i)):=by
 have hz:=st1_size s i hi
 have he:=endI_le hi
 have h0:bt (s.extract i (endI s i)) 0=bt s i:=bt_ext oM oM
 unfold tkI
 rw[h0]
 unfold tokAt
 by_cases h1:bt s i=95\/digI (bt s i)=true
 ·have hx:s.extract i (endI s i)=st1 s i:=by
   unfold endI st1
   rw[if_pos (by rcases h1 with h | h <;> simp[ldI,h])]
  rw[if_pos h1,if_pos h1,hx]
  simp only
  cases hn:(numS (st1 s i)).2
  ·exact⟨by simp,fun h=>absurd sI h⟩
  exact⟨by simp,fun _=>by simp[iTk]⟩
 rw[if_neg h1,if_neg h1]
 by_cases h2:lttI (bt s i)=true
 ·have hx:s.extract i (endI s i)=st1 s i:=by
   unfold endI st1
   rw[if_pos (by simp[ldI,h2])]
  have hl:lttI (bt (st1 s i) 0)=true:=by rw[<- hx,h0];exact h2
  have hw:=wk_wkS oM hl (st1_stre s i hi)
  rw[if_pos h2,if_pos h2,hx,st0_st1 hi h2,hw]
  simp only
  have hk:wkS (st1 s i)=120\/wkS (st1 s i)=70\/wkS (st1 s i)=115\/wkS (st1 s i)=119:=by
   unfold wkS
   split
   ·exact .inl rfl
   split
   ·exact .inr (.inl rfl)
   split
   ·exact .inr (.inr (.inl rfl))
   exact .inr (.inr (.inr rfl))
  rcases hk with e|e|e|e <;> rw[e] <;> simp[iTk]
 rw[if_neg h2,if_neg h2]
 have hx:¬(bt s i=95\/ldI (bt s i)=true):=by
  intro h
  rcases h with h|h
  ·exact h1 (.inl h)
  rcases(by simpa[ldI] using h) with h|h
  ·exact h1 (.inr h)
  exact h2 h
 by_cases h3:bt s i=10
 ·rw[if_pos h3,if_pos (.inl h3)]
  exact⟨by simp,fun _=>by simp[iTk]⟩
 rw[if_neg h3]
 by_cases h5:bt s i=59
 ·have hq:endI s i=i+1:=by unfold endI;rw[if_neg hx,if_neg (by rw[h5];rintro ⟨e,_⟩;cases e)]
  have hy:s.extract i (i+1)=⟨#[59]⟩:=by
   rw[ext_one hi]
   have:s.data[i]! = 59:=UInt8.toNat_inj.1 (by unfold bt at h5;have h:(59:UInt8).toNat=59:=rfl;omega)
   rw[this]
  rw[if_pos (.inr h5),hq,hy,h5]
  exact⟨show decide ((59:Int)∈sgL)=decide (¬(59:Int)=120) by decide,fun _=>by simp[iTk]⟩
 rw[if_neg (by rintro (h | h);exact h3 h;exact h5 h)]
 by_cases h4:bt s i=58/\i+1<s.size/\bt s (i+1)=61
 ·have hq:endI s i=i+2:=by unfold endI;rw[if_neg hx,if_pos h4]
  rw[if_pos h4,hq,two_at h4.1 h4.2.1 h4.2.2,h4.1]
  exact⟨show decide ((58:Int)∈sgL)=decide (¬(115:Int)=120) by decide,fun _=>by simp[iTk]⟩
 have hq:endI s i=i+1:=by unfold endI;rw[if_neg hx,if_neg h4]
 rw[if_neg h4,hq,sg_at hi]
 have hb:decide (bt s i∈sgL)=decide (bt s i∈sgL/\bt s i ≠ 59):=by simp[h5]
 rw[hb]
 cases hd:decide (bt s i∈sgL/\bt s i ≠ 59)
 ·exact⟨by simp,fun h=>absurd sI h⟩
 exact⟨by simp,fun _=>by simp[iTk]⟩
end Pl
theorem l3Split_nil (b off cap:Nat) (w:World):Calls Tryz.prog 13 #[.slice none 0 0] w fun e w'=>∃v F,e=.returned v/\Below w.heap.size w w'/\Own 34 1 (Qk b off cap) w' v [] F/\Inb w.heap.size w' F:=by
 have B0:Hid (Below w.heap.size w (w.alloc (.cells #[] 34))):=(Below.refl _ _).alloc (Nat.le_refl _) _
 have O0:Hid (Own 34 1 (Qk b off cap) (w.alloc (.cells #[] 34)) (.slice (some ⟨w.heap.size,0,none⟩) 0 0) [] [w.heap.size]):=Own.emp _ _ rfl
 have I0:Hid (Inb w.heap.size (w.alloc (.cells #[] 34)) [w.heap.size]):=fun x hx=>by simp at hx ⊢;omega
 go_enter Tryz.func13,Tryz.ntmps13
 go_wp2_with fail
 go_loopw [3,4,5,6] (fun v3 v4 v5 v6 wr=>∃(i:Nat),i<=1/\wr=w.alloc (.cells #[] 34)/\v6=.int .i64 i/\v4=.int .i64 i/\v5=.int .i64 0/\v3=.slice (some ⟨w.heap.size,0,none⟩) 0 0) (fun _ _ _ v6 _=>2-(intOf v6).toNat)
 case atStart=>exact⟨0,by omega,rfl,rfl,rfl,rfl,rfl⟩
 obtain⟨i,hi,rfl,rfl,rfl,rfl,rfl⟩:=hrel
 by_cases h0:i=0
 ·subst h0
  go_wp2_with fail
  go_roundw
  case rel=>exact⟨1,by omega,by first | rfl | trivial,rfl,rfl,rfl,rfl⟩
  simp[intOf] <;> omega
 obtain rfl:i=1:=by omega
 go_wp2_with fail
 refine bodyPost_ret (v:=.slice (some ⟨w.heap.size,0,none⟩) 0 0) (by simp[results,Tryz.results13,go_sem]) rfl ⟨_,_,rfl,B0.out,O0.out,I0.out⟩
end Go.Proofs.YtbiiicbfpcfgdaaGreatDoor
