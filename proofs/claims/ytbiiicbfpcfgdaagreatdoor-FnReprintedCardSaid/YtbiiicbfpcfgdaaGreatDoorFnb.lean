import Derived.Test.YtbiiicbfpcfgdaaGreatDoorPln
import Derived.Test.YtbiiicbfpcfgdaaGreatDoorSml
import Derived.Shelf.Abstract
namespace Go.Proofs.YtbiiicbfpcfgdaaGreatDoor
set_option maxRecDepth 100000
set_option maxHeartbeats 16000000
set_option linter.unusedVariables false
namespace Pl
def sgT (l:List UInt8):T :=
 if l=[40] then .lp else if l=[41] then .rp else if l=[123] then .lb else if l=[125] then .rb else if l=[58] then .col else if l=[58,61] then .asg else if l=[47] then .sl else if l=[92] then .bs else if l=[64] then .amp else if l=[46] then .dot
 else match rowOf l with
  |some m=>.op m
  |none=>.sep
def tkT (t:Tok):T :=
 if t.k=110 then .num t.v else if t.k=119 then .arr t.tx.data.toList else if t.k=70 then .fn t.tx.data.toList else if t.k=59 then .sep else sgT t.tx.data.toList
theorem rowOf_t {l:List UInt8}{m:Mg}(h:rowOf l=some m):m∈mgs/\m.t=l:=by
 refine⟨List.mem_of_find?_eq_some h,?_⟩
 have:=List.find?_some h
 simpa using this
theorem row_two:∀m∈mgs,plc ops10 (ba m.t) 0=en m:=by decide
theorem row_ten:∀x∈ops10,(rowOf x.data.toList).isSome=true:=by decide
theorem plc_zero:∀(L:List ByteArray) (s:ByteArray) (k:Nat),s ∉ L->plc L s k=0
 |[],_,_,_=>rfl
 |x::L,s,k,h=>by
  rw[plc,if_neg (fun e=>h (by rw[e];simp)),plc_zero L s (k+1) (fun hm=>h (by simp[hm]))]
theorem plc_none {L:List ByteArray}{s:ByteArray}(hL:∀x∈L,(rowOf x.data.toList).isSome=true) (h:rowOf s.data.toList=none):plc L s 0=0 :=
 plc_zero L s 0 (fun hm=>by have:=hL s hm;rw[h] at this;cases this)
theorem ops_row (s:ByteArray):plc ops10 s 0=match rowOf s.data.toList with | some m=>en m | none=>0:=by
 cases h:rowOf s.data.toList with
 |none=>exact plc_none row_ten h
 |some m =>
  obtain⟨h1,h2⟩:=rowOf_t h
  have:=row_two m h1
  rw[h2] at this
  exact this
theorem sg_row {l:List UInt8}(h:l=[40]\/l=[41]\/l=[123]\/l=[125]\/l=[58]\/l=[58,61]\/l=[47]\/l=[92]\/l=[64]\/l=[46]):rowOf l=none:=by
 rcases h with rfl|rfl|rfl|rfl|rfl|rfl|rfl|rfl|rfl|rfl <;> decide
theorem sgT_en (l:List UInt8):enT [sgT l]=match rowOf l with | some m=>en m | none=>0:=by
 unfold sgT
 by_cases h:l=[40]\/l=[41]\/l=[123]\/l=[125]\/l=[58]\/l=[58,61]\/l=[47]\/l=[92]\/l=[64]\/l=[46]
 ·rw[sg_row h]
  rcases h with rfl|rfl|rfl|rfl|rfl|rfl|rfl|rfl|rfl|rfl <;> rfl
 simp only[not_or] at h
 obtain⟨h0,h1,h2,h3,h4,h5,h6,h7,h8,h9⟩:=h
 rw[if_neg h0,if_neg h1,if_neg h2,if_neg h3,if_neg h4,if_neg h5,if_neg h6,if_neg h7,if_neg h8,if_neg h9]
 cases rowOf l <;> rfl
def kOk (k:Int):Prop:=k=110\/k=119\/k=70\/k=59\/k=115
theorem e2_T {t:Tok}(h:kOk t.k):e2 t=enT [tkT t]:=by
 obtain⟨k,tx,v,pos⟩:=t
 simp only at h
 unfold e2 tkT
 simp only
 rcases h with rfl|rfl|rfl|rfl|rfl
 ·rfl
 ·rfl
 ·rfl
 ·rfl
 rw[if_pos rfl,if_neg (by decide),if_neg (by decide),if_neg (by decide),if_neg (by decide),sgT_en,ops_row]
theorem end_T {t:Tok}(h:kOk t.k):endV t=ends [tkT t]:=by
 obtain⟨k,tx,v,pos⟩:=t
 simp only at h
 unfold endV tkT
 simp only
 rcases h with rfl|rfl|rfl|rfl|rfl
 ·rfl
 ·rfl
 ·rfl
 ·rfl
 rw[if_neg (by decide),if_neg (by decide),if_neg (by decide),if_neg (by decide)]
 have e:(tx=⟨#[41]⟩) ↔ tx.data.toList=[41]:=by rw[ba_iff]
 by_cases ht:tx=⟨#[41]⟩
 ·rw[sgT,e.1 ht,decide_eq_true ht];rfl
 have h2:¬tx.data.toList=[41]:=fun x=>ht (e.2 x)
 rw[decide_eq_false ht]
 unfold sgT
 rw[if_neg h2]
 repeat (split <;> first | rfl | skip)
end Pl
namespace Pl
def Fo:T->F
 |.fn nm=>.call nm
 |.op m=>.plain m
 |_=>.bad
def fv (f:Fnv):Int × Int × ByteArray:=(f.k,f.a,ba f.nm)
def q1 (s:ByteArray):Int × Int × ByteArray:=if s=⟨#[114,111,108,108]⟩ then (9,0,⟨#[]⟩) else if 0<plc one4 s 0 then (1,plc one4 s 0,⟨#[]⟩) else if 0<plc mon7 s 0 then (2,plc mon7 s 0,⟨#[]⟩) else (0,0,⟨#[]⟩)
def q2 (s:ByteArray):Int × Int × ByteArray:=if 0<plc ops10 s 0 then (5,plc ops10 s 0,⟨#[]⟩) else if 0<plc dya7 s 0 then (6,plc dya7 s 0,⟨#[]⟩) else (0,0,⟨#[]⟩)
theorem row_q1:∀m∈mgs,q1 (ba m.t)=(m.ok,m.ow,⟨#[]⟩):=by decide
theorem row_q2:∀m∈mgs,q2 (ba m.t)=(m.tk,m.tw,⟨#[]⟩):=by decide
theorem in_one4:∀x∈one4,(rowOf x.data.toList).isSome=true:=by decide
theorem in_mon7:∀x∈mon7,(rowOf x.data.toList).isSome=true:=by decide
theorem in_dya7:∀x∈dya7,(rowOf x.data.toList).isSome=true:=by decide
theorem q1_row (s:ByteArray):q1 s=match rowOf s.data.toList with | some m=>(m.ok,m.ow,⟨#[]⟩) | none=>(0,0,⟨#[]⟩):=by
 cases h:rowOf s.data.toList with
 |none =>
  unfold q1
  rw[plc_none in_one4 h,plc_none in_mon7 h,if_neg,if_neg (by decide),if_neg (by decide)]
  rintro rfl
  exact absurd h (by decide)
 |some m =>
  obtain⟨h1,h2⟩:=rowOf_t h
  have:=row_q1 m h1
  rw[h2] at this
  exact this
theorem q2_row (s:ByteArray):q2 s=match rowOf s.data.toList with | some m=>(m.tk,m.tw,⟨#[]⟩) | none=>(0,0,⟨#[]⟩):=by
 cases h:rowOf s.data.toList with
 |none =>
  unfold q2
  rw[plc_none row_ten h,plc_none in_dya7 h,if_neg (by decide),if_neg (by decide)]
 |some m =>
  obtain⟨h1,h2⟩:=rowOf_t h
  have:=row_q2 m h1
  rw[h2] at this
  exact this
theorem sgT_Fo (l:List UInt8):Fo (sgT l)=match rowOf l with | some m=>.plain m | none=>.bad:=by
 unfold sgT
 by_cases h:l=[40]\/l=[41]\/l=[123]\/l=[125]\/l=[58]\/l=[58,61]\/l=[47]\/l=[92]\/l=[64]\/l=[46]
 ·rw[sg_row h]
  rcases h with rfl|rfl|rfl|rfl|rfl|rfl|rfl|rfl|rfl|rfl <;> rfl
 simp only[not_or] at h
 obtain⟨h0,h1,h2,h3,h4,h5,h6,h7,h8,h9⟩:=h
 rw[if_neg h0,if_neg h1,if_neg h2,if_neg h3,if_neg h4,if_neg h5,if_neg h6,if_neg h7,if_neg h8,if_neg h9]
 cases rowOf l <;> rfl
theorem pl1_T {t:Tok}(h:kOk t.k):pl1 t=fv (Fo (tkT t)).one:=by
 obtain⟨k,tx,v,pos⟩:=t
 simp only at h
 unfold pl1 tkT
 simp only
 rcases h with rfl|rfl|rfl|rfl|rfl
 ·rfl
 ·rfl
 ·rfl
 ·rfl
 show q1 tx=fv (Fo (sgT tx.data.toList)).one
 rw[q1_row,sgT_Fo]
 cases rowOf tx.data.toList <;> rfl
theorem pl2_T {t:Tok}(h:kOk t.k):pl2 t=fv (Fo (tkT t)).two:=by
 obtain⟨k,tx,v,pos⟩:=t
 simp only at h
 unfold pl2 tkT
 simp only
 rcases h with rfl|rfl|rfl|rfl|rfl
 ·rfl
 ·rfl
 ·rfl
 ·rfl
 show q2 tx=fv (Fo (sgT tx.data.toList)).two
 rw[q2_row,sgT_Fo]
 cases rowOf tx.data.toList <;> rfl
def sgTx:T->List UInt8
 |.lp=>[40] | .rp=>[41] | .lb=>[123] | .rb=>[125] | .col=>[58] | .asg=>[58,61] | .sl=>[47] | .bs=>[92] | .amp=>[64] | .dot=>[46]
 |_=>[]
def ten:List (List UInt8):=[[40],[41],[123],[125],[58],[58,61],[47],[92],[64],[46]]
theorem sgT_tx (l:List UInt8):sgTx (sgT l)=if l∈ten then l else []:=by
 by_cases h:l∈ten
 ·rw[if_pos h]
  simp only[ten,List.mem_cons,List.not_mem_nil,or_false] at h
  rcases h with rfl|rfl|rfl|rfl|rfl|rfl|rfl|rfl|rfl|rfl <;> rfl
 rw[if_neg h]
 simp only[ten,List.mem_cons,List.not_mem_nil,or_false,not_or] at h
 obtain⟨h0,h1,h2,h3,h4,h5,h6,h7,h8,h9⟩:=h
 unfold sgT
 rw[if_neg h0,if_neg h1,if_neg h2,if_neg h3,if_neg h4,if_neg h5,if_neg h6,if_neg h7,if_neg h8,if_neg h9]
 cases rowOf l <;> rfl
theorem sg_T {t:Tok}(h:kOk t.k) {c:List UInt8}(hc:c∈ten):(decide (t.k=115) && decide (t.tx=ba c))=decide (sgTx (tkT t)=c):=by
 have hn:¬[]=c:=by rintro rfl;revert hc;decide
 obtain⟨k,tx,v,pos⟩:=t
 simp only at h
 unfold tkT
 simp only
 rcases h with rfl|rfl|rfl|rfl|rfl
 ·simp[sgTx,hn]
 ·simp[sgTx,hn]
 ·simp[sgTx,hn]
 ·simp[sgTx,hn]
 rw[if_neg (by decide),if_neg (by decide),if_neg (by decide),if_neg (by decide),sgT_tx]
 have e:(tx=ba c) ↔ tx.data.toList=c:=by rw[ba_iff];rfl
 by_cases ht:tx.data.toList=c
 ·rw[decide_eq_true (e.2 ht),if_pos (by rw[ht];exact hc),decide_eq_true ht]
  rfl
 rw[decide_eq_false (fun x=>ht (e.1 x))]
 symm
 rw[Bool.and_false,decide_eq_false_iff_not]
 split
 ·exact ht
 exact hn
theorem isV_T {l:List Tok}(hl:∀t∈l,kOk t.k) {c:List UInt8}(hc:c∈ten) (i:Int):isV l i (ba c)=if 0<=i then (match (l.map tkT)[i.toNat]? with | some t=>decide (sgTx t=c) | none=>false) else false:=by
 unfold isV
 split
 ·rw[List.getElem?_map]
  cases h:l[i.toNat]? with
  |none=>rfl
  |some t=>exact sg_T (hl t (List.mem_of_getElem? h)) hc
 rfl
end Pl
open Go.RowKit
namespace Pl
def tq (l:List Tok) (i:Nat):Tok:=(l[i]?).getD ⟨0,⟨#[]⟩,0,0⟩
abbrev Fq:=Int × Int × Int × ByteArray
def fq (f:Fnv):Fq:=(f.k,f.a,f.b,ba f.nm)
def n4:Fq:=(0,0,0,⟨#[]⟩)
def p4 (f:Int × Int × ByteArray):Fq:=(f.1,f.2.1,0,f.2.2)
def rv (l:List Tok) (hi:Nat):List T:=((l.take hi).map tkT).reverse
theorem rv_zero (l:List Tok):rv l 0=[]:=rfl
theorem rv_succ {l:List Tok}{k:Nat}(h:k<l.length):rv l (k+1)=tkT (tq l k)::rv l k:=by
 unfold rv tq
 rw[List.take_add_one,List.map_append,List.reverse_append,List.getElem?_eq_getElem h]
 rfl
theorem rv_len {l:List Tok}{k:Nat}(h:k<=l.length):(rv l k).length=k:=by
 simp[rv];omega
theorem tq_mem {l:List Tok}{k:Nat}(h:k<l.length):tq l k∈l:=by
 unfold tq
 rw[List.getElem?_eq_getElem h]
 exact List.getElem_mem h
theorem isV_in {l:List Tok}(hl:∀t∈l,kOk t.k) {c:List UInt8}(hc:c∈ten) {k:Nat}(h:k<l.length):isV l k (ba c)=decide (sgTx (tkT (tq l k))=c):=by
 rw[isV_T hl hc,if_pos oM,List.getElem?_map]
 unfold tq
 rw[show ((k:Int)).toNat=k by omega,List.getElem?_eq_getElem h]
 rfl
theorem isV_neg {l:List Tok}{i:Int}(h:i<0) (c:ByteArray):isV l i c=false:=by
 unfold isV
 rw[if_neg oM]
def fnV (l:List Tok) (hi:Nat):Int × Fq × Fq :=
 if isV l ((hi:Int)-1) ⟨#[47]⟩=true\/isV l ((hi:Int)-1) ⟨#[92]⟩=true then
  if hi<2\/e2 (tq l (hi-2))=0 then (-1,n4,n4)
  else ((hi:Int)-2,(if (tq l (hi-1)).tx=⟨#[92]⟩ then 4 else 3,e2 (tq l (hi-2)),0,⟨#[]⟩),n4)
 else if isV l ((hi:Int)-2) ⟨#[46]⟩=true then
  if hi<3\/e2 (tq l (hi-3))=0\/e2 (tq l (hi-1))=0 then (-1,n4,n4)
  else ((hi:Int)-3,n4,(8,e2 (tq l (hi-3)),e2 (tq l (hi-1)),⟨#[]⟩))
 else if isV l ((hi:Int)-2) ⟨#[64]⟩=true then
  if e2 (tq l (hi-1))=0 then (-1,n4,n4)
  else ((hi:Int)-2,n4,(7,e2 (tq l (hi-1)),0,⟨#[]⟩))
 else ((hi:Int)-1,p4 (pl1 (tq l (hi-1))),p4 (pl2 (tq l (hi-1))))
def fnR:Option (F × List T)->Int × Fq × Fq
 |none=>(-1,n4,n4)
 |some (f,r)=>(r.length,fq f.one,fq f.two)
theorem p4_fv (f:Fnv) (h:f.b=0):p4 (fv f)=fq f:=by obtain⟨k,a,b,nm⟩:=f;simp only at h;subst h;rfl
theorem Fo_b (t:T):(Fo t).one.b=0/\(Fo t).two.b=0:=by cases t <;> exact⟨rfl,rfl⟩
theorem tFnp1 {P:Prop}(h:P:=by
 simp only[rfun]
 rw[show enT [.op m]=en m from rfl]
 by_cases hz:en m=0
 ·rw[if_pos hz,if_pos hz];rfl
 ·rw[if_neg hz,if_neg hz];rfl
 ):P:=h
theorem rfun_sb (a:T) (r:List T) (h:sgTx a=[47]\/sgTx a=[92]):fnR (rfun (a::r))=match r with | []=>(-1,n4,n4) | b::r2=>if enT [b]=0 then (-1,n4,n4) else (r2.length,(if sgTx a=[92] then 4 else 3,enT [b],0,⟨#[]⟩),n4):=by
 cases a <;> first | (exfalso;revert h;simp[sgTx];done) | skip
 ·cases r with
  |nil=>rfl
  |cons b r2 =>
   cases b <;> first | rfl | skip
   rename_i m
   exact tFnp1
 cases r with
 |nil=>rfl
 |cons b r2 =>
  cases b <;> first | rfl | skip
  rename_i m
  exact tFnp1
theorem rfun_dot (a:T) (r:List T) (h:¬(sgTx a=[47]\/sgTx a=[92])):fnR (rfun (a::.dot::r))=match r with | []=>(-1,n4,n4) | c::r3=>if enT [c]=0\/enT [a]=0 then (-1,n4,n4) else (r3.length,n4,(8,enT [c],enT [a],⟨#[]⟩)):=by
 cases a <;> first | (exfalso;revert h;simp[sgTx];done) | skip
 case op m =>
  cases r with
  |nil=>rfl
  |cons c r3 =>
   cases c <;> first | rfl | (simp[rfun,enT,fnR];done) | skip
   rename_i m'
   simp only[rfun]
   rw[show enT [.op m]=en m from rfl,show enT [.op m']=en m' from rfl]
   by_cases hz:en m'=0\/en m=0
   ·rw[if_pos hz,if_pos hz];rfl
   rw[if_neg hz,if_neg hz];rfl
 all_goals (cases r with
  |nil=>rfl
  |cons c r3=>simp[rfun,enT,fnR])
theorem rfun_amp (a:T) (r:List T) (h:¬(sgTx a=[47]\/sgTx a=[92])):fnR (rfun (a::.amp::r))=if enT [a]=0 then (-1,n4,n4) else ((r.length:Int),n4,(7,enT [a],0,⟨#[]⟩)):=by
 cases a <;> first | (exfalso;revert h;simp[sgTx];done) | rfl | skip
 rename_i m
 exact tFnp1
theorem rfun_pl (a:T) (r:List T) (h:¬(sgTx a=[47]\/sgTx a=[92])) (hr:∀b r2,r=b::r2->sgTx b ≠ [46]/\sgTx b ≠ [64]):fnR (rfun (a::r))=((r.length:Int),fq (Fo a).one,fq (Fo a).two):=by
 cases r with
 |nil=>cases a <;> first | rfl | (exfalso;revert h;simp[sgTx];done)
 |cons b r2 =>
  have hb:=hr b r2 rfl
  cases b <;> first | (exfalso;revert hb;simp[sgTx];done) | (cases a <;> first | rfl | (exfalso;revert h;simp[sgTx];done))
theorem fn_rfun {l:List Tok}(hl:∀t∈l,kOk t.k) {hi:Nat}(h1:1<=hi) (h2:hi<=l.length):fnV l hi=fnR (rfun (rv l hi)):=by
 obtain⟨k,rfl⟩:∃k,hi=k+1:=⟨hi-1,by omega⟩
 have e1:(((k+1:Nat):Int)-1)=(k:Int):=by omega
 have hk:k<l.length:=by omega
 have a0:isV l k ⟨#[47]⟩=decide (sgTx (tkT (tq l k))=[47]):=isV_in hl (c:=[47]) (by decide) hk
 have a1:isV l k ⟨#[92]⟩=decide (sgTx (tkT (tq l k))=[92]):=isV_in hl (c:=[92]) (by decide) hk
 have ka:=hl _ (tq_mem hk)
 have hA:e2 (tq l k)=enT [tkT (tq l k)]:=e2_T ka
 have q1:=pl1_T ka
 have q2:=pl2_T ka
 have htx:sgTx (tkT (tq l k))=[47]\/sgTx (tkT (tq l k))=[92]->((tq l k).tx=⟨#[92]⟩ ↔ sgTx (tkT (tq l k))=[92]):=fun h=>by
  have s1:=sg_T ka (c:=[47]) (by decide)
  have s2:=sg_T ka (c:=[92]) (by decide)
  have b1:ba [47]=⟨#[47]⟩:=rfl
  have b2:ba [92]=⟨#[92]⟩:=rfl
  rw[b1] at s1
  rw[b2] at s2
  constructor
  ·intro e
   rcases h with h|h
   ·rw[e,decide_eq_true h] at s1
    simp at s1
   exact h
  intro e
  rw[decide_eq_true e] at s2
  simp at s2
  exact s2.2
 unfold fnV
 rw[e1,a0,a1,rv_succ hk,Nat.add_sub_cancel,hA,q1,q2]
 generalize hta:tkT (tq l k)=a at *
 simp only[decide_eq_true_eq]
 by_cases hs:sgTx a=[47]\/sgTx a=[92]
 ·rw[if_pos hs,rfun_sb a _ hs]
  by_cases hk0:k=0
  ·subst hk0
   rw[rv_zero,if_pos (.inl oM)]
  obtain⟨j,rfl⟩:∃j,k=j+1:=⟨k-1,by omega⟩
  have hB:e2 (tq l j)=enT [tkT (tq l j)]:=e2_T (hl _ (tq_mem oM))
  rw[rv_succ (show j<l.length by omega),show j+1+1-2=j by omega,hB]
  simp only
  by_cases hz:enT [tkT (tq l j)]=0
  ·rw[if_pos (.inr hz),if_pos hz]
  rw[if_neg (by rintro (h | h);omega;exact hz h),if_neg hz,rv_len oM]
  have:=htx hs
  by_cases h92:sgTx a=[92]
  ·rw[if_pos (this.2 h92),if_pos h92]
   congr 1
   omega
  rw[if_neg (fun e=>h92 (this.1 e)),if_neg h92]
  congr 1
  omega
 rw[if_neg hs]
 by_cases hk0:k=0
 ·subst hk0
  rw[isV_neg oM,isV_neg oM,if_neg sI,if_neg sI,rv_zero,rfun_pl a _ hs (fun b r2 e=>by cases e),p4_fv _ (Fo_b a).1,p4_fv _ (Fo_b a).2]
  rfl
 obtain⟨j,rfl⟩:∃j,k=j+1:=⟨k-1,by omega⟩
 have hj:j<l.length:=by omega
 have e2':(((j+1+1:Nat):Int)-2)=(j:Int):=by omega
 have b0:isV l j ⟨#[46]⟩=decide (sgTx (tkT (tq l j))=[46]):=isV_in hl (c:=[46]) (by decide) hj
 have b1:isV l j ⟨#[64]⟩=decide (sgTx (tkT (tq l j))=[64]):=isV_in hl (c:=[64]) (by decide) hj
 rw[e2',b0,b1,rv_succ hj]
 generalize htb:tkT (tq l j)=b at *
 simp only[decide_eq_true_eq]
 by_cases hd:sgTx b=[46]
 ·rw[if_pos hd]
  have:b=.dot:=by cases b <;> first | rfl | (exfalso;revert hd;simp[sgTx];done)
  subst this
  rw[rfun_dot a _ hs]
  by_cases hj0:j=0
  ·subst hj0
   rw[rv_zero,if_pos (.inl oM)]
  obtain⟨i,rfl⟩:∃i,j=i+1:=⟨j-1,by omega⟩
  have hC:e2 (tq l i)=enT [tkT (tq l i)]:=e2_T (hl _ (tq_mem oM))
  rw[rv_succ (show i<l.length by omega),show i+1+1+1-3=i by omega,hC]
  simp only
  by_cases hz:enT [tkT (tq l i)]=0\/enT [a]=0
  ·rw[if_pos (.inr hz),if_pos hz]
  rw[if_neg (by rintro (h | h);omega;exact hz h),if_neg hz,rv_len oM]
  congr 1
  omega
 rw[if_neg hd]
 by_cases hm:sgTx b=[64]
 ·rw[if_pos hm]
  have:b=.amp:=by cases b <;> first | rfl | (exfalso;revert hm;simp[sgTx];done)
  subst this
  rw[rfun_amp a _ hs,rv_len oM]
 rw[if_neg hm,rfun_pl a _ hs (fun b' r2 e=>by cases e;exact⟨hd,hm⟩),p4_fv _ (Fo_b a).1,p4_fv _ (Fo_b a).2,List.length_cons,rv_len oM]
end Pl
theorem uBrk1 {P:Prop}(h:P:=by cases k <;> rfl):P:=h
namespace Pl
def pm:T->Int
 |.rp=>1
 |.lp=>-1
 |_=>0
def brk (l:List Tok):Nat->Int->Option Nat
 |0,_=>none
 |j+1,o=>if o+pm (tkT (tq l j))=0 then some j else brk l j (o+pm (tkT (tq l j)))
theorem brk_lt (l:List Tok):∀(j:Nat) (o:Int) (i:Nat),brk l j o=some i->i<j
 |0,o,i,h=>by simp[brk] at h
 |j+1,o,i,h=>by
  rw[brk] at h
  split at h
  ·cases h;omega
  have:=brk_lt l j _ i h;omega
theorem mid_succ {l:List Tok}{i j:Nat}(hj:j<l.length) (hi:i+1<=j) (acc:List T):((l.take (j+1)).drop (i+1)).map tkT++acc=((l.take j).drop (i+1)).map tkT++(tkT (tq l j)::acc):=by
 have h1:l.take (j+1)=l.take j++[tq l j]:=by
  rw[List.take_add_one,List.getElem?_eq_getElem hj]
  unfold tq
  rw[List.getElem?_eq_getElem hj]
  rfl
 rw[h1,List.drop_append_of_le_length (by simp;omega),List.map_append,List.append_assoc]
 rfl
theorem brk_cut (l:List Tok):∀(j k:Nat) (acc:List T),j<=l.length->cut k acc (rv l j)=match brk l j ((k:Int)+1) with | none=>none | some i=>some (((l.take j).drop (i+1)).map tkT++acc,rv l i)
 |0,k,acc,_=>by rw[rv_zero];cases k <;> rfl
 |j+1,k,acc,h=>by
  have hj:j<l.length:=by omega
  have go:∀(k2:Nat) (t:T),tkT (tq l j)=t->(k:Int)+1+pm t=(k2:Int)+1->cut k acc (t::rv l j)=cut k2 (t::acc) (rv l j)->cut k acc (rv l (j+1))=match brk l (j+1) ((k:Int)+1) with | none=>none | some i=>some (((l.take (j+1)).drop (i+1)).map tkT++acc,rv l i):=fun k2 t ht e hc=>by
   rw[rv_succ hj,ht,hc,brk_cut l j k2 (t::acc) oM,brk,ht,e,if_neg oM]
   cases hb:brk l j ((k2:Int)+1) with
   |none=>rfl
   |some i =>
    have:=brk_lt l j _ i hb
    simp only
    rw[mid_succ hj oM,ht]
  cases ht:tkT (tq l j) with
  |rp=>exact go (k+1) _ ht (by simp[pm]) uBrk1
  |lp =>
   cases k with
   |zero =>
    rw[rv_succ hj,ht,brk,ht,if_pos (by simp[pm])]
    simp only[cut]
    rw[List.drop_eq_nil_of_le (by simp;omega)]
    rfl
   |succ k=>exact go k _ ht (by simp[pm];omega) rfl
  |num v=>exact go k _ ht (by simp[pm]) uBrk1
  |arr v=>exact go k _ ht (by simp[pm]) uBrk1
  |fn v=>exact go k _ ht (by simp[pm]) uBrk1
  |op v=>exact go k _ ht (by simp[pm]) uBrk1
  |lb=>exact go k _ ht (by simp[pm]) uBrk1
  |rb=>exact go k _ ht (by simp[pm]) uBrk1
  |col=>exact go k _ ht (by simp[pm]) uBrk1
  |asg=>exact go k _ ht (by simp[pm]) uBrk1
  |sl=>exact go k _ ht (by simp[pm]) uBrk1
  |bs=>exact go k _ ht (by simp[pm]) uBrk1
  |amp=>exact go k _ ht (by simp[pm]) uBrk1
  |dot=>exact go k _ ht (by simp[pm]) uBrk1
  |sep=>exact go k _ ht (by simp[pm]) uBrk1
theorem pm_is {l:List Tok}(hl:∀t∈l,kOk t.k) {k:Nat}(h:k<l.length):pm (tkT (tq l k))=(if isV l k ⟨#[41]⟩=true then 1 else 0)-(if isV l k ⟨#[40]⟩=true then 1 else 0)/\¬(isV l k ⟨#[41]⟩=true/\isV l k ⟨#[40]⟩=true):=by
 have a0:isV l k ⟨#[41]⟩=decide (sgTx (tkT (tq l k))=[41]):=isV_in hl (c:=[41]) (by decide) h
 have a1:isV l k ⟨#[40]⟩=decide (sgTx (tkT (tq l k))=[40]):=isV_in hl (c:=[40]) (by decide) h
 rw[a0,a1]
 cases tkT (tq l k) <;> simp[sgTx,pm]
theorem kind_num {t:Tok}(h:kOk t.k):(t.k=110 ↔ tkT t=.num t.v):=by
 obtain⟨k,tx,v,p⟩:=t
 simp only at h
 unfold tkT
 simp only
 rcases h with rfl|rfl|rfl|rfl|rfl
 ·simp
 ·simp
 ·simp
 ·simp
 rw[if_neg (by decide),if_neg (by decide),if_neg (by decide),if_neg (by decide)]
 constructor
 ·intro h;exact absurd h (by decide)
 intro h
 exfalso
 have:=sgT_tx tx.data.toList
 unfold sgT at h
 repeat (split at h <;> first | cases h | skip)
theorem kind_arr {t:Tok}(h:kOk t.k):(t.k=119 ↔ tkT t=.arr t.tx.data.toList):=by
 obtain⟨k,tx,v,p⟩:=t
 simp only at h
 unfold tkT
 simp only
 rcases h with rfl|rfl|rfl|rfl|rfl
 ·simp
 ·simp
 ·simp
 ·simp
 rw[if_neg (by decide),if_neg (by decide),if_neg (by decide),if_neg (by decide)]
 constructor
 ·intro h;exact absurd h (by decide)
 intro h
 exfalso
 unfold sgT at h
 repeat (split at h <;> first | cases h | skip)
theorem num_vals {l:List Tok}(hl:∀t∈l,kOk t.k) {m i:Nat}(him:i<=m) (hm:m<=l.length) (hs:(spn (rv l m)).2=rv l i):((l.take m).drop i).map (·.v)=(spn (rv l m)).1.reverse:=by
 have e:=spn_eq (rv l m)
 rw[hs] at e
 have e2:(l.take m).map tkT=(l.take i).map tkT++((spn (rv l m)).1.reverse).map .num:=by
  have:=congrArg List.reverse e
  unfold rv at this
  rw[List.reverse_reverse,List.reverse_append,List.reverse_reverse,<- List.map_reverse] at this
  exact this
 have e3:((l.take m).drop i).map tkT=((spn (rv l m)).1.reverse).map .num:=by
  have:=congrArg (List.drop i) e2
  rw[List.drop_left' (by simp;omega),<- List.map_drop] at this
  exact this
 generalize (spn (rv l m)).1.reverse=vs at e3
 have hk:∀t∈(l.take m).drop i,kOk t.k:=fun t ht=>hl t (List.mem_of_mem_take (List.mem_of_mem_drop ht))
 generalize (l.take m).drop i=q at e3 hk
 clear e e2 hs him
 induction q generalizing vs with
 |nil=>cases vs with
  |nil=>rfl
  |cons v vs=>simp at e3
 |cons t q ih =>
  cases vs with
  |nil=>simp at e3
  |cons v vs =>
   simp only[List.map_cons,List.cons.injEq] at e3 ⊢
   have h1:=hk t sI
   refine⟨?_,ih vs e3.2 (fun x hx=>hk x (by simp[hx]))⟩
   have:tkT t=.num t.v:=(kind_num h1).1 (by
    obtain⟨k,tx,v',p⟩:=t
    have e:=e3.1
    simp only at h1
    unfold tkT at e
    simp only at e
    rcases h1 with rfl|rfl|rfl|rfl|rfl
    ·rfl
    ·simp at e
    ·simp at e
    ·simp at e
    rw[if_neg (by decide),if_neg (by decide),if_neg (by decide),if_neg (by decide)] at e
    unfold sgT at e
    repeat (split at e <;> first | cases e | skip))
   rw[this] at e3
   cases e3.1
   rfl
end Pl
def CodeR (B:Nat) (w:World) (v:Value):Option (List Pl.Sv × Nat × Nat × Bool)->Prop
 |none=>∃ao n cap fr ne lo,v=.agg #[.slice ao n cap,.int .i64 fr,.bool false,.int .i64 ne,.bool lo]
 |some (c,fr,ne,lo)=>∃ao cap F,v=.agg #[.slice ao c.length cap,.int .i64 fr,.bool true,.int .i64 ne,.bool lo]/\OwS w (.slice ao c.length cap) c F/\Inb B w F
theorem CodeR.keep {B C:Nat}{w w':World}{v:Value}{r:Option (List Pl.Sv × Nat × Nat × Bool)}(h:CodeR B w v r) (hb:Below C w w') (hC:w.heap.size<=C):CodeR B w' v r:=by
 cases r with
 |none=>exact h
 |some q =>
  obtain⟨c,fr,ne,lo⟩:=q
  obtain⟨ao,cap,F,rfl,h1,h2⟩:=h
  exact⟨ao,cap,F,rfl,h1.below Qs.lives h2 hb hC,h2.up (Nat.le_refl _) hb.size⟩
theorem CodeR.far {B p:Nat}{w w':World}{v:Value}{r:Option (List Pl.Sv × Nat × Nat × Bool)}(h:CodeR B w v r) (hg:w.grownBy w' (some p)) (hp:p<B):CodeR B w' v r:=by
 cases r with
 |none=>exact h
 |some q =>
  obtain⟨c,fr,ne,lo⟩:=q
  obtain⟨ao,cap,F,rfl,h1,h2⟩:=h
  exact⟨ao,cap,F,rfl,h1.grown Qs.lives h2 hg (fun b hb hm=>by cases hb;have:=(h2 _ hm).1;omega),h2.up (Nat.le_refl _) hg.size⟩
theorem grown_one {w:World}(p j:Nat) (v:Value) {w0:World}(h:w0.grownBy w (some p)):w0.grownBy (w.setCell ⟨p,j,none⟩ v) (some p) :=
 ⟨h.os,h.tape,h.output,by simpa using h.size,fun k hk hn=>(Below.heap_setCell _ _ _ k (fun e=>hn (by rw[e]))).trans (h.block k hk hn)⟩
theorem grown_box (w:World) (p:Nat) (v0 v1 v2 v3 v4:Value):w.grownBy (((((w.setCell ⟨p,0,none⟩ v0).setCell ⟨p,1,none⟩ v1).setCell ⟨p,2,none⟩ v2).setCell ⟨p,3,none⟩ v3).setCell ⟨p,4,none⟩ v4) (some p) :=
 grown_one p 4 _ (grown_one p 3 _ (grown_one p 2 _ (grown_one p 1 _ (grown_one p 0 _ (World.grownBy.refl w _)))))
theorem grown_alloc {w w1:World}{r:Option Nat}(h:w.grownBy w1 r) (o:Obj):w.grownBy (w1.alloc o) r:=grown_then h ((Below.refl w1.heap.size _).alloc (Nat.le_refl _) o) h.size
theorem below_far {B p:Nat}{w0 w w':World}(h:Below B w0 w) (hg:w.grownBy w' (some p)) (hB:B<=w.heap.size) (hp:B<=p):Below B w0 w':=h.grown hg hB (fun k hk=>by cases hk;exact hp)
theorem CodeR.low {B B':Nat}{w:World}{v:Value}{r:Option (List Pl.Sv × Nat × Nat × Bool)}(h:CodeR B w v r) (hB:B'<=B):CodeR B' w v r:=by
 cases r with
 |none=>exact h
 |some q =>
  obtain⟨c,fr,ne,lo⟩:=q
  obtain⟨ao,cap,F,rfl,h1,h2⟩:=h
  exact⟨ao,cap,F,rfl,h1,h2.up hB (Nat.le_refl _)⟩
theorem CodeR.form {B:Nat}{w:World}{v:Value}{r:Option (List Pl.Sv × Nat × Nat × Bool)}(h:CodeR B w v r):∃ao n cap fr ok ne lo,v=.agg #[.slice ao n cap,.int .i64 fr,.bool ok,.int .i64 ne,.bool lo]:=by
 cases r with
 |none =>
  obtain⟨ao,n,cap,fr,ne,lo,rfl⟩:=h
  exact⟨ao,n,cap,fr,false,ne,lo,rfl⟩
 |some q =>
  obtain⟨c,fr,ne,lo⟩:=q
  obtain⟨ao,cap,F,rfl,_,_⟩:=h
  exact⟨ao,_,cap,fr,true,ne,lo,rfl⟩
theorem CodeR.brk {B:Nat}{w:World}{ao:Option Addr}{n cap:Nat}{fr ne:Int}{ok lo:Bool}{r:Option (List Pl.Sv × Nat × Nat × Bool)}(h:CodeR B w (.agg #[.slice ao n cap,.int .i64 fr,.bool ok,.int .i64 ne,.bool lo]) r) (hn:∀q,r=some q->q.2.2.1<=1048576) (i:Nat):CodeR B w (.agg #[.slice ao n cap,.int .i64 i,.bool ok,.int .i64 (IntKind.i64.wrap (ne+1)),.bool lo]) (r.map fun q=>(q.1,i,q.2.2.1+1,q.2.2.2)):=by
 cases r with
 |none =>
  obtain⟨ao,n,cap,fr,ne,lo,e⟩:=h
  cases e
  exact⟨_,_,_,_,_,_,rfl⟩
 |some q =>
  obtain⟨c,fr',ne',lo'⟩:=q
  obtain⟨ao',cap',F,e,h1,h2⟩:=h
  have hq:=hn _ rfl
  simp only at hq
  cases e
  refine⟨ao,cap,F,?_,h1,h2⟩
  rw[show IntKind.i64.wrap ((ne':Int)+1)=((ne'+1:Nat):Int) by rw[IntKind.wrap_i64];omega]
theorem CodeR.no (B:Nat) (w:World):CodeR B w (.agg #[.slice none 0 0,.int .i64 0,.bool false,.int .i64 0,.bool false]) none:=⟨_,_,_,_,_,_,rfl⟩
def ofE (e:Pl.E):List Pl.Sv × Nat × Nat × Bool:=(e.code,0,e.nest,e.long)
def ofO (p:Pl.O × List Pl.T):List Pl.Sv × Nat × Nat × Bool:=(p.1.code,p.2.length,p.1.nest,p.1.long)
def HE (n:Nat):Prop:=∀(l:List Pl.Tok) (ao:Option Addr) (cap:Nat) (w:World),l.length<=1048576->l.length<=cap->cap<=9223372036854775807->2 * l.length+1<=n->(∀t∈l,Pl.kOk t.k)->RdK w.heap.size w ao l ->
 Calls Tryz.prog 33 #[.slice ao l.length cap] w fun e w'=>∃v,e=.returned v/\Below w.heap.size w w'/\CodeR w.heap.size w' v ((Pl.rexpr n (l.map Pl.tkT)).map ofE)
theorem RdK.part {B:Nat}{w:World}{b off:Nat}{l:List Pl.Tok}(h:RdK B w (some ⟨b,off,none⟩) l) (i j:Nat):RdK B w (some ⟨b,off+i * 4,none⟩) ((l.take j).drop i):=by
 rcases h with rfl|⟨b',off',hB,e,hc⟩
 ·exact .inl sI
 cases e
 refine .inr ⟨b,off+i * 4,hB,rfl,fun k t hk=>?_⟩
 have hk':l[i+k]? = some t:=by
  rw[List.getElem?_drop] at hk
  rw[List.getElem?_take] at hk
  split at hk
  ·exact hk
  cases hk
 have:=hc (i+k) t hk'
 rw[show off+(i+k) * 4=off+i * 4+k * 4 by rw[Nat.add_mul];omega] at this
 exact this
theorem field68 (k v:Int) (tx:ByteArray) (w:World):(Instr.field 80 (.agg #[.int .i64 k,.string tx,.int .i64 v]) 1).run Tryz.prog w=.ok (.string tx) w:=by kernel_rfl
theorem look_at {l:List Pl.Itk}{p cap a o:Nat}{ao:Option Addr}{be:Bool}{w:World}(hl:l.length<=1048576) (ha:a<=1048590) (hP:Ps w p ao l.length cap a o be) (hR:RdJ w.heap.size w ao l) :
  Calls Tryz.prog 65 #[.pointer (some ⟨p,0,none⟩),.int .i64 0] w fun e w'=>e=.returned (.agg #[.int .i64 (Pl.tkAt l a).k,.string (Pl.tkAt l a).tx,.int .i64 (Pl.tkAt l a).v])/\Below w.heap.size w w' :=
 look_any l p cap ao a 0 w hl oM oM hP.lt hP.c0 hP.c1 hR
theorem grown_none {w w':World}(hb:Below w.heap.size w w') (r:Option Nat):w.grownBy w' r:=⟨hb.os,hb.tape,hb.output,hb.size,fun k hk _=>hb.block k hk⟩
theorem sign_any (l:List Pl.Itk) (p cap a o:Nat) (ao:Option Addr) (be:Bool) (text:ByteArray) (w:World) (hl:l.length<=1048576) (ha:a<=1048590) (hP:Ps w p ao l.length cap a o be) (hR:RdJ w.heap.size w ao l) :
  Calls Tryz.prog 64 #[.pointer (some ⟨p,0,none⟩),.string text] w fun e w'=>e=.returned (.bool (decide ((Pl.tkAt l a).tx=text)))/\Ps w' p ao l.length cap (if (Pl.tkAt l a).tx=text then a+1 else a) o be/\w.grownBy w' (some p):=by
 have K:=zH (look_at hl ha hP hR)
 have HP:=zH hP
 clear hR hP
 generalize Pl.tkAt l a=t at *
 generalize l.length=n at *
 have hfd:=field68 t.k t.v t.tx
 by_cases h:t.tx=text
 ·have hq:(t.tx.toList == text.toList)=true:=by rw[ba_eq];exact decide_eq_true h
  rw[decide_eq_true h,if_pos h]
  clear h
  go_enter Tryz.func64,Tryz.ntmps64
  go_wp2_with fail
  refine K.out.mono ?_
  rintro e w1 ⟨rfl,hb1⟩
  have P1:=zH (HP.out.keep hb1)
  have q1:=P1.out.c1
  have qf:=P1.out.fz
  have B1:=zH hb1
  clear hb1 K HP
  have E:Hid (Ps (w1.setCell ⟨p,1,none⟩ (.int .i64 ((a+1:Nat):Int))) p ao n cap (a+1) o be/\w.grownBy (w1.setCell ⟨p,1,none⟩ (.int .i64 ((a+1:Nat):Int))) (some p)):=⟨P1.out.at' (a+1),grown_set B1.out (Nat.le_refl _) p 1 _⟩
  go_wp2_with fail
  go_ret
  exact⟨rfl,E.out⟩
 have hq:(t.tx.toList == text.toList)=false:=by rw[ba_eq];exact decide_eq_false h
 rw[decide_eq_false h,if_neg h]
 clear h
 go_enter Tryz.func64,Tryz.ntmps64
 go_wp2_with fail
 refine K.out.mono ?_
 rintro e w1 ⟨rfl,hb1⟩
 have E:Hid (Ps w1 p ao n cap a o be/\w.grownBy w1 (some p)):=⟨HP.out.keep hb1,grown_none hb1 _⟩
 clear hb1 K HP
 go_wp2_with fail
 go_ret
 exact⟨rfl,E.out⟩
namespace Pl
def atfV (t:Itk):Bool:=decide (t.k=3) || decide (t.tx=⟨#[64]⟩) || mgs.any (fun m=>decide (m.t=t.tx.data.toList))
end Pl
theorem atFunction_any (l:List Pl.Itk) (p cap a o mb mo cp:Nat) (ao:Option Addr) (be:Bool) (w:World) (hl:l.length<=1048576) (ha:a<=1048590) (hM:Mt w mb mo cp) (hP:Ps w p ao l.length cap a o be) (hR:RdJ w.heap.size w ao l) :
  Calls Tryz.prog 102 #[.pointer (some ⟨p,0,none⟩)] w fun e w'=>e=.returned (.bool (Pl.atfV (Pl.tkAt l a)))/\Below w.heap.size w w':=by
 have K:=zH (look_at hl ha hP hR)
 have KM:Hid (∀w',Below w.heap.size w w'->Calls Tryz.prog 87 #[.string (Pl.tkAt l a).tx] w' fun e w2=>e=.returned (.bool (Pl.mgs.any (fun m=>decide (m.t=(Pl.tkAt l a).tx.data.toList))))/\Below w'.heap.size w' w2):=fun w' hb=>hasMeaning_any (Pl.tkAt l a).tx mb mo cp w' (hM.keep hb)
 have HV:Hid (Pl.atfV (Pl.tkAt l a)=(decide ((Pl.tkAt l a).k=3) || decide ((Pl.tkAt l a).tx=⟨#[64]⟩) || Pl.mgs.any (fun m=>decide (m.t=(Pl.tkAt l a).tx.data.toList)))):=rfl
 clear hR hP hM
 generalize Pl.atfV (Pl.tkAt l a)=R at *
 generalize Pl.tkAt l a=t at *
 generalize Pl.mgs.any (fun m=>decide (m.t=t.tx.data.toList))=mm at *
 have hq:(t.tx.toList == [64])=decide (t.tx=⟨#[64]⟩):=by
  have:=@ba_eq t.tx ⟨#[64]⟩
  rw[show (⟨#[64]⟩:ByteArray).toList=[64] from by rw[ByteArray.toList_eq]] at this
  exact this
 generalize decide (t.tx=⟨#[64]⟩)=d at *
 have BA:Hid (∀w1 ob,Below w.heap.size w w1->Below w.heap.size w (w1.alloc ob)):=fun w1 ob h=>h.alloc h.size ob
 by_cases h3:t.k=3
 ·have HR:=zH (show R=true by rw[HV.out];simp[h3])
  rw[h3] at K
  clear HV h3
  go_enter Tryz.func102,Tryz.ntmps102
  go_wp2_with fail
  refine K.out.mono ?_
  rintro e w1 ⟨rfl,hb1⟩
  go_wp2_with fail
  go_ret
  exact⟨by rw[HR.out];rfl,BA.out _ _ hb1⟩
 have h3':(t.k == 3)=false:=by simpa using h3
 cases d
 ·have HR:=zH (show R=mm by rw[HV.out];simp[h3])
  clear HV h3
  go_enter Tryz.func102,Tryz.ntmps102
  go_wp2_with fail
  refine K.out.mono ?_
  rintro e w1 ⟨rfl,hb1⟩
  have B1:=zH hb1
  clear hb1 K
  go_wp2_with fail
  refine(KM.out _ (BA.out _ _ B1.out)).mono ?_
  rintro e w2 ⟨rfl,hb2⟩
  have B2:=zH ((BA.out _ _ B1.out).trans (hb2.mono (BA.out _ _ B1.out).size))
  clear hb2
  go_wp2_with fail
  go_ret
  exact⟨by rw[HR.out];rfl,B2.out⟩
 have HR:=zH (show R=true by rw[HV.out];simp)
 clear HV h3
 go_enter Tryz.func102,Tryz.ntmps102
 go_wp2_with fail
 refine K.out.mono ?_
 rintro e w1 ⟨rfl,hb1⟩
 go_wp2_with fail
 go_ret
 exact⟨by rw[HR.out];rfl,BA.out _ _ hb1⟩
namespace Pl
def opn (l:List UInt8):Int:=match rowOf l with | some m=>en m | none=>0
end Pl
theorem field114 (a b c d:Int) (w:World):(Instr.field 149 (.agg #[.int .i64 a,.int .i64 b,.int .i64 0,.string ⟨#[]⟩,.int .i64 c,.int .i64 d,.int .i64 0,.string ⟨#[]⟩]) 1).run Tryz.prog w=.ok (.agg #[.int .i64 c,.int .i64 d,.int .i64 0,.string ⟨#[]⟩]) w:=by kernel_rfl
theorem operationNumber_any (s:ByteArray) (mb mo cp:Nat) (w:World) (hm:Mt w mb mo cp) :
  Calls Tryz.prog 116 #[.string s] w fun e w'=>e=.returned (.int .i64 (Pl.opn s.data.toList))/\Below w.heap.size w w':=by
 have K:=zH (usesOf_any s mb mo cp w hm)
 unfold Pl.opn
 cases h:Pl.rowOf s.data.toList with
 |none =>
  rw[usV_none h] at K
  have hfd:=field114 0 0 0 0
  simp only
  clear h hm
  go_enter Tryz.func116,Tryz.ntmps116
  go_wp2_with (go_at_call 101;refine K.out.mono ?_;rintro e w2 ⟨rfl,hb2⟩)
  go_ret
  exact⟨rfl,hb2.alloc (hb2.size) _⟩
 |some m =>
  rw[usV_some h] at K
  simp only
  have HE:Hid (Pl.en m=if m.tk=5 then m.tw else 0):=rfl
  generalize Pl.en m=R at *
  clear h hm
  by_cases h5:m.tk=5
  ·have HR:=zH (show R=m.tw by rw[HE.out,if_pos h5])
   rw[h5] at K
   have hfd:=field114 m.ok m.ow 5 m.tw
   clear HE
   go_enter Tryz.func116,Tryz.ntmps116
   go_wp2_with (go_at_call 101;refine K.out.mono ?_;rintro e w2 ⟨rfl,hb2⟩)
   go_ret
   exact⟨by rw[HR.out];rfl,hb2.alloc (hb2.size) _⟩
  have HR:=zH (show R=0 by rw[HE.out,if_neg h5])
  have h5':(m.tk == 5)=false:=by simpa using h5
  have hfd:=field114 m.ok m.ow m.tk m.tw
  clear HE
  go_enter Tryz.func116,Tryz.ntmps116
  go_wp2_with (go_at_call 101;refine K.out.mono ?_;rintro e w2 ⟨rfl,hb2⟩)
  go_ret
  exact⟨by rw[HR.out];rfl,hb2.alloc (hb2.size) _⟩
structure Ej (w:World) (l:List Pl.Itk) (p:Nat) (ao:Option Addr) (mb mo cp:Nat):Prop where
 r:RdJ p w ao l
 m:Mt w mb mo cp
 mp:mb<p
 op:1<p
theorem RdJ.up {B B':Nat}{w:World}{ao:Option Addr}{l:List Pl.Itk}(h:RdJ B w ao l) (hb:B<=B'):RdJ B' w ao l:=by
 rcases h with h|⟨b,off,hB,e,hc⟩
 ·exact .inl h
 exact .inr ⟨b,off,by omega,e,hc⟩
theorem Ej.low {w w':World}{l:List Pl.Itk}{p:Nat}{ao:Option Addr}{mb mo cp:Nat}(h:Ej w l p ao mb mo cp) (hb:Below p w w'):Ej w' l p ao mb mo cp:=by
 obtain⟨h1,⟨g1,g2,g3,g4,x,g5⟩,h3,h4⟩:=h
 refine⟨h1.keep hb,⟨(hb.cell (p:=⟨1,0,none⟩) h4).trans g1,Nat.lt_of_lt_of_le g2 hb.size,Nat.lt_of_lt_of_le g3 hb.size,fun k m hm=>?_,x,(hb.cell (p:=⟨0,0,none⟩) (show 0<p by omega)).trans g5⟩,h3,h4⟩
 obtain⟨a,b,c,d,e⟩:=g4 k m hm
 exact⟨(hb.cell (p:=⟨mb,mo+k * 5,none⟩) h3).trans a,(hb.cell (p:=⟨mb,mo+k * 5+1,none⟩) h3).trans b,(hb.cell (p:=⟨mb,mo+k * 5+2,none⟩) h3).trans c,(hb.cell (p:=⟨mb,mo+k * 5+3,none⟩) h3).trans d,(hb.cell (p:=⟨mb,mo+k * 5+4,none⟩) h3).trans e⟩
theorem below_p {w w':World}{p:Nat}(hp:p<=w.heap.size) (hg:w.grownBy w' (some p)):Below p w w':=⟨hg.os,hg.tape,hg.output,hg.size,fun k hk=>hg.block k oM (fun e=>by cases e;omega)⟩
theorem Ej.grown {w w':World}{l:List Pl.Itk}{p:Nat}{ao:Option Addr}{mb mo cp:Nat}(h:Ej w l p ao mb mo cp) (hp:p<=w.heap.size) (hg:w.grownBy w' (some p)):Ej w' l p ao mb mo cp:=h.low (below_p hp hg)
structure Fu (w X:World) (l:List Pl.Itk) (p cap:Nat) (ao:Option Addr) (mb mo cp a o:Nat) (be:Bool):Prop where
 e:Ej X l p ao mb mo cp
 ps:Ps X p ao l.length cap a o be
 g:w.grownBy X (some p)
 pw:p<w.heap.size
 lt:w.heap.size<X.heap.size
 z0:X.cell? ⟨w.heap.size,0,none⟩=some (.int .i64 0)
 z1:X.cell? ⟨w.heap.size,1,none⟩=some (.int .i64 0)
 z2:X.cell? ⟨w.heap.size,2,none⟩=some (.int .i64 0)
 z3:X.cell? ⟨w.heap.size,3,none⟩=some (.string ⟨#[]⟩)
 z4:X.cell? ⟨w.heap.size,4,none⟩=some (.int .i64 0)
 z5:X.cell? ⟨w.heap.size,5,none⟩=some (.int .i64 0)
 z6:X.cell? ⟨w.heap.size,6,none⟩=some (.int .i64 0)
 z7:X.cell? ⟨w.heap.size,7,none⟩=some (.string ⟨#[]⟩)
 zf:∀j,X.frozen? ⟨w.heap.size,j,none⟩=false
section
variable {w X X':World} {l:List Pl.Itk} {p cap:Nat} {ao:Option Addr} {mb mo cp a a' o o':Nat} {be be':Bool}
theorem Fu.step (h:Fu w X l p cap ao mb mo cp a o be) (hg:X.grownBy X' (some p)) (hP:Ps X' p ao l.length cap a' o' be'):Fu w X' l p cap ao mb mo cp a' o' be':=by
 have e:=hg.block w.heap.size h.lt (fun e=>by cases e;have:=h.pw;omega)
 have g (j:Nat):X'.cell? ⟨w.heap.size,j,none⟩=X.cell? ⟨w.heap.size,j,none⟩:=World.cell?_of_block e
 exact⟨h.e.grown (Nat.le_of_lt h.ps.lt) hg,hP,h.g.trans hg,h.pw,Nat.lt_of_lt_of_le h.lt hg.size,(g 0).trans h.z0,(g 1).trans h.z1,(g 2).trans h.z2,(g 3).trans h.z3,(g 4).trans h.z4,(g 5).trans h.z5,(g 6).trans h.z6,(g 7).trans h.z7,fun j=>(World.frozen?_of_block (a:=⟨w.heap.size,j,none⟩) e).trans (h.zf j)⟩
theorem Fu.keep (h:Fu w X l p cap ao mb mo cp a o be) (hb:Below X.heap.size X X'):Fu w X' l p cap ao mb mo cp a o be:=h.step (grown_none hb _) (h.ps.keep hb)
theorem Fu.new (hE:Ej w l p ao mb mo cp) (hP:Ps w p ao l.length cap a o be):Fu w (w.alloc (.cells #[.int .i64 0,.int .i64 0,.int .i64 0,.string ⟨#[]⟩,.int .i64 0,.int .i64 0,.int .i64 0,.string ⟨#[]⟩] 149)) l p cap ao mb mo cp a o be:=by
 have hb:Below w.heap.size w (w.alloc (.cells #[.int .i64 0,.int .i64 0,.int .i64 0,.string ⟨#[]⟩,.int .i64 0,.int .i64 0,.int .i64 0,.string ⟨#[]⟩] 149)):=(Below.refl _ _).alloc (Nat.le_refl _) _
 exact⟨hE.low (hb.mono (Nat.le_of_lt hP.lt)),hP.keep hb,grown_none hb _,hP.lt,by simp,by simp[go_sem],by simp[go_sem],by simp[go_sem],by simp[go_sem],by simp[go_sem],by simp[go_sem],by simp[go_sem],by simp[go_sem],fun j=>by simp[go_sem]⟩
theorem Fu.end_ (h:Fu w X l p cap ao mb mo cp a o be) (v0 v1 v2 v3 v4 v5 v6 v7:Value):Ps ((((((((X.setCell ⟨w.heap.size,0,none⟩ v0).setCell ⟨w.heap.size,1,none⟩ v1).setCell ⟨w.heap.size,2,none⟩ v2).setCell ⟨w.heap.size,3,none⟩ v3).setCell ⟨w.heap.size,4,none⟩ v4).setCell ⟨w.heap.size,5,none⟩ v5).setCell ⟨w.heap.size,6,none⟩ v6).setCell ⟨w.heap.size,7,none⟩ v7) p ao l.length cap a o be/\w.grownBy ((((((((X.setCell ⟨w.heap.size,0,none⟩ v0).setCell ⟨w.heap.size,1,none⟩ v1).setCell ⟨w.heap.size,2,none⟩ v2).setCell ⟨w.heap.size,3,none⟩ v3).setCell ⟨w.heap.size,4,none⟩ v4).setCell ⟨w.heap.size,5,none⟩ v5).setCell ⟨w.heap.size,6,none⟩ v6).setCell ⟨w.heap.size,7,none⟩ v7) (some p):=by
 have hn:¬p=w.heap.size:=by have:=h.pw;omega
 have e:((((((((X.setCell ⟨w.heap.size,0,none⟩ v0).setCell ⟨w.heap.size,1,none⟩ v1).setCell ⟨w.heap.size,2,none⟩ v2).setCell ⟨w.heap.size,3,none⟩ v3).setCell ⟨w.heap.size,4,none⟩ v4).setCell ⟨w.heap.size,5,none⟩ v5).setCell ⟨w.heap.size,6,none⟩ v6).setCell ⟨w.heap.size,7,none⟩ v7)=X.setCells w.heap.size 0 [v0,v1,v2,v3,v4,v5,v6,v7]:=rfl
 rw[e]
 exact⟨h.ps.far hn 0 _,grown_then h.g (setCells_below (B:=w.heap.size) _ (Nat.le_refl _) _ 0 _ (Below.refl _ _)) (Nat.le_refl _)⟩
end
namespace Pl
def drv (k n:Int):Int × Int × Int:=(if n=0 then 0 else k,n,0)
def drv2 (m n:Int):Int × Int × Int:=if m=0\/n=0 then (0,0,0) else (8,m,n)
def fuI (l:List Itk) (a:Nat):(Int × Int × Int × ByteArray) × (Int × Int × Int × ByteArray) × Nat :=
 let t:=tkAt l a
 let t1:=tkAt l (a+1)
 let n:=opn t.tx.data.toList
 let z:Int × Int × Int × ByteArray:=(0,0,0,⟨#[]⟩)
 if t.k=3 then ((10,0,0,t.tx),(10,0,0,t.tx),a+1)
 else if t.tx=⟨#[64]⟩ then (z,((drv 7 (opn t1.tx.data.toList)).1,(drv 7 (opn t1.tx.data.toList)).2.1,0,⟨#[]⟩),a+1+1)
 else if t1.tx=⟨#[47]⟩ then (((drv 3 n).1,n,0,⟨#[]⟩),z,a+1+1)
 else if t1.tx=⟨#[92]⟩ then (((drv 4 n).1,n,0,⟨#[]⟩),z,a+1+1)
 else if t1.tx=⟨#[46]⟩ then (z,((drv2 n (opn (tkAt l (a+1+1)).tx.data.toList)).1,(drv2 n (opn (tkAt l (a+1+1)).tx.data.toList)).2.1,(drv2 n (opn (tkAt l (a+1+1)).tx.data.toList)).2.2,⟨#[]⟩),a+1+1+1)
 else match rowOf t.tx.data.toList with
  |some m=>((m.ok,m.ow,0,⟨#[]⟩),(m.tk,m.tw,0,⟨#[]⟩),a+1)
  |none=>(z,z,a+1)
end Pl
def ag8 (q:(Int × Int × Int × ByteArray) × (Int × Int × Int × ByteArray) × Nat):Value:=.agg #[.int .i64 q.1.1,.int .i64 q.1.2.1,.int .i64 q.1.2.2.1,.string q.1.2.2.2,.int .i64 q.2.1.1,.int .i64 q.2.1.2.1,.int .i64 q.2.1.2.2.1,.string q.2.1.2.2.2]
namespace Pl
def sepN (l:List Itk):Nat->Nat->Nat
 |0,a=>a
 |n+1,a=>if (tkAt l a).tx=⟨#[59]⟩ then sepN l n (a+1) else a
def sepA (l:List Itk) (a:Nat):Nat:=sepN l (l.length-a) a
theorem tkAt_past {l:List Itk}{a:Nat}(h:l.length<=a):tkAt l a=noTk:=by unfold tkAt;rw[List.getElem?_eq_none h];rfl
theorem sep_yes {l:List Itk}{a:Nat}(h:(tkAt l a).tx=⟨#[59]⟩):a<l.length/\sepA l a=sepA l (a+1):=by
 have ha:a<l.length:=by
  by_cases ha:a<l.length
  ·exact ha
  rw[tkAt_past oM] at h
  exact absurd (congrArg ByteArray.size h) (by decide)
 refine⟨ha,?_⟩
 unfold sepA
 rw[show l.length-a=(l.length-(a+1))+1 by omega,sepN,if_pos h]
theorem sep_no {l:List Itk}{a:Nat}(h:¬(tkAt l a).tx=⟨#[59]⟩):sepA l a=a:=by
 unfold sepA
 cases l.length-a with
 |zero=>rfl
 |succ n=>rw[sepN,if_neg h]
theorem sepN_ge (l:List Itk):∀n a,a<=sepN l n a/\sepN l n a<=a+n
 |0,a=>⟨Nat.le_refl _,Nat.le_refl _⟩
 |n+1,a=>by
  have:=sepN_ge l n (a+1)
  rw[sepN]
  split <;> omega
end Pl
theorem separators_any (l:List Pl.Itk) (p cap a o mb mo cp:Nat) (ao:Option Addr) (be:Bool) (w:World) (hl:l.length<=1048576) (ha:a<=1048580) (hE:Ej w l p ao mb mo cp) (hP:Ps w p ao l.length cap a o be) :
  Calls Tryz.prog 38 #[.pointer (some ⟨p,0,none⟩)] w fun e w'=>e=.returned (.bool (decide (a<Pl.sepA l a)))/\Ps w' p ao l.length cap (Pl.sepA l a) o be/\w.grownBy w' (some p):=by
 have KS:Hid (∀(X:World) (a':Nat),Ej X l p ao mb mo cp->Ps X p ao l.length cap a' o be->a'<=1048590->Calls Tryz.prog 64 #[.pointer (some ⟨p,0,none⟩),.string ⟨#[59]⟩] X fun e w'=>e=.returned (.bool (decide ((Pl.tkAt l a').tx=⟨#[59]⟩)))/\Ps w' p ao l.length cap (if (Pl.tkAt l a').tx=⟨#[59]⟩ then a'+1 else a') o be/\X.grownBy w' (some p)):=fun X a' hE hP h=>sign_any l p cap a' o ao be ⟨#[59]⟩ X hl h hP (hE.r.up (Nat.le_of_lt hP.lt))
 have I0:Hid (Ej w l p ao mb mo cp/\Ps w p ao l.length cap a o be/\w.grownBy w (some p)/\Pl.sepA l a=Pl.sepA l a):=⟨hE,hP,World.grownBy.refl _ _,rfl⟩
 have hgt:Hid (a<=Pl.sepA l a):=(Pl.sepN_ge l _ a).1
 have c1:=hP.c1
 have m1:=c1
 clear hE hP
 generalize hS:Pl.sepA l a=S at *
 go_enter Tryz.func38,Tryz.ntmps38
 go_wp2_with fail
 go_loopw [9] (fun v9 wr=>∃i:Nat,a<=i/\(i<=a\/i<=l.length)/\Hid (Ej wr l p ao mb mo cp/\Ps wr p ao l.length cap i o be/\w.grownBy wr (some p)/\S=Pl.sepA l i)) (fun v9 wr=>l.length+1-(intOf ((wr.cell? ⟨p,1,none⟩).getD undef)).toNat)
 case atStart=>exact⟨a,Nat.le_refl _,.inl (Nat.le_refl _),I0.out.1,I0.out.2.1,I0.out.2.2.1,hS.symm⟩
 rename World=>wr
 obtain⟨i,hi1,hi2,HH⟩:=hrel
 have K:=zH (KS.out wr i HH.out.1 HH.out.2.1 oM)
 have n1:=HH.out.2.1.c1
 by_cases h:(Pl.tkAt l i).tx=⟨#[59]⟩
 ·obtain⟨hil,hse⟩:=Pl.sep_yes h
  rw[decide_eq_true h,if_pos h] at K
  go_wp2_with fail
  refine K.out.mono ?_
  rintro e w2 ⟨rfl,hP2,hg2⟩
  have q1:=hP2.c1
  have H2:Hid (Ej w2 l p ao mb mo cp/\Ps w2 p ao l.length cap (i+1) o be/\w.grownBy w2 (some p)/\S=Pl.sepA l (i+1)):=⟨HH.out.1.grown (Nat.le_of_lt HH.out.2.1.lt) hg2,hP2,HH.out.2.2.1.trans hg2,by rw[HH.out.2.2.2,hse]⟩
  clear hP2 hg2 HH K
  go_wp2_with fail
  go_roundw
  case rel=>exact⟨i+1,by omega,by omega,H2⟩
  simp[q1,n1,intOf] <;> omega
 rw[decide_eq_false h,if_neg h] at K
 have hSi:=HH.out.2.2.2.trans (Pl.sep_no h)
 go_wp2_with fail
 refine K.out.mono ?_
 rintro e w2 ⟨rfl,hP2,hg2⟩
 have q1:=hP2.c1
 have q0:w2.heap.size=w2.heap.size:=rfl
 have H2:Hid (Ps w2 p ao l.length cap i o be/\w.grownBy w2 (some p)):=⟨hP2,HH.out.2.2.1.trans hg2⟩
 clear hP2 hg2 HH K q0
 by_cases hai:a<i
 ·have HSI:=zH hSi
  clear hSi
  go_wp2_with fail
  refine bodyPost_ret (v:=.bool true) (by simp[results,Tryz.results38,go_sem];try omega) rfl ⟨by rw[HSI.out,decide_eq_true hai],by rw[HSI.out];exact H2.out.1,H2.out.2⟩
 have HSI:=zH hSi
 clear hSi
 go_wp2_with fail
 refine bodyPost_ret (v:=.bool false) (by simp[results,Tryz.results38,go_sem];try omega) rfl ⟨by rw[HSI.out,decide_eq_false hai],by rw[HSI.out];exact H2.out.1,H2.out.2⟩
theorem el77:El 86 3 1:=El.mk' (zr:=.int .i64 0) (bs:=8) Tryz.underlying86 kR rfl (by decide) (by decide)
theorem el34:El 40 90 7:=El.mk' (zr:=.agg #[.int .i64 0,.slice none 0 0,.string ByteArray.empty,.int .i64 0,.int .i64 0,.int .i64 0,.string ByteArray.empty]) (bs:=88) Tryz.underlying40 kR rfl (by decide) (by decide)
theorem el35:El 41 57 2:=El.mk' (zr:=.agg #[.slice none 0 0,.slice none 0 0]) (bs:=48) Tryz.underlying41 kR rfl (by decide) (by decide)
theorem el22:El 24 43 4:=El.mk' (zr:=.agg #[.int .i64 0,.string ByteArray.empty,.slice none 0 0,.slice none 0 0]) (bs:=72) Tryz.underlying24 kR rfl (by decide) (by decide)
theorem el32:El 38 34 1:=El.mk' (zr:=.slice none 0 0) (bs:=24) Tryz.underlying38 kR rfl (by decide) (by decide)
theorem ba_back (t:ByteArray):Pl.ba t.data.toList=t:=rfl
theorem Own.inb {α:Type}{et z:Nat}{Q:World->List Value->α->List Nat->Prop}(w:World) {B:Nat}(hB:B<=w.heap.size) (o:Obj):Inb B (w.alloc o) [w.heap.size]:=fun b hb=>by
 simp at hb
 subst hb
 exact⟨hB,by simp⟩
theorem Own.emp {α:Type}{et z:Nat}{Q:World->List Value->α->List Nat->Prop}(X:World) (p:Nat) (hp:p=X.heap.size):Own et z Q (X.alloc (.cells #[] et)) (.slice (some ⟨p,0,none⟩) 0 0) ([]:List α) [p]:=by subst hp;exact Own.empty X
theorem step0 (X:World) (p:Nat) (hp:p=X.heap.size) (k:Int) (nm:List UInt8) (f:Pl.Fnv):OwS ((X.alloc (.cells #[] 3)).alloc (.cells #[.int .i64 k,.slice (some ⟨p,0,none⟩) 0 0,.string (Pl.ba nm),.int .i64 f.k,.int .i64 f.a,.int .i64 f.b,.string (Pl.ba f.nm)] 90)) (.slice (some ⟨p+1,0,none⟩) 1 1) [⟨k,[],nm,f⟩] [p+1,p]:=by
 subst hp
 have h:=Own.lit (et:=90) (z:=7) Qs.lives (w:=X.alloc (.cells #[] 3)) (a:=⟨k,[],nm,f⟩) (ys:=[.int .i64 k,.slice (some ⟨X.heap.size,0,none⟩) 0 0,.string (Pl.ba nm),.int .i64 f.k,.int .i64 f.a,.int .i64 f.b,.string (Pl.ba f.nm)]) (G:=[X.heap.size]) (B:=0) ⟨_,rfl,Own.empty X⟩ (fun b hb=>by simp at hb;subst hb;simp) sI rfl
 simpa using h
theorem step1 {X:World}{v:Value}{ns:List Int}{F:List Nat}{B:Nat}(p:Nat) (hp:p=X.heap.size) (h:Own 3 1 Qi X v ns F) (hi:Inb B X F):OwS (X.alloc (.cells #[.int .i64 1,v,.string ⟨#[]⟩,.int .i64 0,.int .i64 0,.int .i64 0,.string ⟨#[]⟩] 90)) (.slice (some ⟨p,0,none⟩) 1 1) [⟨1,ns,[],Pl.f0⟩] (p::F):=by
 subst hp
 have hn:F.Nodup:=by obtain⟨_,_,_,_,_,hn⟩:=h;exact hn
 exact Own.lit (et:=90) (z:=7) Qs.lives (w:=X) (a:=⟨1,ns,[],Pl.f0⟩) (ys:=[.int .i64 1,v,.string ⟨#[]⟩,.int .i64 0,.int .i64 0,.int .i64 0,.string ⟨#[]⟩]) (G:=F) (B:=B) ⟨_,rfl,h⟩ hi hn rfl
theorem Qi.row (w:World) (n:Int):RowQ Qi w [.int .i64 n] [n] []:=RowQ.one ⟨rfl,rfl⟩
def Pl.vals (l:List Pl.Tok) (i k:Nat):List Int:=((l.take k).drop i).map (·.v)
theorem Pl.drop_take_succ {l:List Pl.Tok}{i k:Nat}(hk:k<l.length) (hi:i<=k):Pl.vals l i (k+1)=Pl.vals l i k++[(Pl.tq l k).v]:=by
 unfold Pl.vals
 have h1:l.take (k+1)=l.take k++[Pl.tq l k]:=by
  rw[List.take_add_one,List.getElem?_eq_getElem hk]
  unfold Pl.tq
  rw[List.getElem?_eq_getElem hk]
  rfl
 rw[h1,List.drop_append_of_le_length (by simp;omega),List.map_append]
 rfl
theorem ready_valq {P:Program}{ops:Array Oper}{Q:Exit->Act->World->Prop}{o:Oper}{a:Act}{w w':World}{K:Act->World->Prop}(hg:o.guard=none) (v:Value) (h:(execOp a.eval o).run P w=.ok (.value v) w') (hK:K (a.put o.dst v) w') :
  if Region.wanted o (yielded ops a.tmps)=true then Oper.wp P o a w K Q else K (a.put o.dst undef) w:=by
 have hw:Region.wanted o (yielded ops a.tmps)=true:=by simp[Region.wanted,hg]
 rw[if_pos hw]
 unfold Oper.wp
 rw[h]
 exact hK
theorem ready_callq {P:Program}{ops:Array Oper}{Q:Exit->Act->World->Prop}{o:Oper}{a:Act}{w:World}{K:Act->World->Prop}(hg:o.guard=none) (f:FuncId) (args:Array Value) (h:(execOp a.eval o).run P w=.ok (.enter f args) w) (hK:Calls P f args w fun e w'=>∃v,e=.returned v/\K (a.put o.dst v) w') :
  if Region.wanted o (yielded ops a.tmps)=true then Oper.wp P o a w K Q else K (a.put o.dst undef) w:=by
 have hw:Region.wanted o (yielded ops a.tmps)=true:=by simp[Region.wanted,hg]
 rw[if_pos hw]
 unfold Oper.wp
 rw[h]
 refine hK.mono ?_
 rintro e w' ⟨v,rfl,h⟩
 exact h
theorem step_valq {P:Program}{md:Region.Mode}{ops:Array Oper}{Q:Exit->Act->World->Prop}{S:World->Prop}{fuel:Nat}{listed:Array Bool}{i:Nat}{o:Oper}{a:Act}{w w':World}(hr:Region.ready md ops listed=[i]) (ho:ops[i]? = some o) (hg:o.guard=none) (v:Value) (h:(execOp a.eval o).run P w=.ok (.value v) w') (hS:S w')
  (hN:wpAnyH P md ops Q S fuel (listed.setIfInBounds i true) (a.put o.dst v) w'):wpAnyH P md ops Q S (fuel+1) listed a w :=
 wpAnyH_ready hr sI (AllReadyH.cons ho (fun K hK=>ready_valq hg v h (hK.out _ _ hS (fun _=>hN))) AllReadyH.nil)
theorem step_callq {P:Program}{md:Region.Mode}{ops:Array Oper}{Q:Exit->Act->World->Prop}{S:World->Prop}{fuel:Nat}{listed:Array Bool}{i:Nat}{o:Oper}{a:Act}{w:World}(hr:Region.ready md ops listed=[i]) (ho:ops[i]? = some o) (hg:o.guard=none) (f:FuncId) (args:Array Value) (h:(execOp a.eval o).run P w=.ok (.enter f args) w)
  (hN:Calls P f args w fun e w'=>∃v,e=.returned v/\S w'/\wpAnyH P md ops Q S fuel (listed.setIfInBounds i true) (a.put o.dst v) w'):wpAnyH P md ops Q S (fuel+1) listed a w :=
 wpAnyH_ready hr sI (AllReadyH.cons ho (fun K hK=>ready_callq hg f args h (hN.mono (by
  rintro e w' ⟨v,rfl,hS,hW⟩
  exact⟨v,rfl,hK.out _ _ hS (fun _=>hW)⟩))) AllReadyH.nil)
theorem ready_skip {P:Program}{ops:Array Oper}{Q:Exit->Act->World->Prop}{o:Oper}{a:Act}{w w':World}{K:Act->World->Prop}(hg:o.guard=none) (h:(execOp a.eval o).run P w=.ok .skip w') (hK:K (a.put o.dst undef) w') :
  if Region.wanted o (yielded ops a.tmps)=true then Oper.wp P o a w K Q else K (a.put o.dst undef) w:=by
 have hw:Region.wanted o (yielded ops a.tmps)=true:=by simp[Region.wanted,hg]
 rw[if_pos hw]
 unfold Oper.wp
 rw[h]
 exact hK
theorem step_skip {P:Program}{md:Region.Mode}{ops:Array Oper}{Q:Exit->Act->World->Prop}{S:World->Prop}{fuel:Nat}{listed:Array Bool}{i:Nat}{o:Oper}{a:Act}{w w':World}(hr:Region.ready md ops listed=[i]) (ho:ops[i]? = some o) (hg:o.guard=none) (h:(execOp a.eval o).run P w=.ok .skip w') (hS:S w')
  (hN:wpAnyH P md ops Q S fuel (listed.setIfInBounds i true) (a.put o.dst undef) w'):wpAnyH P md ops Q S (fuel+1) listed a w :=
 wpAnyH_ready hr sI (AllReadyH.cons ho (fun K hK=>ready_skip hg h (hK.out _ _ hS (fun _=>hN))) AllReadyH.nil)
theorem exec_assignq {o:Oper}{a:Act}(x:Operand) (v:Value) (ho:o.op=Op.assign x) (hx:a.eval x=v) (w:World):(execOp a.eval o).run Tryz.prog w=.ok (.value v) w:=by
 simp[execOp,ho,hx]
theorem exec_moveq {o:Oper}{a:Act}(x:Operand) (v:Value) (ho:o.op=Op.move x) (hx:a.eval x=v) (w:World):(execOp a.eval o).run Tryz.prog w=.ok (.value v) w:=by
 simp[execOp,ho,hx]
theorem exec_sub3 {o:Oper}{a:Act}(x y:Operand) (m n r:Int) (ho:o.op=Op.binOp BinOp.sub 3 x y 3) (hx:a.eval x=.int .i64 m) (hy:a.eval y=.int .i64 n) (hr:IntKind.i64.wrap (m-n)=r) (w:World):(execOp a.eval o).run Tryz.prog w=.ok (.value (.int .i64 r)) w:=by
 subst hr
 simp only[execOp,ho,hx,hy]
 go_simp
theorem exec_idx28 {o:Oper}{a:Act}(x y:Operand) (b off n cap i:Nat) (ho:o.op=Op.indexAddr 34 x y) (hx:a.eval x=.slice (some ⟨b,off,none⟩) n cap) (hy:a.eval y=.int .i64 (i:Int)) (hi:i<n) (w:World):(execOp a.eval o).run Tryz.prog w=.ok (.value (.pointer (some ⟨b,off+i * 4,none⟩))) w:=by
 have h1:¬((i:Int)<0):=by omega
 have h2:(i:Int)<(n:Int):=by omega
 simp only[execOp,ho,hx,hy]
 go_simp
theorem exec_load31 {o:Oper}{a:Act}(x:Operand) (b off:Nat) (t:Pl.Tok) (w:World) (ho:o.op=Op.load 37 x) (hx:a.eval x=.pointer (some ⟨b,off,none⟩)) (d0:w.cell? ⟨b,off,none⟩=some (.int .u8 t.k)) (d1:w.cell? ⟨b,off+1,none⟩=some (.string t.tx)) (d2:w.cell? ⟨b,off+2,none⟩=some (.int .i64 t.v)) (d3:w.cell? ⟨b,off+3,none⟩=some (.int .i64 t.pos)) :
  (execOp a.eval o).run Tryz.prog w=.ok (.value (.agg #[.int .u8 t.k,.string t.tx,.int .i64 t.v,.int .i64 t.pos])) w:=by
 have z:=Tryz.sizeOf37
 have g:=Tryz.isAgg37
 simp only[execOp,ho,hx]
 go_simp
theorem exec_load79 {o:Oper}{a:Act}(x:Operand) (b:Nat) (k p q:Int) (s:ByteArray) (w:World) (ho:o.op=Op.load 88 x) (hx:a.eval x=.pointer (some ⟨b,0,none⟩)) (d0:w.cell? ⟨b,0,none⟩=some (.int .i64 k)) (d1:w.cell? ⟨b,1,none⟩=some (.int .i64 p)) (d2:w.cell? ⟨b,2,none⟩=some (.int .i64 q)) (d3:w.cell? ⟨b,3,none⟩=some (.string s)) :
  (execOp a.eval o).run Tryz.prog w=.ok (.value (.agg #[.int .i64 k,.int .i64 p,.int .i64 q,.string s])) w:=by
 have z:=Tryz.sizeOf88
 have g:=Tryz.isAgg88
 simp only[execOp,ho,hx]
 go_simp
theorem exec_call1 {o:Oper}{a:Act}(f:FuncId) (he:∀args w,(callFunc f args).run Tryz.prog w=.ok (.enter f args) w) (x:Operand) (v:Value) (ts:Array TypeId) (ho:o.op=Op.call { callee:=.value (.func f),args:=#[x],argTypes:=ts }) (hx:a.eval x=v) (w:World):(execOp a.eval o).run Tryz.prog w=.ok (.enter f #[v]) w:=by
 have hf:a.eval (.func f)=.func (.func f) #[] #[]:=rfl
 simp[execOp,ho,hx,hf,resolve,invoke,Deferred.ofValue,he]
theorem enter60:∀args w,(callFunc 80 args).run Tryz.prog w=.ok (.enter 80 args) w:=enters_of Tryz.func80 kR rfl
theorem exec_build79a {o:Oper}{a:Act}(x y:Operand) (m n:Int) (ho:o.op=Op.build 88 #[(0,x),(1,y)]) (hx:a.eval x=.int .i64 m) (hy:a.eval y=.int .i64 n) (w:World):(execOp a.eval o).run Tryz.prog w=.ok (.value (.agg #[.int .i64 m,.int .i64 n,.int .i64 0,.string ⟨#[]⟩])) w:=by
 simp[execOp,ho,hx,hy]
 go_simp
theorem exec_build79b {o:Oper}{a:Act}(x y z:Operand) (m n p:Int) (ho:o.op=Op.build 88 #[(0,x),(1,y),(2,z)]) (hx:a.eval x=.int .i64 m) (hy:a.eval y=.int .i64 n) (hz:a.eval z=.int .i64 p) (w:World):(execOp a.eval o).run Tryz.prog w=.ok (.value (.agg #[.int .i64 m,.int .i64 n,.int .i64 p,.string ⟨#[]⟩])) w:=by
 simp[execOp,ho,hx,hy,hz]
 go_simp
theorem exec_store79 {o:Oper}{a:Act}(x y:Operand) (b:Nat) (k p q:Int) (s:ByteArray) (u0 u1 u2 u3:Value) (w:World) (ho:o.op=Op.store 88 x y) (hx:a.eval x=.pointer (some ⟨b,0,none⟩)) (hy:a.eval y=.agg #[.int .i64 k,.int .i64 p,.int .i64 q,.string s]) (d0:w.cell? ⟨b,0,none⟩=some u0) (d1:w.cell? ⟨b,1,none⟩=some u1) (d2:w.cell? ⟨b,2,none⟩=some u2) (d3:w.cell? ⟨b,3,none⟩=some u3) (hf:∀j,w.frozen? ⟨b,j,none⟩=false) :
  (execOp a.eval o).run Tryz.prog w=.ok .skip ((((w.setCell ⟨b,0,none⟩ (.int .i64 k)).setCell ⟨b,1,none⟩ (.int .i64 p)).setCell ⟨b,2,none⟩ (.int .i64 q)).setCell ⟨b,3,none⟩ (.string s)):=by
 have z:=Tryz.sizeOf88
 have g:=Tryz.isAgg88
 simp only[execOp,ho,hx,hy]
 go_simp
def agF (f:Pl.Fq):Value:=.agg #[.int .i64 f.1,.int .i64 f.2.1,.int .i64 f.2.2.1,.string f.2.2.2]
structure Fx (w X:World) (s:Nat):Prop where
 b:Below s w X
 sz:s+3<=X.heap.size
 a0:X.cell? ⟨s,0,none⟩=some (.int .i64 0)
 a1:X.cell? ⟨s,1,none⟩=some (.int .i64 0)
 a2:X.cell? ⟨s,2,none⟩=some (.int .i64 0)
 a3:X.cell? ⟨s,3,none⟩=some (.string ⟨#[]⟩)
 b0:X.cell? ⟨s+1,0,none⟩=some (.int .i64 0)
 b1:X.cell? ⟨s+1,1,none⟩=some (.int .i64 0)
 b2:X.cell? ⟨s+1,2,none⟩=some (.int .i64 0)
 b3:X.cell? ⟨s+1,3,none⟩=some (.string ⟨#[]⟩)
 n0:X.cell? ⟨s+2,0,none⟩=some (.int .i64 0)
 n1:X.cell? ⟨s+2,1,none⟩=some (.int .i64 0)
 n2:X.cell? ⟨s+2,2,none⟩=some (.int .i64 0)
 n3:X.cell? ⟨s+2,3,none⟩=some (.string ⟨#[]⟩)
 fa:∀j,X.frozen? ⟨s,j,none⟩=false
 fb:∀j,X.frozen? ⟨s+1,j,none⟩=false
theorem Fx.keep {w X X':World}{s:Nat}(h:Fx w X s) (hb:Below X.heap.size X X'):Fx w X' s:=by
 have z:=h.sz
 exact⟨h.b.trans (hb.mono oM),Nat.le_trans h.sz hb.size,bcell hb oM h.a0,bcell hb oM h.a1,bcell hb oM h.a2,bcell hb oM h.a3,bcell hb oM h.b0,bcell hb oM h.b1,bcell hb oM h.b2,bcell hb oM h.b3,
  bcell hb oM h.n0,bcell hb oM h.n1,bcell hb oM h.n2,bcell hb oM h.n3,fun j=>bfroz hb oM (h.fa j),fun j=>bfroz hb oM (h.fb j)⟩
theorem Fx.drew {w X:World}{s:Nat}(h:Fx w X s):Fx w X.drew s:=h.keep ((Below.refl _ _).drew)
theorem Pl.isV_tx {l:List Pl.Tok}{k:Nat}{c:ByteArray}(hk:k<l.length) (h:Pl.isV l k c=true):(Pl.tq l k).tx=c:=by
 unfold Pl.isV at h
 rw[if_pos oM,show ((k:Int)).toNat=k by omega,List.getElem?_eq_getElem hk] at h
 unfold Pl.tq
 rw[List.getElem?_eq_getElem hk]
 simp at h
 exact h.2
structure Fy (w X:World) (s q:Nat) (t:Pl.Tok):Prop where
 fx:Fx w X s
 ge:s+3<=q
 lt:q<X.heap.size
 c0:X.cell? ⟨q,0,none⟩=some (.int .u8 t.k)
 c1:X.cell? ⟨q,1,none⟩=some (.string t.tx)
 c2:X.cell? ⟨q,2,none⟩=some (.int .i64 t.v)
 c3:X.cell? ⟨q,3,none⟩=some (.int .i64 t.pos)
theorem Fy.keep {w X X':World}{s q:Nat}{t:Pl.Tok}(h:Fy w X s q t) (hb:Below X.heap.size X X'):Fy w X' s q t :=
 ⟨h.fx.keep hb,h.ge,Nat.lt_of_lt_of_le h.lt hb.size,bcell hb h.lt h.c0,bcell hb h.lt h.c1,bcell hb h.lt h.c2,bcell hb h.lt h.c3⟩
theorem Fy.drew {w X:World}{s q:Nat}{t:Pl.Tok}(h:Fy w X s q t):Fy w X.drew s q t:=h.keep ((Below.refl _ _).drew)
theorem Fx.put {w X:World}{s:Nat}(h:Fx w X s) (t:Pl.Tok):Fy w (X.alloc (.cells #[.int .u8 t.k,.string t.tx,.int .i64 t.v,.int .i64 t.pos] 37)) s X.heap.size t :=
 ⟨h.keep ((Below.refl _ _).alloc (Nat.le_refl _) _),h.sz,by simp,by simp[go_sem],by simp[go_sem],by simp[go_sem],by simp[go_sem]⟩
theorem Fx.res {w X:World}{s:Nat}(h:Fx w X s) (f g:Pl.Fq) (Y:World)
  (hY:Y=((((((((X.setCell ⟨s,0,none⟩ (.int .i64 f.1)).setCell ⟨s,1,none⟩ (.int .i64 f.2.1)).setCell ⟨s,2,none⟩ (.int .i64 f.2.2.1)).setCell ⟨s,3,none⟩ (.string f.2.2.2)).setCell ⟨s+1,0,none⟩ (.int .i64 g.1)).setCell ⟨s+1,1,none⟩ (.int .i64 g.2.1)).setCell ⟨s+1,2,none⟩ (.int .i64 g.2.2.1)).setCell ⟨s+1,3,none⟩ (.string g.2.2.2))) :
  Below s w Y/\Y.cell? ⟨s,0,none⟩=some (.int .i64 f.1)/\Y.cell? ⟨s,1,none⟩=some (.int .i64 f.2.1)/\Y.cell? ⟨s,2,none⟩=some (.int .i64 f.2.2.1)/\Y.cell? ⟨s,3,none⟩=some (.string f.2.2.2)/\Y.cell? ⟨s+1,0,none⟩=some (.int .i64 g.1)/\Y.cell? ⟨s+1,1,none⟩=some (.int .i64 g.2.1)/\Y.cell? ⟨s+1,2,none⟩=some (.int .i64 g.2.2.1)/\Y.cell? ⟨s+1,3,none⟩=some (.string g.2.2.2):=by
 subst hY
 obtain⟨hb,_,a0,a1,a2,a3,b0,b1,b2,b3,_⟩:=h
 refine⟨(((((((hb.setCell (Nat.le_refl _) _).setCell (Nat.le_refl _) _).setCell (Nat.le_refl _) _).setCell (Nat.le_refl _) _).setCell (Nat.le_succ _) _).setCell (Nat.le_succ _) _).setCell (Nat.le_succ _) _).setCell (Nat.le_succ _) _,?_,?_,?_,?_,?_,?_,?_,?_⟩ <;> simp[go_sem,a0,a1,a2,a3,b0,b1,b2,b3]
structure Fs (w X:World) (s:Nat):Prop where
 b:Below s w X
 n0:X.cell? ⟨s+2,0,none⟩=some (.int .i64 0)
 n1:X.cell? ⟨s+2,1,none⟩=some (.int .i64 0)
 n2:X.cell? ⟨s+2,2,none⟩=some (.int .i64 0)
 n3:X.cell? ⟨s+2,3,none⟩=some (.string ⟨#[]⟩)
theorem Fx.fs {w X:World}{s:Nat}(h:Fx w X s):Fs w X s:=⟨h.b,h.n0,h.n1,h.n2,h.n3⟩
theorem Fs.set {w X:World}{s:Nat}(h:Fs w X s) (p:Nat) (hp:p=s\/p=s+1) (j:Nat) (v:Value):Fs w (X.setCell ⟨p,j,none⟩ v) s:=by
 have g (q:Nat):(X.setCell ⟨p,j,none⟩ v).cell? ⟨s+2,q,none⟩=X.cell? ⟨s+2,q,none⟩:=World.cell?_setCell_far _ _ _ _ (by simp;omega)
 exact⟨h.b.setCell (by simp;omega) _,(g 0).trans h.n0,(g 1).trans h.n1,(g 2).trans h.n2,(g 3).trans h.n3⟩
theorem Fs.set4 {w X:World}{s:Nat}(h:Fs w X s) (p:Nat) (hp:p=s\/p=s+1) (v0 v1 v2 v3:Value):Fs w ((((X.setCell ⟨p,0,none⟩ v0).setCell ⟨p,1,none⟩ v1).setCell ⟨p,2,none⟩ v2).setCell ⟨p,3,none⟩ v3) s:=(((h.set p hp 0 v0).set p hp 1 v1).set p hp 2 v2).set p hp 3 v3
structure Ft (w X:World) (s q:Nat) (t:Pl.Tok):Prop where
 fs:Fs w X s
 ge:s+3<=q
 c0:X.cell? ⟨q,0,none⟩=some (.int .u8 t.k)
 c1:X.cell? ⟨q,1,none⟩=some (.string t.tx)
 c2:X.cell? ⟨q,2,none⟩=some (.int .i64 t.v)
 c3:X.cell? ⟨q,3,none⟩=some (.int .i64 t.pos)
theorem Ft.set {w X:World}{s q:Nat}{t:Pl.Tok}(h:Ft w X s q t) (p:Nat) (hp:p=s\/p=s+1) (j:Nat) (v:Value):Ft w (X.setCell ⟨p,j,none⟩ v) s q t:=by
 have hg:=h.ge
 have g (i:Nat):(X.setCell ⟨p,j,none⟩ v).cell? ⟨q,i,none⟩=X.cell? ⟨q,i,none⟩:=World.cell?_setCell_far _ _ _ _ (by simp;omega)
 exact⟨h.fs.set p hp j v,h.ge,(g 0).trans h.c0,(g 1).trans h.c1,(g 2).trans h.c2,(g 3).trans h.c3⟩
theorem Ft.set4 {w X:World}{s q:Nat}{t:Pl.Tok}(h:Ft w X s q t) (p:Nat) (hp:p=s\/p=s+1) (v0 v1 v2 v3:Value):Ft w ((((X.setCell ⟨p,0,none⟩ v0).setCell ⟨p,1,none⟩ v1).setCell ⟨p,2,none⟩ v2).setCell ⟨p,3,none⟩ v3) s q t:=(((h.set p hp 0 v0).set p hp 1 v1).set p hp 2 v2).set p hp 3 v3
theorem Fx.half {w X:World}{s:Nat}(h:Fx w X s) (v0 v1 v2 v3:Value) (Y:World) (hY:Y=((((X.setCell ⟨s,0,none⟩ v0).setCell ⟨s,1,none⟩ v1).setCell ⟨s,2,none⟩ v2).setCell ⟨s,3,none⟩ v3)):Y.cell? ⟨s+1,0,none⟩=some (.int .i64 0)/\Y.cell? ⟨s+1,1,none⟩=some (.int .i64 0)/\Y.cell? ⟨s+1,2,none⟩=some (.int .i64 0)/\Y.cell? ⟨s+1,3,none⟩=some (.string ⟨#[]⟩)/\∀j,Y.frozen? ⟨s+1,j,none⟩=false:=by
 subst hY
 refine⟨by simp[go_sem,h.b0],by simp[go_sem,h.b1],by simp[go_sem,h.b2],by simp[go_sem,h.b3],fun j=>by simp[go_sem,h.fb]⟩
end Go.Proofs.YtbiiicbfpcfgdaaGreatDoor
