import Derived.Test.YtbiiicbfpcfgdaaGreatDoorFnb
namespace Go.Proofs.YtbiiicbfpcfgdaaGreatDoor
open Go.RowKit
set_option maxRecDepth 100000
set_option maxHeartbeats 16000000
set_option linter.unusedVariables false
namespace Pl
def numN (l:List Itk):Nat->Nat->List Int
 |0,_=>[]
 |n+1,a=>if (tkAt l a).k=1 then (tkAt l a).v::numN l n (a+1) else []
def numI (l:List Itk) (a:Nat):List Int:=numN l (l.length-a) a
theorem numI_yes {l:List Itk}{a:Nat}(h:(tkAt l a).k=1):a<l.length/\numI l a=(tkAt l a).v::numI l (a+1):=by
 have ha:a<l.length:=by
  by_cases ha:a<l.length
  ·exact ha
  rw[tkAt_past oM] at h
  exact absurd h (by decide)
 refine⟨ha,?_⟩
 unfold numI
 rw[show l.length-a=(l.length-(a+1))+1 by omega,numN,if_pos h]
theorem numI_no {l:List Itk}{a:Nat}(h:¬(tkAt l a).k=1):numI l a=[]:=by
 unfold numI
 cases l.length-a with
 |zero=>rfl
 |succ n=>rw[numN,if_neg h]
theorem numN_len (l:List Itk):∀n a,(numN l n a).length<=n
 |0,a=>Nat.le_refl _
 |n+1,a=>by
  have:=numN_len l n (a+1)
  rw[numN]
  split
  ·simp;omega
  simp
end Pl
theorem field68_0 (k v:Int) (tx:ByteArray) (w:World):(Instr.field 80 (.agg #[.int .i64 k,.string tx,.int .i64 v]) 0).run Tryz.prog w=.ok (.int .i64 k) w:=by kernel_rfl
theorem field68_2 (k v:Int) (tx:ByteArray) (w:World):(Instr.field 80 (.agg #[.int .i64 k,.string tx,.int .i64 v]) 2).run Tryz.prog w=.ok (.int .i64 v) w:=by kernel_rfl
theorem grown_own {w X w9:World}{p:Nat}{r:Option Nat}(h:w.grownBy X (some p)) (hg:X.grownBy w9 r) (hr:∀b,r=some b->w.heap.size<=b):w.grownBy w9 (some p) :=
 ⟨hg.os.trans h.os,hg.tape.trans h.tape,hg.output.trans h.output,Nat.le_trans h.size hg.size,fun k hk hn=>(hg.block k (Nat.lt_of_lt_of_le hk h.size) (fun e=>by have:=hr k e.symm;omega)).trans (h.block k hk hn)⟩
theorem Ps.own {w w':World}{p n cap a o:Nat}{ao:Option Addr}{be:Bool}{r:Option Nat}(h:Ps w p ao n cap a o be) (hg:w.grownBy w' r) (hr:∀b,r=some b->b ≠ p):Ps w' p ao n cap a o be:=by
 have e:=hg.block p h.lt (fun e=>hr p e.symm rfl)
 have g (j:Nat):w'.cell? ⟨p,j,none⟩=w.cell? ⟨p,j,none⟩:=World.cell?_of_block e
 exact⟨Nat.lt_of_lt_of_le h.lt hg.size,(g 0).trans h.c0,(g 1).trans h.c1,(g 2).trans h.c2,(g 3).trans h.c3,fun j=>(World.frozen?_of_block (a:=⟨p,j,none⟩) e).trans (h.fz j)⟩
theorem Ej.own {w w':World}{l:List Pl.Itk}{p:Nat}{ao:Option Addr}{mb mo cp:Nat}{r:Option Nat}(h:Ej w l p ao mb mo cp) (hp:p<=w.heap.size) (hg:w.grownBy w' r) (hr:∀b,r=some b->p<=b):Ej w' l p ao mb mo cp :=
 h.low ⟨hg.os,hg.tape,hg.output,hg.size,fun k hk=>hg.block k oM (fun e=>by have:=hr k e.symm;omega)⟩
theorem Own.box' {α:Type}{et z:Nat}{Q:World->List Value->α->List Nat->Prop}{w:World}{v:Value}{c:List α}{F:List Nat}{B p:Nat}(h:Own et z Q w v c F) (hp:p ∉ F) (hi:Inb B w F) (u:Value) (L:Lives Q:=by exact Qi.lives):Own et z Q (w.setCell ⟨p,3,none⟩ u) v c F/\Inb B (w.setCell ⟨p,3,none⟩ u) F :=
 ⟨h.grown L hi (grown_one p 3 u (World.grownBy.refl _ _)) (fun b hb=>by cases hb;exact hp),hi.up (Nat.le_refl _) sI⟩
theorem Ps.be3 {w:World}{p n cap a o:Nat}{ao:Option Addr}{be:Bool}(h:Ps w p ao n cap a o be) (b2:Bool):Ps (w.setCell ⟨p,3,none⟩ (.bool b2)) p ao n cap a o b2 :=
 ⟨by simpa using h.lt,(World.cell?_setCell_other _ _ _ _ sI).trans h.c0,(World.cell?_setCell_other _ _ _ _ sI).trans h.c1,(World.cell?_setCell_other _ _ _ _ sI).trans h.c2,World.cell?_setCell_same _ _ _ h.c3,fun j=>by rw[World.frozen?_setCell];exact h.fz j⟩
theorem numbers_any (l:List Pl.Itk) (p cap a o mb mo cp:Nat) (ao:Option Addr) (be:Bool) (w:World) (hl:l.length<=1048576) (ha:a<=1048580) (hE:Ej w l p ao mb mo cp) (hP:Ps w p ao l.length cap a o be) :
  Calls Tryz.prog 118 #[.pointer (some ⟨p,0,none⟩)] w fun e w'=>∃v F,e=.returned v/\Own 3 1 Qi w' v (Pl.numI l a) F/\Inb w.heap.size w' F/\Ps w' p ao l.length cap (a+(Pl.numI l a).length) o (be || decide (1000<(Pl.numI l a).length))/\w.grownBy w' (some p):=by
 have hpw:=hP.lt
 have KL:Hid (∀(X:World) (a':Nat),Ej X l p ao mb mo cp->Ps X p ao l.length cap a' o be->a'<=1048590->Calls Tryz.prog 65 #[.pointer (some ⟨p,0,none⟩),.int .i64 0] X fun e w'=>e=.returned (.agg #[.int .i64 (Pl.tkAt l a').k,.string (Pl.tkAt l a').tx,.int .i64 (Pl.tkAt l a').v])/\Below X.heap.size X w'):=fun X a' hE hP h=>look_at hl h hP (hE.r.up (Nat.le_of_lt hP.lt))
 have KN:Hid (∀(X:World) (a':Nat),Ej X l p ao mb mo cp->Ps X p ao l.length cap a' o be->a'<=1048590->Calls Tryz.prog 67 #[.pointer (some ⟨p,0,none⟩)] X fun e w'=>e=.returned (.agg #[.int .i64 (Pl.tkAt l a').k,.string (Pl.tkAt l a').tx,.int .i64 (Pl.tkAt l a').v])/\Ps w' p ao l.length cap (a'+1) o be/\X.grownBy w' (some p)):=fun X a' hE hP h=>next_any l p cap a' o ao be X hl h hP (hE.r.up (Nat.le_of_lt hP.lt))
 have HLN:Hid ((Pl.numI l a).length<=l.length):=by have:=Pl.numN_len l (l.length-a) a;show _<=_;unfold Pl.numI;omega
 have I0:Hid (Ej w l p ao mb mo cp/\Ps w p ao l.length cap a o be):=⟨hE,hP⟩
 clear hE hP
 generalize hS:Pl.numI l a=S at *
 go_enter Tryz.func118,Tryz.ntmps118
 go_wp2_with fail
 go_loopw [3] (fun v3 wr=>∃(i:Nat) (dn:List Int) (F:List Nat),a+dn.length=i/\(i<=a\/i<=l.length)/\Hid (S=dn++Pl.numI l i/\Own 3 1 Qi wr v3 dn F/\Inb w.heap.size wr F/\Ej wr l p ao mb mo cp/\Ps wr p ao l.length cap i o be/\w.grownBy wr (some p))) (fun v3 wr=>l.length+1-(intOf ((wr.cell? ⟨p,1,none⟩).getD undef)).toNat)
 case atStart=>exact⟨a,[],[],rfl,.inl (Nat.le_refl _),by rw[List.nil_append];exact hS.symm,Own.nil _,Inb.nil _ _,I0.out.1,I0.out.2,World.grownBy.refl _ _⟩
 rename World=>wr
 obtain⟨i,dn,F,hi,hi2,HH⟩:=hrel
 obtain⟨ao3,cap3,e3⟩:=HH.out.2.1.slice
 generalize hdl:dn.length=dl at e3 hi
 subst e3
 have hdn:dl<=1048576:=by
  have h1:=HLN.out
  rw[HH.out.1,List.length_append] at h1
  omega
 have K:=zH (KL.out wr i HH.out.2.2.2.1 HH.out.2.2.2.2.1 oM)
 have n1:=HH.out.2.2.2.2.1.c1
 have hgw:=HH.out.2.2.2.2.2.size
 by_cases h:(Pl.tkAt l i).k=1
 rotate_left 1
 ·have hkb:((Pl.tkAt l i).k == 1)=false:=by simpa using h
  have HS:=HH.out.1
  rw[Pl.numI_no h,List.append_nil] at HS
  have hfa:=field68_0 (Pl.tkAt l i).k (Pl.tkAt l i).v (Pl.tkAt l i).tx
  generalize Pl.tkAt l i=t at *
  go_wp2_with fail
  refine K.out.mono ?_
  rintro e w2 ⟨rfl,hb2⟩
  have P2:=HH.out.2.2.2.2.1.keep hb2
  have O2:=zH (HH.out.2.1.below Qi.lives HH.out.2.2.1 hb2 (Nat.le_refl _))
  have J2:=zH (HH.out.2.2.1.up (Nat.le_refl _) hb2.size)
  have G2:=zH (grown_then HH.out.2.2.2.2.2 hb2 hgw)
  have HP2:=zH P2
  have c3:=P2.c3
  have cf:=P2.fz
  have HSS:=zH HS
  have hpF:p ∉ F:=fun hm=>by have:=(HH.out.2.2.1 _ hm).1;omega
  have FIN:Hid (∀b2,b2=(be || decide (1000<dl))->∃v F',Ending.returned (Value.slice ao3 dl cap3)=.returned v/\Own 3 1 Qi (w2.setCell ⟨p,3,none⟩ (.bool b2)) v S F'/\Inb w.heap.size (w2.setCell ⟨p,3,none⟩ (.bool b2)) F'/\Ps (w2.setCell ⟨p,3,none⟩ (.bool b2)) p ao l.length cap (a+S.length) o (be || decide (1000<S.length))/\w.grownBy (w2.setCell ⟨p,3,none⟩ (.bool b2)) (some p)):=fun b2 hb=>by
   obtain⟨o1,i1⟩:=O2.out.box' hpF J2.out (.bool b2)
   rw[HSS.out,hdl,hi,<- hb]
   exact⟨_,F,rfl,o1,i1,HP2.out.be3 b2,grown_one p 3 _ G2.out⟩
  clear K P2 hb2 HS HH O2 J2 G2 HP2
  cases be
  ·go_wp2_with fail
   refine bodyPost_ret (v:=.slice ao3 dl cap3) (by simp[results,Tryz.results118,go_sem]) rfl ?_
   have:=FIN.out (decide ((1000:Int)<(dl:Int))) (by rw[Bool.false_or];by_cases h:1000<dl <;> simp[h] <;> omega)
   exact this
  go_wp2_with fail
  refine bodyPost_ret (v:=.slice ao3 dl cap3) (by simp[results,Tryz.results118,go_sem]) rfl ?_
  exact FIN.out true rfl
 obtain⟨hil,hne⟩:=Pl.numI_yes h
 have KN':=fun X hE hP=>KN.out X i hE hP oM
 rw[h] at K
 simp only[h] at KN'
 have hfa:=field68_0 1 (Pl.tkAt l i).v (Pl.tkAt l i).tx
 have hfb:=field68_2 1 (Pl.tkAt l i).v (Pl.tkAt l i).tx
 have HKN:=zH KN'
 clear KN'
 generalize (Pl.tkAt l i).v=vi at *
 generalize (Pl.tkAt l i).tx=ti at *
 go_wp2_with fail
 refine K.out.mono ?_
 rintro e w2 ⟨rfl,hb2⟩
 have E2:=HH.out.2.2.2.1.low (hb2.mono oM)
 have P2:=HH.out.2.2.2.2.1.keep hb2
 have O2:=zH (HH.out.2.1.below Qi.lives HH.out.2.2.1 hb2 (Nat.le_refl _))
 have J2:=zH (HH.out.2.2.1.up (Nat.le_refl _) hb2.size)
 have G2:=zH (grown_then HH.out.2.2.2.2.2 hb2 hgw)
 have K2:=zH (HKN.out w2 E2 P2)
 have HE2:=zH E2
 have HP2:=zH P2
 clear K E2 P2 hb2
 go_wp2_with fail
 refine K2.out.mono ?_
 rintro e w3 ⟨rfl,hP3,hg3⟩
 have hpF:p ∉ F:=fun hm=>by have:=(HH.out.2.2.1 _ hm).1;omega
 have O3:=zH (O2.out.grown Qi.lives J2.out hg3 (fun b hb=>by cases hb;exact hpF))
 have J3:=zH (J2.out.up (Nat.le_refl _) hg3.size)
 have E3:=zH (HE2.out.grown (Nat.le_of_lt HP2.out.lt) hg3)
 have P3:=zH hP3
 have G3:=zH (G2.out.trans hg3)
 have hz3:=G3.out.size
 clear hP3 hg3 K2 O2 J2
 go_wp2_with (at_builtin;refine wpList_append_o el77 Qi.lives _ rfl _ _ rfl _ _ _ _ _ rfl rfl dn [vi] F [] [.int .i64 vi] w.heap.size ?ho ?hi ?hy ?hG ?hn ?hd rfl rfl ?hc ?h1 ?hbd ?hB ?_)
 case ho=>exact O3.out.below Qi.lives J3.out ((Below.refl _ _).alloc (Nat.le_refl _) _) (Nat.le_refl _)
 case hi=>exact J3.out.up (Nat.le_refl _) sI
 case hy=>exact Qi.row _ _
 case hG=>exact Inb.nil _ _
 case hn=>exact List.nodup_nil
 case hd=>simp
 case hc=>exact cells_new (l:=[.int .i64 vi]) rfl
 case h1=>simp[Value.oneCell']
 case hbd=>simp;omega
 case hB=>simp;omega
 intro v9 w9 F9 ho9 hi9 hg9 _ _
 have hb3:Below w3.heap.size w3 (w3.alloc (.cells #[.int .i64 vi] 3)):=(Below.refl _ _).alloc (Nat.le_refl _) _
 have hob:∀b,(Value.slice ao3 dl cap3).ownBlock=some b->w.heap.size<=b:=fun b hb=>(J3.out b (O3.out.lt b hb).1).1
 have P9:=(P3.out.keep hb3).own hg9 (fun b hb=>by have:=hob b hb;omega)
 have H9:Hid (S=(dn++[vi])++Pl.numI l (i+1)/\Own 3 1 Qi w9 v9 (dn++[vi]) F9/\Inb w.heap.size w9 F9/\Ej w9 l p ao mb mo cp/\Ps w9 p ao l.length cap (i+1) o be/\w.grownBy w9 (some p)):=⟨by rw[HH.out.1,hne];simp,ho9,hi9,(E3.out.low (hb3.mono oM)).own (by simp;omega) hg9 (fun b hb=>by have:=hob b hb;omega),P9,grown_own (grown_then G3.out hb3 hz3) hg9 hob⟩
 have q1:=P9.c1
 clear ho9 hi9 hg9 HH hb3 hob P9 O3 J3 E3 P3 G3
 go_wp2_with fail
 go_roundw
 case rel=>exact⟨i+1,dn++[vi],F9,by simp;omega,by omega,H9⟩
 simp[q1,n1,intOf] <;> omega
namespace Pl
def itT (t:Itk):T:=if t.k=1 then .num t.v else if t.k=2 then .arr t.tx.data.toList else if t.k=3 then .fn t.tx.data.toList else sgT t.tx.data.toList
def nmT (l:List UInt8):Prop:=rowOf l=none/\l ∉ ten/\l ≠ [59]
def iOk (t:Itk):Prop:=(t.k=1/\t.tx=⟨#[]⟩)\/(t.k=2/\nmT t.tx.data.toList)\/(t.k=3/\nmT t.tx.data.toList)\/(t.k=4/\(t.tx.data.toList∈ten\/(rowOf t.tx.data.toList).isSome=true\/t.tx.data.toList=[59]))
def rI (l:List Itk) (a:Nat):List T:=(l.drop a).map itT
theorem rI_past {l:List Itk}{a:Nat}(h:l.length<=a):rI l a=[]:=by unfold rI;rw[List.drop_eq_nil_of_le h];rfl
theorem rI_cons {l:List Itk}{a:Nat}(h:a<l.length):rI l a=itT (tkAt l a)::rI l (a+1):=by
 unfold rI tkAt
 rw[List.drop_eq_getElem_cons h,List.getElem?_eq_getElem h]
 rfl
theorem tkAt_mem {l:List Itk}{a:Nat}(h:a<l.length):tkAt l a∈l:=by
 unfold tkAt
 rw[List.getElem?_eq_getElem h]
 exact List.getElem_mem h
theorem row_nil:rowOf []=none:=by decide
theorem it_sg {t:Itk}(h:iOk t) {c:List UInt8}(hc:c∈ten):decide (t.tx=ba c)=decide (sgTx (itT t)=c):=by
 have hn:¬[]=c:=by rintro rfl;revert hc;decide
 have e:(t.tx=ba c) ↔ t.tx.data.toList=c:=by rw[ba_iff];rfl
 have key:(t.tx.data.toList=c) ↔ sgTx (itT t)=c:=by
  unfold itT
  rcases h with ⟨h1,h2⟩|⟨h1,h2⟩|⟨h1,h2⟩|⟨h1,h2⟩
  ·rw[h1,h2,if_pos rfl]
   simp[sgTx,hn]
  ·rw[h1,if_neg (by decide),if_pos rfl]
   simp only[sgTx,hn,iff_false]
   intro e
   exact h2.2.1 (e ▸ hc)
  ·rw[h1,if_neg (by decide),if_neg (by decide),if_pos rfl]
   simp only[sgTx,hn,iff_false]
   intro e
   exact h2.2.1 (e ▸ hc)
  rw[h1,if_neg (by decide),if_neg (by decide),if_neg (by decide),sgT_tx]
  by_cases hm:t.tx.data.toList∈ten
  ·rw[if_pos hm]
  rw[if_neg hm]
  simp only[hn,iff_false]
  intro e
  exact hm (e ▸ hc)
 by_cases hh:t.tx.data.toList=c
 ·rw[decide_eq_true (e.2 hh),decide_eq_true (key.1 hh)]
 rw[decide_eq_false (fun x=>hh (e.1 x)),decide_eq_false (fun x=>hh (key.2 x))]
theorem sign_T {l:List Itk}(hl:∀t∈l,iOk t) (a:Nat) {c:List UInt8}(hc:c∈ten):decide ((tkAt l a).tx=ba c)=match rI l a with | t::_=>decide (sgTx t=c) | []=>false:=by
 by_cases h:a<l.length
 ·rw[rI_cons h]
  exact it_sg (hl _ (tkAt_mem h)) hc
 rw[rI_past oM,tkAt_past oM]
 have hn:¬[]=c:=by rintro rfl;revert hc;decide
 simp only[decide_eq_false_iff_not]
 intro e
 exact hn (by have:=congrArg (fun x:ByteArray=>x.data.toList) e;simpa[noTk,ba] using this)
theorem opn_T {l:List Itk}(hl:∀t∈l,iOk t) (a:Nat):opn (tkAt l a).tx.data.toList=enT (rI l a):=by
 by_cases h:a<l.length
 rotate_left 1
 ·rw[rI_past oM,tkAt_past oM]
  show (match rowOf [] with | some m=>en m | none=>0)=_
  rw[row_nil]
  rfl
 have hk:=hl _ (tkAt_mem h)
 rw[rI_cons h]
 have e1:enT (itT (tkAt l a)::rI l (a+1))=enT [itT (tkAt l a)]:=by cases itT (tkAt l a) <;> rfl
 rw[e1]
 generalize tkAt l a=t at *
 unfold itT opn
 rcases hk with ⟨h1,h2⟩|⟨h1,h2⟩|⟨h1,h2⟩|⟨h1,h2⟩
 ·rw[h1,h2,if_pos rfl]
  show (match rowOf [] with | some m=>en m | none=>0)=_
  rw[row_nil]
  rfl
 ·rw[h1,if_neg (by decide),if_pos rfl,h2.1]
  rfl
 ·rw[h1,if_neg (by decide),if_neg (by decide),if_pos rfl,h2.1]
  rfl
 rw[h1,if_neg (by decide),if_neg (by decide),if_neg (by decide),sgT_en] <;> rfl
theorem sgT_at (l:List UInt8):atF [sgT l]=(decide (l=[64]) || (rowOf l).isSome):=by
 unfold sgT
 by_cases h:l=[40]\/l=[41]\/l=[123]\/l=[125]\/l=[58]\/l=[58,61]\/l=[47]\/l=[92]\/l=[64]\/l=[46]
 ·rw[sg_row h]
  rcases h with rfl|rfl|rfl|rfl|rfl|rfl|rfl|rfl|rfl|rfl <;> rfl
 simp only[not_or] at h
 obtain⟨h0,h1,h2,h3,h4,h5,h6,h7,h8,h9⟩:=h
 rw[if_neg h0,if_neg h1,if_neg h2,if_neg h3,if_neg h4,if_neg h5,if_neg h6,if_neg h7,if_neg h8,if_neg h9,decide_eq_false h8]
 cases rowOf l <;> rfl
theorem any_row (l:List UInt8):mgs.any (fun m=>decide (m.t=l))=(rowOf l).isSome:=by
 unfold rowOf
 rw[List.isSome_find?,List.any_eq]
theorem atf_T {l:List Itk}(hl:∀t∈l,iOk t) (a:Nat):atfV (tkAt l a)=atF (rI l a):=by
 have hx:∀t:Itk,(t.tx=⟨#[64]⟩) ↔ t.tx.data.toList=[64]:=fun t=>by rw[ba_iff]
 by_cases h:a<l.length
 rotate_left 1
 ·rw[rI_past oM,tkAt_past oM]
  rfl
 have hk:=hl _ (tkAt_mem h)
 rw[rI_cons h]
 have e1:atF (itT (tkAt l a)::rI l (a+1))=atF [itT (tkAt l a)]:=by cases itT (tkAt l a) <;> rfl
 rw[e1]
 generalize tkAt l a=t at *
 unfold itT atfV
 rw[any_row]
 have hxt:=hx t
 rcases hk with ⟨h1,h2⟩|⟨h1,h2⟩|⟨h1,h2⟩|⟨h1,h2⟩
 ·rw[h1,h2,if_pos rfl]
  rfl
 ·have hne:¬t.tx=⟨#[64]⟩:=fun e=>h2.2.1 (by rw[hxt.1 e];decide)
  rw[h1,if_neg (by decide),if_pos rfl,h2.1,decide_eq_false hne]
  rfl
 ·rw[h1,if_neg (by decide),if_neg (by decide),if_pos rfl]
  rfl
 rw[h1,if_neg (by decide),if_neg (by decide),if_neg (by decide),sgT_at]
 by_cases h6:t.tx.data.toList=[64]
 ·rw[decide_eq_true (hxt.2 h6),decide_eq_true h6];rfl
 rw[decide_eq_false (fun e=>h6 (hxt.1 e)),decide_eq_false h6];rfl
theorem tail_rI (l:List Itk) (a:Nat):(rI l a).tail=rI l (a+1):=by
 by_cases h:a<l.length
 ·rw[rI_cons h];rfl
 rw[rI_past oM,rI_past oM];rfl
end Pl
namespace Pl
theorem fu_le (l:List Itk) (a:Nat):a<(fuI l a).2.2/\(fuI l a).2.2<=a+3:=by
 unfold fuI
 simp only
 split
 ·simp <;> omega
 split
 ·simp <;> omega
 split
 ·simp <;> omega
 split
 ·simp <;> omega
 split
 ·simp <;> omega
 split <;> (simp <;> omega)
theorem sgT_op {l:List UInt8}{m:Mg}(h:sgT l=.op m):rowOf l=some m:=by
 unfold sgT at h
 repeat (split at h <;> first | cases h | skip)
 rename_i h2
 exact h2
theorem drv_f (k:Int) (m:Mg) (f:F) (hz:en m=0):((drv k (en m)).1,en m,(0:Int),(⟨#[]⟩:ByteArray))=(0,0,0,⟨#[]⟩):=by
 rw[hz];rfl
theorem fu_T {l:List Itk}(hl:∀t∈l,iOk t) {a:Nat}(hat:atF (rI l a)=true):(fuI l a).1=fq (pfun (rI l a)).1.one/\(fuI l a).2.1=fq (pfun (rI l a)).1.two/\rI l (fuI l a).2.2=(pfun (rI l a)).2:=by
 have ha:a<l.length:=by
  by_cases h:a<l.length
  ·exact h
  rw[rI_past oM] at hat;cases hat
 have hk:=hl _ (tkAt_mem ha)
 have s47:=sign_T hl (a+1) (c:=[47]) (by decide)
 have s92:=sign_T hl (a+1) (c:=[92]) (by decide)
 have s46:=sign_T hl (a+1) (c:=[46]) (by decide)
 have s64:=it_sg hk (c:=[64]) (by decide)
 have o0:=opn_T hl a
 have o1:=opn_T hl (a+1)
 have o2:=opn_T hl (a+1+1)
 have t1:=tail_rI l (a+1)
 have t2:=tail_rI l (a+1+1)
 rw[show ba [47]=⟨#[47]⟩ from rfl] at s47
 rw[show ba [92]=⟨#[92]⟩ from rfl] at s92
 rw[show ba [46]=⟨#[46]⟩ from rfl] at s46
 rw[show ba [64]=⟨#[64]⟩ from rfl] at s64
 rw[rI_cons ha] at hat o0 ⊢
 unfold fuI
 simp only
 by_cases h3:(tkAt l a).k=3
 ·rw[if_pos h3]
  have e:itT (tkAt l a)=.fn (tkAt l a).tx.data.toList:=by unfold itT;rw[h3];rfl
  rw[e]
  exact⟨rfl,rfl,by first | rfl | trivial⟩
 rw[if_neg h3]
 by_cases h6:(tkAt l a).tx=⟨#[64]⟩
 ·rw[if_pos h6]
  rw[decide_eq_true h6] at s64
  have e:itT (tkAt l a)=.amp:=by
   have:=of_decide_eq_true s64.symm
   revert this
   cases itT (tkAt l a) <;> simp[sgTx]
  rw[e,o1]
  simp only
  rw[<- t1]
  cases hr:rI l (a+1) with
  |nil=>exact⟨rfl,rfl,by first | rfl | trivial⟩
  |cons x r =>
   cases x
   case op m =>
    simp only[enT,pfun,List.tail_cons]
    by_cases hz:en m=0
    ·rw[if_pos hz,hz]
     exact⟨rfl,rfl,by first | rfl | trivial⟩
    rw[if_neg hz]
    refine⟨rfl,?_,by first | rfl | trivial⟩
    show ((drv 7 (en m)).1,en m,(0:Int),(⟨#[]⟩:ByteArray))=(7,en m,0,⟨#[]⟩)
    unfold drv
    rw[if_neg hz]
   all_goals exact⟨rfl,rfl,by first | rfl | trivial⟩
 rw[if_neg h6]
 rw[decide_eq_false h6] at s64
 obtain⟨m,hop⟩:∃m,itT (tkAt l a)=.op m:=by
  have h64:=of_decide_eq_false s64.symm
  have hfn:∀nm,itT (tkAt l a) ≠ .fn nm:=fun nm e=>by
   unfold itT at e
   rcases hk with ⟨h1,_⟩|⟨h1,_⟩|⟨h1,_⟩|⟨h1,_⟩
   ·rw[h1,if_pos rfl] at e;cases e
   ·rw[h1,if_neg (by decide),if_pos rfl] at e;cases e
   ·exact h3 h1
   rw[h1,if_neg (by decide),if_neg (by decide),if_neg (by decide)] at e
   unfold sgT at e
   repeat (split at e <;> first | cases e | skip)
  revert hat h64 hfn
  cases itT (tkAt l a) <;> simp[atF,sgTx]
 have hrow:rowOf (tkAt l a).tx.data.toList=some m:=by
  unfold itT at hop
  rcases hk with ⟨h1,_⟩|⟨h1,_⟩|⟨h1,_⟩|⟨h1,_⟩
  ·rw[h1,if_pos rfl] at hop;cases hop
  ·rw[h1,if_neg (by decide),if_pos rfl] at hop;cases hop
  ·exact absurd h1 h3
  rw[h1,if_neg (by decide),if_neg (by decide),if_neg (by decide)] at hop
  exact sgT_op hop
 rw[hop] at o0 ⊢
 rw[show enT (T.op m::rI l (a+1))=en m from rfl] at o0
 rw[o0,hrow]
 have plain:(tkAt l (a+1)).tx ≠ ⟨#[47]⟩->(tkAt l (a+1)).tx ≠ ⟨#[92]⟩->(tkAt l (a+1)).tx ≠ ⟨#[46]⟩->True:=fun _ _ _=>trivial
 cases hr:rI l (a+1) with
 |nil =>
  rw[hr] at s47 s92 s46
  rw[if_neg (of_decide_eq_false s47),if_neg (of_decide_eq_false s92),if_neg (of_decide_eq_false s46)]
  exact⟨rfl,rfl,hr⟩
 |cons x r =>
  rw[hr] at s47 s92 s46 t1
  simp only[List.tail_cons] at t1
  cases x
  case sl =>
   rw[if_pos (of_decide_eq_true s47)]
   simp only[pfun]
   rw[<- t1]
   by_cases hz:en m=0
   ·rw[if_pos hz,hz]
    exact⟨rfl,rfl,by first | rfl | trivial⟩
   rw[if_neg hz]
   refine⟨?_,rfl,by first | rfl | trivial⟩
   show ((drv 3 (en m)).1,en m,(0:Int),(⟨#[]⟩:ByteArray))=(3,en m,0,⟨#[]⟩)
   unfold drv
   rw[if_neg hz]
  case bs =>
   rw[if_neg (of_decide_eq_false s47),if_pos (of_decide_eq_true s92)]
   simp only[pfun]
   rw[<- t1]
   by_cases hz:en m=0
   ·rw[if_pos hz,hz]
    exact⟨rfl,rfl,by first | rfl | trivial⟩
   rw[if_neg hz]
   refine⟨?_,rfl,by first | rfl | trivial⟩
   show ((drv 4 (en m)).1,en m,(0:Int),(⟨#[]⟩:ByteArray))=(4,en m,0,⟨#[]⟩)
   unfold drv
   rw[if_neg hz]
  case dot =>
   rw[if_neg (of_decide_eq_false s47),if_neg (of_decide_eq_false s92),if_pos (of_decide_eq_true s46),o2,<- t1]
   simp only
   rw[<- t2,<- t1]
   cases r with
   |nil =>
    refine⟨rfl,?_,by first | rfl | trivial⟩
    show ((drv2 (en m) 0).1,(drv2 (en m) 0).2.1,(drv2 (en m) 0).2.2,(⟨#[]⟩:ByteArray))=_
    unfold drv2
    rw[if_pos (.inr rfl)]
    rfl
   |cons y r =>
    cases y
    case op m' =>
     simp only[enT,pfun,List.tail_cons]
     unfold drv2
     by_cases hz:en m=0\/en m'=0
     ·rw[if_pos hz,if_pos hz]
      exact⟨rfl,rfl,by first | rfl | trivial⟩
     rw[if_neg hz,if_neg hz]
     exact⟨rfl,rfl,by first | rfl | trivial⟩
    all_goals
     refine⟨rfl,?_,by first | rfl | trivial⟩
     show ((drv2 (en m) 0).1,(drv2 (en m) 0).2.1,(drv2 (en m) 0).2.2,(⟨#[]⟩:ByteArray))=_
     unfold drv2
     rw[if_pos (.inr rfl)]
     rfl
  all_goals
   rw[if_neg (of_decide_eq_false s47),if_neg (of_decide_eq_false s92),if_neg (of_decide_eq_false s46)]
   exact⟨rfl,rfl,hr⟩
end Pl
end Go.Proofs.YtbiiicbfpcfgdaaGreatDoor
