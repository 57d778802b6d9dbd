import Derived.Test.YtbiiicbfpcfgdaaGreatDoorOpp2
namespace Go.Proofs.YtbiiicbfpcfgdaaGreatDoor
open Go.RowKit
set_option maxRecDepth 100000
set_option maxHeartbeats 16000000
set_option linter.unusedVariables false
theorem uOpw1 {P:Prop}(h:P:=by simp[results,Tryz.results104,go_sem]):P:=h
theorem operand_of (n:Nat) (H:HXe n) (l:List Pl.Itk) (p cap a o mb mo cp:Nat) (ao:Option Addr) (be:Bool) (w:World) (hl:l.length<=1048576) (ha:a<=l.length) (ho:o+(l.length-a)<=1048570) (hn:2 * (l.length-a)<=n+1) (hk:∀t∈l,Pl.iOk t) (hE:Ej w l p ao mb mo cp) (hP:Ps w p ao l.length cap a o be) :
  Calls Tryz.prog 104 #[.pointer (some ⟨p,0,none⟩)] w (PoO (fun x=>be || x.bey o) l p cap a ao o w (Pl.popnd (n+1) (Pl.rI l a))):=by
 have hpl:=hP.lt
 have KL:=zH (look_at hl (by omega:a<=1048590) hP (hE.r.up (Nat.le_of_lt hP.lt)))
 have HEP:Hid (∀w',Below w.heap.size w w'->Ej w' l p ao mb mo cp/\Ps w' p ao l.length cap a o be):=fun w' hb=>⟨hE.low (hb.mono (Nat.le_of_lt hpl)),hP.keep hb⟩
 have KN:Hid (∀w',Below w.heap.size w w'->Calls Tryz.prog 118 #[.pointer (some ⟨p,0,none⟩)] w' fun e w2=>∃v F,e=.returned v/\Own 3 1 Qi w2 v (Pl.numI l a) F/\Inb w'.heap.size w2 F/\Ps w2 p ao l.length cap (a+(Pl.numI l a).length) o (be || decide (1000<(Pl.numI l a).length))/\w'.grownBy w2 (some p)):=fun w' hb=>numbers_any l p cap a o mb mo cp ao be w' hl oM (HEP.out w' hb).1 (HEP.out w' hb).2
 have KS:Hid (∀w',Below w.heap.size w w'->Calls Tryz.prog 64 #[.pointer (some ⟨p,0,none⟩),.string ⟨#[40]⟩] w' fun e w2=>e=.returned (.bool (decide ((Pl.tkAt l a).tx=⟨#[40]⟩)))/\Ps w2 p ao l.length cap (if (Pl.tkAt l a).tx=⟨#[40]⟩ then a+1 else a) o be/\w'.grownBy w2 (some p)):=fun w' hb=>sign_any l p cap a o ao be ⟨#[40]⟩ w' hl oM (HEP.out w' hb).2 ((HEP.out w' hb).1.r.up (Nat.le_of_lt (HEP.out w' hb).2.lt))
 have BA:Hid (∀w' ob,Below w.heap.size w w'->Below w.heap.size w (w'.alloc ob)):=fun w' ob h=>h.alloc h.size ob
 by_cases h1:(Pl.tkAt l a).k=1
 ·obtain⟨v0,vs,hnum,hpop⟩:=Pl.pop_num hk n h1
  rw[hpop]
  rw[hnum] at KN
  rw[h1] at KL
  have hlen:a+(v0::vs).length<=l.length:=by
   have:=Pl.numN_len l (l.length-a) a
   have e:(Pl.numI l a).length<=l.length-a:=this
   rw[hnum] at e
   omega
  have HRI:Hid (Pl.rI l (a+(Pl.numI l a).length)=Pl.rI l (a+(v0::vs).length)):=by show _=_;rw[hnum]
  have HFIN:Hid (∀w' w2 v F,w.grownBy w' (some p)->Own 3 1 Qi w2 v (v0::vs) F->Inb w.heap.size w2 F->Ps w2 p ao l.length cap (a+(v0::vs).length) o (be || decide (1000<(v0::vs).length))->w'.grownBy w2 (some p)->PoO (fun x=>be || x.bey o) l p cap a ao o w (some (.nums v0 vs,Pl.rI l (a+(Pl.numI l a).length))) (.returned (.tuple #[.iface 160 (.agg #[v]),.bool true])) w2):=fun w' w2 v F hg hO hI hP2 hg2=>⟨_,F,a+(v0::vs).length,rfl,by rw[NdO];exact⟨v,rfl,hO⟩,hI,⟨hP2,hg.trans hg2,by omega⟩,hlen,by simp,HRI.out.symm⟩
  clear hE hP H hk KS hpop HEP HRI
  generalize Pl.rI l (a+(Pl.numI l a).length)=RR at *
  generalize hvv:v0::vs=L at *
  generalize (Pl.tkAt l a).tx=tt at *
  generalize (Pl.tkAt l a).v=tv at *
  go_enter Tryz.func104,Tryz.ntmps104
  go_wp2_with fail
  refine KL.out.mono ?_
  rintro e w1 ⟨rfl,hb1⟩
  have K1:=zH (fun ob=>KN.out _ (BA.out w1 ob hb1))
  have G1:=zH (fun ob=>grown_none (BA.out w1 ob hb1) (some p))
  have hz1:=hb1.size
  clear hb1 KL KN
  go_wp2_with fail
  refine(K1.out _).mono ?_
  rintro e w2 ⟨v,F,rfl,hO,hI,hP2,hg2⟩
  have HF:=zH (HFIN.out _ w2 v F (G1.out _) hO (hI.up (by simp;omega) (Nat.le_refl _)) hP2 hg2)
  obtain⟨av,cv,rfl⟩:=hO.slice
  clear hO hI hP2 hg2 HFIN K1 G1
  generalize L.length=LL at *
  go_wp2_with fail
  refine bodyPost_ret (v:=.tuple #[.iface 160 (.agg #[.slice av LL cv]),.bool true]) uOpw1 rfl HF.out
 have h1b:((Pl.tkAt l a).k == 1)=false:=by simpa using h1
 by_cases h2:(Pl.tkAt l a).k=2
 ·obtain⟨hal,hpop⟩:=Pl.pop_arr (n:=n) h2
  rw[hpop]
  have HFIN:Hid (∀w2,Ps w2 p ao l.length cap (a+1) o be->w.grownBy w2 (some p)->PoO (fun x=>be || x.bey o) l p cap a ao o w (some (.name (Pl.tkAt l a).tx.data.toList,Pl.rI l (a+1))) (.returned (.tuple #[.iface 162 (.agg #[.string (Pl.tkAt l a).tx]),.bool true])) w2):=fun w2 hP2 hg2=>⟨_,[],a+1,rfl,by rw[NdO];exact⟨rfl,rfl⟩,Inb.nil _ _,⟨by show Ps w2 p ao l.length cap (a+1) o (be || (Pl.O.name (Pl.tkAt l a).tx.data.toList).bey o);rw[Pl.O.bey,Bool.or_false];exact hP2,hg2,by omega⟩,by omega,by omega,rfl⟩
  have HPP:=HEP
  clear hE hP H hk KS KN hpop
  rw[h2] at KL
  generalize Pl.rI l (a+1)=RR at *
  generalize (Pl.tkAt l a).tx=tt at *
  generalize (Pl.tkAt l a).v=tv at *
  go_enter Tryz.func104,Tryz.ntmps104
  go_wp2_with fail
  refine KL.out.mono ?_
  rintro e w1 ⟨rfl,hb1⟩
  have P1:=(HPP.out w1 hb1).2
  have q1:=P1.c1
  have qf:=P1.fz
  have hp1:=P1.lt
  have hz1:=hb1.size
  have HF:Hid (∀ob,PoO (fun x=>be || x.bey o) l p cap a ao o w (some (.name tt.data.toList,RR)) (.returned (.tuple #[.iface 162 (.agg #[.string tt]),.bool true])) ((w1.setCell ⟨p,1,none⟩ (.int .i64 ((a+1:Nat):Int))).alloc ob)):=fun ob=>HFIN.out _ ((P1.at' (a+1)).keep ((Below.refl _ _).alloc (Nat.le_refl _) ob)) (grown_alloc (grown_one p 1 _ (grown_none hb1 (some p))) ob)
  rw[show ((a+1:Nat):Int)=(a:Int)+1 by omega] at HF
  clear hb1 KL HFIN HPP HEP P1
  go_wp2_with fail
  refine bodyPost_ret (v:=.tuple #[.iface 162 (.agg #[.string tt]),.bool true]) uOpw1 rfl (HF.out _)
 have h2b:((Pl.tkAt l a).k == 2)=false:=by simpa using h2
 by_cases h40:(Pl.tkAt l a).tx=⟨#[40]⟩
 rotate_left 1
 ·rw[Pl.pop_no hk n h1 h2 h40]
  rw[decide_eq_false h40,if_neg h40] at KS
  clear hE hP H hk KN HEP
  generalize (Pl.tkAt l a).tx=tt at *
  generalize (Pl.tkAt l a).v=tv at *
  generalize (Pl.tkAt l a).k=tk at *
  go_enter Tryz.func104,Tryz.ntmps104
  go_wp2_with fail
  refine KL.out.mono ?_
  rintro e w1 ⟨rfl,hb1⟩
  have K1:=zH (fun ob=>KS.out _ (BA.out w1 ob hb1))
  have G1:=zH (fun ob=>grown_none (BA.out w1 ob hb1) (some p))
  clear hb1 KL KS
  go_wp2_with fail
  refine(K1.out _).mono ?_
  rintro e w2 ⟨rfl,hP2,hg2⟩
  have HF:Hid (PoO (fun x=>be || x.bey o) l p cap a ao o w none (.returned (.tuple #[.nilIface,.bool false])) w2):=⟨_,a,be,rfl,.inl rfl,⟨hP2,(G1.out _).trans hg2,by omega⟩⟩
  clear hP2 hg2 K1 G1
  go_wp2_with fail
  refine bodyPost_ret (v:=.tuple #[.nilIface,.bool false]) uOpw1 rfl HF.out
 obtain⟨hal,hpop⟩:=Pl.pop_br hk n h40
 rw[hpop]
 have KB:Hid (∀w',w.grownBy w' (some p)->Ps w' p ao l.length cap (a+1) o be->Calls Tryz.prog 119 #[.pointer (some ⟨p,0,none⟩)] w' (PoX (fun x=>be || (Pl.O.br x).bey o) l p cap (a+1) ao o w' (Pl.pinb n (Pl.rI l (a+1))))):=fun w' hg hP'=>inBrackets_of n H l p cap (a+1) o mb mo cp ao be w' hl oM oM oM hk (hE.grown (Nat.le_of_lt hpl) hg) hP'
 rw[decide_eq_true h40,if_pos h40] at KS
 clear hE hP H hk KN hpop HEP
 generalize Pl.pinb n (Pl.rI l (a+1))=Y at *
 generalize (Pl.tkAt l a).tx=tt at *
 generalize (Pl.tkAt l a).v=tv at *
 generalize (Pl.tkAt l a).k=tk at *
 go_enter Tryz.func104,Tryz.ntmps104
 go_wp2_with fail
 refine KL.out.mono ?_
 rintro e w1 ⟨rfl,hb1⟩
 have K1:=zH (fun ob=>KS.out _ (BA.out w1 ob hb1))
 have G1:=zH (fun ob=>grown_none (BA.out w1 ob hb1) (some p))
 clear hb1 KL KS
 go_wp2_with fail
 refine(K1.out _).mono ?_
 rintro e w2 ⟨rfl,hP2,hg2⟩
 have G2:=zH ((G1.out _).trans hg2)
 have K2:=zH (KB.out w2 G2.out hP2)
 have hz2:=G2.out.size
 clear K1 G1 hg2 hP2 KB
 go_wp2_with fail
 refine K2.out.mono ?_
 intro e w3 hpo
 cases Y with
 |none =>
  obtain⟨v,a',be',rfl,hiv,hx⟩:=hpo
  have HF:Hid (PoO (fun x=>be || x.bey o) l p cap a ao o w (Option.map (fun q=>(Pl.O.br q.1,q.2)) (none:Option (Pl.E × List Pl.T))) (.returned (.tuple #[v,.bool false])) w3):=⟨v,a',be',rfl,hiv,⟨hx.ps,G2.out.trans hx.g,hx.le⟩⟩
  clear hx K2 hiv
  go_wp2_with fail
  refine bodyPost_ret (v:=.tuple #[v,.bool false]) uOpw1 rfl HF.out
 |some q =>
  obtain⟨x,r⟩:=q
  obtain⟨v,F,a',rfl,hN,hI,hx,hal',haa,hr⟩:=hpo
  have HF:Hid (PoO (fun x=>be || x.bey o) l p cap a ao o w (Option.map (fun q=>(Pl.O.br q.1,q.2)) (some (x,r))) (.returned (.tuple #[v,.bool true])) w3):=⟨v,F,a',rfl,by rw[NdO];exact hN,hI.up hz2 (Nat.le_refl _),⟨hx.ps,G2.out.trans hx.g,hx.le⟩,hal',by omega,hr⟩
  clear hx K2 hN hI hr
  go_wp2_with fail
  refine bodyPost_ret (v:=.tuple #[v,.bool true]) uOpw1 rfl HF.out
theorem field114_0 (a b c:Int) (s:ByteArray) (d e f:Int) (t:ByteArray) (w:World):(Instr.field 149 (.agg #[.int .i64 a,.int .i64 b,.int .i64 c,.string s,.int .i64 d,.int .i64 e,.int .i64 f,.string t]) 0).run Tryz.prog w=.ok (.agg #[.int .i64 a,.int .i64 b,.int .i64 c,.string s]) w:=by kernel_rfl
theorem field114_1 (a b c:Int) (s:ByteArray) (d e f:Int) (t:ByteArray) (w:World):(Instr.field 149 (.agg #[.int .i64 a,.int .i64 b,.int .i64 c,.string s,.int .i64 d,.int .i64 e,.int .i64 f,.string t]) 1).run Tryz.prog w=.ok (.agg #[.int .i64 d,.int .i64 e,.int .i64 f,.string t]) w:=by kernel_rfl
namespace Pl
theorem opn_lt {l:List Itk}{k:Nat}(h:¬opn (tkAt l k).tx.data.toList=0):k<l.length:=by
 by_cases hk:k<l.length
 ·exact hk
 rw[tkAt_past oM] at h
 exact absurd (by decide:opn (noTk).tx.data.toList=0) h
theorem tx_lt {l:List Itk}{k:Nat}{c:ByteArray}(h:(tkAt l k).tx=c) (hc:¬c.size=0):k<l.length:=by
 by_cases hk:k<l.length
 ·exact hk
 rw[tkAt_past oM] at h
 exact absurd (by rw[<- h];decide:c.size=0) hc
theorem fu_in {l:List Itk}{a:Nat}(ha:a<l.length) (h:¬(fuI l a).1.1=0\/¬(fuI l a).2.1.1=0):(fuI l a).2.2<=l.length:=by
 unfold fuI at h ⊢
 simp only at h ⊢
 by_cases h3:(tkAt l a).k=3
 ·rw[if_pos h3];simp only;omega
 rw[if_neg h3] at h ⊢
 by_cases h6:(tkAt l a).tx=⟨#[64]⟩
 ·rw[if_pos h6] at h ⊢
  simp only at h ⊢
  have:¬opn (tkAt l (a+1)).tx.data.toList=0:=fun e=>by rw[e] at h;simp[drv] at h
  have:=opn_lt this
  omega
 rw[if_neg h6] at h ⊢
 by_cases h4:(tkAt l (a+1)).tx=⟨#[47]⟩
 ·rw[if_pos h4];have:=tx_lt h4 (by decide);simp only;omega
 rw[if_neg h4] at h ⊢
 by_cases h9:(tkAt l (a+1)).tx=⟨#[92]⟩
 ·rw[if_pos h9];have:=tx_lt h9 (by decide);simp only;omega
 rw[if_neg h9] at h ⊢
 by_cases h5:(tkAt l (a+1)).tx=⟨#[46]⟩
 ·rw[if_pos h5] at h ⊢
  simp only at h ⊢
  have:¬opn (tkAt l (a+1+1)).tx.data.toList=0:=fun e=>by rw[e] at h;simp[drv2] at h
  have:=opn_lt this
  omega
 rw[if_neg h5]
 split <;> (simp only;omega)
theorem popnd_nil (n:Nat):popnd n []=none:=by cases n <;> rfl
theorem atF_lt {l:List Itk}{a:Nat}(h:atF (rI l a)=true):a<l.length:=by
 by_cases h2:a<l.length
 ·exact h2
 rw[rI_past oM] at h;cases h
end Pl
theorem operand_fuel (n:Nat) (ih:∀k,k<=n->HXe k) (l:List Pl.Itk) (p cap a o mb mo cp:Nat) (ao:Option Addr) (be:Bool) (w:World) (hl:l.length<=1048576) (ha:a<=l.length) (ho:o+(l.length-a)<=1048570) (hn:2 * (l.length-a)<=n) (hk:∀t∈l,Pl.iOk t) (hE:Ej w l p ao mb mo cp) (hP:Ps w p ao l.length cap a o be) :
  Calls Tryz.prog 104 #[.pointer (some ⟨p,0,none⟩)] w (PoO (fun x=>be || x.bey o) l p cap a ao o w (Pl.popnd n (Pl.rI l a))):=by
 cases n with
 |zero =>
  have e:Pl.rI l a=[]:=Pl.rI_past oM
  have:=operand_of 0 (ih 0 (Nat.le_refl _)) l p cap a o mb mo cp ao be w hl ha ho oM hk hE hP
  rw[e] at this ⊢
  rw[Pl.popnd_nil] at this ⊢
  exact this
 |succ n=>exact operand_of n (ih n oM) l p cap a o mb mo cp ao be w hl ha ho oM hk hE hP
def PA (n:Nat) (l:List Pl.Itk) (a:Nat):Option (Pl.E × List Pl.T):=if (Pl.pfun (Pl.rI l a)).1.one.k=0 then none else (Pl.pexpr n (Pl.pfun (Pl.rI l a)).2).map fun q=>(.one (Pl.pfun (Pl.rI l a)).1 q.1,q.2)
theorem expr_fun (n:Nat) (ih:HXe n) (l:List Pl.Itk) (p cap a o mb mo cp:Nat) (ao:Option Addr) (be:Bool) (w:World) (hl:l.length<=1048576) (ha:a<=l.length) (ho:o+(l.length-a)<=1048570) (hn:2 * (l.length-a)+1<=n+1) (hk:∀t∈l,Pl.iOk t) (hE:Ej w l p ao mb mo cp) (hP:Ps w p ao l.length cap a o be) (hat:Pl.atF (Pl.rI l a)=true) :
  Calls Tryz.prog 89 #[.pointer (some ⟨p,0,none⟩)] w (PoX (fun x=>be || x.bey o) l p cap a ao o w (PA n l a)):=by
 have hpl:=hP.lt
 have hal:=Pl.atF_lt hat
 have KA:=zH (atFunction_any l p cap a o mb mo cp ao be w hl oM hE.m hP (hE.r.up (Nat.le_of_lt hP.lt)))
 rw[Pl.atf_T hk,hat] at KA
 have KF:Hid (∀w',Below w.heap.size w w'->Calls Tryz.prog 103 #[.pointer (some ⟨p,0,none⟩)] w' fun e w2=>e=.returned (ag8 (Pl.fuI l a))/\Ps w2 p ao l.length cap (Pl.fuI l a).2.2 o be/\w'.grownBy w2 (some p)):=fun w' hb=>function_any l p cap a o mb mo cp ao be w' hl oM (hE.low (hb.mono (Nat.le_of_lt hpl))) (hP.keep hb)
 have hfle:=Pl.fu_le l a
 obtain⟨f1,f2,f3⟩:=Pl.fu_T hk hat
 have hin:=Pl.fu_in hal
 have KX:Hid (¬(Pl.fuI l a).1.1=0->∀w',w.grownBy w' (some p)->Ps w' p ao l.length cap (Pl.fuI l a).2.2 o be->Calls Tryz.prog 89 #[.pointer (some ⟨p,0,none⟩)] w' (PoX (fun x=>be || x.bey o) l p cap (Pl.fuI l a).2.2 ao o w' (Pl.pexpr n (Pl.rI l (Pl.fuI l a).2.2)))):=fun h0 w' hg hP'=>ih l p cap (Pl.fuI l a).2.2 o mb mo cp ao be w' hl (hin (.inl h0)) oM (by have:=hin (.inl h0);omega) hk (hE.grown (Nat.le_of_lt hpl) hg) hP'
 have HPA:Hid (PA n l a=if (Pl.fuI l a).1.1=0 then none else (Pl.pexpr n (Pl.rI l (Pl.fuI l a).2.2)).map fun q=>(.one (Pl.pfun (Pl.rI l a)).1 q.1,q.2)):=by
  show _=_
  unfold PA
  rw[f1,f3]
  rfl
 have hf1:(Pl.fuI l a).1=Pl.fq (Pl.pfun (Pl.rI l a)).1.one:=f1
 generalize PA n l a=Y at *
 generalize Pl.pfun (Pl.rI l a)=pf at *
 generalize Pl.fuI l a=q at *
 obtain⟨q1,q2,a1⟩:=q
 obtain⟨b0,b1,b2,b3⟩:=q1
 obtain⟨e0,e1,e2,e3⟩:=q2
 simp only[ag8] at KF
 simp only at KX HPA hfle hin
 have hfd:=field114_0 b0 b1 b2 b3 e0 e1 e2 e3
 clear hE hP ih hk f1 f2 f3 hin
 have hq:b0=pf.1.one.k/\b1=pf.1.one.a/\b2=pf.1.one.b/\b3=Pl.ba pf.1.one.nm:=by
  simp only[Pl.fq,Prod.mk.injEq] at hf1
  exact hf1
 have HQ:=zH hq
 clear hq hf1
 by_cases hz:b0=0
 ·rw[if_pos hz] at HPA
  obtain rfl:=HPA.out
  clear HPA KX
  subst hz
  go_enter Tryz.func89,Tryz.ntmps89
  go_wp2_with fail
  refine KA.out.mono ?_
  rintro e w1 ⟨rfl,hb1⟩
  have K1:=zH (KF.out w1 hb1)
  have G1:=zH (grown_none hb1 (some p))
  clear KA KF hb1
  go_wp2_with fail
  refine K1.out.mono ?_
  rintro e w2 ⟨rfl,hP2,hg2⟩
  have HF:Hid (∀ob,PoX (fun x=>be || x.bey o) l p cap a ao o w none (.returned (.tuple #[.nilIface,.bool false])) (w2.alloc ob)):=fun ob=>⟨_,a1,be,rfl,.inl rfl,⟨hP2.keep ((Below.refl _ _).alloc (Nat.le_refl _) ob),grown_alloc (G1.out.trans hg2) ob,by omega⟩⟩
  clear hP2 hg2 K1 G1
  go_wp2_with fail
  refine bodyPost_ret (v:=.tuple #[.nilIface,.bool false]) (by simp[results,Tryz.results89,go_sem]) rfl (HF.out _)
 have hzb:(b0 == 0)=false:=by simpa using hz
 rw[if_neg hz] at HPA
 have KX':=zH (KX.out hz)
 clear KX hz
 generalize Pl.pexpr n (Pl.rI l a1)=X at *
 cases X with
 |none =>
  obtain rfl:=HPA.out
  clear HPA
  go_enter Tryz.func89,Tryz.ntmps89
  go_wp2_with fail
  refine KA.out.mono ?_
  rintro e w1 ⟨rfl,hb1⟩
  have K1:=zH (KF.out w1 hb1)
  have G1:=zH (grown_none hb1 (some p))
  clear KA KF hb1
  go_wp2_with fail
  refine K1.out.mono ?_
  rintro e w2 ⟨rfl,hP2,hg2⟩
  have hpw2:=hP2.lt
  have K2:=zH (fun ob=>KX'.out (w2.alloc ob) (grown_alloc (G1.out.trans hg2) ob) (hP2.keep ((Below.refl _ _).alloc (Nat.le_refl _) ob)))
  have G2:=zH (fun ob=>grown_alloc (G1.out.trans hg2) ob)
  clear hP2 hg2 K1 G1 KX'
  go_wp2_with fail
  refine(K2.out _).mono ?_
  intro e w3 hpo
  obtain⟨v,a',be',rfl,hiv,hx⟩:=hpo
  have d0:=hx.g.cell (a:=⟨w2.heap.size,0,none⟩) (v:=.int .i64 b0) (by simp[go_sem]) (by simp;omega)
  have d1:=hx.g.cell (a:=⟨w2.heap.size,1,none⟩) (v:=.int .i64 b1) (by simp[go_sem]) (by simp;omega)
  have d2:=hx.g.cell (a:=⟨w2.heap.size,2,none⟩) (v:=.int .i64 b2) (by simp[go_sem]) (by simp;omega)
  have d3:=hx.g.cell (a:=⟨w2.heap.size,3,none⟩) (v:=.string b3) (by simp[go_sem]) (by simp;omega)
  have HF:Hid (PoX (fun x=>be || x.bey o) l p cap a ao o w none (.returned (.tuple #[.iface 153 (.agg #[.int .i64 b0,.int .i64 b1,.int .i64 b2,.string b3,v]),.bool false])) w3):=⟨_,a',be',rfl,.inr ⟨_,_,rfl⟩,⟨hx.ps,(G2.out _).trans hx.g,hx.le⟩⟩
  clear hx K2 G2
  rcases hiv with rfl|⟨T,qv,rfl⟩
  ·go_wp2_with fail
   refine bodyPost_ret (v:=.tuple #[.iface 153 (.agg #[.int .i64 b0,.int .i64 b1,.int .i64 b2,.string b3,.nilIface]),.bool false]) (by simp[results,Tryz.results89,go_sem]) rfl HF.out
  go_wp2_with fail
  refine bodyPost_ret (v:=.tuple #[.iface 153 (.agg #[.int .i64 b0,.int .i64 b1,.int .i64 b2,.string b3,.iface T qv]),.bool false]) (by simp[results,Tryz.results89,go_sem]) rfl HF.out
 |some xr =>
  obtain⟨x,r⟩:=xr
  obtain rfl:=HPA.out
  clear HPA
  go_enter Tryz.func89,Tryz.ntmps89
  go_wp2_with fail
  refine KA.out.mono ?_
  rintro e w1 ⟨rfl,hb1⟩
  have K1:=zH (KF.out w1 hb1)
  have G1:=zH (grown_none hb1 (some p))
  clear KA KF hb1
  go_wp2_with fail
  refine K1.out.mono ?_
  rintro e w2 ⟨rfl,hP2,hg2⟩
  have hpw2:=hP2.lt
  have K2:=zH (fun ob=>KX'.out (w2.alloc ob) (grown_alloc (G1.out.trans hg2) ob) (hP2.keep ((Below.refl _ _).alloc (Nat.le_refl _) ob)))
  have G2:=zH (fun ob=>grown_alloc (G1.out.trans hg2) ob)
  clear hP2 hg2 K1 G1 KX'
  go_wp2_with fail
  refine(K2.out _).mono ?_
  intro e w3 hpo
  obtain⟨v,F,a',rfl,hN,hI,hx,hal',haa,hr⟩:=hpo
  obtain⟨T,qv,rfl⟩:=NdE.form x v F hN
  have d0:=hx.g.cell (a:=⟨w2.heap.size,0,none⟩) (v:=.int .i64 b0) (by simp[go_sem]) (by simp;omega)
  have d1:=hx.g.cell (a:=⟨w2.heap.size,1,none⟩) (v:=.int .i64 b1) (by simp[go_sem]) (by simp;omega)
  have d2:=hx.g.cell (a:=⟨w2.heap.size,2,none⟩) (v:=.int .i64 b2) (by simp[go_sem]) (by simp;omega)
  have d3:=hx.g.cell (a:=⟨w2.heap.size,3,none⟩) (v:=.string b3) (by simp[go_sem]) (by simp;omega)
  have hzz:=(G2.out (.cells #[] 0)).size
  have HF:Hid (PoX (fun x=>be || x.bey o) l p cap a ao o w (some (.one pf.1 x,r)) (.returned (.tuple #[.iface 153 (.agg #[.int .i64 b0,.int .i64 b1,.int .i64 b2,.string b3,.iface T qv]),.bool true])) w3):=⟨_,F,a',rfl,by rw[NdE];exact⟨_,by rw[HQ.out.1,HQ.out.2.1,HQ.out.2.2.1,HQ.out.2.2.2],hN⟩,hI.up (by simp at hzz ⊢;omega) (Nat.le_refl _),⟨hx.ps,(G2.out _).trans hx.g,hx.le⟩,hal',by omega,hr⟩
  clear hx K2 G2 hN hI hr
  go_wp2_with fail
  refine bodyPost_ret (v:=.tuple #[.iface 153 (.agg #[.int .i64 b0,.int .i64 b1,.int .i64 b2,.string b3,.iface T qv]),.bool true]) (by simp[results,Tryz.results89,go_sem]) rfl HF.out
def PB (n:Nat):Option (Pl.O × List Pl.T)->Option (Pl.E × List Pl.T)
 |none=>none
 |some (oo,r)=>if Pl.atF r=true then (if (Pl.pfun r).1.two.k=0 then none else (Pl.pexpr n (Pl.pfun r).2).map fun q=>(.two oo (Pl.pfun r).1 q.1,q.2)) else some (.opd oo,r)
theorem expr_opd (n:Nat) (ih:∀k,k<=n->HXe k) (l:List Pl.Itk) (p cap a o mb mo cp:Nat) (ao:Option Addr) (be:Bool) (w:World) (hl:l.length<=1048576) (ha:a<=l.length) (ho:o+(l.length-a)<=1048570) (hn:2 * (l.length-a)+1<=n+1) (hk:∀t∈l,Pl.iOk t) (hE:Ej w l p ao mb mo cp) (hP:Ps w p ao l.length cap a o be) (hat:Pl.atF (Pl.rI l a)=false) (hend:∀oo r,Pl.popnd n (Pl.rI l a)=some (oo,r)->Pl.atF r=false) :
  Calls Tryz.prog 89 #[.pointer (some ⟨p,0,none⟩)] w (PoX (fun x=>be || x.bey o) l p cap a ao o w (PB n (Pl.popnd n (Pl.rI l a)))):=by
 have hpl:=hP.lt
 have KA:=zH (atFunction_any l p cap a o mb mo cp ao be w hl oM hE.m hP (hE.r.up (Nat.le_of_lt hP.lt)))
 rw[Pl.atf_T hk,hat] at KA
 have KO:Hid (∀w',Below w.heap.size w w'->Calls Tryz.prog 104 #[.pointer (some ⟨p,0,none⟩)] w' (PoO (fun x=>be || x.bey o) l p cap a ao o w' (Pl.popnd n (Pl.rI l a)))):=fun w' hb=>operand_fuel n ih l p cap a o mb mo cp ao be w' hl ha ho oM hk (hE.low (hb.mono (Nat.le_of_lt hpl))) (hP.keep hb)
 have KA2:Hid (∀w' a' b2,w.grownBy w' (some p)->Ps w' p ao l.length cap a' o b2->a'<=1048590->Calls Tryz.prog 102 #[.pointer (some ⟨p,0,none⟩)] w' fun e w2=>e=.returned (.bool (Pl.atF (Pl.rI l a')))/\Below w'.heap.size w' w2):=fun w' a' b2 hg hP' h=>by
  have hE':=hE.grown (Nat.le_of_lt hpl) hg
  have:=atFunction_any l p cap a' o mb mo cp ao b2 w' hl h hE'.m hP' (hE'.r.up (Nat.le_of_lt hP'.lt))
  rw[Pl.atf_T hk] at this
  exact this
 clear hE hP ih hk
 generalize Pl.popnd n (Pl.rI l a)=X at *
 cases X with
 |none =>
  rw[PB]
  go_enter Tryz.func89,Tryz.ntmps89
  go_wp2_with fail
  refine KA.out.mono ?_
  rintro e w1 ⟨rfl,hb1⟩
  have K1:=zH (KO.out w1 hb1)
  have G1:=zH (grown_none hb1 (some p))
  clear KA KO hb1
  go_wp2_with fail
  refine K1.out.mono ?_
  intro e w2 hpo
  obtain⟨v,a',be',rfl,hiv,hx⟩:=hpo
  have HF:Hid (PoX (fun x=>be || x.bey o) l p cap a ao o w none (.returned (.tuple #[v,.bool false])) w2):=⟨v,a',be',rfl,hiv,⟨hx.ps,G1.out.trans hx.g,hx.le⟩⟩
  clear hx K1 hiv
  go_wp2_with fail
  refine bodyPost_ret (v:=.tuple #[v,.bool false]) (by simp[results,Tryz.results89,go_sem]) rfl HF.out
 |some q =>
  obtain⟨oo,r⟩:=q
  have hr0:=hend oo r rfl
  rw[PB,if_neg (by rw[hr0];simp)]
  go_enter Tryz.func89,Tryz.ntmps89
  go_wp2_with fail
  refine KA.out.mono ?_
  rintro e w1 ⟨rfl,hb1⟩
  have K1:=zH (KO.out w1 hb1)
  have G1:=zH (grown_none hb1 (some p))
  have hz1:=hb1.size
  clear KA KO hb1
  go_wp2_with fail
  refine K1.out.mono ?_
  intro e w2 hpo
  obtain⟨v,F,a',rfl,hN,hI,hx,hal',haa,hr⟩:=hpo
  have K2:=zH (KA2.out w2 a' _ (G1.out.trans hx.g) hx.ps hx.le)
  rw[hr,hr0] at K2
  have HF:Hid (∀w3,Below w2.heap.size w2 w3->PoX (fun x=>be || x.bey o) l p cap a ao o w (some (.opd oo,r)) (.returned (.tuple #[v,.bool true])) w3):=fun w3 hb=>⟨v,F,a',rfl,by rw[NdE];exact NdO.keep oo v F hN (fun b hm=>hb.block b (hI b hm).2),(hI.up hz1 hb.size),⟨hx.ps.keep hb,grown_then (G1.out.trans hx.g) hb (G1.out.trans hx.g).size,hx.le⟩,hal',haa,hr⟩
  clear hx K1 hN hI KA2
  go_wp2_with fail
  refine K2.out.mono ?_
  rintro e w3 ⟨rfl,hb3⟩
  have HG:=zH (HF.out w3 hb3)
  clear hb3 HF K2
  go_wp2_with fail
  refine bodyPost_ret (v:=.tuple #[v,.bool true]) (by simp[results,Tryz.results89,go_sem]) rfl HG.out
theorem expr_two (n:Nat) (ih:∀k,k<=n->HXe k) (l:List Pl.Itk) (p cap a o mb mo cp:Nat) (ao:Option Addr) (be:Bool) (w:World) (hl:l.length<=1048576) (ha:a<=l.length) (ho:o+(l.length-a)<=1048570) (hn:2 * (l.length-a)+1<=n+1) (hk:∀t∈l,Pl.iOk t) (hE:Ej w l p ao mb mo cp) (hP:Ps w p ao l.length cap a o be) (hat:Pl.atF (Pl.rI l a)=false) (oo:Pl.O) (r:List Pl.T) (hpop:Pl.popnd n (Pl.rI l a)=some (oo,r)) (hat2:Pl.atF r=true) :
  Calls Tryz.prog 89 #[.pointer (some ⟨p,0,none⟩)] w (PoX (fun x=>be || x.bey o) l p cap a ao o w (PB n (some (oo,r)))):=by
 have hpl:=hP.lt
 have KA:=zH (atFunction_any l p cap a o mb mo cp ao be w hl oM hE.m hP (hE.r.up (Nat.le_of_lt hP.lt)))
 rw[Pl.atf_T hk,hat] at KA
 have KO:Hid (∀w',Below w.heap.size w w'->Calls Tryz.prog 104 #[.pointer (some ⟨p,0,none⟩)] w' (PoO (fun x=>be || x.bey o) l p cap a ao o w' (some (oo,r)))):=fun w' hb=>by
  have:=operand_fuel n ih l p cap a o mb mo cp ao be w' hl ha ho oM hk (hE.low (hb.mono (Nat.le_of_lt hpl))) (hP.keep hb)
  rw[hpop] at this
  exact this
 have KA2:Hid (∀w' a' b2,w.grownBy w' (some p)->Ps w' p ao l.length cap a' o b2->a'<=1048590->Calls Tryz.prog 102 #[.pointer (some ⟨p,0,none⟩)] w' fun e w2=>e=.returned (.bool (Pl.atF (Pl.rI l a')))/\Below w'.heap.size w' w2):=fun w' a' b2 hg hP' h=>by
  have hE':=hE.grown (Nat.le_of_lt hpl) hg
  have:=atFunction_any l p cap a' o mb mo cp ao b2 w' hl h hE'.m hP' (hE'.r.up (Nat.le_of_lt hP'.lt))
  rw[Pl.atf_T hk] at this
  exact this
 have REC:Hid (∀a',a'<=l.length->Pl.rI l a'=r->∀w' b2,w.grownBy w' (some p)->Ps w' p ao l.length cap a' o b2->Hid (Calls Tryz.prog 103 #[.pointer (some ⟨p,0,none⟩)] w' fun e w2=>e=.returned (ag8 (Pl.fuI l a'))/\Ps w2 p ao l.length cap (Pl.fuI l a').2.2 o b2/\w'.grownBy w2 (some p))/\Hid ((Pl.fuI l a').2.1=Pl.fq (Pl.pfun r).1.two/\a'<(Pl.fuI l a').2.2/\(Pl.fuI l a').2.2<=a'+3)/\Hid (¬(Pl.fuI l a').2.1.1=0->a<a'->∀w4,w.grownBy w4 (some p)->Ps w4 p ao l.length cap (Pl.fuI l a').2.2 o b2->Calls Tryz.prog 89 #[.pointer (some ⟨p,0,none⟩)] w4 (PoX (fun x=>b2 || x.bey o) l p cap (Pl.fuI l a').2.2 ao o w4 (Pl.pexpr n (Pl.pfun r).2)))):=fun a' hal' hr w' b2 hg hP'=>by
  have hat':Pl.atF (Pl.rI l a')=true:=by rw[hr];exact hat2
  obtain⟨f1,f2,f3⟩:=Pl.fu_T hk hat'
  have hlt:=Pl.atF_lt hat'
  have hle:=Pl.fu_le l a'
  rw[hr] at f1 f2 f3
  refine⟨function_any l p cap a' o mb mo cp ao b2 w' hl oM (hE.grown (Nat.le_of_lt hpl) hg) hP',⟨f2,hle⟩,fun h0 haa w4 hg4 hP4=>?_⟩
  have hin:=Pl.fu_in hlt (.inr h0)
  rw[<- f3]
  exact ih n (Nat.le_refl _) l p cap _ o mb mo cp ao b2 w4 hl hin oM oM hk (hE.grown (Nat.le_of_lt hpl) hg4) hP4
 clear hE hP ih hk hpop
 have HPB:Hid (PB n (some (oo,r))=if (Pl.pfun r).1.two.k=0 then none else (Pl.pexpr n (Pl.pfun r).2).map fun q=>(.two oo (Pl.pfun r).1 q.1,q.2)):=by show _=_;rw[PB,if_pos hat2]
 generalize PB n (some (oo,r))=Y at *
 generalize Pl.pfun r=pf at *
 by_cases hz:pf.1.two.k=0
 ·rw[if_pos hz] at HPB
  obtain rfl:=HPB.out
  clear HPB
  go_enter Tryz.func89,Tryz.ntmps89
  go_wp2_with fail
  refine KA.out.mono ?_
  rintro e w1 ⟨rfl,hb1⟩
  have K1:=zH (KO.out w1 hb1)
  have G1:=zH (grown_none hb1 (some p))
  have hz1:=hb1.size
  clear KA KO hb1
  go_wp2_with fail
  refine K1.out.mono ?_
  intro e w2 hpo
  obtain⟨v,F,a',rfl,hN,hI,hx,hal',haa,hr⟩:=hpo
  obtain⟨Tl,ql,rfl⟩:=NdO.form oo v F hN
  have G2:=zH (G1.out.trans hx.g)
  have K2:=zH (KA2.out w2 a' _ G2.out hx.ps hx.le)
  rw[hr,hat2] at K2
  have HX:=zH hx
  have HN:=zH hN
  have HI:=zH (hI.up hz1 (Nat.le_refl _))
  clear hx K1 hN hI KA2 G1
  go_wp2_with fail
  refine K2.out.mono ?_
  rintro e w3 ⟨rfl,hb3⟩
  have P3:=HX.out.ps.keep hb3
  have G3:=zH (grown_then G2.out hb3 G2.out.size)
  have N3:=zH (NdO.keep (w':=w3) oo _ F HN.out (fun b hm=>hb3.block b (HI.out b hm).2))
  have I3:=zH (HI.out.up (Nat.le_refl _) hb3.size)
  have hle:=HX.out.le
  obtain⟨KF,HQ,KX⟩:=REC.out a' hal' hr w3 _ G3.out P3
  have hqe:=HQ.out
  clear hb3 K2 HX HN HI G2 REC P3 KX
  generalize Pl.fuI l a'=q at *
  obtain⟨q1,q2,a1⟩:=q
  obtain⟨b0,b1,b2,b3⟩:=q1
  obtain⟨e0,e1,e2,e3⟩:=q2
  have he0:e0=0:=by have:=hqe.1;simp only[Pl.fq,Prod.mk.injEq] at this;rw[this.1,hz]
  simp only at hqe
  have hale:=hqe.2
  clear hqe HQ hz
  subst he0
  have hfd:=field114_1 b0 b1 b2 b3 0 e1 e2 e3
  simp only[ag8] at KF
  go_wp2_with fail
  refine KF.out.mono ?_
  rintro e w4 ⟨rfl,hP4,hg4⟩
  have HF:Hid (∀ob,PoX (fun x=>be || x.bey o) l p cap a ao o w none (.returned (.tuple #[.nilIface,.bool false])) (w4.alloc ob)):=fun ob=>⟨_,a1,_,rfl,.inl rfl,⟨hP4.keep ((Below.refl _ _).alloc (Nat.le_refl _) ob),grown_alloc (G3.out.trans hg4) ob,by omega⟩⟩
  clear hP4 hg4 KF
  go_wp2_with fail
  refine bodyPost_ret (v:=.tuple #[.nilIface,.bool false]) (by simp[results,Tryz.results89,go_sem]) rfl (HF.out _)
 rw[if_neg hz] at HPB
 generalize Pl.pexpr n pf.2=X at *
 cases X with
 |none =>
  obtain rfl:=HPB.out
  clear HPB
  go_enter Tryz.func89,Tryz.ntmps89
  go_wp2_with fail
  refine KA.out.mono ?_
  rintro e w1 ⟨rfl,hb1⟩
  have K1:=zH (KO.out w1 hb1)
  have G1:=zH (grown_none hb1 (some p))
  have hz1:=hb1.size
  clear KA KO hb1
  go_wp2_with fail
  refine K1.out.mono ?_
  intro e w2 hpo
  obtain⟨v,F,a',rfl,hN,hI,hx,hal',haa,hr⟩:=hpo
  obtain⟨Tl,ql,rfl⟩:=NdO.form oo v F hN
  have G2:=zH (G1.out.trans hx.g)
  have K2:=zH (KA2.out w2 a' _ G2.out hx.ps hx.le)
  rw[hr,hat2] at K2
  have HX:=zH hx
  have HN:=zH hN
  have HI:=zH (hI.up hz1 (Nat.le_refl _))
  clear hx K1 hN hI KA2 G1
  go_wp2_with fail
  refine K2.out.mono ?_
  rintro e w3 ⟨rfl,hb3⟩
  have P3:=HX.out.ps.keep hb3
  have G3:=zH (grown_then G2.out hb3 G2.out.size)
  have N3:=zH (NdO.keep (w':=w3) oo _ F HN.out (fun b hm=>hb3.block b (HI.out b hm).2))
  have I3:=zH (HI.out.up (Nat.le_refl _) hb3.size)
  have hle:=HX.out.le
  obtain⟨KF,HQ,KX⟩:=REC.out a' hal' hr w3 _ G3.out P3
  have hqe:=HQ.out
  clear hb3 K2 HX HN HI G2 REC P3
  have KX':=KX.out
  generalize Pl.fuI l a'=q at *
  obtain⟨q1,q2,a1⟩:=q
  obtain⟨b0,b1,b2,b3⟩:=q1
  obtain⟨e0,e1,e2,e3⟩:=q2
  have hq2:e0=pf.1.two.k/\e1=pf.1.two.a/\e2=pf.1.two.b/\e3=Pl.ba pf.1.two.nm:=by have:=hqe.1;simp only[Pl.fq,Prod.mk.injEq] at this;exact this
  have hzb:(e0 == 0)=false:=by rw[hq2.1];simpa using hz
  have KX2:=zH (KX' (by show ¬e0=0;rw[hq2.1];exact hz) haa)
  have HQ2:=zH hq2
  have hale:=hqe.2
  simp only at hale
  clear hqe HQ KX' KX hq2
  have hfd:=field114_1 b0 b1 b2 b3 e0 e1 e2 e3
  simp only[ag8] at KF
  go_wp2_with fail
  refine KF.out.mono ?_
  rintro e w4 ⟨rfl,hP4,hg4⟩
  have hpw4:=hP4.lt
  have G4:=zH (fun ob=>grown_alloc (G3.out.trans hg4) ob)
  have hpF:p ∉ F:=fun hm=>by have:=(I3.out _ hm).1;omega
  have N4:=zH (fun ob=>NdO.keep (w':=w4.alloc ob) oo _ F N3.out (fun b hm=>(Below.heap_alloc _ _ _ (Nat.lt_of_lt_of_le (I3.out b hm).2 hg4.size)).trans (hg4.block b (I3.out b hm).2 (fun e=>by cases e;exact hpF hm))))
  have I4:=zH (I3.out.up (Nat.le_refl _) hg4.size)
  have K4:=zH (fun ob=>KX2.out (w4.alloc ob) (G4.out ob) (hP4.keep ((Below.refl _ _).alloc (Nat.le_refl _) ob)))
  clear hP4 hg4 KF KX2 N3 I3 G3
  go_wp2_with fail
  refine(K4.out _).mono ?_
  intro e w5 hpo
  obtain⟨v2,a2,be2,rfl,hiv,hx⟩:=hpo
  have d0:=hx.g.cell (a:=⟨w4.heap.size,0,none⟩) (v:=.int .i64 e0) (by simp[go_sem]) (by simp;omega)
  have d1:=hx.g.cell (a:=⟨w4.heap.size,1,none⟩) (v:=.int .i64 e1) (by simp[go_sem]) (by simp;omega)
  have d2:=hx.g.cell (a:=⟨w4.heap.size,2,none⟩) (v:=.int .i64 e2) (by simp[go_sem]) (by simp;omega)
  have d3:=hx.g.cell (a:=⟨w4.heap.size,3,none⟩) (v:=.string e3) (by simp[go_sem]) (by simp;omega)
  have HF:Hid (PoX (fun x=>be || x.bey o) l p cap a ao o w none (.returned (.tuple #[.iface 155 (.agg #[.iface Tl ql,.int .i64 e0,.int .i64 e1,.int .i64 e2,.string e3,v2]),.bool false])) w5):=⟨_,a2,be2,rfl,.inr ⟨_,_,rfl⟩,⟨hx.ps,(G4.out _).trans hx.g,hx.le⟩⟩
  clear hx K4 G4
  rcases hiv with rfl|⟨T2,q2,rfl⟩
  ·go_wp2_with fail
   refine bodyPost_ret (v:=.tuple #[.iface 155 (.agg #[.iface Tl ql,.int .i64 e0,.int .i64 e1,.int .i64 e2,.string e3,.nilIface]),.bool false]) (by simp[results,Tryz.results89,go_sem]) rfl HF.out
  go_wp2_with fail
  refine bodyPost_ret (v:=.tuple #[.iface 155 (.agg #[.iface Tl ql,.int .i64 e0,.int .i64 e1,.int .i64 e2,.string e3,.iface T2 q2]),.bool false]) (by simp[results,Tryz.results89,go_sem]) rfl HF.out
 |some xr =>
  obtain⟨x,r2⟩:=xr
  obtain rfl:=HPB.out
  clear HPB
  go_enter Tryz.func89,Tryz.ntmps89
  go_wp2_with fail
  refine KA.out.mono ?_
  rintro e w1 ⟨rfl,hb1⟩
  have K1:=zH (KO.out w1 hb1)
  have G1:=zH (grown_none hb1 (some p))
  have hz1:=hb1.size
  clear KA KO hb1
  go_wp2_with fail
  refine K1.out.mono ?_
  intro e w2 hpo
  obtain⟨v,F,a',rfl,hN,hI,hx,hal',haa,hr⟩:=hpo
  obtain⟨Tl,ql,rfl⟩:=NdO.form oo v F hN
  have G2:=zH (G1.out.trans hx.g)
  have K2:=zH (KA2.out w2 a' _ G2.out hx.ps hx.le)
  rw[hr,hat2] at K2
  have HX:=zH hx
  have HN:=zH hN
  have HI:=zH (hI.up hz1 (Nat.le_refl _))
  clear hx K1 hN hI KA2 G1
  go_wp2_with fail
  refine K2.out.mono ?_
  rintro e w3 ⟨rfl,hb3⟩
  have P3:=HX.out.ps.keep hb3
  have G3:=zH (grown_then G2.out hb3 G2.out.size)
  have N3:=zH (NdO.keep (w':=w3) oo _ F HN.out (fun b hm=>hb3.block b (HI.out b hm).2))
  have I3:=zH (HI.out.up (Nat.le_refl _) hb3.size)
  have hle:=HX.out.le
  obtain⟨KF,HQ,KX⟩:=REC.out a' hal' hr w3 _ G3.out P3
  have hqe:=HQ.out
  clear hb3 K2 HX HN HI G2 REC P3
  have KX':=KX.out
  generalize Pl.fuI l a'=q at *
  obtain⟨q1,q2,a1⟩:=q
  obtain⟨b0,b1,b2,b3⟩:=q1
  obtain⟨e0,e1,e2,e3⟩:=q2
  have hq2:e0=pf.1.two.k/\e1=pf.1.two.a/\e2=pf.1.two.b/\e3=Pl.ba pf.1.two.nm:=by have:=hqe.1;simp only[Pl.fq,Prod.mk.injEq] at this;exact this
  have hzb:(e0 == 0)=false:=by rw[hq2.1];simpa using hz
  have KX2:=zH (KX' (by show ¬e0=0;rw[hq2.1];exact hz) haa)
  have HQ2:=zH hq2
  have hale:=hqe.2
  simp only at hale
  clear hqe HQ KX' KX hq2
  have hfd:=field114_1 b0 b1 b2 b3 e0 e1 e2 e3
  simp only[ag8] at KF
  go_wp2_with fail
  refine KF.out.mono ?_
  rintro e w4 ⟨rfl,hP4,hg4⟩
  have hpw4:=hP4.lt
  have G4:=zH (fun ob=>grown_alloc (G3.out.trans hg4) ob)
  have hpF:p ∉ F:=fun hm=>by have:=(I3.out _ hm).1;omega
  have N4:=zH (fun ob=>NdO.keep (w':=w4.alloc ob) oo _ F N3.out (fun b hm=>(Below.heap_alloc _ _ _ (Nat.lt_of_lt_of_le (I3.out b hm).2 hg4.size)).trans (hg4.block b (I3.out b hm).2 (fun e=>by cases e;exact hpF hm))))
  have I4:=zH (I3.out.up (Nat.le_refl _) hg4.size)
  have K4:=zH (fun ob=>KX2.out (w4.alloc ob) (G4.out ob) (hP4.keep ((Below.refl _ _).alloc (Nat.le_refl _) ob)))
  clear hP4 hg4 KF KX2 N3 I3 G3
  go_wp2_with fail
  refine(K4.out _).mono ?_
  intro e w5 hpo
  obtain⟨v2,F2,a2,rfl,hN2,hI2,hx,hal2,haa2,hr2⟩:=hpo
  obtain⟨T2,q2,rfl⟩:=NdE.form x v2 F2 hN2
  have d0:=hx.g.cell (a:=⟨w4.heap.size,0,none⟩) (v:=.int .i64 e0) (by simp[go_sem]) (by simp;omega)
  have d1:=hx.g.cell (a:=⟨w4.heap.size,1,none⟩) (v:=.int .i64 e1) (by simp[go_sem]) (by simp;omega)
  have d2:=hx.g.cell (a:=⟨w4.heap.size,2,none⟩) (v:=.int .i64 e2) (by simp[go_sem]) (by simp;omega)
  have d3:=hx.g.cell (a:=⟨w4.heap.size,3,none⟩) (v:=.string e3) (by simp[go_sem]) (by simp;omega)
  have hz4:=(G4.out (.cells #[] 0)).size
  simp at hz4
  have HF:Hid (PoX (fun x=>be || x.bey o) l p cap a ao o w (some (.two oo pf.1 x,r2)) (.returned (.tuple #[.iface 155 (.agg #[.iface Tl ql,.int .i64 e0,.int .i64 e1,.int .i64 e2,.string e3,.iface T2 q2]),.bool true])) w5):=⟨_,F2++F,a2,rfl,by rw[NdE];exact⟨_,_,F,F2,by rw[HQ2.out.1,HQ2.out.2.1,HQ2.out.2.2.1,HQ2.out.2.2.2],rfl,NdO.keep oo _ F (N4.out _) (fun b hm=>hx.g.block b (by have:=(I4.out b hm).2;simp;omega) (fun e=>by cases e;exact hpF hm)),hN2,fun b hb hm=>by have h1:=(hI2 b hb).1;have h2:=(I4.out b hm).2;simp at h1;omega⟩,fun b hb=>by rcases List.mem_append.1 hb with h | h;exact⟨by have:=(hI2 b h).1;simp at this;omega,(hI2 b h).2⟩;exact⟨(I4.out b h).1,by have:=(I4.out b h).2;have:=hx.g.size;simp at this;omega⟩,⟨by show Ps w5 p ao l.length cap a2 o (be || (Pl.E.two oo pf.1 x).bey o);rw[Pl.E.bey,<- Bool.or_assoc];exact hx.ps,(G4.out _).trans hx.g,hx.le⟩,hal2,by omega,hr2⟩
  clear hx K4 G4 hN2 hI2 hr2
  go_wp2_with fail
  refine bodyPost_ret (v:=.tuple #[.iface 155 (.agg #[.iface Tl ql,.int .i64 e0,.int .i64 e1,.int .i64 e2,.string e3,.iface T2 q2]),.bool true]) (by simp[results,Tryz.results89,go_sem]) rfl HF.out
end Go.Proofs.YtbiiicbfpcfgdaaGreatDoor
