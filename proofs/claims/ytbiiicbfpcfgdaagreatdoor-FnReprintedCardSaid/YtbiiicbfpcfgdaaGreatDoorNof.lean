import Derived.Test.YtbiiicbfpcfgdaaGreatDoorSu3b
namespace Go.Proofs.YtbiiicbfpcfgdaaGreatDoor
open Go.RowKit
set_option maxRecDepth 100000
set_option maxHeartbeats 16000000
set_option linter.unusedVariables false
theorem owns_succ {base e k:Nat}{w:World}{v:Value}{xs:List Value}(h:w.ownsRow base e 1 v (k+1) xs):∃g cap,v=.slice (some ⟨g,0,none⟩) (k+1) cap:=by
 rcases h.2 with ⟨_,h0⟩|⟨g,cp,cur,e,_⟩
 ·exact absurd h0 oM
 exact⟨g,cp,e⟩
def NofPost (c:List Pl.Sv) (w:World) (e:Ending) (w':World):Prop :=
 Below w.heap.size w w'/\((∃t v,c.all Pl.sok=true/\Pl.run Pl.ar c []=some [t]/\e=.returned (.tuple #[v,.bool true])/\NdV w.heap.size w' t v)\/((∀t,¬(c.all Pl.sok=true/\Pl.run Pl.ar c []=some [t]))/\e=.returned (.tuple #[.nilIface,.bool false])))
theorem run_append104 {base:Nat}(w:World) (ty:TypeId) (v:Value) (n:Nat) (xs:List Value) (h:w.ownsRow base 135 1 v n xs) (b:Nat) (x:Value) (hx:w.cell? ⟨b,0,none⟩=some x) (h1:x.oneCell'=true) (hn:n<=1048576) (hb:base<=w.heap.size) :
  ∃v' w',(Builtin.append_ #[156,156] ty #[v,.slice (some ⟨b,0,none⟩) 1 1]).run Tryz.prog w=.ok v' w'/\w'.ownsRow base 135 1 v' (n+1) (xs++[x])/\w.grownBy w' v.ownBlock:=by
 obtain⟨i0,hi,hz0,hz1,hz2⟩:=info_parts Tryz.info135
 obtain⟨v',w',hr,ho,hg,_⟩:=run_append_own (P:=Tryz.prog) w base 156 ty 135 i0 .nilIface 1 16 und116' hi hz0 hz1 hz2 rfl (by decide) v n _ h ⟨b,0,none⟩ 1 1 [x] sI (by
   intro j y hj
   match j,hj with
   |0,hj=>simp at hj;subst hj;rw[Addr.add_lit];exact hx
   |j+1,hj=>simp at hj)
  (by intro y hy;simp at hy;subst hy;exact h1) (by unfold maxLen;omega) oM hb
 exact⟨v',w',hr,ho,hg⟩
theorem tNof1 {P:Prop}(h:P:=by
 refine(KN.out _ H3D.out).mono ?_
 rintro e w4 ⟨⟨v,rfl,hv⟩,hb4⟩
 refine⟨v,rfl,trivial,?_⟩
 have H4:=zH (H3D.out.trans (hb4.mono H3D.out.size))
 have HV:=zH hv
 clear hb4 hv d0 d1 d2 d3 d4 d5 d6 F3
 obtain⟨Tv,pv,rfl⟩:=HV.out.iface
 have B5:Hid (Below w4.heap.size w4 (w4.alloc (.cells #[.iface Tv pv] 135))):=(Below.refl _ _).alloc (Nat.le_refl _) _
 have C5:Hid ((w4.alloc (.cells #[.iface Tv pv] 135)).cell? ⟨w4.heap.size,0,none⟩=some (.iface Tv pv)):=by show _=_;simp[go_sem]
 refine step_val (i:=8) kR rfl rfl _ (exec_build104 (.tmp 37) Tv pv rfl kR w4) trivial ?_
 generalize hp5:w4.heap.size=p5 at C5 B5 ⊢
 have HP5:=zH hp5
 clear hp5
 generalize (w4.alloc (.cells #[.iface Tv pv] 135))=w5 at C5 B5 ⊢
 have B5':Hid (Below w4.heap.size w4 w5):=by rw[HP5.out];exact B5
 have H5:=zH (H4.out.trans (B5'.out.mono H4.out.size))
 have O5:=zH (owns_keep OR.out (HF.out _ H5.out))
 obtain⟨v',w6,hr6,ho6,hg6⟩:=run_append104 (base:=w.heap.size) w5 127 (.slice xo (m) yo) (m) _ O5.out p5 (.iface Tv pv) C5.out rfl oM (by have:=(HW.out _ H5.out).size;omega)
 have B6:Hid (Below w.heap.size w w6):=(HW.out _ H5.out).grown hg6 (HW.out _ H5.out).size (fun k hk=>(O5.out.lt k hk).1)
 have Bw:Hid (Below w.heap.size w5 w6):=(Below.refl _ _).grown hg6 (HW.out _ H5.out).size (fun k hk=>(O5.out.lt k hk).1)
 have O6:=zH ho6
 clear ho6 hg6
 refine step_val (i:=9) kR rfl rfl v' (exec_app104 (.tmp 32) (.tmp 38) (.slice xo (m) yo) (.slice (some ⟨p5,0,none⟩) 1 1) v' w5 w6 rfl kR kR hr6) trivial ?_
 clear hr6
 refine step_val (i:=10) kR rfl rfl v' (exec_assign (.tmp 39) v' rfl kR w6) trivial ?_
 refine wpAnyH_done kR ?_ _
 go_wp2_with fail
 go_roundw
 case rel =>
  refine⟨k+1,_,.iface Tv pv::rx',by omega,by go_num,⟨HAL.out,HNEW.out,?_,⟨NdV.keep Bw.out (NdV.keep (B5'.out.mono (by have:=(HW.out _ H4.out).size;omega)) HV.out),Stk.keep Bw.out (Stk.keep ((HF.out _ H5.out).mono hbs) ST'.out)⟩⟩,B6⟩
  have:=O6.out
  rw[List.reverse_cons,List.length_cons,HNN.out]
  exact this
 case measure=>simp[intOf];omega
 ):P:=h
theorem tNof2 {P:Prop}(h:P:=by
 refine(KN.out _ H3D.out).mono ?_
 rintro e w4 ⟨⟨v,rfl,hv⟩,hb4⟩
 refine⟨v,rfl,trivial,?_⟩
 have H4:=zH (H3D.out.trans (hb4.mono H3D.out.size))
 have HV:=zH hv
 clear hb4 hv d0 d1 d2 d3 d4 d5 d6 F3
 obtain⟨Tv,pv,rfl⟩:=HV.out.iface
 have B5:Hid (Below w4.heap.size w4 (w4.alloc (.cells #[.iface Tv pv] 135))):=(Below.refl _ _).alloc (Nat.le_refl _) _
 have C5:Hid ((w4.alloc (.cells #[.iface Tv pv] 135)).cell? ⟨w4.heap.size,0,none⟩=some (.iface Tv pv)):=by show _=_;simp[go_sem]
 refine step_val (i:=8) kR rfl rfl _ (exec_build104 (.tmp 37) Tv pv rfl kR w4) trivial ?_
 generalize hp5:w4.heap.size=p5 at C5 B5 ⊢
 have HP5:=zH hp5
 clear hp5
 generalize (w4.alloc (.cells #[.iface Tv pv] 135))=w5 at C5 B5 ⊢
 have B5':Hid (Below w4.heap.size w4 w5):=by rw[HP5.out];exact B5
 have H5:=zH (H4.out.trans (B5'.out.mono H4.out.size))
 have O5:=zH (owns_keep OR.out (HF.out _ H5.out))
 obtain⟨v',w6,hr6,ho6,hg6⟩:=run_append104 (base:=w.heap.size) w5 127 (.slice xo (n) yo) (n) _ O5.out p5 (.iface Tv pv) C5.out rfl oM (by have:=(HW.out _ H5.out).size;omega)
 have B6:Hid (Below w.heap.size w w6):=(HW.out _ H5.out).grown hg6 (HW.out _ H5.out).size (fun k hk=>(O5.out.lt k hk).1)
 have Bw:Hid (Below w.heap.size w5 w6):=(Below.refl _ _).grown hg6 (HW.out _ H5.out).size (fun k hk=>(O5.out.lt k hk).1)
 have O6:=zH ho6
 clear ho6 hg6
 refine step_val (i:=9) kR rfl rfl v' (exec_app104 (.tmp 32) (.tmp 38) (.slice xo (n) yo) (.slice (some ⟨p5,0,none⟩) 1 1) v' w5 w6 rfl kR kR hr6) trivial ?_
 clear hr6
 refine step_val (i:=10) kR rfl rfl v' (exec_assign (.tmp 39) v' rfl kR w6) trivial ?_
 refine wpAnyH_done kR ?_ _
 go_wp2_with fail
 go_roundw
 case rel =>
  refine⟨k+1,_,.iface Tv pv::rx,by omega,by go_num,⟨HAL.out,HNEW.out,?_,⟨NdV.keep Bw.out (NdV.keep (B5'.out.mono (by have:=(HW.out _ H4.out).size;omega)) HV.out),Stk.keep Bw.out (Stk.keep ((HF.out _ H5.out).mono hbs) ST'.out)⟩⟩,B6⟩
  have:=O6.out
  rw[List.reverse_cons,List.length_cons,HNN.out]
  exact this
 case measure=>simp[intOf];omega
 ):P:=h
theorem tNof3 {P:Prop}(h:P:=by
 go_wp2_with fail
 rw[HW1.out]
 refine K69.out.mono ?_
 rintro e w2 ⟨rfl,hb2⟩
 obtain⟨d0,d1,d2,d3,d4,d5,d6⟩:=HBX.out _ hb2
 have H2:=zH hb2
 clear hb2
 go_wp2_with fail
 refine(K70.out _ H2.out).mono ?_
 rintro e w3 ⟨rfl,hb3⟩
 have H3:=zH (H2.out.trans (hb3.mono H2.out.size))
 clear hb3 d0 d1 d2 d3 d4 d5 d6
 go_wp2_with fail
 go_ret2
 exact⟨HW.out _ H3.out,.inr ⟨HNO.out,rfl⟩⟩
 ):P:=h
theorem tNof4 {P:Prop}(h:P:=by
 have:=stepNode_at s an cn (lo116 xo yo st.length) (st.length-st.length) (yo-st.length) hk12 w.heap.size w' (HW.out _ h).size (CRD.out.keep ((HF.out w' h).mono hbs))
 obtain⟨q1,q2,q3,q4,q5,q6,q7⟩:=HQ.out
 rw[q1,q2,q3,q4,q5,q6,q7] at this
 exact this
 ):P:=h
theorem nodeOf_any (c:List Pl.Sv) (ao:Option Addr) (cap mb mo cp:Nat) (hsm:Pl.Small c) (w:World) (hm:Mt w mb mo cp) (hR:RdS w.heap.size w ao c) :
  Calls Tryz.prog 92 #[.slice ao c.length cap] w (NofPost c w):=by
 have hlen:=hsm.len
 have HG:Hid (∀k,k<c.length->∃s,c[k]? = some s/\s∈c):=fun k hk=>⟨c[k],List.getElem?_eq_getElem hk,List.getElem_mem hk⟩
 have HC:Hid (∀k s,c[k]? = some s->∃b off,ao=some ⟨b,off,none⟩/\b<w.heap.size/\∃an cn,∀w',Below w.heap.size w w'->Stp w.heap.size w' b (off+k * 7) s an cn):=fun k s hs=>by
  rcases hR with rfl|⟨b,off,hb,rfl,hc⟩
  ·cases hs
  obtain⟨an,cn,h⟩:=hc k s hs
  exact⟨b,off,rfl,hb,an,cn,fun w' hw=>h.keep hb hw⟩
 have HA:Hid (∀k s,c[k]? = some s->(c.take (k+1)).all Pl.sok=((c.take k).all Pl.sok && Pl.sok s)):=fun k s=>Pl.all_succ
 have HT:Hid (∀k s,c[k]? = some s->∀st,Pl.run Pl.ar (c.take k) []=some st->Pl.run Pl.ar (c.take (k+1)) []=Pl.run Pl.ar [s] st):=fun k s hs st h=>Pl.run_take hs h
 have HFA:Hid (∀k,Pl.run Pl.ar (c.take k) []=none->∀t,¬(c.all Pl.sok=true/\Pl.run Pl.ar c []=some [t])):=fun k h t ht=>by
  rw[Pl.run_fail h] at ht
  cases ht.2
 have HFB:Hid (∀s∈c,Pl.sok s=false->∀t,¬(c.all Pl.sok=true/\Pl.run Pl.ar c []=some [t])):=fun s hs h t ht=>by
  have:=List.all_eq_true.1 ht.1 s hs
  rw[h] at this;cases this
 have HEND:Hid (∀k st,k=c.length->(c.take k).all Pl.sok=true->Pl.run Pl.ar (c.take k) []=some st->c.all Pl.sok=true/\Pl.run Pl.ar c []=some st):=fun k st hk h1 h2=>by
  rw[hk,List.take_length] at h1 h2
  exact⟨h1,h2⟩
 have HLN:Hid (∀k st,k<=c.length->Pl.run Pl.ar (c.take k) []=some st->st.length<=1048576):=fun k st hk h=>by
  have:=Pl.run_len _ _ _ h
  rw[List.length_take] at this
  simp only[List.length_nil] at this
  omega
 have HSM:=zH hsm
 have HMT:=zH hm
 clear hR hsm hm
 generalize hL:c.length=L at *
 clear hL
 go_enter Tryz.func92,Tryz.ntmps92
 go_wp2_with fail
 go_loopw [4,11] (fun sv iv wr=>∃(k:Nat) (st:List (Pl.Nd Pl.Sv)) (rx:List Value),k<=L/\iv=.int .i64 k/\Hid ((c.take k).all Pl.sok=true/\Pl.run Pl.ar (c.take k) []=some st/\wr.ownsRow w.heap.size 135 1 sv st.length rx.reverse/\Stk w.heap.size wr st rx)/\Hid (Below w.heap.size w wr)) (fun _ iv _=>L-(intOf iv).toNat)
 case atStart=>exact⟨0,[],[],Nat.zero_le _,rfl,⟨rfl,rfl,World.ownsRow_nil _ _ _ _,trivial⟩,Below.refl _ _⟩
 rename World=>wo
 obtain⟨k,st,rx,hk,rfl,HH,BB⟩:=hrel
 obtain⟨xo,yo,eo,hyo⟩:=owns_form HH.out.2.2.1
 subst eo
 have hbs:=BB.out.size
 by_cases hlt:k<L
 rotate_left 1
 ·obtain rfl:k=L:=by omega
  obtain⟨h1,h2,h3,h4⟩:=HH.out
  obtain⟨hall,hrun⟩:=HEND.out k st rfl h1 h2
  have hn:=HLN.out k st hk h2
  have HRUN:=zH hrun
  have HALL:=zH hall
  match st,rx,h3,h4 with
  |[],rx,h3,h4 =>
   have HNO:Hid (∀t,¬(c.all Pl.sok=true/\Pl.run Pl.ar c []=some [t])):=fun t ht=>by rw[HRUN.out] at ht;cases ht.2
   clear h1 h2 h3 h4 hall hrun HG HC HA HT HFB HFA HEND HLN HSM HMT HH
   go_wp2_with fail
   go_ret2
   exact⟨BB.out,.inr ⟨HNO.out,rfl⟩⟩
  |[t],[],h3,h4=>exact absurd h4 (fun h=>h)
  |[t],v::rx,h3,h4 =>
   obtain⟨g,ygc,hgf⟩:=owns_succ (k:=0) h3
   injection hgf with ex1 ex2 ex3
   subst ex1 ex3
   have hcell:wo.cell? ⟨g,0,none⟩=some v:=by
    have:=h3.cellAt 0 sI
    cases rx with
    |nil=>rw[this];rfl
    |cons u rx=>exact absurd h4.2 (fun h=>h)
   have HV:=zH h4.1
   obtain⟨Tv,pv,rfl⟩:=h4.1.iface
   clear h1 h2 h3 h4 hall hrun HG HC HA HT HFB HFA HEND HLN HSM HMT HH
   go_wp2_with fail
   go_ret2
   exact⟨BB.out,.inl ⟨t,_,HALL.out,HRUN.out,rfl,HV.out⟩⟩
  |t1::t2::st,rx,h3,h4 =>
   have HNO:Hid (∀t,¬(c.all Pl.sok=true/\Pl.run Pl.ar c []=some [t])):=fun t ht=>by rw[HRUN.out] at ht;cases ht.2
   have hne:(((t1::t2::st).length:Int) != 1)=true:=by simp;omega
   generalize (t1::t2::st).length=n at *
   clear h1 h2 h3 h4 hall hrun HG HC HA HT HFB HFA HEND HLN HSM HMT HH
   go_wp2_with fail
   go_ret2
   exact⟨BB.out,.inr ⟨HNO.out,rfl⟩⟩
 obtain⟨s,hs,hmem⟩:=HG.out k hlt
 obtain⟨b,off,rfl,hb,an,cn,hst⟩:=HC.out k s hs
 obtain⟨c0,c1,c2,c3,c4,c5,c6,crd⟩:=hst _ BB.out
 have A:=zH (HA.out k s hs)
 have T:=zH (HT.out k s hs st HH.out.2.1)
 have FB:=zH (HFB.out s hmem)
 have FA:=zH (HFA.out (k+1))
 have hnl:=HLN.out k st hk HH.out.2.1
 obtain⟨W1,hW1⟩:∃W1,wo.alloc (.cells #[.int .i64 s.k,.slice an s.nums.length cn,.string (Pl.ba s.nm),.int .i64 s.fn.k,.int .i64 s.fn.a,.int .i64 s.fn.b,.string (Pl.ba s.fn.nm)] 90)=W1:=⟨_,rfl⟩
 have HS1:Hid (W1.heap.size=wo.heap.size+1):=by show _=_;rw[<- hW1];simp
 have HB1:Hid (Below wo.heap.size wo W1):=by show Below _ _ _;rw[<- hW1];exact(Below.refl _ _).alloc (Nat.le_refl _) _
 have HBX:Hid (∀w',Below W1.heap.size W1 w'->w'.cell? ⟨wo.heap.size,0,none⟩=some (.int .i64 s.k)/\w'.cell? ⟨wo.heap.size,1,none⟩=some (.slice an s.nums.length cn)/\w'.cell? ⟨wo.heap.size,2,none⟩=some (.string (Pl.ba s.nm))/\w'.cell? ⟨wo.heap.size,3,none⟩=some (.int .i64 s.fn.k)/\w'.cell? ⟨wo.heap.size,4,none⟩=some (.int .i64 s.fn.a)/\w'.cell? ⟨wo.heap.size,5,none⟩=some (.int .i64 s.fn.b)/\w'.cell? ⟨wo.heap.size,6,none⟩=some (.string (Pl.ba s.fn.nm))):=fun w' h=>by
  have hz:wo.heap.size<W1.heap.size:=by have:=HS1.out;omega
  refine⟨(h.cell (p:=⟨wo.heap.size,0,none⟩) hz).trans ?_,(h.cell (p:=⟨wo.heap.size,1,none⟩) hz).trans ?_,(h.cell (p:=⟨wo.heap.size,2,none⟩) hz).trans ?_,(h.cell (p:=⟨wo.heap.size,3,none⟩) hz).trans ?_,(h.cell (p:=⟨wo.heap.size,4,none⟩) hz).trans ?_,(h.cell (p:=⟨wo.heap.size,5,none⟩) hz).trans ?_,(h.cell (p:=⟨wo.heap.size,6,none⟩) hz).trans ?_⟩ <;> (rw[<- hW1];simp[go_sem])
 have HF:Hid (∀w',Below W1.heap.size W1 w'->Below wo.heap.size wo w'):=fun w' h=>HB1.out.trans (h.mono (by have:=HS1.out;omega))
 have HW:Hid (∀w',Below W1.heap.size W1 w'->Below w.heap.size w w'):=fun w' h=>BB.out.trans ((HF.out w' h).mono hbs)
 have K69:Hid (Calls Tryz.prog 106 #[.agg #[.int .i64 s.k,.slice an s.nums.length cn,.string (Pl.ba s.nm),.int .i64 s.fn.k,.int .i64 s.fn.a,.int .i64 s.fn.b,.string (Pl.ba s.fn.nm)]] W1 fun e w'=>e=.returned (.int .i64 (if s.k=3 then 1 else if s.k=4 then 2 else 0))/\Below W1.heap.size W1 w'):=taken_any s.k s.fn.k s.fn.a s.fn.b an s.nums.length cn (Pl.ba s.nm) (Pl.ba s.fn.nm) W1
 have K70:Hid (∀w',Below W1.heap.size W1 w'->Calls Tryz.prog 107 #[.agg #[.int .i64 s.k,.slice an s.nums.length cn,.string (Pl.ba s.nm),.int .i64 s.fn.k,.int .i64 s.fn.a,.int .i64 s.fn.b,.string (Pl.ba s.fn.nm)]] w' fun e w2=>e=.returned (.bool (Pl.sok s))/\Below w'.heap.size w' w2):=fun w' h=>stepOk_any s an cn mb mo cp w' (HMT.out.keep (HW.out w' h)) ((crd.keep ((HF.out w' h).mono hbs)).up (by have:=(HW.out w' h).size;omega)) (HSM.out.nums hmem) (HSM.out.nm s hmem).1 (HSM.out.nm s hmem).2
 have CRD:=zH crd
 have HW1:=zH hW1
 have R1:Hid (Below W1.heap.size W1 W1):=Below.refl _ _
 have HK:=zH (fun h=>@Pl.sok_kind s h)
 clear hst crd hs hmem HG HC HA HT HFB HFA HEND HLN HSM HMT hW1
 generalize hnm:Pl.ba s.nm=nm at *
 generalize hfn:Pl.ba s.fn.nm=fnm at *
 generalize hfk:s.fn.k=fk at *
 generalize hfa:s.fn.a=fa at *
 generalize hfb:s.fn.b=fb at *
 generalize hsn:s.nums.length=sn at *
 generalize hkk:s.k=kk at *
 have HQ:Hid (Pl.ba s.nm=nm/\Pl.ba s.fn.nm=fnm/\s.fn.k=fk/\s.fn.a=fa/\s.fn.b=fb/\s.nums.length=sn/\s.k=kk):=⟨hnm,hfn,hfk,hfa,hfb,hsn,hkk⟩
 clear hnm hfn hfk hfa hfb hsn hkk
 cases hok:Pl.sok s
 ·have HNO:=zH (FB.out hok)
  rw[hok] at K70
  clear hok
  generalize (if kk=3 then 1 else if kk=4 then 2 else 0:Int)=tk at *
  go_wp2_with fail
  rw[HW1.out]
  refine K69.out.mono ?_
  rintro e w2 ⟨rfl,hb2⟩
  obtain⟨d0,d1,d2,d3,d4,d5,d6⟩:=HBX.out _ hb2
  have H2:=zH hb2
  clear hb2
  go_wp2_with (go_at_call 107;refine(K70.out _ H2.out).mono ?_;rintro e w3 ⟨rfl,hb3⟩)
  go_ret2
  exact⟨HW.out _ (H2.out.trans (hb3.mono H2.out.size)),.inr ⟨HNO.out,rfl⟩⟩
 rw[hok] at K70 A
 have HAL:=zH (show (c.take (k+1)).all Pl.sok=true by rw[A.out,HH.out.1];rfl)
 have hkind:=HK.out hok
 clear hok A FB HK
 rcases hkind with hq|hq|hq|hq
 ·subst hq
  have hk12:s.k=1\/s.k=2:=.inl HQ.out.2.2.2.2.2.2
  have HNEW:Hid (Pl.run Pl.ar (c.take (k+1)) []=some (.at s::st)):=by
   show _=_
   rw[T.out]
   have:Pl.ar s=0:=by unfold Pl.ar;rw[if_pos hk12]
   simp[Pl.run,this]
  have ST':Hid (Stk w.heap.size wo st rx):=HH.out.2.2.2
  have OR:Hid (wo.ownsRow w.heap.size 135 1 (.slice xo st.length yo) st.length rx.reverse):=HH.out.2.2.1
  have KN:Hid (∀w',Below W1.heap.size W1 w'->Calls Tryz.prog 108 #[.agg #[.int .i64 1,.slice an sn cn,.string nm,.int .i64 fk,.int .i64 fa,.int .i64 fb,.string fnm],.slice (lo116 xo yo st.length) (st.length-st.length) (yo-st.length)] w' fun e w2=>(∃v,e=.returned v/\NdV w.heap.size w2 (.at s) v)/\Below w'.heap.size w' w2):=fun w' h=>by
   exact tNof4
  clear hk12 T FA HH
  generalize hnn:st.length=n at *
  have HNN:=zH hnn
  clear hnn CRD
  go_wp2_with fail
  rw[HW1.out]
  refine K69.out.mono ?_
  rintro e w2 ⟨rfl,hb2⟩
  obtain⟨d0,d1,d2,d3,d4,d5,d6⟩:=HBX.out _ hb2
  have H2:=zH hb2
  clear hb2
  go_wp2_with fail
  refine(K70.out _ H2.out).mono ?_
  rintro e w3 ⟨rfl,hb3⟩
  have H3:=zH (H2.out.trans (hb3.mono H2.out.size))
  clear hb3 d0 d1 d2 d3 d4 d5 d6
  go_wp2_with fail
  have F3:Hid (w3.drew.cell? ⟨wo.heap.size,0,none⟩=some (.int .i64 1)/\w3.drew.cell? ⟨wo.heap.size,1,none⟩=some (.slice an sn cn)/\w3.drew.cell? ⟨wo.heap.size,2,none⟩=some (.string nm)/\w3.drew.cell? ⟨wo.heap.size,3,none⟩=some (.int .i64 fk)/\w3.drew.cell? ⟨wo.heap.size,4,none⟩=some (.int .i64 fa)/\w3.drew.cell? ⟨wo.heap.size,5,none⟩=some (.int .i64 fb)/\w3.drew.cell? ⟨wo.heap.size,6,none⟩=some (.string fnm)):=HBX.out _ H3.out.drew
  have H3D:Hid (Below W1.heap.size W1 w3.drew):=H3.out.drew
  refine wp_region_held (S:=fun w'=>True) kR ?_
  change wpAnyH _ _ _ _ _ _ _ _ (World.drew _)
  generalize World.drew w3=wd at F3 H3D ⊢
  clear H3
  refine tz 0 (.slice xo (n) yo) rfl trivial (fun w' _=>exec_move (.tmp 4) _ rfl rfl w') ?_
  refine tz 1 (.int .i64 ((n:Nat):Int)) rfl trivial (fun w' _=>exec_move (.tmp 8) (.int .i64 ((n:Nat):Int)) rfl rfl w') ?_
  refine tz 2 (.slice xo (n) yo) rfl trivial (fun w' _=>exec_hi116 (.tmp 30) (.tmp 31) xo (n) yo (n) rfl rfl rfl oM w') ?_
  refine tz 4 (.slice xo (n) yo) rfl trivial (fun w' _=>exec_move (.tmp 4) _ rfl rfl w') ?_
  refine tz 5 (.int .i64 ((n:Nat):Int)) rfl trivial (fun w' _=>exec_move (.tmp 8) (.int .i64 ((n:Nat):Int)) rfl rfl w') ?_
  refine tz 6 (.slice (lo116 xo yo (n)) ((n)-(n)) (yo-(n))) rfl trivial (fun w' _=>exec_lo116 (.tmp 34) (.tmp 35) xo (n) yo (n) rfl rfl rfl oM oM w') ?_
  obtain⟨d0,d1,d2,d3,d4,d5,d6⟩:=F3.out
  refine step_val (i:=3) kR rfl rfl _ (exec_load80 (.tmp 6) wo.heap.size 1 fk fa fb an sn cn nm fnm wd rfl kR d0 d1 d2 d3 d4 d5 d6) trivial ?_
  refine step_call (i:=7) kR rfl rfl 108 _ (exec_call71 (.tmp 33) (.tmp 36) (.agg #[.int .i64 1,.slice an sn cn,.string nm,.int .i64 fk,.int .i64 fa,.int .i64 fb,.string fnm]) (.slice (lo116 xo yo (n)) ((n)-(n)) (yo-(n))) _ rfl kR kR wd) ?_
  exact tNof2
 ·subst hq
  have hk12:s.k=1\/s.k=2:=.inr HQ.out.2.2.2.2.2.2
  have HNEW:Hid (Pl.run Pl.ar (c.take (k+1)) []=some (.at s::st)):=by
   show _=_
   rw[T.out]
   have:Pl.ar s=0:=by unfold Pl.ar;rw[if_pos hk12]
   simp[Pl.run,this]
  have ST':Hid (Stk w.heap.size wo st rx):=HH.out.2.2.2
  have OR:Hid (wo.ownsRow w.heap.size 135 1 (.slice xo st.length yo) st.length rx.reverse):=HH.out.2.2.1
  have KN:Hid (∀w',Below W1.heap.size W1 w'->Calls Tryz.prog 108 #[.agg #[.int .i64 2,.slice an sn cn,.string nm,.int .i64 fk,.int .i64 fa,.int .i64 fb,.string fnm],.slice (lo116 xo yo st.length) (st.length-st.length) (yo-st.length)] w' fun e w2=>(∃v,e=.returned v/\NdV w.heap.size w2 (.at s) v)/\Below w'.heap.size w' w2):=fun w' h=>by
   exact tNof4
  clear hk12 T FA HH
  generalize hnn:st.length=n at *
  have HNN:=zH hnn
  clear hnn CRD
  go_wp2_with fail
  rw[HW1.out]
  refine K69.out.mono ?_
  rintro e w2 ⟨rfl,hb2⟩
  obtain⟨d0,d1,d2,d3,d4,d5,d6⟩:=HBX.out _ hb2
  have H2:=zH hb2
  clear hb2
  go_wp2_with fail
  refine(K70.out _ H2.out).mono ?_
  rintro e w3 ⟨rfl,hb3⟩
  have H3:=zH (H2.out.trans (hb3.mono H2.out.size))
  clear hb3 d0 d1 d2 d3 d4 d5 d6
  go_wp2_with fail
  have F3:Hid (w3.drew.cell? ⟨wo.heap.size,0,none⟩=some (.int .i64 2)/\w3.drew.cell? ⟨wo.heap.size,1,none⟩=some (.slice an sn cn)/\w3.drew.cell? ⟨wo.heap.size,2,none⟩=some (.string nm)/\w3.drew.cell? ⟨wo.heap.size,3,none⟩=some (.int .i64 fk)/\w3.drew.cell? ⟨wo.heap.size,4,none⟩=some (.int .i64 fa)/\w3.drew.cell? ⟨wo.heap.size,5,none⟩=some (.int .i64 fb)/\w3.drew.cell? ⟨wo.heap.size,6,none⟩=some (.string fnm)):=HBX.out _ H3.out.drew
  have H3D:Hid (Below W1.heap.size W1 w3.drew):=H3.out.drew
  refine wp_region_held (S:=fun w'=>True) kR ?_
  change wpAnyH _ _ _ _ _ _ _ _ (World.drew _)
  generalize World.drew w3=wd at F3 H3D ⊢
  clear H3
  refine tz 0 (.slice xo (n) yo) rfl trivial (fun w' _=>exec_move (.tmp 4) _ rfl rfl w') ?_
  refine tz 1 (.int .i64 ((n:Nat):Int)) rfl trivial (fun w' _=>exec_move (.tmp 8) (.int .i64 ((n:Nat):Int)) rfl rfl w') ?_
  refine tz 2 (.slice xo (n) yo) rfl trivial (fun w' _=>exec_hi116 (.tmp 30) (.tmp 31) xo (n) yo (n) rfl rfl rfl oM w') ?_
  refine tz 4 (.slice xo (n) yo) rfl trivial (fun w' _=>exec_move (.tmp 4) _ rfl rfl w') ?_
  refine tz 5 (.int .i64 ((n:Nat):Int)) rfl trivial (fun w' _=>exec_move (.tmp 8) (.int .i64 ((n:Nat):Int)) rfl rfl w') ?_
  refine tz 6 (.slice (lo116 xo yo (n)) ((n)-(n)) (yo-(n))) rfl trivial (fun w' _=>exec_lo116 (.tmp 34) (.tmp 35) xo (n) yo (n) rfl rfl rfl oM oM w') ?_
  obtain⟨d0,d1,d2,d3,d4,d5,d6⟩:=F3.out
  refine step_val (i:=3) kR rfl rfl _ (exec_load80 (.tmp 6) wo.heap.size 2 fk fa fb an sn cn nm fnm wd rfl kR d0 d1 d2 d3 d4 d5 d6) trivial ?_
  refine step_call (i:=7) kR rfl rfl 108 _ (exec_call71 (.tmp 33) (.tmp 36) (.agg #[.int .i64 2,.slice an sn cn,.string nm,.int .i64 fk,.int .i64 fa,.int .i64 fb,.string fnm]) (.slice (lo116 xo yo (n)) ((n)-(n)) (yo-(n))) _ rfl kR kR wd) ?_
  exact tNof2
 ·subst hq
  cases st with
  |nil =>
   have HNO:=zH (FA.out (by
    rw[T.out]
    have h3:=HQ.out.2.2.2.2.2.2
    have:Pl.ar s=1:=by unfold Pl.ar;rw[h3];rfl
    simp[Pl.run,this]))
   exact tNof3
  |cons t1 st1 =>
   match rx,HH with
   |[],HH=>exact absurd HH.out.2.2.2 (fun h=>h)
   |v1::rx',HH =>
    have h3:=HQ.out.2.2.2.2.2.2
    have HNEW:Hid (Pl.run Pl.ar (c.take (k+1)) []=some (.one s t1::st1)):=by
     show _=_
     rw[T.out]
     have:Pl.ar s=1:=by unfold Pl.ar;rw[h3];rfl
     simp[Pl.run,this]
    have ST':Hid (Stk w.heap.size wo st1 rx'):=HH.out.2.2.2.2
    have NV:Hid (NdV w.heap.size wo t1 v1):=HH.out.2.2.2.1
    have hrl:rx'.length=st1.length:=ST'.out.len
    have OR:Hid (wo.ownsRow w.heap.size 135 1 (.slice xo st1.length yo) st1.length rx'.reverse):=by
     have:=ownsRow_cut (r:=st1.length) HH.out.2.2.1 sI
     rw[List.reverse_cons,List.take_left' (by rw[List.length_reverse];exact hrl)] at this
     exact this
    obtain⟨g,ygc,hgf⟩:=owns_succ (k:=st1.length) HH.out.2.2.1
    injection hgf with ex1 ex2 ex3
    subst ex1 ex3
    have hglt:g<wo.heap.size:=(HH.out.2.2.1.lt g rfl).2
    have hcell:wo.cell? ⟨g,st1.length,none⟩=some v1:=by
     have:=HH.out.2.2.1.cellAt st1.length sI
     rw[this,List.reverse_cons,List.getElem?_append_right (by rw[List.length_reverse];omega),List.length_reverse,hrl]
     simp
    have hlo:lo116 (some ⟨g,0,none⟩) yo st1.length=some ⟨g,st1.length,none⟩:=by
     unfold lo116
     rw[if_neg (by simp only[List.length_cons] at hyo;omega)]
     show some (Addr.add ⟨g,0,none⟩ (st1.length * 1))=_
     rw[Nat.mul_one,Addr.add_lit,Nat.zero_add]
    have KN:Hid (∀w',Below W1.heap.size W1 w'->Calls Tryz.prog 108 #[.agg #[.int .i64 3,.slice an sn cn,.string nm,.int .i64 fk,.int .i64 fa,.int .i64 fb,.string fnm],.slice (lo116 (some ⟨g,0,none⟩) yo st1.length) (st1.length+1-st1.length) (yo-st1.length)] w' fun e w2=>(∃v,e=.returned v/\NdV w.heap.size w2 (.one s t1) v)/\Below w'.heap.size w' w2):=fun w' h=>by
     have:=stepNode_one s t1 an cn g st1.length (yo-st1.length) v1 h3 w.heap.size w' (HW.out _ h).size (by have:=(HF.out _ h).size;omega) (((HF.out _ h).cell (p:=⟨g,st1.length,none⟩) hglt).trans hcell) (NdV.keep ((HF.out w' h).mono hbs) NV.out)
     obtain⟨q1,q2,q3,q4,q5,q6,q7⟩:=HQ.out
     rw[q1,q2,q3,q4,q5,q6,q7] at this
     rw[hlo,show st1.length+1-st1.length=1 by omega]
     exact this
    have hyo':st1.length+1<=yo:=hyo
    clear h3 T FA HH NV hcell hlo hrl hyo
    rw[List.length_cons] at hnl
    generalize hxo:(some (⟨g,0,none⟩:Addr))=xo at *
    clear hxo
    simp only[List.length_cons]
    generalize hnn:st1.length=m at *
    have HNN:=zH hnn
    clear hnn CRD
    go_wp2_with fail
    rw[HW1.out]
    refine K69.out.mono ?_
    rintro e w2 ⟨rfl,hb2⟩
    obtain⟨d0,d1,d2,d3,d4,d5,d6⟩:=HBX.out _ hb2
    have H2:=zH hb2
    clear hb2
    go_wp2_with fail
    refine(K70.out _ H2.out).mono ?_
    rintro e w3 ⟨rfl,hb3⟩
    have H3:=zH (H2.out.trans (hb3.mono H2.out.size))
    clear hb3 d0 d1 d2 d3 d4 d5 d6
    go_wp2_with fail
    have F3:Hid (w3.drew.cell? ⟨wo.heap.size,0,none⟩=some (.int .i64 3)/\w3.drew.cell? ⟨wo.heap.size,1,none⟩=some (.slice an sn cn)/\w3.drew.cell? ⟨wo.heap.size,2,none⟩=some (.string nm)/\w3.drew.cell? ⟨wo.heap.size,3,none⟩=some (.int .i64 fk)/\w3.drew.cell? ⟨wo.heap.size,4,none⟩=some (.int .i64 fa)/\w3.drew.cell? ⟨wo.heap.size,5,none⟩=some (.int .i64 fb)/\w3.drew.cell? ⟨wo.heap.size,6,none⟩=some (.string fnm)):=HBX.out _ H3.out.drew
    have H3D:Hid (Below W1.heap.size W1 w3.drew):=H3.out.drew
    refine wp_region_held (S:=fun w'=>True) kR ?_
    change wpAnyH _ _ _ _ _ _ _ _ (World.drew _)
    generalize World.drew w3=wd at F3 H3D ⊢
    clear H3
    refine tz 0 (.slice xo (m+1) yo) rfl trivial (fun w' _=>exec_move (.tmp 4) _ rfl rfl w') ?_
    refine tz 1 (.int .i64 ((m:Nat):Int)) rfl trivial (fun w' _=>exec_move (.tmp 8) (.int .i64 ((m:Nat):Int)) rfl rfl w') ?_
    refine tz 2 (.slice xo (m) yo) rfl trivial (fun w' _=>exec_hi116 (.tmp 30) (.tmp 31) xo (m+1) yo (m) rfl rfl rfl oM w') ?_
    refine tz 4 (.slice xo (m+1) yo) rfl trivial (fun w' _=>exec_move (.tmp 4) _ rfl rfl w') ?_
    refine tz 5 (.int .i64 ((m:Nat):Int)) rfl trivial (fun w' _=>exec_move (.tmp 8) (.int .i64 ((m:Nat):Int)) rfl rfl w') ?_
    refine tz 6 (.slice (lo116 xo yo (m)) ((m+1)-(m)) (yo-(m))) rfl trivial (fun w' _=>exec_lo116 (.tmp 34) (.tmp 35) xo (m+1) yo (m) rfl rfl rfl oM oM w') ?_
    obtain⟨d0,d1,d2,d3,d4,d5,d6⟩:=F3.out
    refine step_val (i:=3) kR rfl rfl _ (exec_load80 (.tmp 6) wo.heap.size 3 fk fa fb an sn cn nm fnm wd rfl kR d0 d1 d2 d3 d4 d5 d6) trivial ?_
    refine step_call (i:=7) kR rfl rfl 108 _ (exec_call71 (.tmp 33) (.tmp 36) (.agg #[.int .i64 3,.slice an sn cn,.string nm,.int .i64 fk,.int .i64 fa,.int .i64 fb,.string fnm]) (.slice (lo116 xo yo (m)) ((m+1)-(m)) (yo-(m))) _ rfl kR kR wd) ?_
    exact tNof1
 subst hq
 match st,rx,HH with
 |[],rx,HH =>
  have HNO:=zH (FA.out (by
   rw[T.out]
   have h3:=HQ.out.2.2.2.2.2.2
   have:Pl.ar s=2:=by unfold Pl.ar;rw[h3];rfl
   simp[Pl.run,this]))
  exact tNof3
 |[x],rx,HH =>
  have HNO:=zH (FA.out (by
   rw[T.out]
   have h3:=HQ.out.2.2.2.2.2.2
   have:Pl.ar s=2:=by unfold Pl.ar;rw[h3];rfl
   simp[Pl.run,this]))
  exact tNof3
 |t1::t2::st1,[],HH=>exact absurd HH.out.2.2.2 (fun h=>h)
 |t1::t2::st1,[v1],HH=>exact absurd HH.out.2.2.2.2 (fun h=>h)
 |t1::t2::st1,v1::v2::rx',HH =>
   have h3:=HQ.out.2.2.2.2.2.2
   have HNEW:Hid (Pl.run Pl.ar (c.take (k+1)) []=some (.two s t1 t2::st1)):=by
    show _=_
    rw[T.out]
    have:Pl.ar s=2:=by unfold Pl.ar;rw[h3];rfl
    simp[Pl.run,this]
   have ST':Hid (Stk w.heap.size wo st1 rx'):=HH.out.2.2.2.2.2
   have NV1:Hid (NdV w.heap.size wo t1 v1):=HH.out.2.2.2.1
   have NV2:Hid (NdV w.heap.size wo t2 v2):=HH.out.2.2.2.2.1
   have hrl:rx'.length=st1.length:=ST'.out.len
   have hxs:(v1::v2::rx').reverse=rx'.reverse++[v2,v1]:=by simp
   have OR:Hid (wo.ownsRow w.heap.size 135 1 (.slice xo st1.length yo) st1.length rx'.reverse):=by
    have:=ownsRow_cut (r:=st1.length) HH.out.2.2.1 (by simp;omega)
    rw[hxs,List.take_left' (by rw[List.length_reverse];exact hrl)] at this
    exact this
   obtain⟨g,ygc,hgf⟩:=owns_succ (k:=st1.length+1) HH.out.2.2.1
   injection hgf with ex1 ex2 ex3
   subst ex1 ex3
   have hglt:g<wo.heap.size:=(HH.out.2.2.1.lt g rfl).2
   have hcell2:wo.cell? ⟨g,st1.length,none⟩=some v2:=by
    have:=HH.out.2.2.1.cellAt st1.length (by simp;omega)
    rw[this,hxs,List.getElem?_append_right (by rw[List.length_reverse];omega),List.length_reverse,hrl]
    simp
   have hcell1:wo.cell? ⟨g,st1.length+1,none⟩=some v1:=by
    have:=HH.out.2.2.1.cellAt (st1.length+1) sI
    rw[this,hxs,List.getElem?_append_right (by rw[List.length_reverse];omega),List.length_reverse,hrl]
    simp
   have hlo:lo116 (some ⟨g,0,none⟩) yo st1.length=some ⟨g,st1.length,none⟩:=by
    unfold lo116
    rw[if_neg (by simp only[List.length_cons] at hyo;omega)]
    show some (Addr.add ⟨g,0,none⟩ (st1.length * 1))=_
    rw[Nat.mul_one,Addr.add_lit,Nat.zero_add]
   have KN:Hid (∀w',Below W1.heap.size W1 w'->Calls Tryz.prog 108 #[.agg #[.int .i64 4,.slice an sn cn,.string nm,.int .i64 fk,.int .i64 fa,.int .i64 fb,.string fnm],.slice (lo116 (some ⟨g,0,none⟩) yo st1.length) (st1.length+1+1-st1.length) (yo-st1.length)] w' fun e w2=>(∃v,e=.returned v/\NdV w.heap.size w2 (.two s t1 t2) v)/\Below w'.heap.size w' w2):=fun w' h=>by
    have:=stepNode_two s t1 t2 an cn g st1.length (yo-st1.length) v2 v1 h3 w.heap.size w' (HW.out _ h).size (by have:=(HF.out _ h).size;omega) (((HF.out _ h).cell (p:=⟨g,st1.length,none⟩) hglt).trans hcell2) (((HF.out _ h).cell (p:=⟨g,st1.length+1,none⟩) hglt).trans hcell1) (NdV.keep ((HF.out w' h).mono hbs) NV2.out) (NdV.keep ((HF.out w' h).mono hbs) NV1.out)
    obtain⟨q1,q2,q3,q4,q5,q6,q7⟩:=HQ.out
    rw[q1,q2,q3,q4,q5,q6,q7] at this
    rw[hlo,show st1.length+1+1-st1.length=2 by omega]
    exact this
   have hyo':st1.length+1+1<=yo:=hyo
   clear h3 T FA HH NV1 NV2 hcell1 hcell2 hlo hrl hyo hxs
   rw[List.length_cons,List.length_cons] at hnl
   generalize hxo:(some (⟨g,0,none⟩:Addr))=xo at *
   clear hxo
   simp only[List.length_cons]
   generalize hnn:st1.length=m at *
   have HNN:=zH hnn
   clear hnn
   have EZ:Hid (∀z:Int,z=2->Value.int .i64 ((m:Int)+1+1-z)=.int .i64 (m:Int)):=fun z hz=>by rw[hz];congr 1;omega
   go_wp2_with fail
   rw[HW1.out]
   refine K69.out.mono ?_
   rintro e w2 ⟨rfl,hb2⟩
   obtain⟨d0,d1,d2,d3,d4,d5,d6⟩:=HBX.out _ hb2
   have H2:=zH hb2
   clear hb2
   go_wp2_with fail
   refine(K70.out _ H2.out).mono ?_
   rintro e w3 ⟨rfl,hb3⟩
   have H3:=zH (H2.out.trans (hb3.mono H2.out.size))
   clear hb3 d0 d1 d2 d3 d4 d5 d6
   go_wp2_with fail
   have F3:Hid (w3.drew.cell? ⟨wo.heap.size,0,none⟩=some (.int .i64 4)/\w3.drew.cell? ⟨wo.heap.size,1,none⟩=some (.slice an sn cn)/\w3.drew.cell? ⟨wo.heap.size,2,none⟩=some (.string nm)/\w3.drew.cell? ⟨wo.heap.size,3,none⟩=some (.int .i64 fk)/\w3.drew.cell? ⟨wo.heap.size,4,none⟩=some (.int .i64 fa)/\w3.drew.cell? ⟨wo.heap.size,5,none⟩=some (.int .i64 fb)/\w3.drew.cell? ⟨wo.heap.size,6,none⟩=some (.string fnm)):=HBX.out _ H3.out.drew
   have H3D:Hid (Below W1.heap.size W1 w3.drew):=H3.out.drew
   refine wp_region_held (S:=fun w'=>True) kR ?_
   change wpAnyH _ _ _ _ _ _ _ _ (World.drew _)
   generalize World.drew w3=wd at F3 H3D ⊢
   clear H3
   refine tz 0 (.slice xo (m+1+1) yo) rfl trivial (fun w' _=>exec_move (.tmp 4) _ rfl rfl w') ?_
   refine tz 1 (.int .i64 ((m:Nat):Int)) rfl trivial (fun w' _=>exec_move (.tmp 8) (.int .i64 ((m:Nat):Int)) rfl (Eq.trans (b:=Value.int .i64 ((m:Int)+1+1-2)) (by rfl) (EZ.out 2 rfl)) w') ?_
   refine tz 2 (.slice xo (m) yo) rfl trivial (fun w' _=>exec_hi116 (.tmp 30) (.tmp 31) xo (m+1+1) yo (m) rfl rfl rfl oM w') ?_
   refine tz 4 (.slice xo (m+1+1) yo) rfl trivial (fun w' _=>exec_move (.tmp 4) _ rfl rfl w') ?_
   refine tz 5 (.int .i64 ((m:Nat):Int)) rfl trivial (fun w' _=>exec_move (.tmp 8) (.int .i64 ((m:Nat):Int)) rfl (Eq.trans (b:=Value.int .i64 ((m:Int)+1+1-2)) (by rfl) (EZ.out 2 rfl)) w') ?_
   refine tz 6 (.slice (lo116 xo yo (m)) ((m+1+1)-(m)) (yo-(m))) rfl trivial (fun w' _=>exec_lo116 (.tmp 34) (.tmp 35) xo (m+1+1) yo (m) rfl rfl rfl oM oM w') ?_
   obtain⟨d0,d1,d2,d3,d4,d5,d6⟩:=F3.out
   refine step_val (i:=3) kR rfl rfl _ (exec_load80 (.tmp 6) wo.heap.size 4 fk fa fb an sn cn nm fnm wd rfl kR d0 d1 d2 d3 d4 d5 d6) trivial ?_
   refine step_call (i:=7) kR rfl rfl 108 _ (exec_call71 (.tmp 33) (.tmp 36) (.agg #[.int .i64 4,.slice an sn cn,.string nm,.int .i64 fk,.int .i64 fa,.int .i64 fb,.string fnm]) (.slice (lo116 xo yo (m)) ((m+1+1)-(m)) (yo-(m))) _ rfl kR kR wd) ?_
   exact tNof1
end Go.Proofs.YtbiiicbfpcfgdaaGreatDoor
