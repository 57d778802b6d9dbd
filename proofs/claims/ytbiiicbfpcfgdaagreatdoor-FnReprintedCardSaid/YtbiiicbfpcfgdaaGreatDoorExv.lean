import Derived.Test.YtbiiicbfpcfgdaaGreatDoorExz
namespace Go.Proofs.YtbiiicbfpcfgdaaGreatDoor
open Go.RowKit
set_option maxRecDepth 100000
set_option maxHeartbeats 16000000
set_option linter.unusedVariables false
theorem uExv1 {P:Prop}(h:P:=by simp;omega):P:=h
theorem uExv2 {P:Prop}(h:P:=by simp[go_sem];rfl):P:=h
theorem Ivx.first {l:List Pl.Tok}{N:Nat}{R:Option Pl.E}{w w2:World}{ao:Option Addr}{n cap:Nat}{fr ne:Int}{ok lo:Bool}(hb:Below (w.heap.size+1) (w.alloc box0) w2) (hc:CodeR (w.heap.size+1) w2 (.agg #[.slice ao n cap,.int .i64 fr,.bool ok,.int .i64 ne,.bool lo]) ((Pl.ropnd N (Pl.rv l l.length)).map ofO))
  (hn:Pl.ropnd N (Pl.rv l l.length)=none->R=none) (hs:∀o r,Pl.ropnd N (Pl.rv l l.length)=some (o,r)->Far l N R (.opd o) r.length):Ivx l N R w w2.heap.size (w2.alloc (.cells #[.slice ao n cap,.int .i64 fr,.bool ok,.int .i64 ne,.bool lo] 75)):=by
 refine⟨ao,n,cap,fr,ok,ne,lo,Lx.new hb,?_⟩
 cases hq:Pl.ropnd N (Pl.rv l l.length) with
 |none =>
  rw[hq] at hc
  obtain⟨_,_,_,_,_,_,e⟩:=hc
  cases e
  exact .inl ⟨rfl,hn hq⟩
 |some q =>
  rw[hq] at hc
  obtain⟨o,r⟩:=q
  obtain⟨ao',cap',F,e,h1,h2⟩:=hc
  cases e
  refine .inr ⟨rfl,.opd o,r.length,F,rfl,rfl,rfl,rfl,hs o r hq,h1.below Qs.lives h2 ((Below.refl _ _).alloc (Nat.le_refl _) _) (Nat.le_refl _),h2.up (Nat.le_refl _) sI,fun hm=>?_⟩
  have:=(h2 _ hm).2
  omega
theorem tExv8 {P:Prop}(h:P:=by
 clear HIV LF
 go_wp2_with fail
 go_roundw
 case rel=>exact HV
 case measure=>simp[go_sem,c1,m1,intOf] <;> omega
 ):P:=h
theorem tExv2 {P:Prop}(h:P:=by
 refine step_valq (i:=10) kR rfl rfl (.pointer (some ⟨p,0,none⟩)) (exec_f63_0 (.tmp 3) p rfl kR w9) S9.out ?_
 refine step_skip (i:=11) kR rfl rfl (exec_store34 (.tmp 62) (.tmp 61) p 0 _ ao9 cx cap9 w9 rfl kR kR L9.c0 (L9.cf 0)) (S9.out.set p 0 _ hpp6 hpp7) ?_
 refine wpAnyH_done kR ?_ _
 have SF:=S9.out.set p 0 (.slice ao9 cx cap9) hpp6 hpp7
 have LF:=L9.set0 ao9 cx cap9
 clear hr9 ho9 hi9 hg9 hs9 hownA L9 S9 LXA RA hFa hszA
 obtain⟨b,r0,r1,r2,r3,r4,rf,ge,lt,c0,c1,c2,c3,c4,cf⟩:=id LF
 obtain⟨y0,y1,y3,y4,_,_,_,_,_,_⟩:=SF
 by_cases hnn:e.nest<o.nest
 ·have hni:(e.nest:Int)<(o.nest:Int):=by omega
  cases hel:e.long
  ·rw[hel] at c4
   have HV:=zH ((HIV.out o.long (by rw[hel];rfl)).2 hnn)
   exact tExv8
  rw[hel] at c4
  have HV:=zH ((HIV.out true (by rw[hel];rfl)).2 hnn)
  exact tExv8
 ·have hni:¬(e.nest:Int)<(o.nest:Int):=by omega
  cases hel:e.long
  ·rw[hel] at c4
   have HV:=zH ((HIV.out o.long (by rw[hel];rfl)).1 hnn)
   exact tExv8
  rw[hel] at c4
  have HV:=zH ((HIV.out true (by rw[hel];rfl)).1 hnn)
  exact tExv8
 ):P:=h
theorem tExv5 {P:Prop}(h:P:=by
 have h1:=(RA.i b hb).1
 refine⟨by omega,?_⟩
 rcases hsA b hb with h|h|h
 ·exact⟨fun e=>hp (e ▸ h),by have:=(EI3.out b h).2;omega,by have:=(EI3.out b h).2;omega⟩
 ·have:=LI4.out b h
  exact⟨by omega,by omega,by omega⟩
 ·exact⟨by omega,by omega,by omega⟩
 ):P:=h
theorem tExv9 {P:Prop}(h:P:=by
 have h:=(E0.out.lt b hb).1
 exact⟨(EI0.out b h).1,fun e=>hp (e ▸ h),by have:=(EI3.out b h).2;omega,by have:=(EI3.out b h).2;omega⟩
 ):P:=h
theorem tExv10 {P:Prop}(h:P:=by
 rcases hs9 p hm with h|h|h
 ·exact(hFa p h).2.1 rfl
 ·have:=L0.lt;omega
 ·have:=LXA.lt;omega
 ):P:=h
theorem tExv3 {P:Prop}(h:P:=by
 obtain⟨va,Wa,Fa,hrA,hgA,hsA,RA⟩:=R9.p3 E0.out EI0.out LF0.out LI0.out hcn hdis hbdA hs0 34 f.two
 have hFa:∀b,b∈Fa->w.heap.size<b/\b ≠ p/\b ≠ (w3.heap.size+1)/\b ≠ w5.heap.size:=fun b hb=>by
  exact tExv5
 have hownE:∀b,(.slice ao3 e.code.length cap3:Value).ownBlock=some b->w.heap.size<b/\b ≠ p/\b ≠ (w3.heap.size+1)/\b ≠ w5.heap.size:=fun b hb=>by
  exact tExv9
 have hszA:W0.heap.size<=Wa.heap.size:=Nat.le_trans (by first | exact Nat.le_refl _ | (simp;done) | (simp;omega)) hgA.size
 have SA:Hid (Sy (w3.heap.size+1) w5.heap.size Wa ao5 o.code.length cap5 rr.length o.nest o.long f.two):=((S0.out.alloc _).alloc _).grown hgA (fun b hb=>(hownE b hb).2.2)
 have LA:=(L0.keep (((Below.refl _ _).alloc (Nat.le_refl _) (.cells #[] 3)).alloc sI (objF 4 W0.heap.size f.two))).grown hgA (fun b hb=>⟨(hownE b hb).1,(hownE b hb).2.1⟩)
 refine step_valq (i:=4) kR rfl rfl va (exec_app34 (.tmp 53) (.tmp 55) (.slice ao3 e.code.length cap3) (.slice ao5 o.code.length cap5) va ((W0.alloc (.cells #[] 3)).alloc (objF 4 W0.heap.size f.two)) Wa rfl kR kR hrA) SA.out ?_
 have LXA:=LA
 obtain⟨v9,w9,F9,hr9,ho9,hi9,hg9,hs9⟩:=OwS.push (cap:=1) RA.o RA.i RA.z1 RA.zn RA.zb RA.rc uExv1 (by have:=LXA.ge;have:=LXA.lt;omega) 34
 obtain⟨ao9,cap9,e9⟩:=ho9.slice
 generalize hcx:(e.code++o.code++[(⟨4,[],[],f.two⟩:Pl.Sv)]).length=cx at e9
 subst e9
 have hownA:∀b,va.ownBlock=some b->w.heap.size<b/\b ≠ p/\b ≠ (w3.heap.size+1)/\b ≠ w5.heap.size:=fun b hb=>hFa b (RA.o.lt b hb).1
 have L9:=LXA.grown hg9 (fun b hb=>⟨(hownA b hb).1,(hownA b hb).2.1⟩)
 have S9:Hid (Sy (w3.heap.size+1) w5.heap.size w9 ao5 o.code.length cap5 rr.length o.nest o.long f.two):=SA.out.grown hg9 (fun b hb=>(hownA b hb).2.2)
 have hp9:p ∉ F9:=fun hm=>by
  exact tExv10
 have IV:=fun lo hlo=>Ivx.two L9 ho9 hcx.symm hi9 hp9 HFN.out lo hlo
 have HIV:=zH IV
 clear IV
 refine step_valq (i:=9) kR rfl rfl (.slice ao9 cx cap9) (exec_app34 (.tmp 56) (.tmp 60) va (.slice (some ⟨W0.heap.size+1,0,none⟩) 1 1) (.slice ao9 cx cap9) _ w9 rfl kR kR hr9) S9.out ?_
 exact tExv2
 ):P:=h
theorem tExv1 {P:Prop}(h:P:=by
 obtain⟨va,Wa,Fa,hrA,hgA,hsA,RA⟩:=R9.p2 E0.out EI0.out LF0.out LI0.out hcn hdis hbdA hs0 34 f.two
 have hFa:∀b,b∈Fa->w.heap.size<b/\b ≠ p/\b ≠ (w3.heap.size+1)/\b ≠ w5.heap.size:=fun b hb=>by
  exact tExv5
 have hownE:∀b,(.slice ao3 e.code.length cap3:Value).ownBlock=some b->w.heap.size<b/\b ≠ p/\b ≠ (w3.heap.size+1)/\b ≠ w5.heap.size:=fun b hb=>by
  exact tExv9
 have hszA:W0.heap.size<=Wa.heap.size:=Nat.le_trans (by first | exact Nat.le_refl _ | (simp;done) | (simp;omega)) hgA.size
 have SA:Hid (Sy (w3.heap.size+1) w5.heap.size Wa ao5 o.code.length cap5 rr.length o.nest o.long f.two):=(S0.out.alloc _).grown hgA (fun b hb=>(hownE b hb).2.2)
 have LA:=(L0.keep ((Below.refl _ _).alloc (Nat.le_refl _) (.cells #[] 3))).grown hgA (fun b hb=>⟨(hownE b hb).1,(hownE b hb).2.1⟩)
 refine step_two (i:=4) (j:=8) kR rfl rfl va (exec_app34 (.tmp 53) (.tmp 55) (.slice ao3 e.code.length cap3) (.slice ao5 o.code.length cap5) va (W0.alloc (.cells #[] 3)) Wa rfl kR kR hrA) SA.out rfl rfl (.slice (some ⟨W0.heap.size+1,0,none⟩) 1 1) (exec_bs34' (.tmp 59) W0.heap.size (W0.heap.size+1) 4 f.two.k f.two.a f.two.b (Pl.ba f.two.nm) rfl kR (W0.alloc (.cells #[] 3)) sI) ((S0.out.alloc _).alloc _) ?_ ?_
 ·refine step_valq (i:=8) kR rfl rfl (.slice (some ⟨Wa.heap.size,0,none⟩) 1 1) (exec_bs34' (.tmp 59) W0.heap.size Wa.heap.size 4 f.two.k f.two.a f.two.b (Pl.ba f.two.nm) rfl kR Wa sI) (SA.out.alloc _) ?_
  have LXA:=LA.keep ((Below.refl _ _).alloc (Nat.le_refl _) (objF 4 W0.heap.size f.two))
  obtain⟨v9,w9,F9,hr9,ho9,hi9,hg9,hs9⟩:=OwS.push (cap:=1) RA.o RA.i RA.z1 RA.zn RA.zb RA.rc uExv1 (by have:=LXA.ge;have:=LXA.lt;omega) 34
  obtain⟨ao9,cap9,e9⟩:=ho9.slice
  generalize hcx:(e.code++o.code++[(⟨4,[],[],f.two⟩:Pl.Sv)]).length=cx at e9
  subst e9
  have hownA:∀b,va.ownBlock=some b->w.heap.size<b/\b ≠ p/\b ≠ (w3.heap.size+1)/\b ≠ w5.heap.size:=fun b hb=>hFa b (RA.o.lt b hb).1
  have L9:=LXA.grown hg9 (fun b hb=>⟨(hownA b hb).1,(hownA b hb).2.1⟩)
  have S9:Hid (Sy (w3.heap.size+1) w5.heap.size w9 ao5 o.code.length cap5 rr.length o.nest o.long f.two):=(SA.out.alloc _).grown hg9 (fun b hb=>(hownA b hb).2.2)
  have hp9:p ∉ F9:=fun hm=>by
   exact tExv10
  have IV:=fun lo hlo=>Ivx.two L9 ho9 hcx.symm hi9 hp9 HFN.out lo hlo
  have HIV:=zH IV
  clear IV
  refine step_valq (i:=9) kR rfl rfl (.slice ao9 cx cap9) (exec_app34 (.tmp 56) (.tmp 60) va (.slice (some ⟨Wa.heap.size,0,none⟩) 1 1) (.slice ao9 cx cap9) _ w9 rfl kR kR hr9) S9.out ?_
  exact tExv2
 ·clear hrA hgA hsA RA hFa hownE hszA SA LA
  exact tExv3
 ):P:=h
theorem tExv4 {P:Prop}(h:P:=by
 go_wp2_with fail
 refine K1.out.mono ?_
 rintro e' w3 ⟨rfl,hb3⟩
 have L3:=LX.keep hb3
 clear hb3 LX b r0 r1 r2 r3 r4 rf lt c0 c1 c2 c3 c4 cf K1
 obtain⟨b,r0,r1,r2,r3,r4,rf,ge,lt,c0,c1,c2,c3,c4,cf⟩:=id L3
 have hsl:w.heap.size<w3.heap.size:=by omega
 go_wp2_with fail
 refine bodyPost_ret (v:=.agg #[.slice none 0 0,.int .i64 0,.bool false,.int .i64 0,.bool false]) (by simp[results,Tryz.results33,go_sem,r0,r1,r2,r3,r4,hsl]) rfl ⟨_,rfl,below_far b (grown_alloc (grown_alloc (grown_box _ _ _ _ _ _ _) _) _) oM (Nat.le_refl _),by rw[HR.out];exact CodeR.no _ _⟩
 ):P:=h
theorem tExv6 {P:Prop}(h:P:=by
 have hx:=(L9.set0 ao9 (e.code++[(⟨3,[],[],f.one⟩:Pl.Sv)]).length cap9).set1 (a:Int)
 obtain⟨o1,i1⟩:=ho9.box Qs.lives hi9 hp9 (j:=0) (.slice ao9 (e.code++[(⟨3,[],[],f.one⟩:Pl.Sv)]).length cap9)
 obtain⟨o2,i2⟩:=o1.box Qs.lives i1 hp9 (j:=1) (.int .i64 a)
 exact⟨⟨ao9,_,cap9,a,true,_,_,hx,.inr ⟨rfl,.one f e,a,F9,rfl,rfl,rfl,rfl,hf,o2,i2,hp9⟩⟩,hx.c1⟩
 ):P:=h
theorem tExv7 {P:Prop}(h:P:=by
 generalize e.code.length=cc at *
 generalize e.nest=en at *
 go_wp2_with fail
 refine bodyPost_ret (v:=.agg #[.slice none 0 0,.int .i64 0,.bool false,.int .i64 0,.bool false]) (by simp[results,Tryz.results33,go_sem,r0,r1,r2,r3,r4,hsl]) rfl ⟨_,rfl,below_far b (grown_alloc (grown_box _ _ _ _ _ _ _) _) oM (Nat.le_refl _),by rw[HR.out];exact CodeR.no _ _⟩
 ):P:=h
theorem l3Expr_step (HF:HF41) (N:Nat) (ih:∀k,k<=N->HE k):HE (N+1):=by
 intro l ao cap w hl hcap hcp hn hk hR
 have K0:Hid (Calls Tryz.prog 52 #[.slice ao l.length cap,.int .i64 l.length] (w.alloc box0) fun e w'=>∃v,e=.returned v/\Below (w.heap.size+1) (w.alloc box0) w'/\CodeR (w.heap.size+1) w' v ((Pl.ropnd N (Pl.rv l l.length)).map ofO)):=by
  have hb:=(Below.refl w.heap.size w).alloc (Nat.le_refl _) box0
  have hR':=(hR.keep hb).up hb.size
  have hsz:(w.alloc box0).heap.size=w.heap.size+1:=by simp
  cases N with
  |zero =>
   have h0:l=[]:=List.length_eq_zero_iff.1 oM
   subst h0
   have:=l3Operand_of 0 (ih 0 (Nat.le_refl _)) [] ao cap 0 (w.alloc box0) sI sI hcp sI sI sI hR'
   rw[hsz] at this
   exact this
  |succ n =>
   have:=l3Operand_of n (ih n oM) l ao cap l.length (w.alloc box0) hl hcap hcp (Nat.le_refl _) oM hk hR'
   rw[hsz] at this
   exact this
 have hrev:(l.map Pl.tkT).reverse=Pl.rv l l.length:=by simp[Pl.rv]
 have HRN:Hid (Pl.ropnd N (Pl.rv l l.length)=none->Pl.rexpr (N+1) (l.map Pl.tkT)=none):=fun h=>by rw[Pl.rexpr,hrev,h]
 have HRS:Hid (∀o r,Pl.ropnd N (Pl.rv l l.length)=some (o,r)->Far l N (Pl.rexpr (N+1) (l.map Pl.tkT)) (.opd o) r.length):=fun o r h=>by
  obtain⟨h1,h2,h3⟩:=Pl.ropnd_at (Nat.le_refl _) h
  have:=o.toks_len
  refine⟨N,?_,by omega,Nat.le_refl _,h3,h2⟩
  rw[Pl.rexpr,hrev,h]
  simp only
  rw[<- h1]
 have KO:Hid (∀(n:Nat),n+1<N->∀(a:Nat) (W:World),Below w.heap.size w W->a<=l.length->2 * a<=n+1->Calls Tryz.prog 52 #[.slice ao l.length cap,.int .i64 a] W fun e w'=>∃v,e=.returned v/\Below W.heap.size W w'/\CodeR W.heap.size w' v ((Pl.ropnd (n+1) (Pl.rv l a)).map ofO)):=fun n hnN a W hW ha hf=>l3Operand_of n (ih n oM) l ao cap a W hl hcap hcp ha hf hk ((hR.keep hW).up hW.size)
 have KF:Hid (∀(a:Nat) (W:World),Below w.heap.size w W->1<=a->a<=l.length->Calls Tryz.prog 53 #[.slice ao l.length cap,.int .i64 a] W fun e w'=>e=.returned (.tuple #[.int .i64 (Pl.fnR (Pl.rfun (Pl.rv l a))).1,agF (Pl.fnR (Pl.rfun (Pl.rv l a))).2.1,agF (Pl.fnR (Pl.rfun (Pl.rv l a))).2.2])/\Below W.heap.size W w'):=fun a W hW h1 h2=>HF l ao cap a W hl h1 h2 hk ((hR.keep hW).up hW.size)
 have HT:Hid (∀k,k<l.length->∃b off,b<w.heap.size/\ao=some ⟨b,off,none⟩/\∀W,Below w.heap.size w W->W.cell? ⟨b,off+k * 4,none⟩=some (.int .u8 (Pl.tq l k).k)/\W.cell? ⟨b,off+k * 4+1,none⟩=some (.string (Pl.tq l k).tx)/\W.cell? ⟨b,off+k * 4+2,none⟩=some (.int .i64 (Pl.tq l k).v)/\W.cell? ⟨b,off+k * 4+3,none⟩=some (.int .i64 (Pl.tq l k).pos)):=fun k hk=>by
  rcases hR with rfl|⟨b,off,hbw,rfl,hc⟩
  ·simp at hk
  refine⟨b,off,hbw,rfl,fun W hW=>?_⟩
  have:=hc k (Pl.tq l k) (by unfold Pl.tq;rw[List.getElem?_eq_getElem hk];rfl)
  exact⟨bcell hW hbw this.1,bcell hW hbw this.2.1,bcell hW hbw this.2.2.1,bcell hW hbw this.2.2.2⟩
 have HEN:Hid (∀a,a<l.length->Pl.ends (Pl.rv l (a+1))=Pl.endV (Pl.tq l a)):=fun a ha=>Pl.ends_at hk ha
 clear hR HF ih hrev
 generalize Pl.rexpr (N+1) (l.map Pl.tkT)=R at *
 have HLL:Hid (l.length=l.length):=rfl
 generalize hL:l.length=L at *
 go_enter Tryz.func33,Tryz.ntmps33
 go_wp2_with fail
 refine K0.out.mono ?_
 rintro e w2 ⟨v,rfl,hb2,hcr⟩
 obtain⟨ao2,n2,cap2,fr2,ok2,ne2,lo2,rfl⟩:=hcr.form
 have I0:Hid (Ivx l N R w w2.heap.size (w2.alloc (.cells #[.slice ao2 n2 cap2,.int .i64 fr2,.bool ok2,.int .i64 ne2,.bool lo2] 75))):=Ivx.first hb2 (by rw[hL];exact hcr) (by rw[hL];exact HRN.out) (by rw[hL];exact HRS.out)
 clear hb2 hcr K0 HRN HRS
 go_wp2_with fail
 go_loopw [4] (fun v4 wr=>Hid (Ivx l N R w w2.heap.size wr)) (fun v4 wr=>(intOf ((wr.cell? ⟨w2.heap.size,1,none⟩).getD undef)).toNat)
 case atStart=>exact I0
 rename World=>wr
 generalize w2.heap.size=p at *
 obtain⟨ao3,n3,cap3,fr,ok,ne,lo,LX,hcase⟩:=hrel.out
 obtain⟨b,r0,r1,r2,r3,r4,rf,ge,lt,c0,c1,c2,c3,c4,cf⟩:=id LX
 rcases hcase with ⟨rfl,hRn⟩|⟨rfl,e,k,F,rfl,rfl,rfl,rfl,hfar,hO,hI,hp⟩
 ·clear hrel
  go_wp2_with fail
  refine bodyPost_ret (v:=.agg #[.slice ao3 n3 cap3,.int .i64 fr,.bool false,.int .i64 ne,.bool lo]) (by simp[results,Tryz.results33,go_sem,r0,r1,r2,r3,r4]) rfl ⟨_,rfl,below_far b (grown_box _ _ _ _ _ _ _) oM (Nat.le_refl _),by rw[hRn];exact⟨_,_,_,_,_,_,rfl⟩⟩
 have hcl:=hfar.code
 rw[hL] at hcl
 have HO:=zH hO
 have HI:=zH hI
 clear hO hI hrel
 by_cases hk0:k=0
 ·subst hk0
  have HR:=zH hfar.done
  have HFI:Hid (∀W,wr.grownBy W (some w.heap.size)->CodeR w.heap.size W (.agg #[.slice ao3 e.code.length cap3,.int .i64 0,.bool true,.int .i64 e.nest,.bool e.long]) (some (ofE e))):=fun W hg=>⟨ao3,cap3,F,rfl,HO.out.grown Qs.lives HI.out hg (fun b hb hm=>by cases hb;have:=(HI.out _ hm).1;omega),HI.out.up (Nat.le_succ _) hg.size⟩
  clear hfar HO HI
  generalize hcc:e.code.length=cc at *
  generalize e.nest=en at *
  generalize e.long=el at *
  go_wp2_with fail
  refine bodyPost_ret (v:=.agg #[.slice ao3 cc cap3,.int .i64 0,.bool true,.int .i64 en,.bool el]) (by simp[results,Tryz.results33,go_sem,r0,r1,r2,r3,r4]) rfl ⟨_,rfl,below_far b (grown_box _ _ _ _ _ _ _) oM (Nat.le_refl _),?_⟩
  rw[HR.out]
  exact HFI.out _ (grown_box _ _ _ _ _ _ _)
 obtain⟨j,rfl⟩:∃j,k=j+1:=⟨k-1,by omega⟩
 have HFAR:=zH hfar
 have K1:=zH (KF.out (j+1) wr b oM oM)
 clear hfar
 rw[show ((j+1:Nat):Int)=(j:Int)+1 by omega] at K1 c1 LX
 have m1:=c1
 cases hq:Pl.rfun (Pl.rv l (j+1)) with
 |none =>
  rw[hq] at K1
  have HR:=zH (HFAR.out.fail hq)
  simp only[Pl.fnR,agF,Pl.n4] at K1
  clear HFAR KF KO HT HEN hq HO HI
  generalize e.code.length=cc at *
  generalize e.nest=en at *
  exact tExv4
 |some q =>
  obtain⟨f,r⟩:=q
  rw[hq] at K1
  simp only[Pl.fnR,agF,Pl.fq] at K1
  obtain⟨hr1,hr2⟩:=Pl.rfun_at oM hq
  have hpw:Hid (p<wr.heap.size):=lt
  have AA:Hid (∀(W:World) o1 o2,Below w.heap.size w W->w.heap.size<=W.heap.size->Below w.heap.size w ((W.alloc o1).alloc o2)):=fun W o1 o2 h hs=>(h.alloc hs _).alloc uExv1 _
  by_cases ha0:r.length=0
  ·have he:Pl.ends r=false:=by rw[hr1,ha0];rfl
   rw[ha0] at K1
   have HONE:=zH (HFAR.out.one hq he)
   by_cases hz:f.one.k=0
   ·have HR:=zH (HONE.out.1 hz)
    have hzb:(f.one.k == 0)=true:=by rw[hz];rfl
    have hzk:=hz
    clear HONE HFAR KF KO HEN hq HO HI hz
    generalize f.one.k=ok1 at *
    generalize e.code.length=cc at *
    generalize e.nest=en at *
    generalize Pl.ba f.one.nm=on1 at *
    generalize Pl.ba f.two.nm=on2 at *
    exact tExv4
   have HFN:=zH (HONE.out.2 hz)
   have hzb:(f.one.k == 0)=false:=by simpa using hz
   have HEC:Hid ((Pl.E.one f e).code=e.code++[⟨3,[],[],f.one⟩]):=rfl
   clear HONE HFAR KF KO HEN hq hz
   go_wp2_with fail
   refine K1.out.mono ?_
   rintro e' w3 ⟨rfl,hb3⟩
   have L3:=LX.keep hb3
   have O3:=zH (HO.out.below Qs.lives HI.out hb3 (Nat.le_refl _))
   have I3:=zH (HI.out.up (Nat.le_refl _) hb3.size)
   clear hb3 LX b r0 r1 r2 r3 r4 rf lt c0 c1 c2 c3 c4 cf K1 HO HI
   obtain⟨b,r0,r1,r2,r3,r4,rf,ge,lt,c0,c1,c2,c3,c4,cf⟩:=id L3
   have hsl:w.heap.size<w3.heap.size:=by omega
   go_wp2_with (at_builtin;refine wpList_append_o el34 Qs.lives _ rfl _ _ rfl _ _ _ _ _ rfl rfl e.code [⟨3,[],[],f.one⟩] F [(w3.heap.size+1+1)] (recF 3 (w3.heap.size+1+1) f.one) (w.heap.size+1) ?ho ?hi ?hy ?hG ?hn ?hd rfl rfl ?hc ?h1 ?hbd ?hB ?_)
   case ho=>exact O3.out.below Qs.lives I3.out (((((Below.refl w3.heap.size w3).alloc (Nat.le_refl _) _).alloc sI _).alloc uExv1 _).alloc uExv1 _) (Nat.le_refl _)
   case hi=>exact I3.out.up (Nat.le_refl _) uExv1
   case hy=>exact RowQ.one ⟨_,rfl,(Own.emp (et:=3) (z:=1) (Q:=Qi) _ (w3.heap.size+1+1) sI).below (B:=0) (C:=(w3.heap.size+1+1)+1) Qi.lives (fun b hb=>by simp at hb;subst hb;simp) ((Below.refl _ _).alloc sI _) sI⟩
   case hG=>exact fun b hb=>by simp at hb ⊢;omega
   case hn=>simp
   case hd=>exact fun x hx hm=>by have:=(I3.out x hm).2;simp at hx;omega
   case hc=>exact cells_new (l:=recF 3 (w3.heap.size+1+1) f.one) sI
   case h1=>simp[Value.oneCell']
   case hbd=>simp;omega
   case hB=>simp;omega
   intro v9 w9 F9 ho9 hi9 hg9 _ hs9
   obtain⟨ao9,cap9,rfl⟩:=ho9.slice
   have hown:∀b,(Value.slice ao3 e.code.length cap3).ownBlock=some b->w.heap.size<b/\b ≠ p:=fun b hb=>⟨(I3.out b (O3.out.lt b hb).1).1,fun h=>hp (h ▸ (O3.out.lt b hb).1)⟩
   have L9:=(L3.keep (((((Below.refl w3.heap.size w3).alloc (Nat.le_refl _) _).alloc sI _).alloc uExv1 _).alloc uExv1 _)).grown hg9 hown
   have hp9:p ∉ F9:=fun hm=>by
    rcases hs9 p hm with h|h|h
    ·exact hp h
    ·first | omega | (simp at h;omega)
    first | omega | (simp at h;omega)
   have H9:Hid (∀(a:Nat),Far l N R (.one f e) a->Ivx l N R w p ((w9.setCell ⟨p,0,none⟩ (.slice ao9 (e.code++[(⟨3,[],[],f.one⟩:Pl.Sv)]).length cap9)).setCell ⟨p,1,none⟩ (.int .i64 a))/\((w9.setCell ⟨p,0,none⟩ (.slice ao9 (e.code++[(⟨3,[],[],f.one⟩:Pl.Sv)]).length cap9)).setCell ⟨p,1,none⟩ (.int .i64 a)).cell? ⟨p,1,none⟩=some (.int .i64 a)):=fun a hf=>by
    exact tExv6
   clear ho9 hi9 hg9 hs9 b r0 r1 r2 r3 r4 rf lt c0 c1 c2 c3 c4 cf L3 O3 I3 hown
   obtain⟨b,r0,r1,r2,r3,r4,rf,ge,lt,c0,c1,c2,c3,c4,cf⟩:=id L9
   generalize hcx:(e.code++[(⟨3,[],[],f.one⟩:Pl.Sv)]).length=cx at *
   go_wp2_with fail
   go_roundw
   case rel=>exact(H9.out 0 (by have:=HFN.out;rw[ha0] at this;exact this)).1
   simp[go_sem,c1,m1,intOf] <;> omega
  obtain⟨a,ha⟩:∃a,r.length=a+1:=⟨r.length-1,by omega⟩
  have hen:=HEN.out a oM
  rw[<- ha,<- hr1] at hen
  rw[ha,show ((a+1:Nat):Int)=(a:Int)+1 by omega] at K1
  obtain⟨tb,toff,htb,rfl,htk⟩:=HT.out a oM
  have HTK:=zH htk
  have KEN:=zH (fun W=>l3Ends_any (Pl.tq l a) W)
  clear htk
  generalize Pl.tq l a=t at *
  cases hE:Pl.endV t
  ·have he:Pl.ends r=false:=by rw[hen,hE]
   rw[hE] at KEN
   clear hE hen
   have HONE:=zH (HFAR.out.one hq he)
   by_cases hz:f.one.k=0
   ·have HR:=zH (HONE.out.1 hz)
    have hzb:(f.one.k == 0)=true:=by rw[hz];rfl
    have hzk:=hz
    clear HONE HFAR KF KO HEN hq HO HI hz
    generalize f.one.k=ok1 at *
    generalize e.code.length=cc at *
    generalize e.nest=en at *
    generalize Pl.ba f.one.nm=on1 at *
    generalize Pl.ba f.two.nm=on2 at *
    go_wp2_with fail
    refine K1.out.mono ?_
    rintro e' w3 ⟨rfl,hb3⟩
    have L3:=LX.keep hb3
    clear hb3 LX b r0 r1 r2 r3 r4 rf lt c0 c1 c2 c3 c4 cf K1
    obtain⟨b,r0,r1,r2,r3,r4,rf,ge,lt,c0,c1,c2,c3,c4,cf⟩:=id L3
    have hsl:w.heap.size<w3.heap.size:=by omega
    have d0:=fun o1 o2=>(HTK.out _ (AA.out w3 o1 o2 b (Nat.le_of_lt hsl))).1
    have d1:=fun o1 o2=>(HTK.out _ (AA.out w3 o1 o2 b (Nat.le_of_lt hsl))).2.1
    have d2:=fun o1 o2=>(HTK.out _ (AA.out w3 o1 o2 b (Nat.le_of_lt hsl))).2.2.1
    have d3:=fun o1 o2=>(HTK.out _ (AA.out w3 o1 o2 b (Nat.le_of_lt hsl))).2.2.2
    go_wp2_with fail
    refine(KEN.out _).mono ?_
    rintro e' w4 ⟨rfl,hb4⟩
    have L4:=(L3.keep (((Below.refl _ _).alloc (Nat.le_refl _) _).alloc sI _)).keep hb4
    have g0:=bcell hb4 (b:=w3.heap.size) (j:=0) uExv1 uExv2
    clear hb4 L3 b r0 r1 r2 r3 r4 rf lt c0 c1 c2 c3 c4 cf d0 d1 d2 d3 ge hsl
    obtain⟨b,r0,r1,r2,r3,r4,rf,ge,lt,c0,c1,c2,c3,c4,cf⟩:=id L4
    have hsl:w.heap.size<w4.heap.size:=by omega
    go_wp2_with fail
    refine bodyPost_ret (v:=.agg #[.slice none 0 0,.int .i64 0,.bool false,.int .i64 0,.bool false]) (by simp[results,Tryz.results33,go_sem,r0,r1,r2,r3,r4]) rfl ⟨_,rfl,below_far b (grown_box _ _ _ _ _ _ _) oM (Nat.le_refl _),by rw[HR.out];exact CodeR.no _ _⟩
   have HFN:=zH (HONE.out.2 hz)
   have hzb:(f.one.k == 0)=false:=by simpa using hz
   have HEC:Hid ((Pl.E.one f e).code=e.code++[⟨3,[],[],f.one⟩]):=rfl
   clear HONE HFAR KF KO HEN hq hz
   go_wp2_with fail
   refine K1.out.mono ?_
   rintro e' w3 ⟨rfl,hb3⟩
   have L3:=LX.keep hb3
   have O3:=zH (HO.out.below Qs.lives HI.out hb3 (Nat.le_refl _))
   have I3:=zH (HI.out.up (Nat.le_refl _) hb3.size)
   clear hb3 LX b r0 r1 r2 r3 r4 rf lt c0 c1 c2 c3 c4 cf K1 HO HI
   obtain⟨b,r0,r1,r2,r3,r4,rf,ge,lt,c0,c1,c2,c3,c4,cf⟩:=id L3
   have hsl:w.heap.size<w3.heap.size:=by omega
   have d0:=fun o1 o2=>(HTK.out _ (AA.out w3 o1 o2 b (Nat.le_of_lt hsl))).1
   have d1:=fun o1 o2=>(HTK.out _ (AA.out w3 o1 o2 b (Nat.le_of_lt hsl))).2.1
   have d2:=fun o1 o2=>(HTK.out _ (AA.out w3 o1 o2 b (Nat.le_of_lt hsl))).2.2.1
   have d3:=fun o1 o2=>(HTK.out _ (AA.out w3 o1 o2 b (Nat.le_of_lt hsl))).2.2.2
   go_wp2_with fail
   refine(KEN.out _).mono ?_
   rintro e' w4 ⟨rfl,hb4⟩
   have L4:=(L3.keep (((Below.refl _ _).alloc (Nat.le_refl _) _).alloc sI _)).keep hb4
   have g0:=bcell hb4 (b:=w3.heap.size) (j:=0) uExv1 uExv2
   have g1:=bcell hb4 (b:=w3.heap.size) (j:=1) uExv1 uExv2
   have g2:=bcell hb4 (b:=w3.heap.size) (j:=2) uExv1 uExv2
   have g3:=bcell hb4 (b:=w3.heap.size) (j:=3) uExv1 uExv2
   have h34:w3.heap.size<w4.heap.size:=by have:=hb4.size;simp at this;omega
   have O4:=zH ((O3.out.below Qs.lives I3.out (((Below.refl _ _).alloc (Nat.le_refl _) _).alloc sI _) (Nat.le_refl _)).below Qs.lives (I3.out.up (Nat.le_refl _) uExv1) hb4 (Nat.le_refl _))
   have I4:=zH (I3.out.up (Nat.le_refl _) (by have:=hb4.size;simp at this;omega:w3.heap.size<=w4.heap.size))
   clear O3 I3 hb4 L3 b r0 r1 r2 r3 r4 rf lt c0 c1 c2 c3 c4 cf d0 d1 d2 d3 ge hsl
   obtain⟨b,r0,r1,r2,r3,r4,rf,ge,lt,c0,c1,c2,c3,c4,cf⟩:=id L4
   have hsl:w.heap.size<w4.heap.size:=by omega
   go_wp2_with (at_builtin;refine wpList_append_o el34 Qs.lives _ rfl _ _ rfl _ _ _ _ _ rfl rfl e.code [⟨3,[],[],f.one⟩] F [w4.heap.size] (recF 3 w4.heap.size f.one) (w.heap.size+1) ?ho ?hi ?hy ?hG ?hn ?hd rfl rfl ?hc ?h1 ?hbd ?hB ?_)
   case ho=>exact O4.out.below Qs.lives I4.out (((Below.refl w4.heap.size w4).alloc (Nat.le_refl _) _).alloc sI _) (Nat.le_refl _)
   case hi=>exact I4.out.up (Nat.le_refl _) uExv1
   case hy=>exact RowQ.one ⟨_,rfl,(Own.emp (et:=3) (z:=1) (Q:=Qi) _ w4.heap.size sI).below (B:=0) (C:=w4.heap.size+1) Qi.lives (fun b hb=>by simp at hb;subst hb;simp) ((Below.refl _ _).alloc sI _) sI⟩
   case hG=>exact fun b hb=>by simp at hb ⊢;omega
   case hn=>simp
   case hd=>exact fun x hx hm=>by have:=(I4.out x hm).2;simp at hx;omega
   case hc=>exact cells_new (l:=recF 3 w4.heap.size f.one) sI
   case h1=>simp[Value.oneCell']
   case hbd=>simp;omega
   case hB=>simp;omega
   intro v9 w9 F9 ho9 hi9 hg9 _ hs9
   obtain⟨ao9,cap9,rfl⟩:=ho9.slice
   have hown:∀b,(Value.slice ao3 e.code.length cap3).ownBlock=some b->w.heap.size<b/\b ≠ p:=fun b hb=>⟨(I4.out b (O4.out.lt b hb).1).1,fun h=>hp (h ▸ (O4.out.lt b hb).1)⟩
   have L9:=(L4.keep (((Below.refl w4.heap.size w4).alloc (Nat.le_refl _) _).alloc sI _)).grown hg9 hown
   have hp9:p ∉ F9:=fun hm=>by
    rcases hs9 p hm with h|h|h
    ·exact hp h
    ·first | omega | (simp at h;omega)
    first | omega | (simp at h;omega)
   have H9:Hid (∀(a:Nat),Far l N R (.one f e) a->Ivx l N R w p ((w9.setCell ⟨p,0,none⟩ (.slice ao9 (e.code++[(⟨3,[],[],f.one⟩:Pl.Sv)]).length cap9)).setCell ⟨p,1,none⟩ (.int .i64 a))/\((w9.setCell ⟨p,0,none⟩ (.slice ao9 (e.code++[(⟨3,[],[],f.one⟩:Pl.Sv)]).length cap9)).setCell ⟨p,1,none⟩ (.int .i64 a)).cell? ⟨p,1,none⟩=some (.int .i64 a)):=fun a hf=>by
    exact tExv6
   clear ho9 hi9 hg9 hs9 b r0 r1 r2 r3 r4 rf lt c0 c1 c2 c3 c4 cf L4 O4 I4 hown
   obtain⟨b,r0,r1,r2,r3,r4,rf,ge,lt,c0,c1,c2,c3,c4,cf⟩:=id L9
   generalize hcx:(e.code++[(⟨3,[],[],f.one⟩:Pl.Sv)]).length=cx at *
   go_wp2_with fail
   go_roundw
   case rel=>exact(H9.out (a+1) (by have:=HFN.out;rw[ha] at this;exact this)).1
   simp[go_sem,c1,m1,intOf] <;> omega
  have he:Pl.ends r=true:=by rw[hen,hE]
  rw[hE] at KEN
  obtain⟨k,hk1,hk2,hT1,hT2,hT3⟩:=HFAR.out.two hq he
  have HT1:=zH hT1
  have HT2:=zH hT2
  have HT3:=zH hT3
  have KL:=zH (KO.out k hk2 r.length)
  rw[ha] at HT1 HT3 KL hk1
  rw[show ((a+1:Nat):Int)=(a:Int)+1 by omega] at KL
  clear hE hen HFAR KF KO HEN hq hT1 hT2 hT3
  go_wp2_with fail
  refine K1.out.mono ?_
  rintro e' w3 ⟨rfl,hb3⟩
  have L3:=LX.keep hb3
  have hpw3:=L3.lt
  have O3:=zH (HO.out.below Qs.lives HI.out hb3 (Nat.le_refl _))
  have I3:=zH (HI.out.up (Nat.le_refl _) hb3.size)
  clear hb3 LX b r0 r1 r2 r3 r4 rf lt c0 c1 c2 c3 c4 cf K1 HO HI
  obtain⟨b,r0,r1,r2,r3,r4,rf,ge,lt,c0,c1,c2,c3,c4,cf⟩:=id L3
  have hsl:w.heap.size<w3.heap.size:=by omega
  have d0:=fun o1 o2=>(HTK.out _ (AA.out w3 o1 o2 b (Nat.le_of_lt hsl))).1
  have d1:=fun o1 o2=>(HTK.out _ (AA.out w3 o1 o2 b (Nat.le_of_lt hsl))).2.1
  have d2:=fun o1 o2=>(HTK.out _ (AA.out w3 o1 o2 b (Nat.le_of_lt hsl))).2.2.1
  have d3:=fun o1 o2=>(HTK.out _ (AA.out w3 o1 o2 b (Nat.le_of_lt hsl))).2.2.2
  go_wp2_with fail
  refine(KEN.out _).mono ?_
  rintro e' w4 ⟨rfl,hb4⟩
  have L4:=(L3.keep (((Below.refl _ _).alloc (Nat.le_refl _) _).alloc sI _)).keep hb4
  have x0:=bcell hb4 (b:=w3.heap.size+1) (j:=0) sI uExv2
  have x1:=bcell hb4 (b:=w3.heap.size+1) (j:=1) sI uExv2
  have x2:=bcell hb4 (b:=w3.heap.size+1) (j:=2) sI uExv2
  have x3:=bcell hb4 (b:=w3.heap.size+1) (j:=3) sI uExv2
  have h34:w3.heap.size+1<w4.heap.size:=by have:=hb4.size;simp at this;omega
  have O4:=zH ((O3.out.below Qs.lives I3.out (((Below.refl _ _).alloc (Nat.le_refl _) _).alloc sI _) (Nat.le_refl _)).below Qs.lives (I3.out.up (Nat.le_refl _) uExv1) hb4 (Nat.le_refl _))
  clear hb4 L3 b r0 r1 r2 r3 r4 rf lt c0 c1 c2 c3 c4 cf d0 d1 d2 d3 ge O3
  obtain⟨b,r0,r1,r2,r3,r4,rf,ge,lt,c0,c1,c2,c3,c4,cf⟩:=id L4
  go_wp2_with fail
  refine(KL.out _ b oM oM).mono ?_
  rintro e' w5 ⟨v,rfl,hb5,hcr⟩
  obtain⟨ao5,n5,cap5,fr5,ok5,ne5,lo5,rfl⟩:=hcr.form
  have L5:=L4.keep hb5
  have h45:=hb5.size
  have O5:=zH (O4.out.below Qs.lives (I3.out.up (Nat.le_refl _) (by omega:w3.heap.size<=w4.heap.size)) hb5 (Nat.le_refl _))
  have z0:=bcell hb5 h34 x0
  have z1:=bcell hb5 h34 x1
  have z2:=bcell hb5 h34 x2
  have z3:=bcell hb5 h34 x3
  clear hb5 L4 b r0 r1 r2 r3 r4 rf lt c0 c1 c2 c3 c4 cf ge O4 x0 x1 x2 x3 KL
  obtain⟨b,r0,r1,r2,r3,r4,rf,ge,lt,c0,c1,c2,c3,c4,cf⟩:=id L5
  have hsl:w.heap.size<w5.heap.size:=by omega
  have h35:w3.heap.size+1<w5.heap.size:=by omega
  cases hro:Pl.ropnd (k+1) (Pl.rv l (a+1)) with
  |none =>
   rw[hro] at hcr
   obtain⟨_,_,_,_,_,_,e5⟩:=hcr
   cases e5
   have HR:=zH (HT1.out hro)
   clear HT1 HT2 HT3 O5 I3
   exact tExv7
  |some q2 =>
   obtain⟨o,rr⟩:=q2
   rw[hro] at hcr
   obtain⟨al,capl,G,e5,hOL,hIL⟩:=hcr
   cases e5
   by_cases hz:f.two.k=0
   ·have HR:=zH (HT2.out hz)
    have hzb:(f.two.k == 0)=true:=by rw[hz];rfl
    clear HT1 HT2 HT3 O5 I3 hOL hIL
    exact tExv7
   obtain⟨hfn,hco,hcn,hno,hr2'⟩:=HT3.out o rr hro hz
   have HFN:=zH hfn
   have hzb:(f.two.k == 0)=false:=by simpa using hz
   have hfc:=hfn.code
   rw[hL] at hfc hco
   have HLO:Hid (o.long=o.long):=rfl
   clear HT1 HT2 HT3 hro hz hfn
   have BB:Below w5.heap.size w5 (w5.alloc (.cells #[.slice ao5 o.code.length cap5,.int .i64 rr.length,.bool true,.int .i64 o.nest,.bool o.long] 75)).drew:=((Below.refl _ _).alloc (Nat.le_refl _) _).drew
   have E0:=zH (O5.out.below Qs.lives (I3.out.up (Nat.le_refl _) (by omega:w3.heap.size<=w5.heap.size)) BB (Nat.le_refl _))
   have LF0:=zH (hOL.below Qs.lives hIL BB (Nat.le_refl _))
   have EI3:=I3
   have LI4:=zH hIL
   have EI0:=zH (I3.out.up (Nat.le_refl _) (Nat.le_trans (by omega:w3.heap.size<=w5.heap.size) BB.size))
   have LI0:=zH (hIL.up (by omega:w.heap.size+1<=w4.heap.size) BB.size)
   have L0:=L5.keep BB
   have S0:Hid (Sy (w3.heap.size+1) w5.heap.size (w5.alloc (.cells #[.slice ao5 o.code.length cap5,.int .i64 rr.length,.bool true,.int .i64 o.nest,.bool o.long] 75)).drew ao5 o.code.length cap5 rr.length o.nest o.long f.two):=⟨by simp[go_sem],by simp[go_sem],by simp[go_sem],by simp[go_sem],bcell BB oM z0,bcell BB oM z1,bcell BB oM z2,bcell BB oM z3,Nat.lt_of_lt_of_le oM BB.size,by simp⟩
   have hdis:∀x∈G,x ∉ F:=fun x hx hm=>by have:=(hIL x hx).1;have:=(I3.out x hm).2;omega
   have hbdA:e.code.length+o.code.length<=16777216:=by omega
   have hs0:w.heap.size+1<=(w5.alloc (.cells #[.slice ao5 o.code.length cap5,.int .i64 rr.length,.bool true,.int .i64 o.nest,.bool o.long] 75)).drew.heap.size:=by have:=BB.size;omega
   have hszW:(w5.alloc (.cells #[.slice ao5 o.code.length cap5,.int .i64 rr.length,.bool true,.int .i64 o.nest,.bool o.long] 75)).drew.heap.size=w5.heap.size+1:=by simp
   have hpp6:p ≠ w3.heap.size+1:=by omega
   have hpp7:p ≠ w5.heap.size:=by omega
   clear hOL hIL O5 L5 I3 b r0 r1 r2 r3 r4 rf cf
   go_wp2_with fail
   refine wp_region_held (S:=fun W=>Sy (w3.heap.size+1) w5.heap.size W ao5 o.code.length cap5 rr.length o.nest o.long f.two) kR ?_
   change wpAnyH _ _ _ _ _ _ _ _ (World.drew _)
   generalize (w5.alloc (.cells #[.slice ao5 o.code.length cap5,.int .i64 rr.length,.bool true,.int .i64 o.nest,.bool o.long] 75)).drew=W0 at *
   refine tz 0 (.pointer (some ⟨p,0,none⟩)) rfl S0.out (fun W hW=>exec_f63_0 (.tmp 3) p rfl kR W) ?_
   refine tz 2 (.pointer (some ⟨w5.heap.size,0,none⟩)) rfl S0.out (fun W hW=>exec_f63_0 (.tmp 7) w5.heap.size rfl kR W) ?_
   refine tz 3 (.slice ao5 o.code.length cap5) rfl S0.out (fun W hW=>exec_load34 (.tmp 54) w5.heap.size 0 ao5 o.code.length cap5 W rfl kR hW.c0) ?_
   refine tz 6 (.agg #[.int .i64 f.two.k,.int .i64 f.two.a,.int .i64 f.two.b,.string (Pl.ba f.two.nm)]) rfl S0.out (fun W hW=>exec_load79 (.tmp 6) (w3.heap.size+1) f.two.k f.two.a f.two.b (Pl.ba f.two.nm) W rfl kR hW.f0 hW.f1 hW.f2 hW.f3) ?_
   refine step_two (i:=1) (j:=5) kR rfl rfl (.slice ao3 e.code.length cap3) (exec_load34 (.tmp 52) p 0 ao3 e.code.length cap3 W0 rfl kR L0.c0) S0.out rfl rfl _ (exec_bs77 rfl W0) (S0.out.alloc _) ?_ ?_
   rotate_left 1
   ·refine tz 7 (.agg #[.int .i64 4,.slice (some ⟨W0.heap.size,0,none⟩) 0 0,.string ⟨#[]⟩,.int .i64 f.two.k,.int .i64 f.two.a,.int .i64 f.two.b,.string (Pl.ba f.two.nm)]) rfl (S0.out.alloc _) (fun W hW=>exec_build81 (.const (.int .i64 4)) (.tmp 57) (.tmp 58) W0.heap.size 4 f.two.k f.two.a f.two.b (Pl.ba f.two.nm) rfl rfl kR kR W) ?_
    refine step_two (i:=1) (j:=8) kR rfl rfl (.slice ao3 e.code.length cap3) (exec_load34 (.tmp 52) p 0 ao3 e.code.length cap3 (W0.alloc (.cells #[] 3)) rfl kR (L0.keep ((Below.refl _ _).alloc (Nat.le_refl _) _)).c0) (S0.out.alloc _) rfl rfl (.slice (some ⟨W0.heap.size+1,0,none⟩) 1 1) (exec_bs34' (.tmp 59) W0.heap.size (W0.heap.size+1) 4 f.two.k f.two.a f.two.b (Pl.ba f.two.nm) rfl kR (W0.alloc (.cells #[] 3)) sI) ((S0.out.alloc _).alloc _) ?_ ?_
    ·exact tExv1
    refine step_valq (i:=1) kR rfl rfl (.slice ao3 e.code.length cap3) (exec_load34 (.tmp 52) p 0 ao3 e.code.length cap3 ((W0.alloc (.cells #[] 3)).alloc (objF 4 W0.heap.size f.two)) rfl kR (L0.keep (((Below.refl _ _).alloc (Nat.le_refl _) _).alloc sI _)).c0) ((S0.out.alloc _).alloc _) ?_
    exact tExv3
   obtain⟨va,Wa,Fa,hrA,hgA,hsA,RA⟩:=R9.p1 E0.out EI0.out LF0.out LI0.out hcn hdis hbdA hs0 34 f.two
   have hFa:∀b,b∈Fa->w.heap.size<b/\b ≠ p/\b ≠ (w3.heap.size+1)/\b ≠ w5.heap.size:=fun b hb=>by
    exact tExv5
   have hownE:∀b,(.slice ao3 e.code.length cap3:Value).ownBlock=some b->w.heap.size<b/\b ≠ p/\b ≠ (w3.heap.size+1)/\b ≠ w5.heap.size:=fun b hb=>by
    exact tExv9
   have hszA:W0.heap.size<=Wa.heap.size:=Nat.le_trans (by first | exact Nat.le_refl _ | (simp;done) | (simp;omega)) hgA.size
   have SA:Hid (Sy (w3.heap.size+1) w5.heap.size Wa ao5 o.code.length cap5 rr.length o.nest o.long f.two):=S0.out.grown hgA (fun b hb=>(hownE b hb).2.2)
   have LA:=L0.grown hgA (fun b hb=>⟨(hownE b hb).1,(hownE b hb).2.1⟩)
   refine step_two (i:=4) (j:=5) kR rfl rfl va (exec_app34 (.tmp 53) (.tmp 55) (.slice ao3 e.code.length cap3) (.slice ao5 o.code.length cap5) va W0 Wa rfl kR kR hrA) SA.out rfl rfl _ (exec_bs77 rfl W0) (S0.out.alloc _) ?_ ?_
   ·refine step_valq (i:=5) kR rfl rfl _ (exec_bs77 rfl Wa) (SA.out.alloc _) ?_
    refine tz 7 (.agg #[.int .i64 4,.slice (some ⟨Wa.heap.size,0,none⟩) 0 0,.string ⟨#[]⟩,.int .i64 f.two.k,.int .i64 f.two.a,.int .i64 f.two.b,.string (Pl.ba f.two.nm)]) rfl (SA.out.alloc _) (fun W hW=>exec_build81 (.const (.int .i64 4)) (.tmp 57) (.tmp 58) Wa.heap.size 4 f.two.k f.two.a f.two.b (Pl.ba f.two.nm) rfl rfl kR kR W) ?_
    refine step_valq (i:=8) kR rfl rfl (.slice (some ⟨Wa.heap.size+1,0,none⟩) 1 1) (exec_bs34' (.tmp 59) Wa.heap.size (Wa.heap.size+1) 4 f.two.k f.two.a f.two.b (Pl.ba f.two.nm) rfl kR (Wa.alloc (.cells #[] 3)) sI) ((SA.out.alloc _).alloc _) ?_
    have LXA:=LA.keep (((Below.refl _ _).alloc (Nat.le_refl _) (.cells #[] 3)).alloc sI (objF 4 Wa.heap.size f.two))
    obtain⟨v9,w9,F9,hr9,ho9,hi9,hg9,hs9⟩:=OwS.push (cap:=1) RA.o RA.i RA.z1 RA.zn RA.zb RA.rc uExv1 (by have:=LXA.ge;have:=LXA.lt;omega) 34
    obtain⟨ao9,cap9,e9⟩:=ho9.slice
    generalize hcx:(e.code++o.code++[(⟨4,[],[],f.two⟩:Pl.Sv)]).length=cx at e9
    subst e9
    have hownA:∀b,va.ownBlock=some b->w.heap.size<b/\b ≠ p/\b ≠ (w3.heap.size+1)/\b ≠ w5.heap.size:=fun b hb=>hFa b (RA.o.lt b hb).1
    have L9:=LXA.grown hg9 (fun b hb=>⟨(hownA b hb).1,(hownA b hb).2.1⟩)
    have S9:Hid (Sy (w3.heap.size+1) w5.heap.size w9 ao5 o.code.length cap5 rr.length o.nest o.long f.two):=((SA.out.alloc _).alloc _).grown hg9 (fun b hb=>(hownA b hb).2.2)
    have hp9:p ∉ F9:=fun hm=>by
     exact tExv10
    have IV:=fun lo hlo=>Ivx.two L9 ho9 hcx.symm hi9 hp9 HFN.out lo hlo
    have HIV:=zH IV
    clear IV
    refine step_valq (i:=9) kR rfl rfl (.slice ao9 cx cap9) (exec_app34 (.tmp 56) (.tmp 60) va (.slice (some ⟨Wa.heap.size+1,0,none⟩) 1 1) (.slice ao9 cx cap9) _ w9 rfl kR kR hr9) S9.out ?_
    exact tExv2
   clear hrA hgA hsA RA hFa hownE hszA SA LA
   refine tz 7 (.agg #[.int .i64 4,.slice (some ⟨W0.heap.size,0,none⟩) 0 0,.string ⟨#[]⟩,.int .i64 f.two.k,.int .i64 f.two.a,.int .i64 f.two.b,.string (Pl.ba f.two.nm)]) rfl (S0.out.alloc _) (fun W hW=>exec_build81 (.const (.int .i64 4)) (.tmp 57) (.tmp 58) W0.heap.size 4 f.two.k f.two.a f.two.b (Pl.ba f.two.nm) rfl rfl kR kR W) ?_
   exact tExv1
end Go.Proofs.YtbiiicbfpcfgdaaGreatDoor
