import Derived.Test.YtbiiicbfpcfgdaaGreatDoorStq
namespace Go.Proofs.YtbiiicbfpcfgdaaGreatDoor
open Go.RowKit
set_option maxRecDepth 100000
set_option maxHeartbeats 16000000
set_option linter.unusedVariables false
theorem uBdw1 {P:Prop}(h:P:=by simp[go_sem];rfl):P:=h
theorem uBdw2 {P:Prop}(h:P:=by simp[go_sem]):P:=h
theorem uBdw3 {P:Prop}(h:P:=by simp <;> omega):P:=h
theorem tBdw4 {P:Prop}(h:P:=by
 go_wp2_with (at_builtin;refine wpList_append_eq _ w9 rfl _ _ _ rfl _ _ _ rfl rfl hrun ?_)
 go_roundw
 case rel=>exact⟨i+1,by omega,by go_num,HIV⟩
 case measure=>simp[intOf] <;> omega
 ):P:=h
theorem tBdw2 {P:Prop}(h:P:=by
 have y0:=bcell hb5 (b:=w4.heap.size) (j:=0) sI uBdw1
 have y1:=bcell hb5 (b:=w4.heap.size) (j:=1) sI uBdw1
 have y2:=bcell hb5 (b:=w4.heap.size) (j:=2) sI uBdw1
 have y3:=bcell hb5 (b:=w4.heap.size) (j:=3) sI uBdw1
 have y4:=bcell hb5 (b:=w4.heap.size) (j:=4) sI uBdw1
 have h35:w3.heap.size<w5.heap.size:=by have:=hb5.size;simp at this;omega
 have h45:w4.heap.size<w5.heap.size:=by have:=hb5.size;simp at this;omega
 have G5:Hid (w4.grownBy w5 (some p)):=grown_then (grown_alloc (grown_one p 4 _ (World.grownBy.refl w4 _)) _) hb5 uBdw3
 clear hb5 bb r0 r1 r2 r3 r4 r5 rf lt c0 c1 c2 c3 c4 c5 cf
 obtain⟨bb,r0,r1,r2,r3,r4,r5,rf,ge,lt,c0,c1,c2,c3,c4,c5,cf⟩:=id B5
 go_wp2_with fail
 refine(K29b.out _).mono ?_
 rintro e' w6 ⟨rfl,hb6⟩
 have B6:=B5.keep hb6
 have z0:=bcell hb6 h35 x0
 have z1:=bcell hb6 h45 y0
 have h36:w3.heap.size<w6.heap.size:=by have:=hb6.size;omega
 have h46:w4.heap.size<w6.heap.size:=by have:=hb6.size;omega
 obtain⟨w9,ag9,cg9,hrun,B9,hIV⟩:=HMI.out _ _ _ w6.heap.size sI (grown_one p 5 _ (grown_then G5.out hb6 oM)) (B6.set5 fb) rfl rfl
 have HIV:=zH hIV
 have n3:=B9.c3
 have nf:=B9.cf
 clear hIV HMI hb6 bb r0 r1 r2 r3 r4 r5 rf lt c0 c1 c2 c3 c4 c5 cf x0 y0 y1 y2 y3 y4
 obtain⟨bb,r0,r1,r2,r3,r4,r5,rf,ge,lt,c0,c1,c2,c3,c4,c5,cf⟩:=id B6
 exact tBdw4
 ):P:=h
theorem tBdw3 {P:Prop}(h:P:=by
 have y0:=bcell hb5 (b:=w4.heap.size) (j:=0) sI uBdw1
 have h35:w3.heap.size<w5.heap.size:=by have:=hb5.size;simp at this;omega
 have h45:w4.heap.size<w5.heap.size:=by have:=hb5.size;simp at this;omega
 obtain⟨w9,ag9,cg9,hrun,B9,hIV⟩:=HMI.out _ _ _ w5.heap.size sI (grown_one p 5 _ (grown_then (grown_alloc (grown_one p 4 _ (World.grownBy.refl w4 _)) _) hb5 uBdw3)) (B5.set5 false) rfl rfl
 have HIV:=zH hIV
 have n3:=B9.c3
 have nf:=B9.cf
 clear hIV HMI hb5 bb r0 r1 r2 r3 r4 r5 rf lt c0 c1 c2 c3 c4 c5 cf
 obtain⟨bb,r0,r1,r2,r3,r4,r5,rf,ge,lt,c0,c1,c2,c3,c4,c5,cf⟩:=id B5
 exact tBdw4
 ):P:=h
theorem tBdw8 {P:Prop}(h:P:=by
 obtain⟨w9,ag9,cg9,hrun,B9,hIV⟩:=HMI.out _ _ _ (w4.heap.size+1) sI (grown_alloc (grown_one p 5 _ (grown_one p 4 _ (World.grownBy.refl w4 _))) _) BZ rfl rfl
 have HIV:=zH hIV
 have n3:=B9.c3
 have nf:=B9.cf
 clear hIV HMI
 exact tBdw4
 ):P:=h
theorem tBdw1 {P:Prop}(h:P:=by
 cases fi
 ·have BZ:=((B4.set4 false).set5 false).keep ((Below.refl _ _).alloc (Nat.le_refl _) (.cells #[.slice a2 n2 c2',.int .i64 fr2,.bool ok2,.int .i64 ne2,.bool lo2] 75))
  exact tBdw8
 ·cases fa
  ·go_wp2_with fail
   refine(K29a.out _).mono ?_
   rintro e' w5 ⟨rfl,hb5⟩
   have B5:=((B4.set4 false).keep ((Below.refl _ _).alloc (Nat.le_refl _) (.cells #[.slice a2 n2 c2',.int .i64 fr2,.bool ok2,.int .i64 ne2,.bool lo2] 75))).keep hb5
   have x0:=bcell hb5 uBdw3 (CX.out w4 w3.heap.size 0 (.bool false) _ (.cells #[.slice a2 n2 c2',.int .i64 fr2,.bool ok2,.int .i64 ne2,.bool lo2] 75) 4 d0 hn3' h34)
   exact tBdw3
  go_wp2_with fail
  refine(K29a.out _).mono ?_
  rintro e' w5 ⟨rfl,hb5⟩
  have B5:=((B4.set4 false).keep ((Below.refl _ _).alloc (Nat.le_refl _) (.cells #[.slice a2 n2 c2',.int .i64 fr2,.bool ok2,.int .i64 ne2,.bool lo2] 75))).keep hb5
  have x0:=bcell hb5 uBdw3 (CX.out w4 w3.heap.size 0 (.bool false) _ (.cells #[.slice a2 n2 c2',.int .i64 fr2,.bool ok2,.int .i64 ne2,.bool lo2] 75) 4 d0 hn3' h34)
  exact tBdw2
 ):P:=h
theorem tBdw5 {P:Prop}(h:P:=by
 have HV:=zH (HLA.out _ _ _ (grown_one p 5 _ (grown_then (grown_alloc (grown_one p 4 _ (grown_one p 2 _ (World.grownBy.refl w3 _))) _) hb4 uBdw3)) (BX.set5 fa) rfl rfl)
 clear hb4 HLA bb r0 r1 r2 r3 r4 r5 rf lt c0 c1 c2 c3 c4 c5 cf
 obtain⟨bb,r0,r1,r2,r3,r4,r5,rf,ge,lt,c0,c1,c2,c3,c4,c5,cf⟩:=id BX
 go_wp2_with fail
 go_roundw
 case rel=>exact⟨i+1,by omega,by go_num,HV⟩
 case measure=>simp[intOf] <;> omega
 ):P:=h
theorem tBdw6 {P:Prop}(h:P:=by
 have hsl:w.heap.size<wr.heap.size:=by omega
 go_wp2_with fail
 refine bodyPost_ret (v:=.agg #[.int .i64 0,.string ⟨#[]⟩,.slice none 0 0,.slice none 0 0,.bool false,.bool false]) (by simp[results,Tryz.results32,go_sem,r0,r1,r2,r3,r4,r5]) rfl ⟨_,rfl,below_far bb (grown_box6 _ _ _ _ _ _ _ _) oM (Nat.le_refl _),by rw[HRN.out];exact ReadR.no _ _⟩
 ):P:=h
theorem tBdw7 {P:Prop}(h:P:=by
 have HV:=zH (HLA.out _ _ _ (grown_alloc (grown_one p 5 _ (grown_one p 4 _ (grown_one p 2 _ (World.grownBy.refl _ _)))) _) B5 rfl rfl)
 clear HLA
 go_wp2_with fail
 go_roundw
 case rel=>exact⟨i+1,by omega,by go_num,HV⟩
 case measure=>simp[intOf] <;> omega
 ):P:=h
theorem tBdw9 {P:Prop}(h:P:=by
 go_roundw
 case rel=>exact⟨k+1,by first | rfl | trivial,by omega,by go_num,by rw[hfs]⟩
 case measure=>simp[intOf] <;> omega
 ):P:=h
theorem l3Body_of (n:Nat) (H:HE n) (nm:ByteArray) (l:List Pl.Tok) (b off cap:Nat) (w:World) (hl:l.length<=1048576) (hcap:l.length<cap) (hcp:cap<=9223372036854775807) (hn:2 * l.length+1<=n) (hk:∀t∈l,Pl.tOk t) (hR:RdK w.heap.size w (some ⟨b,off,none⟩) l) :
  Calls Tryz.prog 32 #[.string nm,.slice (some ⟨b,off,none⟩) l.length cap] w fun e w'=>∃v,e=.returned v/\Below w.heap.size w w'/\ReadR w.heap.size w' v ((Pl.rbd n (Pl.rsp 0 [] (l.map Pl.tkT))).map fun q=>.fn nm.data.toList q.1 q.2):=by
 have hsplit:=Pl.split_T l
 have B1:Hid (∀o1 o2 o3,Below w.heap.size w (((w.alloc o1).alloc o2).alloc o3)):=fun o1 o2 o3=>(((Below.refl _ _).alloc (Nat.le_refl _) _).alloc sI _).alloc uBdw3 _
 have K10:=zH (l3Split_any l b off cap (((w.alloc (.cells #[.int .i64 0,.string ⟨#[]⟩,.slice none 0 0,.slice none 0 0,.bool false,.bool false] 45)).alloc (.cells #[] 57)).alloc (.cells #[.int .i64 3,.string nm,.slice none 0 0,.slice (some ⟨w.heap.size+1,0,none⟩) 0 0,.bool true,.bool true] 45)) hl (Nat.le_of_lt hcap) hcp hk ((hR.keep (B1.out _ _ _)).up (B1.out _ _ _).size))
 have HQI:Hid (∀q∈Pl.spl l l.length 0 0 0,q.1<q.2/\q.2<=l.length):=fun q hq=>by have:=Pl.spl_in l l.length 0 0 0 rfl (Nat.zero_le _) (Nat.le_refl _) q hq;omega
 have HQL:Hid ((Pl.spl l l.length 0 0 0).length<=l.length+1):=Pl.spl_len l _ _ _ _
 have KI:Hid (∀(q:Nat × Nat),q.1<q.2->q.2<=l.length->∀(j:Nat) (W:World),Below w.heap.size w W->j<=1048576->Calls Tryz.prog 31 #[.slice (some ⟨b,off+q.1 * 4,none⟩) (q.2-q.1) (cap-q.1),.int .i64 j,.string ⟨#[58]⟩] W fun e w'=>e=.returned (.bool (Pl.isV (Pl.pieceT l q) j ⟨#[58]⟩))/\w'=W):=fun q hq1 hq2 j W hW h1=>by
  have:=l3Is_any (Pl.pieceT l q) (some ⟨b,off+q.1 * 4,none⟩) (cap-q.1) j ⟨#[58]⟩ W (by rw[show Pl.pieceT l q=Pl.pieceT l (q.1,q.2) from rfl,Pl.piece_len hq2];omega) ⟨by omega,by omega⟩ (((hR.keep hW).up hW.size).part q.1 q.2)
  rw[show (Pl.pieceT l q).length=q.2-q.1 from Pl.piece_len hq2] at this
  exact this
 have KX:Hid (∀(q:Nat × Nat),q.1<q.2->q.2<=l.length->∀W:World,Below w.heap.size w W->Calls Tryz.prog 33 #[.slice (some ⟨b,off+q.1 * 4,none⟩) (q.2-q.1) (cap-q.1)] W fun e w'=>∃v,e=.returned v/\Below W.heap.size W w'/\CodeR W.heap.size w' v ((Pl.rexpr n (Pl.PT l q)).map ofE)):=fun q hq1 hq2 W hW=>by
  have hlen:(Pl.pieceT l q).length=q.2-q.1:=Pl.piece_len hq2
  have:=H (Pl.pieceT l q) (some ⟨b,off+q.1 * 4,none⟩) (cap-q.1) W oM oM oM oM (fun t ht=>(hk t (List.mem_of_mem_take (List.mem_of_mem_drop ht))).1) (((hR.keep hW).up hW.size).part q.1 q.2)
  rw[hlen] at this
  exact this
 have KA:Hid (∀(q:Nat × Nat),q.1<q.2->q.2<=l.length->∀(c:Nat),c<q.2-q.1->∀W:World,Below w.heap.size w W->Calls Tryz.prog 33 #[.slice (some ⟨b,off+q.1 * 4,none⟩) c (cap-q.1)] W fun e w'=>∃v,e=.returned v/\Below W.heap.size W w'/\CodeR W.heap.size w' v ((Pl.rexpr n (((Pl.pieceT l q).take c).map Pl.tkT)).map ofE)):=fun q hq1 hq2 c hc W hW=>by
  have hlen:(Pl.pieceT l q).length=q.2-q.1:=Pl.piece_len hq2
  have hl2:((Pl.pieceT l q).take c).length=c:=by simp;omega
  have:=H ((Pl.pieceT l q).take c) (some ⟨b,off+q.1 * 4,none⟩) (cap-q.1) W oM oM oM oM (fun t ht=>(hk t (List.mem_of_mem_take (List.mem_of_mem_drop (List.mem_of_mem_take ht)))).1) ((((hR.keep hW).up hW.size).part q.1 q.2).take c)
  rw[hl2] at this
  exact this
 have KB:Hid (∀(q:Nat × Nat),q.1<q.2->q.2<=l.length->∀(c:Nat),c<q.2-q.1->∀W:World,Below w.heap.size w W->Calls Tryz.prog 33 #[.slice (some ⟨b,off+q.1 * 4+(c+1) * 4,none⟩) (q.2-q.1-(c+1)) (cap-q.1-(c+1))] W fun e w'=>∃v,e=.returned v/\Below W.heap.size W w'/\CodeR W.heap.size w' v ((Pl.rexpr n (((Pl.pieceT l q).drop (c+1)).map Pl.tkT)).map ofE)):=fun q hq1 hq2 c hc W hW=>by
  have hlen:(Pl.pieceT l q).length=q.2-q.1:=Pl.piece_len hq2
  have hl2:((Pl.pieceT l q).drop (c+1)).length=q.2-q.1-(c+1):=by simp;omega
  have:=H ((Pl.pieceT l q).drop (c+1)) (some ⟨b,off+q.1 * 4+(c+1) * 4,none⟩) (cap-q.1-(c+1)) W oM oM oM oM (fun t ht=>(hk t (List.mem_of_mem_take (List.mem_of_mem_drop (List.mem_of_mem_drop ht)))).1) ((((hR.keep hW).up hW.size).part q.1 q.2).drop (c+1))
  rw[hl2] at this
  exact this
 have HCT:Hid (∀q:Nat × Nat,q.2<=l.length->Pl.cutc (Pl.PT l q)=match Pl.fcol (Pl.pieceT l q) (q.2-q.1) with | none=>none | some c=>some (((Pl.pieceT l q).take c).map Pl.tkT,((Pl.pieceT l q).drop (c+1)).map Pl.tkT)):=fun q hq=>by
  have:=Pl.cutc_T (l:=Pl.pieceT l q) (fun t ht=>(hk t (List.mem_of_mem_take (List.mem_of_mem_drop ht))).1)
  rw[show (Pl.pieceT l q).length=q.2-q.1 from Pl.piece_len hq] at this
  exact this
 have HFL:Hid (∀(q:Nat × Nat) (k c:Nat),q.2<=l.length->k<=q.2-q.1->Pl.fcol (Pl.pieceT l q) k=some c->c<k):=fun q k c hq hk2 hf=>by
  have:=Pl.fcol_spec (l:=Pl.pieceT l q) (fun t ht=>(hk t (List.mem_of_mem_take (List.mem_of_mem_drop ht))).1) k (by rw[show (Pl.pieceT l q).length=q.2-q.1 from Pl.piece_len hq];exact hk2)
  rw[hf] at this
  exact this.1
 have hsplit':Pl.rsp 0 [] (l.map Pl.tkT)=(Pl.spl l l.length 0 0 0).map (Pl.PT l):=hsplit
 rw[hsplit']
 clear hR H hsplit hsplit' hk
 generalize hqs:Pl.spl l l.length 0 0 0=qs at *
 generalize hRR:Pl.rbd n (qs.map (Pl.PT l))=R at *
 generalize hL:l.length=L at *
 clear hqs
 go_enter Tryz.func32,Tryz.ntmps32
 go_wp2_with fail
 refine K10.out.mono ?_
 rintro e' w2 ⟨pv,Fp,rfl,hb2,hOP,hIP⟩
 obtain⟨apv,cpv,rfl⟩:=hOP.slice
 have BO:Bo w (w.heap.size+1+1) w2 3 nm none 0 0 (some ⟨w.heap.size+1,0,none⟩) 0 0 true true:=by
  have z:=hb2.size
  simp at z
  have g (j k:Nat) (v:Value) (hj:j<w.heap.size+3) (hv:(((w.alloc (.cells #[.int .i64 0,.string ⟨#[]⟩,.slice none 0 0,.slice none 0 0,.bool false,.bool false] 45)).alloc (.cells #[] 57)).alloc (.cells #[.int .i64 3,.string nm,.slice none 0 0,.slice (some ⟨w.heap.size+1,0,none⟩) 0 0,.bool true,.bool true] 45)).cell? ⟨j,k,none⟩=some v):w2.cell? ⟨j,k,none⟩=some v:=bcell hb2 uBdw3 hv
  exact⟨(B1.out _ _ _).trans (hb2.mono (B1.out _ _ _).size),g _ _ _ oM uBdw2,g _ _ _ oM uBdw2,g _ _ _ oM uBdw2,g _ _ _ oM uBdw2,g _ _ _ oM uBdw2,g _ _ _ oM uBdw2,fun j=>bfroz hb2 uBdw3 uBdw2,by omega,by omega,g _ _ _ oM uBdw2,g _ _ _ oM uBdw2,g _ _ _ oM uBdw2,g _ _ _ oM uBdw2,g _ _ _ oM uBdw2,g _ _ _ oM uBdw2,fun j=>bfroz hb2 uBdw3 uBdw2⟩
 have hlq:=HQL.out
 generalize hql:qs.length=ql at *
 by_cases hq0:ql=0
 ·have hqn:qs=[]:=List.length_eq_zero_iff.1 oM
  have HR:Hid (R=none):=by show _=_;rw[<- hRR,hqn];rfl
  subst hq0
  obtain⟨bb,r0,r1,r2,r3,r4,r5,rf,ge,lt,c0,c1,c2,c3,c4,c5,cf⟩:=id BO
  clear hb2 hOP hIP K10
  have hsl:w.heap.size<w2.heap.size:=by omega
  go_wp2_with fail
  refine bodyPost_ret (v:=.agg #[.int .i64 0,.string ⟨#[]⟩,.slice none 0 0,.slice none 0 0,.bool false,.bool false]) (by simp[results,Tryz.results32,go_sem,r0,r1,r2,r3,r4,r5]) rfl ⟨_,rfl,below_far bb (grown_box6 _ _ _ _ _ _ _ _) oM (Nat.le_refl _),by rw[HR.out];exact ReadR.no _ _⟩
 have hq0b:((ql:Int) == 0)=false:=by simp;omega
 have I0:Hid (Ib l n R w (w.heap.size+1+1) nm qs b off cap (.slice apv ql cpv) Fp 0 w2):=by
  have z:=hb2.size
  simp at z
  have hi3:Inb (w.heap.size+1) w2 Fp:=hIP.up uBdw3 (Nat.le_refl _)
  refine⟨_,_,_,_,_,_,_,_,BO,Nat.le_refl _,Nat.zero_le _,hOP,hi3,fun hm=>by have:=(hIP _ hm).1;simp at this;omega,.inr (.inl ⟨rfl,by omega,[],[w.heap.size+1],?_,rfl,rfl,?_,fun x hx=>by simp at hx;subst hx;omega,by simp,fun x hx hm=>by simp at hx;subst hx;have:=(hIP _ hm).1;simp at this;omega⟩)⟩
  ·rw[List.drop_zero,hRR]
   cases R with
   |none=>rfl
   |some q=>simp
  have h0:=Own.emp (et:=57) (z:=2) (Q:=Qg) (w.alloc (.cells #[.int .i64 0,.string ⟨#[]⟩,.slice none 0 0,.slice none 0 0,.bool false,.bool false] 45)) (w.heap.size+1) sI
  have hiz:Inb 0 ((w.alloc (.cells #[.int .i64 0,.string ⟨#[]⟩,.slice none 0 0,.slice none 0 0,.bool false,.bool false] 45)).alloc (.cells #[] 57)) [w.heap.size+1]:=fun x hx=>by simp at hx ⊢;omega
  exact(h0.below (B:=0) (C:=w.heap.size+2) Qg.lives hiz ((Below.refl _ _).alloc sI (.cells #[.int .i64 3,.string nm,.slice none 0 0,.slice (some ⟨w.heap.size+1,0,none⟩) 0 0,.bool true,.bool true] 45)) sI).below (B:=0) Qg.lives (hiz.up (Nat.le_refl _) sI) hb2 (Nat.le_refl _)
 clear hb2 hOP hIP K10 BO
 go_wp2_with fail
 go_loopw [7] (fun v7 wr=>∃i:Nat,i<=ql/\v7=.int .i64 i/\Hid (Ib l n R w (w.heap.size+1+1) nm qs b off cap (.slice apv ql cpv) Fp i wr)) (fun v7 _=>ql-(intOf v7).toNat)
 case atStart=>exact⟨0,by omega,rfl,I0⟩
 rename World=>wr
 obtain⟨i,hi,rfl,HI⟩:=hrel
 generalize hpp:w.heap.size+1+1=p at *
 obtain⟨ac,nc,cc,ag,ng,cg,ok,fi,BO,hng,_,OP,IP,hpF,hcase⟩:=HI.out
 have HC:=zH hcase
 have HOP:=zH OP
 have HIP:=zH IP
 clear hcase OP IP HI I0
 obtain⟨bb,r0,r1,r2,r3,r4,r5,rf,ge,lt,c0,c1,c2,c3,c4,c5,cf⟩:=id BO
 by_cases hlt:i<ql
 rotate_left 1
 ·obtain rfl:i=ql:=by omega
  clear KI KX KA KB HCT HFL
  go_wp2_with fail
  refine bodyPost_ret (v:=.agg #[.int .i64 3,.string nm,.slice ac nc cc,.slice ag ng cg,.bool ok,.bool fi]) (by simp[results,Tryz.results32,go_sem,r0,r1,r2,r3,r4,r5]) rfl ⟨_,rfl,below_far bb (grown_box6 _ _ _ _ _ _ _ _) oM (Nat.le_refl _),?_⟩
  have hgb:=grown_box6 wr w.heap.size (.int .i64 3) (.string nm) (.slice ac nc cc) (.slice ag ng cg) (.bool ok) (.bool fi)
  have hne:∀(F:List Nat),Inb (w.heap.size+1) wr F->∀b,some w.heap.size=some b->b ∉ F:=fun F hF b hb hm=>by cases hb;have:=(hF _ hm).1;omega
  rcases HC.out with ⟨rfl,hRn,_⟩|⟨_,hbad,_⟩|⟨rfl,_,gs,e,F,F2,hRs,rfl,hgl,rfl,hG,hIG,hS,hIS,hdis⟩
  ·rw[hRn]
   exact⟨_,_,_,_,_,_,_,_,_,rfl⟩
  ·omega
  rw[hRs]
  exact⟨ac,_,cc,ag,ng,cg,F2,F,rfl,hS.grown Qs.lives hIS hgb (hne F2 hIS),hG.grown Qg.lives hIG hgb (hne F hIG),hIS.up (Nat.le_succ _) hgb.size,hIG.up (Nat.le_succ _) hgb.size,hdis⟩
 obtain⟨q,hq⟩:∃q,qs[i]? = some q:=⟨qs[i],List.getElem?_eq_getElem oM⟩
 have hqm:=HQI.out q (List.mem_of_getElem? hq)
 obtain⟨g,cp,epv,hgl,hgc⟩:=Qk.cell HOP.out hq
 simp only[Value.slice.injEq] at epv
 obtain⟨rfl,hcl0,rfl⟩:=epv
 clear hcl0
 have HCQ:=zH (HCT.out q hqm.2)
 have KIQ:=zH (KI.out q hqm.1 hqm.2)
 have KXQ:=zH (KX.out q hqm.1 hqm.2)
 have KAQ:=zH (KA.out q hqm.1 hqm.2)
 have KBQ:=zH (KB.out q hqm.1 hqm.2)
 have HFQ:=zH (HFL.out q)
 clear KI KX KA KB HCT HFL
 have hdrop:qs.drop i=q::qs.drop (i+1):=by
  rw[List.drop_eq_getElem_cons oM]
  congr 1
  rw[List.getElem?_eq_getElem oM] at hq
  exact Option.some.inj hq
 have HDR:=zH hdrop
 clear hdrop
 generalize hpl:q.2-q.1=pl at *
 go_wp2_with fail
 go_loopw [9,10] (fun v9 v10 wy=>∃k:Nat,wy=wr/\k<=pl/\v10=.int .i64 k/\v9=.int .i64 (match Pl.fcol (Pl.pieceT l q) k with | none=>-1 | some c=>(c:Int))) (fun _ v10 _=>pl-(intOf v10).toNat)
 case atStart=>exact⟨0,rfl,Nat.zero_le _,rfl,rfl⟩
 obtain⟨k,rfl,hk,rfl,rfl⟩:=hrel
 by_cases hkp:k<pl
 ·have K1:=zH (KIQ.out k _ bb oM)
  have hfs:Pl.fcol (Pl.pieceT l q) (k+1)=match Pl.fcol (Pl.pieceT l q) k with | some c=>some c | none=>if Pl.isV (Pl.pieceT l q) k ⟨#[58]⟩=true then some k else none:=rfl
  cases hfk:Pl.fcol (Pl.pieceT l q) k with
  |some c =>
   rw[hfk] at hfs
   simp only at hfs
   have hc0:¬((c:Int)<0):=by omega
   simp only
   go_wp2_with fail
   exact tBdw9
  |none =>
   rw[hfk] at hfs
   simp only at hfs
   simp only
   cases hv:Pl.isV (Pl.pieceT l q) k ⟨#[58]⟩
   ·rw[hv] at K1 hfs
    rw[if_neg sI] at hfs
    go_wp2_with (go_at_call 31;with_reducible refine K1.out.mono ?_;rintro e w2 ⟨rfl,rfl⟩)
    exact tBdw9
   rw[hv] at K1 hfs
   rw[if_pos rfl] at hfs
   go_wp2_with (go_at_call 31;with_reducible refine K1.out.mono ?_;rintro e w2 ⟨rfl,rfl⟩)
   exact tBdw9
 obtain rfl:k=pl:=by omega
 cases hfk:Pl.fcol (Pl.pieceT l q) k with
 |none =>
  rw[hfk] at HCQ
  simp only at HCQ
  simp only
  by_cases hlast:i+1=ql
  rotate_left 1
  ·obtain⟨q2,rest,hd2⟩:∃q2 rest,qs.drop (i+1)=q2::rest:=by
    rw[List.drop_eq_getElem_cons oM]
    exact⟨_,_,rfl⟩
   have HRN:Hid (R=none):=by
    show _=_
    rcases HC.out with ⟨_,h,_⟩|⟨_,_,gs,F,h,_⟩|⟨_,h,_⟩
    ·exact h
    ·rw[h]
     have:Pl.rbd n ((qs.drop i).map (Pl.PT l))=none:=by (rw[HDR.out,hd2,List.map_cons,List.map_cons,Pl.rbd_cons,HCQ.out]) <;> rfl
     rw[this]
     rfl
    omega
   have hlb:((i:Int) == (ql:Int)-1)=false:=by simp;omega
   exact tBdw6
  have hlq2:i+1=qs.length:=by omega
  have hlb:((i:Int) == (ql:Int)-1)=true:=by simp;omega
  go_wp2_with fail
  refine(KXQ.out _ bb).mono ?_
  rintro e' w3 ⟨v,rfl,hb3,hcr⟩
  obtain⟨a5,n5,c5',fr5,ok5,ne5,lo5,rfl⟩:=hcr.form
  have B3:=BO.keep hb3
  have hpr:=lt
  have hsr:w.heap.size<wr.heap.size:=by omega
  have HLA:Hid (∀W ok' fi',w3.grownBy W (some p)->Bo w p W 3 nm a5 n5 c5' ag ng cg ok' fi'->ok'=(ok && ok5)->fi'=(fi && (decide (ne5<=40) && !lo5))->Ib l n R w p nm qs b off cap (.slice (some ⟨g,0,none⟩) ql cpv) Fp (i+1) W):=fun W ok' fi' hT hB h1 h2=>Ib.last hq hlq2 HCQ.out hng HC.out HOP.out HIP.out hpF hpr hsr hb3 hT hcr hB h1 h2
  have K29:=zH (fun W=>l3Fine_any (.slice a5 n5 c5') fr5 ne5 ok5 lo5 W ⟨_,_,_,rfl⟩)
  clear hb3 hcr bb r0 r1 r2 r3 r4 r5 rf lt c0 c1 c2 c3 c4 c5 cf HC HOP HIP KXQ KAQ KBQ KIQ
  obtain⟨bb,r0,r1,r2,r3,r4,r5,rf,ge,lt,c0,c1,c2,c3,c4,c5,cf⟩:=id B3
  generalize hfa:(decide (ne5<=40) && !lo5)=fa at *
  cases ok
  ·cases fi
   ·have B5:=(((B3.set2 a5 n5 c5').set4 false).set5 false).keep ((Below.refl _ _).alloc (Nat.le_refl _) (.cells #[.slice a5 n5 c5',.int .i64 fr5,.bool ok5,.int .i64 ne5,.bool lo5] 75))
    exact tBdw7
   go_wp2_with fail
   refine(K29.out _).mono ?_
   rintro e' w4 ⟨rfl,hb4⟩
   have BX:=(((B3.set2 a5 n5 c5').set4 false).keep ((Below.refl _ _).alloc (Nat.le_refl _) _)).keep hb4
   exact tBdw5
  cases fi
  ·have B5:=(((B3.set2 a5 n5 c5').set4 ok5).set5 false).keep ((Below.refl _ _).alloc (Nat.le_refl _) (.cells #[.slice a5 n5 c5',.int .i64 fr5,.bool ok5,.int .i64 ne5,.bool lo5] 75))
   exact tBdw7
  go_wp2_with fail
  refine(K29.out _).mono ?_
  rintro e' w4 ⟨rfl,hb4⟩
  have BX:=(((B3.set2 a5 n5 c5').set4 ok5).keep ((Below.refl _ _).alloc (Nat.le_refl _) _)).keep hb4
  exact tBdw5
 |some c =>
  rw[hfk] at HCQ
  simp only at HCQ
  simp only
  have hc0:¬((c:Int)<0):=by omega
  by_cases hlast:i+1=ql
  ·have HDR2:qs.drop i=[q]:=by rw[HDR.out,List.drop_eq_nil_of_le oM]
   have HRN:Hid (R=none):=by
    show _=_
    rcases HC.out with ⟨_,h,_⟩|⟨_,_,gs,F,h,_⟩|⟨_,h,_⟩
    ·exact h
    ·rw[h]
     have:Pl.rbd n ((qs.drop i).map (Pl.PT l))=none:=by (rw[HDR2,List.map_cons,List.map_nil,Pl.rbd_last,HCQ.out]) <;> rfl
     rw[this]
     rfl
    omega
   have hlb:((i:Int) == (ql:Int)-1)=true:=by simp;omega
   exact tBdw6
  have hlq2:i+1<qs.length:=by omega
  have hlb:((i:Int) == (ql:Int)-1)=false:=by simp;omega
  have hcp2:=HFQ.out k c hqm.2 oM hfk
  have hck0:c<k:=by omega
  have hnc:c+1<cap-q.1:=by omega
  have KAC:=zH (KAQ.out c hck0)
  go_wp2_with fail
  refine(KAC.out _ bb).mono ?_
  rintro e' w3 ⟨v,rfl,hb3,hca⟩
  obtain⟨a1,n1,c1',fr1,ok1,ne1,lo1,rfl⟩:=hca.form
  have B3:=BO.keep hb3
  have hpr:=lt
  have hsr:w.heap.size<wr.heap.size:=by omega
  have HB3:=zH hb3
  have HCA:=zH hca
  clear hb3 hca bb r0 r1 r2 r3 r4 r5 rf lt c0 c1 c2 c3 c4 c5 cf
  obtain⟨bb,r0,r1,r2,r3,r4,r5,rf,ge,lt,c0,c1,c2,c3,c4,c5,cf⟩:=id B3
  go_wp2_with fail
  have hck:c<k:=by omega
  have hbx:Hid (∀o,Below w.heap.size w (w3.alloc o)):=fun o=>bb.alloc oM o
  have KBC:=zH (KBQ.out c hck)
  refine(KBC.out _ (hbx.out _)).mono ?_
  rintro e' w4 ⟨v,rfl,hb4,hcb⟩
  obtain⟨a2,n2,c2',fr2,ok2,ne2,lo2,rfl⟩:=hcb.form
  have B4:=(B3.keep ((Below.refl _ _).alloc (Nat.le_refl _) _)).keep hb4
  have d0:=bcell hb4 (b:=w3.heap.size) (j:=0) sI uBdw1
  have d1:=bcell hb4 (b:=w3.heap.size) (j:=1) sI uBdw1
  have d2:=bcell hb4 (b:=w3.heap.size) (j:=2) sI uBdw1
  have d3:=bcell hb4 (b:=w3.heap.size) (j:=3) sI uBdw1
  have d4:=bcell hb4 (b:=w3.heap.size) (j:=4) sI uBdw1
  have hp3:p<w3.heap.size:=lt
  have h34:w3.heap.size<w4.heap.size:=by have:=hb4.size;simp at this;omega
  have hn3:¬p=w3.heap.size:=by omega
  have hn3':¬w3.heap.size=p:=by omega
  have hn4:¬p=w4.heap.size:=by omega
  have hn4':¬w4.heap.size=p:=by omega
  have HMI:Hid (∀Z ok' fi' zq,zq=Z.heap.size->w4.grownBy Z (some p)->Bo w p Z 3 nm ac nc cc ag ng cg ok' fi'->ok'=(ok && ok1 && ok2)->fi'=(fi && (decide (ne1<=40) && !lo1) && (decide (ne2<=40) && !lo2))->∃w' ag' cg',(Builtin.append_ #[41,41] 35 #[.slice ag ng cg,.slice (some ⟨zq,0,none⟩) 1 1]).run Tryz.prog (Z.alloc (.cells #[.slice a1 n1 c1',.slice a2 n2 c2'] 57))=.ok (.slice ag' (ng+1) cg') w'/\Bo w p w' 3 nm ac nc cc ag ng cg ok' fi'/\Ib l n R w p nm qs b off cap (.slice (some ⟨g,0,none⟩) ql cpv) Fp (i+1) (w'.setCell ⟨p,3,none⟩ (.slice ag' (ng+1) cg'))):=fun Z ok' fi' zq hz hT hB h1 h2=>Ib.mid' hq hlq2 oM HCQ.out hng HC.out HOP.out HIP.out hpF hpr hsr HB3.out HCA.out hb4 hcb hT hB h1 h2 35 zq hz
  have K29a:=zH (fun W=>l3Fine_any (.slice a1 n1 c1') fr1 ne1 ok1 lo1 W ⟨_,_,_,rfl⟩)
  have K29b:=zH (fun W=>l3Fine_any (.slice a2 n2 c2') fr2 ne2 ok2 lo2 W ⟨_,_,_,rfl⟩)
  clear hb4 hcb bb r0 r1 r2 r3 r4 r5 rf lt c0 c1 c2 c3 c4 c5 cf HC HOP HIP KXQ KAQ KBQ KIQ HB3 HCA KAC KBC hbx
  obtain⟨bb,r0,r1,r2,r3,r4,r5,rf,ge,lt,c0,c1,c2,c3,c4,c5,cf⟩:=id B4
  generalize (decide (ne1<=40) && !lo1)=fa at *
  generalize (decide (ne2<=40) && !lo2)=fb at *
  have CX:Hid (∀(W:World) (q j:Nat) (u v:Value) (o:Obj) (i:Nat),W.cell? ⟨q,j,none⟩=some v->q ≠ p->q<W.heap.size->((W.setCell ⟨p,i,none⟩ u).alloc o).cell? ⟨q,j,none⟩=some v):=fun W q j u v o i h1 h2 h3=>((Below.refl _ _).alloc (Nat.le_refl _) o).cell (p:=⟨q,j,none⟩) (by simpa using h3) |>.trans ((World.cell?_setCell_far _ _ _ _ (by show p ≠ q;exact fun e=>h2 e.symm)).trans h1)
  cases ok
  ·exact tBdw1
  cases ok1
  ·exact tBdw1
  cases fi
  ·have BZ:=((B4.set4 ok2).set5 false).keep ((Below.refl _ _).alloc (Nat.le_refl _) (.cells #[.slice a2 n2 c2',.int .i64 fr2,.bool ok2,.int .i64 ne2,.bool lo2] 75))
   exact tBdw8
  cases fa
  ·go_wp2_with fail
   refine(K29a.out _).mono ?_
   rintro e' w5 ⟨rfl,hb5⟩
   have B5:=((B4.set4 ok2).keep ((Below.refl _ _).alloc (Nat.le_refl _) (.cells #[.slice a2 n2 c2',.int .i64 fr2,.bool ok2,.int .i64 ne2,.bool lo2] 75))).keep hb5
   have x0:=bcell hb5 uBdw3 (CX.out w4 w3.heap.size 0 (.bool ok2) _ (.cells #[.slice a2 n2 c2',.int .i64 fr2,.bool ok2,.int .i64 ne2,.bool lo2] 75) 4 d0 hn3' h34)
   exact tBdw3
  go_wp2_with fail
  refine(K29a.out _).mono ?_
  rintro e' w5 ⟨rfl,hb5⟩
  have B5:=((B4.set4 ok2).keep ((Below.refl _ _).alloc (Nat.le_refl _) (.cells #[.slice a2 n2 c2',.int .i64 fr2,.bool ok2,.int .i64 ne2,.bool lo2] 75))).keep hb5
  have x0:=bcell hb5 uBdw3 (CX.out w4 w3.heap.size 0 (.bool ok2) _ (.cells #[.slice a2 n2 c2',.int .i64 fr2,.bool ok2,.int .i64 ne2,.bool lo2] 75) 4 d0 hn3' h34)
  exact tBdw2
end Go.Proofs.YtbiiicbfpcfgdaaGreatDoor
