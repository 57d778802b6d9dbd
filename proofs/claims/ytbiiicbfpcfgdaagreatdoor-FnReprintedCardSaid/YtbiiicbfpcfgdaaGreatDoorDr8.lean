import Derived.Test.YtbiiicbfpcfgdaaGreatDoorPgr
namespace Go.Proofs.YtbiiicbfpcfgdaaGreatDoor
open Go.RowKit
set_option maxRecDepth 100000
set_option maxHeartbeats 16000000
set_option linter.unusedVariables false
theorem uDr81 {P:Prop}(h:P:=by repeat (first | exact Kx.refl _ _ | refine Kx.alloc ?_ _ | refine Kx.set ?_ _ _ _ (.inl sI))):P:=h
theorem cell?_alloc_some' {W:World}{a:Addr}{v:Value}(o:Obj) (h:W.cell? a=some v):(W.alloc o).cell? a=some v:=(World.cell?_alloc_some W a o (by rw[h];rfl)).trans h
theorem frozen_alloc' (W:World) (o:Obj) {b j:Nat}(h:b<W.heap.size):(W.alloc o).frozen? ⟨b,j,none⟩=W.frozen? ⟨b,j,none⟩:=World.frozen?_of_block (a:=⟨b,j,none⟩) (Below.heap_alloc _ _ _ h)
theorem tDr82 {P:Prop}(h:P:=by
 obtain⟨a9,n9,e9⟩:=S9.d2.o.slice
 generalize ((Pl.grds bs pc i).1++[(⟨(Pl.gen bs 2 pi).1,(Pl.gen bs 2 (Pl.gen bs 2 pi).2).1⟩:Pl.Gv)]).length=ll at e9
 subst e9
 have SX:W4.cell? ⟨s4,3,none⟩=some (.slice a2 i n2):=T3.k.cell HS0.out.tl (by simpa using HS0.out.tn.2.2.1) (HS0.out.tc 3 _ rfl)
 refine wpN_take (i:=8) (v:=.agg #[.slice aT (Pl.gen bs 2 pi).1.length nT,.slice aU (Pl.gen bs 2 (Pl.gen bs 2 pi).2).1.length nU]) rfl rfl kR kR kR kR (fun _ _ _ h=>h) rfl (fun W hW=>exec_build48 (.tmp 49) (.tmp 52) aT aU (Pl.gen bs 2 pi).1.length (Pl.gen bs 2 (Pl.gen bs 2 pi).2).1.length nT nU rfl kR kR W) SX ?_
 refine wpN_one (j:=9) kR (OneN.val rfl rfl _ (exec_bs42 (.tmp 53) aT aU (Pl.gen bs 2 pi).1.length (Pl.gen bs 2 (Pl.gen bs 2 pi).2).1.length nT nU rfl kR W4) (cell?_alloc_some' _ SX) ?_)
 refine wpN_one (j:=10) kR (OneN.val rfl rfl _ (exec_app42 (.tmp 46) (.tmp 54) (.slice a2 i n2) (.slice (some ⟨W4.heap.size,0,none⟩) 1 1) _ _ w9 rfl kR kR hr9) d9 ?_)
 refine wpN_one (j:=11) kR (OneN.val rfl rfl (.pointer (some ⟨s4,3,none⟩)) (exec_f44_3 (.tmp 4) s4 rfl kR w9) d9 ?_)
 refine wpN_last (n:=12) kR rfl rfl (exec_store42 (.tmp 56) (.tmp 55) s4 3 _ a9 ll n9 w9 rfl kR kR d9 f9) ?_
 refine wpN_done kR ?_ _
 have H9:=zH S9
 clear hr9 S9 d9 f9 SX
 go_wp2_with fail
 go_roundw
 case rel=>exact⟨i+1,_,F9,by simp,by omega,by rw[HNX.out];exact H9.out⟩
 case measure=>simp[intOf];omega
 ):P:=h
theorem tDr83 {P:Prop}(h:P:=by
 rintro e W2 ⟨vT,FT,rfl,T2,U1,hdj⟩
 refine⟨vT,rfl,KC.out _ T2.k,?_⟩
 refine wpN_one (j:=7) kR (OneN.call rfl rfl 78 _ (exec_call35 (.tmp 50) (.const (.int .i64 2)) (.tmp 51) _ _ _ _ rfl kR kR kR _) ((gen_two U1 T2 (fun x hx hm=>hdj x hm hx) sI).mono ?_))
 rintro e W4 ⟨vU,FU,rfl,U2,T3,hdj2⟩
 refine⟨vU,rfl,KC.out _ T3.k,?_⟩
 simp only[List.nil_append] at T3 U2
 obtain⟨aT,nT,eT⟩:=T3.o.slice
 obtain⟨aU,nU,eU⟩:=U2.o.slice
 subst eT eU
 obtain⟨v9,w9,F9,hr9,S9,d9,f9⟩:=HS0.out.guard T3 U2 (fun x hx hm=>hdj2 x hm hx) (by rw[HLn.out];omega) 41 W4.heap.size rfl
 exact tDr82
 ):P:=h
theorem tDr81 {P:Prop}(h:P:=by
 clear HS
 generalize wr.drew=W0 at *
 generalize hpi:(Pl.grds bs pc i).2=pi at *
 have S0:W0.cell? ⟨s4,3,none⟩=some (.slice a2 i n2):=HS0.out.tc 3 _ rfl
 have KC:Hid (∀X:World,Kx W0 X [P]->X.cell? ⟨s4,3,none⟩=some (.slice a2 i n2)):=fun X k=>k.cell HS0.out.tl (by simpa using HS0.out.tn.2.2.1) S0
 refine wpN_take (i:=0) (v:=.pointer (some ⟨s4,3,none⟩)) rfl rfl kR kR kR kR (fun _ _ _ h=>h) rfl (fun W hW=>exec_f44_3 (.tmp 4) s4 rfl kR W) S0 ?_
 refine wpN_take (i:=1) (v:=.slice a2 i n2) rfl rfl kR kR kR kR (fun _ _ _ h=>h) rfl (fun W hW=>exec_load42 (.tmp 45) s4 3 a2 i n2 W rfl kR hW) S0 ?_
 refine wpN_take (i:=2) (v:=.pointer (some ⟨P,0,none⟩)) rfl rfl kR kR kR kR (fun _ _ _ h=>h) rfl (fun W hW=>exec_moveq (.tmp 0) _ rfl kR W) S0 ?_
 refine wpN_take (i:=5) (v:=.pointer (some ⟨P,0,none⟩)) rfl rfl kR kR kR kR (fun _ _ _ h=>h) rfl (fun W hW=>exec_moveq (.tmp 0) _ rfl kR W) S0 ?_
 have T0:=Dn.emp 90 7 Qs HS0.out.d1.r (Kx.refl W0 [P]) W0.heap.size rfl
 have C1:=KC.out _ T0.k
 refine wpN_two (i:=3) (j:=6) kR (OneN.val rfl rfl _ (exec_bs41 rfl W0) C1 ?_) (OneN.val rfl rfl _ (exec_bs41 rfl W0) C1 ?_)
 ·refine wpN_two (i:=4) (j:=6) kR (OneN.call rfl rfl 78 _ (exec_call35 (.tmp 47) (.const (.int .i64 2)) (.tmp 48) _ _ _ _ rfl kR kR kR _) ((gen_one T0 sI).mono ?_)) (OneN.val rfl rfl _ (exec_bs41 rfl _) (KC.out _ (T0.alloc Qs.lives _).k) ?_)
  ·rintro e W2 ⟨vT,FT,rfl,T1⟩
   refine⟨vT,rfl,KC.out _ T1.k,?_⟩
   obtain⟨T2,U0,hzn⟩:=T1.beside
   refine wpN_one (j:=6) kR (OneN.val rfl rfl _ (exec_bs41 rfl W2) (KC.out _ T2.k) ?_)
   refine wpN_one (j:=7) kR (OneN.call rfl rfl 78 _ (exec_call35 (.tmp 50) (.const (.int .i64 2)) (.tmp 51) _ _ _ _ rfl kR kR kR _) ((gen_two U0 T2 (by simpa using hzn) sI).mono ?_))
   rintro e W4 ⟨vU,FU,rfl,U1,T3,hdj⟩
   refine⟨vU,rfl,KC.out _ T3.k,?_⟩
   simp only[List.nil_append] at T3 U1
   obtain⟨aT,nT,eT⟩:=T3.o.slice
   obtain⟨aU,nU,eU⟩:=U1.o.slice
   subst eT eU
   obtain⟨v9,w9,F9,hr9,S9,d9,f9⟩:=HS0.out.guard T3 U1 (fun x hx hm=>hdj x hm hx) (by rw[HLn.out];omega) 41 W4.heap.size rfl
   exact tDr82
  have U0:=(T0.beside).2.1
  have T1:=(T0.beside).1
  have hz:=(T0.beside).2.2
  refine wpN_one (j:=4) kR (OneN.call rfl rfl 78 _ (exec_call35 (.tmp 47) (.const (.int .i64 2)) (.tmp 48) _ _ _ _ rfl kR kR kR _) ((gen_two T1 U0 (fun x hx hm=>hz (by rw[List.mem_singleton] at hm;rw[<- hm];exact hx)) sI).mono ?_))
  exact tDr83
 ·have T1:=(T0.beside).2.1
  have U0:=(T0.beside).1
  have hz:=(T0.beside).2.2
  refine wpN_one (j:=3) kR (OneN.val rfl rfl _ (exec_bs41 rfl _) (KC.out _ T1.k) ?_)
  refine wpN_one (j:=4) kR (OneN.call rfl rfl 78 _ (exec_call35 (.tmp 47) (.const (.int .i64 2)) (.tmp 48) _ _ _ _ rfl kR kR kR _) ((gen_two T1 U0 (fun x hx hm=>hz (by rw[List.mem_singleton] at hx;rw[<- hx];exact hm)) sI).mono ?_))
  exact tDr83
 ):P:=h
theorem tDr84 {P:Prop}(h:P:=by
 rw[HGG.out]
 first
  |exact⟨_,_,F1,F2,rfl,FN.out _ uDr81⟩
  |exact⟨_,_,rfl,F1,(FN.out _ uDr81).1,F2,(FN.out _ uDr81).2⟩
 ):P:=h
theorem tDr85 {P:Prop}(h:P:=by
 rw[HG]
 exact⟨_,_,F1,[z1],rfl,FIN.out _ uDr81⟩
 ):P:=h
theorem genStmt_any (B P:Nat) (w:World) (bs:List Nat) (pos:Nat) (h:Rr B P w bs pos):Calls Tryz.prog 50 #[.pointer (some ⟨P,0,none⟩)] w fun e w'=>∃v1 v2 F1 F2,e=.returned (.agg #[.int .i64 (Pl.gst bs pos).1.k,.string (Pl.ba (Pl.gst bs pos).1.nm),v1,v2])/\Dn 90 7 Qs B P w w' bs (Pl.gst bs pos).2 [] v1 (Pl.gst bs pos).1.code F1/\Dn 57 2 Qg B P w w' bs (Pl.gst bs pos).2 [] v2 (Pl.gst bs pos).1.gs F2/\∀x∈F1,x ∉ F2:=by
 have hlt:=h.lt
 have hbp:=h.bp
 have HW0:Hid (Below w.heap.size w (w.alloc (.cells #[.int .i64 0,.string ⟨#[]⟩,.slice none 0 0,.slice none 0 0] 43))):=(Below.refl _ _).alloc (Nat.le_refl _) _
 have C0:=zH (cells_new (w:=w) (t:=43) (l:=[.int .i64 0,.string ⟨#[]⟩,.slice none 0 0,.slice none 0 0]) rfl)
 have F0:Hid (∀j,(w.alloc (.cells #[.int .i64 0,.string ⟨#[]⟩,.slice none 0 0,.slice none 0 0] 43)).frozen? ⟨w.heap.size,j,none⟩=false):=fun j=>by simp[go_sem]
 have h0:=h.keep HW0.out
 have Z0:Hid ((w.alloc (.cells #[.int .i64 0,.string ⟨#[]⟩,.slice none 0 0,.slice none 0 0] 43)).heap.size=w.heap.size+1):=by show _=_;simp
 have K1:=zH (nextx_any B P _ bs pos h0)
 have hk:(Pl.nx bs pos).1<=255:=Pl.nx_le h.by_
 have HG:=zH (show Pl.gst bs pos=Pl.gstK bs (Pl.nx bs pos).1 (Pl.nx bs pos).2 from rfl)
 generalize Pl.gst bs pos=R at *
 clear h h0
 generalize Pl.nx bs pos=q at *
 obtain⟨k,p1⟩:=q
 simp only at hk K1
 have HG:=HG.out
 unfold Pl.gstK at HG
 have m8:Int.tmod (k:Int) 8=((k % 8:Nat):Int):=by rw[Int.tmod_eq_emod_of_nonneg oM];omega
 have m3:Int.tmod (k:Int) 3=((k % 3:Nat):Int):=by rw[Int.tmod_eq_emod_of_nonneg oM];omega
 have q8:Int.tdiv (k:Int) 8=((k / 8:Nat):Int):=by rw[Int.tdiv_eq_ediv_of_nonneg oM];omega
 have q16:Int.tdiv (k:Int) 16=((k / 16:Nat):Int):=by rw[Int.tdiv_eq_ediv_of_nonneg oM];omega
 have t2:Int.tmod ((k / 8:Nat):Int) 2=((k / 8 % 2:Nat):Int):=by rw[Int.tmod_eq_emod_of_nonneg oM];omega
 have t3:Int.tmod ((k / 16:Nat):Int) 3=((k / 16 % 3:Nat):Int):=by rw[Int.tmod_eq_emod_of_nonneg oM];omega
 have hq8:k / 8<=31:=by omega
 have hq16:k / 16<=15:=by omega
 have l2:k / 8 % 2<=1:=by omega
 have l3:k % 3<=2:=by omega
 have l4:k / 16 % 3<=2:=by omega
 generalize k / 8 % 2=x2 at *
 generalize k / 16 % 3=x3 at *
 generalize k / 8=kq at *
 generalize k / 16=kr at *
 generalize k % 3=kd at *
 have hm:k % 8<8:=by omega
 generalize k % 8=km at *
 go_enter Tryz.func50,Tryz.ntmps50
 go_wp2_with fail
 generalize hW:w.alloc (.cells #[.int .i64 0,.string ⟨#[]⟩,.slice none 0 0,.slice none 0 0] 43)=W at *
 refine K1.out.mono ?_
 rintro e w1 ⟨rfl,hd⟩
 have HKx:Hid (Kx w W [P]):=Kx.below HW0.out [P]
 generalize hs:w.heap.size=s at *
 have hWs:=Z0.out
 have CC:Hid (∀(X:World),Kx W X [P]->(∀j u,([.int .i64 0,.string ⟨#[]⟩,.slice none 0 0,.slice none 0 0]:List Value)[j]? = some u->X.cell? ⟨s,j,none⟩=some u)/\∀j,X.frozen? ⟨s,j,none⟩=false):=fun X k=>⟨fun j u hu=>k.cell oM (by simp;omega) (by have:=C0.out j u hu;rw[Nat.zero_add] at this;exact this),fun j=>k.froz oM (by simp;omega) (F0.out j)⟩
 have HK1:=zH (Kx.grown (A:=[P]) hd.g sI)
 have HR1:=zH hd.r
 have hz1:=HK1.out.size
 clear hd K1 HW0 C0 F0 hW
 have G0:=zH (Dn.emp (w0:=W) 57 2 Qg HR1.out HK1.out w1.heap.size rfl)
 have KG:=gen_all (1+kd) oM B P _ _ bs p1 _ _ _ _ (Dn.emp 90 7 Qs G0.out.r (Kx.refl _ [P]) (w1.heap.size+1) sI) (by have:2 ^ (1+kd+1)<=2 ^ 4:=Nat.pow_le_pow_right oM oM;simp only[List.length_nil];omega)
 rw[show ((1+kd:Nat):Int)=1+(kd:Int) by omega] at KG
 simp only[List.nil_append] at KG
 have KG:=zH KG
 have HLC:=Pl.gen_len bs (1+kd) p1
 have hc16:2 ^ (1+kd+1)<=2 ^ 4:=Nat.pow_le_pow_right oM oM
 generalize Pl.gen bs (1+kd) p1=cg at *
 obtain⟨c1,pc⟩:=cg
 simp only at KG HLC HG
 have hc1:c1.length<=16:=by omega
 clear HLC hc16
 go_wp2_with fail
 refine KG.out.mono ?_
 rintro e w2 ⟨v1,F1,rfl,hC⟩
 have GC:=zH (G0.out.with_ Qg.lives hC)
 have HC:=zH (hC.from_ (HKx.out.trans G0.out.k sI))
 have HF1:Hid (∀x∈F1,w1.heap.size+1<=x):=fun x hx=>by rcases hC.f x hx with r | r;exact absurd r sI;simpa using r
 obtain⟨a1,n1,rfl⟩:=hC.o.slice
 have hz2:w1.heap.size+1<=w2.heap.size:=by simpa using hC.k.size
 clear hC KG
 generalize hcl:c1.length=cl at *
 generalize hzz:w1.heap.size=z1 at *
 have D2:Hid (Dn 57 2 Qg B P w w2 bs pc [] (.slice (some ⟨z1,0,none⟩) 0 0) [] [z1]):=GC.out.1.from_ HKx.out
 obtain⟨cc,f⟩:=CC.out w2 GC.out.1.k
 have c0:=cc 0 _ rfl
 have e1:=cc 1 _ rfl
 have e2:=cc 2 _ rfl
 have e3:=cc 3 _ rfl
 have hsl:s<w2.heap.size:=by omega
 have sF:s ∉ F1:=fun hm=>by have:=HF1.out s hm;omega
 have FIN:=zH (fun (Y:World) (q:Kx w2 Y [s])=>(⟨HC.out.kx Qs.lives (HC.out.r.kx q (by simp;omega)) q (by simp;exact .inr ⟨sF,Nat.le_of_eq hs⟩),D2.out.kx Qg.lives (HC.out.r.kx q (by simp;omega)) q (by simp;exact .inr ⟨by omega,Nat.le_of_eq hs⟩),GC.out.2.1⟩:Dn 90 7 Qs B P w Y bs pc [] (.slice a1 cl n1) c1 F1/\Dn 57 2 Qg B P w Y bs pc [] (.slice (some ⟨z1,0,none⟩) 0 0) [] [z1]/\∀x∈F1,x ∉ [z1]))
 by_cases h3:km=3
 ·subst h3
  rw[if_pos rfl] at HG
  obtain rfl|rfl:x2=0\/x2=1:=by omega
  ·clear CC cc GC HC D2 G0 HR1 HK1 HKx
   go_wp2_with fail
   refine bodyPost_ret (v:=.agg #[.int .i64 2,.string ⟨#[120]⟩,.slice a1 cl n1,.slice (some ⟨z1,0,none⟩) 0 0]) (by simp[results,Tryz.results50,go_sem,c0,e1,e2,e3,hsl]) rfl ?_
   exact tDr85
  clear CC cc GC HC D2 G0 HR1 HK1 HKx
  go_wp2_with fail
  refine bodyPost_ret (v:=.agg #[.int .i64 2,.string ⟨#[119]⟩,.slice a1 cl n1,.slice (some ⟨z1,0,none⟩) 0 0]) (by simp[results,Tryz.results50,go_sem,c0,e1,e2,e3,hsl]) rfl ?_
  exact tDr85
 rw[if_neg h3] at HG
 have b3:((km:Int) == 3)=false:=by simp;omega
 by_cases h5:5<km
 rotate_left 1
 ·rw[if_neg h5] at HG
  have b5:¬(5:Int)<(km:Int):=by omega
  clear CC cc GC HC D2 G0 HR1 HK1 HKx
  go_wp2_with fail
  refine bodyPost_ret (v:=.agg #[.int .i64 1,.string ⟨#[]⟩,.slice a1 cl n1,.slice (some ⟨z1,0,none⟩) 0 0]) (by simp[results,Tryz.results50,go_sem,c0,e1,e2,e3,hsl]) rfl ?_
  exact tDr85
 rw[if_pos h5] at HG
 have b5:(5:Int)<(km:Int):=by omega
 have hz1s:z1 ≠ s/\z1<w2.heap.size/\z1 ≠ P:=by have:=HR1.out.lt;omega
 have SN:=zH (fun (kk:Int) (nn:ByteArray)=>(⟨HC.out.alloc Qs.lives _,D2.out.alloc Qg.lives _,GC.out.2.1,⟨sF,by simp;omega,by omega,by omega,Nat.le_of_eq hs⟩,⟨fun hm=>by have:=(HC.out.i _ hm).2;omega,by simp;omega,by have:=HC.out.r.lt;omega,by omega,by omega⟩,hsl,by simp,fun j u hu=>by have:=cells_new (w:=w2) (t:=43) (l:=[.int .i64 kk,.string nn,.slice a1 cl n1,.slice (some ⟨z1,0,none⟩) 0 0]) rfl j u hu;rw[Nat.zero_add] at this;exact this,fun j u hu=>cell?_alloc_some' _ (cc j u hu),fun j=>by rw[frozen_alloc' _ _ hsl];exact f j,fun j=>by simp[go_sem]⟩:St B P w bs s w2.heap.size kk nn (.slice a1 cl n1) c1 F1 (w2.alloc (.cells #[.int .i64 kk,.string nn,.slice a1 cl n1,.slice (some ⟨z1,0,none⟩) 0 0] 43)) pc (.slice (some ⟨z1,0,none⟩) 0 0) [] [z1]))
 have HLn:Hid (∀i,(Pl.grds bs pc i).1.length=i):=Pl.grds_len bs pc
 generalize hs4:w2.heap.size=s4 at *
 clear CC cc GC HC D2 G0 HR1 HK1 HKx FIN sF f c0 e1 e2 e3
 obtain rfl|rfl:x2=0\/x2=1:=by omega
 ·go_wp2_with fail
  have I0:=zH ((SN.out 3 ⟨#[70]⟩).alloc (.cells #[.string ⟨#[70]⟩,.string ⟨#[71,111]⟩] 9))
  go_loopw [5] (fun v5 wr=>∃(i:Nat) (v2:Value) (F2:List Nat),v5=.int .i64 (i:Int)/\i<=x3/\Hid (St B P w bs s s4 3 ⟨#[70]⟩ (.slice a1 cl n1) c1 F1 wr (Pl.grds bs pc i).2 v2 (Pl.grds bs pc i).1 F2)) (fun v5 wr=>x3-(intOf v5).toNat)
  case atStart=>exact⟨0,_,_,rfl,by omega,I0.out⟩
  rename World=>wr
  obtain⟨i,v2,F2,rfl,hi,HS⟩:=hrel
  obtain⟨a2,n2,e2⟩:=HS.out.d2.o.slice
  rw[HLn.out i] at e2
  subst e2
  by_cases hlast:i<x3
  ·have hl':(i:Int)<(x3:Int):=by omega
   have HNX:=zH (show Pl.grds bs pc (i+1)=((Pl.grds bs pc i).1++[(Pl.grd bs (Pl.grds bs pc i).2).1],(Pl.grd bs (Pl.grds bs pc i).2).2) from rfl)
   go_wp2_with fail
   refine wpN_begin (n:=12) (S:=fun W=>W.cell? ⟨s4,3,none⟩=some (.slice a2 i n2)) kR ?_
   change wpN _ _ _ _ _ _ _ _ _ (World.drew _)
   have HS0:Hid (St B P w bs s s4 3 ⟨#[70]⟩ (.slice a1 cl n1) c1 F1 wr.drew (Pl.grds bs pc i).2 (.slice a2 i n2) (Pl.grds bs pc i).1 F2):=HS.out.kx (Kx.drew wr [P]) HS.out.d1.r.drew
   exact tDr81
  have hl':¬(i:Int)<(x3:Int):=by omega
  obtain rfl:i=x3:=by omega
  have c0:=HS.out.sc 0 _ rfl
  have e1:=HS.out.sc 1 _ rfl
  have e2:=HS.out.sc 2 _ rfl
  have e3:=HS.out.sc 3 _ rfl
  have t0:=HS.out.tc 0 _ rfl
  have t1:=HS.out.tc 1 _ rfl
  have t2:=HS.out.tc 2 _ rfl
  have t3:=HS.out.tc 3 _ rfl
  have f0:=HS.out.sf
  have hst:=HS.out.st
  have FN:=zH (fun Y q=>HS.out.fin (Y:=Y) q)
  have HGG:=zH HG
  clear HS HG
  go_wp2_with fail
  refine bodyPost_ret (v:=.agg #[.int .i64 3,.string ⟨#[70]⟩,.slice a1 cl n1,.slice a2 i n2]) (by simp[results,Tryz.results50,go_sem,c0,e1,e2,e3]) rfl ?_
  exact tDr84
 go_wp2_with fail
 have I0:=zH ((SN.out 3 ⟨#[71,111]⟩).alloc (.cells #[.string ⟨#[70]⟩,.string ⟨#[71,111]⟩] 9))
 go_loopw [5] (fun v5 wr=>∃(i:Nat) (v2:Value) (F2:List Nat),v5=.int .i64 (i:Int)/\i<=x3/\Hid (St B P w bs s s4 3 ⟨#[71,111]⟩ (.slice a1 cl n1) c1 F1 wr (Pl.grds bs pc i).2 v2 (Pl.grds bs pc i).1 F2)) (fun v5 wr=>x3-(intOf v5).toNat)
 case atStart=>exact⟨0,_,_,rfl,by omega,I0.out⟩
 rename World=>wr
 obtain⟨i,v2,F2,rfl,hi,HS⟩:=hrel
 obtain⟨a2,n2,e2⟩:=HS.out.d2.o.slice
 rw[HLn.out i] at e2
 subst e2
 by_cases hlast:i<x3
 ·have hl':(i:Int)<(x3:Int):=by omega
  have HNX:=zH (show Pl.grds bs pc (i+1)=((Pl.grds bs pc i).1++[(Pl.grd bs (Pl.grds bs pc i).2).1],(Pl.grd bs (Pl.grds bs pc i).2).2) from rfl)
  go_wp2_with fail
  refine wpN_begin (n:=12) (S:=fun W=>W.cell? ⟨s4,3,none⟩=some (.slice a2 i n2)) kR ?_
  change wpN _ _ _ _ _ _ _ _ _ (World.drew _)
  have HS0:Hid (St B P w bs s s4 3 ⟨#[71,111]⟩ (.slice a1 cl n1) c1 F1 wr.drew (Pl.grds bs pc i).2 (.slice a2 i n2) (Pl.grds bs pc i).1 F2):=HS.out.kx (Kx.drew wr [P]) HS.out.d1.r.drew
  exact tDr81
 have hl':¬(i:Int)<(x3:Int):=by omega
 obtain rfl:i=x3:=by omega
 have c0:=HS.out.sc 0 _ rfl
 have e1:=HS.out.sc 1 _ rfl
 have e2:=HS.out.sc 2 _ rfl
 have e3:=HS.out.sc 3 _ rfl
 have t0:=HS.out.tc 0 _ rfl
 have t1:=HS.out.tc 1 _ rfl
 have t2:=HS.out.tc 2 _ rfl
 have t3:=HS.out.tc 3 _ rfl
 have f0:=HS.out.sf
 have hst:=HS.out.st
 have FN:=zH (fun Y q=>HS.out.fin (Y:=Y) q)
 have HGG:=zH HG
 clear HS HG
 go_wp2_with fail
 refine bodyPost_ret (v:=.agg #[.int .i64 3,.string ⟨#[71,111]⟩,.slice a1 cl n1,.slice a2 i n2]) (by simp[results,Tryz.results50,go_sem,c0,e1,e2,e3]) rfl ?_
 exact tDr84
end Go.Proofs.YtbiiicbfpcfgdaaGreatDoor
