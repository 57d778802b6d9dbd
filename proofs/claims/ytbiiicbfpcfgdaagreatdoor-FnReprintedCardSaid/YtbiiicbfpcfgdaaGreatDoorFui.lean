import Derived.Test.YtbiiicbfpcfgdaaGreatDoorFnb
namespace Go.Proofs.YtbiiicbfpcfgdaaGreatDoor
open Go.RowKit
set_option maxRecDepth 100000
set_option maxHeartbeats 16000000
set_option linter.unusedVariables false
theorem uFui1 {P:Prop}(h:P:=by simp[results,Tryz.results103,go_sem,z0,z1,z2,z3,z4,z5,z6,z7]):P:=h
theorem uFui2 {P:Prop}(h:P:=by show some w1.heap.size ≠ some p;have:=F3.pw;simp;omega):P:=h
theorem function_any (l:List Pl.Itk) (p cap a o mb mo cp:Nat) (ao:Option Addr) (be:Bool) (w:World) (hl:l.length<=1048576) (ha:a<=1048580) (hE:Ej w l p ao mb mo cp) (hP:Ps w p ao l.length cap a o be) :
  Calls Tryz.prog 103 #[.pointer (some ⟨p,0,none⟩)] w fun e w'=>e=.returned (ag8 (Pl.fuI l a))/\Ps w' p ao l.length cap (Pl.fuI l a).2.2 o be/\w.grownBy w' (some p):=by
 have F0:=zH (Fu.new hE hP)
 have KN:Hid (∀(X:World) (a':Nat),Fu w X l p cap ao mb mo cp a' o be->a'<=1048590->Calls Tryz.prog 67 #[.pointer (some ⟨p,0,none⟩)] X fun e w'=>e=.returned (.agg #[.int .i64 (Pl.tkAt l a').k,.string (Pl.tkAt l a').tx,.int .i64 (Pl.tkAt l a').v])/\Fu w w' l p cap ao mb mo cp (a'+1) o be/\X.grownBy w' (some p)):=fun X a' hF h =>
  (next_any l p cap a' o ao be X hl h hF.ps (hF.e.r.up (Nat.le_of_lt hF.ps.lt))).mono (by rintro e w' ⟨rfl,h1,h2⟩;exact⟨rfl,hF.step h2 h1,h2⟩)
 have KS:Hid (∀(X:World) (a':Nat) (text:ByteArray),Fu w X l p cap ao mb mo cp a' o be->a'<=1048590->Calls Tryz.prog 64 #[.pointer (some ⟨p,0,none⟩),.string text] X fun e w'=>e=.returned (.bool (decide ((Pl.tkAt l a').tx=text)))/\Fu w w' l p cap ao mb mo cp (if (Pl.tkAt l a').tx=text then a'+1 else a') o be/\X.grownBy w' (some p)):=fun X a' text hF h =>
  (sign_any l p cap a' o ao be text X hl h hF.ps (hF.e.r.up (Nat.le_of_lt hF.ps.lt))).mono (by rintro e w' ⟨rfl,h1,h2⟩;exact⟨rfl,hF.step h2 h1,h2⟩)
 have KO:Hid (∀(X:World) (a':Nat) (s:ByteArray),Fu w X l p cap ao mb mo cp a' o be->Calls Tryz.prog 116 #[.string s] X fun e w'=>e=.returned (.int .i64 (Pl.opn s.data.toList))/\Fu w w' l p cap ao mb mo cp a' o be/\Below X.heap.size X w'):=fun X a' s hF =>
  (operationNumber_any s mb mo cp X hF.e.m).mono (by rintro e w' ⟨rfl,h1⟩;exact⟨rfl,hF.keep h1,h1⟩)
 have KU:Hid (∀(X:World) (a':Nat) (s:ByteArray),Fu w X l p cap ao mb mo cp a' o be->Calls Tryz.prog 101 #[.string s] X fun e w'=>e=.returned (usV s.data.toList)/\Fu w w' l p cap ao mb mo cp a' o be):=fun X a' s hF =>
  (usesOf_any s mb mo cp X hF.e.m).mono (by rintro e w' ⟨rfl,h1⟩;exact⟨rfl,hF.keep h1⟩)
 have KD:Hid (∀(X:World) (a':Nat) (k n:Int),Fu w X l p cap ao mb mo cp a' o be->Calls Tryz.prog 115 #[.int .i64 k,.int .i64 n] X fun e w'=>e=.returned (.agg #[.int .i64 (Pl.drv k n).1,.int .i64 n,.int .i64 0,.string ⟨#[]⟩])/\Fu w w' l p cap ao mb mo cp a' o be):=fun X a' k n hF =>
  (derived_any k n X).mono (by rintro e w' ⟨rfl,h1⟩;exact⟨rfl,hF.keep h1⟩)
 have KE:Hid (∀(X:World) (a':Nat) (m n:Int),Fu w X l p cap ao mb mo cp a' o be->Calls Tryz.prog 117 #[.int .i64 m,.int .i64 n] X fun e w'=>e=.returned (.agg #[.int .i64 (Pl.drv2 m n).1,.int .i64 (Pl.drv2 m n).2.1,.int .i64 (Pl.drv2 m n).2.2,.string ⟨#[]⟩])/\Fu w w' l p cap ao mb mo cp a' o be):=fun X a' m n hF =>
  (derived2_any m n X).mono (by
   rintro e w' ⟨rfl,h1⟩
   refine⟨?_,hF.keep h1⟩
   unfold Pl.drv2
   split <;> rfl)
 have field68':=field68
 generalize hQ:Pl.fuI l a=Q
 unfold Pl.fuI at hQ
 simp only at hQ
 have N0:=zH (KN.out _ a F0.out oM)
 clear hE hP
 generalize Pl.tkAt l a=t at *
 generalize hT1:Pl.tkAt l (a+1)=t1 at *
 generalize hT2:Pl.tkAt l (a+1+1)=t2 at *
 have heq:(t.tx.toList == [64])=decide (t.tx=⟨#[64]⟩):=by
  have:=@ba_eq t.tx ⟨#[64]⟩
  rw[show (⟨#[64]⟩:ByteArray).toList=[64] from by rw[ByteArray.toList_eq]] at this
  exact this
 by_cases hk:t.k=3
 ·rw[if_pos hk] at hQ
  have HQ:=zH hQ
  rw[hk] at N0
  clear hQ KN KS KO KU KD KE
  go_enter Tryz.func103,Tryz.ntmps103
  go_wp2_with fail
  refine N0.out.mono ?_
  rintro e' w1 ⟨rfl,F1,hg1⟩
  clear hg1
  have FA:Hid (∀ob,Fu w (w1.alloc ob) l p cap ao mb mo cp (a+1) o be):=fun ob=>F1.keep ((Below.refl _ _).alloc (Nat.le_refl _) ob)
  have hl1:=F1.lt
  obtain⟨_,_,_,pw,lt,z0,z1,z2,z3,z4,z5,z6,z7,zf⟩:=F1
  have F1':Hid (Fu w w1 l p cap ao mb mo cp (a+1) o be):=⟨by assumption,by assumption,by assumption,pw,lt,z0,z1,z2,z3,z4,z5,z6,z7,zf⟩
  go_wp2_with fail
  refine bodyPost_ret (v:=.agg #[.int .i64 10,.int .i64 0,.int .i64 0,.string t.tx,.int .i64 10,.int .i64 0,.int .i64 0,.string t.tx]) (by simp[results,Tryz.results103,go_sem,z0,z1,z2,z3,z4,z5,z6,z7,lt]) rfl ⟨by rw[<- HQ.out];rfl,?_,?_⟩
  ·rw[<- HQ.out];exact(((F1'.out.end_ _ _ _ _ _ _ _ _).1).keep ((Below.refl _ _).alloc (Nat.le_refl _) _)).keep ((Below.refl _ _).alloc (Nat.le_refl _) _)
  exact(grown_alloc (grown_alloc (F1'.out.end_ _ _ _ _ _ _ _ _).2 _) _)
 have hkb:(t.k == 3)=false:=by simpa using hk
 rw[if_neg hk] at hQ
 by_cases h64:t.tx=⟨#[64]⟩
 ·rw[if_pos h64] at hQ
  rw[decide_eq_true h64] at heq
  have HQ:=zH hQ
  clear hQ KS KU KE
  go_enter Tryz.func103,Tryz.ntmps103
  go_wp2_with fail
  refine N0.out.mono ?_
  rintro e' w1 ⟨rfl,F1,hg1⟩
  clear hg1
  have FA:Hid (∀ob,Fu w (w1.alloc ob) l p cap ao mb mo cp (a+1) o be):=fun ob=>F1.keep ((Below.refl _ _).alloc (Nat.le_refl _) ob)
  have hl1:=F1.lt
  have K1:=zH (fun ob=>KN.out _ (a+1) (FA.out ob) oM)
  clear F1 KN
  go_wp2_with fail
  refine(K1.out _).mono ?_
  rintro e' w2 ⟨rfl,F2,hg2⟩
  rw[hT1]
  have K2:=zH (KO.out w2 _ t1.tx F2)
  have hfd:=field68 t1.k t1.v t1.tx
  clear hg2 K1 FA
  go_wp2_with fail
  refine K2.out.mono ?_
  rintro e' w3 ⟨rfl,F3,hb3⟩
  have K3:=zH (KD.out w3 _ 7 (Pl.opn t1.tx.data.toList) F3)
  clear hb3 K2 F2
  generalize Pl.opn t1.tx.data.toList=on1 at *
  go_wp2_with fail
  refine K3.out.mono ?_
  rintro e' w4 ⟨rfl,F4⟩
  have F4':=zH F4
  clear K3 F3
  obtain⟨_,_,_,pw,lt,z0,z1,z2,z3,z4,z5,z6,z7,zf⟩:=F4
  go_wp2_with fail
  refine bodyPost_ret (v:=.agg #[.int .i64 0,.int .i64 0,.int .i64 0,.string ⟨#[]⟩,.int .i64 (Pl.drv 7 on1).1,.int .i64 on1,.int .i64 0,.string ⟨#[]⟩]) uFui1 rfl ⟨by rw[<- HQ.out];rfl,?_,?_⟩
  ·rw[<- HQ.out];exact(F4'.out.end_ _ _ _ _ _ _ _ _).1
  exact(F4'.out.end_ _ _ _ _ _ _ _ _).2
 rw[if_neg h64] at hQ
 rw[decide_eq_false h64] at heq
 by_cases h47:t1.tx=⟨#[47]⟩
 ·rw[if_pos h47] at hQ
  have HQ:=zH hQ
  clear hQ KN KU KE
  go_enter Tryz.func103,Tryz.ntmps103
  go_wp2_with fail
  refine N0.out.mono ?_
  rintro e' w1 ⟨rfl,F1,hg1⟩
  clear hg1
  have FA:Hid (∀ob,Fu w (w1.alloc ob) l p cap ao mb mo cp (a+1) o be):=fun ob=>F1.keep ((Below.refl _ _).alloc (Nat.le_refl _) ob)
  have hl1:=F1.lt
  have K1:=zH (fun ob=>KO.out _ (a+1) t.tx (FA.out ob))
  have BT:Hid (∀w',Below (w1.alloc (.cells #[.int .i64 t.k,.string t.tx,.int .i64 t.v] 80)).heap.size (w1.alloc (.cells #[.int .i64 t.k,.string t.tx,.int .i64 t.v] 80)) w'->w'.cell? ⟨w1.heap.size,1,none⟩=some (.string t.tx)):=fun w' hb=>bcell hb sI (by simp[go_sem])
  clear F1
  go_wp2_with fail
  refine(K1.out _).mono ?_
  rintro e' w2 ⟨rfl,F2,hb2⟩
  have ct2:=BT.out w2 hb2
  have hs2:w1.heap.size<w2.heap.size:=by have:=hb2.size;simp at this;omega
  have K2:=zH (KS.out w2 _ ⟨#[47]⟩ F2 oM)
  rw[hT1] at K2
  clear hb2 BT K1 FA
  generalize Pl.opn t.tx.data.toList=on0 at *
  rw[decide_eq_true h47,if_pos h47] at K2
  go_wp2_with fail
  refine K2.out.mono ?_
  rintro e' w3 ⟨rfl,F3,hg3⟩
  have K3:=zH (KD.out w3 _ 3 on0 F3)
  clear hg3 K2 F2
  go_wp2_with fail
  refine K3.out.mono ?_
  rintro e' w4 ⟨rfl,F4⟩
  have F4':=zH F4
  clear K3 F3
  obtain⟨_,_,_,pw,lt,z0,z1,z2,z3,z4,z5,z6,z7,zf⟩:=F4
  go_wp2_with fail
  refine bodyPost_ret (v:=.agg #[.int .i64 (Pl.drv 3 on0).1,.int .i64 on0,.int .i64 0,.string ⟨#[]⟩,.int .i64 0,.int .i64 0,.int .i64 0,.string ⟨#[]⟩]) uFui1 rfl ⟨by rw[<- HQ.out];rfl,?_,?_⟩
  ·rw[<- HQ.out];exact(F4'.out.end_ _ _ _ _ _ _ _ _).1
  exact(F4'.out.end_ _ _ _ _ _ _ _ _).2
 rw[if_neg h47] at hQ
 by_cases h92:t1.tx=⟨#[92]⟩
 ·rw[if_pos h92] at hQ
  have HQ:=zH hQ
  clear hQ KN KU KE
  go_enter Tryz.func103,Tryz.ntmps103
  go_wp2_with fail
  refine N0.out.mono ?_
  rintro e' w1 ⟨rfl,F1,hg1⟩
  clear hg1
  have FA:Hid (∀ob,Fu w (w1.alloc ob) l p cap ao mb mo cp (a+1) o be):=fun ob=>F1.keep ((Below.refl _ _).alloc (Nat.le_refl _) ob)
  have hl1:=F1.lt
  have K1:=zH (fun ob=>KO.out _ (a+1) t.tx (FA.out ob))
  have BT:Hid (∀w',Below (w1.alloc (.cells #[.int .i64 t.k,.string t.tx,.int .i64 t.v] 80)).heap.size (w1.alloc (.cells #[.int .i64 t.k,.string t.tx,.int .i64 t.v] 80)) w'->w'.cell? ⟨w1.heap.size,1,none⟩=some (.string t.tx)):=fun w' hb=>bcell hb sI (by simp[go_sem])
  clear F1
  go_wp2_with fail
  refine(K1.out _).mono ?_
  rintro e' w2 ⟨rfl,F2,hb2⟩
  have ct2:=BT.out w2 hb2
  have hs2:w1.heap.size<w2.heap.size:=by have:=hb2.size;simp at this;omega
  have K2:=zH (KS.out w2 _ ⟨#[47]⟩ F2 oM)
  rw[hT1] at K2
  clear hb2 BT K1 FA
  generalize Pl.opn t.tx.data.toList=on0 at *
  rw[decide_eq_false h47,if_neg h47] at K2
  go_wp2_with fail
  refine K2.out.mono ?_
  rintro e' w3 ⟨rfl,F3,hg3⟩
  have ct3:=hg3.cell ct2 uFui2
  have hs3:w1.heap.size<w3.heap.size:=Nat.lt_of_lt_of_le hs2 hg3.size
  have K3:=zH (KS.out w3 _ ⟨#[92]⟩ F3 oM)
  rw[hT1] at K3
  clear hg3 K2 F2 ct2 hs2
  rw[decide_eq_true h92,if_pos h92] at K3
  go_wp2_with fail
  refine K3.out.mono ?_
  rintro e' w4 ⟨rfl,F4,hg4⟩
  have K4:=zH (KD.out w4 _ 4 on0 F4)
  clear hg4 K3 F3
  go_wp2_with fail
  refine K4.out.mono ?_
  rintro e' w5 ⟨rfl,F5⟩
  have F5':=zH F5
  clear K4 F4
  obtain⟨_,_,_,pw,lt,z0,z1,z2,z3,z4,z5,z6,z7,zf⟩:=F5
  go_wp2_with fail
  refine bodyPost_ret (v:=.agg #[.int .i64 (Pl.drv 4 on0).1,.int .i64 on0,.int .i64 0,.string ⟨#[]⟩,.int .i64 0,.int .i64 0,.int .i64 0,.string ⟨#[]⟩]) uFui1 rfl ⟨by rw[<- HQ.out];rfl,?_,?_⟩
  ·rw[<- HQ.out];exact(F5'.out.end_ _ _ _ _ _ _ _ _).1
  exact(F5'.out.end_ _ _ _ _ _ _ _ _).2
 rw[if_neg h92] at hQ
 by_cases h46:t1.tx=⟨#[46]⟩
 ·rw[if_pos h46] at hQ
  have HQ:=zH hQ
  clear hQ KU
  go_enter Tryz.func103,Tryz.ntmps103
  go_wp2_with fail
  refine N0.out.mono ?_
  rintro e' w1 ⟨rfl,F1,hg1⟩
  clear hg1
  have FA:Hid (∀ob,Fu w (w1.alloc ob) l p cap ao mb mo cp (a+1) o be):=fun ob=>F1.keep ((Below.refl _ _).alloc (Nat.le_refl _) ob)
  have hl1:=F1.lt
  have K1:=zH (fun ob=>KO.out _ (a+1) t.tx (FA.out ob))
  have BT:Hid (∀w',Below (w1.alloc (.cells #[.int .i64 t.k,.string t.tx,.int .i64 t.v] 80)).heap.size (w1.alloc (.cells #[.int .i64 t.k,.string t.tx,.int .i64 t.v] 80)) w'->w'.cell? ⟨w1.heap.size,1,none⟩=some (.string t.tx)):=fun w' hb=>bcell hb sI (by simp[go_sem])
  clear F1
  go_wp2_with fail
  refine(K1.out _).mono ?_
  rintro e' w2 ⟨rfl,F2,hb2⟩
  have ct2:=BT.out w2 hb2
  have hs2:w1.heap.size<w2.heap.size:=by have:=hb2.size;simp at this;omega
  have K2:=zH (KS.out w2 _ ⟨#[47]⟩ F2 oM)
  rw[hT1] at K2
  clear hb2 BT K1 FA
  generalize Pl.opn t.tx.data.toList=on0 at *
  rw[decide_eq_false h47,if_neg h47] at K2
  go_wp2_with fail
  refine K2.out.mono ?_
  rintro e' w3 ⟨rfl,F3,hg3⟩
  have ct3:=hg3.cell ct2 uFui2
  have hs3:w1.heap.size<w3.heap.size:=Nat.lt_of_lt_of_le hs2 hg3.size
  have K3:=zH (KS.out w3 _ ⟨#[92]⟩ F3 oM)
  rw[hT1] at K3
  clear hg3 K2 F2 ct2 hs2
  rw[decide_eq_false h92,if_neg h92] at K3
  go_wp2_with fail
  refine K3.out.mono ?_
  rintro e' w4 ⟨rfl,F4,hg4⟩
  have ct4:=hg4.cell ct3 (by show some w1.heap.size ≠ some p;have:=F4.pw;simp;omega)
  have hs4:w1.heap.size<w4.heap.size:=Nat.lt_of_lt_of_le hs3 hg4.size
  have K4:=zH (KS.out w4 _ ⟨#[46]⟩ F4 oM)
  rw[hT1] at K4
  clear hg4 K3 F3 ct3 hs3
  rw[decide_eq_true h46,if_pos h46] at K4
  go_wp2_with fail
  refine K4.out.mono ?_
  rintro e' w5 ⟨rfl,F5,hg5⟩
  have K5:=zH (KN.out w5 _ F5 oM)
  rw[hT2] at K5
  clear hg5 K4 F4
  go_wp2_with fail
  refine K5.out.mono ?_
  rintro e' w6 ⟨rfl,F6,hg6⟩
  have K6:=zH (KO.out w6 _ t2.tx F6)
  have hfd:=field68 t2.k t2.v t2.tx
  clear hg6 K5 F5
  go_wp2_with fail
  refine K6.out.mono ?_
  rintro e' w7 ⟨rfl,F7,hb7⟩
  have K7:=zH (KE.out w7 _ on0 (Pl.opn t2.tx.data.toList) F7)
  clear hb7 K6 F6
  generalize Pl.opn t2.tx.data.toList=on2 at *
  go_wp2_with fail
  refine K7.out.mono ?_
  rintro e' w8 ⟨rfl,F8⟩
  have F8':=zH F8
  clear K7 F7
  obtain⟨_,_,_,pw,lt,z0,z1,z2,z3,z4,z5,z6,z7,zf⟩:=F8
  go_wp2_with fail
  refine bodyPost_ret (v:=.agg #[.int .i64 0,.int .i64 0,.int .i64 0,.string ⟨#[]⟩,.int .i64 (Pl.drv2 on0 on2).1,.int .i64 (Pl.drv2 on0 on2).2.1,.int .i64 (Pl.drv2 on0 on2).2.2,.string ⟨#[]⟩]) uFui1 rfl ⟨by rw[<- HQ.out];rfl,?_,?_⟩
  ·rw[<- HQ.out];exact(F8'.out.end_ _ _ _ _ _ _ _ _).1
  exact(F8'.out.end_ _ _ _ _ _ _ _ _).2
 rw[if_neg h46] at hQ
 cases hrow:Pl.rowOf t.tx.data.toList with
 |none =>
  rw[hrow] at hQ
  simp only at hQ
  have HQ:=zH hQ
  have hus:=usV_none hrow
  clear hQ KN KD KE
  go_enter Tryz.func103,Tryz.ntmps103
  go_wp2_with fail
  refine N0.out.mono ?_
  rintro e' w1 ⟨rfl,F1,hg1⟩
  clear hg1
  have FA:Hid (∀ob,Fu w (w1.alloc ob) l p cap ao mb mo cp (a+1) o be):=fun ob=>F1.keep ((Below.refl _ _).alloc (Nat.le_refl _) ob)
  have hl1:=F1.lt
  have K1:=zH (fun ob=>KO.out _ (a+1) t.tx (FA.out ob))
  have BT:Hid (∀w',Below (w1.alloc (.cells #[.int .i64 t.k,.string t.tx,.int .i64 t.v] 80)).heap.size (w1.alloc (.cells #[.int .i64 t.k,.string t.tx,.int .i64 t.v] 80)) w'->w'.cell? ⟨w1.heap.size,1,none⟩=some (.string t.tx)):=fun w' hb=>bcell hb sI (by simp[go_sem])
  clear F1
  go_wp2_with fail
  refine(K1.out _).mono ?_
  rintro e' w2 ⟨rfl,F2,hb2⟩
  have ct2:=BT.out w2 hb2
  have hs2:w1.heap.size<w2.heap.size:=by have:=hb2.size;simp at this;omega
  have K2:=zH (KS.out w2 _ ⟨#[47]⟩ F2 oM)
  rw[hT1] at K2
  clear hb2 BT K1 FA
  generalize Pl.opn t.tx.data.toList=on0 at *
  rw[decide_eq_false h47,if_neg h47] at K2
  go_wp2_with fail
  refine K2.out.mono ?_
  rintro e' w3 ⟨rfl,F3,hg3⟩
  have ct3:=hg3.cell ct2 uFui2
  have hs3:w1.heap.size<w3.heap.size:=Nat.lt_of_lt_of_le hs2 hg3.size
  have K3:=zH (KS.out w3 _ ⟨#[92]⟩ F3 oM)
  rw[hT1] at K3
  clear hg3 K2 F2 ct2 hs2
  rw[decide_eq_false h92,if_neg h92] at K3
  go_wp2_with fail
  refine K3.out.mono ?_
  rintro e' w4 ⟨rfl,F4,hg4⟩
  have ct4:=hg4.cell ct3 (by show some w1.heap.size ≠ some p;have:=F4.pw;simp;omega)
  have hs4:w1.heap.size<w4.heap.size:=Nat.lt_of_lt_of_le hs3 hg4.size
  have K4:=zH (KS.out w4 _ ⟨#[46]⟩ F4 oM)
  rw[hT1] at K4
  clear hg4 K3 F3 ct3 hs3
  rw[decide_eq_false h46,if_neg h46] at K4
  go_wp2_with fail
  refine K4.out.mono ?_
  rintro e' w5 ⟨rfl,F5,hg5⟩
  have ct5:=hg5.cell ct4 (by show some w1.heap.size ≠ some p;have:=F5.pw;simp;omega)
  have hs5:w1.heap.size<w5.heap.size:=Nat.lt_of_lt_of_le hs4 hg5.size
  have K5:=zH (KU.out w5 _ t.tx F5)
  rw[hus] at K5
  clear hg5 K4 F4 ct4 hs4 hus hrow
  go_wp2_with fail
  refine K5.out.mono ?_
  rintro e' w6 ⟨rfl,F6⟩
  have F6':=zH F6
  clear K5 F5
  obtain⟨_,_,_,pw,lt,z0,z1,z2,z3,z4,z5,z6,z7,zf⟩:=F6
  go_wp2_with fail
  refine bodyPost_ret (v:=.agg #[.int .i64 0,.int .i64 0,.int .i64 0,.string ⟨#[]⟩,.int .i64 0,.int .i64 0,.int .i64 0,.string ⟨#[]⟩]) uFui1 rfl ⟨by rw[<- HQ.out];rfl,?_,?_⟩
  ·rw[<- HQ.out];exact(F6'.out.end_ _ _ _ _ _ _ _ _).1
  exact(F6'.out.end_ _ _ _ _ _ _ _ _).2
 |some m =>
  rw[hrow] at hQ
  simp only at hQ
  have HQ:=zH hQ
  have hus:=usV_some hrow
  clear hQ KN KD KE
  go_enter Tryz.func103,Tryz.ntmps103
  go_wp2_with fail
  refine N0.out.mono ?_
  rintro e' w1 ⟨rfl,F1,hg1⟩
  clear hg1
  have FA:Hid (∀ob,Fu w (w1.alloc ob) l p cap ao mb mo cp (a+1) o be):=fun ob=>F1.keep ((Below.refl _ _).alloc (Nat.le_refl _) ob)
  have hl1:=F1.lt
  have K1:=zH (fun ob=>KO.out _ (a+1) t.tx (FA.out ob))
  have BT:Hid (∀w',Below (w1.alloc (.cells #[.int .i64 t.k,.string t.tx,.int .i64 t.v] 80)).heap.size (w1.alloc (.cells #[.int .i64 t.k,.string t.tx,.int .i64 t.v] 80)) w'->w'.cell? ⟨w1.heap.size,1,none⟩=some (.string t.tx)):=fun w' hb=>bcell hb sI (by simp[go_sem])
  clear F1
  go_wp2_with fail
  refine(K1.out _).mono ?_
  rintro e' w2 ⟨rfl,F2,hb2⟩
  have ct2:=BT.out w2 hb2
  have hs2:w1.heap.size<w2.heap.size:=by have:=hb2.size;simp at this;omega
  have K2:=zH (KS.out w2 _ ⟨#[47]⟩ F2 oM)
  rw[hT1] at K2
  clear hb2 BT K1 FA
  generalize Pl.opn t.tx.data.toList=on0 at *
  rw[decide_eq_false h47,if_neg h47] at K2
  go_wp2_with fail
  refine K2.out.mono ?_
  rintro e' w3 ⟨rfl,F3,hg3⟩
  have ct3:=hg3.cell ct2 uFui2
  have hs3:w1.heap.size<w3.heap.size:=Nat.lt_of_lt_of_le hs2 hg3.size
  have K3:=zH (KS.out w3 _ ⟨#[92]⟩ F3 oM)
  rw[hT1] at K3
  clear hg3 K2 F2 ct2 hs2
  rw[decide_eq_false h92,if_neg h92] at K3
  go_wp2_with fail
  refine K3.out.mono ?_
  rintro e' w4 ⟨rfl,F4,hg4⟩
  have ct4:=hg4.cell ct3 (by show some w1.heap.size ≠ some p;have:=F4.pw;simp;omega)
  have hs4:w1.heap.size<w4.heap.size:=Nat.lt_of_lt_of_le hs3 hg4.size
  have K4:=zH (KS.out w4 _ ⟨#[46]⟩ F4 oM)
  rw[hT1] at K4
  clear hg4 K3 F3 ct3 hs3
  rw[decide_eq_false h46,if_neg h46] at K4
  go_wp2_with fail
  refine K4.out.mono ?_
  rintro e' w5 ⟨rfl,F5,hg5⟩
  have ct5:=hg5.cell ct4 (by show some w1.heap.size ≠ some p;have:=F5.pw;simp;omega)
  have hs5:w1.heap.size<w5.heap.size:=Nat.lt_of_lt_of_le hs4 hg5.size
  have K5:=zH (KU.out w5 _ t.tx F5)
  rw[hus] at K5
  clear hg5 K4 F4 ct4 hs4 hus hrow
  go_wp2_with fail
  refine K5.out.mono ?_
  rintro e' w6 ⟨rfl,F6⟩
  have F6':=zH F6
  clear K5 F5
  obtain⟨_,_,_,pw,lt,z0,z1,z2,z3,z4,z5,z6,z7,zf⟩:=F6
  go_wp2_with fail
  refine bodyPost_ret (v:=.agg #[.int .i64 m.ok,.int .i64 m.ow,.int .i64 0,.string ⟨#[]⟩,.int .i64 m.tk,.int .i64 m.tw,.int .i64 0,.string ⟨#[]⟩]) uFui1 rfl ⟨by rw[<- HQ.out];rfl,?_,?_⟩
  ·rw[<- HQ.out];exact(F6'.out.end_ _ _ _ _ _ _ _ _).1
  exact(F6'.out.end_ _ _ _ _ _ _ _ _).2
end Go.Proofs.YtbiiicbfpcfgdaaGreatDoor
