import Derived.Test.YtbiiicbfpcfgdaaGreatDoorNta
import Derived.Lib.FrozenHead2
import Derived.Lib.OthersKept
import Derived.Lib.BufferKept
import Derived.Lib.MakeNoZero
import Derived.Shelf.RegionOpenPlain
import Derived.Test.YtbiiicbfpcfgdaaGreatDoorPrP
namespace Go.Proofs.YtbiiicbfpcfgdaaGreatDoor
open Go.RowKit
set_option maxRecDepth 100000
set_option maxHeartbeats 16000000
set_option linter.unusedVariables false
theorem nodeTokens_one (s:Pl.Sv) (r:Pl.Nd Pl.Sv) (vr:Value) (mb mo cp:Nat) (w0 w:World) (he:Ev w0 mb mo cp) (hi:∃T p,vr=.iface T p) (hc:TkC w0 r vr) (base:Nat) (v0:Value) (l0:List (List UInt8)) (h:Tk w0 w base v0 l0) (hl:l0.length+(Pl.ftk s.fn++Pl.toks (Pl.fa Pl.nt) Pl.ff r).length<=100000000) :
  Calls Tryz.prog 94 #[v0,.iface 153 (.agg #[.int .i64 s.fn.k,.int .i64 s.fn.a,.int .i64 s.fn.b,.string (Pl.ba s.fn.nm),vr])] w (TokPost base l0 (Pl.ftk s.fn++Pl.toks (Pl.fa Pl.nt) Pl.ff r) w):=by
 obtain⟨T,p,rfl⟩:=hi
 have HT:=zH h
 have HC:Hid (∀(w:World) (base:Nat) (v0:Value) (l0:List (List UInt8)),Tk w0 w base v0 l0->l0.length+(Pl.toks (Pl.fa Pl.nt) Pl.ff r).length<=100000000->Calls Tryz.prog 94 #[v0,.iface T p] w (TokPost base l0 (Pl.toks (Pl.fa Pl.nt) Pl.ff r) w)):=hc
 obtain⟨xo,yo,rfl,hyo⟩:=owns_form h.ow
 have t1:=ta125_121 (.agg #[.int .i64 s.fn.k,.int .i64 s.fn.a,.int .i64 s.fn.b,.string (Pl.ba s.fn.nm),.iface T p])
 have t2:=ta125_123 (.agg #[.int .i64 s.fn.k,.int .i64 s.fn.a,.int .i64 s.fn.b,.string (Pl.ba s.fn.nm),.iface T p])
 have t3:=ta125_125 (.agg #[.int .i64 s.fn.k,.int .i64 s.fn.a,.int .i64 s.fn.b,.string (Pl.ba s.fn.nm),.iface T p])
 have HB:Hid (∀o,Below w.heap.size w (w.alloc o)):=fun o=>(Below.refl _ _).alloc (Nat.le_refl _) _
 have HK:Hid (∀o,(w.alloc o).heap[w.heap.size]? = some o):=fun o=>heap_alloc_new w o
 have KF:Hid (∀o,Calls Tryz.prog 111 #[.agg #[.int .i64 s.fn.k,.int .i64 s.fn.a,.int .i64 s.fn.b,.string (Pl.ba s.fn.nm)]] (w.alloc o) (FnkPost (Pl.ftk s.fn) (w.alloc o))):=fun o=>fnTokens_any s.fn mb mo cp (w.alloc o) (he.keep (HT.out.keep (HB.out o)).hw).mt
 rw[List.length_append] at hl
 have L1:Hid (l0.length+(Pl.ftk s.fn).length<=4000000000):=by show _<=_;omega
 have L2:Hid ((l0++Pl.ftk s.fn).length+(Pl.toks (Pl.fa Pl.nt) Pl.ff r).length<=100000000/\(l0++Pl.ftk s.fn).length<=100000000):=by rw[List.length_append];exact⟨by omega,by omega⟩
 clear he hc hl h
 generalize Pl.toks (Pl.fa Pl.nt) Pl.ff r=L at *
 generalize hF:Pl.ftk s.fn=F at *
 clear hF
 generalize Pl.ba s.fn.nm=fnm at *
 generalize s.fn.k=fk at *
 generalize s.fn.a=fa at *
 generalize s.fn.b=fb at *
 go_enter Tryz.func94,Tryz.ntmps94
 go_wp2_with fail
 refine(KF.out _).mono ?_
 rintro e w1 ⟨fb1,rfl,hcells,hb1,hf1,hf2⟩
 have H1:=zH ((HB.out _).trans (hb1.mono sI))
 have Q1:=zH (Ok9.of_below hb1)
 have HBLK:=zH (Q1.out.2 _ _ _ _ (HK.out _) (by decide))
 have O1:=zH (HT.out.keep H1.out).ow
 have z1:=(HT.out.keep H1.out).b1
 have CE:=zH hcells
 clear hcells hb1 hf1 hf2 KF
 generalize hFL:F.length=fl at *
 have HFL:=zH hFL
 clear hFL
 go_wp2_with (at_builtin;refine wpList_append9 (base:=base) w1 rfl (.tmp 39) (.tmp 42) rfl (.slice xo l0.length yo) (.slice (some ⟨fb1,0,none⟩) fl fl) rfl rfl l0 F fl fb1 fl HFL.out.symm rfl O1.out CE.out (by rw[HFL.out];exact L1.out) z1 ?_)
 intro v2 w2 h1 h2 h3
 have o2:w2.ownsRow base 9 1 v2 (l0++F).length ((l0++F).map tv):=by simpa using h1
 have B2:Hid (Below base w w2):=(H1.out.mono HT.out.b1).trans h2
 have Q2:Hid (Ok9 w w2):=(Ok9.of_below H1.out).trans h3
 have T2:=zH (HT.out.next o2 B2.out L2.out.2)
 have hcell:=Ok9.cell h3 HBLK.out (by decide) 4
 simp at hcell
 obtain⟨x2,y2,eo,hy2⟩:=owns_form o2
 subst eo
 have K:=zH (HC.out w2 base _ _ T2.out L2.out.1)
 have HE:Hid (∀e w',TokPost base (l0++F) L w2 e w'->TokPost base l0 (F++L) w e w'):=fun e w' hp=>hp.after B2.out Q2.out
 clear h1 h2 h3 o2 CE O1 HBLK T2 L2
 generalize l0++F=M at *
 go_wp2_with fail
 refine K.out.mono ?_
 rintro e w3 hp
 have H:=zH (HE.out _ _ hp)
 obtain⟨v',rfl,_⟩:=hp
 go_wp2_with fail
 go_ret
 exact H.out
theorem operandTokens_any (w0:World) (t:Pl.Nd Pl.Sv) (v:Value) (hn:Nsk t v) (hc:TkC w0 t v) (w:World) (base:Nat) (v0:Value) (l0:List (List UInt8)) (h:Tk w0 w base v0 l0) (hl:l0.length+(opT t).length<=100000000) :
  Calls Tryz.prog 112 #[v0,v] w (TokPost base l0 (opT t) w):=by
 obtain⟨T,p,fn,fb,rfl,m1,m2,e1,e2,k1,k2⟩:=hn
 have KB:=zH k2
 have HT:=zH h
 have HC:Hid (∀(w:World) (base:Nat) (v0:Value) (l0:List (List UInt8)),Tk w0 w base v0 l0->l0.length+(Pl.toks (Pl.fa Pl.nt) Pl.ff t).length<=100000000->Calls Tryz.prog 94 #[v0,.iface T p] w (TokPost base l0 (Pl.toks (Pl.fa Pl.nt) Pl.ff t) w)):=hc
 obtain⟨xo,yo,rfl,hyo⟩:=owns_form h.ow
 clear k1 k2 m1 e1 hc
 cases hb:Pl.bareN t
 rotate_left 1
 ·have HO:Hid (opT t=Pl.toks (Pl.fa Pl.nt) Pl.ff t):=by show _=_;unfold opT;rw[hb]
  rw[HO.out] at hl ⊢
  rw[hb] at KB
  have K:Hid (∀w1,Below w.heap.size w w1->Calls Tryz.prog 94 #[.slice xo l0.length yo,.iface T p] w1 (TokPost base l0 (Pl.toks (Pl.fa Pl.nt) Pl.ff t) w1)):=fun w1 hw1=>HC.out w1 base _ l0 (HT.out.keep hw1) hl
  have HEND:Hid (∀w1 e w',Below w.heap.size w w1->TokPost base l0 (Pl.toks (Pl.fa Pl.nt) Pl.ff t) w1 e w'->TokPost base l0 (Pl.toks (Pl.fa Pl.nt) Pl.ff t) w e w'):=fun w1 e w' hw1 h2=>by
   have:=TokPost.after (a:=[]) (by rw[List.append_nil];exact h2) (hw1.mono HT.out.b1) (Ok9.of_below hw1)
   exact this
  clear hb hl HO h HC
  generalize Pl.toks (Pl.fa Pl.nt) Pl.ff t=L at *
  go_enter Tryz.func112,Tryz.ntmps112
  go_wp2_with fail
  refine(KB.out _).mono ?_
  rintro e w1 ⟨rfl,hb1⟩
  have H1:=zH hb1
  clear hb1
  go_wp2_with fail
  refine(K.out _ H1.out).mono ?_
  rintro e w2 h2
  have H:=zH (HEND.out _ _ _ H1.out h2)
  obtain⟨v',rfl,_⟩:=h2
  go_wp2_with fail
  go_ret
  exact H.out
 have HO:Hid (opT t=[40]::(Pl.toks (Pl.fa Pl.nt) Pl.ff t++[[41]])):=by show _=_;unfold opT;rw[hb]
 rw[HO.out] at hl ⊢
 rw[hb] at KB
 have HA:Hid (∀(w1:World),Below w.heap.size w w1->∀ob,(w1.alloc ob).ownsRow base 9 1 (.slice xo l0.length yo) l0.length (l0.map tv)/\base<=(w1.alloc ob).heap.size/\Below w.heap.size w (w1.alloc ob)):=fun w1 hw1 ob=>⟨((HT.out.keep hw1).keep ((Below.refl _ _).alloc (Nat.le_refl _) ob)).ow,((HT.out.keep hw1).keep ((Below.refl _ _).alloc (Nat.le_refl _) ob)).b1,hw1.alloc hw1.size ob⟩
 have HCX:Hid (∀(c:UInt8) (w2:World) (j:Nat) (t:List UInt8),([[c]]:List (List UInt8))[j]? = some t->(w2.alloc (.cells #[.string ⟨#[c]⟩] 9)).cell? ⟨w2.heap.size,j,none⟩=some (.string (Pl.ba t))):=fun c w2 j t hj=>by
  match j,hj with
  |0,hj=>simp at hj;subst hj;simp[go_sem];rfl
  |j+1,hj=>simp at hj
 simp only[List.length_cons,List.length_append,List.length_nil] at hl
 have L1:Hid (l0.length+([[40]]:List (List UInt8)).length<=4000000000):=by show _<=_;simp;omega
 have L2:Hid ((l0++[[40]]).length+(Pl.toks (Pl.fa Pl.nt) Pl.ff t).length<=100000000/\(l0++[[40]]).length<=100000000):=by refine⟨?_,?_⟩ <;> simp <;> omega
 have L3:Hid (((l0++[[40]])++Pl.toks (Pl.fa Pl.nt) Pl.ff t).length+([[41]]:List (List UInt8)).length<=4000000000):=by show _<=_;simp;omega
 have HEND:Hid (∀w3 e w',Below base w w3->Ok9 w w3->TokPost base ((l0++[[40]])++Pl.toks (Pl.fa Pl.nt) Pl.ff t) [[41]] w3 e w'->TokPost base l0 ([40]::(Pl.toks (Pl.fa Pl.nt) Pl.ff t++[[41]])) w e w'):=fun w3 e w' h1 h2 h3=>by
  rw[List.append_assoc] at h3
  have:=h3.after h1 h2
  simpa using this
 clear hb hl HO h
 generalize Pl.toks (Pl.fa Pl.nt) Pl.ff t=L at *
 go_enter Tryz.func112,Tryz.ntmps112
 go_wp2_with fail
 refine(KB.out _).mono ?_
 rintro e w1 ⟨rfl,hb1⟩
 have H1:=zH hb1
 clear hb1
 go_wp2_with (at_builtin;refine wpList_append9 (base:=base) _ rfl (.tmp 10) (.tmp 11) rfl (.slice xo l0.length yo) (.slice (some ⟨w1.heap.size,0,none⟩) 1 1) rfl rfl l0 [[40]] 1 w1.heap.size 1 rfl rfl (HA.out _ H1.out _).1 (HCX.out 40 _) L1.out (HA.out _ H1.out _).2.1 ?_)
 intro v1 w2 h1 h2 h3
 have o1:w2.ownsRow base 9 1 v1 (l0++[[40]]).length ((l0++[[40]]).map tv):=by simpa using h1
 have B2:Hid (Below base w w2):=((HA.out _ H1.out _).2.2.mono HT.out.b1).trans h2
 have Q2:Hid (Ok9 w w2):=(Ok9.of_below (HA.out _ H1.out _).2.2).trans h3
 have T2:=zH (HT.out.next o1 B2.out L2.out.2)
 obtain⟨x2,y2,eo,hy2⟩:=owns_form o1
 subst eo
 have K:=zH (HC.out w2 base _ _ T2.out L2.out.1)
 clear h1 h2 h3 o1 HA H1 T2 L2
 generalize l0++[[40]]=M1 at *
 go_wp2_with fail
 refine K.out.mono ?_
 rintro e w3 ⟨v3,rfl,o3,b3,q3⟩
 obtain⟨x3,y3,eo,hy3⟩:=owns_form o3
 subst eo
 have B3:=zH (B2.out.trans b3)
 have Q3:=zH (Q2.out.trans q3)
 have hz3:base<=w3.heap.size:=Nat.le_trans HT.out.b1 B3.out.size
 have AL:Hid (∀ob,Below w3.heap.size w3 (w3.alloc ob)):=fun ob=>(Below.refl _ _).alloc (Nat.le_refl _) ob
 have O3:Hid (∀ob,(w3.alloc ob).ownsRow base 9 1 (.slice x3 (M1++L).length y3) (M1++L).length ((M1++L).map tv)/\base<=(w3.alloc ob).heap.size):=fun ob=>⟨owns_keep o3 (AL.out ob),by simp;omega⟩
 have HE:=zH (fun e w'=>HEND.out w3 e w' B3.out Q3.out)
 clear o3 b3 q3 HEND B2 Q2 K
 generalize M1++L=M at *
 go_wp2_with (at_builtin;refine wpList_append9 (base:=base) _ rfl (.tmp 14) (.tmp 15) rfl (.slice x3 M.length y3) (.slice (some ⟨w3.heap.size,0,none⟩) 1 1) rfl rfl M [[41]] 1 w3.heap.size 1 rfl rfl (O3.out _).1 (HCX.out 41 _) L3.out (O3.out _).2 ?_)
 intro v4 w4 h1 h2 h3
 have H:=zH (HE.out (.returned v4) w4 ⟨v4,rfl,by simpa using h1,((AL.out _).mono hz3).trans h2,(Ok9.of_below (AL.out _)).trans h3⟩)
 clear h1 h2 h3
 go_wp2_with fail
 go_ret
 exact H.out
theorem nodeTokens_two (s:Pl.Sv) (l r:Pl.Nd Pl.Sv) (vl vr:Value) (mb mo cp:Nat) (w0 w:World) (he:Ev w0 mb mo cp) (hn:Nsk l vl) (hi:∃T p,vr=.iface T p) (hcl:TkC w0 l vl) (hcr:TkC w0 r vr) (base:Nat) (v0:Value) (l0:List (List UInt8)) (h:Tk w0 w base v0 l0) (hl:l0.length+(opT l++(Pl.ftk s.fn++Pl.toks (Pl.fa Pl.nt) Pl.ff r)).length<=100000000) :
  Calls Tryz.prog 94 #[v0,.iface 155 (.agg #[vl,.int .i64 s.fn.k,.int .i64 s.fn.a,.int .i64 s.fn.b,.string (Pl.ba s.fn.nm),vr])] w (TokPost base l0 (opT l++(Pl.ftk s.fn++Pl.toks (Pl.fa Pl.nt) Pl.ff r)) w):=by
 obtain⟨T,p,rfl⟩:=hi
 have hnl:∃T p,vl=.iface T p:=by obtain⟨T,p,_,_,h,_⟩:=hn;exact⟨T,p,h⟩
 have HT:=zH h
 have HC:Hid (∀(w:World) (base:Nat) (v0:Value) (l0:List (List UInt8)),Tk w0 w base v0 l0->l0.length+(Pl.toks (Pl.fa Pl.nt) Pl.ff r).length<=100000000->Calls Tryz.prog 94 #[v0,.iface T p] w (TokPost base l0 (Pl.toks (Pl.fa Pl.nt) Pl.ff r) w)):=hcr
 rw[List.length_append,List.length_append] at hl
 have KO:Hid (∀o,Calls Tryz.prog 112 #[v0,vl] (w.alloc o) (TokPost base l0 (opT l) (w.alloc o))):=fun o=>operandTokens_any w0 l vl hn hcl (w.alloc o) base v0 l0 (HT.out.keep ((Below.refl _ _).alloc (Nat.le_refl _) o)) oM
 obtain⟨Tl,pl,rfl⟩:=hnl
 obtain⟨xo,yo,rfl,hyo⟩:=owns_form h.ow
 have t1:=ta128_121 (.agg #[.iface Tl pl,.int .i64 s.fn.k,.int .i64 s.fn.a,.int .i64 s.fn.b,.string (Pl.ba s.fn.nm),.iface T p])
 have t2:=ta128_123 (.agg #[.iface Tl pl,.int .i64 s.fn.k,.int .i64 s.fn.a,.int .i64 s.fn.b,.string (Pl.ba s.fn.nm),.iface T p])
 have t3:=ta128_125 (.agg #[.iface Tl pl,.int .i64 s.fn.k,.int .i64 s.fn.a,.int .i64 s.fn.b,.string (Pl.ba s.fn.nm),.iface T p])
 have t4:=ta128_128 (.agg #[.iface Tl pl,.int .i64 s.fn.k,.int .i64 s.fn.a,.int .i64 s.fn.b,.string (Pl.ba s.fn.nm),.iface T p])
 have HB:Hid (∀o,Below w.heap.size w (w.alloc o)):=fun o=>(Below.refl _ _).alloc (Nat.le_refl _) _
 have HK:Hid (∀o,(w.alloc o).heap[w.heap.size]? = some o):=fun o=>heap_alloc_new w o
 have KF:Hid (∀w',Below w0.heap.size w0 w'->Calls Tryz.prog 111 #[.agg #[.int .i64 s.fn.k,.int .i64 s.fn.a,.int .i64 s.fn.b,.string (Pl.ba s.fn.nm)]] w' (FnkPost (Pl.ftk s.fn) w')):=fun w' h=>fnTokens_any s.fn mb mo cp w' (he.keep h).mt
 have L1:Hid ((l0++opT l).length+(Pl.ftk s.fn).length<=4000000000/\(l0++opT l).length<=100000000):=by rw[List.length_append];exact⟨by omega,by omega⟩
 have L2:Hid (((l0++opT l)++Pl.ftk s.fn).length+(Pl.toks (Pl.fa Pl.nt) Pl.ff r).length<=100000000/\((l0++opT l)++Pl.ftk s.fn).length<=100000000):=by rw[List.length_append,List.length_append];exact⟨by omega,by omega⟩
 have HEND:Hid (∀w2 e w',Below base w w2->Ok9 w w2->TokPost base ((l0++opT l)++Pl.ftk s.fn) (Pl.toks (Pl.fa Pl.nt) Pl.ff r) w2 e w'->TokPost base l0 (opT l++(Pl.ftk s.fn++Pl.toks (Pl.fa Pl.nt) Pl.ff r)) w e w'):=fun w2 e w' h1 h2 h3=>by
  rw[List.append_assoc] at h3
  have:=h3.after h1 h2
  rw[List.append_assoc] at this
  exact this
 clear he hcl hcr hl h hn
 generalize Pl.toks (Pl.fa Pl.nt) Pl.ff r=L at *
 generalize opT l=OL at *
 generalize hF:Pl.ftk s.fn=F at *
 clear hF
 generalize Pl.ba s.fn.nm=fnm at *
 generalize s.fn.k=fk at *
 generalize s.fn.a=fa at *
 generalize s.fn.b=fb at *
 go_enter Tryz.func94,Tryz.ntmps94
 go_wp2_with fail
 refine(KO.out _).mono ?_
 rintro e w1 ⟨v1,rfl,o1,b1,q1⟩
 have B1:Hid (Below base w w1):=((HB.out _).mono HT.out.b1).trans b1
 have Q1:Hid (Ok9 w w1):=(Ok9.of_below (HB.out _)).trans q1
 have HBLK:=zH (q1.2 _ _ _ _ (HK.out _) (by decide))
 have T1:=zH (HT.out.next o1 B1.out L1.out.2)
 have c1:=cell_blk HBLK.out 1
 have c2:=cell_blk HBLK.out 2
 have c3:=cell_blk HBLK.out 3
 have c4:=cell_blk HBLK.out 4
 simp at c1 c2 c3 c4
 obtain⟨x1,y1,eo,hy1⟩:=owns_form o1
 subst eo
 clear o1 b1 q1 KO
 generalize l0++OL=M at *
 go_wp2_with fail
 refine(KF.out _ T1.out.hw).mono ?_
 rintro e w2 ⟨fb1,rfl,hcells,hb2,hf1,hf2⟩
 have Q2:=zH (Ok9.of_below hb2)
 have HBK2:=zH (Q2.out.2 _ _ _ _ HBLK.out (by decide))
 have T2:=zH (T1.out.keep hb2)
 have B2:=zH (B1.out.trans (hb2.mono T1.out.b1))
 have CE:=zH hcells
 have z2:=T2.out.b1
 clear hcells hb2 hf1 hf2 KF c1 c2 c3 c4 HBLK
 generalize hFL:F.length=fl at *
 have HFL:=zH hFL
 clear hFL
 go_wp2_with (at_builtin;refine wpList_append9 (base:=base) w2 rfl (.tmp 55) (.tmp 58) rfl (.slice x1 M.length y1) (.slice (some ⟨fb1,0,none⟩) fl fl) rfl rfl M F fl fb1 fl HFL.out.symm rfl T2.out.ow CE.out (by rw[HFL.out];exact L1.out.1) z2 ?_)
 intro v3 w3 h1 h2 h3
 have o3:w3.ownsRow base 9 1 v3 (M++F).length ((M++F).map tv):=by simpa using h1
 have B3:Hid (Below base w w3):=B2.out.trans h2
 have Q3:Hid (Ok9 w w3):=(Q1.out.trans Q2.out).trans h3
 have T3:=zH (T2.out.next o3 h2 L2.out.2)
 have hcell:=Ok9.cell h3 HBK2.out (by decide) 5
 simp at hcell
 obtain⟨x3,y3,eo,hy3⟩:=owns_form o3
 subst eo
 have K:=zH (HC.out w3 base _ _ T3.out L2.out.1)
 have HE:=zH (fun e w'=>HEND.out w3 e w' B3.out Q3.out)
 clear h1 h2 h3 o3 CE HBK2 HEND T3 L2
 generalize M++F=M2 at *
 go_wp2_with fail
 refine K.out.mono ?_
 rintro e w4 hp
 have H:=zH (HE.out _ _ hp)
 obtain⟨v',rfl,_⟩:=hp
 go_wp2_with fail
 go_ret
 exact H.out
theorem nodeTokens_any (mb mo cp:Nat) (w0:World) (he:Ev w0 mb mo cp):∀(t:Pl.Nd Pl.Sv) (v:Value),NdV w0.heap.size w0 t v->t.post.length<=1048576->(∀s∈t.post,Pl.sok s=true)->TkC w0 t v:=by
 intro t
 induction t with
 |«at» s =>
  intro v hv hl hs
  have hsok:=hs s (by simp[Pl.Nd.post])
  rcases hv with ⟨hk,an,cn,rfl,hr⟩|⟨hk,rfl⟩
  ·intro w base v0 l0 h _
   have e:Pl.toks (Pl.fa Pl.nt) Pl.ff (.at s)=s.nums.map Pl.nt:=by simp[Pl.toks,Pl.fa,hk]
   rw[e]
   exact nodeTokens_nums s an cn mb mo cp w0 w he hr (Pl.sok_nums hsok hk).1 (Pl.sok_nums hsok hk).2 base v0 l0 h
  intro w base v0 l0 h _
  have e:Pl.toks (Pl.fa Pl.nt) Pl.ff (.at s)=[s.nm]:=by simp[Pl.toks,Pl.fa,hk]
  rw[e]
  exact nodeTokens_name s w0 w base v0 l0 h
 |one s r ih =>
  intro v hv hl hs
  obtain⟨vr,rfl,hr⟩:=hv
  simp only[Pl.Nd.post,List.length_append,List.length_cons,List.length_nil] at hl
  intro w base v0 l0 h hb
  exact nodeTokens_one s r vr mb mo cp w0 w he hr.iface (ih vr hr oM (fun x hx=>hs x (by simp[Pl.Nd.post,hx]))) base v0 l0 h hb
 |two s l r il ir =>
  intro v hv hl hs
  obtain⟨vl,vr,rfl,hvl,hvr⟩:=hv
  simp only[Pl.Nd.post,List.length_append,List.length_cons,List.length_nil] at hl
  intro w base v0 l0 h hb
  exact nodeTokens_two s l r vl vr mb mo cp w0 w he (hvl.nsk oM) hvr.iface (il vl hvl oM (fun x hx=>hs x (by simp[Pl.Nd.post,hx]))) (ir vr hvr oM (fun x hx=>hs x (by simp[Pl.Nd.post,hx]))) base v0 l0 h hb
theorem Tryz.size56:(Tryz.prog.info? 98).map (·.size)=some 2:=by kernel_rfl
theorem Tryz.lies56:liesAt Tryz.prog Tryz.prog.depth 98 (2 / Tryz.prog.cellsOf 98) 0 98 1=true:=by kernel_rfl
theorem Tryz.cells5:Tryz.prog.cellsOf 5=1:=by kernel_rfl
theorem Tryz.info5':(Tryz.prog.info? 5).map (fun i=>(i.zero,i.size,i.bytes))=some (some (.int .u8 0),1,1):=by kernel_rfl
theorem copy_fresh (b:Nat) (w:World) (h0:w.cell? ⟨b,0,none⟩=some (.pointer none)) (hsh:w.shape? b=some (98,2)) (hfz:w.frozen? ⟨b,0,none⟩=false) :
  Calls Tryz.prog 77 #[.pointer (some ⟨b,0,none⟩)] w fun e w'=>e=.returned (.tuple #[])/\w'=w.setCell ⟨b,0,none⟩ (.pointer (some ⟨b,0,none⟩)):=by
 obtain⟨j,hj,hjs⟩:=Option.map_eq_some_iff.1 Tryz.size56
 go_enter Tryz.func77,Tryz.ntmps77
 go_wp2
 rw[Lib.run_to_unsafe w ⟨b,0,none⟩ Tryz.underlying96 Tryz.underlying143 hj (by rw[hjs];decide) hsh (Nat.zero_lt_succ 1)]
 simp only[Result.andThen]
 rw[Oper.upon_value]
 go_wp2
 rw[run_callFunc_extern Tryz.func95 kR kR kR (e:=Extern.AbiNoEscape.same) kR]
 rw[Lib.run_noEscape]
 simp only[Result.andThen]
 rw[Oper.upon_value]
 go_wp2
 rw[Lib.run_from_unsafe w ⟨b,0,none⟩ Tryz.underlying143 Tryz.underlying96 hj hsh Tryz.lies56]
 simp only[Result.andThen]
 rw[Oper.upon_value]
 go_wp2
 go_end0
 exact⟨rfl,rfl⟩
theorem copy_used (b:Nat) (w:World) (h0:w.cell? ⟨b,0,none⟩=some (.pointer (some ⟨b,0,none⟩))) :
  Calls Tryz.prog 77 #[.pointer (some ⟨b,0,none⟩)] w fun e w'=>e=.returned (.tuple #[])/\w'=w:=by
 obtain⟨j,hj,_⟩:=Option.map_eq_some_iff.1 Tryz.size56
 go_enter Tryz.func77,Tryz.ntmps77
 go_wp2
 rw[Lib.run_neq_ptr_same w _ Tryz.underlying96 hj]
 go_wp2
 go_end0
 exact⟨rfl,rfl⟩
theorem copy_any (B b:Nat) (bs:List Value) (w:World) (h:Lib.IsBuilderF 98 5 B b bs w) :
  Calls Tryz.prog 77 #[.pointer (some ⟨b,0,none⟩)] w fun e w'=>e=.returned (.tuple #[])/\(Lib.BuilderAtF 98 5 B b (.pointer (some ⟨b,0,none⟩)) bs w'/\Below B w w'/\Lib.OthersKept 5 (some b) w w'):=by
 rcases h with h|h
 ·refine(copy_fresh b w h.cell0 h.shape h.frozen0).mono ?_
  rintro e w' ⟨rfl,rfl⟩
  exact⟨rfl,h.used _,(Below.refl B w).setCell (p:=⟨b,0,none⟩) h.1 _,(Lib.OthersKept.refl _ _ w).setCell ⟨b,0,none⟩ rfl _⟩
 refine(copy_used b w h.cell0).mono ?_
 rintro e w' ⟨rfl,rfl⟩
 exact⟨rfl,h,Below.refl B _,Lib.OthersKept.refl _ _ _⟩
theorem writeByte_any (B b:Nat) (bs:List Value) (c:Int) (w:World) (h:Lib.IsBuilderF 98 5 B b bs w) (hlen:bs.length+1<=140737488355328) (hBw:B<=w.heap.size) :
  Calls Tryz.prog 48 #[.pointer (some ⟨b,0,none⟩),.int .u8 c] w fun e w'=>e=.returned .nilIface/\(Lib.BuilderAtF 98 5 B b (.pointer (some ⟨b,0,none⟩)) (bs++[.int .u8 c]) w'/\Below B w w'/\Lib.OthersKept 5 (some b) w w'):=by
 obtain⟨i0,hi,hz0,hz1,hz2⟩:=info_parts Tryz.info5'
 go_enter Tryz.func48,Tryz.ntmps48
 go_wp2_with (go_at_call 77;refine(copy_any B b bs _ h).mono ?_)
 rintro e w1 ⟨rfl,h1,hb1,hk1⟩
 obtain⟨hB,v,hbk,hown,hne⟩:=h1
 have c0:w1.cell? ⟨b,0,none⟩=some (.pointer (some ⟨b,0,none⟩)):=by rw[Lib.cell_of_heap hbk];rfl
 have c1:w1.cell? ⟨b,1,none⟩=some v:=by rw[Lib.cell_of_heap hbk];rfl
 go_wp2_with (at_builtin;refine wpList_append_ownF _ rfl _ _ 22 rfl B 5 i0 (.int .u8 0) 1 1 und36 hi hz0 hz1 hz2 rfl (by decide) _ _ _ rfl (hown.alloc _) ⟨w1.heap.size,0,none⟩ 1 1 [.int .u8 c] rfl rfl ?c1 ?c2 ?c3 ?c4 ?c5 ?_)
 case c1 =>
  intro j u hj
  match j,hj with
  |0,hj=>simp at hj;subst hj;simp[Addr.add]
 case c2=>intro u hu;simp at hu;subst hu;rfl
 case c3=>unfold maxLen;omega
 case c4=>omega
 case c5=>have:=hb1.size;simp;omega
 intro v' w2 hown' hgrow _
 have hlt:b<w1.heap.size:=by
  rcases Nat.lt_or_ge b w1.heap.size with h'|h'
  ·exact h'
  simp[Array.getElem?_eq_none h'] at hbk
 have hb2:w2.heap[b]? = some (.cells #[.pointer (some ⟨b,0,none⟩),v] 98 (0,0)):=by
  rw[hgrow.block b (by simp;omega) (fun e=>hne e.symm),Below.heap_alloc w1 _ b hlt]
  exact hbk
 have d0:w2.cell? ⟨b,0,none⟩=some (.pointer (some ⟨b,0,none⟩)):=by rw[Lib.cell_of_heap hb2];rfl
 have d1:w2.cell? ⟨b,1,none⟩=some v:=by rw[Lib.cell_of_heap hb2];rfl
 have f1:w2.frozen? ⟨b,1,none⟩=false:=Lib.frozen_of_heap hb2 1
 obtain⟨ao,n',cap,rfl⟩:∃ao n' cap,v'=.slice ao n' cap:=by
  rcases hown'.2 with ⟨hv,_⟩|⟨g,cap,cur,fz,hv,_⟩
  ·exact⟨_,_,_,hv⟩
  exact⟨_,_,_,hv⟩
 go_wp2
 go_ret
 refine⟨rfl,?_,?_,?_⟩
 ·exact Lib.BuilderAtF.put (T:=98) (e:=5) hB hb2 (bs':=bs++[.int .u8 c]) (by simpa using hown') (by decide)
 ·exact((hb1.alloc (by have:=hb1.size;omega) _).grown hgrow (by have:=hb1.size;simp;omega) (fun k hk=>(hown.lt k hk).1)).setCell (p:=⟨b,1,none⟩) hB _
 exact((hk1.alloc _).grown hgrow (Lib.ownsRowF_kind (hown.alloc _))).setCell ⟨b,1,none⟩ rfl _
theorem writeString_any (B b:Nat) (bs:List Value) (s:ByteArray) (w:World) (h:Lib.IsBuilderF 98 5 B b bs w) (hlen:bs.length+s.size<=140737488355328) (hBw:B<=w.heap.size) :
  Calls Tryz.prog 47 #[.pointer (some ⟨b,0,none⟩),.string s] w fun e w'=>e=.returned (.tuple #[.int .i64 s.size,.nilIface])/\(Lib.BuilderAtF 98 5 B b (.pointer (some ⟨b,0,none⟩)) (bs++Lib.strCells s) w'/\Below B w w'/\Lib.OthersKept 5 (some b) w w'):=by
 obtain⟨i0,hi,hz0,hz1,hz2⟩:=info_parts Tryz.info5'
 go_enter Tryz.func47,Tryz.ntmps47
 go_wp2_with (go_at_call 77;refine(copy_any B b bs _ h).mono ?_)
 rintro e w1 ⟨rfl,h1,hb1,hk1⟩
 obtain⟨hB,v,hbk,hown,hne⟩:=h1
 have c0:w1.cell? ⟨b,0,none⟩=some (.pointer (some ⟨b,0,none⟩)):=by rw[Lib.cell_of_heap hbk];rfl
 have c1:w1.cell? ⟨b,1,none⟩=some v:=by rw[Lib.cell_of_heap hbk];rfl
 go_wp2_with (at_builtin;refine Lib.wpList_append_own_stringF _ rfl _ _ 22 9 rfl B 5 i0 und36 Tryz.underlying9 hi hz0 hz1 hz2 _ _ _ rfl hown s rfl ?c3 ?c4 ?c5 ?_)
 case c3=>unfold maxLen;omega
 case c4=>omega
 case c5=>have:=hb1.size;omega
 intro v' w2 hown' hgrow _
 have hlt:b<w1.heap.size:=by
  rcases Nat.lt_or_ge b w1.heap.size with h'|h'
  ·exact h'
  simp[Array.getElem?_eq_none h'] at hbk
 have hb2:w2.heap[b]? = some (.cells #[.pointer (some ⟨b,0,none⟩),v] 98 (0,0)):=by
  rw[hgrow.block b hlt (fun e=>hne e.symm)]
  exact hbk
 have d0:w2.cell? ⟨b,0,none⟩=some (.pointer (some ⟨b,0,none⟩)):=by rw[Lib.cell_of_heap hb2];rfl
 have d1:w2.cell? ⟨b,1,none⟩=some v:=by rw[Lib.cell_of_heap hb2];rfl
 have f1:w2.frozen? ⟨b,1,none⟩=false:=Lib.frozen_of_heap hb2 1
 obtain⟨ao,n',cap,rfl⟩:∃ao n' cap,v'=.slice ao n' cap:=by
  rcases hown'.2 with ⟨hv,_⟩|⟨g,cap,cur,fz,hv,_⟩
  ·exact⟨_,_,_,hv⟩
  exact⟨_,_,_,hv⟩
 go_wp2
 go_ret2
 refine⟨rfl,?_,?_,(hk1.grown hgrow (Lib.ownsRowF_kind hown)).setCell ⟨b,1,none⟩ rfl _⟩
 ·exact Lib.BuilderAtF.put (T:=98) (e:=5) hB hb2 (bs':=bs++Lib.strCells s) (by simpa[Lib.strCells_length] using hown') (by decide)
 exact(hb1.grown hgrow (by have:=hb1.size;omega) (fun k hk=>(hown.lt k hk).1)).setCell (p:=⟨b,1,none⟩) hB _
theorem string_any (B b:Nat) (l:List UInt8) (w:World) (h:Lib.IsBuilderF 98 5 B b (Lib.byteCells l) w) (h0:l ≠ []) :
  Calls Tryz.prog 49 #[.pointer (some ⟨b,0,none⟩)] w fun e w'=>e=.returned (.string ⟨l.toArray⟩)/\Below B w w':=by
 obtain⟨p,hp,hAt⟩:∃p,(p=.pointer none\/p=.pointer (some ⟨b,0,none⟩))/\Lib.BuilderAtF 98 5 B b p (Lib.byteCells l) w:=by
  rcases h with h|h
  ·exact⟨_,.inl rfl,h⟩
  exact⟨_,.inr rfl,h⟩
 obtain⟨hB,v,hbk,hown,hne⟩:=hAt
 have hl0:l.length ≠ 0:=by simpa using h0
 rw[Lib.byteCells_length] at hown
 obtain⟨g,cap,cur,fz,rfl,hbg,hg,hfz,hnc,hcm,hcs,htake⟩:∃g cap cur fz,v=.slice (some ⟨g,0,none⟩) l.length cap/\B<=g/\w.heap[g]? = some (.cells cur 5 fz)/\fz.2<=l.length * 1/\l.length<=cap/\cap<=maxLen/\cur.size=cap * 1/\cur.toList.take (l.length * 1)=Lib.byteCells l:=by
  rcases hown.2 with ⟨_,hz⟩|⟨g,cap,cur,fz,hv,r⟩
  ·exact absurd hz hl0
  exact⟨g,cap,cur,fz,hv,r⟩
 have c1:w.drew.cell? ⟨b,1,none⟩=some (.slice (some ⟨g,0,none⟩) l.length cap):=by
  have:w.drew.heap[b]? = some (.cells #[p,.slice (some ⟨g,0,none⟩) l.length cap] 98 (0,0)):=hbk
  rw[Lib.cell_of_heap this];rfl
 have hSD:(Builtin.unsafeSliceData_ #[22] 128 #[.slice (some ⟨g,0,none⟩) l.length cap]).run Tryz.prog w.drew=.ok (.pointer (some ⟨g,0,none⟩)) w.drew :=
  Lib.run_unsafeSliceData_row _ _ _ _ _ _ oM
 have hUS:(Builtin.unsafeString_ #[128,3] 9 #[.pointer (some ⟨g,0,none⟩),.int .i64 l.length]).run Tryz.prog w.drew=.ok (.string ⟨l.toArray⟩) (w.drew.freeze ⟨g,0,none⟩ l.length):=by
  refine Lib.run_unsafeString_row w.drew 128 3 9 5 Tryz.underlying128 Tryz.cells5 g cur.size (by have hg':w.drew.heap[g]? = some (.cells cur 5 fz):=hg;simp[World.shape?,hg']) l h0 oM (by unfold maxLen at hcm;omega) ?_
  intro j x hx
  have:=hown.cells (g:=g) rfl j (.int .u8 x.toNat) (by simp[Lib.byteCells,hx])
  exact this
 have BF:Hid (Below B w (w.drew.freeze ⟨g,0,none⟩ l.length)):=Lib.below_freeze (Below.drew (Below.refl B w)) (p:=⟨g,0,none⟩) hbg _
 have mixed:Tryz.prog.follows .mixedOrders=true:=by kernel_rfl
 go_enter Tryz.func49,Tryz.ntmps49
 go_wp2
 go_region_o
 all_goals (go_wp2;go_ret;exact⟨rfl,BF.out⟩)
theorem grown_of_below' {w w':World}(h:Below w.heap.size w w') (row:Option Nat):w.grownBy w' row:=⟨h.os,h.tape,h.output,h.size,fun b hb _=>h.block b hb⟩
abbrev Tx (B b:Nat) (l:List UInt8) (w:World):Prop:=Lib.IsBuilderF 98 5 B b (Lib.byteCells l) w
theorem Tx.keep {B b:Nat}{l:List UInt8}{w w':World}(h:Tx B b l w) (hb:Below w.heap.size w w'):Tx B b l w':=by
 have key:∀p,Lib.BuilderAtF 98 5 B b p (Lib.byteCells l) w->Lib.BuilderAtF 98 5 B b p (Lib.byteCells l) w':=fun p hp=>by
  have hlt:=hp.lt
  obtain⟨hB,v,hbk,hown,hne⟩:=hp
  refine⟨hB,v,(hb.block b hlt).trans hbk,hown.kept (grown_of_below' hb none) ?_,hne⟩
  cases v.ownBlock <;> simp
 rcases h with h|h
 ·exact .inl (key _ h)
 exact .inr (key _ h)
theorem Tx.new (w:World):Tx w.heap.size w.heap.size [] (w.alloc (.cells #[.pointer none,.slice none 0 0] 98)):=Lib.IsBuilderF.of (Lib.fresh_isBuilder 98 5 w)
theorem cells_app (l:List UInt8) (s:ByteArray):Lib.byteCells l++Lib.strCells s=Lib.byteCells (l++s.data.toList):=by simp[Lib.byteCells,Lib.strCells]
theorem cells_one (l:List UInt8) (c:UInt8) (ci:Int) (h:ci=c.toNat):Lib.byteCells l++[.int .u8 ci]=Lib.byteCells (l++[c]):=by simp[Lib.byteCells,h]
theorem tx_byte (B b:Nat) (l:List UInt8) (c:UInt8) (ci:Int) (hc:ci=c.toNat) (w:World) (h:Tx B b l w) (hl:l.length<=1000000000) (hB:B<=w.heap.size) :
  Calls Tryz.prog 48 #[.pointer (some ⟨b,0,none⟩),.int .u8 ci] w fun e w'=>e=.returned .nilIface/\Tx B b (l++[c]) w'/\Below B w w':=by
 refine(writeByte_any B b (Lib.byteCells l) ci w h (by rw[Lib.byteCells_length];omega) hB).mono ?_
 rintro e w' ⟨rfl,h1,h2,_⟩
 rw[cells_one l c ci hc] at h1
 exact⟨rfl,.inr h1,h2⟩
theorem tx_str (B b:Nat) (l:List UInt8) (s:ByteArray) (w:World) (h:Tx B b l w) (hl:l.length<=1000000000) (hs:s.size<=1000000000) (hB:B<=w.heap.size) :
  Calls Tryz.prog 47 #[.pointer (some ⟨b,0,none⟩),.string s] w fun e w'=>e=.returned (.tuple #[.int .i64 s.size,.nilIface])/\Tx B b (l++s.data.toList) w'/\Below B w w':=by
 refine(writeString_any B b (Lib.byteCells l) s w h (by rw[Lib.byteCells_length];omega) hB).mono ?_
 rintro e w' ⟨rfl,h1,h2,_⟩
 rw[cells_app] at h1
 exact⟨rfl,.inr h1,h2⟩
theorem tx_nil (b:Nat) (w:World) (h1:w.cell? ⟨b,1,none⟩=some (.slice none 0 0)) :
  Calls Tryz.prog 49 #[.pointer (some ⟨b,0,none⟩)] w fun e w'=>e=.returned (.string ⟨#[]⟩)/\Below w.heap.size w w':=by
 have c1:w.drew.cell? ⟨b,1,none⟩=some (.slice none 0 0):=h1
 have HD:Hid (Below w.heap.size w w.drew):=(Below.refl _ _).drew
 have mixed:Tryz.prog.follows .mixedOrders=true:=by kernel_rfl
 have hSD:∀w,(Builtin.unsafeSliceData_ #[22] 128 #[.slice none 0 0]).run Tryz.prog w=.ok (.pointer none) w:=fun w=>by kernel_rfl
 have hUS:∀w,(Builtin.unsafeString_ #[128,3] 9 #[.pointer none,.int .i64 0]).run Tryz.prog w=.ok (.string ⟨#[]⟩) w:=fun w=>by kernel_rfl
 go_enter Tryz.func49,Tryz.ntmps49
 go_wp2
 go_region_o
 all_goals (go_wp2;go_ret;exact⟨rfl,HD.out⟩)
namespace Pl
def spk (l:List (List UInt8)) (k:Nat):List UInt8:=sp tg (l.take k)
theorem lst_last:∀(r:List (List UInt8)) (p:List UInt8),lst p r=(p::r).getLastD p:=by
 intro r
 induction r with
 |nil=>intro p;rfl
 |cons x r ih=>intro p;rw[lst,ih];cases r <;> rfl
theorem spk_succ {l:List (List UInt8)}{k:Nat}{t:List UInt8}(h:l[k]? = some t):spk l (k+1)=spk l k++(if k=0 then [] else bl (tg (l.getD (k-1) []) t))++t:=by
 have hk:=(List.getElem?_eq_some_iff.1 h).1
 unfold spk
 rw[List.take_add_one,h]
 show sp tg (l.take k++[t])=_
 by_cases k0:k=0
 ·subst k0;simp[sp,spt]
 rw[if_neg k0]
 match e:l.take k,(by intro e;have:=congrArg List.length e;rw[List.length_take,List.length_nil] at this;omega:l.take k ≠ []) with
 |p::r,_ =>
  rw[sp_append]
  have hl:lst p r=l.getD (k-1) []:=by
   rw[lst_last]
   have h1:(p::r).length=k:=by rw[<- e,List.length_take];omega
   rw[List.getLastD_eq_getLast?,List.getLast?_eq_getElem?,h1,<- e,List.getElem?_take_of_lt oM]
   rw[List.getD_eq_getElem?_getD,List.getElem?_eq_getElem oM]
   rfl
  rw[hl]
  simp[sp,spt]
theorem spk_len {l:List (List UInt8)}{n:Nat}(h:∀t∈l,t.length<=n) (k:Nat):(spk l k).length<=(n+1) * l.length:=by
 have:=sp_len (tg:=tg) (n:=n) (l.take k) (fun t ht=>h t (List.mem_of_mem_take ht))
 have h2:(l.take k).length<=l.length:=by rw[List.length_take];omega
 have h3:(n+1) * (l.take k).length<=(n+1) * l.length:=Nat.mul_le_mul_left _ h2
 unfold spk
 omega
end Pl
theorem spaced_any (l:List (List UInt8)) (g cap:Nat) (w:World) (hg:g<w.heap.size) (hl:l.length<=10000000) (ht:∀t∈l,t.length<=30) (hc:∀(j:Nat) (t:List UInt8),l[j]? = some t->w.cell? ⟨g,j,none⟩=some (.string (Pl.ba t))) (hne:Pl.sp Pl.tg l ≠ []) :
  Calls Tryz.prog 93 #[.slice (some ⟨g,0,none⟩) l.length cap] w fun e w'=>e=.returned (.string (Pl.ba (Pl.sp Pl.tg l)))/\Below w.heap.size w w':=by
 have HL:Hid (∀k,(Pl.spk l k).length<=310000000):=fun k=>by have:=Pl.spk_len ht k;omega
 have HS:Hid (∀k t,l[k]? = some t->Pl.spk l (k+1)=Pl.spk l k++(if k=0 then [] else Pl.bl (Pl.tg (l.getD (k-1) []) t))++t):=fun k t=>Pl.spk_succ
 have HG:Hid (∀k,k<l.length->∃t,l[k]? = some t/\t.length<=30):=fun k hk=>⟨l[k],List.getElem?_eq_getElem hk,ht _ (List.getElem_mem hk)⟩
 have HC:Hid (∀w' (j:Nat) (t:List UInt8),Below w.heap.size w w'->l[j]? = some t->w'.cell? ⟨g,j,none⟩=some (.string (Pl.ba t))):=fun w' j t h hj=>(h.cell (p:=⟨g,j,none⟩) hg).trans (hc j t hj)
 have HP:Hid (∀w' (k:Nat),Below w.heap.size w w'->0<k->k<l.length->w'.cell? ⟨g,k-1,none⟩=some (.string (Pl.ba (l.getD (k-1) [])))):=fun w' k h h0 hk=>by
  refine(h.cell (p:=⟨g,k-1,none⟩) hg).trans (hc (k-1) _ ?_)
  rw[List.getD_eq_getElem?_getD,List.getElem?_eq_getElem oM]
  rfl
 have HE:Hid (Pl.spk l l.length=Pl.sp Pl.tg l):=by show _=_;unfold Pl.spk;rw[List.take_length]
 have HNE:=zH hne
 have T0:=zH (Tx.new w)
 have B0:Hid (Below w.heap.size w (w.alloc (.cells #[.pointer none,.slice none 0 0] 98))):=(Below.refl _ _).alloc (Nat.le_refl _) _
 have HZ0:Hid (Pl.spk l 0=[]):=rfl
 clear hc ht hne
 generalize hn:l.length=n at *
 clear hn
 go_enter Tryz.func93,Tryz.ntmps93
 go_wp2_with fail
 go_loopw [8] (fun iv wr=>∃k:Nat,k<=n/\iv=.int .i64 k/\Hid (Tx w.heap.size w.heap.size (Pl.spk l k) wr)/\Hid (Below w.heap.size w wr)) (fun iv _=>n-(intOf iv).toNat)
 case atStart=>exact⟨0,Nat.zero_le _,rfl,by rw[HZ0.out];exact T0,B0⟩
 obtain⟨k,hk,rfl,hT,BB⟩:=hrel
 have hbs:=BB.out.size
 have hlk:=HL.out k
 by_cases hlt:k<n
 rotate_left 1
 ·obtain rfl:k=n:=by omega
  rw[HE.out] at hT
  have K:Hid (Calls Tryz.prog 49 #[.pointer (some ⟨w.heap.size,0,none⟩)] wr fun e w'=>e=.returned (.string (Pl.ba (Pl.sp Pl.tg l)))/\Below w.heap.size wr w'):=string_any w.heap.size w.heap.size (Pl.sp Pl.tg l) wr hT.out HNE.out
  clear HS HG HC HP HL
  go_wp2_with (go_at_call 49;refine K.out.mono ?_;rintro e w' ⟨rfl,hb⟩)
  go_ret
  exact⟨rfl,BB.out.trans hb⟩
 obtain⟨t,ht,htl⟩:=HG.out k hlt
 have cx:=HC.out _ k t BB.out ht
 have S:=zH (HS.out k t ht)
 have KW:Hid (∀(P:List UInt8) w',Tx w.heap.size w.heap.size P w'->P.length<=1000000000->w.heap.size<=w'.heap.size->Calls Tryz.prog 47 #[.pointer (some ⟨w.heap.size,0,none⟩),.string (Pl.ba t)] w' fun e w2=>e=.returned (.tuple #[.int .i64 (Pl.ba t).size,.nilIface])/\Tx w.heap.size w.heap.size (P++t) w2/\Below w.heap.size w' w2):=fun P w' h1 h2 h3=>tx_str w.heap.size w.heap.size P (Pl.ba t) w' h1 h2 (by rw[Pl.ba_size];omega) h3
 by_cases k0:k=0
 ·have t0:decide (0<k)=false:=by rw[decide_eq_false_iff_not];omega
  have S2:=zH (show Pl.spk l (k+1)=Pl.spk l k++t by rw[S.out,if_pos k0,List.append_nil])
  clear S k0 HS HG HC HP HL ht
  generalize Pl.ba t=tt at *
  go_wp2_with fail
  refine(KW.out _ _ hT.out oM hbs).mono ?_
  rintro e w2 ⟨rfl,h1,h2⟩
  have H1:Hid (Tx w.heap.size w.heap.size (Pl.spk l (k+1)) w2):=by rw[S2.out];exact h1
  have H2:=zH (BB.out.trans h2)
  clear h1 h2
  go_wp2_with fail
  go_roundw
  case rel=>exact⟨k+1,by omega,by go_num,H1,H2⟩
  simp[intOf];omega
 have k1:0<k:=by omega
 have cp:=HP.out _ k BB.out k1 hlt
 have S2:=zH (show Pl.spk l (k+1)=Pl.spk l k++Pl.bl (Pl.tg (l.getD (k-1) []) t)++t by rw[S.out,if_neg k0])
 have KT:Hid (Calls Tryz.prog 109 #[.string (Pl.ba (l.getD (k-1) [])),.string (Pl.ba t)] wr fun e w'=>e=.returned (.bool (Pl.tg (l.getD (k-1) []) t))/\Below wr.heap.size wr w'):=together_any (Pl.ba (l.getD (k-1) [])) (Pl.ba t) wr
 clear S k0 HS HG HC HP HL ht
 generalize hq:l.getD (k-1) []=q at *
 clear hq
 generalize hb:Pl.tg q t=b at *
 clear hb
 generalize Pl.ba q=qq at *
 have HTT:Hid (Pl.ba t=Pl.ba t):=rfl
 generalize Pl.ba t=tt at *
 cases b
 ·go_wp2_with fail
  refine KT.out.mono ?_
  rintro e w1 ⟨rfl,hb1⟩
  have H1:=zH hb1
  have X1:=zH (hT.out.keep hb1)
  have z1:w.heap.size<=w1.heap.size:=Nat.le_trans hbs hb1.size
  clear hb1
  go_wp2_with fail
  refine(tx_byte w.heap.size w.heap.size _ 32 32 rfl _ X1.out oM z1).mono ?_
  rintro e w2 ⟨rfl,h1,h2⟩
  have X2:=zH h1
  have B2:=zH (BB.out.trans ((H1.out.mono hbs).trans h2))
  have z2:=B2.out.size
  clear h1 h2
  go_wp2_with fail
  refine(KW.out _ _ X2.out (by rw[List.length_append];simp;omega) z2).mono ?_
  rintro e w3 ⟨rfl,h1,h2⟩
  have X3:Hid (Tx w.heap.size w.heap.size (Pl.spk l (k+1)) w3):=by rw[S2.out];exact h1
  have B3:=zH (B2.out.trans h2)
  clear h1 h2
  go_wp2_with fail
  go_roundw
  case rel=>exact⟨k+1,by omega,by go_num,X3,B3⟩
  simp[intOf];omega
 go_wp2_with fail
 refine KT.out.mono ?_
 rintro e w1 ⟨rfl,hb1⟩
 have H1:=zH hb1
 have X1:=zH (hT.out.keep hb1)
 have z1:w.heap.size<=w1.heap.size:=Nat.le_trans hbs hb1.size
 have B1:=zH (BB.out.trans (hb1.mono hbs))
 clear hb1
 go_wp2_with fail
 refine(KW.out _ _ X1.out oM z1).mono ?_
 rintro e w3 ⟨rfl,h1,h2⟩
 have X3:Hid (Tx w.heap.size w.heap.size (Pl.spk l (k+1)) w3):=by
  rw[S2.out,show Pl.bl true=[] from rfl,List.append_nil]
  exact h1
 have B3:=zH (B1.out.trans h2)
 clear h1 h2
 go_wp2_with fail
 go_roundw
 case rel=>exact⟨k+1,by omega,by go_num,X3,B3⟩
 simp[intOf];omega
theorem NdV.up {B B':Nat}{w:World}(hb:B<=B'):∀{t:Pl.Nd Pl.Sv}{v:Value},NdV B w t v->NdV B' w t v:=by
 intro t
 induction t with
 |«at» s =>
  intro v h
  rcases h with ⟨h1,an,cn,h2,h3⟩|h
  ·exact .inl ⟨h1,an,cn,h2,h3.up hb⟩
  exact .inr h
 |one s r ih =>
  intro v h
  obtain⟨vr,h1,h2⟩:=h
  exact⟨vr,h1,ih h2⟩
 |two s l r il ir =>
  intro v h
  obtain⟨vl,vr,h1,h2,h3⟩:=h
  exact⟨vl,vr,h1,il h2,ir h3⟩
namespace Pl
theorem run_posts {c:List Sv}{t:Nd Sv}(h:run ar c []=some [t]):c=t.post/\t.Wf ar:=by
 have h2:=(run_iff c t).1 h
 obtain⟨hp,hw⟩:=par_post _ _ _ _ h2
 exact⟨by simpa using congrArg List.reverse hp,hw⟩
theorem ftk_len (f:Fnv):(ftk f).length<=3:=by
 unfold ftk
 split
 ·simp
 split
 ·simp
 split
 ·simp
 split
 ·simp
 split <;> simp
theorem csz_app (a b:List Sv):csz (a++b)=csz a+csz b:=by
 unfold csz
 rw[List.map_append,List.sum_append,List.length_append]
 omega
theorem csz_one (s:Sv):csz [s]=1+s.nums.length:=by simp[csz]
theorem toks_len:∀t:Nd Sv,(toks (fa nt) ff t).length<=5 * csz t.post:=by
 intro t
 induction t with
 |«at» s =>
  simp only[toks,fa,Nd.post,csz_one]
  split
  ·rw[List.length_map];omega
  simp;omega
 |one s r ih =>
  have:=ftk_len s.fn
  simp only[toks,ff,Nd.post,csz_app,csz_one,List.length_append]
  omega
 |two s l r il ir =>
  have:=ftk_len s.fn
  simp only[toks,ff,Nd.post,csz_app,csz_one,List.length_append]
  cases bareN l <;> simp only[List.length_append,List.length_cons,List.length_nil] <;> omega
theorem ftk_tok {f:Fnv}(h:f.k=10->wk f.nm=3):∀t∈ftk f,t.length<=30:=by
 have s1:=sgn_len ⟨5,f.a,0,[]⟩
 have s2:=sgn_len ⟨5,f.b,0,[]⟩
 have s3:=sgn_len f
 intro t ht
 unfold ftk osg at ht
 split at ht
 ·simp at ht;rcases ht with rfl | rfl <;> (first | omega | simp)
 split at ht
 ·simp at ht;rcases ht with rfl | rfl <;> (first | omega | simp)
 split at ht
 ·simp at ht;rcases ht with rfl | rfl <;> (first | omega | simp)
 split at ht
 ·simp at ht;rcases ht with rfl | rfl | rfl <;> (first | omega | simp)
 split at ht
 ·rename_i h10
  simp at ht
  subst ht
  have:=wk_len (s:=f.nm) (by rw[h h10];decide)
  omega
 simp at ht;subst ht;omega
theorem toks_tok:∀t:Nd Sv,AllN (fun s=>sok s=true/\ar s=0) (fun s=>sok s=true/\ar s ≠ 0) t->∀x∈toks (fa nt) ff t,x.length<=30:=by
 intro t
 induction t with
 |«at» s =>
  intro h x hx
  simp only[toks,fa] at hx
  split at hx
  ·rename_i h1
   obtain⟨n,hn,rfl⟩:=List.mem_map.1 hx
   have hr:=(sok_nums h.1 h1).1 n hn
   have:=nt_len n oM oM
   omega
  rename_i h1
  simp at hx
  subst hx
  have h2:s.k=2:=by
   rcases sok_kind h.1 with k|k|k|k
   ·exact absurd k h1
   ·exact k
   ·exact absurd h.2 (by simp[ar,k])
   exact absurd h.2 (by simp[ar,k])
  have hs:=h.1
  unfold sok at hs
  rw[if_neg h1,if_pos h2] at hs
  simp only[Bool.and_eq_true,decide_eq_true_eq] at hs
  have:=wk_len (s:=s.nm) (by rw[hs.1.1];decide)
  omega
 |one s r ih =>
  intro h x hx
  simp only[toks,ff] at hx
  rcases List.mem_append.1 hx with hx|hx
  ·exact ftk_tok (fn_call h.1.1 h.1.2) x hx
  exact ih h.2 x hx
 |two s l r il ir =>
  intro h x hx
  simp only[toks,ff] at hx
  rcases List.mem_append.1 hx with hx|hx
  ·cases hb:bareN l with
   |true=>rw[hb] at hx;exact il h.2.1 x hx
   |false =>
    rw[hb] at hx
    simp only[List.mem_cons,List.mem_append,List.not_mem_nil,or_false] at hx
    rcases hx with rfl|hx|rfl
    ·simp
    ·exact il h.2.1 x hx
    simp
  rcases List.mem_append.1 hx with hx|hx
  ·exact ftk_tok (fn_call h.1.1 h.1.2) x hx
  exact ir h.2.2 x hx
theorem txt_ne:∀t:Nd Sv,AllN (fun s=>sok s=true/\ar s=0) (fun s=>sok s=true/\ar s ≠ 0) t->txt (ta nt) tf t ≠ []:=by
 intro t h
 cases t with
 |«at» s =>
  show ta nt s ≠ []
  unfold ta fa
  split
  ·rename_i h1
   have hs:=h.1
   unfold sok at hs
   rw[if_pos h1] at hs
   simp only[numsB,Bool.and_eq_true,decide_eq_true_eq] at hs
   match e:s.nums,hs with
   |[],hs=>simp at hs
   |x::l,_ =>
    obtain⟨c,r,hc,_⟩:=nt_head x
    simp[sp,hc]
  rename_i h1
  have h2:s.k=2:=by
   rcases sok_kind h.1 with k|k|k|k
   ·exact absurd k h1
   ·exact k
   ·exact absurd h.2 (by simp[ar,k])
   exact absurd h.2 (by simp[ar,k])
  have hs:=h.1
  unfold sok at hs
  rw[if_neg h1,if_pos h2] at hs
  simp only[Bool.and_eq_true,decide_eq_true_eq] at hs
  intro e
  have:s.nm=[]:=by simpa[sp,spt] using e
  rw[this] at hs
  exact absurd hs.1.1 (by decide)
 |one s r=>simp[txt]
 |two s l r=>simp[txt]
theorem xt_of_run {c:List Sv}{t:Nd Sv}(h1:c.all sok=true) (h2:run ar c []=some [t]):xt nt c=if nest t<=40 then some (sp tg (toks (fa nt) ff t)) else none:=by
 rw[<- xt_eq nt_fine c]
 unfold xtI
 rw[if_pos h1,h2]
theorem xt_of_not {c:List Sv}(h:∀t,¬(c.all sok=true/\run ar c []=some [t])):xt nt c=none:=by
 rw[<- xt_eq nt_fine c]
 unfold xtI
 split
 ·rename_i h1
  split
  ·rename_i t e;exact absurd ⟨h1,e⟩ (h t)
  rfl
 rfl
theorem node_facts {c:List Sv}{t:Nd Sv}(hsm:Small c) (h1:c.all sok=true) (h2:run ar c []=some [t]):t.post.length<=1048576/\(∀s∈t.post,sok s=true)/\(toks (fa nt) ff t).length<=10000000/\(∀x∈toks (fa nt) ff t,x.length<=30)/\sp tg (toks (fa nt) ff t) ≠ []:=by
 obtain⟨hp,hw⟩:=run_posts h2
 have hs:∀s∈t.post,sok s=true:=by rw[<- hp];exact List.all_eq_true.1 h1
 have ha:=all_post hw hs
 refine⟨by rw[<- hp];exact hsm.len,hs,?_,toks_tok t ha,?_⟩
 ·have:=toks_len t
  have h3:=hsm.sz
  rw[hp] at h3
  omega
 rw[node_text nt_fine hw hs]
 exact txt_ne t ha
end Pl
theorem ret_x {a b:ByteArray}{x y:Bool}(h:a=b) (h2:x=y):Ending.returned (.tuple #[.string a,.bool x])=.returned (.tuple #[.string b,.bool y]):=by rw[h,h2]
theorem exprText_any (c:List Pl.Sv) (ao:Option Addr) (cap mb mo cp:Nat) (hsm:Pl.Small c) (w:World) (he:Ev w mb mo cp) (hR:RdS w.heap.size w ao c) :
  Calls Tryz.prog 75 #[.slice ao c.length cap] w fun e w'=>e=.returned (.tuple #[.string (Pl.ba ((Pl.xt Pl.nt c).getD [])),.bool (Pl.xt Pl.nt c).isSome])/\Below w.heap.size w w':=by
 have K:=zH (nodeOf_any c ao cap mb mo cp hsm w he.mt hR)
 have HSM:=zH hsm
 have HEV:=zH he
 clear hR he hsm
 generalize c.length=L at *
 generalize hx:Pl.xt Pl.nt c=x at *
 have HX:=zH hx
 clear hx
 go_enter Tryz.func75,Tryz.ntmps75
 go_wp2_with fail
 refine K.out.mono ?_
 rintro e w1 ⟨hb1,hpost⟩
 have H1:=zH hb1
 clear hb1
 rcases hpost with ⟨t,v,hall,hrun,rfl,hv⟩|⟨hno,rfl⟩
 rotate_left 1
 ·have HXX:=zH (show x=none by rw[<- HX.out];exact Pl.xt_of_not hno)
  clear hno
  go_wp2_with fail
  go_ret2
  exact⟨ret_x (by rw[HXX.out];rfl) (by rw[HXX.out];rfl),H1.out⟩
 have HXT:=zH (Pl.xt_of_run hall hrun)
 obtain⟨f1,f2,f3,f4,f5⟩:=Pl.node_facts HSM.out hall hrun
 have hv1:NdV w1.heap.size w1 t v:=hv.up H1.out.size
 have hev1:Ev w1 mb mo cp:=HEV.out.keep H1.out
 have TC:=zH (nodeTokens_any mb mo cp w1 hev1 t v hv1 f1 f2)
 have NS:=hv1.nsk f1
 have K60:Hid (∀w2,Below w1.heap.size w1 w2->Calls Tryz.prog 94 #[.slice none 0 0,v] w2 (TokPost w1.heap.size [] (Pl.toks (Pl.fa Pl.nt) Pl.ff t) w2)):=fun w2 h2=>TC.out w2 w1.heap.size (.slice none 0 0) [] ⟨h2,Nat.le_refl _,h2.size,World.ownsRow_nil _ _ _ _,by simp⟩ (by simp;omega)
 have KSP:Hid (∀(g cap':Nat) w3,g<w3.heap.size->(∀(j:Nat) (y:List UInt8),(Pl.toks (Pl.fa Pl.nt) Pl.ff t)[j]? = some y->w3.cell? ⟨g,j,none⟩=some (.string (Pl.ba y)))->Calls Tryz.prog 93 #[.slice (some ⟨g,0,none⟩) (Pl.toks (Pl.fa Pl.nt) Pl.ff t).length cap'] w3 fun e w'=>e=.returned (.string (Pl.ba (Pl.sp Pl.tg (Pl.toks (Pl.fa Pl.nt) Pl.ff t))))/\Below w3.heap.size w3 w'):=fun g cap' w3 hg hc=>spaced_any _ g cap' w3 hg f3 f4 hc f5
 have HPOS:Hid (0<(Pl.toks (Pl.fa Pl.nt) Pl.ff t).length):=by
  refine List.length_pos_iff.2 (fun e=>f5 ?_)
  rw[e];rfl
 obtain⟨T,p,fn,fb,rfl,m1,m2,e1,e2,k1,k2⟩:=NS
 have KN:=zH k1
 have hnb:Pl.nest t<=1048576:=by have:=Pl.nest_le t;omega
 clear k1 k2 m2 e2 hall hrun hv hv1 hev1 TC f1 f2 f3 f4 f5
 generalize Pl.toks (Pl.fa Pl.nt) Pl.ff t=TT at *
 generalize Pl.nest t=q at *
 go_wp2_with fail
 refine(KN.out _).mono ?_
 rintro e w2 ⟨rfl,hb2⟩
 have H2:=zH hb2
 clear hb2
 by_cases hq:q<=40
 rotate_left 1
 ·have HXX:=zH (show x=none by rw[<- HX.out,HXT.out,if_neg hq])
  have hq':(q:Int) > 40:=by omega
  clear K60 KSP
  go_wp2_with fail
  go_ret2
  exact⟨ret_x (by rw[HXX.out];rfl) (by rw[HXX.out];rfl),H1.out.trans (H2.out.mono H1.out.size)⟩
 have HXX:=zH (show x=some (Pl.sp Pl.tg TT) by rw[<- HX.out,HXT.out,if_pos hq])
 have hq':¬((q:Int) > 40):=by omega
 go_wp2_with fail
 refine(K60.out _ H2.out).mono ?_
 rintro e w3 ⟨v3,rfl,o3,b3,_⟩
 rw[List.nil_append] at o3
 obtain⟨m,hm⟩:∃m,TT.length=m+1:=⟨TT.length-1,by have:=HPOS.out;omega⟩
 rw[hm] at o3
 obtain⟨g,cg,rfl⟩:=owns_succ o3
 have hglt:=(o3.lt g rfl).2
 have K59:=zH (KSP.out g cg w3 hglt (fun j y hj=>by
  have hj2:=(List.getElem?_eq_some_iff.1 hj).1
  have:=o3.cellAt j oM
  rw[this,List.getElem?_map,hj]
  rfl))
 rw[hm] at K59
 have B3:Hid (Below w.heap.size w w3):=H1.out.trans ((H2.out.mono H1.out.size).trans (b3.mono H1.out.size))
 clear o3 b3 KSP K60
 go_wp2_with (go_at_call 93;refine K59.out.mono ?_;rintro e w4 ⟨rfl,hb4⟩)
 go_ret2
 exact⟨ret_x (by rw[HXX.out];rfl) (by rw[HXX.out];rfl),B3.out.trans (hb4.mono B3.out.size)⟩
end Go.Proofs.YtbiiicbfpcfgdaaGreatDoor
