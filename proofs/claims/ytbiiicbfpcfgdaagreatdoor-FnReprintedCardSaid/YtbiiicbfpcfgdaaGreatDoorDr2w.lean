import Derived.Test.YtbiiicbfpcfgdaaGreatDoorExz
namespace Go.Proofs.YtbiiicbfpcfgdaaGreatDoor
open Go.RowKit
set_option maxRecDepth 100000
set_option maxHeartbeats 16000000
set_option linter.unusedVariables false
theorem uDr2w1 {P:Prop}(h:P:=by simp[results,Tryz.results98,go_sem,c0,c1,c2,c3]):P:=h
theorem Vr.step {P s:Nat}{w w' w'':World}{l:List Value}(h:Vr P s w w' l) (hP:s ≠ P) (hg:w'.grownBy w'' (some P)):Vr P s w w'' l :=
 ⟨h.g.trans hg,h.e,Nat.lt_of_lt_of_le h.lt hg.size,fun j u hu=>hg.cell (h.c j u hu) (fun e=>hP (by simpa using e)),fun j=>(World.frozen?_of_block (a:=⟨s,j,none⟩) (hg.block s h.lt (fun e=>hP (by simpa using e)))).trans (h.f j)⟩
theorem Vr.set {P s:Nat}{w w':World}{l:List Value}(h:Vr P s w w' l) (j:Nat) (v:Value) (hj:j<l.length):Vr P s w (w'.setCell ⟨s,j,none⟩ v) (l.set j v):=by
 refine⟨⟨h.g.os,h.g.tape,h.g.output,by simpa using h.g.size,fun k hk hr=>?_⟩,h.e,by simpa using h.lt,fun i u hu=>?_,fun i=>by rw[World.frozen?_setCell];exact h.f i⟩
 ·exact(heap_setCell_other _ ⟨s,j,none⟩ _ _ (by have:=h.e;simp;omega)).trans (h.g.block k hk hr)
 rw[List.getElem?_set] at hu
 by_cases hij:j=i
 ·subst hij
  simp[hj] at hu
  subst hu
  exact World.cell?_setCell_same _ _ _ (h.c j _ (List.getElem?_eq_getElem hj))
 rw[if_neg hij] at hu
 exact(World.cell?_setCell_other _ _ _ _ (fun e=>hij (by simpa using e.symm))).trans (h.c i u hu)
theorem Rr.vset {B P:Nat}{w:World}{bs:List Nat}{pos:Nat}(h:Rr B P w bs pos) (s j:Nat) (v:Value) (hB:B<=s) (hP:s ≠ P):Rr B P (w.setCell ⟨s,j,none⟩ v) bs pos :=
 h.same ((Below.refl _ _).setCell (p:=⟨s,j,none⟩) hB _) (heap_setCell_other _ ⟨s,j,none⟩ _ _ (by simpa using fun e=>hP e.symm))
theorem Dw.alloc {B P:Nat}{w w':World}{bs:List Nat}{pos:Nat}(h:Dw B P w w' bs pos) (o:Obj):Dw B P w (w'.alloc o) bs pos :=
 ⟨h.r.keep ((Below.refl _ _).alloc (Nat.le_refl _) _),grown_alloc h.g o⟩
theorem tDr2w2 {P:Prop}(h:P:=by
 go_enter Tryz.func98,Tryz.ntmps98
 go_wp2_with fail
 refine K1.out.mono ?_
 rintro e w1 ⟨rfl,hr,V⟩
 have H:=zH (fun a b c d o=>(FIN.out w1 V _ hr a b c d).alloc o)
 have c0:=V.c 0 _ rfl
 have c1:=V.c 1 _ rfl
 have c2:=V.c 2 _ rfl
 have c3:=V.c 3 _ rfl
 have f:=V.f
 have hsl:=V.lt
 have hne:s ≠ w1.heap.size:=by omega
 clear V hr KN FIN K1
 generalize hs1:w1.heap.size=s1 at *
 go_wp2_with fail
 refine bodyPost_ret (v:=.agg #[.int .i64 10,.int .i64 0,.int .i64 0,.string ⟨#[70]⟩]) (by simp[results,Tryz.results98,go_sem,c0,c1,c2,c3,hs1,hsl]) rfl ⟨by rw[HG];rfl,by rw[HG];exact H.out _ _ _ _ _⟩
 ):P:=h
theorem tDr2w1 {P:Prop}(h:P:=by
 obtain rfl|rfl|rfl|rfl:x4=0\/x4=1\/x4=2\/x4=3:=by omega
 ·exact tDr2w2
 ·go_enter Tryz.func98,Tryz.ntmps98
  go_wp2_with fail
  refine K1.out.mono ?_
  rintro e w1 ⟨rfl,hr,V⟩
  have H:=zH (fun a b c d o=>(FIN.out w1 V _ hr a b c d).alloc o)
  have c0:=V.c 0 _ rfl
  have c1:=V.c 1 _ rfl
  have c2:=V.c 2 _ rfl
  have c3:=V.c 3 _ rfl
  have f:=V.f
  have hsl:=V.lt
  have hne:s ≠ w1.heap.size:=by omega
  clear V hr KN FIN K1
  generalize hs1:w1.heap.size=s1 at *
  go_wp2_with fail
  refine bodyPost_ret (v:=.agg #[.int .i64 10,.int .i64 0,.int .i64 0,.string ⟨#[71,111]⟩]) (by simp[results,Tryz.results98,go_sem,c0,c1,c2,c3,hs1,hsl]) rfl ⟨by rw[HG];rfl,by rw[HG];exact H.out _ _ _ _ _⟩
 ·go_enter Tryz.func98,Tryz.ntmps98
  go_wp2_with fail
  refine K1.out.mono ?_
  rintro e w1 ⟨rfl,hr,V⟩
  have H:=zH (fun a b c d o=>(FIN.out w1 V _ hr a b c d).alloc o)
  have c0:=V.c 0 _ rfl
  have c1:=V.c 1 _ rfl
  have c2:=V.c 2 _ rfl
  have c3:=V.c 3 _ rfl
  have f:=V.f
  have hsl:=V.lt
  have hne:s ≠ w1.heap.size:=by omega
  clear V hr KN FIN K1
  generalize hs1:w1.heap.size=s1 at *
  go_wp2_with fail
  refine bodyPost_ret (v:=.agg #[.int .i64 10,.int .i64 0,.int .i64 0,.string ⟨#[115,101,108,102]⟩]) (by simp[results,Tryz.results98,go_sem,c0,c1,c2,c3,hs1,hsl]) rfl ⟨by rw[HG];rfl,by rw[HG];exact H.out _ _ _ _ _⟩
 ·exact tDr2w2
 ):P:=h
theorem genFn_true (B P:Nat) (w:World) (bs:List Nat) (pos:Nat) (h:Rr B P w bs pos):Calls Tryz.prog 98 #[.pointer (some ⟨P,0,none⟩),.bool true] w fun e w'=>e=.returned (.agg #[.int .i64 (Pl.gfn bs pos true).1.k,.int .i64 (Pl.gfn bs pos true).1.a,.int .i64 (Pl.gfn bs pos true).1.b,.string (Pl.ba (Pl.gfn bs pos true).1.nm)])/\Dw B P w w' bs (Pl.gfn bs pos true).2:=by
 have hlt:=h.lt
 have hbp:=h.bp
 have V0:=Vr.new P w [.int .i64 0,.int .i64 0,.int .i64 0,.string ⟨#[]⟩] 88
 have KN:=zH (fun (w1:World) (V:Vr P w.heap.size w w1 [.int .i64 0,.int .i64 0,.int .i64 0,.string ⟨#[]⟩]) (pos:Nat) (hr:Rr B P w1 bs pos)=>(nextx_any B P w1 bs pos hr).mono (R':=fun e w'=>e=.returned (.int .i64 ((Pl.nx bs pos).1:Nat))/\Rr B P w' bs (Pl.nx bs pos).2/\Vr P w.heap.size w w' [.int .i64 0,.int .i64 0,.int .i64 0,.string ⟨#[]⟩]) (fun e w' h=>⟨h.1,h.2.r,V.step oM h.2.g⟩))
 have FIN:=zH (fun (w1:World) (V:Vr P w.heap.size w w1 [.int .i64 0,.int .i64 0,.int .i64 0,.string ⟨#[]⟩]) (pos:Nat) (hr:Rr B P w1 bs pos) (a b c d:Value)=>(⟨(((hr.vset w.heap.size 0 a oM oM).vset w.heap.size 1 b oM oM).vset w.heap.size 2 c oM oM).vset w.heap.size 3 d oM oM,((((V.set 0 a sI).set 1 b sI).set 2 c sI).set 3 d sI).g⟩:Dw B P w ((((w1.setCell ⟨w.heap.size,0,none⟩ a).setCell ⟨w.heap.size,1,none⟩ b).setCell ⟨w.heap.size,2,none⟩ c).setCell ⟨w.heap.size,3,none⟩ d) bs pos))
 have h0:=h.keep ((Below.refl w.heap.size w).alloc (Nat.le_refl _) (.cells #[.int .i64 0,.int .i64 0,.int .i64 0,.string ⟨#[]⟩] 88))
 have hk:(Pl.nx bs pos).1<=255:=Pl.nx_le h.by_
 have K1:=zH (KN.out _ V0 pos h0)
 have hk2:∀p,(Pl.nx bs p).1<=255:=fun p=>Pl.nx_le h.by_
 have HG:=zH (show Pl.gfn bs pos true=Pl.gfnK bs (Pl.nx bs pos).1 (Pl.nx bs pos).2 true from rfl)
 generalize Pl.gfn bs pos true=R at *
 clear h V0 h0
 generalize Pl.nx bs pos=q at *
 obtain⟨k,p1⟩:=q
 simp only at hk K1
 have HG:=HG.out
 unfold Pl.gfnK at HG
 generalize hs:w.heap.size=s at *
 have m16:Int.tmod (k:Int) 16=((k % 16:Nat):Int):=by rw[Int.tmod_eq_emod_of_nonneg oM];omega
 have q16:Int.tdiv (k:Int) 16=((k / 16:Nat):Int):=by rw[Int.tdiv_eq_ediv_of_nonneg oM];omega
 have hq:k / 16<=15:=by omega
 have t10:Int.tmod ((k / 16:Nat):Int) 10=((k / 16 % 10:Nat):Int):=by rw[Int.tmod_eq_emod_of_nonneg oM];omega
 have t7:Int.tmod ((k / 16:Nat):Int) 7=((k / 16 % 7:Nat):Int):=by rw[Int.tmod_eq_emod_of_nonneg oM];omega
 have t4:Int.tmod ((k / 16:Nat):Int) 4=((k / 16 % 4:Nat):Int):=by rw[Int.tmod_eq_emod_of_nonneg oM];omega
 have l10:k / 16 % 10<=9:=by omega
 have l7:k / 16 % 7<=6:=by omega
 have l4:k / 16 % 4<=3:=by omega
 generalize k / 16 % 10=x10 at *
 generalize k / 16 % 7=x7 at *
 generalize k / 16 % 4=x4 at *
 generalize k / 16=kq at *
 have hm:k % 16<16:=by omega
 generalize k % 16=km at *
 clear hk
 rw[if_pos rfl] at HG
 by_cases a0:km<7
 ·have d:(km:Int)<7:=by omega
  rw[if_pos a0] at HG
  go_enter Tryz.func98,Tryz.ntmps98
  go_wp2_with fail
  refine K1.out.mono ?_
  rintro e w1 ⟨rfl,hr,V⟩
  have H:=zH (FIN.out w1 V _ hr)
  have c0:=V.c 0 _ rfl
  have c1:=V.c 1 _ rfl
  have c2:=V.c 2 _ rfl
  have c3:=V.c 3 _ rfl
  have f:=V.f
  clear V hr KN FIN K1
  go_wp2_with fail
  refine bodyPost_ret (v:=.agg #[.int .i64 5,.int .i64 (1+(x10:Int)),.int .i64 0,.string ⟨#[]⟩]) uDr2w1 rfl ⟨by rw[HG];rfl,by rw[HG];exact H.out _ _ _ _⟩
 rw[if_neg a0] at HG
 have n0:¬(km:Int)<7:=by omega
 by_cases a1:km<12
 ·have d:(km:Int)<12:=by omega
  rw[if_pos a1] at HG
  go_enter Tryz.func98,Tryz.ntmps98
  go_wp2_with fail
  refine K1.out.mono ?_
  rintro e w1 ⟨rfl,hr,V⟩
  have H:=zH (FIN.out w1 V _ hr)
  have c0:=V.c 0 _ rfl
  have c1:=V.c 1 _ rfl
  have c2:=V.c 2 _ rfl
  have c3:=V.c 3 _ rfl
  have f:=V.f
  clear V hr KN FIN K1
  go_wp2_with fail
  refine bodyPost_ret (v:=.agg #[.int .i64 6,.int .i64 (1+(x7:Int)),.int .i64 0,.string ⟨#[]⟩]) uDr2w1 rfl ⟨by rw[HG];rfl,by rw[HG];exact H.out _ _ _ _⟩
 rw[if_neg a1] at HG
 have n1:¬(km:Int)<12:=by omega
 by_cases a2:km=12
 ·rw[if_pos a2] at HG
  subst a2
  go_enter Tryz.func98,Tryz.ntmps98
  go_wp2_with fail
  refine K1.out.mono ?_
  rintro e w1 ⟨rfl,hr,V⟩
  have H:=zH (FIN.out w1 V _ hr)
  have c0:=V.c 0 _ rfl
  have c1:=V.c 1 _ rfl
  have c2:=V.c 2 _ rfl
  have c3:=V.c 3 _ rfl
  have f:=V.f
  clear V hr KN FIN K1
  go_wp2_with fail
  refine bodyPost_ret (v:=.agg #[.int .i64 7,.int .i64 (1+(x10:Int)),.int .i64 0,.string ⟨#[]⟩]) uDr2w1 rfl ⟨by rw[HG];rfl,by rw[HG];exact H.out _ _ _ _⟩
 rw[if_neg a2] at HG
 have n2:((km:Int) == 12)=false:=by simp;omega
 by_cases a3:km=13
 ·rw[if_pos a3] at HG
  subst a3
  have K2:=zH (fun w1 V hr=>KN.out w1 V p1 hr)
  have hy:(Pl.nx bs p1).1 % 10<=9:=by omega
  have hy0:Int.tmod ((Pl.nx bs p1).1:Int) 10=(((Pl.nx bs p1).1 % 10:Nat):Int):=by rw[Int.tmod_eq_emod_of_nonneg oM];omega
  generalize (Pl.nx bs p1).1 % 10=y10 at *
  generalize Pl.nx bs p1=q2 at *
  obtain⟨k2,p2⟩:=q2
  simp only at hy0 HG K2
  go_enter Tryz.func98,Tryz.ntmps98
  go_wp2_with fail
  refine K1.out.mono ?_
  rintro e w0 ⟨rfl,hr,V⟩
  have K3:=zH (K2.out w0 V hr)
  clear V hr K1 K2
  go_wp2_with fail
  refine K3.out.mono ?_
  rintro e w1 ⟨rfl,hr,V⟩
  have H:=zH (FIN.out w1 V _ hr)
  have c0:=V.c 0 _ rfl
  have c1:=V.c 1 _ rfl
  have c2:=V.c 2 _ rfl
  have c3:=V.c 3 _ rfl
  have f:=V.f
  clear V hr KN FIN K3
  go_wp2_with fail
  refine bodyPost_ret (v:=.agg #[.int .i64 8,.int .i64 (1+(x10:Int)),.int .i64 (1+(y10:Int)),.string ⟨#[]⟩]) uDr2w1 rfl ⟨by rw[HG];rfl,by rw[HG];exact H.out _ _ _ _⟩
 rw[if_neg a3] at HG
 have n3:((km:Int) == 13)=false:=by simp;omega
 exact tDr2w1
theorem genFn_false (B P:Nat) (w:World) (bs:List Nat) (pos:Nat) (h:Rr B P w bs pos):Calls Tryz.prog 98 #[.pointer (some ⟨P,0,none⟩),.bool false] w fun e w'=>e=.returned (.agg #[.int .i64 (Pl.gfn bs pos false).1.k,.int .i64 (Pl.gfn bs pos false).1.a,.int .i64 (Pl.gfn bs pos false).1.b,.string (Pl.ba (Pl.gfn bs pos false).1.nm)])/\Dw B P w w' bs (Pl.gfn bs pos false).2:=by
 have hlt:=h.lt
 have hbp:=h.bp
 have V0:=Vr.new P w [.int .i64 0,.int .i64 0,.int .i64 0,.string ⟨#[]⟩] 88
 have KN:=zH (fun (w1:World) (V:Vr P w.heap.size w w1 [.int .i64 0,.int .i64 0,.int .i64 0,.string ⟨#[]⟩]) (pos:Nat) (hr:Rr B P w1 bs pos)=>(nextx_any B P w1 bs pos hr).mono (R':=fun e w'=>e=.returned (.int .i64 ((Pl.nx bs pos).1:Nat))/\Rr B P w' bs (Pl.nx bs pos).2/\Vr P w.heap.size w w' [.int .i64 0,.int .i64 0,.int .i64 0,.string ⟨#[]⟩]) (fun e w' h=>⟨h.1,h.2.r,V.step oM h.2.g⟩))
 have FIN:=zH (fun (w1:World) (V:Vr P w.heap.size w w1 [.int .i64 0,.int .i64 0,.int .i64 0,.string ⟨#[]⟩]) (pos:Nat) (hr:Rr B P w1 bs pos) (a b c d:Value)=>(⟨(((hr.vset w.heap.size 0 a oM oM).vset w.heap.size 1 b oM oM).vset w.heap.size 2 c oM oM).vset w.heap.size 3 d oM oM,((((V.set 0 a sI).set 1 b sI).set 2 c sI).set 3 d sI).g⟩:Dw B P w ((((w1.setCell ⟨w.heap.size,0,none⟩ a).setCell ⟨w.heap.size,1,none⟩ b).setCell ⟨w.heap.size,2,none⟩ c).setCell ⟨w.heap.size,3,none⟩ d) bs pos))
 have h0:=h.keep ((Below.refl w.heap.size w).alloc (Nat.le_refl _) (.cells #[.int .i64 0,.int .i64 0,.int .i64 0,.string ⟨#[]⟩] 88))
 have hk:(Pl.nx bs pos).1<=255:=Pl.nx_le h.by_
 have K1:=zH (KN.out _ V0 pos h0)
 have hk2:∀p,(Pl.nx bs p).1<=255:=fun p=>Pl.nx_le h.by_
 have HG:=zH (show Pl.gfn bs pos false=Pl.gfnK bs (Pl.nx bs pos).1 (Pl.nx bs pos).2 false from rfl)
 generalize Pl.gfn bs pos false=R at *
 clear h V0 h0
 generalize Pl.nx bs pos=q at *
 obtain⟨k,p1⟩:=q
 simp only at hk K1
 have HG:=HG.out
 unfold Pl.gfnK at HG
 generalize hs:w.heap.size=s at *
 have m16:Int.tmod (k:Int) 16=((k % 16:Nat):Int):=by rw[Int.tmod_eq_emod_of_nonneg oM];omega
 have q16:Int.tdiv (k:Int) 16=((k / 16:Nat):Int):=by rw[Int.tdiv_eq_ediv_of_nonneg oM];omega
 have hq:k / 16<=15:=by omega
 have t10:Int.tmod ((k / 16:Nat):Int) 10=((k / 16 % 10:Nat):Int):=by rw[Int.tmod_eq_emod_of_nonneg oM];omega
 have t7:Int.tmod ((k / 16:Nat):Int) 7=((k / 16 % 7:Nat):Int):=by rw[Int.tmod_eq_emod_of_nonneg oM];omega
 have t4:Int.tmod ((k / 16:Nat):Int) 4=((k / 16 % 4:Nat):Int):=by rw[Int.tmod_eq_emod_of_nonneg oM];omega
 have l10:k / 16 % 10<=9:=by omega
 have l7:k / 16 % 7<=6:=by omega
 have l4:k / 16 % 4<=3:=by omega
 generalize k / 16 % 10=x10 at *
 generalize k / 16 % 7=x7 at *
 generalize k / 16 % 4=x4 at *
 generalize k / 16=kq at *
 have hm:k % 16<16:=by omega
 generalize k % 16=km at *
 clear hk
 rw[if_neg (by decide)] at HG
 by_cases a0:km<3
 ·have d:(km:Int)<3:=by omega
  rw[if_pos a0] at HG
  go_enter Tryz.func98,Tryz.ntmps98
  go_wp2_with fail
  refine K1.out.mono ?_
  rintro e w1 ⟨rfl,hr,V⟩
  have H:=zH (FIN.out w1 V _ hr)
  have c0:=V.c 0 _ rfl
  have c1:=V.c 1 _ rfl
  have c2:=V.c 2 _ rfl
  have c3:=V.c 3 _ rfl
  have f:=V.f
  clear V hr KN FIN K1
  go_wp2_with fail
  refine bodyPost_ret (v:=.agg #[.int .i64 1,.int .i64 (1+(x4:Int)),.int .i64 0,.string ⟨#[]⟩]) uDr2w1 rfl ⟨by rw[HG];rfl,by rw[HG];exact H.out _ _ _ _⟩
 rw[if_neg a0] at HG
 have n0:¬(km:Int)<3:=by omega
 by_cases a1:km<8
 ·have d:(km:Int)<8:=by omega
  rw[if_pos a1] at HG
  go_enter Tryz.func98,Tryz.ntmps98
  go_wp2_with fail
  refine K1.out.mono ?_
  rintro e w1 ⟨rfl,hr,V⟩
  have H:=zH (FIN.out w1 V _ hr)
  have c0:=V.c 0 _ rfl
  have c1:=V.c 1 _ rfl
  have c2:=V.c 2 _ rfl
  have c3:=V.c 3 _ rfl
  have f:=V.f
  clear V hr KN FIN K1
  go_wp2_with fail
  refine bodyPost_ret (v:=.agg #[.int .i64 2,.int .i64 (1+(x7:Int)),.int .i64 0,.string ⟨#[]⟩]) uDr2w1 rfl ⟨by rw[HG];rfl,by rw[HG];exact H.out _ _ _ _⟩
 rw[if_neg a1] at HG
 have n1:¬(km:Int)<8:=by omega
 by_cases a2:km<11
 ·have d:(km:Int)<11:=by omega
  rw[if_pos a2] at HG
  go_enter Tryz.func98,Tryz.ntmps98
  go_wp2_with fail
  refine K1.out.mono ?_
  rintro e w1 ⟨rfl,hr,V⟩
  have H:=zH (FIN.out w1 V _ hr)
  have c0:=V.c 0 _ rfl
  have c1:=V.c 1 _ rfl
  have c2:=V.c 2 _ rfl
  have c3:=V.c 3 _ rfl
  have f:=V.f
  clear V hr KN FIN K1
  go_wp2_with fail
  refine bodyPost_ret (v:=.agg #[.int .i64 3,.int .i64 (1+(x10:Int)),.int .i64 0,.string ⟨#[]⟩]) uDr2w1 rfl ⟨by rw[HG];rfl,by rw[HG];exact H.out _ _ _ _⟩
 rw[if_neg a2] at HG
 have n2:¬(km:Int)<11:=by omega
 by_cases a3:km=11
 ·rw[if_pos a3] at HG
  subst a3
  go_enter Tryz.func98,Tryz.ntmps98
  go_wp2_with fail
  refine K1.out.mono ?_
  rintro e w1 ⟨rfl,hr,V⟩
  have H:=zH (FIN.out w1 V _ hr)
  have c0:=V.c 0 _ rfl
  have c1:=V.c 1 _ rfl
  have c2:=V.c 2 _ rfl
  have c3:=V.c 3 _ rfl
  have f:=V.f
  clear V hr KN FIN K1
  go_wp2_with fail
  refine bodyPost_ret (v:=.agg #[.int .i64 4,.int .i64 (1+(x10:Int)),.int .i64 0,.string ⟨#[]⟩]) uDr2w1 rfl ⟨by rw[HG];rfl,by rw[HG];exact H.out _ _ _ _⟩
 rw[if_neg a3] at HG
 have n3:((km:Int) == 11)=false:=by simp;omega
 by_cases a4:km=12
 ·rw[if_pos a4] at HG
  subst a4
  go_enter Tryz.func98,Tryz.ntmps98
  go_wp2_with fail
  refine K1.out.mono ?_
  rintro e w1 ⟨rfl,hr,V⟩
  have H:=zH (FIN.out w1 V _ hr)
  have c0:=V.c 0 _ rfl
  have c1:=V.c 1 _ rfl
  have c2:=V.c 2 _ rfl
  have c3:=V.c 3 _ rfl
  have f:=V.f
  clear V hr KN FIN K1
  go_wp2_with fail
  refine bodyPost_ret (v:=.agg #[.int .i64 9,.int .i64 0,.int .i64 0,.string ⟨#[]⟩]) uDr2w1 rfl ⟨by rw[HG];rfl,by rw[HG];exact H.out _ _ _ _⟩
 rw[if_neg a4] at HG
 have n4:((km:Int) == 12)=false:=by simp;omega
 exact tDr2w1
theorem genFn_any (two:Bool) (B P:Nat) (w:World) (bs:List Nat) (pos:Nat) (h:Rr B P w bs pos):Calls Tryz.prog 98 #[.pointer (some ⟨P,0,none⟩),.bool two] w fun e w'=>e=.returned (.agg #[.int .i64 (Pl.gfn bs pos two).1.k,.int .i64 (Pl.gfn bs pos two).1.a,.int .i64 (Pl.gfn bs pos two).1.b,.string (Pl.ba (Pl.gfn bs pos two).1.nm)])/\Dw B P w w' bs (Pl.gfn bs pos two).2:=by
 cases two
 ·exact genFn_false B P w bs pos h
 exact genFn_true B P w bs pos h
end Go.Proofs.YtbiiicbfpcfgdaaGreatDoor
