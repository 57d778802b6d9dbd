import Derived.Test.YtbiiicbfpcfgdaaGreatDoorTog
namespace Go.Proofs.YtbiiicbfpcfgdaaGreatDoor
open Go.RowKit
set_option maxRecDepth 100000
set_option maxHeartbeats 16000000
set_option linter.unusedVariables false
namespace Pl
structure Itk where
 k:Int
 tx:ByteArray
 v:Int
def noTk:Itk:=⟨0,⟨#[]⟩,0⟩
def tkAt (l:List Itk) (i:Nat):Itk:=(l[i]?).getD noTk
end Pl
def RdJ (B:Nat) (w:World) (ao:Option Addr) (l:List Pl.Itk):Prop :=
 l=[]\/∃b off,b<B/\ao=some ⟨b,off,none⟩/\∀(i:Nat) (t:Pl.Itk),l[i]? = some t->w.cell? ⟨b,off+i * 3,none⟩=some (.int .i64 t.k)/\w.cell? ⟨b,off+i * 3+1,none⟩=some (.string t.tx)/\w.cell? ⟨b,off+i * 3+2,none⟩=some (.int .i64 t.v)
theorem RdJ.keep {B:Nat}{w w':World}{ao:Option Addr}{l:List Pl.Itk}(h:RdJ B w ao l) (hb:Below B w w'):RdJ B w' ao l:=by
 rcases h with h|⟨b,off,hB,rfl,hc⟩
 ·exact .inl h
 refine .inr ⟨b,off,hB,rfl,fun i t hi=>?_⟩
 obtain⟨h0,h1,h2⟩:=hc i t hi
 exact⟨(hb.cell (p:=⟨b,_,none⟩) hB).trans h0,(hb.cell (p:=⟨b,_,none⟩) hB).trans h1,(hb.cell (p:=⟨b,_,none⟩) hB).trans h2⟩
theorem look_any (l:List Pl.Itk) (p cap:Nat) (ao:Option Addr) (at' ah:Nat) (w:World) (hl:l.length<=1048576) (ha:at'<=1048600) (hh:ah<=10) (hp:p<w.heap.size)
  (c0:w.cell? ⟨p,0,none⟩=some (.slice ao l.length cap)) (c1:w.cell? ⟨p,1,none⟩=some (.int .i64 at')) (hR:RdJ w.heap.size w ao l) :
  Calls Tryz.prog 65 #[.pointer (some ⟨p,0,none⟩),.int .i64 ah] w fun e w'=>e=.returned (.agg #[.int .i64 (Pl.tkAt l (at'+ah)).k,.string (Pl.tkAt l (at'+ah)).tx,.int .i64 (Pl.tkAt l (at'+ah)).v])/\Below w.heap.size w w':=by
 have HB:Hid (∀o,Below w.heap.size w (w.alloc o)):=fun o=>(Below.refl _ _).alloc (Nat.le_refl _) _
 have d0:∀o,(w.alloc o).cell? ⟨p,0,none⟩=some (.slice ao l.length cap):=fun o=>((HB.out o).cell (p:=⟨p,0,none⟩) hp).trans c0
 have d1:∀o,(w.alloc o).cell? ⟨p,1,none⟩=some (.int .i64 at'):=fun o=>((HB.out o).cell (p:=⟨p,1,none⟩) hp).trans c1
 by_cases hlt:at'+ah<l.length
 ·obtain⟨b,off,hb,rfl,hc⟩:∃b off,b<w.heap.size/\ao=some ⟨b,off,none⟩/\∀(i:Nat) (t:Pl.Itk),l[i]? = some t->w.cell? ⟨b,off+i * 3,none⟩=some (.int .i64 t.k)/\w.cell? ⟨b,off+i * 3+1,none⟩=some (.string t.tx)/\w.cell? ⟨b,off+i * 3+2,none⟩=some (.int .i64 t.v):=by
   rcases hR with rfl|h
   ·simp at hlt
   exact h
  have hT:l[at'+ah]? = some (Pl.tkAt l (at'+ah)):=by unfold Pl.tkAt;rw[List.getElem?_eq_getElem hlt];rfl
  have hk:=hc _ _ hT
  have e0:∀o,(w.alloc o).cell? ⟨b,off+(at'+ah) * 3,none⟩=some (.int .i64 (Pl.tkAt l (at'+ah)).k):=fun o=>((HB.out o).cell (p:=⟨b,_,none⟩) hb).trans hk.1
  have e1:∀o,(w.alloc o).cell? ⟨b,off+(at'+ah) * 3+1,none⟩=some (.string (Pl.tkAt l (at'+ah)).tx):=fun o=>((HB.out o).cell (p:=⟨b,_,none⟩) hb).trans hk.2.1
  have e2:∀o,(w.alloc o).cell? ⟨b,off+(at'+ah) * 3+2,none⟩=some (.int .i64 (Pl.tkAt l (at'+ah)).v):=fun o=>((HB.out o).cell (p:=⟨b,_,none⟩) hb).trans hk.2.2
  clear hk hT hc hR c0 c1
  generalize Pl.tkAt l (at'+ah)=t at *
  generalize l.length=n at *
  go_enter Tryz.func65,Tryz.ntmps65
  go_wp2
  refine bodyPost_ret (v:=.agg #[.int .i64 t.k,.string t.tx,.int .i64 t.v]) (by simp[results,Tryz.results65,go_sem]) rfl ⟨rfl,HB.out _⟩
 have hT:Pl.tkAt l (at'+ah)=Pl.noTk:=by unfold Pl.tkAt;rw[List.getElem?_eq_none oM];rfl
 rw[hT]
 clear hT hR c0 c1
 generalize l.length=n at *
 go_enter Tryz.func65,Tryz.ntmps65
 go_wp2
 refine bodyPost_ret (v:=.agg #[.int .i64 0,.string ⟨#[]⟩,.int .i64 0]) (by simp[results,Tryz.results65,go_sem]) rfl ⟨rfl,HB.out _⟩
structure Ps (w:World) (p:Nat) (ao:Option Addr) (n cap a o:Nat) (be:Bool):Prop where
 lt:p<w.heap.size
 c0:w.cell? ⟨p,0,none⟩=some (.slice ao n cap)
 c1:w.cell? ⟨p,1,none⟩=some (.int .i64 a)
 c2:w.cell? ⟨p,2,none⟩=some (.int .i64 o)
 c3:w.cell? ⟨p,3,none⟩=some (.bool be)
 fz:∀j,w.frozen? ⟨p,j,none⟩=false
theorem Ps.keep {w w':World}{p n cap a o:Nat}{ao:Option Addr}{be:Bool}(h:Ps w p ao n cap a o be) (hb:Below w.heap.size w w'):Ps w' p ao n cap a o be :=
 ⟨Nat.lt_of_lt_of_le h.lt hb.size,bcell hb h.lt h.c0,bcell hb h.lt h.c1,bcell hb h.lt h.c2,bcell hb h.lt h.c3,fun j=>bfroz hb h.lt (h.fz j)⟩
theorem Ps.at' {w:World}{p n cap a o:Nat}{ao:Option Addr}{be:Bool}(h:Ps w p ao n cap a o be) (a2:Nat):Ps (w.setCell ⟨p,1,none⟩ (.int .i64 a2)) p ao n cap a2 o be :=
 ⟨by simpa using h.lt,(World.cell?_setCell_other _ _ _ _ sI).trans h.c0,World.cell?_setCell_same _ _ _ h.c1,(World.cell?_setCell_other _ _ _ _ sI).trans h.c2,(World.cell?_setCell_other _ _ _ _ sI).trans h.c3,fun j=>by rw[World.frozen?_setCell];exact h.fz j⟩
theorem grown_set {B:Nat}{w w':World}(hb:Below B w w') (hB:w.heap.size<=B) (p o:Nat) (v:Value):w.grownBy (w'.setCell ⟨p,o,none⟩ v) (some p) :=
 ⟨hb.os,hb.tape,hb.output,by simpa using hb.size,fun k hk hn=>(Below.heap_setCell _ _ _ k (fun e=>hn (by rw[e]))).trans (hb.block k oM)⟩
theorem Ps.far {w:World}{p n cap a o:Nat}{ao:Option Addr}{be:Bool}(h:Ps w p ao n cap a o be) {b:Nat}(hb:¬p=b) (k:Nat) (vs:List Value):Ps (w.setCells b k vs) p ao n cap a o be:=by
 have g (j:Nat):(w.setCells b k vs).cell? ⟨p,j,none⟩=w.cell? ⟨p,j,none⟩:=World.cell?_setCells_out _ _ _ _ _ (fun e _=>absurd e hb)
 exact⟨by rw[setCells_size];exact h.lt,(g 0).trans h.c0,(g 1).trans h.c1,(g 2).trans h.c2,(g 3).trans h.c3,fun j=>by rw[World.frozen?_setCells];exact h.fz j⟩
theorem grown_then {B:Nat}{w w1 w2:World}{r:Option Nat}(h:w.grownBy w1 r) (hb:Below B w1 w2) (hB:w.heap.size<=B):w.grownBy w2 r :=
 ⟨hb.os.trans h.os,hb.tape.trans h.tape,hb.output.trans h.output,Nat.le_trans h.size hb.size,fun k hk hn=>(hb.block k oM).trans (h.block k hk hn)⟩
theorem next_any (l:List Pl.Itk) (p cap a o:Nat) (ao:Option Addr) (be:Bool) (w:World) (hl:l.length<=1048576) (ha:a<=1048590) (hP:Ps w p ao l.length cap a o be) (hR:RdJ w.heap.size w ao l) :
  Calls Tryz.prog 67 #[.pointer (some ⟨p,0,none⟩)] w fun e w'=>e=.returned (.agg #[.int .i64 (Pl.tkAt l a).k,.string (Pl.tkAt l a).tx,.int .i64 (Pl.tkAt l a).v])/\Ps w' p ao l.length cap (a+1) o be/\w.grownBy w' (some p):=by
 have HB:Hid (∀ob,Below w.heap.size w (w.alloc ob)):=fun ob=>(Below.refl _ _).alloc (Nat.le_refl _) _
 have K:Hid (∀ob,Calls Tryz.prog 65 #[.pointer (some ⟨p,0,none⟩),.int .i64 0] (w.alloc ob) fun e w'=>e=.returned (.agg #[.int .i64 (Pl.tkAt l a).k,.string (Pl.tkAt l a).tx,.int .i64 (Pl.tkAt l a).v])/\Below (w.heap.size+1) (w.alloc ob) w'):=fun ob=>by
  have h:=look_any l p cap ao a 0 (w.alloc ob) hl oM oM (by have:=hP.lt;simp;omega) (hP.keep (HB.out ob)).c0 (hP.keep (HB.out ob)).c1 (by rcases hR.keep (HB.out ob) with h | ⟨b,off,hB,e,hc⟩;exact .inl h;exact .inr ⟨b,off,by simp;omega,e,hc⟩)
  simpa using h
 have HP:=zH hP
 clear hR hP
 generalize Pl.tkAt l a=t at *
 generalize l.length=n at *
 go_enter Tryz.func67,Tryz.ntmps67
 go_wp2_with fail
 refine(K.out _).mono ?_
 rintro e w1 ⟨rfl,hb1⟩
 have B1:=zH ((HB.out _).trans (hb1.mono (Nat.le_succ _)))
 have r0:=bcell hb1 (b:=w.heap.size) (j:=0) oM (by simp[go_sem];rfl)
 have r1:=bcell hb1 (b:=w.heap.size) (j:=1) oM (by simp[go_sem];rfl)
 have r2:=bcell hb1 (b:=w.heap.size) (j:=2) oM (by simp[go_sem];rfl)
 have rf:∀j,w1.frozen? ⟨w.heap.size,j,none⟩=false:=fun j=>bfroz hb1 oM (by simp[go_sem])
 have hs1:w.heap.size<w1.heap.size:=by have:=hb1.size;simp at this;omega
 have hpl:=HP.out.lt
 have PW:=zH (HP.out.keep B1.out)
 have BW:=zH B1.out
 have PA:Hid (∀ob,Ps (w1.alloc ob) p ao n cap a o be):=fun ob=>(HP.out.keep B1.out).keep ((Below.refl _ _).alloc (Nat.le_refl _) _)
 have BA:Hid (∀ob,Below w.heap.size w (w1.alloc ob)):=fun ob=>B1.out.alloc oM _
 have q1:w1.cell? ⟨p,1,none⟩=some (.int .i64 a):=(HP.out.keep B1.out).c1
 have qf:∀j,w1.frozen? ⟨p,j,none⟩=false:=(HP.out.keep B1.out).fz
 have hpn:¬w.heap.size=p:=by omega
 have hpn2:¬p=w.heap.size:=by omega
 have hpn3:¬w1.heap.size=p:=by omega
 have hpn4:¬p=w1.heap.size:=by omega
 have hpl1:p<w1.heap.size:=by omega
 clear hb1 K HP HB B1
 have E:Hid (∀(vs:List Value) (ob:Obj) (X:World),X=(((w1.setCell ⟨p,1,none⟩ (.int .i64 ((a+1:Nat):Int))).setCells w.heap.size 0 vs).alloc ob)->Ps X p ao n cap (a+1) o be/\w.grownBy X (some p)):=fun vs ob X e=>by
  subst e
  refine⟨((PW.out.at' (a+1)).far hpn2 0 vs).keep ((Below.refl _ _).alloc (Nat.le_refl _) _),?_⟩
  refine grown_then (grown_set BW.out (Nat.le_refl _) p 1 _) ((setCells_below (B:=w.heap.size) _ (Nat.le_refl _) vs 0 _ (Below.refl _ _)).alloc (by rw[setCells_size];simp;omega) _) (Nat.le_refl _)
 go_wp2_with fail
 refine bodyPost_ret (v:=.agg #[.int .i64 t.k,.string t.tx,.int .i64 t.v]) (by simp[results,Tryz.results67,go_sem,r0,r1,r2,hs1]) rfl ⟨rfl,E.out [.int .i64 t.k,.string t.tx,.int .i64 t.v] _ _ rfl⟩
theorem l3Fine_any (st:Value) (fr ne:Int) (ok lo:Bool) (w:World) (hs:∃ao n cap,st=.slice ao n cap) :
  Calls Tryz.prog 34 #[.agg #[st,.int .i64 fr,.bool ok,.int .i64 ne,.bool lo]] w fun e w'=>e=.returned (.bool (decide (ne<=40) && !lo))/\Below w.heap.size w w':=by
 have HB:Hid (∀o,Below w.heap.size w (w.alloc o)):=fun o=>(Below.refl _ _).alloc (Nat.le_refl _) _
 obtain⟨ao,n,cap,rfl⟩:=hs
 by_cases h:ne<=40
 ·rw[decide_eq_true h,Bool.true_and]
  cases lo
  ·go_enter Tryz.func34,Tryz.ntmps34
   go_wp2
   go_ret
   exact⟨rfl,HB.out _⟩
  go_enter Tryz.func34,Tryz.ntmps34
  go_wp2
  go_ret
  exact⟨rfl,HB.out _⟩
 rw[decide_eq_false h,Bool.false_and]
 go_enter Tryz.func34,Tryz.ntmps34
 go_wp2
 go_ret
 exact⟨rfl,HB.out _⟩
theorem derived_any (k n:Int) (w:World) :
  Calls Tryz.prog 115 #[.int .i64 k,.int .i64 n] w fun e w'=>e=.returned (.agg #[.int .i64 (if n=0 then 0 else k),.int .i64 n,.int .i64 0,.string ⟨#[]⟩])/\Below w.heap.size w w':=by
 have HB:Hid (∀o,Below w.heap.size w (w.alloc o)):=fun o=>(Below.refl _ _).alloc (Nat.le_refl _) _
 by_cases h:n=0
 ·subst h
  rw[if_pos rfl]
  go_enter Tryz.func115,Tryz.ntmps115
  go_wp2
  refine bodyPost_ret (v:=.agg #[.int .i64 0,.int .i64 0,.int .i64 0,.string ⟨#[]⟩]) (by simp[results,Tryz.results115,go_sem]) rfl ⟨rfl,HB.out _⟩
 have h':(n == 0)=false:=by simpa using h
 rw[if_neg h]
 clear h
 go_enter Tryz.func115,Tryz.ntmps115
 go_wp2
 refine bodyPost_ret (v:=.agg #[.int .i64 k,.int .i64 n,.int .i64 0,.string ⟨#[]⟩]) (by simp[results,Tryz.results115,go_sem]) rfl ⟨rfl,HB.out _⟩
theorem derived2_any (a b:Int) (w:World) :
  Calls Tryz.prog 117 #[.int .i64 a,.int .i64 b] w fun e w'=>e=.returned (.agg (if a=0\/b=0 then #[.int .i64 0,.int .i64 0,.int .i64 0,.string ⟨#[]⟩] else #[.int .i64 8,.int .i64 a,.int .i64 b,.string ⟨#[]⟩]))/\Below w.heap.size w w':=by
 have HB:Hid (∀o,Below w.heap.size w (w.alloc o)):=fun o=>(Below.refl _ _).alloc (Nat.le_refl _) _
 by_cases h:a=0
 ·subst h
  rw[if_pos (.inl rfl)]
  go_enter Tryz.func117,Tryz.ntmps117
  go_wp2
  refine bodyPost_ret (v:=.agg #[.int .i64 0,.int .i64 0,.int .i64 0,.string ⟨#[]⟩]) (by simp[results,Tryz.results117,go_sem]) rfl ⟨rfl,HB.out _⟩
 have h':(a == 0)=false:=by simpa using h
 by_cases h2:b=0
 ·subst h2
  rw[if_pos (.inr rfl)]
  clear h
  go_enter Tryz.func117,Tryz.ntmps117
  go_wp2
  refine bodyPost_ret (v:=.agg #[.int .i64 0,.int .i64 0,.int .i64 0,.string ⟨#[]⟩]) (by simp[results,Tryz.results117,go_sem]) rfl ⟨rfl,HB.out _⟩
 have h2':(b == 0)=false:=by simpa using h2
 rw[if_neg (by simp[h,h2])]
 clear h h2
 go_enter Tryz.func117,Tryz.ntmps117
 go_wp2
 refine bodyPost_ret (v:=.agg #[.int .i64 8,.int .i64 a,.int .i64 b,.string ⟨#[]⟩]) (by simp[results,Tryz.results117,go_sem]) rfl ⟨rfl,HB.out _⟩
end Go.Proofs.YtbiiicbfpcfgdaaGreatDoor
