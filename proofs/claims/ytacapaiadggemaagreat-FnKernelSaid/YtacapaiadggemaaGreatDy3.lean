import Derived.Lib.BufferMore
import Derived.Test.YtacapaiadggemaaGreatTwoR
import Derived.Laws.Bits64b
import Derived.Laws.CopyOwn
import Derived.Deep.CutRange
namespace Go.Proofs.YtacapaiadggemaaGreat
open Go.RowKit
set_option maxRecDepth 100000
set_option maxHeartbeats 16000000
set_option linter.unusedVariables false
def RdB (B:Nat) (w:World) (ao:Option Addr) (n:Nat):Prop :=
 n=0\/∃b off,b<B/\ao=some ⟨b,off,none⟩/\∀i,i<n->∃x:Nat,x<=255/\w.cell? ⟨b,off+i,none⟩=some (.int .u8 (x:Int))
theorem RdB.keep {B n:Nat} {w w':World} {ao:Option Addr} (h:RdB B w ao n) (hb:Below B w w'):RdB B w' ao n:=by
 rcases h with h | ⟨b,off,hB,rfl,hc⟩
 ·exact .inl h
 refine .inr ⟨b,off,hB,rfl,fun i hi=>?_⟩
 obtain ⟨x,h1,h2⟩:=hc i hi
 exact ⟨x,h1,(hb.cell (p:=⟨b,off+i,none⟩) hB).trans h2⟩
theorem RdB.less {B n m:Nat} {w:World} {ao:Option Addr} (h:RdB B w ao n) (hm:m<=n):RdB B w ao m:=by
 rcases h with h | ⟨b,off,hB,rfl,hc⟩
 ·exact .inl (by omega)
 exact .inr ⟨b,off,hB,rfl,fun i hi=>hc i (by omega)⟩
def Rdr (B P:Nat) (w:World):Prop :=
 B<=P/\∃(ao:Option Addr) (n cap pos:Nat),n<=1000/\pos<=n/\w.heap[P]? = some (.cells #[.slice ao n cap,.int .i64 (pos:Int)] 81 (0,0))/\RdB B w ao n
theorem Rdr.lt {B P:Nat} {w:World} (h:Rdr B P w):P<w.heap.size:=by
 obtain ⟨_,ao,n,cap,pos,_,_,hk,_⟩:=h
 exact (Array.getElem?_eq_some_iff.1 hk).1
theorem Rdr.keep {B P:Nat} {w w':World} (h:Rdr B P w) (hb:Below w.heap.size w w'):Rdr B P w':=by
 have hlt:=h.lt
 obtain ⟨hB,ao,n,cap,pos,h1,h2,hk,hr⟩:=h
 exact ⟨hB,ao,n,cap,pos,h1,h2,(hb.block P hlt).trans hk,hr.keep (hb.mono (by omega))⟩
theorem Rdr.kept {B P:Nat} {w w':World} {r:Option Nat} (h:Rdr B P w) (hg:w.grownBy w' r) (hr:∀k,r=some k->B<=k/\¬k=P):Rdr B P w':=by
 have hlt:=h.lt
 obtain ⟨hB,ao,n,cap,pos,h1,h2,hk,hrd⟩:=h
 have hne:r ≠ some P:=fun e=>(hr P e).2 rfl
 refine ⟨hB,ao,n,cap,pos,h1,h2,(hg.block P hlt (by intro e; exact hne e.symm)).trans hk,?_⟩
 refine hrd.keep ⟨hg.os,hg.tape,hg.output,hg.size,fun k hk'=>hg.block k (by omega) (fun e=>by have:=(hr k e.symm).1; omega)⟩
theorem grown_drewN {w w':World} {r:Option Nat} (n:Nat) (h:(w.drewN n).grownBy w' r):w.grownBy w' r:=⟨h.os,h.tape,h.output,h.size,h.block⟩
theorem grown_set (w:World) (P j:Nat) (v:Value):w.grownBy (w.setCell ⟨P,j,none⟩ v) (some P) :=
 ⟨rfl,rfl,rfl,by simp,fun k _ hk=>heap_setCell_other w ⟨P,j,none⟩ k v (fun e=>hk (by simp [e]))⟩
theorem grown_same (w:World) (n:Nat) (r:Option Nat):w.grownBy (w.drewN n) r:=⟨rfl,rfl,rfl,Nat.le_refl _,fun _ _ _=>rfl⟩
theorem grown_below {B P:Nat} {w w':World} (h:w.grownBy w' (some P)) (hB:B<=P) (hw:B<=w.heap.size):Below B w w' :=
 ⟨h.os,h.tape,h.output,h.size,fun k hk=>h.block k (by omega) (fun e=>by injection e with e; omega)⟩
def NxPost (B P:Nat) (w:World) (e:Ending) (w':World):Prop:=∃x:Nat,e=.returned (.int .i64 (x:Int))/\x<=255/\Rdr B P w'/\w.grownBy w' (some P)
theorem NxPost.mk {B P:Nat} {w w':World} {x:Nat} {y:Int} (h0:y=(x:Int)) (h1:x<=255) (hr:Rdr B P w') (hg:w.grownBy w' (some P)):NxPost B P w (.returned (.int .i64 y)) w':=⟨x,by rw [h0],h1,hr,hg⟩
theorem Rdr.step {B P n cap pos:Nat} {w:World} {ao:Option Addr} (hB:B<=P) (h1:n<=1000) (hp:pos<n) (hk:w.heap[P]? = some (.cells #[.slice ao n cap,.int .i64 (pos:Int)] 81 (0,0))) (hr:RdB B w ao n):Rdr B P (w.setCell ⟨P,1,none⟩ (.int .i64 ((pos:Int)+1))):=by
 refine ⟨hB,ao,n,cap,pos+1,h1,by omega,?_,hr.keep ((Below.refl B w).setCell hB _)⟩
 have:=Lib.heap_setCell_same (i:=1) hk (.int .i64 ((pos:Int)+1))
 simpa using this
theorem next_any (B P:Nat) (w:World) (h:Rdr B P w):Calls Tryz.prog 24 #[.pointer (some ⟨P,0,none⟩)] w (NxPost B P w):=by
 have H:=hideP h
 have hlt:=h.lt
 obtain ⟨hB,ao,n,cap,pos,hn,hp,hk,hr⟩:=h
 have c0:w.cell? ⟨P,0,none⟩=some (.slice ao n cap):=by rw [Lib.cell_of_heap hk]; rfl
 have c1:w.cell? ⟨P,1,none⟩=some (.int .i64 (pos:Int)):=by rw [Lib.cell_of_heap hk]; rfl
 have f1:w.frozen? ⟨P,1,none⟩=false:=frozen_of_row w P 1 _ 81 hk
 by_cases hlp:pos<n
 ·have hlp':(pos:Int)<(n:Int):=by omega
  have ST:Hid (∀m,Rdr B P ((w.drewN m).setCell ⟨P,1,none⟩ (.int .i64 ((pos:Int)+1)))):=fun m=>Rdr.step (w:=w.drewN m) hB hn hlp hk hr
  have GR:Hid (∀m,w.grownBy ((w.drewN m).setCell ⟨P,1,none⟩ (.int .i64 ((pos:Int)+1))) (some P)):=fun m=>grown_drewN m (grown_set (w.drewN m) P 1 _)
  rcases hr with h0 | ⟨b,off,hb,rfl,hc⟩
  ·omega
  obtain ⟨x,x1,cx⟩:=hc pos hlp
  clear hc hk H
  go_enter Tryz.func24,Tryz.ntmps24
  go_wp2_with fail
  go_quiet (fail)
  go_wp2_with fail
  go_quiet (fail)
  go_wp2_with fail
  go_ret
  exact NxPost.mk (x:=x) (by first | rfl | (rw [IntKind.wrap_i64]; omega)) x1 (ST.out _) (GR.out _)
 have hlp':¬(pos:Int)<(n:Int):=by omega
 clear hr hk
 go_enter Tryz.func24,Tryz.ntmps24
 go_wp2_with fail
 go_quiet (fail)
 go_wp2_with fail
 go_ret
 exact NxPost.mk (x:=0) rfl (by omega) (H.out.keep (below_drewN (Below.refl _ _) _)) (grown_same _ _ _)
theorem l1Open_any (B:Nat) (ao:Option Addr) (n cap:Nat) (w:World) (hn:n<=1048576) (hcap:n<=cap) (hm:cap<=9223372036854775807) (hB:B<=w.heap.size) (h:RdB B w ao n) :
  Calls Tryz.prog 23 #[.slice ao n cap] w fun e w'=>e=.returned (.pointer (some ⟨w.heap.size,0,none⟩))/\Rdr B w.heap.size w'/\Below w.heap.size w w':=by
 have AL:Hid (∀o,Below w.heap.size w (w.alloc o)):=fun o=>(Below.refl _ _).alloc (Nat.le_refl _) _
 have NEW:Hid (∀(n cap:Nat) (ao:Option Addr),n<=1000->RdB B w ao n->Rdr B w.heap.size (w.alloc (.cells #[.slice ao n cap,.int .i64 0] 81))):=fun n cap ao h1 h2 =>
  ⟨hB,ao,n,cap,0,h1,Nat.zero_le _,heap_alloc_new w _,h2.keep ((AL.out _).mono hB)⟩
 by_cases hlong:1000<n
 ·have hlong':(1000:Int)<(n:Int):=by omega
  have HR:=hideP (NEW.out 1000 cap ao (by omega) (h.less (by omega)))
  obtain ⟨b,off,rfl⟩:∃b off,ao=some ⟨b,off,none⟩:=by
   rcases h with h | ⟨b,off,_,e,_⟩
   ·omega
   exact ⟨b,off,e⟩
  clear h NEW
  go_enter Tryz.func23,Tryz.ntmps23
  go_wp2_with fail
  go_ret
  exact ⟨rfl,HR.out,AL.out _⟩
 have hlong':¬(1000:Int)<(n:Int):=by omega
 have HR:=hideP (NEW.out n cap ao (by omega) h)
 clear h NEW
 go_enter Tryz.func23,Tryz.ntmps23
 go_wp2_with fail
 go_ret
 exact ⟨rfl,HR.out,AL.out _⟩
def ClPost (B P:Nat) (w:World) (e:Ending) (w':World):Prop:=∃y:Int,e=.returned (.int .i64 y)/\(-3000000000<=y/\y<=3000000000)/\Rdr B P w'/\w.grownBy w' (some P)
theorem ClPost.mk {B P:Nat} {w w':World} {y:Int} (h1:-3000000000<=y/\y<=3000000000) (hr:Rdr B P w') (hg:w.grownBy w' (some P)):ClPost B P w (.returned (.int .i64 y)) w':=⟨y,rfl,h1,hr,hg⟩
theorem l1Cell_any (B P:Nat) (w:World) (h:Rdr B P w):Calls Tryz.prog 99 #[.pointer (some ⟨P,0,none⟩)] w (ClPost B P w):=by
 have KN:=hideP (next_any B P w h)
 clear h
 go_enter Tryz.func99,Tryz.ntmps99
 go_wp2_with fail
 refine KN.out.mono ?_
 rintro e w1 ⟨x,rfl,hx,hr,hg⟩
 have R1:=hideP hr
 have G1:=hideP hg
 clear hr hg KN
 by_cases h1:x=255
 ·subst h1
  go_wp2_with fail
  go_ret
  exact ClPost.mk (by omega) R1.out G1.out
 by_cases h2:x=254
 ·subst h2
  go_wp2_with fail
  go_ret
  exact ClPost.mk (by omega) R1.out G1.out
 have e1:((x:Int) == 255)=false:=by rw [beq_eq_false_iff_ne]; omega
 have e2:((x:Int) == 254)=false:=by rw [beq_eq_false_iff_ne]; omega
 by_cases h3:250<=x
 ·have h3':(250:Int)<=(x:Int):=by omega
  go_wp2_with fail
  go_ret
  exact ClPost.mk (by first | omega | (rw [IntKind.wrap_i64]; omega)) R1.out G1.out
 have h3':¬(250:Int)<=(x:Int):=by omega
 by_cases h4:220<=x
 ·have h4':(220:Int)<=(x:Int):=by omega
  go_wp2_with fail
  go_ret
  exact ClPost.mk (by first | omega | (rw [IntKind.wrap_i64]; omega)) R1.out G1.out
 have h4':¬(220:Int)<=(x:Int):=by omega
 go_wp2_with fail
 go_ret
 exact ClPost.mk (by first | omega | (rw [IntKind.wrap_i64]; omega)) R1.out G1.out
theorem mask_small (a:Nat) (h:a<=1000):bits .and .u64 (a:Int) 4294967295=(a:Int):=by
 have h1:=bits_and_u64_nat a 4294967295 (by omega) (by omega)
 have e:a &&& 4294967295=a % 4294967296:=Nat.and_two_pow_sub_one_eq_mod a 32
 rw [e] at h1
 rw [show ((4294967295:Nat):Int)=4294967295 from rfl] at h1
 rw [h1]
 omega
theorem mul64_one (cp:Nat) (w:World) (h:cp<=1000):Calls Tryz.prog 154 #[.int .u64 1,.int .u64 (cp:Int)] w fun e w'=>e=.returned (.tuple #[.int .u64 0,.int .u64 (cp:Int)])/\w'=w:=by
 have e1:bits .and .u64 1 4294967295=1:=mask_small 1 (by omega)
 have e0:bits .and .u64 0 4294967295=0:=mask_small 0 (by omega)
 have e2:=mask_small cp h
 have d0:(cp:Int) / 4294967296=0:=by omega
 have wc:IntKind.u64.wrap (cp:Int)=(cp:Int):=by rw [IntKind.wrap_u64]; omega
 have w0:IntKind.u64.wrap 0=0:=by rw [IntKind.wrap_u64]; omega
 go_enter Tryz.func154,Tryz.ntmps154
 go_wp2
 go_ret2
 exact ⟨rfl,rfl⟩
theorem mul_one (cp:Nat) (w:World) (h:cp<=1000):Calls Tryz.prog 150 #[.int .u64 1,.int .u64 (cp:Int)] w fun e w'=>e=.returned (.tuple #[.int .u64 0,.int .u64 (cp:Int)])/\w'=w:=by
 have K:=hideP (mul64_one cp w h)
 go_enter Tryz.func150,Tryz.ntmps150
 go_wp2_with (go_at_call 154; refine K.out.mono ?_; rintro e w' ⟨rfl,rfl⟩)
 go_ret2
 exact ⟨rfl,rfl⟩
theorem sizeOf3 (w:World):(sizeOf (Tryz.prog.elem 23)).run Tryz.prog w=.ok 1 w:=by
 obtain ⟨i0,hi,hz0,hz1,hz2⟩:=info_parts Tryz.info3
 have e:Tryz.prog.elem 23=3:=by kernel_rfl
 rw [e]
 simp [sizeOf,typeInfo,hi,hz1]
theorem und22:Tryz.prog.underlying 23=some (.slice (Tryz.prog.elem 23)):=by
 have e:Tryz.prog.elem 23=3:=by kernel_rfl
 rw [e]
 exact Tryz.underlying23
theorem cut_lo (g cp j:Nat) (w:World) (h:j<cp):(Instr.sliceAt 23 (.slice (some ⟨g,0,none⟩) cp cp) (some (.int .i64 (j:Int))) none none).run Tryz.prog w=.ok (.slice (some ⟨g,j,none⟩) (cp-j) (cp-j)) w:=by
 rw [run_sliceAt_slice _ _ _ _ _ _ und22,run_slice_l _ _ _ _ _ und22 _ _ (by omega) (by omega),sizeOf3]
 have hne:¬cp=j:=by omega
 simp [Result.andThen,sliced,hne,Addr.add]
 omega
theorem cut_hi (g cp j:Nat) (w:World) (h:j<=cp) (h0:0<cp):(Instr.sliceAt 23 (.slice (some ⟨g,0,none⟩) cp cp) none (some (.int .i64 (j:Int))) none).run Tryz.prog w=.ok (.slice (some ⟨g,0,none⟩) j cp) w:=by
 rw [run_sliceAt_slice _ _ _ _ _ _ und22,run_slice_h _ _ _ _ _ und22 _ _ (by omega) (by omega),sizeOf3]
 have hne:¬cp=0:=by omega
 simp [Result.andThen,sliced,hne,Addr.add]
theorem exec_move {o:Oper} {a:Act} (x:Operand) (v:Value) (ho:o.op=Op.move x) (hx:a.eval x=v) (w:World):(execOp a.eval o).run Tryz.prog w=.ok (.value v) w:=by
 simp [execOp,ho,hx]
theorem exec_lo {o:Oper} {a:Act} (x y:Operand) (g cp j:Nat) (ho:o.op=Op.slice 23 x (some y) none none) (hx:a.eval x=.slice (some ⟨g,0,none⟩) cp cp) (hy:a.eval y=.int .i64 (j:Int)) (h:j<cp) (w:World) :
  (execOp a.eval o).run Tryz.prog w=.ok (.value (.slice (some ⟨g,j,none⟩) (cp-j) (cp-j))) w:=by
 simp [execOp,ho,hx,hy,cut_lo g cp j w h,Result.andThen]
theorem exec_hi {o:Oper} {a:Act} (x y:Operand) (g cp j:Nat) (ho:o.op=Op.slice 23 x none (some y) none) (hx:a.eval x=.slice (some ⟨g,0,none⟩) cp cp) (hy:a.eval y=.int .i64 (j:Int)) (h:j<=cp) (h0:0<cp) (w:World) :
  (execOp a.eval o).run Tryz.prog w=.ok (.value (.slice (some ⟨g,0,none⟩) j cp)) w:=by
 simp [execOp,ho,hx,hy,cut_hi g cp j w h h0,Result.andThen]
theorem owns_one (w:World) (x:Int) (base:Nat) (hb:base<=w.heap.size):(w.alloc (.cells #[.int .i64 x] 3)).ownsRow base 3 1 (.slice (some ⟨w.heap.size,0,none⟩) 1 1) 1 (([x]:List Int).map (Value.int .i64)) :=
 World.ownsRow_lit w #[.int .i64 x] 1 hb (by unfold maxLen; omega) rfl
theorem own_blk_ne {w:World} {B n z P:Nat} {v:Value} {e t:TypeId} {xs:List Value} {c:Array Value} (h:w.ownsRow B e z v n xs) (hP:w.heap[P]? = some (.cells c t (0,0))) (ht:¬t=e):¬v.ownBlock=some P:=by
 intro hv
 rcases h.2 with ⟨rfl,_⟩ | ⟨g,cap,cur,rfl,_,hg,_⟩
 ·simp [Value.ownBlock] at hv
 simp [Value.ownBlock] at hv
 subst hv
 rw [hg] at hP
 injection hP with hP
 injection hP with _ h2
 exact ht h2.symm
theorem Rdr.blk {B P:Nat} {w:World} (h:Rdr B P w):∃c,w.heap[P]? = some (.cells c 81 (0,0)):=by
 obtain ⟨_,ao,n,cap,pos,_,_,hk,_⟩:=h
 exact ⟨_,hk⟩
theorem grown_trans {a b c:World} {P:Nat} {r:Option Nat} (h:a.grownBy b (some P)) (k:b.grownBy c r) (hr:∀i,r=some i->i=P\/a.heap.size<=i):a.grownBy c (some P) :=
 ⟨k.os.trans h.os,k.tape.trans h.tape,k.output.trans h.output,Nat.le_trans h.size k.size,fun i hi hne=>(k.block i (Nat.lt_of_lt_of_le hi h.size) (fun e=>by
  rcases hr i e.symm with h1 | h1
  ·exact hne (by rw [h1])
  omega)).trans (h.block i hi hne)⟩
theorem grown_of_b {a b:World} (h:Below a.heap.size a b) (r:Option Nat):a.grownBy b r:=⟨h.os,h.tape,h.output,h.size,fun i hi _=>h.block i hi⟩
structure NsSt (B P:Nat) (w0:World) (v:Value) (zs:List Int) (w:World):Prop where
 o:w.ownsRow w0.heap.size 3 1 v zs.length (zs.map (Value.int .i64))
 k:∃g,v.ownBlock=some g
 r:Rdr B P w
 b:Below B w0 w
 s:w0.heap.size<=w.heap.size
 g:w0.grownBy w (some P)
 u:B<=w0.heap.size
theorem NsSt.keep {B P:Nat} {w0 w w':World} {v:Value} {zs:List Int} (h:NsSt B P w0 v zs w) (hb:Below w.heap.size w w'):NsSt B P w0 v zs w' :=
 ⟨owns_keep h.o hb,h.k,h.r.keep hb,h.b.trans (hb.mono (Nat.le_trans h.u h.s)),Nat.le_trans h.s hb.size,grown_trans h.g (grown_of_b hb none) (fun i e=>by cases e),h.u⟩
theorem NsSt.app {B P:Nat} {w0 w w':World} {v v':Value} {zs:List Int} {x:Int} (h:NsSt B P w0 v zs w) (hg:w.grownBy w' v.ownBlock) (ho:w'.ownsRow w0.heap.size 3 1 v' (zs.length+1) (zs.map (Value.int .i64)++[.int .i64 x]))
  {m:Nat} (hat:v'.ownBlock=v.ownBlock\/v'.ownBlock=some m):NsSt B P w0 v' (zs++[x]) w':=by
 obtain ⟨c,hc⟩:=h.r.blk
 refine ⟨by rw [List.length_append,List.map_append]; exact ho,?_,h.r.kept hg (fun k hk=>⟨Nat.le_trans h.u (h.o.lt k hk).1,fun e=>own_blk_ne h.o hc (by decide) (by rw [hk,e])⟩),h.b.grown hg (Nat.le_trans h.u h.s) (fun k hk=>Nat.le_trans h.u (h.o.lt k hk).1),Nat.le_trans h.s hg.size,grown_trans h.g hg (fun i e=>.inr (h.o.lt i e).1),h.u⟩
 rcases hat with e | e
 ·rw [e]; exact h.k
 exact ⟨_,e⟩
theorem NsSt.new {B P:Nat} {w0 w:World} (hr:Rdr B P w) (hb:Below B w0 w) (hs:w0.heap.size<=w.heap.size) (hg:w0.grownBy w (some P)) (hu:B<=w0.heap.size):NsSt B P w0 (.slice (some ⟨w.heap.size,0,none⟩) 0 0) [] (w.alloc (.cells #[] 3)) :=
 ⟨World.ownsRow_lit w #[] 0 hs (by unfold maxLen; omega) rfl,⟨_,rfl⟩,hr.keep ((Below.refl _ _).alloc (Nat.le_refl _) _),hb.alloc (Nat.le_trans hu hs) _,by simp; omega,grown_trans hg (grown_of_b ((Below.refl _ _).alloc (Nat.le_refl _) _) none) (fun i e=>by cases e),hu⟩
theorem NsSt.one {B P:Nat} {w0 w:World} (x:Int) (hr:Rdr B P w) (hb:Below B w0 w) (hs:w0.heap.size<=w.heap.size) (hg:w0.grownBy w (some P)) (hu:B<=w0.heap.size):NsSt B P w0 (.slice (some ⟨w.heap.size,0,none⟩) 1 1) [x] (w.alloc (.cells #[.int .i64 x] 3)) :=
 ⟨owns_one w x w0.heap.size hs,⟨_,rfl⟩,hr.keep ((Below.refl _ _).alloc (Nat.le_refl _) _),hb.alloc (Nat.le_trans hu hs) _,by simp; omega,grown_trans hg (grown_of_b ((Below.refl _ _).alloc (Nat.le_refl _) _) none) (fun i e=>by cases e),hu⟩
theorem NsSt.form {B P:Nat} {w0 w:World} {v:Value} {zs:List Int} (h:NsSt B P w0 v zs w):∃g cap,v=.slice (some ⟨g,0,none⟩) zs.length cap/\zs.length<=cap/\cap<=9223372036854775807:=owns_some h.o h.k
def ShPost (B P:Nat) (w:World) (e:Ending) (w':World):Prop:=∃(v:Value) (zs:List Int),e=.returned v/\Pl.fitsB zs=true/\NsSt B P w v zs w'
theorem ShPost.mk {B P:Nat} {w w':World} {v:Value} {zs:List Int} (hf:Pl.fitsB zs=true) (h:NsSt B P w v zs w'):ShPost B P w (.returned v) w':=⟨v,zs,rfl,hf,h⟩
theorem Pl.fits_small (zs:List Int) (hl:zs.length<=3) (h:∀z∈zs,0<=z/\z<=4):Pl.fitsB zs=true:=by
 have five:∀z:Int,0<=z/\z<=4->z=0\/z=1\/z=2\/z=3\/z=4:=fun z _=>by omega
 match zs,hl,h with
 |[],_,_=>decide
 |[a],_,h =>
  rcases five a (h a (by simp)) with rfl | rfl | rfl | rfl | rfl <;> decide
 |[a,b],_,h =>
  rcases five a (h a (by simp)) with rfl | rfl | rfl | rfl | rfl <;> rcases five b (h b (by simp)) with rfl | rfl | rfl | rfl | rfl <;> decide
 |[a,b,c],_,h =>
  rcases five a (h a (by simp)) with rfl | rfl | rfl | rfl | rfl <;> rcases five b (h b (by simp)) with rfl | rfl | rfl | rfl | rfl <;> rcases five c (h c (by simp)) with rfl | rfl | rfl | rfl | rfl <;> decide
 |a::b::c::d::t,hl,_=>simp at hl
theorem six_cell (r:Nat) (hr:r<=5):∃z:Nat,z<=3/\∀w:World,(w.alloc (.cells #[.int .i64 0,.int .i64 1,.int .i64 1,.int .i64 2,.int .i64 2,.int .i64 3] 3)).cell? ⟨w.heap.size,r,none⟩=some (.int .i64 (z:Int)):=by
 match r,hr with
 |0,_=>exact ⟨0,by decide,fun w=>by simp [go_sem]⟩
 |1,_=>exact ⟨1,by decide,fun w=>by simp [go_sem]⟩
 |2,_=>exact ⟨1,by decide,fun w=>by simp [go_sem]⟩
 |3,_=>exact ⟨2,by decide,fun w=>by simp [go_sem]⟩
 |4,_=>exact ⟨2,by decide,fun w=>by simp [go_sem]⟩
 |5,_=>exact ⟨3,by decide,fun w=>by simp [go_sem]⟩
theorem rd_lit1 (w:World) (x:Int) (B:Nat) (hB:w.heap.size<B):Rd B (w.alloc (.cells #[.int .i64 x] 3)) (.slice (some ⟨w.heap.size,0,none⟩) 1 1) [x] :=
 ⟨_,_,rfl,.inr ⟨w.heap.size,0,hB,rfl,fun i hi=>by
  have:i=0:=by simpa using hi
  subst this
  simp [go_sem]⟩⟩
theorem l1Shape_any (B P:Nat) (w:World) (hBw:B<=w.heap.size) (h:Rdr B P w):Calls Tryz.prog 129 #[.pointer (some ⟨P,0,none⟩)] w (ShPost B P w):=by
 have KN:=hideP (next_any B P w h)
 have hB:=h.1
 clear h
 go_enter Tryz.func129,Tryz.ntmps129
 go_wp2_with fail
 refine KN.out.mono ?_
 rintro e w1 ⟨x,rfl,hx,hr,hg⟩
 have S1:=hideP (NsSt.new hr (grown_below hg hB hBw) hg.size hg hBw)
 clear hr hg KN
 obtain ⟨r6,hr6⟩:∃r6:Nat,(x:Int) % 6=(r6:Int):=⟨x % 6,by omega⟩
 have hr5:r6<=5:=by omega
 have hr5':(r6:Int)<6:=by omega
 obtain ⟨q,hq3,cq⟩:=six_cell r6 hr5
 have CQ:=hideP cq
 clear cq
 go_wp2_with fail
 generalize (w1.alloc (.cells #[] 3))=wa at *
 generalize w1.heap.size=N0 at *
 go_loopw [4,5] (fun ov i wr=>∃(j:Nat) (zs:List Int),j<=q/\i=.int .i64 (j:Int)/\Hid (zs.length=j)/\Hid (∀z∈zs,0<=z/\z<=4)/\Hid (NsSt B P w ov zs wr)) (fun _ i _=>q-(intOf i).toNat)
 case atStart=>exact ⟨0,[],Nat.zero_le _,rfl,(show ([]:List Int).length=0 from rfl),by intro z hz; simp at hz,S1⟩
 obtain ⟨j,zs,hj,rfl,hzl,hz4,ST⟩:=hrel
 clear S1
 obtain ⟨g,cap,eo,hc1,hc2⟩:=ST.out.form
 subst eo
 have cq:=CQ.out wr
 by_cases hlt:j<q
 ·have hlt':(j:Int)<(q:Int):=by omega
  obtain ⟨tz,htz⟩:∃tz,((x:Int) / 6+(j:Int) * 2) % 5=tz:=⟨_,rfl⟩
  have htz4:0<=tz/\tz<=4:=by omega
  have HZ:Hid (∀z∈zs++[tz],0<=z/\z<=4):=by
   intro z hz
   simp at hz
   rcases hz with hz | rfl
   ·exact hz4.out z hz
   exact htz4
  have HL:Hid ((zs++[tz]).length=j+1):=by show _=_; rw [List.length_append,hzl.out]; rfl
  have S2:Hid (NsSt B P w (.slice (some ⟨g,0,none⟩) zs.length cap) zs (wr.alloc (.cells #[.int .i64 0,.int .i64 1,.int .i64 1,.int .i64 2,.int .i64 2,.int .i64 3] 3))):=ST.out.keep ((Below.refl _ _).alloc (Nat.le_refl _) _)
  go_upto_region 6 with fail
  clear cq ST
  generalize (wr.alloc (.cells #[.int .i64 0,.int .i64 1,.int .i64 1,.int .i64 2,.int .i64 2,.int .i64 3] 3))=w2 at *
  have S5:Hid (NsSt B P w (.slice (some ⟨g,0,none⟩) zs.length cap) zs (w2.alloc (.cells #[.int .i64 tz] 3))):=S2.out.keep ((Below.refl _ _).alloc (Nat.le_refl _) _)
  have RO:Hid (Rd (w2.heap.size+1) (w2.alloc (.cells #[.int .i64 tz] 3)) (.slice (some ⟨w2.heap.size,0,none⟩) 1 1) [tz]):=rd_lit1 w2 tz _ (by omega)
  go_wp2_with (at_builtin; refine wpList_append_rd_at (base:=w.heap.size) _ rfl (.tmp 18) (.tmp 25) rfl (.slice (some ⟨g,0,none⟩) zs.length cap) (.slice (some ⟨w2.heap.size,0,none⟩) 1 1) rfl rfl zs.length zs [tz] S5.out.o RO.out (by have:=hzl.out; simp; omega) S5.out.s ?_)
  intro v' w6 ho hg hat
  have S6:=hideP (S5.out.app hg ho hat)
  clear ho hg hat S5 S2 RO
  go_wp2_with fail
  go_roundw
  case rel=>exact ⟨j+1,_,by omega,by go_num,HL.out,HZ,S6⟩
  simp [intOf]; omega
 have hlt':¬(j:Int)<(q:Int):=by omega
 have S2:Hid (NsSt B P w (.slice (some ⟨g,0,none⟩) zs.length cap) zs (wr.alloc (.cells #[.int .i64 0,.int .i64 1,.int .i64 1,.int .i64 2,.int .i64 2,.int .i64 3] 3))):=ST.out.keep ((Below.refl _ _).alloc (Nat.le_refl _) _)
 go_upto_region 7 with fail
 clear cq ST
 generalize (wr.alloc (.cells #[.int .i64 0,.int .i64 1,.int .i64 1,.int .i64 2,.int .i64 2,.int .i64 3] 3))=w2 at *
 by_cases h248:248<=x
 ·have h248':(248:Int)<=(x:Int):=by omega
  by_cases h2:x % 2=0
  ·have e2:(x:Int) % 2=0:=by omega
   have O1:=hideP (NsSt.one 1000 S2.out.r S2.out.b S2.out.s S2.out.g S2.out.u)
   clear S2
   go_wp2_with fail
   go_ret
   exact ShPost.mk (by decide) O1.out
  have e2:(x:Int) % 2=1:=by omega
  have O1:=hideP (NsSt.one 500 S2.out.r S2.out.b S2.out.s S2.out.g S2.out.u)
  clear S2
  go_wp2_with fail
  go_ret
  exact ShPost.mk (by decide) O1.out
 have h248':¬(248:Int)<=(x:Int):=by omega
 go_wp2_with fail
 go_ret
 exact ShPost.mk (Pl.fits_small zs (by have:=hzl.out; omega) hz4.out) S2.out
def repL (x:Int) (cp j:Nat):List Value:=List.replicate j (Value.int .i64 x)++List.replicate (cp-j) (Value.int .i64 0)
theorem repL_len (x:Int) (cp j:Nat) (h:j<=cp):(repL x cp j).length=cp:=by simp [repL]; omega
theorem repL_splice (x:Int) (cp j m:Nat) (h:j+m<=cp):splice (repL x cp j) j (List.replicate m (Value.int .i64 x))=repL x cp (j+m):=by
 unfold splice repL
 rw [List.take_append_of_le_length (by simp),List.take_of_length_le (by simp),List.length_replicate,List.drop_append,List.drop_of_length_le (by simp),List.nil_append,List.length_replicate,Nat.add_sub_cancel_left,List.drop_replicate,<- List.replicate_append_replicate,List.append_assoc]
 congr 3
 omega
theorem repL_cell (x:Int) (cp j i:Nat) (h:i<j):(repL x cp j)[i]? = some (.int .i64 x):=by
 unfold repL
 rw [List.getElem?_append_left (by simpa using h)]
 simp [h]
theorem own_rep (x:Int) (cp B g:Nat) (w:World) (hg:w.heap[g]? = some (.cells (repL x cp cp).toArray 3 (0,0))) (hB:B<=g) (hcp:cp<=1000):Own B w (.slice (some ⟨g,0,none⟩) cp cp) (List.replicate cp x):=by
 refine ⟨some ⟨g,0,none⟩,cp,by simp,.inr ⟨g,0,⟨hB,by simp,by omega,rfl⟩,(Array.getElem?_eq_some_iff.1 hg).1,rfl,fun i hi=>⟨?_,?_⟩⟩⟩
 ·rw [Nat.zero_add]
  have hi':i<cp:=by simpa using hi
  have:=cell_blk (j:=i) hg
  rw [this]
  simp [repL_cell x cp cp i hi',List.getD,hi']
 exact frozen_blk hg
theorem row_whole {w:World} {base g cp:Nat} {zs:List Value} (h:w.ownsRow base 3 1 (.slice (some ⟨g,0,none⟩) cp cp) cp zs):w.heap[g]? = some (.cells zs.toArray 3 (0,0)):=by
 rcases h.2 with ⟨e,_⟩ | ⟨g',cap,cur,e,_,hg,_,_,hsz,htk⟩
 ·cases e
 simp only [Value.slice.injEq,Option.some.injEq,Addr.mk.injEq,and_true,true_and] at e
 obtain ⟨rfl,rfl⟩:=e
 rw [Nat.mul_one] at hsz htk
 have:cur.toList=zs:=by rw [<- htk,List.take_of_length_le (by simp [hsz])]
 rw [hg,<- this]
theorem repeat_any (b:Nat) (x:Int) (cp:Nat) (w:World) (hb:b<w.heap.size) (hc:w.cell? ⟨b,0,none⟩=some (.int .i64 x)) (hcp:cp<=1000) :
  Calls Tryz.prog 146 #[.slice (some ⟨b,0,none⟩) 1 1,.int .i64 (cp:Int)] w fun e w'=>e=.returned (.slice (some ⟨w.heap.size,0,none⟩) cp cp)/\Own w.heap.size w' (.slice (some ⟨w.heap.size,0,none⟩) cp cp) (List.replicate cp x)/\Below w.heap.size w w':=by
 obtain ⟨i0,hi,hz0,hz1,hz2⟩:=info_parts Tryz.info3
 have HI:=hideP (And.intro hi (And.intro hz0 (And.intro hz1 hz2)))
 have HSZ:Hid ((Tryz.prog.info? 3).map (·.size)=some 1):=by show _=_; rw [hi]; simp [hz1]
 have KM:=hideP (fun w=>mul_one cp w hcp)
 have HC:=hideP hc
 have hneg:¬((cp:Int)<0):=by omega
 have wc:IntKind.u64.wrap (cp:Int)=(cp:Int):=by rw [IntKind.wrap_u64]; omega
 have wi:IntKind.i64.wrap (cp:Int)=(cp:Int):=by rw [IntKind.wrap_i64]; omega
 have hbig:¬((9223372036854775807:Int)<(cp:Int)):=by omega
 clear hi hz0 hz1 hz2 hc
 go_enter Tryz.func146,Tryz.ntmps146
 go_wp2_with (first
  |(go_at_call 150; refine (KM.out _).mono ?_; rintro e w ⟨rfl,rfl⟩)
  |(at_make; refine wpList_make_full _ rfl _ _ 23 rfl w.heap.size 3 i0 (.int .i64 0) 1 Tryz.underlying23 HI.out.1 HI.out.2.1 HI.out.2.2.1 _ _ _ _ cp rfl rfl rfl rfl ?b2 ?b3 ?b4 ?_))
 case b2=>rw [HI.out.2.2.2]; omega
 case b3=>unfold maxLen; omega
 case b4=>exact Nat.le_refl _
 intro w1 hown hgrow
 rw [made_zeros] at hown
 have B1:Hid (Below w.heap.size w w1):=(Below.refl _ _).grown hgrow (Nat.le_refl _) (by intro k h; cases h)
 have G1:Hid (w1.heap[w.heap.size]? = some (.cells (repL x cp 0).toArray 3 (0,0))):=by
  have:=row_whole hown
  show _=_
  rw [this]
  simp [repL]
 have hs1:=B1.out.size
 clear hown hgrow
 by_cases h0:cp=0
 ·subst h0
  go_wp2_with (refine wpList_copy_splice rfl (.tmp 31) (.tmp 32) 23 23 rfl 3 Tryz.underlying23 HSZ.out _ _ _ _ _ _ rfl rfl w.heap.size 0 (repL x 0 0) 3 G1.out [] ?c1 ?c2 ?c3 ?c4 w.heap.size w B1.out (Nat.le_refl _) ?_)
  case c1=>rfl
  case c3=>simp
  case c4=>intro v hv; simp at hv
  intro w2 HG2 hB2
  have B2:=hideP hB2
  clear hB2
  go_wp2_with fail
  go_loopw [8] (fun i wr=>i=.int .i64 0/\Hid (Below w.heap.size w wr)) (fun _ _=>0)
  case atStart=>exact ⟨rfl,B2⟩
  obtain ⟨rfl,hB⟩:=hrel
  go_wp2_with fail
  go_ret
  exact ⟨rfl,⟨_,_,rfl,.inl rfl⟩,hB.out⟩
 have HC1:Hid (w1.cell? ⟨b,0,none⟩=some (.int .i64 x)):=(B1.out.cell (p:=⟨b,0,none⟩) hb).trans HC.out
 obtain ⟨X1,hX1⟩:∃X1,X1=List.replicate 1 (Value.int .i64 x):=⟨_,rfl⟩
 have F1:Hid (X1.length=Nat.min 1 cp):=by
  show _=_
  rw [hX1]
  show 1=min 1 cp
  omega
 have F2:Hid (0<X1.length->(some ⟨w.heap.size,0,none⟩:Option Addr)=some ⟨w.heap.size,0,none⟩/\∃ad:Addr,(some ⟨b,0,none⟩:Option Addr)=some ad/\∀j v,X1[j]? = some v->w1.cell? (ad.add j)=some v):=by
  intro _
  refine ⟨rfl,⟨b,0,none⟩,rfl,fun j v hj=>?_⟩
  rw [hX1] at hj
  have:j=0:=by
   have:=(List.getElem?_eq_some_iff.1 hj).1
   simpa using this
  subst this
  simp at hj
  subst hj
  rw [Addr.add_lit]
  exact HC1.out
 have F3:Hid (0+X1.length<=(repL x cp 0).length):=by show _<=_; rw [repL_len x cp 0 (by omega),hX1]; simp; omega
 have F4:Hid (∀v∈X1,v.oneCell'=true):=by intro v hv; rw [hX1] at hv; rw [List.eq_of_mem_replicate hv]; rfl
 have F5:Hid (splice (repL x cp 0) 0 X1=repL x cp 1):=by show _=_; rw [hX1]; exact repL_splice x cp 0 1 (by omega)
 have F6:Hid (X1.length=1):=by show _=_; rw [hX1]; rfl
 clear hX1
 go_wp2_with (refine wpList_copy_splice rfl (.tmp 31) (.tmp 32) 23 23 rfl 3 Tryz.underlying23 HSZ.out _ _ _ _ _ _ rfl rfl w.heap.size 0 (repL x cp 0) 3 G1.out X1 F1.out F2.out F3.out F4.out w.heap.size w B1.out (Nat.le_refl _) ?_)
 intro w2 HG2 hB2
 have B2:=hideP hB2
 have G2:Hid (w2.heap[w.heap.size]? = some (.cells (repL x cp 1).toArray 3 (0,0))):=by
  have:=HG2.out
  rw [F5.out] at this
  exact this
 clear hB2 HG2
 rw [F6.out]
 go_wp2_with fail
 go_loopw [8] (fun i wr=>∃j:Nat,1<=j/\j<=cp/\i=.int .i64 j/\Hid (wr.heap[w.heap.size]? = some (.cells (repL x cp j).toArray 3 (0,0)))/\Hid (Below w.heap.size w wr)) (fun i _=>cp-(intOf i).toNat)
 case atStart=>exact ⟨1,by omega,by omega,rfl,G2,B2⟩
 obtain ⟨j,hj1,hj2,rfl,hG,hB⟩:=hrel
 by_cases hlt:j<cp
 rotate_left 1
 ·have jn:j=cp:=by omega
  subst jn
  go_wp2_with fail
  go_ret
  exact ⟨rfl,own_rep x _ _ _ _ hG.out (Nat.le_refl _) (by omega),hB.out⟩
 have hlt':(j:Int)<(cp:Int):=by omega
 obtain ⟨m,hm⟩:∃m,m=min j (cp-j):=⟨_,rfl⟩
 have hm1:m<=j:=by omega
 have hm2:j+m<=cp:=by omega
 have hm3:1<=m:=by omega
 have SP:Hid (splice (repL x cp j) j (List.replicate m (Value.int .i64 x))=repL x cp (j+m)):=repL_splice x cp j m hm2
 have D0:Hid (Below w.heap.size w wr.drew):=hB.out.drew
 have GD:Hid (wr.drew.heap[w.heap.size]? = some (.cells (repL x cp j).toArray 3 (0,0))):=hG.out
 obtain ⟨X2,hX2⟩:∃X2,X2=List.replicate m (Value.int .i64 x):=⟨_,rfl⟩
 have E1:Hid (X2.length=Nat.min j (cp-j)):=by
  show _=_
  rw [hX2,List.length_replicate]
  exact hm
 have E2:Hid (0<X2.length->(some ⟨w.heap.size,j,none⟩:Option Addr)=some ⟨w.heap.size,j,none⟩/\∃ad:Addr,(some ⟨w.heap.size,0,none⟩:Option Addr)=some ad/\∀q v,X2[q]? = some v->wr.drew.cell? (ad.add q)=some v):=by
  intro _
  refine ⟨rfl,⟨w.heap.size,0,none⟩,rfl,fun q v hq=>?_⟩
  rw [hX2] at hq
  have hqm:q<m:=by simpa using (List.getElem?_eq_some_iff.1 hq).1
  have ev:v=.int .i64 x:=by
   rw [List.getElem?_replicate,if_pos hqm] at hq
   simpa using hq.symm
  subst ev
  rw [Addr.add_lit,Nat.zero_add,cell_blk (j:=q) GD.out]
  have:=repL_cell x cp j q (by omega)
  simpa using this
 have E3:Hid (j+X2.length<=(repL x cp j).length):=by show _<=_; rw [repL_len x cp j hj2,hX2,List.length_replicate]; exact hm2
 have E4:Hid (∀v∈X2,v.oneCell'=true):=by intro v hv; rw [hX2] at hv; rw [List.eq_of_mem_replicate hv]; rfl
 have E6:Hid (X2.length=m):=by show _=_; rw [hX2,List.length_replicate]
 rw [<- hX2] at SP
 clear hm hX2 HC1 F1 F2 F3 F4 F5 F6 G2 B2 G1 HC KM HI
 have wj:IntKind.i64.wrap ((j:Int)+(m:Int))=(j:Int)+(m:Int):=by rw [IntKind.wrap_i64]; omega
 have hne:¬cp=j:=by omega
 have hcp0:0<cp:=by omega
 go_upto_region 9 with fail
 refine wp_region_held (S:=fun w'=>Below w.heap.size w w') (by kernel_rfl) ?_
 change wpAnyH _ _ _ _ _ _ _ _ (World.drew _)
 refine tz 0 (.int .i64 (j:Int)) rfl D0.out (fun w' _=>exec_move (.tmp 8) _ (by kernel_rfl) (by kernel_rfl) w') ?_
 refine tz 1 (.slice (some ⟨w.heap.size,0,none⟩) cp cp) rfl D0.out (fun w' _=>exec_move (.tmp 7) _ (by kernel_rfl) (by kernel_rfl) w') ?_
 refine tz 2 (.int .i64 (j:Int)) rfl D0.out (fun w' _=>exec_move (.tmp 8) _ (by kernel_rfl) (by kernel_rfl) w') ?_
 refine tz 3 (.slice (some ⟨w.heap.size,j,none⟩) (cp-j) (cp-j)) rfl D0.out (fun w' _=>exec_lo (.tmp 39) (.tmp 40) w.heap.size cp j (by kernel_rfl) (by kernel_rfl) (by kernel_rfl) hlt w') ?_
 refine tz 4 (.slice (some ⟨w.heap.size,0,none⟩) cp cp) rfl D0.out (fun w' _=>exec_move (.tmp 7) _ (by kernel_rfl) (by kernel_rfl) w') ?_
 refine tz 5 (.int .i64 (j:Int)) rfl D0.out (fun w' _=>exec_move (.tmp 8) _ (by kernel_rfl) (by kernel_rfl) w') ?_
 refine tz 6 (.slice (some ⟨w.heap.size,0,none⟩) j cp) rfl D0.out (fun w' _=>exec_hi (.tmp 42) (.tmp 43) w.heap.size cp j (by kernel_rfl) (by kernel_rfl) (by kernel_rfl) hj2 hcp0 w') ?_
 refine ry1 7 rfl (fun K hK=>?_)
 refine step_copy_splice (by kernel_rfl) (.tmp 41) (.tmp 44) 23 23 (by kernel_rfl) 3 Tryz.underlying23 HSZ.out (some ⟨w.heap.size,j,none⟩) (some ⟨w.heap.size,0,none⟩) (cp-j) (cp-j) j cp (by kernel_rfl) (by kernel_rfl) w.heap.size j (repL x cp j) 3 GD.out X2 E1.out E2.out E3.out E4.out w.heap.size w D0.out (Nat.le_refl _) ?_
 intro w5 HG5 hB5
 have B5:=hideP hB5
 have G5:Hid (w5.heap[w.heap.size]? = some (.cells (repL x cp (j+m)).toArray 3 (0,0))):=by
  have:=HG5.out
  rw [SP.out] at this
  exact this
 clear HG5 hB5
 refine hK.out _ _ B5.out (fun _=>?_)
 clear hK
 rw [E6.out]
 refine tz 8 (.int .i64 ((j:Int)+(m:Int))) rfl B5.out (fun w' hS=>by clear hS; go_simp) ?_
 refine ry1 9 rfl (fun K hK=>?_)
 go_simp
 refine hK.out _ _ B5.out (fun _=>?_)
 clear hK
 refine wpAnyH_done (by kernel_rfl) ?_ _
 go_wp2_with fail
 go_roundw
 case rel=>exact ⟨j+m,by omega,by omega,by go_num,by first | exact G5 | exact trivial,by first | exact B5 | exact trivial⟩
 simp [intOf]; omega
theorem exec_loG {o:Oper} {a:Act} (x y:Operand) (g og m cg o2:Nat) (h:o2=if cg=1 then og else og+1) (hm:m+1<=cg) (hc:cg<=9223372036854775807) (ho:o.op=Op.slice 23 x (some y) none none) (hx:a.eval x=.slice (some ⟨g,og,none⟩) (m+1) cg) (hy:a.eval y=.int .i64 1) (w:World) :
  (execOp a.eval o).run Tryz.prog w=.ok (.value (.slice (some ⟨g,o2,none⟩) m (cg-1))) w:=by
 have e:(Instr.sliceAt 23 (.slice (some ⟨g,og,none⟩) (m+1) cg) (some (.int .i64 ((1:Nat):Int))) none none).run Tryz.prog w=.ok (.slice (some ⟨g,o2,none⟩) m (cg-1)) w:=by
  rw [run_sliceAt_slice _ _ _ _ _ _ und22,run_slice_l _ _ _ _ _ und22 _ _ (by omega) (by omega),sizeOf3]
  subst h
  by_cases hc1:cg=1
  ·subst hc1
   have m0:m=0:=by omega
   subst m0
   simp [Result.andThen,sliced]
  simp [Result.andThen,sliced,Addr.add,hc1]
 have e':(Instr.sliceAt 23 (.slice (some ⟨g,og,none⟩) (m+1) cg) (some (.int .i64 1)) none none).run Tryz.prog w=.ok (.slice (some ⟨g,o2,none⟩) m (cg-1)) w:=e
 simp [execOp,ho,hx,hy,e',Result.andThen]
theorem wpList_loG {ops:Array Oper} {rest:List Oper} {o:Oper} {a:Act} {Q:Exit->Act->World->Prop} (w:World) (hg:o.guard=none) (x y:Operand) (g og m cg o2:Nat) (h:o2=if cg=1 then og else og+1) (hm:m+1<=cg) (hc:cg<=9223372036854775807) (ho:o.op=Op.slice 23 x (some y) none none) (hx:a.eval x=.slice (some ⟨g,og,none⟩) (m+1) cg) (hy:a.eval y=.int .i64 1)
  (hK:wpList Tryz.prog ops Q rest (a.put o.dst (.slice (some ⟨g,o2,none⟩) m (cg-1))) w):wpList Tryz.prog ops Q (o::rest) a w:=by
 refine wpList_plain hg fun K hK'=>?_
 unfold Oper.wp
 rw [exec_loG x y g og m cg o2 h hm hc ho hx hy w]
 exact hK' _ _ hK
theorem rd_tailG {B g og cg o2:Nat} {w:World} {n:Int} {tb:List Int} (ho2:o2=if cg=1 then og else og+1) (hc:tb.length+1<=cg) (h2:Rd B w (.slice (some ⟨g,og,none⟩) (tb.length+1) cg) (n::tb)):Rd B w (.slice (some ⟨g,o2,none⟩) tb.length (cg-1)) tb:=by
 by_cases hc1:cg=1
 ·have ht:tb.length=0:=by omega
  rw [ht]
  exact rd_zero _ _ _ _ _ ht
 rw [if_neg hc1] at ho2
 subst ho2
 have e:(n::tb).length=tb.length+1:=by simp
 have h:=h2
 rw [<- e] at h
 have:=h.sub 1 (tb.length+1) (by omega) (by simp) (cg-1)
 simpa using this
theorem rd_headG {B g og cg:Nat} {w:World} {n:Int} {tb:List Int} (h2:Rd B w (.slice (some ⟨g,og,none⟩) (tb.length+1) cg) (n::tb)):g<B/\w.cell? ⟨g,og,none⟩=some (.int .i64 n):=by
 have e:(n::tb).length=tb.length+1:=by simp
 have h:=h2
 rw [<- e] at h
 have:=rd_cell h (i:=0) (by simp)
 simpa using this
namespace Pl
def inB (n x:Int):Bool:=decide (0<=x/\x<n)
def flat (db:List Int) (s:Nat) (xs:List Int):List Int:=xs.flatMap (fun x=>rowAt db s x.toNat)
def fromM (sa da sb db:List Int):Int × List Int × List Int :=
 if sb.length=0 then (2,[],[])
 else if fitsB (sa++sb.tail)=true then (if da.all (inB (sb.getD 0 0))=true then (0,sa++sb.tail,flat db (prodC sb.tail).toNat da) else (4,[],[]))
 else (6,[],[])
theorem flat_snoc (db:List Int) (s:Nat) (xs:List Int) (x:Int):flat db s (xs++[x])=flat db s xs++rowAt db s x.toNat:=by simp [flat]
theorem flat_len (db:List Int) (s:Nat) (xs:List Int):(flat db s xs).length<=xs.length * s:=by
 induction xs with
 |nil=>simp [flat]
 |cons x l ih =>
  have e:flat db s (x::l)=rowAt db s x.toNat++flat db s l:=by simp [flat]
  have h:(rowAt db s x.toNat).length<=s:=by simp [rowAt]; omega
  rw [e,List.length_append,List.length_cons,Nat.succ_mul]
  omega
end Pl
theorem from_core (a0:Option Addr) (k0:Nat) (a1:Option Addr) (k1 b2 p2 k2:Nat) (a3:Option Addr) (k3:Nat) (sa da tb db:List Int) (n:Nat) (w:World)
  (h0:Rd w.heap.size w (.slice a0 sa.length k0) sa) (h1:Rd w.heap.size w (.slice a1 da.length k1) da) (h2:Rd w.heap.size w (.slice (some ⟨b2,p2,none⟩) (tb.length+1) k2) ((n:Int)::tb)) (h3:Rd w.heap.size w (.slice a3 db.length k3) db)
  (hk2:tb.length+1<=k2) (hk2':k2<=9223372036854775807) (hk3:db.length<=k3) (hk3':0<db.length->k3<=9223372036854775807) (oka:Pl.okB sa da=true) (okb:Pl.okB ((n:Int)::tb) db=true)
  (c:Int) (S D:List Int) (hres:(if Pl.fitsB (sa++tb)=true then (if da.all (Pl.inB n)=true then (0,sa++tb,Pl.flat db (Pl.prodC tb).toNat da) else (4,[],[])) else (6,[],[]))=(c,S,D)) :
  Calls Tryz.prog 119 #[.agg #[.slice a0 sa.length k0,.slice a1 da.length k1],.agg #[.slice (some ⟨b2,p2,none⟩) (tb.length+1) k2,.slice a3 db.length k3]] w (KPost w c S D):=by
 obtain ⟨i0,hi,hz0,hz1,hz2⟩:=info_parts Tryz.info3
 have HI:=hideP (And.intro hi (And.intro hz0 (And.intro hz1 hz2)))
 clear hi hz0 hz1 hz2
 have m0:=Pl.ok_max oka
 have m2:=Pl.ok_max okb
 have hsa:=m0.1
 have hld:=m0.2
 have hle:=m2.2
 have htb:tb.length<=2:=by have:=m2.1; simp at this; omega
 have W0:=hideP (wid_new w h0 h1 h2 h3 25 25 25)
 have KB:Hid (∀w',Calls Tryz.prog 84 #[.agg #[.slice (some ⟨b2,p2,none⟩) (tb.length+1) k2,.slice a3 db.length k3]] w' fun e w''=>e=.returned (.bool false)/\Below w'.heap.size w' w''):=fun w'=>by
  have:=isScalar_any _ (.slice a3 db.length k3) ((n:Int)::tb) _ w' w h2
  rw [decide_eq_false (by simp)] at this
  exact this
 obtain ⟨o2,ho2⟩:∃o2:Nat,o2=if k2=1 then p2 else p2+1:=⟨_,rfl⟩
 have HO2:=hideP ho2
 have H2:=hideP (rd_tailG ho2 hk2 h2)
 have CB:=hideP (rd_headG h2)
 have H0:=hideP h0
 have H1:=hideP h1
 have H3:=hideP h3
 have hbb:Pl.baseB tb=true:=by
  have:=(Pl.ok_len okb).2
  simp only [Pl.fitsB,Bool.and_eq_true] at this
  exact Pl.base_tail this.1
 have KT:Hid (∀w' v,Rd w'.heap.size w' v tb->Calls Tryz.prog 81 #[v] w' fun e w''=>e=.returned (.int .i64 (Pl.prodP tb))/\w''=w'):=fun w' v h=>cellCount_any _ v tb w' hbb h
 have hpT:=(Pl.prod_two tb hbb).1
 have hn1:n<=1000:=by
  have:=(Pl.ok_len okb).2
  simp only [Pl.fitsB,Pl.baseB,Bool.and_eq_true,List.all_cons] at this
  have:=Pl.inR_bd this.1.2.1
  omega
 have ROWS:Hid (1<=n->∃s:Nat,Pl.prodC tb=s/\Pl.prodP tb=s/\db.length=n * s):=fun hn=>by
  obtain ⟨hft,n',s,e1,e2,_,_,e3⟩:=Pl.ok_rows okb (by simp) (by show ¬(n:Int)=0; omega)
  have en:n'=n:=by
   have:(n:Int)=n':=e1
   omega
  exact ⟨s,e2,(Pl.prod_eq hft).symm.trans e2,by rw [e3,en]⟩
 have HR:=hideP hres
 obtain ⟨sh,hsh⟩:∃sh,sa++tb=sh:=⟨_,rfl⟩
 have hlh:sh.length<=5:=by rw [<- hsh,List.length_append]; omega
 have HSH:=hideP hsh
 have A3:Hid (∀(W:World) o,Below W.heap.size W (W.alloc o)):=fun W o=>(Below.refl _ _).alloc (Nat.le_refl _) _
 clear h0 h1 h2 h3 oka okb hres hsh m0 m2 ho2 hbb
 go_enter Tryz.func119,Tryz.ntmps119
 go_wp2_with fail
 refine (KB.out _).mono ?_
 rintro e w1 ⟨rfl,hb1⟩
 have W1:=hideP (W0.out.keep hb1)
 clear hb1 W0 KB
 have PX:Hid (∀W,Below w1.heap.size w1 W->(W.cell? ⟨w.heap.size,0,none⟩=some (.slice a0 sa.length k0)/\W.cell? ⟨w.heap.size,1,none⟩=some (.slice a1 da.length k1)/\W.cell? ⟨w.heap.size+1,0,none⟩=some (.slice (some ⟨b2,p2,none⟩) (tb.length+1) k2)/\W.cell? ⟨w.heap.size+1,1,none⟩=some (.slice a3 db.length k3)) /\
   (W.cell? ⟨w.heap.size+1+1,0,none⟩=some (.slice none 0 0)/\W.cell? ⟨w.heap.size+1+1,1,none⟩=some (.slice none 0 0)/\∀o,W.frozen? ⟨w.heap.size+1+1,o,none⟩=false)/\w.heap.size+1+1<W.heap.size/\Below w.heap.size w W):=fun W hb=>by
  obtain ⟨k1,k2,k3,k4,_⟩:=W1.out.keep hb
  exact ⟨k3,k4,by omega,k1⟩
 have RV:Hid (∀W,Below w1.heap.size w1 W->Rd W.heap.size W (.slice a0 sa.length k0) sa/\Rd W.heap.size W (.slice (some ⟨b2,o2,none⟩) tb.length (k2-1)) tb):=fun W hb=>by
  have k:=(PX.out W hb).2.2.2
  exact ⟨(H0.out.keep k).up k.size,(H2.out.keep k).up k.size⟩
 go_wp2_with (go_at_call 73; refine (refuse_no _ _).mono ?_; rintro e w1 ⟨rfl,rfl⟩)
 have DR:=hideP (show Below w1.heap.size w1 w1.drew from (Below.refl _ _).drew)
 refine wp_region_held (S:=fun w'=>Below w1.heap.size w1 w') (by kernel_rfl) ?_
 change wpAnyH _ _ _ _ _ _ _ _ (World.drew _)
 generalize World.drew w1=wd at DR ⊢
 refine tz 0 (.pointer (some ⟨w.heap.size,0,none⟩)) rfl DR.out (fun w' hS=>by clear hS; go_simp) ?_
 refine tz 1 (.slice a0 sa.length k0) rfl DR.out (fun w' hS=>by have:=(PX.out w' hS).1.1; clear hS; go_simp) ?_
 refine tz 2 (.pointer (some ⟨w.heap.size+1,0,none⟩)) rfl DR.out (fun w' hS=>by clear hS; go_simp) ?_
 refine tz 3 (.slice (some ⟨b2,p2,none⟩) (tb.length+1) k2) rfl DR.out (fun w' hS=>by have:=(PX.out w' hS).1.2.2.1; clear hS; go_simp) ?_
 refine tz 4 (.slice (some ⟨b2,o2,none⟩) tb.length (k2-1)) rfl DR.out (fun w' _=>exec_loG (.tmp 16) (.const (.int .i64 1)) b2 p2 tb.length k2 o2 HO2.out hk2 hk2' (by kernel_rfl) (by kernel_rfl) (by kernel_rfl) w') ?_
 refine ry1 5 rfl (fun K hK=>?_)
 go_simp
 have DA:=hideP (DR.out.trans ((A3.out wd (.cells #[.slice a0 sa.length k0,.slice (some ⟨b2,o2,none⟩) tb.length (k2-1)] 23)).mono DR.out.size))
 refine hK.out _ _ DA.out (fun _=>?_)
 clear hK
 refine ry1 6 rfl (fun K hK=>?_)
 go_simp
 have J:=joined2 wd.heap.size (.slice a0 sa.length k0) (.slice (some ⟨b2,o2,none⟩) tb.length (k2-1)) sa tb _ (by omega) (by omega) (by simp) (by simp [go_sem]) (by simp [go_sem]) (RV.out _ DA.out).1 (RV.out _ DA.out).2
 rw [HSH.out] at J
 refine J.mono ?_
 clear J
 rintro e w3 ⟨sv,rfl,hv,hb3⟩
 have B3:=hideP (DA.out.trans (hb3.mono DA.out.size))
 have hs3:w1.heap.size<=w3.heap.size:=B3.out.size
 have HV:=hideP (hv.base (show w1.heap.size<=_ from DA.out.size))
 obtain ⟨zs,ys,ez⟩:=hv.form
 subst ez
 clear hb3 hv DA DR
 refine hK.out _ _ B3.out (fun _=>?_)
 clear hK
 refine ry1 7 rfl (fun K hK=>?_)
 go_simp
 refine hK.out _ _ B3.out (fun _=>?_)
 clear hK
 refine wpAnyH_done (by kernel_rfl) ?_ _
 by_cases hf:Pl.fitsB sh=true
 rotate_left 1
 ·have KF:Hid (∀w',Rd w'.heap.size w' (.slice zs sh.length ys) sh->Calls Tryz.prog 124 #[.slice zs sh.length ys] w' fun e w''=>e=.panicked [thrown 6]/\w''=w'):=fun w' h=>(needFit_any _ _ sh w' (by omega) h).mono (by
   rintro e w'' ⟨rfl,⟨g,_⟩ | ⟨_,rfl⟩⟩
   ·exact absurd g hf
   exact ⟨rfl,rfl⟩)
  have RD3:=hideP HV.out.rd
  have e:=HR.out
  rw [HSH.out,if_neg hf] at e
  simp only [Prod.mk.injEq] at e
  obtain ⟨rfl,rfl,rfl⟩:=e
  have BW:=hideP (PX.out w3 B3.out).2.2.2
  go_wp2_with (go_at_call 124; refine (KF.out _ RD3.out).mono ?_; rintro e w3 ⟨rfl,rfl⟩)
  exact ⟨rfl,BW.out,.inr ⟨by decide,rfl,rfl,rfl⟩⟩
 have KF:Hid (∀w',Rd w'.heap.size w' (.slice zs sh.length ys) sh->Calls Tryz.prog 124 #[.slice zs sh.length ys] w' fun e w''=>e=.returned (.tuple #[])/\w''=w'):=fun w' h=>(needFit_any _ _ sh w' (by omega) h).mono (by
  rintro e w'' ⟨rfl,⟨_,rfl⟩ | ⟨g,_⟩⟩
  ·exact ⟨rfl,rfl⟩
  rw [hf] at g; cases g)
 have KC:Hid (∀w',Rd w'.heap.size w' (.slice zs sh.length ys) sh->Calls Tryz.prog 81 #[.slice zs sh.length ys] w' fun e w''=>e=.returned (.int .i64 (Pl.prodC sh))/\w''=w'):=fun w' h=>cellCount_fits _ _ sh w' hf h
 have hp:0<=Pl.prodC sh/\Pl.prodC sh<=1001:=Pl.prodC_bd sh (by simp only [Pl.fitsB,Pl.baseB,Bool.and_eq_true] at hf; exact hf.1.2)
 obtain ⟨cp,hcp⟩:∃cp:Nat,Pl.prodC sh=cp:=⟨(Pl.prodC sh).toNat,by omega⟩
 rw [hcp] at KC hp
 have e:=HR.out
 rw [HSH.out,if_pos hf] at e
 obtain ⟨sN,hsN⟩:∃sN,(Pl.prodC tb).toNat=sN:=⟨_,rfl⟩
 have HSN:=hideP hsN
 rw [hsN] at e
 have PE:=hideP e
 have RD3:=hideP HV.out.rd
 have Z3:=hideP (PX.out w3 B3.out)
 have RX:=hideP (RV.out w3 B3.out).2
 have cb0:=Z3.out.1.2.2.1
 clear e HR hf hcp RV H0 H2 hsN
 generalize hlbt:tb.length=lb at *
 have HLT:Hid (tb.length=lb):=hlbt
 clear hlbt
 go_upto_region 4 with (go_at_call 124; refine (KF.out _ RD3.out).mono ?_; rintro e w3 ⟨rfl,rfl⟩)
 go_cut [6] (fun s6 wy=>s6=.int .i64 (Pl.prodP tb)/\wy=w3)
 case first =>
  by_cases ht:k2=1
  ·have hl0:lb=0:=by omega
   have RZ:Hid (Rd w3.heap.size w3 (.slice (some ⟨b2,p2,none⟩) 0 0) tb):=rd_zero _ _ _ _ _ (HLT.out.trans hl0)
   clear HLT HO2 RX Z3 PX
   subst ht hl0
   go_wp2_with (go_at_call 81; refine (KT.out _ _ RZ.out).mono ?_; rintro e w3 ⟨rfl,rfl⟩)
   go_meet
   exact ⟨rfl,rfl⟩
  have RZ:Hid (Rd w3.heap.size w3 (.slice (some ⟨b2,p2+1,none⟩) lb (k2-1)) tb):=by
   have:=RX.out
   rw [HO2.out,if_neg ht] at this
   exact this
  go_wp2_with (go_at_call 81; refine (KT.out _ _ RZ.out).mono ?_; rintro e w3 ⟨rfl,rfl⟩)
  go_meet
  exact ⟨rfl,rfl⟩
 obtain ⟨rfl,rfl⟩:=hcut
 rename World=>w3
 clear cb0 RX KT HO2 HLT KF
 generalize Pl.prodP tb=TP at *
 have ca1:=Z3.out.1.2.1
 go_wp2_with (first
  |(go_at_call 81; refine (KC.out _ RD3.out).mono ?_; rintro e w3 ⟨rfl,rfl⟩)
  |(at_make; refine wpList_make_own _ rfl _ _ 23 rfl w3.heap.size 3 i0 (.int .i64 0) 1 Tryz.underlying23 HI.out.1 HI.out.2.1 HI.out.2.2.1 _ _ _ cp rfl rfl rfl ?b2 ?b3 ?b4 ?_))
 case b2=>rw [HI.out.2.2.2]; omega
 case b3=>unfold maxLen; omega
 case b4=>exact Nat.le_refl _
 intro w4 hown hgrow
 have B4:Hid (Below w3.heap.size w3 w4):=(Below.refl _ _).grown hgrow (Nat.le_refl _) (by intro k h; cases h)
 have HO4:=hideP hown
 clear hown hgrow ca1 Z3
 have ca1:=(PX.out w4 (B3.out.trans (B4.out.mono hs3))).1.2.1
 go_wp2_with fail
 clear ca1
 go_loopw [7,9,32] (fun s7 _ s32 wr=>∃k:Nat,k<=da.length/\s32=.int .i64 k/\Hid ((da.take k).all (Pl.inB n)=true)/\Hid (wr.ownsRow w3.heap.size 3 1 s7 (Pl.flat db sN (da.take k)).length ((Pl.flat db sN (da.take k)).map (Value.int .i64)))/\Hid (Below w3.heap.size w3 wr)) (fun _ _ s32 _=>da.length-(intOf s32).toNat)
 case atStart =>
  refine ⟨0,Nat.zero_le _,rfl,(show (da.take 0).all (Pl.inB n)=true from rfl),?_,B4⟩
  show World.ownsRow _ _ _ _ _ _ _
  exact HO4.out
 clear HO4 B4
 obtain ⟨k,hk,rfl,hz,ho,hbel⟩:=hrel
 have BR:Hid (Below w1.heap.size w1 wr):=B3.out.trans (hbel.out.mono hs3)
 have ZR:=hideP (PX.out wr BR.out)
 have hsr:=hbel.out.size
 obtain ⟨xo,yo,eo⟩:=owns_form ho.out
 subst eo
 by_cases hlt:k<da.length
 rotate_left 1
 ·have kn:k=da.length:=by omega
  subst kn
  rw [List.take_length] at hz
  have e:=PE.out
  rw [if_pos hz.out] at e
  simp only [Prod.mk.injEq] at e
  have HE:=hideP e
  have r0:=ZR.out.2.1.1
  have r1:=ZR.out.2.1.2.1
  have f2:=ZR.out.2.1.2.2
  have hs4:=ZR.out.2.2.1
  have hs5:=(PX.out w1 (Below.refl _ _)).2.2.1
  obtain ⟨L,hL⟩:∃L,(Pl.flat db sN (da.take da.length)).length=L:=⟨_,rfl⟩
  have hLD:L=D.length:=by rw [<- hL,List.take_length,e.2.2]
  rw [hL]
  subst hLD
  clear e hL
  go_wp2_with fail
  refine bodyPost_ret (v:=.agg #[.slice zs sh.length ys,.slice xo D.length yo]) (by simp [results,Tryz.results119,go_sem,r0,r1]) rfl ?_
  show KPost _ _ _ _ _ _
  rw [<- HE.out.1,<- HE.out.2.1]
  have OWD:Own w3.heap.size wr (.slice xo D.length yo) D:=own_of_any (by have:=ho.out; rw [List.take_length,HE.out.2.2] at this; exact this)
  refine ⟨(ZR.out.2.2.2.setCell (by simp; omega) _).setCell (by simp; omega) _,.inl ⟨rfl,_,_,rfl,?_,?_,?_⟩⟩
  ·exact Own.base (Own.store (Own.store (HV.out.keep hbel.out) (by omega) _) (by omega) _) (by omega)
  ·exact Own.base (Own.store (Own.store OWD (by omega) _) (by omega) _) (by omega)
  exact apart_right (B:=w3.heap.size) OWD HV.out.lt
 have hlt':(k:Int)<(da.length:Int):=by omega
 obtain ⟨b1,o1,rfl⟩:=rd_some H1.out (by omega)
 have hck:wr.cell? ⟨b1,o1+k,none⟩=some (.int .i64 (da.getD k 0)):=by
  have:=rd_cell H1.out hlt
  exact (ZR.out.2.2.2.cell (p:=⟨b1,o1+k,none⟩) this.1).trans this.2
 have cb:wr.cell? ⟨b2,p2,none⟩=some (.int .i64 (n:Int)):=(ZR.out.2.2.2.cell (p:=⟨b2,p2,none⟩) CB.out.1).trans CB.out.2
 have cb0:=ZR.out.1.2.2.1
 have cb1:=ZR.out.1.2.2.2
 have TS:=hideP (Pl.take_snoc da k hlt)
 have AS:=hideP (Pl.all_snoc da (Pl.inB n) k hlt)
 have AF:Hid (Pl.inB n (da.getD k 0)=false->da.all (Pl.inB n)=false):=fun h=>Pl.all_false hlt h
 generalize da.getD k 0=x at *
 by_cases hin:0<=x/\x<n
 rotate_left 1
 ·have hbad:Pl.inB n x=false:=by unfold Pl.inB; rw [decide_eq_false_iff_not]; exact hin
  have e:=PE.out
  rw [AF.out hbad,if_neg (by decide)] at e
  simp only [Prod.mk.injEq] at e
  obtain ⟨rfl,rfl,rfl⟩:=e
  clear TS AS AF hbad PE
  by_cases hx:x<0
  ·clear hin
   go_wp2_with (go_at_call 73; refine (refuse_yes _ _).mono ?_; rintro e wr ⟨rfl,rfl⟩)
   exact ⟨rfl,ZR.out.2.2.2,.inr ⟨by decide,rfl,rfl,rfl⟩⟩
  have hx2:(n:Int)<=x:=by omega
  clear hin
  go_wp2_with (go_at_call 73; refine (refuse_yes _ _).mono ?_; rintro e wr ⟨rfl,rfl⟩)
  exact ⟨rfl,ZR.out.2.2.2,.inr ⟨by decide,rfl,rfl,rfl⟩⟩
 obtain ⟨q,rfl⟩:=Int.eq_ofNat_of_zero_le hin.1
 have hqn:q<n:=by omega
 obtain ⟨s,hs1,hs2,hs3'⟩:=ROWS.out (by omega)
 have es:s=sN:=by rw [<- HSN.out,hs1]; simp
 subst es hs2
 have hq1:(q+1) * s<=db.length:=by rw [hs3']; exact Nat.mul_le_mul_right s hqn
 have KRW:Hid (Calls Tryz.prog 126 #[.slice a3 db.length k3,.int .i64 (s:Int),.int .i64 (q:Int),.int .i64 ((q:Int)+1)] wr fun e w''=>∃v,e=.returned v/\Rd w.heap.size wr v (Pl.rowAt db s q)/\w''=wr):=by
  have:=rows_gen w.heap.size a3 k3 s q (q+1) db wr (H3.out.keep ZR.out.2.2.2) (by omega) hq1 hk3 hk3'
  rw [show (q+1) * s-q * s=s by rw [Nat.succ_mul]; omega,show (((q+1:Nat)):Int)=(q:Int)+1 by omega] at this
  exact this
 have RLn:Hid ((Pl.rowAt db s q).length=s):=Pl.rowAt_len hq1
 have hsd:s<=1000:=by
  have:1 * s<=(q+1) * s:=Nat.mul_le_mul_right s (by omega)
  omega
 have FS:Hid (Pl.flat db s (da.take (k+1))=Pl.flat db s (da.take k)++Pl.rowAt db s q):=by
  show _=_
  rw [TS.out,Pl.flat_snoc]
  simp
 have AL:Hid ((da.take (k+1)).all (Pl.inB n)=true):=by
  show _=_
  rw [AS.out,hz.out]
  unfold Pl.inB
  rw [Bool.true_and,decide_eq_true_eq]
  exact hin
 have UB:Hid ((Pl.flat db s (da.take k)).length+(Pl.rowAt db s q).length<=16777216):=by
  show _<=_
  have h1:=Pl.flat_len db s (da.take k)
  have h2:(da.take k).length * s<=1000 * 1000:=Nat.mul_le_mul (by rw [List.length_take]; omega) hsd
  rw [RLn.out]
  omega
 have t1:¬(q:Int)<0:=by omega
 have t2:¬(n:Int)<=(q:Int):=by omega
 clear TS AS AF hin hs1 hs3' HSN
 generalize Pl.flat db s (da.take k)=fl at *
 go_wp2_with (first | (go_at_call 73; refine (refuse_no _ _).mono ?_; rintro e wr ⟨rfl,rfl⟩))
 refine KRW.out.mono ?_
 rintro e wr ⟨rv,rfl,hrd,rfl⟩
 obtain ⟨zr,yr,er⟩:=hrd.form
 subst er
 have RR:=hideP hrd
 clear hrd hck cb cb0 cb1 t1 t2
 go_wp2_with (at_builtin; refine wpList_append_rdg (base:=w3.heap.size) _ rfl _ _ rfl _ _ rfl rfl fl.length fl _ ho.out RR.out UB.out hsr ?_)
 intro v' w9 ho' hg
 have ho9:Hid (w9.ownsRow w3.heap.size 3 1 v' (fl++Pl.rowAt db s q).length ((fl++Pl.rowAt db s q).map (Value.int .i64))):=by
  show World.ownsRow _ _ _ _ _ _ _
  rw [List.length_append,List.map_append]
  exact ho'
 have hb9:Hid (Below w3.heap.size w3 w9):=hbel.out.grown hg hsr (fun k hk=>(ho.out.lt k hk).1)
 clear ho' hg
 go_wp2_with fail
 go_roundw
 case rel=>exact ⟨k+1,by omega,by go_num,AL,by show World.ownsRow _ _ _ _ _ _ _; rw [FS.out]; exact ho9.out,hb9⟩
 simp [intOf]; omega
end Go.Proofs.YtacapaiadggemaaGreat
