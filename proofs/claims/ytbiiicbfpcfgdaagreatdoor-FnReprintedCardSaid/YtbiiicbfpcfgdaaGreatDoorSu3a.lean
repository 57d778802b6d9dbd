import Derived.Test.YtbiiicbfpcfgdaaGreatDoorSzk
namespace Go.Proofs.YtbiiicbfpcfgdaaGreatDoor
open Go.RowKit
set_option maxRecDepth 100000
set_option maxHeartbeats 16000000
set_option linter.unusedVariables false
theorem stt_3a (nm se sg:ByteArray) (a1 a2:Option Addr) (cl c1 G c2:Nat) (z:Int) (ns:Bool) (w:World) (hz:z=3) (hq:(nm.toList == [115,101,108,102])=ns) (h1:nm.size<=100000000) (h2:se.size<=100000000) (h3:sg.size<=100000000) (hG:G<=1048576)
  (k1:∀w',Below w.heap.size w w'->Calls Tryz.prog 75 #[.slice a1 cl c1] w' fun e w2=>e=.returned (.tuple #[.string se,.bool true])/\Below w'.heap.size w' w2)
  (k2:∀w',Below w.heap.size w w'->Calls Tryz.prog 76 #[.slice a2 G c2] w' fun e w2=>e=.returned (.tuple #[.string sg,.bool true])/\Below w'.heap.size w' w2)
  (kw:∀w',Below w.heap.size w w'->Calls Tryz.prog 62 #[.string nm] w' fun e w2=>e=.returned (.int .i64 z)/\Below w'.heap.size w' w2) :
  Calls Tryz.prog 46 #[.agg #[.int .i64 3,.string nm,.slice a1 cl c1,.slice a2 G c2]] w fun e w'=>e=.returned (.tuple #[.string (nm++⟨#[32,58,61,32,123]⟩++sg++se++⟨#[125]⟩),.bool (!ns)])/\Below w.heap.size w w':=by
 have HB:Hid (∀o,Below w.heap.size w (w.alloc o)):=fun o=>(Below.refl _ _).alloc (Nat.le_refl _) _
 have K1:=zH k1
 have K2:=zH k2
 have KW:=zH kw
 clear k1 k2 kw
 have C:Hid (∀(w1 w':World) (j:Nat) (v:Value),Below w1.heap.size w1 w'->w.heap.size<w1.heap.size->w1.cell? ⟨w.heap.size,j,none⟩=some v->w'.cell? ⟨w.heap.size,j,none⟩=some v):=fun w1 w' j v hb h1 h=>(hb.cell (p:=⟨w.heap.size,j,none⟩) h1).trans h
 have m1:¬(9223372036854775807<nm.size+4):=by omega
 have m2:¬(9223372036854775807<nm.size+4+se.size):=by omega
 have m3:¬(9223372036854775807<nm.size+5):=by omega
 have m4:¬(9223372036854775807<nm.size+5+sg.size):=by omega
 have m5:¬(9223372036854775807<nm.size+5+sg.size+se.size):=by omega
 have m6:¬(9223372036854775807<nm.size+5+sg.size+se.size+1):=by omega
 subst hz
 go_enter Tryz.func46,Tryz.ntmps46
 go_wp2_with fail
 refine(K1.out _ (HB.out _)).mono ?_
 rintro e' w2 ⟨rfl,hb2⟩
 have d0:=C.out _ _ 0 _ hb2 sI (by simp[go_sem];rfl)
 have d1:=C.out _ _ 1 _ hb2 sI (by simp[go_sem];rfl)
 have d3:=C.out _ _ 3 _ hb2 sI (by simp[go_sem];rfl)
 have B2:=zH ((HB.out _).trans (hb2.mono sI))
 have z2:w.heap.size<w2.heap.size:=Nat.lt_of_lt_of_le sI hb2.size
 clear hb2
 go_wp2_with fail
 refine(K2.out _ B2.out).mono ?_
 rintro e' w3 ⟨rfl,hb3⟩
 have e0:=C.out _ _ 0 _ hb3 z2 d0
 have e1:=C.out _ _ 1 _ hb3 z2 d1
 have e3:=C.out _ _ 3 _ hb3 z2 d3
 have B3:=zH (B2.out.trans (hb3.mono B2.out.size))
 have z3:w.heap.size<w3.heap.size:=Nat.lt_of_lt_of_le z2 hb3.size
 clear hb3 d0 d1 d3
 go_wp2_with fail
 go_region_with (go_at_call 62;refine(KW.out _ B3.out.drew).mono ?_;rintro e' w4 ⟨rfl,hb4⟩;have fA:=C.out _ _ 1 _ hb4 z3 e1;have fB:=C.out _ _ 3 _ hb4 z3 e3;have B4:=zH (B3.out.drew.trans (hb4.mono B3.out.drew.size));clear hb4)
 all_goals (go_wp2;go_ret2;exact⟨rfl,B4.out⟩)
end Go.Proofs.YtbiiicbfpcfgdaaGreatDoor
