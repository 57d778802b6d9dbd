import Derived.Test.YtbiiicbfpcfgdaaGreatDoorFns
namespace Go.Proofs.YtbiiicbfpcfgdaaGreatDoor
open Go.RowKit
set_option maxRecDepth 100000
set_option maxHeartbeats 16000000
set_option linter.unusedVariables false
theorem l3FnText_in (a b:Int) (ha:Pl.opk a=true) (hb:Pl.opk b=true) (w:World) :
  Calls Tryz.prog 73 #[.agg #[.int .i64 8,.int .i64 a,.int .i64 b,.string (Pl.ba [])]] w fun e w'=>e=.returned (.string (Pl.ba (Pl.ftx ⟨8,a,b,[]⟩)))/\Below w.heap.size w w':=by
 have HB:Hid (∀o,Below w.heap.size w (w.alloc o)):=fun o=>(Below.refl _ _).alloc (Nat.le_refl _) _
 have K:=zH (l3Sign_any a ha)
 have K2:=zH (l3Sign_any b hb)
 have hlen:=Pl.osg_len a
 have hlen2:=Pl.osg_len b
 generalize hr:Pl.ba (Pl.ftx _)=r
 have HR:=zH (show r=Pl.ba (Pl.osg a)++⟨#[46]⟩++Pl.ba (Pl.osg b) by rw[<- hr];exact(Pl.ba_app (Pl.osg a++[46]) (Pl.osg b)).trans (by rw[Pl.ba_app (Pl.osg a) [46]];rfl))
 clear hr ha hb
 generalize Pl.ba (Pl.osg a)=x at *
 generalize Pl.ba (Pl.osg b)=y at *
 have hlim:¬(9223372036854775807<x.size+1):=by omega
 have hlim2:¬(9223372036854775807<x.size+1+y.size):=by omega
 have C:Hid (∀(w1 w':World) (j:Nat) (v:Value),Below w1.heap.size w1 w'->w.heap.size<w1.heap.size->w1.cell? ⟨w.heap.size,j,none⟩=some v->w'.cell? ⟨w.heap.size,j,none⟩=some v):=fun w1 w' j v hb h1 h=>(hb.cell (p:=⟨w.heap.size,j,none⟩) h1).trans h
 go_enter Tryz.func73,Tryz.ntmps73
 go_wp2
 go_region_with (first | (go_at_call 91;refine(K.out _).mono ?_;rintro e w2 ⟨rfl,hb1⟩;have c2:=C.out _ _ 2 _ hb1 sI (by simp[go_sem];rfl);have HBA:=zH ((HB.out _).drew.trans (hb1.mono sI));clear hb1) | (go_at_call 91;refine(K2.out _).mono ?_;rintro e w3 ⟨rfl,hb2⟩))
 all_goals (go_wp2;go_ret;exact⟨ret_str HR.out.symm,HBA.out.trans (hb2.mono HBA.out.size)⟩)
end Go.Proofs.YtbiiicbfpcfgdaaGreatDoor
