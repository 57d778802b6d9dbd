import Derived.Test.YtbiiicbfpcfgdaaGreatDoorFni
namespace Go.Proofs.YtbiiicbfpcfgdaaGreatDoor
open Go.RowKit
set_option maxRecDepth 100000
set_option maxHeartbeats 16000000
set_option linter.unusedVariables false
theorem tFnt1 {P:Prop}(h:P:=by
 go_enter Tryz.func73,Tryz.ntmps73
 go_wp2_with (go_at_call 91;refine(K.out _).mono ?_;rintro e w' ⟨rfl,hb⟩)
 go_ret
 exact⟨ret_str HR.out.symm,(HB.out _).trans (hb.mono sI)⟩
 ):P:=h
theorem tFnt2 {P:Prop}(h:P:=by
 generalize hr:Pl.ba (Pl.ftx _)=r
 have HR:=zH hr.symm
 clear hr ha r4 r7
 go_enter Tryz.func73,Tryz.ntmps73
 go_wp2
 go_ret
 exact⟨ret_str (HR.out.trans (by decide)).symm,HB2.out _ _⟩
 ):P:=h
theorem l3FnText_any (k a b:Int) (nm:List UInt8) (two:Bool) (hf:Pl.fok ⟨k,a,b,nm⟩ two=true) (w:World) :
  Calls Tryz.prog 73 #[.agg #[.int .i64 k,.int .i64 a,.int .i64 b,.string (Pl.ba nm)]] w fun e w'=>e=.returned (.string (Pl.ba (Pl.ftx ⟨k,a,b,nm⟩)))/\Below w.heap.size w w':=by
 have HB:Hid (∀o,Below w.heap.size w (w.alloc o)):=fun o=>(Below.refl _ _).alloc (Nat.le_refl _) _
 have HB2:Hid (∀o o2,Below w.heap.size w ((w.alloc o).alloc o2)):=fun o o2=>((Below.refl _ _).alloc (Nat.le_refl _) _).alloc sI _
 have hc:=Pl.fok_cases hf
 clear hf
 rcases hc with rfl|⟨rfl,hc⟩
 ·generalize hr:Pl.ba (Pl.ftx ⟨10,a,b,nm⟩)=r
  have HR:=zH (show r=Pl.ba nm by rw[<- hr];rfl)
  clear hr
  generalize Pl.ba nm=s at *
  go_enter Tryz.func73,Tryz.ntmps73
  go_wp2
  go_ret
  exact⟨ret_str HR.out.symm,HB.out _⟩
 have r4:∀a:Int,1<=a/\a<=4->a=1\/a=2\/a=3\/a=4:=by omega
 have r7:∀a:Int,1<=a/\a<=7->a=1\/a=2\/a=3\/a=4\/a=5\/a=6\/a=7:=by omega
 rcases hc with ⟨rfl,rfl,rfl⟩|⟨rfl,ha,rfl⟩|⟨rfl,ha,rfl⟩|⟨rfl,ha,rfl⟩|⟨rfl,ha,rfl⟩|⟨rfl,ha,rfl⟩|⟨rfl,ha,rfl⟩|⟨rfl,ha,rfl⟩|⟨rfl,ha,hb⟩
 ·generalize hr:Pl.ba (Pl.ftx _)=r
  have HR:=zH hr.symm
  clear hr r4 r7
  go_enter Tryz.func73,Tryz.ntmps73
  go_wp2
  go_ret
  exact⟨ret_str (HR.out.trans (by decide)).symm,HB.out _⟩
 ·rcases r4 a ha with rfl|rfl|rfl|rfl <;>
  ·exact tFnt2
 ·rcases r7 a ha with rfl|rfl|rfl|rfl|rfl|rfl|rfl <;>
  ·exact tFnt2
 ·rcases r7 a ha with rfl|rfl|rfl|rfl|rfl|rfl|rfl <;>
  ·exact tFnt2
 all_goals clear r4 r7
 ·have K:=zH (l3Sign_any a ha)
  have hlen:=Pl.osg_len a
  generalize hr:Pl.ba (Pl.ftx _)=r
  have HR:=zH (show r=Pl.ba (Pl.osg a)++⟨#[47]⟩ by rw[<- hr];exact Pl.ba_app (Pl.osg a) [47])
  clear hr
  generalize Pl.ba (Pl.osg a)=x at *
  have hlim:¬(9223372036854775807<x.size+1):=by omega
  exact tFnt1
 ·have K:=zH (l3Sign_any a ha)
  have hlen:=Pl.osg_len a
  generalize hr:Pl.ba (Pl.ftx _)=r
  have HR:=zH (show r=Pl.ba (Pl.osg a)++⟨#[92]⟩ by rw[<- hr];exact Pl.ba_app (Pl.osg a) [92])
  clear hr
  generalize Pl.ba (Pl.osg a)=x at *
  have hlim:¬(9223372036854775807<x.size+1):=by omega
  exact tFnt1
 ·have K:=zH (l3Sign_any a ha)
  generalize hr:Pl.ba (Pl.ftx _)=r
  have HR:=zH (show r=Pl.ba (Pl.osg a) by rw[<- hr];rfl)
  clear hr
  generalize Pl.ba (Pl.osg a)=x at *
  exact tFnt1
 ·have K:=zH (l3Sign_any a ha)
  have hlen:=Pl.osg_len a
  generalize hr:Pl.ba (Pl.ftx _)=r
  have HR:=zH (show r=⟨#[64]⟩++Pl.ba (Pl.osg a) by rw[<- hr];exact Pl.ba_app [64] (Pl.osg a))
  clear hr
  generalize Pl.ba (Pl.osg a)=x at *
  have hlim:¬(9223372036854775807<1+x.size):=by omega
  exact tFnt1
 ·exact l3FnText_in a b ha hb w
end Go.Proofs.YtbiiicbfpcfgdaaGreatDoor
