import Derived.Test.YtbiiicbfpcfgdaaGreatDoorMem
namespace Go.Proofs.YtbiiicbfpcfgdaaGreatDoor
open Go.RowKit
set_option maxRecDepth 100000
set_option maxHeartbeats 16000000
set_option linter.unusedVariables false
theorem ret_below {w w0:World}{r x:Bool}(h:r=x) (hb:Below w.heap.size w w0):Ending.returned (.bool x)=.returned (.bool r)/\Below w.heap.size w w0:=⟨ret_bool h.symm,hb⟩
theorem tFok1 {P:Prop}(h:P:=by
 go_enter Tryz.func90,Tryz.ntmps90
 go_wp2_with fail
 go_ret
 exact ret_below HR.out (HB.out _)
 ):P:=h
theorem tFok2 {P:Prop}(h:P:=by
 have HR:Hid (r=pa):=by show _=_;rw[HF.out];simp[hn]
 clear HF hn
 go_enter Tryz.func90,Tryz.ntmps90
 go_wp2_with (go_at_call 105;refine(KA.out _).mono ?_;rintro e w' ⟨rfl,rfl⟩)
 go_ret
 exact ret_below HR.out (HB.out _)
 ):P:=h
theorem tFok3 {P:Prop}(h:P:=by
 have HR:Hid (r=false):=by show _=_;rw[HF.out];simp[hn]
 clear HF hn
 exact tFok1
 ):P:=h
theorem tFok4 {P:Prop}(h:P:=by
 by_cases a1:1<=a
 ·by_cases a4:a<=7
  ·skip
   have HR:Hid (r=true):=by show _=_;rw[HF.out];simp[hn,a1,a4]
   clear HF hn
   exact tFok1
  skip
  have HR:Hid (r=false):=by show _=_;rw[HF.out];simp[hn,a1,a4]
  clear HF hn
  exact tFok1
 ·skip
  have HR:Hid (r=false):=by show _=_;rw[HF.out];simp[hn,a1]
  clear HF hn
  exact tFok1
 ):P:=h
theorem l3FnOk_any (k a b:Int) (nm:ByteArray) (two:Bool) (w:World) (hl:nm.size<=9223372036854775807) :
  Calls Tryz.prog 90 #[.agg #[.int .i64 k,.int .i64 a,.int .i64 b,.string nm],.bool two] w fun e w'=>e=.returned (.bool (Pl.fok ⟨k,a,b,nm.data.toList⟩ two))/\Below w.heap.size w w':=by
 have HF:Hid (Pl.fok ⟨k,a,b,nm.data.toList⟩ two=if k=10 then decide (a=0) && decide (b=0) && Pl.nameS nm 70 else if nm.data.toList ≠ []\/(k ≠ 8/\b ≠ 0) then false
   else if k=9 then !two && decide (a=0)
   else if k=1 then !two && decide (1<=a) && decide (a<=4)
   else if k=2\/k=6 then decide (two=decide (k=6)) && decide (1<=a) && decide (a<=7)
   else if k=3\/k=4 then !two && Pl.opk a
   else if k=8 then two && Pl.opk a && Pl.opk b
   else two && (decide (k=5) || decide (k=7)) && Pl.opk a):=by show _=_;rw[Pl.nameS_F];rfl
 have HB:Hid (∀o,Below w.heap.size w (w.alloc o)):=fun o=>(Below.refl _ _).alloc (Nat.le_refl _) _
 have K:Hid (∀w,Calls Tryz.prog 43 #[.string nm,.int .u8 70] w fun e w'=>e=.returned (.bool (Pl.nameS nm 70))/\Below w.heap.size w w'):=fun w=>l3NameOk_any nm 70 w hl
 have KA:Hid (∀w,Calls Tryz.prog 105 #[.int .i64 a] w fun e w'=>e=.returned (.bool (Pl.opk a))/\w'=w):=l2OpOk_any a
 have KB:Hid (∀w,Calls Tryz.prog 105 #[.int .i64 b] w fun e w'=>e=.returned (.bool (Pl.opk b))/\w'=w):=l2OpOk_any b
 generalize Pl.fok ⟨k,a,b,nm.data.toList⟩ two=r at *
 generalize Pl.nameS nm 70=q at *
 generalize Pl.opk a=pa at *
 generalize Pl.opk b=pb at *
 by_cases k10:k=10
 ·subst k10
  by_cases a0:a=0
  ·subst a0
   by_cases b0:b=0
   ·subst b0
    have HR:Hid (r=q):=by show _=_;rw[HF.out];simp[]
    clear HF
    go_enter Tryz.func90,Tryz.ntmps90
    go_wp2_with (go_at_call 43;refine(K.out _).mono ?_;rintro e w' ⟨rfl,hb⟩)
    go_ret
    exact ret_below HR.out ((HB.out _).trans (hb.mono sI))
   have fb:(b == 0)=false:=by simp[b0]
   have HR:Hid (r=false):=by show _=_;rw[HF.out];simp[b0]
   clear HF b0
   exact tFok1
  have fa:(a == 0)=false:=by simp[a0]
  have HR:Hid (r=false):=by show _=_;rw[HF.out];simp[a0]
  clear HF a0
  exact tFok1
 have f10:(k == 10)=false:=by simp[k10]
 by_cases hn:nm.data.toList=[]
 rotate_left 1
 ·have hq:(nm.toList == [])=false:=by rw[ByteArray.toList_eq];exact beq_eq_false_iff_ne.2 hn
  have HR:Hid (r=false):=by show _=_;rw[HF.out];simp[k10,hn]
  clear HF hn k10
  exact tFok1
 have hq:(nm.toList == [])=true:=by rw[ByteArray.toList_eq,hn];rfl
 by_cases k8:k=8
 ·subst k8
  cases two
  ·skip
   exact tFok3
  cases pa
  ·skip
   have HR:Hid (r=false):=by show _=_;rw[HF.out];simp[hn]
   clear HF hn
   go_enter Tryz.func90,Tryz.ntmps90
   go_wp2_with (go_at_call 105;refine(KA.out _).mono ?_;rintro e w' ⟨rfl,rfl⟩)
   go_ret
   exact ret_below HR.out (HB.out _)
  skip
  have HR:Hid (r=pb):=by show _=_;rw[HF.out];simp[hn]
  clear HF hn
  go_enter Tryz.func90,Tryz.ntmps90
  go_wp2_with (first | (go_at_call 105;refine(KA.out _).mono ?_;rintro e w' ⟨rfl,rfl⟩) | (go_at_call 105;refine(KB.out _).mono ?_;rintro e w' ⟨rfl,rfl⟩))
  go_ret
  exact ret_below HR.out (HB.out _)
 have f8:(k == 8)=false:=by simp[k8]
 have f8n:(k != 8)=true:=by simp[k8]
 by_cases b0:b=0
 rotate_left 1
 ·have fb:(b != 0)=true:=by simp[b0]
  have HR:Hid (r=false):=by show _=_;rw[HF.out];simp[k10,k8,b0,hn]
  clear HF hn k10 k8 b0
  exact tFok1
 subst b0
 by_cases k9:k=9
 ·subst k9
  clear f10 f8 f8n k10 k8
  cases two
  ·by_cases a0:a=0
   ·subst a0
    have HR:Hid (r=true):=by show _=_;rw[HF.out];simp[hn]
    clear HF hn
    exact tFok1
   have fa:(a == 0)=false:=by simp[a0]
   have HR:Hid (r=false):=by show _=_;rw[HF.out];simp[hn,a0]
   clear HF hn a0
   exact tFok1
  skip
  exact tFok3
 have f9:(k == 9)=false:=by simp[k9]
 by_cases k1:k=1
 ·subst k1
  clear f10 f8 f8n k10 k8 f9 k9
  cases two
  rotate_left 1
  ·skip
   exact tFok3
  skip
  by_cases a1:1<=a
  ·by_cases a4:a<=4
   ·skip
    have HR:Hid (r=true):=by show _=_;rw[HF.out];simp[hn,a1,a4]
    clear HF hn
    exact tFok1
   skip
   have HR:Hid (r=false):=by show _=_;rw[HF.out];simp[hn,a1,a4]
   clear HF hn
   exact tFok1
  skip
  have HR:Hid (r=false):=by show _=_;rw[HF.out];simp[hn,a1]
  clear HF hn
  exact tFok1
 have f1:(k == 1)=false:=by simp[k1]
 by_cases k2:k=2
 ·subst k2
  clear f10 f8 f8n k10 k8 f9 f1 k9 k1
  cases two
  ·skip
   exact tFok4
  skip
  exact tFok3
 have f2:(k == 2)=false:=by simp[k2]
 by_cases k6:k=6
 ·subst k6
  clear f10 f8 f8n k10 k8 f9 f1 f2 k9 k1 k2
  cases two
  ·skip
   exact tFok3
  skip
  exact tFok4
 have f6:(k == 6)=false:=by simp[k6]
 by_cases k3:k=3
 ·subst k3
  clear f10 f8 f8n k10 k8 f9 f1 f2 f6 k9 k1 k2 k6
  cases two
  ·skip
   exact tFok2
  skip
  exact tFok3
 have f3:(k == 3)=false:=by simp[k3]
 by_cases k4:k=4
 ·subst k4
  clear f10 f8 f8n k10 k8 f9 f1 f2 f6 k9 k1 k2 k6 f3 k3
  cases two
  ·skip
   exact tFok2
  skip
  exact tFok3
 have f4:(k == 4)=false:=by simp[k4]
 by_cases k5:k=5
 ·subst k5
  clear f10 f8 f8n k10 k8 f9 f1 f2 f6 f3 f4 k9 k1 k2 k6 k3 k4
  cases two
  ·skip
   exact tFok3
  skip
  exact tFok2
 have f5:(k == 5)=false:=by simp[k5]
 by_cases k7:k=7
 ·subst k7
  clear f10 f8 f8n k10 k8 f9 f1 f2 f6 f3 f4 k9 k1 k2 k6 k3 k4 f5 k5
  cases two
  ·skip
   exact tFok3
  skip
  exact tFok2
 have f7:(k == 7)=false:=by simp[k7]
 cases two
 ·skip
  have HR:Hid (r=false):=by show _=_;rw[HF.out];simp[hn,k10,k9,k1,k2,k6,k3,k4,k8,k5,k7]
  clear HF hn k10 k9 k1 k2 k6 k3 k4 k8 k5 k7
  exact tFok1
 skip
 have HR:Hid (r=false):=by show _=_;rw[HF.out];simp[hn,k10,k9,k1,k2,k6,k3,k4,k8,k5,k7]
 clear HF hn k10 k9 k1 k2 k6 k3 k4 k8 k5 k7
 exact tFok1
end Go.Proofs.YtbiiicbfpcfgdaaGreatDoor
