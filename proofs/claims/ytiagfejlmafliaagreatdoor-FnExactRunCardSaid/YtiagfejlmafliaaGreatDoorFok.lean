import Derived.Test.YtiagfejlmafliaaGreatDoorBx
namespace Go.Proofs.YtiagfejlmafliaaGreatDoor
set_option linter.all false
open Go.Proofs.Tryz Pl
open Go.RowKit
set_option maxRecDepth 100000
set_option maxHeartbeats 16000000
open World renaming setCell->ez,alloc->ew
open List renaming range->eA,replicate->eE
open Option renaming some->a_,none->c_
open Bool renaming true->b_,false->d_
def kj{w w0:Wd}{r x:Bool}(h:r=x)(hb:Bl w w0):Ending.returned (.bool x)=rT (.bool r)/\Bl w w0:=⟨iD h.symm,hb⟩
def adM(k a b:Int)(nm:bA)(two:Bool)(w:Wd)(hl:nm.size<=9223372036854775807):
  Cp 95 #[.agg #[I k,I a,I b,.string nm],.bool two] w (rB (.bool (Pl.jk ⟨k,a,b,nm.data.toList⟩ two)) w):=by
 have HF:Hid (Pl.jk ⟨k,a,b,nm.data.toList⟩ two=if k=10 then decide (a=0) && decide (b=0) && lN nm 70 else if nm.data.toList ≠ []\/(k ≠ 8/\b ≠ 0) then d_
   else if k=9 then !two && decide (a=0)
   else if k=1 then !two && decide (1<=a) && decide (a<=4)
   else if k=2\/k=6 then decide (two=decide (k=6)) && decide (1<=a) && decide (a<=7)
   else if k=3\/k=4 then !two && Pl.fN a
   else if k=8 then two && Pl.fN a && Pl.fN b
   else two && (decide (k=5) || decide (k=7)) && Pl.fN a):=by show _=_;rw[Xk];rfl
 have HB:Hid (∀o,Bl w (w.alloc o)):=λo=>(jD _ _).alloc (jR _) _;have K:Hid (∀w,Cp 46 #[.string nm,.int .u8 70] w (rB (.bool (lN nm 70)) w)):=λw=>MV nm 70 w hl;have KA:Hid (∀w,Cp 123 #[I a] w λe w'=>e=rT (.bool (Pl.fN a))/\w'=w):=wW a;have KB:Hid (∀w,Cp 123 #[I b] w λe w'=>e=rT (.bool (Pl.fN b))/\w'=w):=wW b;generalize Pl.jk ⟨k,a,b,nm.data.toList⟩ two=r,lN nm 70=q,Pl.fN a=pa,Pl.fN b=pb at *;by_cases om:k=10
 ·subst om
  by_cases a0:a=0
  ·subst a0
   by_cases b0:b=0
   ·subst b0
    have HR:Hid (r=q):=by show _=_;rw[HF.o];simp[]
    go_enter func95,ntmps95;go_wp2_with (go_at_call 46;refine(K.o _).mono ?_;rintro e w' ⟨rfl,hb⟩)
    exact Qi
   have fb:(b == 0)=d_:=by simp[b0]
   have HR:Hid (r=d_):=by show _=_;rw[HF.o];simp[b0]
   exact qv
  have fa:(a == 0)=d_:=by simp[a0]
  have HR:Hid (r=d_):=by show _=_;rw[HF.o];simp[a0]
  exact qv
 have f10:(k == 10)=d_:=by simp[om]
 by_cases hn:nm.data.toList=[]
 rotate_left 1
 ·have hq:(nm.toList == [])=d_:=by rw[uz];exact gR.2 hn
  have HR:Hid (r=d_):=by show _=_;rw[HF.o];simp[om,hn]
  exact qv
 have hq:(nm.toList == [])=b_:=by rw[uz,hn];rfl
 by_cases k8:k=8
 ·subst k8
  cases two
  ·skip
   exact vA
  cases pa
  ·skip
   have HR:Hid (r=d_):=by show _=_;rw[HF.o];simp[hn]
   go_enter func95,ntmps95;go_wp2_with (go_at_call 123;refine(KA.o _).mono ?_;rintro e w' ⟨rfl,rfl⟩)
   exact qP
  skip
  have HR:Hid (r=pb):=by show _=_;rw[HF.o];simp[hn]
  go_enter func95,ntmps95;go_wp2_with (first | (go_at_call 123;refine(KA.o _).mono ?_;rintro e w' ⟨rfl,rfl⟩) | (go_at_call 123;refine(KB.o _).mono ?_;rintro e w' ⟨rfl,rfl⟩))
  exact qP
 have f8:(k == 8)=d_:=by simp[k8]
 have f8n:(k != 8)=b_:=by simp[k8]
 by_cases b0:b=0
 rotate_left 1
 ·have fb:(b != 0)=b_:=by simp[b0]
  have HR:Hid (r=d_):=by show _=_;rw[HF.o];simp[om,k8,b0,hn]
  exact qv
 subst b0;by_cases k9:k=9
 ·subst k9
  cases two
  ·by_cases a0:a=0
   ·subst a0
    have HR:Hid (r=b_):=by show _=_;rw[HF.o];simp[hn]
    exact qv
   have fa:(a == 0)=d_:=by simp[a0]
   have HR:Hid (r=d_):=by show _=_;rw[HF.o];simp[hn,a0]
   exact qv
  skip
  exact vA
 have f9:(k == 9)=d_:=by simp[k9]
 by_cases k1:k=1
 ·subst k1
  cases two
  rotate_left 1
  ·skip
   exact vA
  skip
  by_cases a1:1<=a
  ·by_cases a4:a<=4
   ·skip
    have HR:Hid (r=b_):=by show _=_;rw[HF.o];simp[hn,a1,a4]
    exact qv
   skip
   have HR:Hid (r=d_):=by show _=_;rw[HF.o];simp[hn,a1,a4]
   exact qv
  skip
  have HR:Hid (r=d_):=by show _=_;rw[HF.o];simp[hn,a1]
  exact qv
 have f1:(k == 1)=d_:=by simp[k1]
 by_cases k2:k=2
 ·subst k2
  cases two
  ·skip
   exact Zs
  skip
  exact vA
 have f2:(k == 2)=d_:=by simp[k2]
 by_cases k6:k=6
 ·subst k6
  cases two
  ·skip
   exact vA
  skip
  exact Zs
 have f6:(k == 6)=d_:=by simp[k6]
 by_cases k3:k=3
 ·subst k3
  cases two
  ·skip
   exact Hp
  skip
  exact vA
 have f3:(k == 3)=d_:=by simp[k3]
 by_cases k4:k=4
 ·subst k4
  cases two
  ·skip
   exact Hp
  skip
  exact vA
 have f4:(k == 4)=d_:=by simp[k4]
 by_cases k5:k=5
 ·subst k5
  cases two
  ·skip
   exact vA
  skip
  exact Hp
 have f5:(k == 5)=d_:=by simp[k5]
 by_cases k7:k=7
 ·subst k7
  cases two
  ·skip
   exact vA
  skip
  exact Hp
 have f7:(k == 7)=d_:=by simp[k7]
 cases two
 ·skip
  exact Y6
 skip
 exact Y6
end Go.Proofs.YtiagfejlmafliaaGreatDoor
