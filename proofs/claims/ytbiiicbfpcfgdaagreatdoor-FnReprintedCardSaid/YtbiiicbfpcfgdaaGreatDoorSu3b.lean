import Derived.Test.YtbiiicbfpcfgdaaGreatDoorOks
import Derived.Shelf.Abstract
namespace Go.Proofs.YtbiiicbfpcfgdaaGreatDoor
open Go.RowKit
set_option maxRecDepth 100000
set_option maxHeartbeats 16000000
set_option linter.unusedVariables false
theorem uSti1 {P:Prop}(h:P:=by simp[go_sem];rfl):P:=h
theorem tSti1 {P:Prop}(h:P:=by
 have HBB:=zH ((HB.out _).trans (hb2.mono sI))
 clear hb2
 go_wp2_with fail
 go_ret
 exact ret_below (HR.out.trans sI) HBB.out
 ):P:=h
theorem tSti2 {P:Prop}(h:P:=by
 go_enter Tryz.func107,Tryz.ntmps107
 go_wp2_with (go_at_call 120;refine(KN.out _).mono ?_;rintro e w2 ⟨rfl,rfl⟩)
 go_ret
 exact ret_below (HR.out.trans sI) (HB.out _)
 ):P:=h
theorem stepOk_any (s:Pl.Sv) (ao:Option Addr) (cap mb mo cp:Nat) (w:World) (hm:Mt w mb mo cp) (hr:RdI w.heap.size w ao s.nums) (hl:s.nums.length<=1048576) (hn1:s.nm.length<=1048576) (hn2:s.fn.nm.length<=1048576) :
  Calls Tryz.prog 107 #[.agg #[.int .i64 s.k,.slice ao s.nums.length cap,.string (Pl.ba s.nm),.int .i64 s.fn.k,.int .i64 s.fn.a,.int .i64 s.fn.b,.string (Pl.ba s.fn.nm)]] w fun e w'=>e=.returned (.bool (Pl.sok s))/\Below w.heap.size w w':=by
 have HB:Hid (∀o,Below w.heap.size w (w.alloc o)):=fun o=>(Below.refl _ _).alloc (Nat.le_refl _) _
 have KN:Hid (∀o,Calls Tryz.prog 120 #[.slice ao s.nums.length cap] (w.alloc o) fun e w'=>e=.returned (.bool (Pl.numsB s.nums))/\w'=w.alloc o):=fun o=>numsOk_any s.nums ao cap w.heap.size (w.alloc o) (hr.keep (HB.out o)) hl
 have KW:Hid (∀o,Calls Tryz.prog 62 #[.string (Pl.ba s.nm)] (w.alloc o) fun e w'=>e=.returned (.int .i64 (Pl.wk s.nm))/\Below (w.alloc o).heap.size (w.alloc o) w'):=fun o=>wordKind_any (Pl.ba s.nm) mb mo cp (w.alloc o) (hm.keep (HB.out o)) (by rw[Pl.ba_size];omega)
 have K1:Hid (∀o,Calls Tryz.prog 121 #[.agg #[.int .i64 s.fn.k,.int .i64 s.fn.a,.int .i64 s.fn.b,.string (Pl.ba s.fn.nm)]] (w.alloc o) fun e w'=>e=.returned (.bool (Pl.oneB s.fn))/\Below (w.alloc o).heap.size (w.alloc o) w'):=fun o=>oneOk_any s.fn mb mo cp (w.alloc o) (hm.keep (HB.out o)) hn2
 have K2:Hid (∀o,Calls Tryz.prog 122 #[.agg #[.int .i64 s.fn.k,.int .i64 s.fn.a,.int .i64 s.fn.b,.string (Pl.ba s.fn.nm)]] (w.alloc o) fun e w'=>e=.returned (.bool (Pl.twoB s.fn))/\Below (w.alloc o).heap.size (w.alloc o) w'):=fun o=>twoOk_any s.fn mb mo cp (w.alloc o) (hm.keep (HB.out o)) hn2
 have hqn:=ba_beq s.nm
 have heq:=eq78 s.fn.k s.fn.a s.fn.b 0 0 0 (Pl.ba s.fn.nm) ⟨#[]⟩
 rw[<- Pl.f0_iff] at heq
 have C:Hid (∀(w1 w':World) (j:Nat) (v:Value),Below w1.heap.size w1 w'->w.heap.size<w1.heap.size->w1.cell? ⟨w.heap.size,j,none⟩=some v->w'.cell? ⟨w.heap.size,j,none⟩=some v):=fun w1 w' j v hb h1 h=>(hb.cell (p:=⟨w.heap.size,j,none⟩) h1).trans h
 have HF:Hid (Pl.sok s=if s.k=1 then Pl.numsB s.nums && decide (s.nm=[]) && decide (s.fn=Pl.f0) else if s.k=2 then decide (Pl.wk s.nm=2) && decide (s.nums.length=0) && decide (s.fn=Pl.f0) else if s.k=3 then Pl.oneB s.fn && decide (s.nums.length=0) && decide (s.nm=[]) else if s.k=4 then Pl.twoB s.fn && decide (s.nums.length=0) && decide (s.nm=[]) else false):=by
  show _=_
  have e:decide (s.nums=[])=decide (s.nums.length=0):=by rw[Bool.eq_iff_iff];simp
  unfold Pl.sok
  rw[e]
 clear hm hr
 generalize Pl.sok s=r at *
 generalize Pl.numsB s.nums=nb at *
 generalize Pl.oneB s.fn=ob at *
 generalize Pl.twoB s.fn=tb at *
 generalize Pl.wk s.nm=z at *
 generalize decide (s.fn=Pl.f0)=q at *
 generalize decide (s.nm=[])=nn at *
 generalize Pl.ba s.nm=nm at *
 generalize Pl.ba s.fn.nm=fnm at *
 generalize s.fn.k=fk at *
 generalize s.fn.a=fa at *
 generalize s.fn.b=fb at *
 generalize s.k=k at *
 generalize s.nums.length=L at *
 by_cases k1:k=1
 ·subst k1
  have HR:=zH (show r=(nb && nn && q) by rw[HF.out];simp)
  clear KW K1 K2
  cases nb <;> cases nn
  ·skip
   exact tSti2
  ·skip
   exact tSti2
  ·skip
   exact tSti2
  skip
  exact tSti2
 have f1:(k == 1)=false:=by simp[k1]
 by_cases k2:k=2
 ·subst k2
  clear f1 k1 KN K1 K2
  have HR:=zH (show r=(decide (z=2) && decide (L=0) && q) by rw[HF.out];simp)
  clear HF
  by_cases hz:z=2
  rotate_left 1
  ·have hzb:(z == 2)=false:=by simp[hz]
   have HR2:=zH (show r=false by rw[HR.out];simp[hz])
   clear hz HR
   have HR:=HR2
   go_enter Tryz.func107,Tryz.ntmps107
   go_wp2_with (go_at_call 62;refine(KW.out _).mono ?_;rintro e w2 ⟨rfl,hb2⟩)
   go_ret
   exact ret_below (HR.out.trans sI) ((HB.out _).trans (hb2.mono sI))
  subst hz
  by_cases h0:L=0
  ·subst h0
   go_enter Tryz.func107,Tryz.ntmps107
   go_wp2_with fail
   refine(KW.out _).mono ?_
   rintro e w2 ⟨rfl,hb2⟩
   have d1:=C.out _ _ 1 _ hb2 sI uSti1
   have d3:=C.out _ _ 3 _ hb2 sI uSti1
   have d4:=C.out _ _ 4 _ hb2 sI uSti1
   have d5:=C.out _ _ 5 _ hb2 sI uSti1
   have d6:=C.out _ _ 6 _ hb2 sI uSti1
   exact tSti1
  have hb0:((L:Int) == 0)=false:=by simp[h0]
  have HR2:=zH (show r=false by rw[HR.out];simp[h0])
  clear h0 HR
  have HR:=HR2
  go_enter Tryz.func107,Tryz.ntmps107
  go_wp2_with fail
  refine(KW.out _).mono ?_
  rintro e w2 ⟨rfl,hb2⟩
  have d1:=C.out _ _ 1 _ hb2 sI uSti1
  exact tSti1
 have f2:(k == 2)=false:=by simp[k2]
 by_cases k3:k=3
 ·subst k3
  clear f1 k1 f2 k2 KN KW
  have HR:=zH (show r=(ob && decide (L=0) && nn) by rw[HF.out];simp)
  clear HF
  cases ob
  ·skip
   go_enter Tryz.func107,Tryz.ntmps107
   go_wp2_with (go_at_call 121;refine(K1.out _).mono ?_;rintro e w2 ⟨rfl,hb2⟩)
   go_ret
   exact ret_below (HR.out.trans sI) ((HB.out _).trans (hb2.mono sI))
  by_cases h0:L=0
  ·subst h0
   go_enter Tryz.func107,Tryz.ntmps107
   go_wp2_with fail
   refine(K1.out _).mono ?_
   rintro e w2 ⟨rfl,hb2⟩
   have d1:=C.out _ _ 1 _ hb2 sI uSti1
   have d2:=C.out _ _ 2 _ hb2 sI uSti1
   exact tSti1
  have hb0:((L:Int) == 0)=false:=by simp[h0]
  have HR2:=zH (show r=false by rw[HR.out];simp[h0])
  clear h0 HR
  have HR:=HR2
  go_enter Tryz.func107,Tryz.ntmps107
  go_wp2_with fail
  refine(K1.out _).mono ?_
  rintro e w2 ⟨rfl,hb2⟩
  have d1:=C.out _ _ 1 _ hb2 sI uSti1
  exact tSti1
 have f3:(k == 3)=false:=by simp[k3]
 by_cases k4:k=4
 ·subst k4
  clear f1 k1 f2 k2 KN KW f3 k3
  have HR:=zH (show r=(tb && decide (L=0) && nn) by rw[HF.out];simp)
  clear HF
  cases tb
  ·skip
   go_enter Tryz.func107,Tryz.ntmps107
   go_wp2_with (go_at_call 122;refine(K2.out _).mono ?_;rintro e w2 ⟨rfl,hb2⟩)
   go_ret
   exact ret_below (HR.out.trans sI) ((HB.out _).trans (hb2.mono sI))
  by_cases h0:L=0
  ·subst h0
   go_enter Tryz.func107,Tryz.ntmps107
   go_wp2_with fail
   refine(K2.out _).mono ?_
   rintro e w2 ⟨rfl,hb2⟩
   have d1:=C.out _ _ 1 _ hb2 sI uSti1
   have d2:=C.out _ _ 2 _ hb2 sI uSti1
   exact tSti1
  have hb0:((L:Int) == 0)=false:=by simp[h0]
  have HR2:=zH (show r=false by rw[HR.out];simp[h0])
  clear h0 HR
  have HR:=HR2
  go_enter Tryz.func107,Tryz.ntmps107
  go_wp2_with fail
  refine(K2.out _).mono ?_
  rintro e w2 ⟨rfl,hb2⟩
  have d1:=C.out _ _ 1 _ hb2 sI uSti1
  exact tSti1
 have f4:(k == 4)=false:=by simp[k4]
 have HR:=zH (show r=false by rw[HF.out];simp[k1,k2,k3,k4])
 clear k1 k2 k3 k4 HF
 go_enter Tryz.func107,Tryz.ntmps107
 go_wp2_with fail
 go_ret
 exact ret_below HR.out (HB.out _)
def NdV (B:Nat) (w:World):Pl.Nd Pl.Sv->Value->Prop
 |.at s,v=>(s.k=1/\∃an cn,v=.iface 160 (.agg #[.slice an s.nums.length cn])/\RdI B w an s.nums)\/(s.k=2/\v=.iface 162 (.agg #[.string (Pl.ba s.nm)]))
 |.one s r,v=>∃vr,v=.iface 153 (.agg #[.int .i64 s.fn.k,.int .i64 s.fn.a,.int .i64 s.fn.b,.string (Pl.ba s.fn.nm),vr])/\NdV B w r vr
 |.two s l r,v=>∃vl vr,v=.iface 155 (.agg #[vl,.int .i64 s.fn.k,.int .i64 s.fn.a,.int .i64 s.fn.b,.string (Pl.ba s.fn.nm),vr])/\NdV B w l vl/\NdV B w r vr
theorem NdV.keep {B:Nat}{w w':World}(hb:Below B w w'):∀{t:Pl.Nd Pl.Sv}{v:Value},NdV B w t v->NdV B w' t v:=by
 intro t
 induction t with
 |«at» s =>
  intro v h
  rcases h with ⟨h1,an,cn,h2,h3⟩|h
  ·exact .inl ⟨h1,an,cn,h2,h3.keep hb⟩
  exact .inr h
 |one s r ih =>
  intro v h
  obtain⟨vr,h1,h2⟩:=h
  exact⟨vr,h1,ih h2⟩
 |two s l r il ir =>
  intro v h
  obtain⟨vl,vr,h1,h2,h3⟩:=h
  exact⟨vl,vr,h1,il h2,ir h3⟩
theorem NdV.iface {B:Nat}{w:World}{t:Pl.Nd Pl.Sv}{v:Value}(h:NdV B w t v):∃T p,v=.iface T p:=by
 cases t with
 |«at» s =>
  rcases h with ⟨_,an,cn,h2,_⟩|⟨_,h⟩
  ·exact⟨_,_,h2⟩
  exact⟨_,_,h⟩
 |one s r=>obtain⟨vr,h1,_⟩:=h;exact⟨_,_,h1⟩
 |two s l r=>obtain⟨vl,vr,h1,_⟩:=h;exact⟨_,_,h1⟩
theorem stepNode_at (s:Pl.Sv) (an:Option Addr) (cn:Nat) (ao:Option Addr) (n cp:Nat) (hk:s.k=1\/s.k=2) (B:Nat) (w:World) (hB:B<=w.heap.size) (hr:RdI B w an s.nums) :
  Calls Tryz.prog 108 #[.agg #[.int .i64 s.k,.slice an s.nums.length cn,.string (Pl.ba s.nm),.int .i64 s.fn.k,.int .i64 s.fn.a,.int .i64 s.fn.b,.string (Pl.ba s.fn.nm)],.slice ao n cp] w fun e w'=>(∃v,e=.returned v/\NdV B w' (.at s) v)/\Below w.heap.size w w':=by
 have HB:Hid (∀o,Below w.heap.size w (w.alloc o)):=fun o=>(Below.refl _ _).alloc (Nat.le_refl _) _
 rcases hk with hk|hk
 ·have HN:Hid (∀w',Below w.heap.size w w'->NdV B w' (.at s) (.iface 160 (.agg #[.slice an s.nums.length cn]))):=fun w' h=>.inl ⟨hk,an,cn,rfl,hr.keep (h.mono hB)⟩
  clear hr
  rw[hk]
  generalize s.nums.length=L at *
  generalize Pl.ba s.nm=nm at *
  generalize Pl.ba s.fn.nm=fnm at *
  generalize s.fn.k=fk at *
  generalize s.fn.a=fa at *
  generalize s.fn.b=fb at *
  clear hk
  go_enter Tryz.func108,Tryz.ntmps108
  go_wp2
  go_ret
  exact⟨⟨_,rfl,HN.out _ (HB.out _)⟩,HB.out _⟩
 have HN:Hid (∀w',NdV B w' (.at s) (.iface 162 (.agg #[.string (Pl.ba s.nm)]))):=fun w'=>.inr ⟨hk,rfl⟩
 clear hr
 rw[hk]
 generalize s.nums.length=L at *
 generalize Pl.ba s.nm=nm at *
 generalize Pl.ba s.fn.nm=fnm at *
 generalize s.fn.k=fk at *
 generalize s.fn.a=fa at *
 generalize s.fn.b=fb at *
 clear hk
 go_enter Tryz.func108,Tryz.ntmps108
 go_wp2
 go_ret
 exact⟨⟨_,rfl,HN.out _⟩,HB.out _⟩
theorem tNdv1 {P:Prop}(h:P:=by
 rw[hk]
 generalize s.nums.length=L at *
 generalize Pl.ba s.nm=nm at *
 generalize Pl.ba s.fn.nm=fnm at *
 generalize s.fn.k=fk at *
 generalize s.fn.a=fa at *
 generalize s.fn.b=fb at *
 clear hk
 go_enter Tryz.func108,Tryz.ntmps108
 go_wp2
 go_quiet (fail)
 go_wp2
 go_ret
 exact⟨⟨_,rfl,HN.out _ (below_drewN (HB.out _) _)⟩,below_drewN (HB.out _) _⟩
 ):P:=h
theorem stepNode_one (s:Pl.Sv) (t:Pl.Nd Pl.Sv) (an:Option Addr) (cn:Nat) (g o cp:Nat) (v0:Value) (hk:s.k=3) (B:Nat) (w:World) (hB:B<=w.heap.size) (hg:g<w.heap.size) (h0:w.cell? ⟨g,o,none⟩=some v0) (hv:NdV B w t v0) :
  Calls Tryz.prog 108 #[.agg #[.int .i64 s.k,.slice an s.nums.length cn,.string (Pl.ba s.nm),.int .i64 s.fn.k,.int .i64 s.fn.a,.int .i64 s.fn.b,.string (Pl.ba s.fn.nm)],.slice (some ⟨g,o,none⟩) 1 cp] w fun e w'=>(∃v,e=.returned v/\NdV B w' (.one s t) v)/\Below w.heap.size w w':=by
 have HB:Hid (∀o,Below w.heap.size w (w.alloc o)):=fun o=>(Below.refl _ _).alloc (Nat.le_refl _) _
 have HN:Hid (∀w',Below w.heap.size w w'->NdV B w' (.one s t) (.iface 153 (.agg #[.int .i64 s.fn.k,.int .i64 s.fn.a,.int .i64 s.fn.b,.string (Pl.ba s.fn.nm),v0]))):=fun w' h=>⟨v0,rfl,NdV.keep (h.mono hB) hv⟩
 have hc:∀ob,(w.alloc ob).cell? ⟨g,o,none⟩=some v0:=fun ob=>((HB.out ob).cell (p:=⟨g,o,none⟩) hg).trans h0
 obtain⟨T0,p0,rfl⟩:=hv.iface
 clear hv h0
 exact tNdv1
theorem stepNode_two (s:Pl.Sv) (tl tr:Pl.Nd Pl.Sv) (an:Option Addr) (cn:Nat) (g o cp:Nat) (v0 v1:Value) (hk:s.k=4) (B:Nat) (w:World) (hB:B<=w.heap.size) (hg:g<w.heap.size) (h0:w.cell? ⟨g,o,none⟩=some v0) (h1:w.cell? ⟨g,o+1,none⟩=some v1) (hv0:NdV B w tr v0) (hv1:NdV B w tl v1) :
  Calls Tryz.prog 108 #[.agg #[.int .i64 s.k,.slice an s.nums.length cn,.string (Pl.ba s.nm),.int .i64 s.fn.k,.int .i64 s.fn.a,.int .i64 s.fn.b,.string (Pl.ba s.fn.nm)],.slice (some ⟨g,o,none⟩) 2 cp] w fun e w'=>(∃v,e=.returned v/\NdV B w' (.two s tl tr) v)/\Below w.heap.size w w':=by
 have HB:Hid (∀o,Below w.heap.size w (w.alloc o)):=fun o=>(Below.refl _ _).alloc (Nat.le_refl _) _
 have HN:Hid (∀w',Below w.heap.size w w'->NdV B w' (.two s tl tr) (.iface 155 (.agg #[v1,.int .i64 s.fn.k,.int .i64 s.fn.a,.int .i64 s.fn.b,.string (Pl.ba s.fn.nm),v0]))):=fun w' h=>⟨v1,v0,rfl,NdV.keep (h.mono hB) hv1,NdV.keep (h.mono hB) hv0⟩
 have hc:∀ob,(w.alloc ob).cell? ⟨g,o,none⟩=some v0:=fun ob=>((HB.out ob).cell (p:=⟨g,o,none⟩) hg).trans h0
 have hc1:∀ob,(w.alloc ob).cell? ⟨g,o+1,none⟩=some v1:=fun ob=>((HB.out ob).cell (p:=⟨g,o+1,none⟩) hg).trans h1
 obtain⟨T0,p0,rfl⟩:=hv0.iface
 obtain⟨T1,p1,rfl⟩:=hv1.iface
 clear hv0 hv1 h0 h1
 exact tNdv1
theorem nest121 (p:Value) (w:World):Calls Tryz.prog 181 #[.agg #[p]] w fun e w'=>e=.returned (.int .i64 0)/\Below w.heap.size w w':=by
 have HB:Hid (∀o,Below w.heap.size w (w.alloc o)):=fun o=>(Below.refl _ _).alloc (Nat.le_refl _) _
 go_enter Tryz.func181,Tryz.ntmps181
 go_wp2
 go_ret
 exact⟨rfl,HB.out _⟩
theorem nest123 (p:Value) (w:World):Calls Tryz.prog 184 #[.agg #[p]] w fun e w'=>e=.returned (.int .i64 0)/\Below w.heap.size w w':=by
 have HB:Hid (∀o,Below w.heap.size w (w.alloc o)):=fun o=>(Below.refl _ _).alloc (Nat.le_refl _) _
 go_enter Tryz.func184,Tryz.ntmps184
 go_wp2
 go_ret
 exact⟨rfl,HB.out _⟩
theorem bare121 (p:Value) (w:World):Calls Tryz.prog 179 #[.agg #[p]] w fun e w'=>e=.returned (.bool true)/\Below w.heap.size w w':=by
 have HB:Hid (∀o,Below w.heap.size w (w.alloc o)):=fun o=>(Below.refl _ _).alloc (Nat.le_refl _) _
 go_enter Tryz.func179,Tryz.ntmps179
 go_wp2
 go_ret
 exact⟨rfl,HB.out _⟩
theorem bare123 (p:Value) (w:World):Calls Tryz.prog 182 #[.agg #[p]] w fun e w'=>e=.returned (.bool true)/\Below w.heap.size w w':=by
 have HB:Hid (∀o,Below w.heap.size w (w.alloc o)):=fun o=>(Below.refl _ _).alloc (Nat.le_refl _) _
 go_enter Tryz.func182,Tryz.ntmps182
 go_wp2
 go_ret
 exact⟨rfl,HB.out _⟩
theorem bare125 (p:Array Value) (w:World):Calls Tryz.prog 173 #[.agg p] w fun e w'=>e=.returned (.bool false)/\Below w.heap.size w w':=by
 have HB:Hid (∀o,Below w.heap.size w (w.alloc o)):=fun o=>(Below.refl _ _).alloc (Nat.le_refl _) _
 go_enter Tryz.func173,Tryz.ntmps173
 go_wp2
 go_ret
 exact⟨rfl,HB.out _⟩
theorem bare128 (p:Array Value) (w:World):Calls Tryz.prog 176 #[.agg p] w fun e w'=>e=.returned (.bool false)/\Below w.heap.size w w':=by
 have HB:Hid (∀o,Below w.heap.size w (w.alloc o)):=fun o=>(Below.refl _ _).alloc (Nat.le_refl _) _
 go_enter Tryz.func176,Tryz.ntmps176
 go_wp2
 go_ret
 exact⟨rfl,HB.out _⟩
theorem meth_n121 (p : Value) (w : World) : (method 313 160 p "loop.example/s02135/impl.nesting").run Tryz.prog w = .ok (181, p) w := by kernel_rfl
theorem meth_n123 (p : Value) (w : World) : (method 313 162 p "loop.example/s02135/impl.nesting").run Tryz.prog w = .ok (184, p) w := by kernel_rfl
theorem meth_n125 (p : Value) (w : World) : (method 313 153 p "loop.example/s02135/impl.nesting").run Tryz.prog w = .ok (175, p) w := by kernel_rfl
theorem meth_n128 (p : Value) (w : World) : (method 313 155 p "loop.example/s02135/impl.nesting").run Tryz.prog w = .ok (178, p) w := by kernel_rfl
theorem meth_b121 (p : Value) (w : World) : (method 313 160 p "loop.example/s02135/impl.bare").run Tryz.prog w = .ok (179, p) w := by kernel_rfl
theorem meth_b123 (p : Value) (w : World) : (method 313 162 p "loop.example/s02135/impl.bare").run Tryz.prog w = .ok (182, p) w := by kernel_rfl
theorem meth_b125 (p : Value) (w : World) : (method 313 153 p "loop.example/s02135/impl.bare").run Tryz.prog w = .ok (173, p) w := by kernel_rfl
theorem meth_b128 (p : Value) (w : World) : (method 313 155 p "loop.example/s02135/impl.bare").run Tryz.prog w = .ok (176, p) w := by kernel_rfl
def Nsk (t : Pl.Nd Pl.Sv) (v : Value) : Prop := ∃ T p fn fb, v = .iface T p /\ (∀ w, (method 313 T p "loop.example/s02135/impl.nesting").run Tryz.prog w = .ok (fn, p) w) /\ (∀ w, (method 313 T p "loop.example/s02135/impl.bare").run Tryz.prog w = .ok (fb, p) w) /\ (∀ args w, (callFunc fn args).run Tryz.prog w = .ok (.enter fn args) w) /\ (∀ args w, (callFunc fb args).run Tryz.prog w = .ok (.enter fb args) w) /\ (∀ w, Calls Tryz.prog fn #[p] w fun e w' => e = .returned (.int .i64 (Pl.nest t : Nat)) /\ Below w.heap.size w w') /\ (∀ w, Calls Tryz.prog fb #[p] w fun e w' => e = .returned (.bool (Pl.bareN t)) /\ Below w.heap.size w w')
theorem nest_one (k a b:Int) (nm:ByteArray) (r:Pl.Nd Pl.Sv) (v:Value) (h:Nsk r v) (w:World):Calls Tryz.prog 175 #[.agg #[.int .i64 k,.int .i64 a,.int .i64 b,.string nm,v]] w fun e w'=>e=.returned (.int .i64 (Pl.nest r:Nat))/\Below w.heap.size w w':=by
 have HB:Hid (∀o,Below w.heap.size w (w.alloc o)):=fun o=>(Below.refl _ _).alloc (Nat.le_refl _) _
 obtain⟨T,p,fn,fb,rfl,m1,m2,e1,e2,k1,k2⟩:=h
 have K:=zH k1
 clear k1 k2 m2 e2
 generalize Pl.nest r=q at *
 go_enter Tryz.func175,Tryz.ntmps175
 go_wp2_with fail
 refine(K.out _).mono ?_
 rintro e w2 ⟨rfl,hb2⟩
 go_wp2_with fail
 go_ret
 exact⟨rfl,(HB.out _).trans (hb2.mono sI)⟩
theorem nest_two (k a b:Int) (nm:ByteArray) (l r:Pl.Nd Pl.Sv) (vl vr:Value) (hl:Nsk l vl) (hr:Nsk r vr) (hb1:Pl.nest l<=1048576) (hb2:Pl.nest r<=1048576) (s:Pl.Sv) (w:World):Calls Tryz.prog 178 #[.agg #[vl,.int .i64 k,.int .i64 a,.int .i64 b,.string nm,vr]] w fun e w'=>e=.returned (.int .i64 (Pl.nest (.two s l r):Nat))/\Below w.heap.size w w':=by
 have HB:Hid (∀o,Below w.heap.size w (w.alloc o)):=fun o=>(Below.refl _ _).alloc (Nat.le_refl _) _
 obtain⟨T,p,fn,fb,rfl,m1,m2,e1,e2,k1,k2⟩:=hl
 obtain⟨T',p',fn',fb',rfl,m1',m2',e1',e2',k1',k2'⟩:=hr
 have K1:=zH k1
 have K2:=zH k2
 have K3:=zH k1'
 have HN:Hid (Pl.nest (.two s l r)=max (if Pl.bareN l=true then Pl.nest l else Pl.nest l+1) (Pl.nest r)):=by
  show max (match Pl.bareN l with | true=>Pl.nest l | false=>Pl.nest l+1) (Pl.nest r)=_
  cases Pl.bareN l <;> rfl
 have C:Hid (∀(w1 w':World) (j:Nat) (v:Value),Below w1.heap.size w1 w'->w.heap.size<w1.heap.size->w1.cell? ⟨w.heap.size,j,none⟩=some v->w'.cell? ⟨w.heap.size,j,none⟩=some v):=fun w1 w' j v hb h1 h=>(hb.cell (p:=⟨w.heap.size,j,none⟩) h1).trans h
 clear k1 k2 k1' k2' m2' e2'
 generalize Pl.nest (.two s l r)=qq at *
 generalize Pl.nest l=ql at *
 generalize Pl.nest r=qr at *
 generalize Pl.bareN l=bl at *
 cases bl
 all_goals
  simp only[if_true,if_false,Bool.false_eq_true] at HN
  go_enter Tryz.func178,Tryz.ntmps178
  go_wp2_with fail
  refine(K1.out _).mono ?_
  rintro e w2 ⟨rfl,hb2⟩
  have d0:=C.out _ _ 0 _ hb2 sI (by simp[go_sem];rfl)
  have d5:=C.out _ _ 5 _ hb2 sI (by simp[go_sem];rfl)
  have hs2:w.heap.size<w2.heap.size:=Nat.lt_of_lt_of_le sI hb2.size
  have H2:=zH ((HB.out _).trans (hb2.mono sI))
  clear hb2
  go_wp2_with fail
  refine(K2.out _).mono ?_
  rintro e w3 ⟨rfl,hb3⟩
  have f5:=C.out _ _ 5 _ hb3 hs2 d5
  have H3:=zH (H2.out.trans (hb3.mono H2.out.size))
  clear hb3 d0 d5
  go_wp2_with fail
  refine(K3.out _).mono ?_
  rintro e w4 ⟨rfl,hb4⟩
  have H4:=zH (H3.out.trans (hb4.mono H3.out.size))
  clear hb4
  go_wp2_with fail
  all_goals (go_ret;exact⟨ret_int (by rw[HN.out];omega),H4.out⟩)
theorem NdV.nsk {B:Nat}{w:World}:∀{t:Pl.Nd Pl.Sv}{v:Value},NdV B w t v->t.post.length<=1048576->Nsk t v:=by
 intro t
 induction t with
 |«at» s =>
  intro v h _
  rcases h with ⟨_,an,cn,rfl,_⟩|⟨_,rfl⟩
  ·exact⟨_,_,181,179,rfl,meth_n121 _,meth_b121 _,enters_of Tryz.func181 kR rfl,enters_of Tryz.func179 kR rfl,nest121 _,bare121 _⟩
  exact⟨_,_,184,182,rfl,meth_n123 _,meth_b123 _,enters_of Tryz.func184 kR rfl,enters_of Tryz.func182 kR rfl,nest123 _,bare123 _⟩
 |one s r ih =>
  intro v h hl
  obtain⟨vr,rfl,h2⟩:=h
  have hl':r.post.length<=1048576:=by simp only[Pl.Nd.post,List.length_append] at hl;omega
  exact⟨_,_,175,173,rfl,meth_n125 _,meth_b125 _,enters_of Tryz.func175 kR rfl,enters_of Tryz.func173 kR rfl,nest_one _ _ _ _ r vr (ih h2 hl'),bare125 _⟩
 |two s l r il ir =>
  intro v h hl
  obtain⟨vl,vr,rfl,h2,h3⟩:=h
  have hl1:l.post.length<=1048576:=by simp only[Pl.Nd.post,List.length_append] at hl;omega
  have hl2:r.post.length<=1048576:=by simp only[Pl.Nd.post,List.length_append] at hl;omega
  have n1:=Pl.nest_le l
  have n2:=Pl.nest_le r
  exact⟨_,_,178,176,rfl,meth_n128 _,meth_b128 _,enters_of Tryz.func178 kR rfl,enters_of Tryz.func176 kR rfl,nest_two _ _ _ _ l r vl vr (il h2 hl1) (ir h3 hl2) oM oM s,bare128 _⟩
theorem und116:Tryz.prog.underlying 156=some (.slice (Tryz.prog.elem 156)):=by kernel_rfl
theorem und116':Tryz.prog.underlying 156=some (.slice 135):=by kernel_rfl
theorem elem116:Tryz.prog.elem 156=135:=by kernel_rfl
theorem Tryz.info135:(Tryz.prog.info? 135).map (fun i=>(i.zero,i.size,i.bytes))=some (some .nilIface,1,16):=by kernel_rfl
def lo116 (ao:Option Addr) (cp j:Nat):Option Addr:=if cp=j then ao else ao.map (fun a=>a.add (j * 1))
theorem exec_hi116 {o:Oper}{a:Act}(x y:Operand) (ao:Option Addr) (n cp j:Nat) (ho:o.op=Op.slice 156 x none (some y) none) (hx:a.eval x=.slice ao n cp) (hy:a.eval y=.int .i64 (j:Int)) (h:j<=cp) (w:World) :
  (execOp a.eval o).run Tryz.prog w=.ok (.value (.slice ao j cp)) w:=by
 have e:(Instr.sliceAt 156 (.slice ao n cp) none (some (.int .i64 (j:Int))) none).run Tryz.prog w=.ok (.slice ao j cp) w:=by
  rw[run_sliceAt_slice _ _ _ _ _ _ und116,run_slice_h _ _ _ _ _ und116 _ _ oM oM,elem116,Tryz.sizeOf135]
  cases ao <;> simp[Result.andThen,sliced,Addr.add]
 simp[execOp,ho,hx,hy,e,Result.andThen]
theorem exec_lo116 {o:Oper}{a:Act}(x y:Operand) (ao:Option Addr) (n cp j:Nat) (ho:o.op=Op.slice 156 x (some y) none none) (hx:a.eval x=.slice ao n cp) (hy:a.eval y=.int .i64 (j:Int)) (h:j<=n) (hc:n<=cp) (w:World) :
  (execOp a.eval o).run Tryz.prog w=.ok (.value (.slice (lo116 ao cp j) (n-j) (cp-j))) w:=by
 have e:(Instr.sliceAt 156 (.slice ao n cp) (some (.int .i64 (j:Int))) none none).run Tryz.prog w=.ok (.slice (lo116 ao cp j) (n-j) (cp-j)) w:=by
  rw[run_sliceAt_slice _ _ _ _ _ _ und116,run_slice_l _ _ _ _ _ und116 _ _ oM oM,elem116,Tryz.sizeOf135]
  simp only[Result.andThen,sliced,lo116,Int.toNat_natCast]
 simp[execOp,ho,hx,hy,e,Result.andThen]
theorem exec_move {o:Oper}{a:Act}(x:Operand) (v:Value) (ho:o.op=Op.move x) (hx:a.eval x=v) (w:World):(execOp a.eval o).run Tryz.prog w=.ok (.value v) w:=by
 simp[execOp,ho,hx]
theorem ownsRow_cut {base e n r yo:Nat}{xo:Option Addr}{w:World}{xs:List Value}(h:w.ownsRow base e 1 (.slice xo n yo) n xs) (hr:r<=n):w.ownsRow base e 1 (.slice xo r yo) r (xs.take r):=by
 obtain⟨h1,h2⟩:=h
 refine⟨by rw[List.length_take];omega,?_⟩
 rcases h2 with ⟨h2,h3⟩|⟨g,cap,cur,h2,h3,h4,h5,h6,h7,h8⟩
 ·injection h2 with a1 a2 a3
  subst a1 a2 a3
  obtain rfl:r=0:=by omega
  exact .inl ⟨rfl,rfl⟩
 injection h2 with a1 a2 a3
 subst a1 a3
 refine .inr ⟨g,yo,cur,rfl,h3,h4,by omega,h6,h7,?_⟩
 rw[<- h8,List.take_take]
 congr 1
 omega
theorem owns_keep {base e n:Nat}{w w':World}{v:Value}{xs:List Value}(h:w.ownsRow base e 1 v n xs) (hb:Below w.heap.size w w'):w'.ownsRow base e 1 v n xs:=by
 refine⟨h.1,?_⟩
 rcases h.2 with h|⟨g,cap,cur,e,h1,h2,h3⟩
 ·exact .inl h
 exact .inr ⟨g,cap,cur,e,h1,(hb.block g (Array.getElem?_eq_some_iff.1 h2).1).trans h2,h3⟩
theorem owns_form {base e n:Nat}{w:World}{v:Value}{xs:List Value}(h:w.ownsRow base e 1 v n xs):∃xo yo,v=.slice xo n yo/\n<=yo:=by
 rcases h.2 with ⟨e,h0⟩|⟨g,cp,cur,e,_,_,h,_⟩
 ·exact⟨none,0,by rw[h0];exact e,by omega⟩
 exact⟨_,_,e,h⟩
def Stk (B:Nat) (w:World):List (Pl.Nd Pl.Sv)->List Value->Prop
 |[],[]=>True
 |t::st,v::rx=>NdV B w t v/\Stk B w st rx
 |_,_=>False
theorem Stk.keep {B:Nat}{w w':World}(hb:Below B w w'):∀{st:List (Pl.Nd Pl.Sv)}{rx:List Value},Stk B w st rx->Stk B w' st rx:=by
 intro st
 induction st with
 |nil=>intro rx h;cases rx <;> exact h
 |cons t st ih =>
  intro rx h
  cases rx with
  |nil=>exact h
  |cons v rx=>exact⟨NdV.keep hb h.1,ih h.2⟩
theorem Stk.len {B:Nat}{w:World}:∀{st:List (Pl.Nd Pl.Sv)}{rx:List Value},Stk B w st rx->rx.length=st.length:=by
 intro st
 induction st with
 |nil=>intro rx h;cases rx with | nil=>rfl | cons v rx=>cases h
 |cons t st ih =>
  intro rx h
  cases rx with
  |nil=>cases h
  |cons v rx=>simp[ih h.2]
theorem Stk.one {B:Nat}{w:World}:∀{st:List (Pl.Nd Pl.Sv)}{rx:List Value},Stk B w st rx->∀v∈rx,v.oneCell'=true:=by
 intro st
 induction st with
 |nil=>intro rx h;cases rx with | nil=>intro v hv;cases hv | cons v rx=>cases h
 |cons t st ih =>
  intro rx h v hv
  cases rx with
  |nil=>cases h
  |cons u rx =>
   rcases List.mem_cons.1 hv with rfl|hv
   ·obtain⟨T,p,rfl⟩:=h.1.iface
    rfl
   exact ih h.2 v hv
namespace Pl
theorem run_snoc {α:Type}(ar:α->Nat):∀(c:List α) (s:α) (st:List (Nd α)),run ar (c++[s]) st=match run ar c st with | none=>none | some st'=>run ar [s] st':=by
 intro c
 induction c with
 |nil=>intro s st;rfl
 |cons x c ih =>
  intro s st
  simp only[List.cons_append,run]
  split
  ·exact ih s _
  split
  ·cases st with
   |nil=>rfl
   |cons y st=>exact ih s _
  match st with
  |[]=>rfl
  |[y]=>rfl
  |l::r::st=>exact ih s _
theorem run_none {α:Type}(ar:α->Nat) (c:List α):∀(b:List α) (st:List (Nd α)),run ar c st=none->run ar (c++b) st=none:=by
 intro b
 induction b generalizing c with
 |nil=>intro st h;rw[List.append_nil];exact h
 |cons s b ih =>
  intro st h
  have:c++s::b=(c++[s])++b:=by simp
  rw[this]
  apply ih
  rw[run_snoc,h]
theorem run_take {c:List Sv}{k:Nat}{s:Sv}(h:c[k]? = some s) {st:List (Nd Sv)}(hr:run ar (c.take k) []=some st):run ar (c.take (k+1)) []=run ar [s] st:=by
 rw[List.take_add_one,h]
 show run ar (c.take k++[s]) []=_
 rw[run_snoc,hr]
theorem run_fail {c:List Sv}{k:Nat}(h:run ar (c.take k) []=none):run ar c []=none:=by
 have:=run_none ar (c.take k) (c.drop k) [] h
 rwa [List.take_append_drop] at this
theorem run_len:∀(c:List Sv) (st st':List (Nd Sv)),run ar c st=some st'->st'.length<=st.length+c.length:=by
 intro c
 induction c with
 |nil=>intro st st' h;simp only[run,Option.some.injEq] at h;rw[h];simp
 |cons s c ih =>
  intro st st' h
  simp only[run] at h
  split at h
  ·have:=ih _ _ h;simp only[List.length_cons] at *;omega
  split at h
  ·cases st with
   |nil=>cases h
   |cons y st=>have:=ih _ _ h;simp only[List.length_cons] at *;omega
  match st,h with
  |[],h=>cases h
  |[y],h=>cases h
  |l::r::st,h=>have:=ih _ _ h;simp only[List.length_cons] at *;omega
end Pl
theorem ready_val {P:Program}{ops:Array Oper}{Q:Exit->Act->World->Prop}{o:Oper}{a:Act}{w w':World}{K:Act->World->Prop}(hg:o.guard=none) (v:Value) (h:(execOp a.eval o).run P w=.ok (.value v) w') (hK:K (a.put o.dst v) w') :
  if Region.wanted o (yielded ops a.tmps)=true then Oper.wp P o a w K Q else K (a.put o.dst undef) w:=by
 have hw:Region.wanted o (yielded ops a.tmps)=true:=by simp[Region.wanted,hg]
 rw[if_pos hw]
 unfold Oper.wp
 rw[h]
 exact hK
theorem ready_call {P:Program}{ops:Array Oper}{Q:Exit->Act->World->Prop}{o:Oper}{a:Act}{w:World}{K:Act->World->Prop}(hg:o.guard=none) (f:FuncId) (args:Array Value) (h:(execOp a.eval o).run P w=.ok (.enter f args) w) (hK:Calls P f args w fun e w'=>∃v,e=.returned v/\K (a.put o.dst v) w') :
  if Region.wanted o (yielded ops a.tmps)=true then Oper.wp P o a w K Q else K (a.put o.dst undef) w:=by
 have hw:Region.wanted o (yielded ops a.tmps)=true:=by simp[Region.wanted,hg]
 rw[if_pos hw]
 unfold Oper.wp
 rw[h]
 refine hK.mono ?_
 rintro e w' ⟨v,rfl,h⟩
 exact h
theorem step_val {P:Program}{md:Region.Mode}{ops:Array Oper}{Q:Exit->Act->World->Prop}{S:World->Prop}{fuel:Nat}{listed:Array Bool}{i:Nat}{o:Oper}{a:Act}{w w':World}(hr:Region.ready md ops listed=[i]) (ho:ops[i]? = some o) (hg:o.guard=none) (v:Value) (h:(execOp a.eval o).run P w=.ok (.value v) w') (hS:S w')
  (hN:wpAnyH P md ops Q S fuel (listed.setIfInBounds i true) (a.put o.dst v) w'):wpAnyH P md ops Q S (fuel+1) listed a w :=
 wpAnyH_ready hr sI (AllReadyH.cons ho (fun K hK=>ready_val hg v h (hK.out _ _ hS (fun _=>hN))) AllReadyH.nil)
theorem step_call {P:Program}{md:Region.Mode}{ops:Array Oper}{Q:Exit->Act->World->Prop}{S:World->Prop}{fuel:Nat}{listed:Array Bool}{i:Nat}{o:Oper}{a:Act}{w:World}(hr:Region.ready md ops listed=[i]) (ho:ops[i]? = some o) (hg:o.guard=none) (f:FuncId) (args:Array Value) (h:(execOp a.eval o).run P w=.ok (.enter f args) w)
  (hN:Calls P f args w fun e w'=>∃v,e=.returned v/\S w'/\wpAnyH P md ops Q S fuel (listed.setIfInBounds i true) (a.put o.dst v) w'):wpAnyH P md ops Q S (fuel+1) listed a w :=
 wpAnyH_ready hr sI (AllReadyH.cons ho (fun K hK=>ready_call hg f args h (hN.mono (by
  rintro e w' ⟨v,rfl,hS,hW⟩
  exact⟨v,rfl,hK.out _ _ hS (fun _=>hW)⟩))) AllReadyH.nil)
theorem exec_assign {o:Oper}{a:Act}(x:Operand) (v:Value) (ho:o.op=Op.assign x) (hx:a.eval x=v) (w:World):(execOp a.eval o).run Tryz.prog w=.ok (.value v) w:=by
 simp[execOp,ho,hx]
theorem exec_call71 {o:Oper}{a:Act}(x y:Operand) (v u:Value) (ts:Array TypeId) (ho:o.op=Op.call { callee:=.value (.func 108),args:=#[x,y],argTypes:=ts }) (hx:a.eval x=v) (hy:a.eval y=u) (w:World):(execOp a.eval o).run Tryz.prog w=.ok (.enter 108 #[v,u]) w:=by
 have he:∀args w,(callFunc 108 args).run Tryz.prog w=.ok (.enter 108 args) w:=enters_of Tryz.func108 kR rfl
 have hf:a.eval (.func 108)=.func (.func 108) #[] #[]:=rfl
 simp[execOp,ho,hx,hy,hf,resolve,invoke,Deferred.ofValue,he]
theorem exec_build104 {o:Oper}{a:Act}(x:Operand) (T:TypeId) (p:Value) (ho:o.op=Op.buildSlice 156 1 #[(0,x)]) (hx:a.eval x=.iface T p) (w:World):(execOp a.eval o).run Tryz.prog w=.ok (.value (.slice (some ⟨w.heap.size,0,none⟩) 1 1)) (w.alloc (.cells #[.iface T p] 135)):=by
 simp[execOp,ho,hx]
 go_simp
theorem exec_app104 {o:Oper}{a:Act}(x y:Operand) (v u r:Value) (w w':World) (ho:o.op=Op.call { callee:=.builtin .append,args:=#[x,y],argTypes:=#[156,156] }) (hx:a.eval x=v) (hy:a.eval y=u) (hr:(Builtin.append_ #[156,156] o.type #[v,u]).run Tryz.prog w=.ok r w'):(execOp a.eval o).run Tryz.prog w=.ok (.value r) w':=by
 simp[execOp,ho,hx,hy,resolve,invoke,builtin,hr,Result.andThen]
theorem exec_load80 {o:Oper}{a:Act}(x:Operand) (b:Nat) (v0 v3 v4 v5:Int) (an:Option Addr) (sn cn:Nat) (nm fnm:ByteArray) (w:World) (ho:o.op=Op.load 90 x) (hx:a.eval x=.pointer (some ⟨b,0,none⟩))
  (d0:w.cell? ⟨b,0,none⟩=some (.int .i64 v0)) (d1:w.cell? ⟨b,1,none⟩=some (.slice an sn cn)) (d2:w.cell? ⟨b,2,none⟩=some (.string nm)) (d3:w.cell? ⟨b,3,none⟩=some (.int .i64 v3)) (d4:w.cell? ⟨b,4,none⟩=some (.int .i64 v4)) (d5:w.cell? ⟨b,5,none⟩=some (.int .i64 v5)) (d6:w.cell? ⟨b,6,none⟩=some (.string fnm)) :
  (execOp a.eval o).run Tryz.prog w=.ok (.value (.agg #[.int .i64 v0,.slice an sn cn,.string nm,.int .i64 v3,.int .i64 v4,.int .i64 v5,.string fnm])) w:=by
 have z80:=Tryz.sizeOf90
 have a80:=Tryz.isAgg90
 simp only[execOp,ho,hx]
 go_simp
theorem exec_f40_1 {o:Oper}{a:Act}(x:Operand) (b:Nat) (ho:o.op=Op.fieldAddr 43 x 1) (hx:a.eval x=.pointer (some ⟨b,0,none⟩)) (w:World):(execOp a.eval o).run Tryz.prog w=.ok (.value (.pointer (some ⟨b,1,none⟩))) w:=by
 simp only[execOp,ho,hx]
 go_simp
theorem exec_load9 {o:Oper}{a:Act}(x:Operand) (b j:Nat) (s:ByteArray) (w:World) (ho:o.op=Op.load 9 x) (hx:a.eval x=.pointer (some ⟨b,j,none⟩)) (d:w.cell? ⟨b,j,none⟩=some (.string s)):(execOp a.eval o).run Tryz.prog w=.ok (.value (.string s)) w:=by
 simp only[execOp,ho,hx]
 go_simp
theorem exec_add9 {o:Oper}{a:Act}(x y:Operand) (s t:ByteArray) (ho:o.op=Op.binOp BinOp.add 9 x y 9) (hx:a.eval x=.string s) (hy:a.eval y=.string t) (hl:¬(9223372036854775807<s.size+t.size)) (w:World):(execOp a.eval o).run Tryz.prog w=.ok (.value (.string (s++t))) w:=by
 simp only[execOp,ho,hx,hy]
 go_simp
theorem exec_eql3 {o:Oper}{a:Act}(x y:Operand) (m n:Int) (r:Bool) (ho:o.op=Op.binOp BinOp.eql 3 x y 3) (hx:a.eval x=.int .i64 m) (hy:a.eval y=.int .i64 n) (hr:(m == n)=r) (w:World):(execOp a.eval o).run Tryz.prog w=.ok (.value (.bool r)) w:=by
 simp only[execOp,ho,hx,hy]
 go_simp
theorem exec_pickF {o:Oper}{a:Act}(c x:Operand) (v:Value) (ho:o.op=Op.pick c x (.const v)) (hc:a.eval c=.bool false) (w:World):(execOp a.eval o).run Tryz.prog w=.ok (.value v) w:=by
 simp only[execOp,ho,hc]
 go_simp
theorem exec_call45 {o:Oper}{a:Act}(x:Operand) (v:Value) (ts:Array TypeId) (ho:o.op=Op.call { callee:=.value (.func 62),args:=#[x],argTypes:=ts }) (hx:a.eval x=v) (w:World):(execOp a.eval o).run Tryz.prog w=.ok (.enter 62 #[v]) w:=by
 have he:∀args w,(callFunc 62 args).run Tryz.prog w=.ok (.enter 62 args) w:=enters_of Tryz.func62 kR rfl
 have hf:a.eval (.func 62)=.func (.func 62) #[] #[]:=rfl
 simp[execOp,ho,hx,hf,resolve,invoke,Deferred.ofValue,he]
theorem stt_2b (nm se sg:ByteArray) (a1 a2:Option Addr) (cl c1 G c2:Nat) (z:Int) (w:World) (hz:z ≠ 2) (h1:nm.size<=100000000) (h2:se.size<=100000000) (h3:sg.size<=100000000) (hG:G<=1048576)
  (k1:∀w',Below w.heap.size w w'->Calls Tryz.prog 75 #[.slice a1 cl c1] w' fun e w2=>e=.returned (.tuple #[.string se,.bool true])/\Below w'.heap.size w' w2)
  (k2:∀w',Below w.heap.size w w'->Calls Tryz.prog 76 #[.slice a2 G c2] w' fun e w2=>e=.returned (.tuple #[.string sg,.bool true])/\Below w'.heap.size w' w2)
  (kw:∀w',Below w.heap.size w w'->Calls Tryz.prog 62 #[.string nm] w' fun e w2=>e=.returned (.int .i64 z)/\Below w'.heap.size w' w2) :
  Calls Tryz.prog 46 #[.agg #[.int .i64 2,.string nm,.slice a1 cl c1,.slice a2 G c2]] w fun e w'=>e=.returned (.tuple #[.string (nm++⟨#[32,58,61,32]⟩++se),.bool false])/\Below w.heap.size w w':=by
 have HB:Hid (∀o,Below w.heap.size w (w.alloc o)):=fun o=>(Below.refl _ _).alloc (Nat.le_refl _) _
 have K1:=zH k1
 have K2:=zH k2
 have KW:=zH kw
 clear k1 k2 kw
 have C:Hid (∀(w1 w':World) (j:Nat) (v:Value),Below w1.heap.size w1 w'->w.heap.size<w1.heap.size->w1.cell? ⟨w.heap.size,j,none⟩=some v->w'.cell? ⟨w.heap.size,j,none⟩=some v):=fun w1 w' j v hb h1 h=>(hb.cell (p:=⟨w.heap.size,j,none⟩) h1).trans h
 have Q:Hid ((z == 2)=false):=by show _=_;simp[hz]
 have hs4:(⟨#[32,58,61,32]⟩:ByteArray).size=4:=rfl
 have hs5:(⟨#[32,58,61,32,123]⟩:ByteArray).size=5:=rfl
 have hs1:(⟨#[125]⟩:ByteArray).size=1:=rfl
 have M1:Hid (¬(9223372036854775807<nm.size+(⟨#[32,58,61,32]⟩:ByteArray).size)):=by show ¬_;omega
 have M2:Hid (¬(9223372036854775807<(nm++⟨#[32,58,61,32]⟩).size+se.size)):=by show ¬_;rw[ByteArray.size_append];omega
 have M3:Hid (¬(9223372036854775807<nm.size+(⟨#[32,58,61,32,123]⟩:ByteArray).size)):=by show ¬_;omega
 have M4:Hid (¬(9223372036854775807<(nm++⟨#[32,58,61,32,123]⟩).size+sg.size)):=by show ¬_;rw[ByteArray.size_append];omega
 have M5:Hid (¬(9223372036854775807<(nm++⟨#[32,58,61,32,123]⟩++sg).size+se.size)):=by show ¬_;rw[ByteArray.size_append,ByteArray.size_append];omega
 have M6:Hid (¬(9223372036854775807<(nm++⟨#[32,58,61,32,123]⟩++sg++se).size+(⟨#[125]⟩:ByteArray).size)):=by show ¬_;rw[ByteArray.size_append,ByteArray.size_append,ByteArray.size_append];omega
 clear hs4 hs5 hs1
 go_enter Tryz.func46,Tryz.ntmps46
 go_wp2_with fail
 refine(K1.out _ (HB.out _)).mono ?_
 rintro e' w2 ⟨rfl,hb2⟩
 have d0:=C.out _ _ 0 _ hb2 sI (by simp[go_sem];rfl)
 have d1:=C.out _ _ 1 _ hb2 sI (by simp[go_sem];rfl)
 have d3:=C.out _ _ 3 _ hb2 sI (by simp[go_sem];rfl)
 have B2:=zH ((HB.out _).trans (hb2.mono sI))
 have z2:w.heap.size<w2.heap.size:=Nat.lt_of_lt_of_le sI hb2.size
 clear hb2
 go_wp2_with fail
 refine(K2.out _ B2.out).mono ?_
 rintro e' w3 ⟨rfl,hb3⟩
 have e0:=C.out _ _ 0 _ hb3 z2 d0
 have e1:=C.out _ _ 1 _ hb3 z2 d1
 have B3:=zH (B2.out.trans (hb3.mono B2.out.size))
 have z3:w.heap.size<w3.heap.size:=Nat.lt_of_lt_of_le z2 hb3.size
 clear hb3 d0 d1 d3
 go_wp2_with fail
 have E1:Hid (w3.drew.cell? ⟨w.heap.size,1,none⟩=some (.string nm)):=e1
 have B3D:Hid (Below w.heap.size w w3.drew):=B3.out.drew
 have Z3:Hid (w.heap.size<w3.drew.heap.size):=z3
 clear e0 e1 z2 z3
 refine wp_region_held (S:=fun w'=>w'.cell? ⟨w.heap.size,1,none⟩=some (.string nm)) kR ?_
 change wpAnyH _ _ _ _ _ _ _ _ (World.drew _)
 generalize World.drew w3=wd at E1 B3D Z3 ⊢
 refine tz 0 (.pointer (some ⟨w.heap.size,1,none⟩)) rfl E1.out (fun w' hS=>exec_f40_1 (.tmp 1) w.heap.size rfl kR w') ?_
 refine tz 1 (.string nm) rfl E1.out (fun w' hS=>exec_load9 (.tmp 42) w.heap.size 1 nm w' rfl kR hS) ?_
 refine tz 2 (.string (nm++⟨#[32,58,61,32]⟩)) rfl E1.out (fun w' hS=>exec_add9 (.tmp 43) (.const (.string ⟨#[32,58,61,32]⟩)) (nm) (⟨#[32,58,61,32]⟩) rfl kR kR M1.out w') ?_
 refine tz 3 (.string se) rfl E1.out (fun w' hS=>exec_move (.tmp 4) (.string se) rfl kR w') ?_
 refine tz 4 (.string (nm++⟨#[32,58,61,32]⟩++se)) rfl E1.out (fun w' hS=>exec_add9 (.tmp 44) (.tmp 45) (nm++⟨#[32,58,61,32]⟩) (se) rfl kR kR M2.out w') ?_
 refine tz 5 (.pointer (some ⟨w.heap.size,1,none⟩)) rfl E1.out (fun w' hS=>exec_f40_1 (.tmp 1) w.heap.size rfl kR w') ?_
 refine tz 6 (.string nm) rfl E1.out (fun w' hS=>exec_load9 (.tmp 47) w.heap.size 1 nm w' rfl kR hS) ?_
 refine step_call (i:=7) kR rfl rfl 62 _ (exec_call45 (.tmp 48) (.string nm) _ rfl kR wd) ?_
 refine(KW.out _ B3D.out).mono ?_
 rintro e' w4 ⟨rfl,hb4⟩
 have E4:Hid (w4.cell? ⟨w.heap.size,1,none⟩=some (.string nm)):=C.out _ _ 1 _ hb4 Z3.out E1.out
 have B4:=zH (B3D.out.trans (hb4.mono B3D.out.size))
 clear hb4
 refine⟨_,rfl,E4.out,?_⟩
 refine tz 8 (.bool false) rfl E4.out (fun w' hS=>exec_eql3 (.tmp 49) (.const (.int .i64 2)) z 2 false rfl kR kR Q.out w') ?_
 refine tz 9 (.bool false) rfl E4.out (fun w' hS=>exec_move (.tmp 50) (.bool false) rfl kR w') ?_
 refine wpAnyH_take (i:=10) (v:=undef) rfl kR kR kR (fun _ _ _ h=>h) (Or.inr ⟨by kernel_rfl,rfl⟩) E4.out ?_
 refine wpAnyH_take (i:=11) (v:=undef) rfl kR kR kR (fun _ _ _ h=>h) (Or.inr ⟨by kernel_rfl,rfl⟩) E4.out ?_
 refine wpAnyH_take (i:=12) (v:=undef) rfl kR kR kR (fun _ _ _ h=>h) (Or.inr ⟨by kernel_rfl,rfl⟩) E4.out ?_
 refine wpAnyH_take (i:=13) (v:=undef) rfl kR kR kR (fun _ _ _ h=>h) (Or.inr ⟨by kernel_rfl,rfl⟩) E4.out ?_
 refine tz 14 (.bool false) rfl E4.out (fun w' hS=>exec_pickF (.tmp 51) (.tmp 55) (.bool false) rfl kR w') ?_
 refine step_val (i:=15) kR rfl rfl _ (exec_assign (.tmp 46) (.string (nm++⟨#[32,58,61,32]⟩++se)) rfl kR w4) E4.out ?_
 refine step_val (i:=16) kR rfl rfl _ (exec_assign (.tmp 56) (.bool false) rfl kR w4) E4.out ?_
 refine wpAnyH_done kR ?_ _
 go_simp
 go_wp2_with fail
 go_ret2
 exact⟨rfl,B4.out⟩
theorem stt_3b (nm se sg:ByteArray) (a1 a2:Option Addr) (cl c1 G c2:Nat) (z:Int) (w:World) (hz:z ≠ 3) (h1:nm.size<=100000000) (h2:se.size<=100000000) (h3:sg.size<=100000000) (hG:G<=1048576)
  (k1:∀w',Below w.heap.size w w'->Calls Tryz.prog 75 #[.slice a1 cl c1] w' fun e w2=>e=.returned (.tuple #[.string se,.bool true])/\Below w'.heap.size w' w2)
  (k2:∀w',Below w.heap.size w w'->Calls Tryz.prog 76 #[.slice a2 G c2] w' fun e w2=>e=.returned (.tuple #[.string sg,.bool true])/\Below w'.heap.size w' w2)
  (kw:∀w',Below w.heap.size w w'->Calls Tryz.prog 62 #[.string nm] w' fun e w2=>e=.returned (.int .i64 z)/\Below w'.heap.size w' w2) :
  Calls Tryz.prog 46 #[.agg #[.int .i64 3,.string nm,.slice a1 cl c1,.slice a2 G c2]] w fun e w'=>e=.returned (.tuple #[.string (nm++⟨#[32,58,61,32,123]⟩++sg++se++⟨#[125]⟩),.bool false])/\Below w.heap.size w w':=by
 have HB:Hid (∀o,Below w.heap.size w (w.alloc o)):=fun o=>(Below.refl _ _).alloc (Nat.le_refl _) _
 have K1:=zH k1
 have K2:=zH k2
 have KW:=zH kw
 clear k1 k2 kw
 have C:Hid (∀(w1 w':World) (j:Nat) (v:Value),Below w1.heap.size w1 w'->w.heap.size<w1.heap.size->w1.cell? ⟨w.heap.size,j,none⟩=some v->w'.cell? ⟨w.heap.size,j,none⟩=some v):=fun w1 w' j v hb h1 h=>(hb.cell (p:=⟨w.heap.size,j,none⟩) h1).trans h
 have Q:Hid ((z == 3)=false):=by show _=_;simp[hz]
 have hs4:(⟨#[32,58,61,32]⟩:ByteArray).size=4:=rfl
 have hs5:(⟨#[32,58,61,32,123]⟩:ByteArray).size=5:=rfl
 have hs1:(⟨#[125]⟩:ByteArray).size=1:=rfl
 have M1:Hid (¬(9223372036854775807<nm.size+(⟨#[32,58,61,32]⟩:ByteArray).size)):=by show ¬_;omega
 have M2:Hid (¬(9223372036854775807<(nm++⟨#[32,58,61,32]⟩).size+se.size)):=by show ¬_;rw[ByteArray.size_append];omega
 have M3:Hid (¬(9223372036854775807<nm.size+(⟨#[32,58,61,32,123]⟩:ByteArray).size)):=by show ¬_;omega
 have M4:Hid (¬(9223372036854775807<(nm++⟨#[32,58,61,32,123]⟩).size+sg.size)):=by show ¬_;rw[ByteArray.size_append];omega
 have M5:Hid (¬(9223372036854775807<(nm++⟨#[32,58,61,32,123]⟩++sg).size+se.size)):=by show ¬_;rw[ByteArray.size_append,ByteArray.size_append];omega
 have M6:Hid (¬(9223372036854775807<(nm++⟨#[32,58,61,32,123]⟩++sg++se).size+(⟨#[125]⟩:ByteArray).size)):=by show ¬_;rw[ByteArray.size_append,ByteArray.size_append,ByteArray.size_append];omega
 clear hs4 hs5 hs1
 go_enter Tryz.func46,Tryz.ntmps46
 go_wp2_with fail
 refine(K1.out _ (HB.out _)).mono ?_
 rintro e' w2 ⟨rfl,hb2⟩
 have d0:=C.out _ _ 0 _ hb2 sI (by simp[go_sem];rfl)
 have d1:=C.out _ _ 1 _ hb2 sI (by simp[go_sem];rfl)
 have d3:=C.out _ _ 3 _ hb2 sI (by simp[go_sem];rfl)
 have B2:=zH ((HB.out _).trans (hb2.mono sI))
 have z2:w.heap.size<w2.heap.size:=Nat.lt_of_lt_of_le sI hb2.size
 clear hb2
 go_wp2_with fail
 refine(K2.out _ B2.out).mono ?_
 rintro e' w3 ⟨rfl,hb3⟩
 have e0:=C.out _ _ 0 _ hb3 z2 d0
 have e1:=C.out _ _ 1 _ hb3 z2 d1
 have B3:=zH (B2.out.trans (hb3.mono B2.out.size))
 have z3:w.heap.size<w3.heap.size:=Nat.lt_of_lt_of_le z2 hb3.size
 clear hb3 d0 d1 d3
 go_wp2_with fail
 have E1:Hid (w3.drew.cell? ⟨w.heap.size,1,none⟩=some (.string nm)):=e1
 have B3D:Hid (Below w.heap.size w w3.drew):=B3.out.drew
 have Z3:Hid (w.heap.size<w3.drew.heap.size):=z3
 clear e0 e1 z2 z3
 refine wp_region_held (S:=fun w'=>w'.cell? ⟨w.heap.size,1,none⟩=some (.string nm)) kR ?_
 change wpAnyH _ _ _ _ _ _ _ _ (World.drew _)
 generalize World.drew w3=wd at E1 B3D Z3 ⊢
 refine tz 0 (.pointer (some ⟨w.heap.size,1,none⟩)) rfl E1.out (fun w' hS=>exec_f40_1 (.tmp 1) w.heap.size rfl kR w') ?_
 refine tz 1 (.string nm) rfl E1.out (fun w' hS=>exec_load9 (.tmp 59) w.heap.size 1 nm w' rfl kR hS) ?_
 refine tz 2 (.string (nm++⟨#[32,58,61,32,123]⟩)) rfl E1.out (fun w' hS=>exec_add9 (.tmp 60) (.const (.string ⟨#[32,58,61,32,123]⟩)) (nm) (⟨#[32,58,61,32,123]⟩) rfl kR kR M3.out w') ?_
 refine tz 3 (.string sg) rfl E1.out (fun w' hS=>exec_move (.tmp 6) (.string sg) rfl kR w') ?_
 refine tz 4 (.string (nm++⟨#[32,58,61,32,123]⟩++sg)) rfl E1.out (fun w' hS=>exec_add9 (.tmp 61) (.tmp 62) (nm++⟨#[32,58,61,32,123]⟩) (sg) rfl kR kR M4.out w') ?_
 refine tz 5 (.string se) rfl E1.out (fun w' hS=>exec_move (.tmp 4) (.string se) rfl kR w') ?_
 refine tz 6 (.string (nm++⟨#[32,58,61,32,123]⟩++sg++se)) rfl E1.out (fun w' hS=>exec_add9 (.tmp 63) (.tmp 64) (nm++⟨#[32,58,61,32,123]⟩++sg) (se) rfl kR kR M5.out w') ?_
 refine tz 7 (.string (nm++⟨#[32,58,61,32,123]⟩++sg++se++⟨#[125]⟩)) rfl E1.out (fun w' hS=>exec_add9 (.tmp 65) (.const (.string ⟨#[125]⟩)) (nm++⟨#[32,58,61,32,123]⟩++sg++se) (⟨#[125]⟩) rfl kR kR M6.out w') ?_
 refine tz 8 (.pointer (some ⟨w.heap.size,1,none⟩)) rfl E1.out (fun w' hS=>exec_f40_1 (.tmp 1) w.heap.size rfl kR w') ?_
 refine tz 9 (.string nm) rfl E1.out (fun w' hS=>exec_load9 (.tmp 67) w.heap.size 1 nm w' rfl kR hS) ?_
 refine step_call (i:=10) kR rfl rfl 62 _ (exec_call45 (.tmp 68) (.string nm) _ rfl kR wd) ?_
 refine(KW.out _ B3D.out).mono ?_
 rintro e' w4 ⟨rfl,hb4⟩
 have E4:Hid (w4.cell? ⟨w.heap.size,1,none⟩=some (.string nm)):=C.out _ _ 1 _ hb4 Z3.out E1.out
 have B4:=zH (B3D.out.trans (hb4.mono B3D.out.size))
 clear hb4
 refine⟨_,rfl,E4.out,?_⟩
 refine tz 11 (.bool false) rfl E4.out (fun w' hS=>exec_eql3 (.tmp 69) (.const (.int .i64 3)) z 3 false rfl kR kR Q.out w') ?_
 refine tz 12 (.bool false) rfl E4.out (fun w' hS=>exec_move (.tmp 70) (.bool false) rfl kR w') ?_
 refine wpAnyH_take (i:=13) (v:=undef) rfl kR kR kR (fun _ _ _ h=>h) (Or.inr ⟨by kernel_rfl,rfl⟩) E4.out ?_
 refine wpAnyH_take (i:=14) (v:=undef) rfl kR kR kR (fun _ _ _ h=>h) (Or.inr ⟨by kernel_rfl,rfl⟩) E4.out ?_
 refine wpAnyH_take (i:=15) (v:=undef) rfl kR kR kR (fun _ _ _ h=>h) (Or.inr ⟨by kernel_rfl,rfl⟩) E4.out ?_
 refine tz 16 (.bool false) rfl E4.out (fun w' hS=>exec_pickF (.tmp 71) (.tmp 74) (.bool false) rfl kR w') ?_
 refine step_val (i:=17) kR rfl rfl _ (exec_assign (.tmp 66) (.string (nm++⟨#[32,58,61,32,123]⟩++sg++se++⟨#[125]⟩)) rfl kR w4) E4.out ?_
 refine step_val (i:=18) kR rfl rfl _ (exec_assign (.tmp 75) (.bool false) rfl kR w4) E4.out ?_
 refine wpAnyH_done kR ?_ _
 go_simp
 go_wp2_with fail
 go_ret2
 exact⟨rfl,B4.out⟩
end Go.Proofs.YtbiiicbfpcfgdaaGreatDoor
