import Derived.Test.YtacapaiadggemaaGreatImpR
namespace Go.Proofs.YtacapaiadggemaaGreat
open Go.RowKit
set_option linter.unusedVariables false
theorem valid1_new (v0 v1:Value) (sh da:List Int) (w:World) (hl0:sh.length<=1048576) (hl1:da.length<=1048576) (h0:Rd w.heap.size w v0 sh) (h1:Rd w.heap.size w v1 da) (o:Obj) (t:TypeId) :
  Calls Tryz.prog 31 #[.slice (some ⟨w.heap.size+1,0,none⟩) 1 1] ((w.alloc o).alloc (.cells #[v0,v1] t)) fun e w'=>Below (w.heap.size+1) (w.alloc o) w'/\((Pl.okB sh da=true/\e=.returned (.tuple #[]))\/(¬Pl.okB sh da=true/\e=.panicked [thrown 9])):=by
 have A:Below (w.heap.size+1) (w.alloc o) ((w.alloc o).alloc (.cells #[v0,v1] t)):=(Below.refl _ _).alloc (by simp) _
 have A2:Below w.heap.size w ((w.alloc o).alloc (.cells #[v0,v1] t)):=((Below.refl _ _).alloc (Nat.le_refl _) _).alloc (by simp) _
 refine (needValid1 (w.heap.size+1) v0 v1 sh da ((w.alloc o).alloc (.cells #[v0,v1] t)) hl0 hl1 (by simp) (by simp [go_sem]) (by simp [go_sem]) ((h0.keep A2).up (by simp; omega)) ((h1.keep A2).up (by simp; omega))).mono ?_
 rintro e w' ⟨hb,hor⟩
 refine ⟨A.trans (hb.mono (by simp)),?_⟩
 rcases hor with h | ⟨h,e⟩
 ·exact .inl h
 exact .inr ⟨by rw [h]; decide,e⟩
theorem Own.grownOff {B:Nat} {w w':World} {row:Option Nat} {u:Value} {zs:List Int} (h:Own B w u zs) (hg:w.grownBy w' row) (hn:∀g,row=some g->Off g u zs):Own B w' u zs:=by
 obtain ⟨ao,cap,rfl,h⟩:=h
 refine ⟨ao,cap,rfl,?_⟩
 rcases h with h | ⟨g,off,h1,h2,rfl,h4⟩
 ·exact .inl h
 by_cases hz:zs.length=0
 ·exact .inl hz
 refine .inr ⟨g,off,h1,Nat.lt_of_lt_of_le h2 hg.size,rfl,fun i hi=>?_⟩
 have hne:some g ≠ row:=by
  intro e
  rcases hn g e.symm with h | h
  ·exact hz h
  exact h g rfl rfl
 have e:=hg.block g h2 hne
 exact ⟨(World.cell?_of_block (w:=w) (a:=⟨g,off+i,none⟩) e).trans (h4 i hi).1,(World.frozen?_of_block (w:=w) (a:=⟨g,off+i,none⟩) e).trans (h4 i hi).2⟩
structure Rs (wq:World) (rv:Value) (k:Nat) (xs:List Value) (dv:Nat->Value) (zz:Nat->List Int) (w:World):Prop where
 bel:Below wq.heap.size wq w
 row:w.ownsRow wq.heap.size 25 2 rv k xs
 cell:∀i,i<k->xs[i * 2+1]? = some (dv i)
 own:∀i,i<k->Own wq.heap.size w (dv i) (zz i)
 off:∀i,i<k->∀g,rv.ownBlock=some g->Off g (dv i) (zz i)
theorem Rs.start (wq:World) (zz:Nat->List Int):Rs wq (.slice (some ⟨wq.heap.size,0,none⟩) 0 0) 0 [] (fun _=>.slice none 0 0) zz (wq.alloc (.cells #[] 25)) :=
 ⟨(Below.refl _ _).alloc (Nat.le_refl _) _,World.ownsRow_lit wq #[] 0 (Nat.le_refl _) (by unfold maxLen; omega) rfl,fun i hi=>absurd hi (Nat.not_lt_zero i),fun i hi=>absurd hi (Nat.not_lt_zero i),fun i hi=>absurd hi (Nat.not_lt_zero i)⟩
theorem Rs.keep {wq w w':World} {rv:Value} {k:Nat} {xs:List Value} {dv:Nat->Value} {zz:Nat->List Int} (h:Rs wq rv k xs dv zz w) (hb:Below w.heap.size w w'):Rs wq rv k xs dv zz w' :=
 ⟨h.bel.trans (hb.mono h.bel.size),owns_keep h.row hb,h.cell,fun i hi=>(h.own i hi).keep hb,h.off⟩
theorem Rs.app {wq w w9:World} {rv v' u0 u1:Value} {k:Nat} {xs:List Value} {dv:Nat->Value} {zz:Nat->List Int} (h:Rs wq rv k xs dv zz w) (hu:Own wq.heap.size w u1 (zz k)) (ho:∀g,rv.ownBlock=some g->Off g u1 (zz k))
  (hrow:w9.ownsRow wq.heap.size 25 2 v' (k+1) (xs++[u0,u1])) (hg:(w.alloc (.cells #[u0,u1] 25)).grownBy w9 rv.ownBlock) (hat:v'.ownBlock=rv.ownBlock\/v'.ownBlock=some (w.heap.size+1)) :
  Rs wq v' (k+1) (xs++[u0,u1]) (fun i=>if i=k then u1 else dv i) zz w9:=by
 have kk:Below w.heap.size w (w.alloc (.cells #[u0,u1] 25)):=(Below.refl _ _).alloc (Nat.le_refl _) _
 have hx:xs.length=k * 2:=h.row.1
 have off':∀(u:Value) (zs:List Int),Own wq.heap.size w u zs->(∀g,rv.ownBlock=some g->Off g u zs)->∀g,v'.ownBlock=some g->Off g u zs:=by
  intro u zs hou hof g hgv
  rcases hat with hat | hat
  ·rw [hat] at hgv
   exact hof g hgv
  rw [hat] at hgv
  simp only [Option.some.injEq] at hgv
  subst hgv
  exact own_ne_hi hou (Nat.le_succ _)
 refine ⟨(h.bel.trans (kk.mono h.bel.size)).grown hg (by have:=h.bel.size; simp; omega) (fun g e=>(h.row.lt g e).1),hrow,?_,?_,?_⟩
 ·intro i hi
  by_cases hik:i=k
  ·subst hik
   rw [if_pos rfl,List.getElem?_append_right (by omega),hx]
   have:i * 2+1-i * 2=1:=by omega
   rw [this]
   rfl
  rw [if_neg hik,List.getElem?_append_left (by omega)]
  exact h.cell i (by omega)
 ·intro i hi
  show Own _ _ (if i=k then u1 else dv i) _
  by_cases hik:i=k
  ·subst hik
   rw [if_pos rfl]
   exact (hu.keep kk).grownOff hg ho
  rw [if_neg hik]
  exact ((h.own i (by omega)).keep kk).grownOff hg (h.off i (by omega))
 intro i hi
 show ∀g,_->Off g (if i=k then u1 else dv i) _
 by_cases hik:i=k
 ·subst hik
  rw [if_pos rfl]
  exact off' u1 _ hu ho
 rw [if_neg hik]
 exact off' _ _ (h.own i (by omega)) (h.off i (by omega))
end Go.Proofs.YtacapaiadggemaaGreat
