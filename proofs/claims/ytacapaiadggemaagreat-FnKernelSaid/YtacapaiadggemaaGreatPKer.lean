import Derived.Test.YtacapaiadggemaaGreatLk
import Derived.ProofKit
import Derived.OpenShut
import Derived.ChangeOld
import Derived.Below
import Derived.Lib.SmallJoins
namespace Go.Proofs.YtacapaiadggemaaGreat
open Go.ChangeShapes Go.WideShapes Go.ChangeAt Go.RowKit Go.Joins
set_option maxRecDepth 100000
set_option maxHeartbeats 16000000
set_option linter.unusedVariables false
theorem Tryz.own:ownKnob Tryz.prog.godebug=none:=by kernel_rfl
theorem Tryz.laidOut:laidOutB Tryz.prog=true:=by kernel_rfl
theorem Tryz.cells5:Tryz.prog.cellsOf 5=1:=by kernel_rfl
theorem rdB_of_trod {H:Type} {enc:TypeId × Value->H} {W:World} {n:Nat} {v:Value} {y:DataW H × List MemPlace} (h:DataW.trod enc Tryz.prog W 0 (fun _=>true) true n 22 [v]=some y) :
  ∃(ao:Option Addr) (n cap:Nat),v=.slice ao n cap/\n<=cap/\cap<=9223372036854775807/\RdB W.heap.size W ao n:=by
 rcases open_ints Tryz.underlying22 Tryz.underlying5 Tryz.cells5 h with ⟨hcs,_⟩ | ⟨x,l,c,zs,hcs,_,hl,hm,hz,_,hcell,hwf⟩
 ·simp at hcs
  subst hcs
  exact ⟨none,0,0,rfl,Nat.le_refl _,by omega,.inl rfl⟩
 simp at hcs
 subst hcs
 simp at hz
 unfold maxLen at hm
 refine ⟨some x,l,c,rfl,hl,by omega,?_⟩
 by_cases h0:l=0
 ·exact .inl h0
 obtain ⟨b,off,spot⟩:=x
 have hc:=hcell 0 (by omega)
 have hspot:spot=none:=by simpa [Addr.add] using World.cell?_spot hc
 subst hspot
 refine .inr ⟨b,off,?_,rfl,fun i hi=>?_⟩
 ·have:=World.block_lt_of_cell? _ _ hc
  simpa [Addr.add] using this
 have h1:=hcell i (by omega)
 rw [Addr.add_lit] at h1
 have h2:=hwf (zs.getD i 0) (by
  have hlt:i<zs.length:=by omega
  simp [List.getD,List.getElem?_eq_getElem hlt])
 obtain ⟨h3,h4⟩:0<=zs.getD i 0/\zs.getD i 0<=255:=by
  unfold Lit.wf at h2
  rw [Bool.and_eq_true] at h2
  exact ⟨of_decide_eq_true h2.1,of_decide_eq_true h2.2⟩
 refine ⟨(zs.getD i 0).toNat,by omega,?_⟩
 rw [h1,Int.toNat_of_nonneg h3]
theorem kernel_lifted (os:Os) (started:os.Started) (H:Type) (enc:TypeId × Value->H) :
  ReturnsInHanded {} Tryz.checked os 3 .any (Rows.fnKernelSpec.pre6 enc Tryz.prog Tryz.f3 Rows.fnKernelRow.domain false) (Rows.fnKernelSpec.post enc Tryz.prog Tryz.f3 false true false false):=by
 refine returnsInHanded_of_change (C:=Tryz.checked) Tryz.own started (by kernel_rfl) Tryz.func3
  (ChangeSpec.witness6 (enc:=enc) (C:=Tryz.checked) false ⟨#[],#[.slice none 0 0],[]⟩ 8 (by kernel_rfl) (by kernel_rfl) (by kernel_rfl) (by kernel_rfl)) ?_
 intro W base args ds gs before hval0 hW hcnd _
 have hval:∀(j:Nat) t v,Tryz.f3.params[j]? = some t->args[j]? = some v->Value.okWide Tryz.prog W .any base t v:=hval0
 have hW':=hW
 obtain ⟨p,q,hA0,hV,rfl,hfz,hnd⟩:=hW
 have hA:DataW.TrodAll enc Tryz.prog W 0 (fun _=>true) true Tryz.f3.params.toList args.toList ds p:=hA0
 rw [Tryz.params3] at hA hval
 obtain ⟨v0,vs0,d0,ds0,p0,q0,hargs,rfl,rfl,h0,r0⟩:=trodAll_cons hA
 obtain ⟨rfl,rfl,rfl⟩:=trodAll_nil r0
 obtain rfl:args=#[v0]:=by cases args; simp_all
 obtain ⟨rfl,rfl⟩:=trodVars_none hV
 have k0:=h0
 have lt0:∀x∈p0,x.block<W.heap.size:=by obtain ⟨m,hm⟩:=k0; exact DataW.trod_lt m _ _ _ hm
 obtain ⟨ao,n,cap,rfl,hc1,hc2,rd⟩:∃(ao:Option Addr) (n cap:Nat),v0=.slice ao n cap/\n<=cap/\cap<=9223372036854775807/\RdB W.heap.size W ao n:=by
  obtain ⟨a0,len,cap,rfl⟩:=okWide_slice Tryz.underlying22 (hval 0 22 v0 rfl rfl)
  obtain ⟨m,hm⟩:=h0
  obtain ⟨ao,n,cap',e,r⟩:=rdB_of_trod hm
  exact ⟨ao,n,cap',e,r⟩
 clear hA0 hval0
 refine (kernel_law ao n cap W hc1 hc2 rd).mono fun e W' ⟨he,bel⟩=>?_
 subst he
 exact ⟨_,rfl,_,_,_,[],_,[],hW',trodAll_mk1 (shut_bool Tryz.underlying4 _),(trodAll_cons_mk (Below.trod Tryz.laidOut (by kernel_rfl) (of_decide_eq_true (by kernel_rfl)) k0 bel lt0) trodAll_mk0),rfl,bel.frame _,fun h=>by cases h⟩
theorem kernel_holds:Rows.FnKernelSaid :=
 OpenClaim.holds_of_wide 3 Tryz.f3 rfl rfl rfl rfl rfl rfl rfl ⟨rfl,rfl,rfl,rfl,rfl⟩ rfl rfl rfl rfl rfl (by kernel_rfl) Tryz.func3 (by kernel_rfl)
  (of_decide_eq_true (by kernel_rfl)) (by unfold Func.isWrapper; first | (rw [if_pos (by decide +kernel)]; kernel_rfl) | (rw [if_neg (by decide +kernel)]; exact ⟨rfl,rfl⟩))
  (fun os started H enc _=>kernel_lifted os started H enc)
#print axioms kernel_holds
end Go.Proofs.YtacapaiadggemaaGreat
