import Derived.Test.YtacapaiadggemaaGreatSpec1b
import Derived.Test.YtacapaiadggemaaGreatTwo
import Derived.Maps.AppendAt
namespace Go.Proofs.YtacapaiadggemaaGreat
open Go.RowKit
set_option linter.unusedVariables false
theorem opOk_any (op:Int) (w:World):Calls Tryz.prog 38 #[.int .i64 op] w fun e w'=>e=.returned (.bool (decide (1<=op/\op<11)))/\w'=w:=by
 by_cases h:1<=op
 ·by_cases h':op<=10
  ·go_enter Tryz.func38,Tryz.ntmps38
   go_wp2
   go_ret
   exact ⟨ret_bool (by symm; rw [decide_eq_true_iff]; omega),rfl⟩
  go_enter Tryz.func38,Tryz.ntmps38
  go_wp2
  go_ret
  exact ⟨ret_bool (by symm; simp; omega),rfl⟩
 go_enter Tryz.func38,Tryz.ntmps38
 go_wp2
 go_ret
 exact ⟨ret_bool (by symm; simp; omega),rfl⟩
theorem isScalar_any (v0 v1:Value) (sh:List Int) (B:Nat) (w w0:World) (h0:Rd B w0 v0 sh):Calls Tryz.prog 84 #[.agg #[v0,v1]] w fun e w'=>e=.returned (.bool (decide (sh.length=0)))/\Below w.heap.size w w':=by
 obtain ⟨a0,d0,rfl⟩:=h0.form
 clear h0
 generalize sh.length=n at *
 by_cases h:n=0
 ·subst h
  go_enter Tryz.func84,Tryz.ntmps84
  go_wp2_with fail
  go_ret
  exact ⟨rfl,(Below.refl _ _).alloc (Nat.le_refl _) _⟩
 have e:((n:Int) == 0)=false:=by simp; omega
 have d:decide (n=0)=false:=by simp [h]
 rw [d]
 clear d h
 go_enter Tryz.func84,Tryz.ntmps84
 go_wp2_with fail
 go_ret
 exact ⟨rfl,(Below.refl _ _).alloc (Nat.le_refl _) _⟩
theorem l2Same_core (b1 o1 c1 b2 o2 c2:Nat) (xs ys:List Int) (w:World) (hl:xs.length<=1048576) (hxy:xs.length=ys.length) (hb1:b1<w.heap.size) (hb2:b2<w.heap.size)
  (hc1:∀i,i<xs.length->w.cell? ⟨b1,o1+i,none⟩=some (.int .i64 (xs.getD i 0))) (hc2:∀i,i<xs.length->w.cell? ⟨b2,o2+i,none⟩=some (.int .i64 (ys.getD i 0))) :
  Calls Tryz.prog 58 #[.slice (some ⟨b1,o1,none⟩) xs.length c1,.slice (some ⟨b2,o2,none⟩) xs.length c2] w fun e w'=>e=.returned (.bool (decide (xs=ys)))/\Below w.heap.size w w':=by
 generalize hn:xs.length=n at *
 have Hn:Hid (xs.length=n):=hn
 have Hm:Hid (ys.length=n):=hxy.symm
 clear hn hxy
 go_enter Tryz.func58,Tryz.ntmps58
 go_wp2
 go_loopw [5] (fun i wr=>∃k:Nat,k<=n/\i=.int .i64 k/\Hid (xs.take k=ys.take k)/\Below w.heap.size w wr) (fun i _=>n-(intOf i).toNat)
 case atStart=>exact ⟨0,Nat.zero_le _,rfl,rfl,Below.refl _ _⟩
 obtain ⟨k,hk,rfl,hall,hbel⟩:=hrel
 by_cases hlt:k<n
 rotate_left 1
 ·have R:Hid (xs=ys/\Below w.heap.size w wr):=by
   have:=hall.out
   rw [List.take_of_length_le (by rw [Hn.out]; omega),List.take_of_length_le (by rw [Hm.out]; omega)] at this
   exact ⟨this,hbel⟩
  clear hbel hc1 hc2
  go_wp2
  go_ret
  exact ⟨ret_bool (by symm; rw [decide_eq_true_iff]; exact R.out.1),R.out.2⟩
 have hck1:wr.cell? ⟨b1,o1+k,none⟩=some (.int .i64 (xs.getD k 0)):=(hbel.cell (p:=⟨b1,o1+k,none⟩) hb1).trans (hc1 k hlt)
 have hck2:wr.cell? ⟨b2,o2+k,none⟩=some (.int .i64 (ys.getD k 0)):=(hbel.cell (p:=⟨b2,o2+k,none⟩) hb2).trans (hc2 k hlt)
 have HX:Hid (xs.take (k+1)=xs.take k++[xs.getD k 0]):=Pl.take_snoc xs k (by rw [Hn.out]; exact hlt)
 have HY:Hid (ys.take (k+1)=ys.take k++[ys.getD k 0]):=Pl.take_snoc ys k (by rw [Hm.out]; exact hlt)
 have HE:Hid (xs=ys->xs.getD k 0=ys.getD k 0):=fun h=>by rw [h]
 have HB:Hid (Below w.heap.size w wr):=hbel
 generalize xs.getD k 0=x at *
 generalize ys.getD k 0=y at *
 clear hc1 hc2 hbel
 have hlt':(k:Int)<(n:Int):=by omega
 by_cases hxy:x=y
 ·have hne:(x != y)=false:=by simp [hxy]
  have HXY:Hid (x=y):=hxy
  clear hxy
  go_wp2
  go_quiet (fail)
  go_wp2
  go_roundw
  case rel=>exact ⟨k+1,by omega,by go_num,by show _=_; rw [HX.out,HY.out,hall.out,HXY.out],below_drewN HB.out _⟩
  simp [intOf]; omega
 have hne:(x != y)=true:=by simp [hxy]
 have HN:Hid (¬x=y):=hxy
 clear hxy
 go_wp2
 go_quiet (fail)
 go_wp2
 go_ret
 exact ⟨ret_bool (by symm; rw [decide_eq_false_iff_not]; exact fun h=>HN.out (HE.out h)),below_drewN HB.out _⟩
theorem l2Same_lens (a1 a2:Option Addr) (n1 c1 n2 c2:Nat) (w:World) (h1:n1<=1048576) (h2:n2<=1048576) (h:¬n1=n2) :
  Calls Tryz.prog 58 #[.slice a1 n1 c1,.slice a2 n2 c2] w fun e w'=>e=.returned (.bool false)/\w'=w:=by
 have hne:((n1:Int) != (n2:Int))=true:=by rw [bne_iff_ne]; omega
 go_enter Tryz.func58,Tryz.ntmps58
 go_wp2
 go_ret
 exact ⟨rfl,rfl⟩
theorem l2Same_nil (a1 a2:Option Addr) (c1 c2:Nat) (w:World) :
  Calls Tryz.prog 58 #[.slice a1 0 c1,.slice a2 0 c2] w fun e w'=>e=.returned (.bool true)/\w'=w:=by
 go_enter Tryz.func58,Tryz.ntmps58
 go_wp2
 go_loopw [5] (fun i wr=>i=.int .i64 0/\wr=w) (fun _ _=>0)
 case atStart=>exact ⟨rfl,rfl⟩
 obtain ⟨rfl,rfl⟩:=hrel
 go_wp2
 go_ret
 exact ⟨rfl,rfl⟩
theorem l2Same_any (v1 v2:Value) (xs ys:List Int) (w:World) (hl1:xs.length<=1048576) (hl2:ys.length<=1048576) (h1:Rd w.heap.size w v1 xs) (h2:Rd w.heap.size w v2 ys) :
  Calls Tryz.prog 58 #[v1,v2] w fun e w'=>e=.returned (.bool (decide (xs=ys)))/\Below w.heap.size w w':=by
 obtain ⟨a1,c1,rfl,h1⟩:=h1
 obtain ⟨a2,c2,rfl,h2⟩:=h2
 by_cases hxy:xs.length=ys.length
 rotate_left 1
 ·refine (l2Same_lens a1 a2 _ c1 _ c2 w hl1 hl2 hxy).mono ?_
  rintro e w' ⟨rfl,rfl⟩
  exact ⟨ret_bool (by symm; rw [decide_eq_false_iff_not]; intro h; exact hxy (by rw [h])),Below.refl _ _⟩
 rcases h1 with h1 | ⟨b1,o1,hb1,rfl,hc1⟩
 ·obtain rfl:=List.length_eq_zero_iff.1 h1
  obtain rfl:=List.length_eq_zero_iff.1 hxy.symm
  refine (l2Same_nil a1 a2 c1 c2 w).mono ?_
  rintro e w' ⟨rfl,rfl⟩
  exact ⟨rfl,Below.refl _ _⟩
 rcases h2 with h2 | ⟨b2,o2,hb2,rfl,hc2⟩
 ·obtain rfl:=List.length_eq_zero_iff.1 h2
  obtain rfl:=List.length_eq_zero_iff.1 hxy
  refine (l2Same_nil _ a2 c1 c2 w).mono ?_
  rintro e w' ⟨rfl,rfl⟩
  exact ⟨rfl,Below.refl _ _⟩
 rw [<- hxy] at hc2 ⊢
 exact l2Same_core b1 o1 c1 b2 o2 c2 xs ys w hl1 hxy hb1 hb2 hc1 hc2
theorem slEq_core (b1 o1 c1 b2 o2 c2:Nat) (xs ys:List Int) (w:World) (hl:xs.length<=1048576) (hxy:xs.length=ys.length) (hb1:b1<w.heap.size) (hb2:b2<w.heap.size)
  (hc1:∀i,i<xs.length->w.cell? ⟨b1,o1+i,none⟩=some (.int .i64 (xs.getD i 0))) (hc2:∀i,i<xs.length->w.cell? ⟨b2,o2+i,none⟩=some (.int .i64 (ys.getD i 0))) :
  Calls Tryz.prog 87 #[.slice (some ⟨b1,o1,none⟩) xs.length c1,.slice (some ⟨b2,o2,none⟩) xs.length c2] w fun e w'=>e=.returned (.bool (decide (xs=ys)))/\Below w.heap.size w w':=by
 generalize hn:xs.length=n at *
 have Hn:Hid (xs.length=n):=hn
 have Hm:Hid (ys.length=n):=hxy.symm
 clear hn hxy
 go_enter Tryz.func87,Tryz.ntmps87
 go_wp2
 go_loopw [5,13] (fun _ i wr=>∃k:Nat,k<=n/\i=.int .i64 k/\Hid (xs.take k=ys.take k)/\Below w.heap.size w wr) (fun _ i _=>n-(intOf i).toNat)
 case atStart=>exact ⟨0,Nat.zero_le _,rfl,rfl,Below.refl _ _⟩
 obtain ⟨k,hk,rfl,hall,hbel⟩:=hrel
 by_cases hlt:k<n
 rotate_left 1
 ·have R:Hid (xs=ys/\Below w.heap.size w wr):=by
   have:=hall.out
   rw [List.take_of_length_le (by rw [Hn.out]; omega),List.take_of_length_le (by rw [Hm.out]; omega)] at this
   exact ⟨this,hbel⟩
  clear hbel hc1 hc2
  go_wp2
  go_ret
  exact ⟨ret_bool (by symm; rw [decide_eq_true_iff]; exact R.out.1),R.out.2⟩
 have hck1:wr.cell? ⟨b1,o1+k,none⟩=some (.int .i64 (xs.getD k 0)):=(hbel.cell (p:=⟨b1,o1+k,none⟩) hb1).trans (hc1 k hlt)
 have hck2:wr.cell? ⟨b2,o2+k,none⟩=some (.int .i64 (ys.getD k 0)):=(hbel.cell (p:=⟨b2,o2+k,none⟩) hb2).trans (hc2 k hlt)
 have HX:Hid (xs.take (k+1)=xs.take k++[xs.getD k 0]):=Pl.take_snoc xs k (by rw [Hn.out]; exact hlt)
 have HY:Hid (ys.take (k+1)=ys.take k++[ys.getD k 0]):=Pl.take_snoc ys k (by rw [Hm.out]; exact hlt)
 have HE:Hid (xs=ys->xs.getD k 0=ys.getD k 0):=fun h=>by rw [h]
 have HB:Hid (Below w.heap.size w wr):=hbel
 generalize xs.getD k 0=x at *
 generalize ys.getD k 0=y at *
 clear hc1 hc2 hbel
 have hlt':(k:Int)<(n:Int):=by omega
 by_cases hxy:x=y
 ·have hne:(x != y)=false:=by simp [hxy]
  have HXY:Hid (x=y):=hxy
  clear hxy
  go_wp2
  go_quiet (fail)
  go_wp2
  go_roundw
  case rel=>exact ⟨k+1,by omega,by go_num,by show _=_; rw [HX.out,HY.out,hall.out,HXY.out],below_drewN HB.out _⟩
  simp [intOf]; omega
 have hne:(x != y)=true:=by simp [hxy]
 have HN:Hid (¬x=y):=hxy
 clear hxy
 go_wp2
 go_quiet (fail)
 go_wp2
 go_ret
 exact ⟨ret_bool (by symm; rw [decide_eq_false_iff_not]; exact fun h=>HN.out (HE.out h)),below_drewN HB.out _⟩
theorem slEq_lens (a1 a2:Option Addr) (n1 c1 n2 c2:Nat) (w:World) (h1:n1<=1048576) (h2:n2<=1048576) (h:¬n1=n2) :
  Calls Tryz.prog 87 #[.slice a1 n1 c1,.slice a2 n2 c2] w fun e w'=>e=.returned (.bool false)/\w'=w:=by
 have hne:((n1:Int) != (n2:Int))=true:=by rw [bne_iff_ne]; omega
 go_enter Tryz.func87,Tryz.ntmps87
 go_wp2
 go_ret
 exact ⟨rfl,rfl⟩
theorem slEq_nil (a1 a2:Option Addr) (c1 c2:Nat) (w:World) :
  Calls Tryz.prog 87 #[.slice a1 0 c1,.slice a2 0 c2] w fun e w'=>e=.returned (.bool true)/\w'=w:=by
 go_enter Tryz.func87,Tryz.ntmps87
 go_wp2
 go_loopw [5,13] (fun _ i wr=>i=.int .i64 0/\wr=w) (fun _ _ _=>0)
 case atStart=>exact ⟨rfl,rfl⟩
 obtain ⟨rfl,rfl⟩:=hrel
 go_wp2
 go_ret
 exact ⟨rfl,rfl⟩
theorem slEq_any (v1 v2:Value) (xs ys:List Int) (w:World) (hl1:xs.length<=1048576) (hl2:ys.length<=1048576) (h1:Rd w.heap.size w v1 xs) (h2:Rd w.heap.size w v2 ys) :
  Calls Tryz.prog 87 #[v1,v2] w fun e w'=>e=.returned (.bool (decide (xs=ys)))/\Below w.heap.size w w':=by
 obtain ⟨a1,c1,rfl,h1⟩:=h1
 obtain ⟨a2,c2,rfl,h2⟩:=h2
 by_cases hxy:xs.length=ys.length
 rotate_left 1
 ·refine (slEq_lens a1 a2 _ c1 _ c2 w hl1 hl2 hxy).mono ?_
  rintro e w' ⟨rfl,rfl⟩
  exact ⟨ret_bool (by symm; rw [decide_eq_false_iff_not]; intro h; exact hxy (by rw [h])),Below.refl _ _⟩
 rcases h1 with h1 | ⟨b1,o1,hb1,rfl,hc1⟩
 ·obtain rfl:=List.length_eq_zero_iff.1 h1
  obtain rfl:=List.length_eq_zero_iff.1 hxy.symm
  refine (slEq_nil a1 a2 c1 c2 w).mono ?_
  rintro e w' ⟨rfl,rfl⟩
  exact ⟨rfl,Below.refl _ _⟩
 rcases h2 with h2 | ⟨b2,o2,hb2,rfl,hc2⟩
 ·obtain rfl:=List.length_eq_zero_iff.1 h2
  obtain rfl:=List.length_eq_zero_iff.1 hxy
  refine (slEq_nil _ a2 c1 c2 w).mono ?_
  rintro e w' ⟨rfl,rfl⟩
  exact ⟨rfl,Below.refl _ _⟩
 rw [<- hxy] at hc2 ⊢
 exact slEq_core b1 o1 c1 b2 o2 c2 xs ys w hl1 hxy hb1 hb2 hc1 hc2
set_option maxRecDepth 100000
set_option maxHeartbeats 16000000
theorem step_append_eq {P:Program} {ops:Array Oper} {o:Oper} {a:Act} {w w':World} {K:Act->World->Prop} {Q:Exit->Act->World->Prop} {E:Prop} (hg:o.guard=none) (s x:Operand) (ts:Array TypeId)
  (hop:o.op=Op.call { callee:=Callee.builtin Builtin.append,args:=#[s,x],argTypes:=ts }) (vs vx v:Value) (hs:a.eval s=vs) (hx:a.eval x=vx) (hrun:(Builtin.append_ ts o.type #[vs,vx]).run P w=.ok v w')
  (hK:K (a.put o.dst v) w'):if Region.wanted o (yielded ops a.tmps)=true then Oper.wp P o a w K Q else E:=by
 have hw:Region.wanted o (yielded ops a.tmps)=true:=by simp [Region.wanted,hg]
 rw [if_pos hw]
 unfold Oper.wp
 simp [execOp,hop,resolve,invoke,builtin,hs,hx,hrun,Result.andThen]
 exact hK
theorem grown_drew {w w':World} {r:Option Nat} (h:w.drew.grownBy w' r):w.grownBy w' r:=⟨h.os,h.tape,h.output,h.size,h.block⟩
theorem step_append_rd {base B:Nat} {ops:Array Oper} {o:Oper} {a:Act} {K:Act->World->Prop} {Q:Exit->Act->World->Prop} {E:Prop} (w:World) (hg:o.guard=none) (s y:Operand)
  (hop:o.op=Op.call { callee:=Callee.builtin Builtin.append,args:=#[s,y],argTypes:=#[23,23] }) (v u:Value) (hs:a.eval s=v) (hx:a.eval y=u) (n:Nat) (ys xs:List Int)
  (hown:w.ownsRow base 3 1 v n (ys.map (Value.int .i64))) (hrd:Rd B w u xs) (hbd:n+xs.length<=16777216) (hbase:base<=w.heap.size)
  (hK:∀v' w',w'.ownsRow base 3 1 v' (n+xs.length) ((ys++xs).map (Value.int .i64))->w.grownBy w' v.ownBlock->K (a.put o.dst v') w'):if Region.wanted o (yielded ops a.tmps)=true then Oper.wp Tryz.prog o a w K Q else E:=by
 obtain ⟨v',w',hr,ho,hb⟩:=append_rd' w v n ys hown u xs hrd hbd hbase o.type
 exact step_append_eq hg s y _ hop v _ v' hs hx hr (hK v' w' ho hb)
theorem rd_new (w:World) (x:Int) (t:TypeId):Rd (w.heap.size+1) (w.alloc (.cells #[.int .i64 x] t)).drew (.slice (some ⟨w.heap.size,0,none⟩) 1 1) [x]:=by
 refine ⟨_,_,rfl,.inr ⟨w.heap.size,0,by omega,rfl,fun i hi=>?_⟩⟩
 have:i=0:=by simp at hi; omega
 subst this
 simp [go_sem]
theorem rep_snoc (k:Nat) (x:Int):List.replicate (k+1) x=List.replicate k x++[x]:=by
 rw [List.replicate_succ']
theorem l2Wide_any (q0:Option Addr) (n0 e0 b off m c1:Nat) (u:Value) (x:Int) (sh:List Int) (w:World) (hf:Pl.fitsB sh=true) (hb:b<w.heap.size) (hm:0<m) (hc:w.cell? ⟨b,off,none⟩=some (.int .i64 x)) (hu:Rd w.heap.size w u sh) :
  Calls Tryz.prog 83 #[.agg #[.slice q0 n0 e0,.slice (some ⟨b,off,none⟩) m c1],u] w fun e w'=>∃u0 u1,e=.returned (.agg #[u0,u1])/\Res w.heap.size w' u0 u1 sh (List.replicate (Pl.prodC sh).toNat x)/\Below w.heap.size w w':=by
 have hl0:sh.length<=1048576:=by
  simp only [Pl.fitsB,Pl.baseB,Bool.and_eq_true,decide_eq_true_eq] at hf
  omega
 have hr:sh.all Pl.inR=true:=by simp only [Pl.fitsB,Pl.baseB,Bool.and_eq_true] at hf; exact hf.1.2
 have hn0:=(Pl.prodC_bd sh hr).1
 have hn1:=(Pl.prodC_bd sh hr).2
 have KP:Hid (∀w',Rd w'.heap.size w' u sh->Calls Tryz.prog 66 #[u] w' fun e w''=>e=.returned (.int .i64 (Pl.prodC sh))/\w''=w'):=fun w' h=>l1Product_any _ u sh w' hl0 hr h
 obtain ⟨n,hn⟩:∃n:Nat,Pl.prodC sh=n:=⟨(Pl.prodC sh).toNat,by omega⟩
 rw [hn] at hn0 hn1 KP ⊢
 have B:Hid (∀o o',Below w.heap.size w ((w.alloc o).alloc o')):=fun o o'=>((Below.refl _ _).alloc (Nat.le_refl _) _).alloc (by simp) _
 have H0:=hideP hu
 have HC:=hideP hc
 have eT:((n:Int)).toNat=n:=by omega
 rw [eT]
 obtain ⟨a0,d0,ef⟩:=hu.form
 subst ef
 clear hu hc hf hr hn eT hn0
 go_enter Tryz.func83,Tryz.ntmps83
 go_wp2_with fail
 refine (l2Copy_any _ sh _ hl0 ((H0.out.keep (B.out _ _)).up (by simp; omega))).mono ?_
 rintro e w2 ⟨v2,rfl,ho2,hb2⟩
 have B2:=hideP ((B.out _ _).trans (hb2.mono (by simp; omega)))
 have HO2:=hideP (own_of_any ho2)
 have hs2:=hb2.size
 simp at hs2
 obtain ⟨x2,y2,e2⟩:=owns_form ho2
 subst e2
 have C2:=hideP (And.intro ((hb2.cell (p:=⟨w.heap.size,1,none⟩) (by show w.heap.size<_; simp; omega)).trans (show _=some (.slice (some ⟨b,off,none⟩) m c1) by simp [go_sem])) (And.intro ((hb2.cell (p:=⟨w.heap.size+1,0,none⟩) (by show w.heap.size+1<_; simp)).trans (show _=some (.slice none 0 0) by simp [go_sem])) (And.intro ((hb2.cell (p:=⟨w.heap.size+1,1,none⟩) (by show w.heap.size+1<_; simp)).trans (show _=some (.slice none 0 0) by simp [go_sem])) (fun o=>(hb2.frozen (p:=⟨w.heap.size+1,o,none⟩) (by show w.heap.size+1<_; simp)).trans (show _=false by simp [go_sem])))))
 clear ho2 hb2
 go_wp2_with fail
 go_loopw [6] (fun i wr=>∃k:Nat,k<=n/\i=.int .i64 k/\∃nv,Hid (wr.heap[w2.heap.size+1]? = some (.cells #[.slice x2 sh.length y2,nv] 25 (0,0))) /\
   Hid (wr.ownsRow w2.heap.size 3 1 nv k ((List.replicate k x).map (Value.int .i64)))/\Hid (Below w2.heap.size w2 wr)) (fun i _=>n-(intOf i).toNat)
 case atStart =>
  refine ⟨0,Nat.zero_le _,rfl,.slice (some ⟨w2.heap.size,0,none⟩) 0 0,?_,?_,?_⟩
  ·have:=heap_alloc_new (w2.alloc (.cells #[] 3)) (.cells #[.slice x2 sh.length y2,.slice (some ⟨w2.heap.size,0,none⟩) 0 0] 25)
   show _=_
   simpa using this
  ·exact (owns_empty w2 w2.heap.size (Nat.le_refl _)).alloc _
  exact ((Below.refl _ _).alloc (Nat.le_refl _) _).alloc (by simp) _
 obtain ⟨k,hk,rfl,nv,hP,ho,hbel⟩:=hrel
 have HBW:Hid (Below w.heap.size w wr):=B2.out.trans (hbel.out.mono (by omega))
 have hsz:w2.heap.size+1<wr.heap.size:=(Array.getElem?_eq_some_iff.1 hP.out).1
 have RD:=hideP ((H0.out.keep HBW.out).up (by omega:w.heap.size<=wr.heap.size))
 obtain ⟨xo,yo,eo⟩:=owns_form ho.out
 subst eo
 by_cases hlt:k<n
 rotate_left 1
 ·have kn:k=n:=by omega
  subst kn
  have p0:wr.cell? ⟨w2.heap.size+1,0,none⟩=some (.slice x2 sh.length y2):=cell_blk hP.out
  have p1:wr.cell? ⟨w2.heap.size+1,1,none⟩=some (.slice xo k yo):=cell_blk hP.out
  have r0:wr.cell? ⟨w.heap.size+1,0,none⟩=some (.slice none 0 0):=(hbel.out.cell (p:=⟨w.heap.size+1,0,none⟩) (by show w.heap.size+1<_; omega)).trans C2.out.2.1
  have r1:wr.cell? ⟨w.heap.size+1,1,none⟩=some (.slice none 0 0):=(hbel.out.cell (p:=⟨w.heap.size+1,1,none⟩) (by show w.heap.size+1<_; omega)).trans C2.out.2.2.1
  have f3:∀o,wr.frozen? ⟨w.heap.size+1,o,none⟩=false:=fun o=>(hbel.out.frozen (p:=⟨w.heap.size+1,o,none⟩) (by show w.heap.size+1<_; omega)).trans (C2.out.2.2.2 o)
  go_wp2_with (go_at_call 66; refine (KP.out _ RD.out).mono ?_; rintro e wr ⟨rfl,rfl⟩)
  refine bodyPost_ret (v:=.agg #[.slice x2 sh.length y2,.slice xo k yo]) (by simp [results,Tryz.results83,go_sem,r0,r1]) rfl ?_
  refine ⟨_,_,rfl,⟨?_,?_,?_⟩,(HBW.out.setCell (by simp) _).setCell (by simp) _⟩
  ·have:=HO2.out.base (show w.heap.size+1+1<=_ by simp)
   have k2:Own (w.heap.size+1+1) wr (.slice x2 sh.length y2) sh:=by
    obtain ⟨q,p,e,h⟩:=this
    refine ⟨q,p,e,?_⟩
    rcases h with h | ⟨g,of,g1',g2',g3,g4⟩
    ·exact .inl h
    exact .inr ⟨g,of,g1',by omega,g3,fun i hi=>⟨(hbel.out.cell (p:=⟨g,of+i,none⟩) g2').trans (g4 i hi).1,(hbel.out.frozen (p:=⟨g,of+i,none⟩) g2').trans (g4 i hi).2⟩⟩
   exact Own.base (Own.store (Own.store k2 (by omega) _) (by omega) _) (by omega)
  ·have:=(own_of_any ho.out).base (show w.heap.size+1+1<=w2.heap.size by omega)
   exact Own.base (Own.store (Own.store this (by omega) _) (by omega) _) (by omega)
  refine apart_right (B:=w2.heap.size) (own_of_any ho.out) ?_
  exact HO2.out.lt
 have hlt':(k:Int)<(n:Int):=by omega
 have q1:wr.cell? ⟨w.heap.size,1,none⟩=some (.slice (some ⟨b,off,none⟩) m c1):=(hbel.out.cell (p:=⟨w.heap.size,1,none⟩) (by show w.heap.size<_; omega)).trans C2.out.1
 have Q1:=hideP q1
 have L0:∀w',Below w2.heap.size wr w'->w'.cell? ⟨w.heap.size,1,none⟩=some (.slice (some ⟨b,off,none⟩) m c1):=fun w' h=>(h.cell (p:=⟨w.heap.size,1,none⟩) (by show w.heap.size<_; omega)).trans Q1.out
 have L1:∀w',Below w2.heap.size wr w'->w'.cell? ⟨b,off,none⟩=some (.int .i64 x):=fun w' h=>(h.cell (p:=⟨b,off,none⟩) (by show b<_; omega)).trans ((HBW.out.cell (p:=⟨b,off,none⟩) hb).trans HC.out)
 have p1:wr.cell? ⟨w2.heap.size+1,1,none⟩=some (.slice xo k yo):=cell_blk hP.out
 have D:=hideP (show Below w2.heap.size wr wr.drew from (Below.refl _ _).drew)
 have DA:Hid (∀o,Below w2.heap.size wr (wr.alloc o).drew):=fun o=>((Below.refl _ _).alloc (by omega) _).drew
 have OA:Hid (∀o,(wr.alloc o).drew.ownsRow w2.heap.size 3 1 (.slice xo k yo) k ((List.replicate k x).map (Value.int .i64))):=fun o=>ho.out.alloc o
 have RN:=hideP (rd_new wr x 3)
 clear q1
 go_wp2_with (go_at_call 66; refine (KP.out _ RD.out).mono ?_; rintro e wr ⟨rfl,rfl⟩)
 refine wp_region_held (S:=fun w'=>Below w2.heap.size wr w') (by kernel_rfl) ?_
 change wpAnyH _ _ _ _ _ _ _ _ (World.drew _)
 refine tz 0 (.pointer (some ⟨w2.heap.size+1,1,none⟩)) rfl D.out (fun w' hS=>by clear L0 L1 hS; go_simp) ?_
 refine tz 2 (.pointer (some ⟨w.heap.size,1,none⟩)) rfl D.out (fun w' hS=>by clear L0 L1 hS; go_simp) ?_
 refine tz 3 (.slice (some ⟨b,off,none⟩) m c1) rfl D.out (fun w' hS=>by have:=L0 w' hS; clear L0 L1 hS; go_simp) ?_
 refine tz 4 (.pointer (some ⟨b,off,none⟩)) rfl D.out (fun w' hS=>by clear L0 L1 hS; go_simp) ?_
 refine tz 5 (.int .i64 x) rfl D.out (fun w' hS=>by have:=L1 w' hS; clear L0 L1 hS; go_simp) ?_
 clear L0 L1
 refine ry2 1 6 rfl rfl (fun K hK=>?_) (fun K hK=>?_)
 focus
  go_simp
  refine hK.out _ _ D.out (fun _=>?_)
  clear hK
 rotate_left
 focus
  go_simp
  refine hK.out _ _ (DA.out _) (fun _=>?_)
  clear hK
 rotate_left
 all_goals first
  |refine wpAnyH_ready (rs:=[6]) (by kernel_rfl) (by simp) ?_
   refine AllReadyH.cons rfl (fun K hK=>?_) AllReadyH.nil
   go_simp
   refine hK.out _ _ (DA.out _) (fun _=>?_)
   clear hK
  |refine wpAnyH_ready (rs:=[1]) (by kernel_rfl) (by simp) ?_
   refine AllReadyH.cons rfl (fun K hK=>?_) AllReadyH.nil
   go_simp
   refine hK.out _ _ (DA.out _) (fun _=>?_)
   clear hK
 all_goals
  refine ry1 7 rfl (fun K hK=>?_)
  refine step_append_rd (base:=w2.heap.size) _ rfl _ _ rfl _ _ rfl rfl k _ _ (OA.out _) RN.out (by simp; omega) (by simp [World.drew]; omega) ?_
  intro v' w9 ho' hg
  have ho9:w9.ownsRow w2.heap.size 3 1 v' (k+1) ((List.replicate (k+1) x).map (Value.int .i64)):=by
   rw [rep_snoc]
   exact ho'
  have OS:=hideP (out_step hP.out ho.out (Nat.le_succ _) hbel.out (grown_drew hg) ho9)
  have D9:Hid (Below w2.heap.size wr w9):=(DA.out _).grown hg (by simp [World.drew]; omega) (fun k hk=>(ho.out.lt k hk).1)
  obtain ⟨x9,y9,e9⟩:=owns_form ho9
  subst e9
  have p9:w9.cell? ⟨w2.heap.size+1,1,none⟩=some (.slice xo k yo):=cell_blk OS.out.1
  have f9:w9.frozen? ⟨w2.heap.size+1,1,none⟩=false:=frozen_blk OS.out.1
  clear ho' ho9 hg p1
  refine hK.out _ _ D9.out (fun _=>?_)
  clear hK
 all_goals
  refine ry1 8 rfl (fun K hK=>?_)
  go_simp
  refine hK.out _ _ D9.out (fun _=>?_)
  clear hK
 all_goals
  refine ry1 9 rfl (fun K hK=>?_)
  go_simp
  refine hK.out _ _ (D9.out.setCell (by simp) _) (fun _=>?_)
  clear hK
  refine wpAnyH_done (by kernel_rfl) ?_ _
  clear p9 f9
  go_wp2_with fail
  go_roundw
  case rel=>exact ⟨k+1,by omega,by go_num,_,OS.out.2.1,OS.out.2.2.1,OS.out.2.2.2⟩
  simp [intOf]; omega
theorem append_rd_at {base B:Nat} (w:World) (v:Value) (n:Nat) (ys:List Int) (hown:w.ownsRow base 3 1 v n (ys.map (Value.int .i64))) (u:Value) (xs:List Int) (hrd:Rd B w u xs) (hbd:n+xs.length<=16777216) (hbase:base<=w.heap.size) (ty:TypeId) :
  ∃v' w',(Builtin.append_ #[23,23] ty #[v,u]).run Tryz.prog w=.ok v' w'/\w'.ownsRow base 3 1 v' (n+xs.length) ((ys++xs).map (Value.int .i64))/\w.grownBy w' v.ownBlock/\(v'.ownBlock=v.ownBlock\/v'.ownBlock=some w.heap.size):=by
 obtain ⟨i0,hi,hz0,hz1,hz2⟩:=info_parts Tryz.info3
 obtain ⟨ao,cap,rfl,h⟩:=hrd
 rcases h with h | ⟨b,off,hB,rfl,hc⟩
 ·obtain rfl:=List.length_eq_zero_iff.1 h
  refine ⟨v,w,?_,by simpa using hown,World.grownBy.refl _ _,.inl rfl⟩
  rcases hown.2 with ⟨rfl,rfl⟩ | ⟨g,cp,cur,rfl,_,_,hnc,_⟩
  ·cases ao <;> simp [Builtin.append_,run_underlying Tryz.underlying23,sizeOf,typeInfo,hi,Builtin.lenOf,Builtin.firstCells,loadCells,loadCellsFrom]
  cases ao <;> simp [Builtin.append_,run_underlying Tryz.underlying23,sizeOf,typeInfo,hi,Builtin.lenOf,Builtin.firstCells,loadCells,loadCellsFrom,hnc,storeCells]
 obtain ⟨v',w',hr,ho,hg,_,hat⟩:=run_append_own_at (P:=Tryz.prog) w base 23 ty 3 i0 (.int .i64 0) 1 8 Tryz.underlying23 hi hz0 hz1 hz2 rfl (by decide) v n _ hown ⟨b,off,none⟩ xs.length cap (xs.map (Value.int .i64)) (by simp)
  (by
   intro j x hj
   rw [List.getElem?_map] at hj
   obtain ⟨y,hy,rfl⟩:=Option.map_eq_some_iff.1 hj
   have hlt:j<xs.length:=(List.getElem?_eq_some_iff.1 hy).1
   rw [Addr.add_lit,hc j hlt]
   simp [List.getD,hy])
  (ints_oneCell _ _) (by unfold maxLen; omega) (by omega) hbase
 exact ⟨v',w',hr,by simpa using ho,hg,hat⟩
theorem owns_some {base n:Nat} {w:World} {v:Value} {xs:List Value} (h:w.ownsRow base 3 1 v n xs) (hb:∃k,v.ownBlock=some k):∃g cap,v=.slice (some ⟨g,0,none⟩) n cap/\n<=cap/\cap<=9223372036854775807:=by
 rcases h.2 with ⟨rfl,_⟩ | ⟨g,cap,cur,rfl,_,_,h1,h2,_⟩
 ·obtain ⟨k,hk⟩:=hb
  simp [Value.ownBlock] at hk
 refine ⟨g,cap,rfl,h1,?_⟩
 unfold maxLen at h2
 omega
theorem wpList_append_rd_at {base B:Nat} (w:World) {ops:Array Oper} {rest:List Oper} {o:Oper} {a:Act} {Q:Exit->Act->World->Prop} (hg:o.guard=none) (s x:Operand)
  (hop:o.op=Op.call { callee:=Callee.builtin Builtin.append,args:=#[s,x],argTypes:=#[23,23] }) (v u:Value) (hs:a.eval s=v) (hx:a.eval x=u) (n:Nat) (ys xs:List Int)
  (hown:w.ownsRow base 3 1 v n (ys.map (Value.int .i64))) (hrd:Rd B w u xs) (hbd:n+xs.length<=16777216) (hbase:base<=w.heap.size)
  (hK:∀v' w',w'.ownsRow base 3 1 v' (n+xs.length) ((ys++xs).map (Value.int .i64))->w.grownBy w' v.ownBlock->(v'.ownBlock=v.ownBlock\/v'.ownBlock=some w.heap.size)->wpList Tryz.prog ops Q rest (a.put o.dst v') w'):wpList Tryz.prog ops Q (o::rest) a w:=by
 obtain ⟨v',w',hr,ho,hb,hat⟩:=append_rd_at w v n ys hown u xs hrd hbd hbase o.type
 exact wpList_append_eq w w' hg s x _ hop v u v' hs hx hr (hK v' w' ho hb hat)
theorem l2Copy_at (u:Value) (xs:List Int) (w:World) (hl:xs.length<=1048576) (h0:Rd w.heap.size w u xs) :
  Calls Tryz.prog 27 #[u] w fun e w'=>∃g cap,e=.returned (.slice (some ⟨g,0,none⟩) xs.length cap)/\xs.length<=cap/\cap<=9223372036854775807/\w'.ownsRow w.heap.size 3 1 (.slice (some ⟨g,0,none⟩) xs.length cap) xs.length (xs.map (Value.int .i64))/\Below w.heap.size w w':=by
 have H:=hideP h0
 obtain ⟨a0,d0,e0⟩:=h0.form
 subst e0
 clear h0
 go_enter Tryz.func27,Tryz.ntmps27
 have A:Hid (Below w.heap.size w (w.alloc (.cells #[] 3))):=(Below.refl _ _).alloc (Nat.le_refl _) _
 have RD:=hideP (H.out.keep A.out)
 have OE:=hideP (owns_empty w w.heap.size (Nat.le_refl _))
 go_wp2_with (at_builtin; refine wpList_append_rd_at _ rfl _ _ rfl _ _ rfl rfl 0 [] xs OE.out RD.out (by omega) (by simp) ?_)
 intro v' w' ho hg hat
 have HO:Hid (w'.ownsRow w.heap.size 3 1 v' xs.length (xs.map (Value.int .i64))):=by
  first | exact ho | (have:=ho; rw [Nat.zero_add,List.nil_append] at this; exact this)
 obtain ⟨g,cap,ev,h1,h2⟩:=owns_some HO.out (by
  rcases hat with hat | hat
  ·exact ⟨w.heap.size,hat⟩
  exact ⟨_,hat⟩)
 subst ev
 have HB:Hid (Below w.heap.size w w'):=A.out.grown hg (by simp) (fun k hk=>by simp [Value.ownBlock] at hk; omega)
 clear ho hg hat
 go_wp2_with fail
 go_ret
 exact ⟨_,_,rfl,h1,h2,HO.out,HB.out⟩
end Go.Proofs.YtacapaiadggemaaGreat
