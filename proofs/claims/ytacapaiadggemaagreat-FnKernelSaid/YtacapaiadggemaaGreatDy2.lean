import Derived.Test.YtacapaiadggemaaGreatCopied
import Derived.Test.YtacapaiadggemaaGreatDy3
import Derived.Test.YtacapaiadggemaaGreatDyC
import Derived.Deep.LoopGhost
import Derived.WalkMore
namespace Go.Proofs.YtacapaiadggemaaGreat
open Go.RowKit
set_option maxRecDepth 100000
set_option maxHeartbeats 16000000
set_option linter.unusedVariables false
theorem own_lit (w w':World) (x:Int) (hb:Below (w.heap.size+1) (w.alloc (.cells #[.int .i64 x] 3)) w'):Own w.heap.size w' (.slice (some ⟨w.heap.size,0,none⟩) 1 1) [x]:=by
 have o:Own w.heap.size (w.alloc (.cells #[.int .i64 x] 3)) (.slice (some ⟨w.heap.size,0,none⟩) 1 1) [x]:=own_of_any (owns_one w x w.heap.size (Nat.le_refl _))
 exact o.keep (by rw [show (w.alloc (.cells #[.int .i64 x] 3)).heap.size=w.heap.size+1 by simp]; exact hb)
theorem vector_any (ao:Option Addr) (cap n:Nat) (w:World) :
  Calls Tryz.prog 128 #[.slice ao n cap] w fun e w'=>∃g,e=.returned (.agg #[.slice (some ⟨g,0,none⟩) 1 1,.slice ao n cap])/\Own w.heap.size w' (.slice (some ⟨g,0,none⟩) 1 1) [(n:Int)]/\Below w.heap.size w w':=by
 have B:Hid (∀o o',Below w.heap.size w ((w.alloc o).alloc o')):=fun o o'=>((Below.refl _ _).alloc (Nat.le_refl _) _).alloc (by simp) _
 have O:Hid (∀o,Own (w.heap.size+1) ((w.alloc o).alloc (.cells #[.int .i64 (n:Int)] 3)) (.slice (some ⟨w.heap.size+1,0,none⟩) 1 1) [(n:Int)]):=fun o=>by
  have:=own_lit (w.alloc o) ((w.alloc o).alloc (.cells #[.int .i64 (n:Int)] 3)) (n:Int) (Below.refl _ _)
  have e:(w.alloc o).heap.size=w.heap.size+1:=by simp
  rw [e] at this
  exact this
 go_enter Tryz.func128,Tryz.ntmps128
 go_wp2_with fail
 refine bodyPost_ret (v:=.agg #[.slice (some ⟨w.heap.size+1,0,none⟩) 1 1,.slice ao n cap]) (by simp [results,Tryz.results128,go_sem]) rfl ⟨w.heap.size+1,rfl,?_,?_⟩
 ·exact (O.out _).base (by omega)
 exact B.out _ _
theorem apart_lo2 {B:Nat} {w:World} {u0 u1:Value} {sh da:List Int} (h:Own B w u0 sh) (h1:da.length=0\/∀b,u1.ownBlock=some b->b<B):Apart u0 u1 sh da:=by
 rcases h1 with h1 | h1
 ·exact .inr (.inl h1)
 exact apart_left h h1
theorem shapeOf_any (v0 v1:Value) (sh da:List Int) (w:World) (hl0:sh.length<=1048576) (hl1:da.length<=1048576) (h0:Rd w.heap.size w v0 sh) (h1:Rd w.heap.size w v1 da) :
  Calls Tryz.prog 106 #[.agg #[v0,v1]] w (KPost w 0 [(sh.length:Int)] sh):=by
 have H0:=hideP h0
 have H1:=hideP h1
 obtain ⟨a0,d0,e0⟩:=h0.form
 obtain ⟨a1,d1,e1⟩:=h1.form
 subst e0 e1
 clear h0 h1
 have PB:Hid (∀W,Below (w.heap.size+1+1) ((w.alloc (.cells #[.slice a0 sh.length d0,.slice a1 da.length d1] 25)).alloc (.cells #[.slice none 0 0,.slice none 0 0] 25)) W->(W.cell? ⟨w.heap.size,0,none⟩=some (.slice a0 sh.length d0)/\W.cell? ⟨w.heap.size,1,none⟩=some (.slice a1 da.length d1))/\(W.cell? ⟨w.heap.size+1,0,none⟩=some (.slice none 0 0)/\W.cell? ⟨w.heap.size+1,1,none⟩=some (.slice none 0 0)/\∀o,W.frozen? ⟨w.heap.size+1,o,none⟩=false)/\Below w.heap.size w W):=fun W hb=>boxes2 hb
 have KJ:Hid (∀o o',Calls Tryz.prog 74 #[.slice (some ⟨w.heap.size+1+1,0,none⟩) 1 1] (((w.alloc o).alloc o').alloc (.cells #[.slice a0 sh.length d0] 23)) fun e w'=>∃ao cap,e=.returned (.slice ao sh.length cap)/\Own (w.heap.size+1+1+1) w' (.slice ao sh.length cap) sh/\Below (w.heap.size+1+1) ((w.alloc o).alloc o') w'):=fun o o'=>by
  have k:Below w.heap.size w (((w.alloc o).alloc o').alloc (.cells #[.slice a0 sh.length d0] 23)):=below3 w _ _ _
  refine (joined1_own (w.heap.size+1+1) _ sh _ (by omega) (by simp) (by simp [go_sem]) ((H0.out.keep k).up (by simp; omega))).mono ?_
  rintro e w' ⟨ao,cap,rfl,ho,hb⟩
  refine ⟨ao,cap,rfl,by simpa using ho,?_⟩
  exact ((Below.refl _ _).alloc (by simp) _).trans (hb.mono (by simp))
 go_enter Tryz.func106,Tryz.ntmps106
 go_wp2_with fail
 refine (KJ.out _ _).mono ?_
 rintro e w1 ⟨ao,cap,rfl,ho1,hb1⟩
 have B1:=hideP hb1
 have O1:=hideP ho1
 have hs1:w.heap.size+1+1<=w1.heap.size:=by have:=hb1.size; simpa using this
 clear hb1 ho1
 go_wp2_with fail
 refine (vector_any ao cap sh.length w1).mono ?_
 rintro e w2 ⟨g,rfl,ho2,hb2⟩
 have B2:=hideP (B1.out.trans (hb2.mono hs1))
 have X2:=hideP (PB.out _ B2.out)
 have OV:=hideP (O1.out.keep hb2)
 have OS:=hideP ho2
 have AP:=hideP (apart_lo2 (u1:=.slice ao sh.length cap) (da:=sh) ho2 O1.out.lt)
 have hs2:=hb2.size
 clear hb2 ho2
 have r0:=X2.out.2.1.1
 have r1:=X2.out.2.1.2.1
 have f2:=X2.out.2.1.2.2
 go_wp2_with fail
 refine bodyPost_ret (v:=.agg #[.slice (some ⟨g,0,none⟩) 1 1,.slice ao sh.length cap]) (by simp [results,Tryz.results106,go_sem,r0,r1]) rfl ⟨(X2.out.2.2.setCell (by simp) _).setCell (by simp) _,.inl ⟨rfl,_,_,rfl,?_,?_,AP.out⟩⟩
 ·exact Own.base (Own.store (Own.store OS.out (by omega) _) (by omega) _) (by omega)
 exact Own.base (Own.store (Own.store OV.out (by omega) _) (by omega) _) (by omega)
theorem ravel_any (v0 v1:Value) (sh da:List Int) (w:World) (hl0:sh.length<=1048576) (hl1:da.length<=1048576) (h0:Rd w.heap.size w v0 sh) (h1:Rd w.heap.size w v1 da) :
  Calls Tryz.prog 107 #[.agg #[v0,v1]] w (KPost w 0 [(da.length:Int)] da):=by
 have H0:=hideP h0
 have H1:=hideP h1
 obtain ⟨a0,d0,e0⟩:=h0.form
 obtain ⟨a1,d1,e1⟩:=h1.form
 subst e0 e1
 clear h0 h1
 have PB:Hid (∀W,Below (w.heap.size+1+1) ((w.alloc (.cells #[.slice a0 sh.length d0,.slice a1 da.length d1] 25)).alloc (.cells #[.slice none 0 0,.slice none 0 0] 25)) W->(W.cell? ⟨w.heap.size,0,none⟩=some (.slice a0 sh.length d0)/\W.cell? ⟨w.heap.size,1,none⟩=some (.slice a1 da.length d1))/\(W.cell? ⟨w.heap.size+1,0,none⟩=some (.slice none 0 0)/\W.cell? ⟨w.heap.size+1,1,none⟩=some (.slice none 0 0)/\∀o,W.frozen? ⟨w.heap.size+1,o,none⟩=false)/\Below w.heap.size w W):=fun W hb=>boxes2 hb
 have KJ:Hid (∀o o',Calls Tryz.prog 74 #[.slice (some ⟨w.heap.size+1+1,0,none⟩) 1 1] (((w.alloc o).alloc o').alloc (.cells #[.slice a1 da.length d1] 23)) fun e w'=>∃ao cap,e=.returned (.slice ao da.length cap)/\Own (w.heap.size+1+1+1) w' (.slice ao da.length cap) da/\Below (w.heap.size+1+1) ((w.alloc o).alloc o') w'):=fun o o'=>by
  have k:Below w.heap.size w (((w.alloc o).alloc o').alloc (.cells #[.slice a1 da.length d1] 23)):=below3 w _ _ _
  refine (joined1_own (w.heap.size+1+1) _ da _ (by omega) (by simp) (by simp [go_sem]) ((H1.out.keep k).up (by simp; omega))).mono ?_
  rintro e w' ⟨ao,cap,rfl,ho,hb⟩
  refine ⟨ao,cap,rfl,by simpa using ho,?_⟩
  exact ((Below.refl _ _).alloc (by simp) _).trans (hb.mono (by simp))
 go_enter Tryz.func107,Tryz.ntmps107
 go_wp2_with fail
 refine (KJ.out _ _).mono ?_
 rintro e w1 ⟨ao,cap,rfl,ho1,hb1⟩
 have B1:=hideP hb1
 have O1:=hideP ho1
 have hs1:w.heap.size+1+1<=w1.heap.size:=by have:=hb1.size; simpa using this
 clear hb1 ho1
 go_wp2_with fail
 refine (vector_any ao cap da.length w1).mono ?_
 rintro e w2 ⟨g,rfl,ho2,hb2⟩
 have B2:=hideP (B1.out.trans (hb2.mono hs1))
 have X2:=hideP (PB.out _ B2.out)
 have OV:=hideP (O1.out.keep hb2)
 have OS:=hideP ho2
 have AP:=hideP (apart_lo2 (u1:=.slice ao da.length cap) (da:=da) ho2 O1.out.lt)
 have hs2:=hb2.size
 clear hb2 ho2
 have r0:=X2.out.2.1.1
 have r1:=X2.out.2.1.2.1
 have f2:=X2.out.2.1.2.2
 go_wp2_with fail
 refine bodyPost_ret (v:=.agg #[.slice (some ⟨g,0,none⟩) 1 1,.slice ao da.length cap]) (by simp [results,Tryz.results107,go_sem,r0,r1]) rfl ⟨(X2.out.2.2.setCell (by simp) _).setCell (by simp) _,.inl ⟨rfl,_,_,rfl,?_,?_,AP.out⟩⟩
 ·exact Own.base (Own.store (Own.store OS.out (by omega) _) (by omega) _) (by omega)
 exact Own.base (Own.store (Own.store OV.out (by omega) _) (by omega) _) (by omega)
namespace Pl
def iotaL (n:Nat):List Int:=(List.range n).map (fun (i:Nat)=>(i:Int))
def iotaZ (n j:Nat):List Int:=iotaL j++List.replicate (n-j) 0
theorem iotaL_len (n:Nat):(iotaL n).length=n:=by simp [iotaL]
theorem iotaL_succ (n:Nat):iotaL (n+1)=iotaL n++[(n:Int)]:=by simp [iotaL,List.range_succ]
theorem iotaZ_all (n:Nat):iotaZ n n=iotaL n:=by simp [iotaZ]
theorem iotaZ_zero (n:Nat):iotaZ n 0=List.replicate n 0:=by simp [iotaZ,iotaL]
theorem iotaZ_len (n j:Nat) (h:j<=n):(iotaZ n j).length=n:=by simp [iotaZ,iotaL_len]; omega
theorem iotaZ_step (n j:Nat) (h:j<n):(iotaZ n j).set j (j:Int)=iotaZ n (j+1):=by
 unfold iotaZ
 have e:n-j=(n-(j+1))+1:=by omega
 rw [List.set_append_right j _ (by rw [iotaL_len]; exact Nat.le_refl _),iotaL_len,Nat.sub_self,e,List.replicate_succ,List.set_cons_zero,iotaL_succ]
 simp
end Pl
theorem positions_any (n:Nat) (w:World) (hn:n<=1000) :
  Calls Tryz.prog 134 #[.int .i64 (n:Int)] w fun e w'=>e=.returned (.slice (some ⟨w.heap.size,0,none⟩) n n)/\w'.ownsRow w.heap.size 3 1 (.slice (some ⟨w.heap.size,0,none⟩) n n) n ((Pl.iotaL n).map (Value.int .i64))/\Below w.heap.size w w':=by
 obtain ⟨i0,hi,hz0,hz1,hz2⟩:=info_parts Tryz.info3
 have HI:=hideP (And.intro hi (And.intro hz0 (And.intro hz1 hz2)))
 clear hi hz0 hz1 hz2
 go_enter Tryz.func134,Tryz.ntmps134
 go_wp2_with (at_make; refine wpList_make_full _ rfl _ _ 23 rfl w.heap.size 3 i0 (.int .i64 0) 1 Tryz.underlying23 HI.out.1 HI.out.2.1 HI.out.2.2.1 _ _ _ _ n rfl rfl rfl rfl ?b2 ?b3 ?b4 ?_)
 case b2=>rw [HI.out.2.2.2]; omega
 case b3=>unfold maxLen; omega
 case b4=>exact Nat.le_refl _
 intro w1 hown hgrow
 rw [made_zeros] at hown
 have B1:Hid (Below w.heap.size w w1):=(Below.refl _ _).grown hgrow (Nat.le_refl _) (by intro k h; cases h)
 have O1:Hid (w1.ownsRow w.heap.size 3 1 (.slice (some ⟨w.heap.size,0,none⟩) n n) n ((Pl.iotaZ n 0).map (Value.int .i64))):=by
  show World.ownsRow _ _ _ _ _ _ _
  rw [Pl.iotaZ_zero]
  simpa using hown
 clear hown hgrow
 go_wp2_with fail
 go_loopw [4,9] (fun _ i wr=>∃j:Nat,j<=n/\i=.int .i64 j/\Hid (wr.ownsRow w.heap.size 3 1 (.slice (some ⟨w.heap.size,0,none⟩) n n) n ((Pl.iotaZ n j).map (Value.int .i64)))/\Hid (Below w.heap.size w wr)) (fun _ i _=>n-(intOf i).toNat)
 case atStart=>exact ⟨0,Nat.zero_le _,rfl,O1,B1⟩
 obtain ⟨j,hj,rfl,ho,hB⟩:=hrel
 by_cases hlt:j<n
 ·have hlt':(j:Int)<(n:Int):=by omega
  have hfz:wr.frozen? ⟨w.heap.size,j,none⟩=false:=ho.out.frozenAt j
  have hcg:∃u,wr.cell? ⟨w.heap.size,j,none⟩=some (.int .i64 u):=by
   rw [ho.out.cellAt j (by omega)]
   have hlen:j<(Pl.iotaZ n j).length:=by rw [Pl.iotaZ_len n j hj]; exact hlt
   exact ⟨(Pl.iotaZ n j)[j],by simp [hlen]⟩
  obtain ⟨u,hcg⟩:=hcg
  have R:Hid ((wr.setCell ⟨w.heap.size,j,none⟩ (.int .i64 (j:Int))).ownsRow w.heap.size 3 1 (.slice (some ⟨w.heap.size,0,none⟩) n n) n ((Pl.iotaZ n (j+1)).map (Value.int .i64))):=by
   show World.ownsRow _ _ _ _ _ _ _
   rw [<- Pl.iotaZ_step n j hlt,List.map_set]
   exact (ho.out.stored j (.int .i64 (j:Int))).1
  have S:Hid (Below w.heap.size w (wr.setCell ⟨w.heap.size,j,none⟩ (.int .i64 (j:Int)))):=hB.out.setCell (by simp) _
  go_wp2_with fail
  go_roundw
  case rel=>exact ⟨j+1,by omega,by go_num,R,S⟩
  simp [intOf]; omega
 have jn:j=n:=by omega
 subst jn
 have OF:=ho.out
 rw [Pl.iotaZ_all] at OF
 have HOF:=hideP OF
 clear OF
 go_wp2_with fail
 go_ret
 exact ⟨rfl,HOF.out,hB.out⟩
namespace Pl
def iotaM (sh da:List Int):Int × List Int × List Int :=
 if ¬sh.length=0 then (2,[],[]) else if da.getD 0 0<0 then (1,[],[]) else if 1000<da.getD 0 0 then (6,[],[]) else (0,[da.getD 0 0],iotaL (da.getD 0 0).toNat)
end Pl
theorem refuse_f (b:Bool) (hb:b=false) (c:Int) (w:World):Calls Tryz.prog 73 #[.bool b,.int .i64 c] w fun e w'=>e=.returned (.tuple #[])/\w'=w:=by subst hb; exact refuse_no c w
theorem countUp_any (v0 v1:Value) (sh da:List Int) (w:World) (hok:Pl.okB sh da=true) (h0:Rd w.heap.size w v0 sh) (h1:Rd w.heap.size w v1 da) (c:Int) (S D:List Int) (hres:Pl.iotaM sh da=(c,S,D)) :
  Calls Tryz.prog 105 #[.agg #[v0,v1]] w (KPost w c S D):=by
 have KS:Hid (∀w',Calls Tryz.prog 84 #[.agg #[v0,v1]] w' fun e w''=>e=.returned (.bool (decide (sh.length=0)))/\Below w'.heap.size w' w''):=fun w'=>isScalar_any _ _ sh w.heap.size w' w h0
 obtain ⟨a0,d0,e0⟩:=h0.form
 obtain ⟨a1,d1,b1,o1,e1,hao1,hb1,hc1⟩:=h1.parts
 subst e0 e1
 have PB:Hid (∀W,Below (w.heap.size+1+1) ((w.alloc (.cells #[.slice a0 sh.length d0,.slice a1 da.length d1] 25)).alloc (.cells #[.slice none 0 0,.slice none 0 0] 25)) W->(W.cell? ⟨w.heap.size,0,none⟩=some (.slice a0 sh.length d0)/\W.cell? ⟨w.heap.size,1,none⟩=some (.slice a1 da.length d1))/\(W.cell? ⟨w.heap.size+1,0,none⟩=some (.slice none 0 0)/\W.cell? ⟨w.heap.size+1,1,none⟩=some (.slice none 0 0)/\∀o,W.frozen? ⟨w.heap.size+1,o,none⟩=false)/\Below w.heap.size w W):=fun W hb=>boxes2 hb
 unfold Pl.iotaM at hres
 by_cases hsl:sh.length=0
 rotate_left 1
 ·have KS':Hid (∀w',Calls Tryz.prog 84 #[.agg #[.slice a0 sh.length d0,.slice a1 da.length d1]] w' fun e w''=>e=.returned (.bool false)/\Below w'.heap.size w' w''):=fun w'=>by have:=KS.out w'; rw [decide_eq_false hsl] at this; exact this
  rw [if_pos hsl] at hres
  simp only [Prod.mk.injEq] at hres
  obtain ⟨rfl,rfl,rfl⟩:=hres
  clear h0 h1 hok KS hsl hao1 hb1 hc1
  generalize sh.length=L at *
  generalize da.length=M at *
  go_enter Tryz.func105,Tryz.ntmps105
  go_wp2_with fail
  refine (KS'.out _).mono ?_
  rintro e w1 ⟨rfl,hb1⟩
  have X1:=hideP (PB.out _ (show Below (w.heap.size+1+1) _ w1 from hb1.mono (by simp)))
  clear hb1
  go_wp2_with (go_at_call 73; refine (refuse_yes _ _).mono ?_; rintro e w1 ⟨rfl,rfl⟩)
  exact ⟨rfl,X1.out.2.2,.inr ⟨by decide,rfl,rfl,rfl⟩⟩
 have KS':Hid (∀w',Calls Tryz.prog 84 #[.agg #[.slice a0 sh.length d0,.slice a1 da.length d1]] w' fun e w''=>e=.returned (.bool true)/\Below w'.heap.size w' w''):=fun w'=>by have:=KS.out w'; rw [decide_eq_true hsl] at this; exact this
 rw [if_neg (fun h=>h hsl)] at hres
 have hd1:=Pl.ok_one hok hsl
 have hao:=hao1 (by omega)
 have hbl:=hb1 (by omega)
 have hce:=hc1 0 (by omega)
 rw [Nat.add_zero] at hce
 have hdl:1<=da.length:=by omega
 subst hao
 generalize da.getD 0 0=x at *
 have HCE:=hideP hce
 clear h0 h1 hok KS hsl hao1 hb1 hc1 hce hd1
 generalize sh.length=L at *
 generalize da.length=M at *
 go_enter Tryz.func105,Tryz.ntmps105
 go_wp2_with fail
 refine (KS'.out _).mono ?_
 rintro e w1 ⟨rfl,hb1⟩
 have B1:=hideP (show Below (w.heap.size+1+1) _ w1 from hb1.mono (by simp))
 have X1:=hideP (PB.out _ B1.out)
 have hs1:w.heap.size+1+1<=w1.heap.size:=by have:=hb1.size; simpa using this
 clear hb1
 have c11:=X1.out.1.2
 have cx:w1.cell? ⟨b1,o1,none⟩=some (.int .i64 x):=(X1.out.2.2.cell (p:=⟨b1,o1,none⟩) hbl).trans HCE.out
 by_cases hx0:x<0
 ·rw [if_pos hx0] at hres
  simp only [Prod.mk.injEq] at hres
  obtain ⟨rfl,rfl,rfl⟩:=hres
  go_wp2_with (first | (go_at_call 73; refine (refuse_no 2 _).mono ?_; rintro e w1 ⟨rfl,rfl⟩) | (go_at_call 73; refine (refuse_t (decide (x<0)) (decide_eq_true hx0) 1 _).mono ?_; rintro e w1 ⟨rfl,rfl⟩) | (go_at_call 73; refine (refuse_yes 1 _).mono ?_; rintro e w1 ⟨rfl,rfl⟩))
  exact ⟨rfl,X1.out.2.2,.inr ⟨by decide,rfl,rfl,rfl⟩⟩
 rw [if_neg hx0] at hres
 by_cases hx1:1000<x
 ·rw [if_pos hx1] at hres
  simp only [Prod.mk.injEq] at hres
  obtain ⟨rfl,rfl,rfl⟩:=hres
  have HX0:=hideP (decide_eq_false hx0)
  have HX1:=hideP (decide_eq_true hx1)
  go_wp2_with (first | (go_at_call 73; refine (refuse_no 2 _).mono ?_; rintro e w1 ⟨rfl,rfl⟩) | (go_at_call 73; refine (refuse_f (decide (x<0)) HX0.out 1 _).mono ?_; rintro e w1 ⟨rfl,rfl⟩) | (go_at_call 73; refine (refuse_t (decide (1000<x)) HX1.out 6 _).mono ?_; rintro e w1 ⟨rfl,rfl⟩) | (go_at_call 73; refine (refuse_yes 6 _).mono ?_; rintro e w1 ⟨rfl,rfl⟩))
  exact ⟨rfl,X1.out.2.2,.inr ⟨by decide,rfl,rfl,rfl⟩⟩
 rw [if_neg hx1] at hres
 obtain ⟨n,rfl⟩:=Int.eq_ofNat_of_zero_le (show 0<=x by omega)
 rw [Int.toNat_natCast] at hres
 simp only [Prod.mk.injEq] at hres
 obtain ⟨rfl,rfl,rfl⟩:=hres
 have hn:n<=1000:=by omega
 have HX0:=hideP (decide_eq_false hx0)
 have HX1:=hideP (decide_eq_false hx1)
 go_wp2_with (first | (go_at_call 73; refine (refuse_no 2 _).mono ?_; rintro e w1 ⟨rfl,rfl⟩) | (go_at_call 73; refine (refuse_f (decide ((n:Int)<0)) HX0.out 1 _).mono ?_; rintro e w1 ⟨rfl,rfl⟩) | (go_at_call 73; refine (refuse_f (decide (1000<(n:Int))) HX1.out 6 _).mono ?_; rintro e w1 ⟨rfl,rfl⟩))
 refine (positions_any n w1 hn).mono ?_
 rintro e w2 ⟨rfl,ho2,hb2⟩
 have B2:=hideP (B1.out.trans (hb2.mono hs1))
 have O2:=hideP (own_of_any ho2)
 have hs2:=hb2.size
 clear ho2 hb2 c11 cx
 go_wp2_with fail
 refine (vector_any _ n n w2).mono ?_
 rintro e w3 ⟨g,rfl,ho3,hb3⟩
 have B3:=hideP (B2.out.trans (hb3.mono (by omega)))
 have X3:=hideP (PB.out _ B3.out)
 have OV:=hideP (O2.out.keep hb3)
 have OS:=hideP ho3
 have AP:=hideP (apart_lo2 (da:=Pl.iotaL n) ho3 O2.out.lt)
 have hs3:=hb3.size
 clear ho3 hb3
 have r0:=X3.out.2.1.1
 have r1:=X3.out.2.1.2.1
 have f2:=X3.out.2.1.2.2
 go_wp2_with fail
 refine bodyPost_ret (v:=.agg #[.slice (some ⟨g,0,none⟩) 1 1,.slice (some ⟨w1.heap.size,0,none⟩) n n]) (by simp [results,Tryz.results105,go_sem,r0,r1]) rfl ⟨(X3.out.2.2.setCell (by simp) _).setCell (by simp) _,.inl ⟨rfl,_,_,rfl,?_,?_,AP.out⟩⟩
 ·exact Own.base (Own.store (Own.store OS.out (by omega) _) (by omega) _) (by omega)
 exact Own.base (Own.store (Own.store OV.out (by omega) _) (by omega) _) (by omega)
namespace Pl
def axesS (sh da:List Int):List Int:=if sh.length=0 then [(da.length:Int)] else sh
end Pl
theorem withAxes_any (v0 v1:Value) (sh da:List Int) (w:World) (h0:Rd w.heap.size w v0 sh) (h1:Rd w.heap.size w v1 da) :
  Calls Tryz.prog 141 #[.agg #[v0,v1]] w fun e w'=>∃u0 u1,e=.returned (.agg #[u0,u1])/\Rd w'.heap.size w' u0 (Pl.axesS sh da)/\Rd w'.heap.size w' u1 da/\Below w.heap.size w w':=by
 have H0:=hideP h0
 have H1:=hideP h1
 have KS:Hid (∀w',Calls Tryz.prog 84 #[.agg #[v0,v1]] w' fun e w''=>e=.returned (.bool (decide (sh.length=0)))/\Below w'.heap.size w' w''):=fun w'=>isScalar_any _ _ sh w.heap.size w' w h0
 obtain ⟨a0,d0,e0⟩:=h0.form
 obtain ⟨a1,d1,e1⟩:=h1.form
 subst e0 e1
 have PB:Hid (∀W,Below (w.heap.size+1+1) ((w.alloc (.cells #[.slice a0 sh.length d0,.slice a1 da.length d1] 25)).alloc (.cells #[.slice none 0 0,.slice none 0 0] 25)) W->(W.cell? ⟨w.heap.size,0,none⟩=some (.slice a0 sh.length d0)/\W.cell? ⟨w.heap.size,1,none⟩=some (.slice a1 da.length d1))/\(W.cell? ⟨w.heap.size+1,0,none⟩=some (.slice none 0 0)/\W.cell? ⟨w.heap.size+1,1,none⟩=some (.slice none 0 0)/\∀o,W.frozen? ⟨w.heap.size+1,o,none⟩=false)/\Below w.heap.size w W):=fun W hb=>boxes2 hb
 unfold Pl.axesS
 by_cases hsl:sh.length=0
 ·have KS':Hid (∀w',Calls Tryz.prog 84 #[.agg #[.slice a0 sh.length d0,.slice a1 da.length d1]] w' fun e w''=>e=.returned (.bool true)/\Below w'.heap.size w' w''):=fun w'=>by have:=KS.out w'; rw [decide_eq_true hsl] at this; exact this
  rw [if_pos hsl]
  clear h0 h1 KS hsl
  go_enter Tryz.func141,Tryz.ntmps141
  go_wp2_with fail
  refine (KS'.out _).mono ?_
  rintro e w1 ⟨rfl,hb1⟩
  have B1:=hideP (show Below (w.heap.size+1+1) _ w1 from hb1.mono (by simp))
  have hs1:w.heap.size+1+1<=w1.heap.size:=by have:=hb1.size; simpa using this
  have c11:=(PB.out _ B1.out).1.2
  clear hb1
  go_wp2_with fail
  refine (vector_any a1 d1 da.length w1).mono ?_
  rintro e w2 ⟨g,rfl,ho2,hb2⟩
  have B2:=hideP (B1.out.trans (hb2.mono hs1))
  have X2:=hideP (PB.out _ B2.out)
  have OS:=hideP ho2
  have hs2:=hb2.size
  clear ho2 hb2 c11
  have r0:=X2.out.2.1.1
  have r1:=X2.out.2.1.2.1
  have f2:=X2.out.2.1.2.2
  have BW:Hid (∀x y,Below w.heap.size w ((w2.setCell ⟨w.heap.size+1,0,none⟩ x).setCell ⟨w.heap.size+1,1,none⟩ y)):=fun x y=>(X2.out.2.2.setCell (by simp) _).setCell (by simp) _
  go_wp2_with fail
  refine bodyPost_ret (v:=.agg #[.slice (some ⟨g,0,none⟩) 1 1,.slice a1 da.length d1]) (by simp [results,Tryz.results141,go_sem,r0,r1]) rfl ⟨_,_,rfl,?_,?_,BW.out _ _⟩
  ·exact (Own.store (Own.store OS.out (by omega) _) (by omega) _).rd
  exact (H1.out.keep (BW.out _ _)).up (BW.out _ _).size
 have KS':Hid (∀w',Calls Tryz.prog 84 #[.agg #[.slice a0 sh.length d0,.slice a1 da.length d1]] w' fun e w''=>e=.returned (.bool false)/\Below w'.heap.size w' w''):=fun w'=>by have:=KS.out w'; rw [decide_eq_false hsl] at this; exact this
 rw [if_neg hsl]
 clear h0 h1 KS hsl
 go_enter Tryz.func141,Tryz.ntmps141
 go_wp2_with fail
 refine (KS'.out _).mono ?_
 rintro e w1 ⟨rfl,hb1⟩
 have X1:=hideP (PB.out _ (show Below (w.heap.size+1+1) _ w1 from hb1.mono (by simp)))
 have hs1:w.heap.size+1+1<=w1.heap.size:=by have:=hb1.size; simpa using this
 clear hb1
 have c10:=X1.out.1.1
 have c11:=X1.out.1.2
 have r0:=X1.out.2.1.1
 have r1:=X1.out.2.1.2.1
 have f2:=X1.out.2.1.2.2
 have BW:Hid (∀x y,Below w.heap.size w ((w1.setCell ⟨w.heap.size+1,0,none⟩ x).setCell ⟨w.heap.size+1,1,none⟩ y)):=fun x y=>(X1.out.2.2.setCell (by simp) _).setCell (by simp) _
 go_wp2_with fail
 refine bodyPost_ret (v:=.agg #[.slice a0 sh.length d0,.slice a1 da.length d1]) (by simp [results,Tryz.results141,go_sem,r0,r1]) rfl ⟨_,_,rfl,?_,?_,BW.out _ _⟩
 ·exact (H0.out.keep (BW.out _ _)).up (BW.out _ _).size
 exact (H1.out.keep (BW.out _ _)).up (BW.out _ _).size
theorem scalar_any (x:Int) (w:World):Calls Tryz.prog 140 #[.int .i64 x] w fun e w'=>∃g,e=.returned (.agg #[.slice none 0 0,.slice (some ⟨g,0,none⟩) 1 1])/\Own w.heap.size w' (.slice (some ⟨g,0,none⟩) 1 1) [x]/\Below w.heap.size w w':=by
 have B:Hid (∀o o',Below w.heap.size w ((w.alloc o).alloc o')):=fun o o'=>((Below.refl _ _).alloc (Nat.le_refl _) _).alloc (by simp) _
 have O:Hid (∀o,Own (w.heap.size+1) ((w.alloc o).alloc (.cells #[.int .i64 x] 3)) (.slice (some ⟨w.heap.size+1,0,none⟩) 1 1) [x]):=fun o=>by
  have:=own_lit (w.alloc o) ((w.alloc o).alloc (.cells #[.int .i64 x] 3)) x (Below.refl _ _)
  have e:(w.alloc o).heap.size=w.heap.size+1:=by simp
  rw [e] at this
  exact this
 go_enter Tryz.func140,Tryz.ntmps140
 go_wp2_with fail
 refine bodyPost_ret (v:=.agg #[.slice none 0 0,.slice (some ⟨w.heap.size+1,0,none⟩) 1 1]) (by simp [results,Tryz.results140,go_sem]) rfl ⟨w.heap.size+1,rfl,?_,?_⟩
 ·exact (O.out _).base (by omega)
 exact B.out _ _
theorem field0 (a0 a1:Option Addr) (n0 c0 n1 c1:Nat) (w:World):(Instr.field 25 (.agg #[.slice a0 n0 c0,.slice a1 n1 c1]) 0).run Tryz.prog w=.ok (.slice a0 n0 c0) w:=by kernel_rfl
theorem count_any (v0 v1:Value) (sh da:List Int) (w:World) (h0:Rd w.heap.size w v0 sh) (h1:Rd w.heap.size w v1 da) :
  Calls Tryz.prog 111 #[.agg #[v0,v1]] w (KPost w 0 [] [(Pl.axesS sh da).getD 0 0]):=by
 have B:Hid (∀o o',Below w.heap.size w ((w.alloc o).alloc o')):=fun o o'=>((Below.refl _ _).alloc (Nat.le_refl _) _).alloc (by simp) _
 have KW:Hid (∀o o',Calls Tryz.prog 141 #[.agg #[v0,v1]] ((w.alloc o).alloc o') fun e w'=>∃u0 u1,e=.returned (.agg #[u0,u1])/\Rd w'.heap.size w' u0 (Pl.axesS sh da)/\Rd w'.heap.size w' u1 da/\Below (w.heap.size+1+1) ((w.alloc o).alloc o') w'):=fun o o'=>by
  refine (withAxes_any v0 v1 sh da ((w.alloc o).alloc o') ((h0.keep (B.out _ _)).up (by simp; omega)) ((h1.keep (B.out _ _)).up (by simp; omega))).mono ?_
  rintro e w' ⟨u0,u1,rfl,r0,r1,hb⟩
  exact ⟨u0,u1,rfl,r0,r1,by simpa using hb⟩
 have hax:1<=(Pl.axesS sh da).length:=by
  unfold Pl.axesS
  split
  ·simp
  omega
 obtain ⟨a0,d0,e0⟩:=h0.form
 obtain ⟨a1,d1,e1⟩:=h1.form
 subst e0 e1
 have PB:Hid (∀W,Below (w.heap.size+1+1) ((w.alloc (.cells #[.slice a0 sh.length d0,.slice a1 da.length d1] 25)).alloc (.cells #[.slice none 0 0,.slice none 0 0] 25)) W->(W.cell? ⟨w.heap.size,0,none⟩=some (.slice a0 sh.length d0)/\W.cell? ⟨w.heap.size,1,none⟩=some (.slice a1 da.length d1))/\(W.cell? ⟨w.heap.size+1,0,none⟩=some (.slice none 0 0)/\W.cell? ⟨w.heap.size+1,1,none⟩=some (.slice none 0 0)/\∀o,W.frozen? ⟨w.heap.size+1,o,none⟩=false)/\Below w.heap.size w W):=fun W hb=>boxes2 hb
 clear h0 h1
 generalize Pl.axesS sh da=ax at *
 go_enter Tryz.func111,Tryz.ntmps111
 go_wp2_with fail
 refine (KW.out _ _).mono ?_
 rintro e w1 ⟨u0,u1,rfl,r0,r1,hb1⟩
 have B1:=hideP hb1
 have hs1:w.heap.size+1+1<=w1.heap.size:=by have:=hb1.size; simpa using this
 obtain ⟨x0,y0,gb,go,eu0,hao,hbl,hcl⟩:=r0.parts
 obtain ⟨x1,y1,eu1⟩:=r1.form
 subst eu0 eu1
 have ha:=hao (by omega)
 have hce:=hcl 0 (by omega)
 rw [Nat.add_zero] at hce
 subst ha
 clear hb1 r0 r1 hao hbl hcl
 generalize ax.getD 0 0=x at *
 have hfd:=field0 (some ⟨gb,go,none⟩) x1 ax.length y0 da.length y1 w1
 go_wp2_with fail
 refine (scalar_any x w1).mono ?_
 rintro e w2 ⟨g,rfl,ho2,hb2⟩
 have X2:=hideP (PB.out _ (B1.out.trans (hb2.mono hs1)))
 have OS:=hideP ho2
 have hs2:=hb2.size
 clear ho2 hb2 hce
 have r0:=X2.out.2.1.1
 have r1:=X2.out.2.1.2.1
 have f2:=X2.out.2.1.2.2
 go_wp2_with fail
 refine bodyPost_ret (v:=.agg #[.slice none 0 0,.slice (some ⟨g,0,none⟩) 1 1]) (by simp [results,Tryz.results111,go_sem,r0,r1]) rfl ⟨(X2.out.2.2.setCell (by simp) _).setCell (by simp) _,.inl ⟨rfl,_,_,rfl,Own.nil _ _,?_,.inl rfl⟩⟩
 exact Own.base (Own.store (Own.store OS.out (by omega) _) (by omega) _) (by omega)
theorem l2Vector_any (u:Value) (xs:List Int) (w:World) (hl:xs.length<=1048576) (h0:Rd w.heap.size w u xs) :
  Calls Tryz.prog 45 #[u] w fun e w'=>∃g0 g1 cap,e=.returned (.agg #[.slice (some ⟨g0,0,none⟩) 1 1,.slice (some ⟨g1,0,none⟩) xs.length cap])/\xs.length<=cap/\cap<=9223372036854775807/\Res w.heap.size w' (.slice (some ⟨g0,0,none⟩) 1 1) (.slice (some ⟨g1,0,none⟩) xs.length cap) [(xs.length:Int)] xs/\Below w.heap.size w w':=by
 have H:=hideP h0
 obtain ⟨a0,d0,e0⟩:=h0.form
 subst e0
 clear h0
 have A:Hid (∀o,Below w.heap.size w ((w.alloc o).alloc (.cells #[.int .i64 (xs.length:Int)] 3))):=fun o=>((Below.refl _ _).alloc (Nat.le_refl _) _).alloc (by simp) _
 have KC:Hid (∀o,Calls Tryz.prog 27 #[.slice a0 xs.length d0] ((w.alloc o).alloc (.cells #[.int .i64 (xs.length:Int)] 3)) fun e w'=>∃g cap,e=.returned (.slice (some ⟨g,0,none⟩) xs.length cap)/\xs.length<=cap/\cap<=9223372036854775807/\Own (w.heap.size+1+1) w' (.slice (some ⟨g,0,none⟩) xs.length cap) xs/\Below (w.heap.size+1+1) ((w.alloc o).alloc (.cells #[.int .i64 (xs.length:Int)] 3)) w'):=fun o=>by
  refine (l2Copy_at _ xs _ hl ((H.out.keep (A.out o)).up (by simp; omega))).mono ?_
  rintro e w' ⟨g,cap,rfl,q0,q1,ho,hb⟩
  exact ⟨g,cap,rfl,q0,q1,by simpa using own_of_any ho,by simpa using hb⟩
 have OL:Hid (∀o,Own (w.heap.size+1) ((w.alloc o).alloc (.cells #[.int .i64 (xs.length:Int)] 3)) (.slice (some ⟨w.heap.size+1,0,none⟩) 1 1) [(xs.length:Int)]):=fun o=>by
  have:=own_of_any (owns_one (w.alloc o) (xs.length:Int) (w.heap.size+1) (by simp))
  have e:(w.alloc o).heap.size=w.heap.size+1:=by simp
  rw [e] at this
  exact this
 go_enter Tryz.func45,Tryz.ntmps45
 go_wp2_with fail
 refine (KC.out _).mono ?_
 rintro e w1 ⟨g,cap,rfl,q0,q1,ho1,hb1⟩
 have hs1:w.heap.size+1+1<=w1.heap.size:=by have:=hb1.size; simpa using this
 have B1:=hideP hb1
 have O1:=hideP ho1
 have L1:=hideP ((OL.out (.cells #[.slice none 0 0,.slice none 0 0] 25)).keep (by simpa using hb1))
 have BW:=hideP ((A.out (.cells #[.slice none 0 0,.slice none 0 0] 25)).trans (hb1.mono (by omega)))
 have c:∀o,w1.cell? ⟨w.heap.size,o,none⟩=((w.alloc (.cells #[.slice none 0 0,.slice none 0 0] 25)).alloc (.cells #[.int .i64 (xs.length:Int)] 3)).cell? ⟨w.heap.size,o,none⟩:=fun o=>hb1.cell (p:=⟨w.heap.size,o,none⟩) (by show w.heap.size<_; omega)
 have r0:w1.cell? ⟨w.heap.size,0,none⟩=some (.slice none 0 0):=by rw [c]; simp [go_sem]
 have r1:w1.cell? ⟨w.heap.size,1,none⟩=some (.slice none 0 0):=by rw [c]; simp [go_sem]
 have f2:∀o,w1.frozen? ⟨w.heap.size,o,none⟩=false:=fun o=>(hb1.frozen (p:=⟨w.heap.size,o,none⟩) (by show w.heap.size<_; omega)).trans (by simp [go_sem])
 have AP:=hideP (apart_right (B:=w.heap.size+1+1) (u0:=.slice (some ⟨w.heap.size+1,0,none⟩) 1 1) (sh:=[(xs.length:Int)]) ho1 (.inr fun b e=>by simp [Value.ownBlock] at e; omega))
 clear hb1 ho1 c
 go_wp2_with fail
 refine bodyPost_ret (v:=.agg #[.slice (some ⟨w.heap.size+1,0,none⟩) 1 1,.slice (some ⟨g,0,none⟩) xs.length cap]) (by simp [results,Tryz.results45,go_sem,r0,r1]) rfl ⟨_,_,_,rfl,q0,q1,⟨?_,?_,AP.out⟩,(BW.out.setCell (by simp) _).setCell (by simp) _⟩
 ·exact Own.base (Own.store (Own.store L1.out (by omega) _) (by omega) _) (by omega)
 exact Own.base (Own.store (Own.store O1.out (by omega) _) (by omega) _) (by omega)
theorem l2Count_any (v0 v1:Value) (sh:List Int) (B:Nat) (w:World) (h0:Rd B w v0 sh) (hB:B<=w.heap.size) (hv1:∃a n c,v1=.slice a n c) :
  Calls Tryz.prog 48 #[.agg #[v0,v1]] w fun e w'=>e=.returned (.int .i64 (if sh.length=0 then 1 else sh.getD 0 0))/\Below w.heap.size w w':=by
 obtain ⟨a0,d0,b0,o0,e0,hao,hbl,hcl⟩:=h0.parts
 obtain ⟨a1,n1,c1,rfl⟩:=hv1
 subst e0
 have A:Hid (∀o,Below w.heap.size w (w.alloc o)):=fun o=>(Below.refl _ _).alloc (Nat.le_refl _) _
 by_cases hsl:sh.length=0
 ·have test:((sh.length:Int) == 0)=true:=by simp [hsl]
  rw [if_pos hsl]
  clear h0 hao hbl hcl hsl
  generalize sh.length=L at *
  go_enter Tryz.func48,Tryz.ntmps48
  go_wp2_with fail
  go_ret
  exact ⟨rfl,A.out _⟩
 have test:((sh.length:Int) == 0)=false:=by rw [beq_eq_false_iff_ne]; omega
 rw [if_neg hsl]
 have ha:=hao (by omega)
 have hce0:=hcl 0 (by omega)
 rw [Nat.add_zero] at hce0
 have hb:=hbl (by omega)
 subst ha
 have hce:∀o,(w.alloc o).cell? ⟨b0,o0,none⟩=some (.int .i64 (sh.getD 0 0)):=fun o=>((A.out o).cell (p:=⟨b0,o0,none⟩) (by show b0<_; omega)).trans hce0
 have hl1:1<=sh.length:=by omega
 clear h0 hao hbl hcl hsl hce0
 generalize sh.getD 0 0=x at *
 generalize sh.length=L at *
 go_enter Tryz.func48,Tryz.ntmps48
 go_wp2_with fail
 go_ret
 exact ⟨rfl,A.out _⟩
theorem withAxes_gen (a2:Option Addr) (k2:Nat) (a3:Option Addr) (k3:Nat) (sh da:List Int) (w:World) (h0:Rd w.heap.size w (.slice a2 sh.length k2) sh) (h1:Rd w.heap.size w (.slice a3 da.length k3) da) (hk2:sh.length<=k2) (hk2':k2<=9223372036854775807) :
  Calls Tryz.prog 141 #[.agg #[.slice a2 sh.length k2,.slice a3 da.length k3]] w fun e w'=>∃g og cg,e=.returned (.agg #[.slice (some ⟨g,og,none⟩) (Pl.axesS sh da).length cg,.slice a3 da.length k3])/\Rd w'.heap.size w' (.slice (some ⟨g,og,none⟩) (Pl.axesS sh da).length cg) (Pl.axesS sh da)/\Below w.heap.size w w'/\((Pl.axesS sh da).length<=cg/\cg<=9223372036854775807)/\((a2=some ⟨g,og,none⟩/\¬sh.length=0)\/w.heap.size<=g)/\(sh.length=0->og=0)/\(¬sh.length=0->a2=some ⟨g,og,none⟩):=by
 have H0:=hideP h0
 have H1:=hideP h1
 have KS:Hid (∀w',Calls Tryz.prog 84 #[.agg #[.slice a2 sh.length k2,.slice a3 da.length k3]] w' fun e w''=>e=.returned (.bool (decide (sh.length=0)))/\Below w'.heap.size w' w''):=fun w'=>isScalar_any _ _ sh w.heap.size w' w h0
 have PB:Hid (∀W,Below (w.heap.size+1+1) ((w.alloc (.cells #[.slice a2 sh.length k2,.slice a3 da.length k3] 25)).alloc (.cells #[.slice none 0 0,.slice none 0 0] 25)) W->(W.cell? ⟨w.heap.size,0,none⟩=some (.slice a2 sh.length k2)/\W.cell? ⟨w.heap.size,1,none⟩=some (.slice a3 da.length k3))/\(W.cell? ⟨w.heap.size+1,0,none⟩=some (.slice none 0 0)/\W.cell? ⟨w.heap.size+1,1,none⟩=some (.slice none 0 0)/\∀o,W.frozen? ⟨w.heap.size+1,o,none⟩=false)/\Below w.heap.size w W):=fun W hb=>boxes2 hb
 unfold Pl.axesS
 by_cases hsl:sh.length=0
 rotate_left 1
 ·have KS':Hid (∀w',Calls Tryz.prog 84 #[.agg #[.slice a2 sh.length k2,.slice a3 da.length k3]] w' fun e w''=>e=.returned (.bool false)/\Below w'.heap.size w' w''):=fun w'=>by have:=KS.out w'; rw [decide_eq_false hsl] at this; exact this
  rw [if_neg hsl]
  have HSL:=hideP hsl
  obtain ⟨b2,o2,rfl⟩:=rd_some h0 (by omega)
  clear h0 h1 KS hsl
  go_enter Tryz.func141,Tryz.ntmps141
  go_wp2_with fail
  refine (KS'.out _).mono ?_
  rintro e w1 ⟨rfl,hb1⟩
  have X1:=hideP (PB.out _ (show Below (w.heap.size+1+1) _ w1 from hb1.mono (by simp)))
  have hs1:w.heap.size+1+1<=w1.heap.size:=by have:=hb1.size; simpa using this
  clear hb1
  have c10:=X1.out.1.1
  have c11:=X1.out.1.2
  have r0:=X1.out.2.1.1
  have r1:=X1.out.2.1.2.1
  have f2:=X1.out.2.1.2.2
  have BW:Hid (∀x y,Below w.heap.size w ((w1.setCell ⟨w.heap.size+1,0,none⟩ x).setCell ⟨w.heap.size+1,1,none⟩ y)):=fun x y=>(X1.out.2.2.setCell (by simp) _).setCell (by simp) _
  go_wp2_with fail
  refine bodyPost_ret (v:=.agg #[.slice (some ⟨b2,o2,none⟩) sh.length k2,.slice a3 da.length k3]) (by simp [results,Tryz.results141,go_sem,r0,r1]) rfl ⟨_,_,_,rfl,?_,BW.out _ _,⟨hk2,hk2'⟩,.inl ⟨rfl,HSL.out⟩,fun h=>absurd h HSL.out,fun _=>rfl⟩
  exact (H0.out.keep (BW.out _ _)).up (BW.out _ _).size
 have KS':Hid (∀w',Calls Tryz.prog 84 #[.agg #[.slice a2 sh.length k2,.slice a3 da.length k3]] w' fun e w''=>e=.returned (.bool true)/\Below w'.heap.size w' w''):=fun w'=>by have:=KS.out w'; rw [decide_eq_true hsl] at this; exact this
 rw [if_pos hsl]
 have HZ0:=hideP hsl
 clear h0 h1 KS hsl
 go_enter Tryz.func141,Tryz.ntmps141
 go_wp2_with fail
 refine (KS'.out _).mono ?_
 rintro e w1 ⟨rfl,hb1⟩
 have B1:=hideP (show Below (w.heap.size+1+1) _ w1 from hb1.mono (by simp))
 have hs1:w.heap.size+1+1<=w1.heap.size:=by have:=hb1.size; simpa using this
 have c11:=(PB.out _ B1.out).1.2
 clear hb1
 go_wp2_with fail
 refine (vector_any a3 k3 da.length w1).mono ?_
 rintro e w2 ⟨g,rfl,ho2,hb2⟩
 have B2:=hideP (B1.out.trans (hb2.mono hs1))
 have X2:=hideP (PB.out _ B2.out)
 have OS:=hideP ho2
 have hs2:=hb2.size
 clear ho2 hb2 c11
 have r0:=X2.out.2.1.1
 have r1:=X2.out.2.1.2.1
 have f2:=X2.out.2.1.2.2
 have BW:Hid (∀x y,Below w.heap.size w ((w2.setCell ⟨w.heap.size+1,0,none⟩ x).setCell ⟨w.heap.size+1,1,none⟩ y)):=fun x y=>(X2.out.2.2.setCell (by simp) _).setCell (by simp) _
 go_wp2_with fail
 refine bodyPost_ret (v:=.agg #[.slice (some ⟨g,0,none⟩) 1 1,.slice a3 da.length k3]) (by simp [results,Tryz.results141,go_sem,r0,r1]) rfl ⟨_,_,_,rfl,?_,BW.out _ _,⟨Nat.le_refl _,by simp⟩,.inr ?_,fun _=>rfl,fun h=>absurd HZ0.out h⟩
 ·exact (Own.store (Own.store OS.out (by omega) _) (by omega) _).rd
 obtain ⟨ao,cap,e,h⟩:=OS.out
 rcases h with h | ⟨g',off,hB,_,e',_⟩
 ·simp at h
 simp only [Value.slice.injEq] at e
 have e2:=e.1.trans e'
 simp only [Option.some.injEq,Addr.mk.injEq] at e2
 omega
namespace Pl
def findN:List Int->Int->Nat
 |[],_=>0
 |x::xs,v=>if x=v then 0 else findN xs v+1
theorem findN_at (xs:List Int) (v:Int) (j:Nat) (h:j<xs.length) (hb:∀i,i<j->¬xs.getD i 0=v) (he:xs.getD j 0=v):findN xs v=j:=by
 induction xs generalizing j with
 |nil=>simp at h
 |cons x xs ih =>
  cases j with
  |zero=>unfold findN; rw [if_pos (show x=v from he)]
  |succ j =>
   have h0:¬x=v:=hb 0 (by omega)
   unfold findN
   rw [if_neg h0,ih j (by simpa using h) (fun i hi=>hb (i+1) (by omega)) he]
theorem findN_none (xs:List Int) (v:Int) (hb:∀i,i<xs.length->¬xs.getD i 0=v):findN xs v=xs.length:=by
 induction xs with
 |nil=>rfl
 |cons x xs ih =>
  have h0:¬x=v:=hb 0 (by simp)
  unfold findN
  rw [if_neg h0,ih (fun i hi=>hb (i+1) (by simpa using hi)),List.length_cons]
end Pl
theorem l2Find_any (B:Nat) (u:Value) (xs:List Int) (v:Int) (w:World) (hl:xs.length<=1048576) (h:Rd B w u xs) :
  Calls Tryz.prog 59 #[u,.int .i64 v] w fun e w'=>e=.returned (.int .i64 ((Pl.findN xs v:Nat):Int))/\w'=w:=by
 obtain ⟨a0,d0,b0,o0,e0,hao,hbl,hcl⟩:=h.parts
 subst e0
 have P0:=hideP (And.intro hao hcl)
 clear h hao hbl hcl
 generalize hn:xs.length=n at *
 have Hn:=hideP hn
 clear hn
 go_enter Tryz.func59,Tryz.ntmps59
 go_wp2_with fail
 go_loop [5] (fun i=>∃j:Nat,j<=n/\i=.int .i64 j/\Hid (∀i,i<j->¬xs.getD i 0=v)) (fun i=>n-(intOf i).toNat)
 case atStart=>exact ⟨0,Nat.zero_le _,rfl,fun i hi=>absurd hi (Nat.not_lt_zero i)⟩
 obtain ⟨j,hj,rfl,hb⟩:=hrel
 by_cases hlt:j<n
 rotate_left 1
 ·have jn:j=n:=by omega
  subst jn
  have HF:=hideP (Pl.findN_none xs v (by rw [Hn.out]; exact hb.out))
  rw [Hn.out] at HF
  go_wp2_with fail
  go_ret
  rw [HF.out]
  exact ⟨rfl,rfl⟩
 have hlt':(j:Int)<(n:Int):=by omega
 have ha:=P0.out.1 (by omega)
 have hce:=P0.out.2 j (by omega)
 subst ha
 by_cases he:xs.getD j 0=v
 ·have HF:=hideP (Pl.findN_at xs v j (by rw [Hn.out]; exact hlt) hb.out he)
  rw [he] at hce
  have test:(v == v)=true:=by simp
  clear he P0
  go_wp2_with fail
  go_ret
  rw [HF.out]
  exact ⟨rfl,rfl⟩
 have test:(xs.getD j 0 == v)=false:=by rw [beq_eq_false_iff_ne]; exact he
 have hb':Hid (∀i,i<j+1->¬xs.getD i 0=v):=fun i hi=>by
  by_cases hij:i=j
  ·subst hij; exact he
  exact hb.out i (by omega)
 clear he P0
 generalize xs.getD j 0=y at hce test
 go_wp2_with fail
 go_round
 case rel=>exact ⟨j+1,by omega,by go_num,hb'⟩
 simp [intOf]; omega
namespace Pl
def findM (sa da sb db:List Int):Int × List Int × List Int:=if sa.length=1 then (0,sb,db.map (fun v=>((findN da v:Nat):Int))) else (2,[],[])
def upI (Q:Nat->Int) (N a:Nat):List Int:=(List.range a).map Q++List.replicate (N-a) 0
theorem upI_zero (Q:Nat->Int) (N:Nat):upI Q N 0=List.replicate N 0:=by simp [upI]
theorem upI_all (Q:Nat->Int) (N:Nat):upI Q N N=(List.range N).map Q:=by simp [upI]
theorem upI_len (Q:Nat->Int) {N a:Nat} (h:a<=N):(upI Q N a).length=N:=by simp [upI]; omega
theorem upI_step (Q:Nat->Int) {N a:Nat} (h:a<N):(upI Q N a).set a (Q a)=upI Q N (a+1):=by
 unfold upI
 rw [List.set_append_right _ _ (by simp),List.range_succ,List.map_append]
 have e:N-a=(N-(a+1))+1:=by omega
 rw [e,List.replicate_succ]
 simp
theorem range_map (db:List Int) (f:Int->Int):(List.range db.length).map (fun j=>f (db.getD j 0))=db.map f:=by
 apply List.ext_getElem
 ·simp
 intro i h1 h2
 simp at h1 h2
 simp [List.getD,h1]
end Pl
theorem find_any (a0:Option Addr) (k0 b1 k1 b2 k2 b3 k3:Nat) (sa da sb db:List Int) (w:World)
  (h0:Rd w.heap.size w (.slice a0 sa.length k0) sa) (h1:Rd w.heap.size w (.slice (some ⟨b1,0,none⟩) da.length k1) da) (h2:Rd w.heap.size w (.slice (some ⟨b2,0,none⟩) sb.length k2) sb) (h3:Rd w.heap.size w (.slice (some ⟨b3,0,none⟩) db.length k3) db)
  (oka:Pl.okB sa da=true) (okb:Pl.okB sb db=true) (c:Int) (S D:List Int) (hres:Pl.findM sa da sb db=(c,S,D)) :
  Calls Tryz.prog 120 #[.agg #[.slice a0 sa.length k0,.slice (some ⟨b1,0,none⟩) da.length k1],.agg #[.slice (some ⟨b2,0,none⟩) sb.length k2,.slice (some ⟨b3,0,none⟩) db.length k3]] w (KPost w c S D):=by
 obtain ⟨i0,hi,hz0,hz1,hz2⟩:=info_parts Tryz.info3
 have HI:=hideP (And.intro hi (And.intro hz0 (And.intro hz1 hz2)))
 clear hi hz0 hz1 hz2
 obtain ⟨hm0,hm1⟩:=Pl.ok_max oka
 obtain ⟨hm2,hm3⟩:=Pl.ok_max okb
 have B:Hid (∀o o' o'',Below w.heap.size w (((w.alloc o).alloc o').alloc o'')):=fun o o' o''=>below3 w o o' o''
 have W0:=hideP (wid_new w h0 h1 h2 h3 25 25 25)
 have H1:=hideP h1
 have H2:=hideP h2
 have H3:=hideP h3
 have e:=hres
 unfold Pl.findM at e
 by_cases hsa:sa.length=1
 rotate_left 1
 ·rw [if_neg hsa] at e
  simp only [Prod.mk.injEq] at e
  obtain ⟨rfl,rfl,rfl⟩:=e
  have hne:((sa.length:Int) != 1)=true:=by rw [bne_iff_ne]; omega
  clear h0 h1 h2 h3 oka okb hres hsa
  generalize sa.length=lsa at *
  go_enter Tryz.func120,Tryz.ntmps120
  go_wp2_with fail
  go_step3
  go_wp2_with (go_at_call 73; refine (refuse_yes _ _).mono ?_; rintro e w' ⟨rfl,rfl⟩)
  exact ⟨rfl,B.out _ _ _,.inr ⟨by decide,rfl,rfl,rfl⟩⟩
 rw [if_pos hsa] at e
 simp only [Prod.mk.injEq] at e
 obtain ⟨rfl,rfl,hD⟩:=e
 have hne:((sa.length:Int) != 1)=false:=by rw [hsa]; rfl
 have RM:Hid ((List.range db.length).map (fun j=>((Pl.findN da (db.getD j 0):Nat):Int))=D):=by
  show _=_
  rw [<- hD]
  exact Pl.range_map db (fun v=>((Pl.findN da v:Nat):Int))
 have hDl:D.length=db.length:=by rw [<- hD]; simp
 clear h0 h1 h2 h3 oka okb hres hsa hD
 generalize sa.length=lsa at *
 generalize hm:db.length=m at *
 have Hm:Hid (db.length=m):=hm
 generalize hla:da.length=la at *
 have Hla:Hid (da.length=la):=hla
 clear hm hla
 go_enter Tryz.func120,Tryz.ntmps120
 go_wp2_with fail
 go_step3
 go_wp2_with (first
  |(go_at_call 73; refine (refuse_no _ _).mono ?_; rintro e w' ⟨rfl,rfl⟩)
  |(at_make; refine wpList_make_full _ rfl _ _ 23 rfl (w.heap.size+1+1+1) 3 i0 (.int .i64 0) 1 Tryz.underlying23 HI.out.1 HI.out.2.1 HI.out.2.2.1 _ _ _ _ m rfl rfl rfl rfl ?b2 ?b3 ?b4 ?_))
 case b2=>rw [HI.out.2.2.2]; omega
 case b3=>unfold maxLen; omega
 case b4=>simp
 intro w4 hown hgrow
 rw [made_zeros] at hown
 have W4:=hideP (W0.out.keep ((Below.refl _ _).grown hgrow (Nat.le_refl _) (by intro k h; cases h)))
 have hown':w4.ownsRow (w.heap.size+1+1+1) 3 1 (.slice (some ⟨w.heap.size+1+1+1,0,none⟩) m m) m ((List.replicate m (0:Int)).map (Value.int .i64)):=by simpa using hown
 have HO4:=hideP hown'
 have CE:Hid (∀W,Below (w.heap.size+1+1+1) w4 W->(W.cell? ⟨w.heap.size,1,none⟩=some (.slice (some ⟨b1,0,none⟩) la k1)/\W.cell? ⟨w.heap.size+1,0,none⟩=some (.slice (some ⟨b2,0,none⟩) sb.length k2)/\W.cell? ⟨w.heap.size+1,1,none⟩=some (.slice (some ⟨b3,0,none⟩) m k3))/\(W.cell? ⟨w.heap.size+1+1,0,none⟩=some (.slice none 0 0)/\W.cell? ⟨w.heap.size+1+1,1,none⟩=some (.slice none 0 0)/\∀o,W.frozen? ⟨w.heap.size+1+1,o,none⟩=false)/\Below w.heap.size w W):=fun W hb=>by
  obtain ⟨k1,k2,⟨_,c1,c2,c3⟩,⟨r0,r1,f⟩,_⟩:=W4.out
  exact ⟨⟨(hb.cell (p:=⟨w.heap.size,1,none⟩) (by show w.heap.size<_; omega)).trans c1,(hb.cell (p:=⟨w.heap.size+1,0,none⟩) (by show w.heap.size+1<_; omega)).trans c2,(hb.cell (p:=⟨w.heap.size+1,1,none⟩) (by show w.heap.size+1<_; omega)).trans c3⟩,
   ⟨(hb.cell (p:=⟨w.heap.size+1+1,0,none⟩) (by show w.heap.size+1+1<_; omega)).trans r0,(hb.cell (p:=⟨w.heap.size+1+1,1,none⟩) (by show w.heap.size+1+1<_; omega)).trans r1,fun o=>(hb.frozen (p:=⟨w.heap.size+1+1,o,none⟩) (by show w.heap.size+1+1<_; omega)).trans (f o)⟩,k1.trans (hb.mono (by omega))⟩
 have cd:=(CE.out w4 (Below.refl _ _)).1.2.2
 clear hown hown' hgrow W0
 go_wp2_with fail
 go_step3
 go_wp2_with fail
 clear cd
 go_loopg [6,7,8,9,22] m (fun g _ _ _ _ s22 wr=>∃k:Nat,k+g=m/\s22=.int .i64 k/\Hid (wr.ownsRow (w.heap.size+1+1+1) 3 1 (.slice (some ⟨w.heap.size+1+1+1,0,none⟩) m m) m ((Pl.upI (fun j=>((Pl.findN da (db.getD j 0):Nat):Int)) m k).map (Value.int .i64)))/\Hid (Below (w.heap.size+1+1+1) w4 wr))
 case atStart =>
  refine ⟨0,by omega,rfl,?_,Below.refl _ _⟩
  show World.ownsRow _ _ _ _ _ _ _
  rw [Pl.upI_zero]
  exact HO4.out
 clear HO4
 obtain ⟨k,hkg,rfl,ho,hbel⟩:=hrel
 have ZR:=hideP (CE.out wr hbel.out)
 cases gk with
 |zero =>
  have kz:¬((k:Int)<(m:Int)):=by omega
  have km:k=m:=by omega
  subst km
  rw [Pl.upI_all,RM.out] at ho
  have cs:=ZR.out.1.2.1
  have RS:=hideP ((H2.out.keep ZR.out.2.2).up ZR.out.2.2.size)
  have hs0:w.heap.size+1+1+1<=wr.heap.size:=by have:=hbel.out.size; have:=W4.out.2.1; omega
  have A1:Hid (∀o,Below wr.heap.size wr (wr.alloc o)):=fun o=>(Below.refl _ _).alloc (Nat.le_refl _) _
  go_wp2_with fail
  refine (joined1_own wr.heap.size _ sb _ (by omega) (by simp) (by simp [go_sem]) ((RS.out.keep (A1.out _)).up (by simp))).mono ?_
  rintro e w5 ⟨ao,cap,rfl,ho5,hb5⟩
  have B5:Hid (Below wr.heap.size wr w5):=(A1.out _).trans (hb5.mono (by simp))
  have hs5:=B5.out.size
  have Z5:=hideP (CE.out w5 (hbel.out.trans (B5.out.mono hs0)))
  have r0:=Z5.out.2.1.1
  have r1:=Z5.out.2.1.2.1
  have f2:=Z5.out.2.1.2.2
  have O5:=hideP (ho5.base (show wr.heap.size<=_ by simp))
  have OD:Hid (Own (w.heap.size+1+1+1) w5 (.slice (some ⟨w.heap.size+1+1+1,0,none⟩) k k) D):=by
   have h:=owns_keep ho.out B5.out
   rw [show k=D.length by rw [hDl]] at h ⊢
   exact own_of_any h
  clear hb5 ho5 cs
  go_wp2_with fail
  try rw [Exit.noGoto_ret]
  refine bodyPost_ret (v:=.agg #[.slice ao sb.length cap,.slice (some ⟨w.heap.size+1+1+1,0,none⟩) k k]) (by simp [results,Tryz.results120,go_sem,r0,r1]) rfl ⟨(Z5.out.2.2.setCell (by simp; omega) _).setCell (by simp; omega) _,.inl ⟨rfl,_,_,rfl,?_,?_,?_⟩⟩
  ·exact Own.base (Own.store (Own.store O5.out (by omega) _) (by omega) _) (by omega)
  ·exact Own.base (Own.store (Own.store OD.out (by omega) _) (by omega) _) (by omega)
  exact apart_left O5.out (fun b h=>(ho.out.lt b h).2)
 |succ g =>
  have hlt':(k:Int)<(m:Int):=by omega
  have hck:wr.cell? ⟨b3,k,none⟩=some (.int .i64 (db.getD k 0)):=by
   have:=rd_cell (zs:=db) (by rw [Hm.out]; exact H3.out) (i:=k) (by rw [Hm.out]; omega)
   rw [Nat.zero_add] at this
   exact (ZR.out.2.2.cell (p:=⟨b3,k,none⟩) this.1).trans this.2
  have ce1:=ZR.out.1.1
  obtain ⟨x,hx⟩:∃x,db.getD k 0=x:=⟨_,rfl⟩
  have HX:=hideP hx
  rw [hx] at hck
  clear hx
  go_wp2_with fail
  rename World=>wk
  clear ce1 hck
  go_loopg [8,9,30] la (fun gi _ _ s30 wq=>∃p:Nat,p+gi=la/\s30=.int .i64 p/\wq=wk/\Hid (∀j,j<p->¬da.getD j 0=x))
  case atStart=>exact ⟨0,by omega,rfl,rfl,fun j hj=>absurd hj (Nat.not_lt_zero j)⟩
  obtain ⟨p,hpg,rfl,rfl,hnone⟩:=hrel
  rename World=>wk
  cases gk with
  |zero =>
   have pl:p=la:=by omega
   have pz:¬((p:Int)<(la:Int)):=by omega
   have FN:Hid (Pl.findN da (db.getD k 0)=la):=by
    show _=_
    rw [HX.out,Pl.findN_none da x (by rw [Hla.out,<- pl]; exact hnone.out),Hla.out]
   have ce1:=ZR.out.1.1
   have hfz:=ho.out.frozenAt k
   have hst:=ho.out.stored k (.int .i64 (la:Int))
   obtain ⟨u,hcg⟩:∃u,wk.cell? ⟨w.heap.size+1+1+1,k,none⟩=some (.int .i64 u):=by
    rw [ho.out.cellAt k (by omega)]
    have hlen:k<(Pl.upI (fun j=>((Pl.findN da (db.getD j 0):Nat):Int)) m k).length:=by rw [Pl.upI_len _ (by omega)]; omega
    exact ⟨(Pl.upI (fun j=>((Pl.findN da (db.getD j 0):Nat):Int)) m k)[k],by simp⟩
   have hsz:w.heap.size+1+1+1<wk.heap.size:=World.block_lt_of_cell? wk _ hcg
   have R:Hid ((wk.setCell ⟨w.heap.size+1+1+1,k,none⟩ (.int .i64 (la:Int))).ownsRow (w.heap.size+1+1+1) 3 1 (.slice (some ⟨w.heap.size+1+1+1,0,none⟩) m m) m ((Pl.upI (fun j=>((Pl.findN da (db.getD j 0):Nat):Int)) m (k+1)).map (Value.int .i64))):=by
    show World.ownsRow _ _ _ _ _ _ _
    rw [<- Pl.upI_step (fun j=>((Pl.findN da (db.getD j 0):Nat):Int)) (show k<m by omega),FN.out,List.map_set]
    exact hst.1
   have S9:Hid (Below (w.heap.size+1+1+1) w4 (wk.setCell ⟨w.heap.size+1+1+1,k,none⟩ (.int .i64 (la:Int)))):=hbel.out.setCell (Nat.le_refl _) _
   clear hst
   go_wp2_with fail
   go_roundg g
   case rel=>exact ⟨k+1,by omega,by go_num,R,S9⟩
   omega
  |succ gi =>
   have pt:(p:Int)<(la:Int):=by omega
   have hcp:wk.cell? ⟨b1,p,none⟩=some (.int .i64 (da.getD p 0)):=by
    have:=rd_cell (zs:=da) (by rw [Hla.out]; exact H1.out) (i:=p) (by rw [Hla.out]; omega)
    rw [Nat.zero_add] at this
    exact (ZR.out.2.2.cell (p:=⟨b1,p,none⟩) this.1).trans this.2
   by_cases he:da.getD p 0=x
   ·have FN:Hid (Pl.findN da (db.getD k 0)=p):=by
     show _=_
     rw [HX.out,Pl.findN_at da x p (by rw [Hla.out]; omega) hnone.out he]
    rw [he] at hcp
    have test:(x == x)=true:=by simp
    have hfz:=ho.out.frozenAt k
    have hst:=ho.out.stored k (.int .i64 (p:Int))
    obtain ⟨u,hcg⟩:∃u,wk.cell? ⟨w.heap.size+1+1+1,k,none⟩=some (.int .i64 u):=by
     rw [ho.out.cellAt k (by omega)]
     have hlen:k<(Pl.upI (fun j=>((Pl.findN da (db.getD j 0):Nat):Int)) m k).length:=by rw [Pl.upI_len _ (by omega)]; omega
     exact ⟨(Pl.upI (fun j=>((Pl.findN da (db.getD j 0):Nat):Int)) m k)[k],by simp⟩
    have hsz:w.heap.size+1+1+1<wk.heap.size:=World.block_lt_of_cell? wk _ hcg
    have R:Hid ((wk.setCell ⟨w.heap.size+1+1+1,k,none⟩ (.int .i64 (p:Int))).ownsRow (w.heap.size+1+1+1) 3 1 (.slice (some ⟨w.heap.size+1+1+1,0,none⟩) m m) m ((Pl.upI (fun j=>((Pl.findN da (db.getD j 0):Nat):Int)) m (k+1)).map (Value.int .i64))):=by
     show World.ownsRow _ _ _ _ _ _ _
     rw [<- Pl.upI_step (fun j=>((Pl.findN da (db.getD j 0):Nat):Int)) (show k<m by omega),FN.out,List.map_set]
     exact hst.1
    have S9:Hid (Below (w.heap.size+1+1+1) w4 (wk.setCell ⟨w.heap.size+1+1+1,k,none⟩ (.int .i64 (p:Int)))):=hbel.out.setCell (Nat.le_refl _) _
    clear hst he
    go_wp2_with fail
    go_roundg g
    case rel=>exact ⟨k+1,by omega,by go_num,R,S9⟩
    omega
   have hn':Hid (∀j,j<p+1->¬da.getD j 0=x):=fun j hj=>by
    rcases Nat.lt_succ_iff_lt_or_eq.1 hj with h | h
    ·exact hnone.out j h
    rw [h]; exact he
   have test:(da.getD p 0 == x)=false:=by rw [beq_eq_false_iff_ne]; exact he
   clear he
   generalize da.getD p 0=y at *
   go_wp2_with fail
   go_roundg gi
   case rel=>exact ⟨p+1,by omega,by go_num,rfl,hn'⟩
   omega
theorem sameArrays_any (v0 v1 v2 v3:Value) (sa da sb db:List Int) (w:World) (hl0:sa.length<=1048576) (hl1:da.length<=1048576) (hl2:sb.length<=1048576) (hl3:db.length<=1048576) (h0:Rd w.heap.size w v0 sa) (h1:Rd w.heap.size w v1 da) (h2:Rd w.heap.size w v2 sb) (h3:Rd w.heap.size w v3 db) :
  Calls Tryz.prog 144 #[.agg #[v0,v1],.agg #[v2,v3]] w fun e w'=>e=.returned (.bool (decide (sa=sb) && decide (da=db)))/\Below w.heap.size w w':=by
 have A0:Hid (∀W',Below (w.heap.size+1+1) ((w.alloc (.cells #[v0,v1] 25)).alloc (.cells #[v2,v3] 25)) W'->(W'.cell? ⟨w.heap.size,1,none⟩=some v1/\W'.cell? ⟨w.heap.size+1,1,none⟩=some v3)/\Below w.heap.size w W'):=fun W' hb=>by
  refine ⟨⟨(hb.cell (p:=⟨w.heap.size,1,none⟩) (by show w.heap.size<_; omega)).trans (by simp [go_sem]),(hb.cell (p:=⟨w.heap.size+1,1,none⟩) (by show w.heap.size+1<_; omega)).trans (by simp [go_sem])⟩,?_⟩
  exact (((Below.refl _ _).alloc (Nat.le_refl _) _).alloc (by simp) _).trans (hb.mono (by omega))
 have A1:Hid (Below w.heap.size w ((w.alloc (.cells #[v0,v1] 25)).alloc (.cells #[v2,v3] 25))):=((Below.refl _ _).alloc (Nat.le_refl _) _).alloc (by simp) _
 have KS:Hid (∀W,Below w.heap.size w W->Calls Tryz.prog 87 #[v0,v2] W fun e w'=>e=.returned (.bool (decide (sa=sb)))/\Below W.heap.size W w'):=fun W hb=>slEq_any _ _ sa sb W hl0 hl2 ((h0.keep hb).up hb.size) ((h2.keep hb).up hb.size)
 have KD:Hid (∀W,Below w.heap.size w W->Calls Tryz.prog 87 #[v1,v3] W fun e w'=>e=.returned (.bool (decide (da=db)))/\Below W.heap.size W w'):=fun W hb=>slEq_any _ _ da db W hl1 hl3 ((h1.keep hb).up hb.size) ((h3.keep hb).up hb.size)
 obtain ⟨a0,d0,e0⟩:=h0.form
 obtain ⟨a1,d1,e1⟩:=h1.form
 obtain ⟨a2,d2,e2⟩:=h2.form
 obtain ⟨a3,d3,e3⟩:=h3.form
 subst e0 e1 e2 e3
 clear h0 h1 h2 h3
 generalize hq:(decide (sa=sb) && decide (da=db))=q
 have HQ:=hideP hq
 clear hq
 go_enter Tryz.func144,Tryz.ntmps144
 go_wp2_with fail
 refine (KS.out _ A1.out).mono ?_
 rintro e w1 ⟨rfl,hb1⟩
 have K1:=hideP (A0.out w1 (hb1.mono (by simp)))
 clear hb1
 by_cases hs:sa=sb
 ·have es:decide (sa=sb)=true:=decide_eq_true hs
  have e1:decide (da=db)=q:=by rw [<- HQ.out,es,Bool.true_and]
  rw [e1] at KD
  rw [es]
  clear hs es e1
  have c1:=K1.out.1.1
  have c3:=K1.out.1.2
  go_wp2_with fail
  refine (KD.out _ K1.out.2).mono ?_
  rintro e w2 ⟨rfl,hb2⟩
  have K2:=hideP (K1.out.2.trans (hb2.mono K1.out.2.size))
  clear hb2 c1 c3
  go_wp2_with fail
  go_ret
  exact ⟨rfl,K2.out⟩
 have es:decide (sa=sb)=false:=decide_eq_false hs
 have e1:q=false:=by rw [<- HQ.out,es,Bool.false_and]
 subst e1
 rw [es]
 clear hs es
 go_wp2_with fail
 go_ret
 exact ⟨rfl,K1.out.2⟩
theorem match_any (v0 v1 v2 v3:Value) (sa da sb db:List Int) (w:World) (hl0:sa.length<=1048576) (hl1:da.length<=1048576) (hl2:sb.length<=1048576) (hl3:db.length<=1048576) (h0:Rd w.heap.size w v0 sa) (h1:Rd w.heap.size w v1 da) (h2:Rd w.heap.size w v2 sb) (h3:Rd w.heap.size w v3 db) :
  Calls Tryz.prog 121 #[.agg #[v0,v1],.agg #[v2,v3]] w (KPost w 0 [] [Pl.boolM (decide (sa=sb) && decide (da=db))]):=by
 have W0:=hideP (wid_new w h0 h1 h2 h3)
 have TAIL:Hid (∀q:Bool,∀W,Calls Tryz.prog 133 #[.bool q] W fun e w'=>e=.returned (.int .i64 (Pl.boolM q))/\w'=W):=fun q W=>truth_any q W
 have KS:Hid (∀W,Wid w sa da sb db v0 v1 v2 v3 W->Calls Tryz.prog 144 #[.agg #[v0,v1],.agg #[v2,v3]] W fun e w'=>e=.returned (.bool (decide (sa=sb) && decide (da=db)))/\Below W.heap.size W w'):=fun W h=>sameArrays_any v0 v1 v2 v3 sa da sb db W hl0 hl1 hl2 hl3 h.2.2.2.2.1 h.2.2.2.2.2.1 h.2.2.2.2.2.2.1 h.2.2.2.2.2.2.2
 obtain ⟨a0,d0,e0⟩:=h0.form
 obtain ⟨a1,d1,e1⟩:=h1.form
 obtain ⟨a2,d2,e2⟩:=h2.form
 obtain ⟨a3,d3,e3⟩:=h3.form
 subst e0 e1 e2 e3
 clear h0 h1 h2 h3
 generalize (decide (sa=sb) && decide (da=db))=q at *
 go_enter Tryz.func121,Tryz.ntmps121
 go_wp2_with fail
 refine (KS.out _ (W0.out 25 25 25)).mono ?_
 rintro e w2 ⟨rfl,hb1⟩
 have W2:=hideP ((W0.out 25 25 25).keep hb1)
 clear hb1 W0
 go_wp2_with (go_at_call 133; refine (TAIL.out q _).mono ?_; rintro e w2 ⟨rfl,rfl⟩)
 refine (scalar_any (Pl.boolM q) w2).mono ?_
 rintro e w3 ⟨g,rfl,ho3,hb3⟩
 have W3:=hideP (W2.out.keep hb3)
 have OS:=hideP ho3
 have hs2:=W2.out.2.1
 have hs3:=hb3.size
 clear ho3 hb3
 have r0:=W3.out.2.2.2.1.1
 have r1:=W3.out.2.2.2.1.2.1
 have f2:=W3.out.2.2.2.1.2.2
 go_wp2_with fail
 refine bodyPost_ret (v:=.agg #[.slice none 0 0,.slice (some ⟨g,0,none⟩) 1 1]) (by simp [results,Tryz.results121,go_sem,r0,r1]) rfl ⟨(W3.out.1.setCell (by simp; omega) _).setCell (by simp; omega) _,.inl ⟨rfl,_,_,rfl,Own.nil _ _,?_,.inl rfl⟩⟩
 refine Own.base (B:=w2.heap.size) (Own.store (Own.store OS.out ?_ _) ?_ _) ?_ <;> omega
end Go.Proofs.YtacapaiadggemaaGreat
