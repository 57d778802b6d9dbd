import Derived.Test.YtacapaiadggemaaGreatRed3
import Derived.Test.YtacapaiadggemaaGreatImIG
namespace Go.Proofs.YtacapaiadggemaaGreat
open Go.RowKit
set_option maxRecDepth 100000
set_option maxHeartbeats 16000000
set_option linter.unusedVariables false
theorem wpList_hiG {ops:Array Oper} {rest:List Oper} {o:Oper} {a:Act} {Q:Exit->Act->World->Prop} (w:World) (hg:o.guard=none) (x y:Operand) (g og m cp j:Nat) (h:j<=cp) (h0:0<cp) (hc:cp<=9223372036854775807) (ho:o.op=Op.slice 23 x none (some y) none) (hx:a.eval x=.slice (some ⟨g,og,none⟩) m cp) (hy:a.eval y=.int .i64 (j:Int))
  (hK:wpList Tryz.prog ops Q rest (a.put o.dst (.slice (some ⟨g,og,none⟩) j cp)) w):wpList Tryz.prog ops Q (o::rest) a w:=by
 refine wpList_plain hg fun K hK'=>?_
 unfold Oper.wp
 rw [exec_hiG x y g og m cp j ho hx hy h h0 hc w]
 exact hK' _ _ hK
theorem wpList_midG {ops:Array Oper} {rest:List Oper} {o:Oper} {a:Act} {Q:Exit->Act->World->Prop} (w:World) (hg:o.guard=none) (x y z:Operand) (g og m cp p r o2:Nat) (h:o2=if cp=p then og else og+p) (hq:p+r<=cp) (hc:cp<=9223372036854775807) (ho:o.op=Op.slice 23 x (some y) (some z) none) (hx:a.eval x=.slice (some ⟨g,og,none⟩) m cp) (hy:a.eval y=.int .i64 (p:Int)) (hz:a.eval z=.int .i64 ((p:Int)+(r:Int)))
  (hK:wpList Tryz.prog ops Q rest (a.put o.dst (.slice (some ⟨g,o2,none⟩) r (cp-p))) w):wpList Tryz.prog ops Q (o::rest) a w:=by
 have e:(Instr.sliceAt 23 (.slice (some ⟨g,og,none⟩) m cp) (some (.int .i64 (p:Int))) (some (.int .i64 ((p:Int)+(r:Int)))) none).run Tryz.prog w=.ok (.slice (some ⟨g,o2,none⟩) r (cp-p)) w:=by
  rw [run_sliceAt_slice _ _ _ _ _ _ und22,run_slice_lh _ _ _ _ _ und22 _ _ _ _ (by omega) (by omega) (by omega),sizeOf3]
  subst h
  have e1:((p:Int)+(r:Int)).toNat=p+r:=by omega
  by_cases hc1:cp=p
  ·subst hc1
   simp [Result.andThen,sliced,e1]
  simp [Result.andThen,sliced,Addr.add,hc1,e1]
 refine wpList_plain hg fun K hK'=>?_
 unfold Oper.wp
 have e':(execOp a.eval o).run Tryz.prog w=.ok (.value (.slice (some ⟨g,o2,none⟩) r (cp-p))) w:=by simp [execOp,ho,hx,hy,hz,e,Result.andThen]
 rw [e']
 exact hK' _ _ hK
theorem rd_mid {B b k p r o3:Nat} {w:World} {da:List Int} (h:Rd B w (.slice (some ⟨b,0,none⟩) da.length k) da) (ho:o3=if k=p then 0 else 0+p) (hk:da.length<=k) (hp:p+r<=da.length):Rd B w (.slice (some ⟨b,o3,none⟩) r (k-p)) ((da.drop p).take r):=by
 by_cases hc:k=p
 ·have r0:r=0:=by omega
  subst r0
  exact rd_zero _ _ _ _ _ (by simp)
 rw [if_neg hc] at ho
 subst ho
 have:=h.sub p (p+r) (by omega) hp (k-p)
 rw [Nat.add_sub_cancel_left] at this
 exact this
theorem Pl.innV_snoc (db:List Int) (n T k:Nat):Pl.innV db (n+1) T k=Pl.innV db n T k++[db.getD (n * T+k) 0]:=by simp [Pl.innV,List.range_succ]
structure Md (wk:World) (A:Nat) (u0 u1:Value) (S1 D1:List Int) (w:World):Prop where
 bel:Below wk.heap.size wk w
 le:wk.heap.size<=A
 blk:w.heap[A]? = some (.cells #[u0,u1] 25 (0,0))
 o0:Own wk.heap.size w u0 S1
 o1:Own wk.heap.size w u1 D1
theorem specI_core (kf kg:Nat) (f0:1<=kf) (f1:kf<11) (g0:1<=kg) (g1:kg<11) (b0 k0 b1 k1 b2 k2 b3 k3:Nat) (ta da tb db:List Int) (n:Nat) (w:World)
  (h0:Rd w.heap.size w (.slice (some ⟨b0,0,none⟩) (ta.length+1) k0) (ta++[(n:Int)])) (h1:Rd w.heap.size w (.slice (some ⟨b1,0,none⟩) da.length k1) da)
  (h2:Rd w.heap.size w (.slice (some ⟨b2,0,none⟩) (tb.length+1) k2) ((n:Int)::tb)) (h3:Rd w.heap.size w (.slice (some ⟨b3,0,none⟩) db.length k3) db)
  (hk0:ta.length+1<=k0) (hk0':k0<=9223372036854775807) (hk1:da.length<=k1) (hk1':k1<=9223372036854775807) (hk2:tb.length+1<=k2) (hk2':k2<=9223372036854775807) (hk3:db.length<=k3) (hk3':k3<=9223372036854775807)
  (oka:Pl.okB (ta++[(n:Int)]) da=true) (okb:Pl.okB ((n:Int)::tb) db=true)
  (H T:Nat) (hH:Pl.prodC ta=H) (hT:Pl.prodC tb=T) (hH':H<=1001) (hT':T<=1001) (hn':n<=1000) (hla:da.length=H * n) (hlb:db.length=n * T)
  (Q:Nat->Int × Int) (hQ:Q=Pl.innQ (Pl.twoM kf) (Pl.noneV kf) (Pl.noneB kf) (Pl.twoM kg) n T da db)
  (c:Int) (S D:List Int) (hres:(if Pl.fitsB (ta++tb)=true then (if Pl.firstG Q (List.range (H * T))=0 then (0,ta++tb,(List.range (H * T)).map (fun i=>(Q i).1)) else (Pl.firstG Q (List.range (H * T)),[],[])) else (6,[],[]))=(c,S,D)) :
  Calls Tryz.prog 21 #[.int .i64 (kf:Int),.int .i64 (kg:Int),.agg #[.slice (some ⟨b0,0,none⟩) (ta.length+1) k0,.slice (some ⟨b1,0,none⟩) da.length k1],.agg #[.slice (some ⟨b2,0,none⟩) (tb.length+1) k2,.slice (some ⟨b3,0,none⟩) db.length k3]] w (FPost w c S D):=by
 have B:Hid (∀o o' o'',Below w.heap.size w (((w.alloc o).alloc o').alloc o'')):=fun o o' o''=>below3 w o o' o''
 have m0:=Pl.ok_max oka
 have m2:=Pl.ok_max okb
 have hta:ta.length<=2:=by have:=m0.1; simp at this; omega
 have htb:tb.length<=2:=by have:=m2.1; simp at this; omega
 have KA:Hid (∀w',Below w.heap.size w w'->Calls Tryz.prog 26 #[.agg #[.slice (some ⟨b0,0,none⟩) (ta.length+1) k0,.slice (some ⟨b1,0,none⟩) da.length k1]] w' fun e w''=>e=.returned (.bool true)/\Below w'.heap.size w' w''):=fun w' h=>by
  have:=specOk_any _ _ (ta++[(n:Int)]) da w' (by simp; omega) (by omega) ((h0.keep h).up h.size) ((h1.keep h).up h.size)
  rw [oka] at this
  exact this
 have KB:Hid (∀w',Below w.heap.size w w'->Calls Tryz.prog 26 #[.agg #[.slice (some ⟨b2,0,none⟩) (tb.length+1) k2,.slice (some ⟨b3,0,none⟩) db.length k3]] w' fun e w''=>e=.returned (.bool true)/\Below w'.heap.size w' w''):=fun w' h=>by
  have:=specOk_any _ _ ((n:Int)::tb) db w' (by simp; omega) (by omega) ((h2.keep h).up h.size) ((h3.keep h).up h.size)
  rw [okb] at this
  exact this
 have KF:Hid (∀w,Calls Tryz.prog 38 #[.int .i64 (kf:Int)] w fun e w'=>e=.returned (.bool true)/\w'=w):=fun w=>by have:=opOk_any kf w; rw [decide_eq_true ⟨by omega,by omega⟩] at this; exact this
 have KG:Hid (∀w,Calls Tryz.prog 38 #[.int .i64 (kg:Int)] w fun e w'=>e=.returned (.bool true)/\w'=w):=fun w=>by have:=opOk_any kg w; rw [decide_eq_true ⟨by omega,by omega⟩] at this; exact this
 have W0:=hideP (wid_new w h0 h1 h2 h3)
 obtain ⟨o2,ho2⟩:∃o2:Nat,o2=if k2=1 then 0 else 0+1:=⟨_,rfl⟩
 have r0:Rd w.heap.size w (.slice (some ⟨b0,0,none⟩) ta.length k0) ta:=by
  have e:(ta++[(n:Int)]).length=ta.length+1:=by simp
  have h:=h0
  rw [<- e] at h
  have:=h.sub 0 ta.length (Nat.zero_le _) (by simp) k0
  simpa using this
 have r2:=rd_tailG ho2 hk2 h2
 have hca:b0<w.heap.size/\w.cell? ⟨b0,ta.length,none⟩=some (.int .i64 (n:Int)):=by
  have e:(ta++[(n:Int)]).length=ta.length+1:=by simp
  have h:=h0
  rw [<- e] at h
  have:=rd_cell h (i:=ta.length) (by simp)
  simpa using this
 have hcb:b2<w.heap.size/\w.cell? ⟨b2,0,none⟩=some (.int .i64 (n:Int)):=by
  have e:((n:Int)::tb).length=tb.length+1:=by simp
  have h:=h2
  rw [<- e] at h
  have:=rd_cell h (i:=0) (by simp)
  simpa using this
 have CA:=hideP hca
 have CB:=hideP hcb
 have H0:=hideP r0
 have H2:=hideP r2
 have H1:=hideP h1
 have H3:=hideP h3
 have OX:=hideP (fun x (hx:x∈da)=>Pl.ok_cell oka hx)
 have OY:=hideP (fun x (hx:x∈db)=>Pl.ok_cell okb hx)
 have hra:ta.all Pl.inR=true:=by
  have:=(Pl.ok_len oka).2
  simp only [Pl.fitsB,Pl.baseB,Bool.and_eq_true,List.all_append] at this
  exact this.1.2.1
 have hrb:tb.all Pl.inR=true:=by
  have:=(Pl.ok_len okb).2
  simp only [Pl.fitsB,Pl.baseB,Bool.and_eq_true,List.all_cons] at this
  exact this.1.2.2
 have KH:Hid (∀w' v,Rd w'.heap.size w' v ta->Calls Tryz.prog 66 #[v] w' fun e w''=>e=.returned (.int .i64 (H:Int))/\w''=w'):=fun w' v h=>by
  have:=l1Product_any _ v ta w' (by omega) hra h
  rw [hH] at this
  exact this
 have KT:Hid (∀w' v,Rd w'.heap.size w' v tb->Calls Tryz.prog 66 #[v] w' fun e w''=>e=.returned (.int .i64 (T:Int))/\w''=w'):=fun w' v h=>by
  have:=l1Product_any _ v tb w' (by omega) hrb h
  rw [hT] at this
  exact this
 have HR:=hideP hres
 have HQ:=hideP hQ
 obtain ⟨sh,hsh⟩:∃sh,ta++tb=sh:=⟨_,rfl⟩
 have hlh:sh.length<=4:=by rw [<- hsh,List.length_append]; omega
 have HSH:=hideP hsh
 have HO2:=hideP ho2
 have hld:=m0.2
 have hle:=m2.2
 have HLA:=hideP hla
 have HLB:=hideP hlb
 clear h0 h1 h2 h3 oka okb hres hQ hsh r0 r2 hca hcb hra hrb hH hT m0 m2 hla hlb ho2
 have test0:(((ta.length:Int)+1) == 0)=false:=by rw [beq_eq_false_iff_ne]; omega
 have test2:(((tb.length:Int)+1) == 0)=false:=by rw [beq_eq_false_iff_ne]; omega
 go_enter Tryz.func21,Tryz.ntmps21
 go_wp2_with (first | (go_at_call 38; refine (KF.out _).mono ?_; rintro e w' ⟨rfl,rfl⟩) | (go_at_call 38; refine (KG.out _).mono ?_; rintro e w' ⟨rfl,rfl⟩))
 refine (KA.out _ (B.out _ _ _)).mono ?_
 rintro e w1 ⟨rfl,hb1⟩
 have W1:=hideP ((W0.out _ _ _).keep hb1)
 clear hb1
 have c2:=W1.out.2.2.1.2.2.1
 have c3:=W1.out.2.2.1.2.2.2
 go_wp2_with fail
 clear c2 c3
 refine (KB.out _ W1.out.1).mono ?_
 rintro e w2 ⟨rfl,hb2⟩
 have W2:=hideP (W1.out.keep hb2)
 have hs2:=W2.out.2.1
 clear hb2 W1 W0 KA KB KF KG
 have RV:Hid (∀W,Below w2.heap.size w2 W->Rd W.heap.size W (.slice (some ⟨b0,0,none⟩) ta.length k0) ta/\Rd W.heap.size W (.slice (some ⟨b2,o2,none⟩) tb.length (k2-1)) tb):=fun W hb=>by
  have k:=(W2.out.keep hb).1
  exact ⟨(H0.out.keep k).up k.size,(H2.out.keep k).up k.size⟩
 have PL:Hid (∀W,Below w2.heap.size w2 W->W.cell? ⟨w.heap.size,0,none⟩=some (.slice (some ⟨b0,0,none⟩) (ta.length+1) k0)/\W.cell? ⟨w.heap.size+1,0,none⟩=some (.slice (some ⟨b2,0,none⟩) (tb.length+1) k2)):=fun W hb=>⟨(W2.out.keep hb).2.2.1.1,(W2.out.keep hb).2.2.1.2.2.1⟩
 have c0:=W2.out.2.2.1.1
 have c2:=W2.out.2.2.1.2.2.1
 have ca:w2.cell? ⟨b0,ta.length,none⟩=some (.int .i64 (n:Int)):=(W2.out.1.cell (p:=⟨b0,ta.length,none⟩) CA.out.1).trans CA.out.2
 have cb:w2.cell? ⟨b2,0,none⟩=some (.int .i64 (n:Int)):=(W2.out.1.cell (p:=⟨b2,0,none⟩) CB.out.1).trans CB.out.2
 go_upto_region 9 with fail
 clear c0 c2 ca cb
 go_cut [12,13] (fun s8 s9 wx=>∃P cc q0 n0 c0 q1 n1 c1,s8=.pointer (some ⟨P,0,none⟩)/\s9=.int .i64 cc/\Hid (Mk w2 sh P cc (.slice q0 n0 c0) (.slice q1 n1 c1) wx))
 case first =>
  refine wp_region_held (S:=fun w'=>Below w2.heap.size w2 w') (by kernel_rfl) ?_
  change wpAnyH _ _ _ _ _ _ _ _ (World.drew _)
  have R0:=hideP (Rg.start w2)
  generalize World.drew w2=wn0 at R0 ⊢
  refine tz 0 (.pointer (some ⟨w.heap.size,0,none⟩)) rfl R0.out.bel (fun w' hS=>by clear hS; go_simp) ?_
  refine tz 1 (.slice (some ⟨b0,0,none⟩) (ta.length+1) k0) rfl R0.out.bel (fun w' hS=>by have y0:=(PL.out w' hS).1; clear hS; go_simp) ?_
  refine tz 2 (.int .i64 (ta.length:Int)) rfl R0.out.bel (fun w' _=>exec_move (.tmp 11) _ (by kernel_rfl) (by kernel_rfl) w') ?_
  refine tz 3 (.slice (some ⟨b0,0,none⟩) ta.length k0) rfl R0.out.bel (fun w' _=>exec_hiG (.tmp 70) (.tmp 71) b0 0 (ta.length+1) k0 ta.length (by kernel_rfl) (by kernel_rfl) (by kernel_rfl) (by omega) (by omega) hk0' w') ?_
  refine tz 5 (.pointer (some ⟨w.heap.size+1,0,none⟩)) rfl R0.out.bel (fun w' hS=>by clear hS; go_simp) ?_
  refine tz 6 (.slice (some ⟨b2,0,none⟩) (tb.length+1) k2) rfl R0.out.bel (fun w' hS=>by have y0:=(PL.out w' hS).2; clear hS; go_simp) ?_
  refine tz 7 (.slice (some ⟨b2,o2,none⟩) tb.length (k2-1)) rfl R0.out.bel (fun w' _=>exec_loG (.tmp 75) (.const (.int .i64 1)) b2 0 tb.length k2 o2 HO2.out hk2 hk2' (by kernel_rfl) (by kernel_rfl) (by kernel_rfl) w') ?_
  refine rd3 4 9 14 (by kernel_rfl) rfl rfl rfl
   (R0.out.sc (by omega) (RV.out _ R0.out.bel).1 rfl rfl fun xc yc z1 R1=>rd3 8 9 14 (by kernel_rfl) rfl rfl rfl
   (R1.sa HSH.out (by omega) (RV.out _ R1.bel).2 rfl rfl fun xa ya z2 R2=>rd2 9 14 (by kernel_rfl) rfl rfl
    (R2.sl rfl rfl fun gb z3 R3=>rd2 10 14 (by kernel_rfl) rfl rfl
    (R3.sm (by omega) rfl rfl fun q0 n0 c0 q1 n1 c1 cc wm R M=>tk3 11 12 13 (u:=.agg #[.slice q0 n0 c0,.slice q1 n1 c1]) (v:=.int .i64 cc) R.bel rfl rfl rfl rfl rfl rfl (rd1 14 (by kernel_rfl) rfl (R.sv rfl rfl fun P wp R=>R.st M 15 16 rfl rfl rfl rfl fun wx MK=>?_)))
    (R3.sv rfl rfl fun P z4 R4=>rd1 10 (by kernel_rfl) rfl
     (R4.sm (by omega) rfl rfl fun q0 n0 c0 q1 n1 c1 cc wm R M=>tk3 11 12 13 (u:=.agg #[.slice q0 n0 c0,.slice q1 n1 c1]) (v:=.int .i64 cc) R.bel rfl rfl rfl rfl rfl rfl (R.st M 15 16 rfl rfl rfl rfl fun wx MK=>?_))))
    (R2.sv rfl rfl fun P z3 R3=>rd1 9 (by kernel_rfl) rfl
    (R3.sl rfl rfl fun gb z4 R4=>rd1 10 (by kernel_rfl) rfl
     (R4.sm (by omega) rfl rfl fun q0 n0 c0 q1 n1 c1 cc wm R M=>tk3 11 12 13 (u:=.agg #[.slice q0 n0 c0,.slice q1 n1 c1]) (v:=.int .i64 cc) R.bel rfl rfl rfl rfl rfl rfl (R.st M 15 16 rfl rfl rfl rfl fun wx MK=>?_)))))
   (R1.sl rfl rfl fun gb z2 R2=>rd2 8 14 (by kernel_rfl) rfl rfl
    (R2.sa HSH.out (by omega) (RV.out _ R2.bel).2 rfl rfl fun xa ya z3 R3=>rd2 10 14 (by kernel_rfl) rfl rfl
    (R3.sm (by omega) rfl rfl fun q0 n0 c0 q1 n1 c1 cc wm R M=>tk3 11 12 13 (u:=.agg #[.slice q0 n0 c0,.slice q1 n1 c1]) (v:=.int .i64 cc) R.bel rfl rfl rfl rfl rfl rfl (rd1 14 (by kernel_rfl) rfl (R.sv rfl rfl fun P wp R=>R.st M 15 16 rfl rfl rfl rfl fun wx MK=>?_)))
    (R3.sv rfl rfl fun P z4 R4=>rd1 10 (by kernel_rfl) rfl
     (R4.sm (by omega) rfl rfl fun q0 n0 c0 q1 n1 c1 cc wm R M=>tk3 11 12 13 (u:=.agg #[.slice q0 n0 c0,.slice q1 n1 c1]) (v:=.int .i64 cc) R.bel rfl rfl rfl rfl rfl rfl (R.st M 15 16 rfl rfl rfl rfl fun wx MK=>?_))))
    (R2.sv rfl rfl fun P z3 R3=>rd1 8 (by kernel_rfl) rfl
    (R3.sa HSH.out (by omega) (RV.out _ R3.bel).2 rfl rfl fun xa ya z4 R4=>rd1 10 (by kernel_rfl) rfl
     (R4.sm (by omega) rfl rfl fun q0 n0 c0 q1 n1 c1 cc wm R M=>tk3 11 12 13 (u:=.agg #[.slice q0 n0 c0,.slice q1 n1 c1]) (v:=.int .i64 cc) R.bel rfl rfl rfl rfl rfl rfl (R.st M 15 16 rfl rfl rfl rfl fun wx MK=>?_)))))
   (R1.sv rfl rfl fun P z2 R2=>rd2 8 9 (by kernel_rfl) rfl rfl
    (R2.sa HSH.out (by omega) (RV.out _ R2.bel).2 rfl rfl fun xa ya z3 R3=>rd1 9 (by kernel_rfl) rfl
    (R3.sl rfl rfl fun gb z4 R4=>rd1 10 (by kernel_rfl) rfl
     (R4.sm (by omega) rfl rfl fun q0 n0 c0 q1 n1 c1 cc wm R M=>tk3 11 12 13 (u:=.agg #[.slice q0 n0 c0,.slice q1 n1 c1]) (v:=.int .i64 cc) R.bel rfl rfl rfl rfl rfl rfl (R.st M 15 16 rfl rfl rfl rfl fun wx MK=>?_))))
    (R2.sl rfl rfl fun gb z3 R3=>rd1 8 (by kernel_rfl) rfl
    (R3.sa HSH.out (by omega) (RV.out _ R3.bel).2 rfl rfl fun xa ya z4 R4=>rd1 10 (by kernel_rfl) rfl
     (R4.sm (by omega) rfl rfl fun q0 n0 c0 q1 n1 c1 cc wm R M=>tk3 11 12 13 (u:=.agg #[.slice q0 n0 c0,.slice q1 n1 c1]) (v:=.int .i64 cc) R.bel rfl rfl rfl rfl rfl rfl (R.st M 15 16 rfl rfl rfl rfl fun wx MK=>?_))))))
   (R0.out.sl rfl rfl fun gb z1 R1=>rd2 4 14 (by kernel_rfl) rfl rfl
   (R1.sc (by omega) (RV.out _ R1.bel).1 rfl rfl fun xc yc z2 R2=>rd2 8 14 (by kernel_rfl) rfl rfl
    (R2.sa HSH.out (by omega) (RV.out _ R2.bel).2 rfl rfl fun xa ya z3 R3=>rd2 10 14 (by kernel_rfl) rfl rfl
    (R3.sm (by omega) rfl rfl fun q0 n0 c0 q1 n1 c1 cc wm R M=>tk3 11 12 13 (u:=.agg #[.slice q0 n0 c0,.slice q1 n1 c1]) (v:=.int .i64 cc) R.bel rfl rfl rfl rfl rfl rfl (rd1 14 (by kernel_rfl) rfl (R.sv rfl rfl fun P wp R=>R.st M 15 16 rfl rfl rfl rfl fun wx MK=>?_)))
    (R3.sv rfl rfl fun P z4 R4=>rd1 10 (by kernel_rfl) rfl
     (R4.sm (by omega) rfl rfl fun q0 n0 c0 q1 n1 c1 cc wm R M=>tk3 11 12 13 (u:=.agg #[.slice q0 n0 c0,.slice q1 n1 c1]) (v:=.int .i64 cc) R.bel rfl rfl rfl rfl rfl rfl (R.st M 15 16 rfl rfl rfl rfl fun wx MK=>?_))))
    (R2.sv rfl rfl fun P z3 R3=>rd1 8 (by kernel_rfl) rfl
    (R3.sa HSH.out (by omega) (RV.out _ R3.bel).2 rfl rfl fun xa ya z4 R4=>rd1 10 (by kernel_rfl) rfl
     (R4.sm (by omega) rfl rfl fun q0 n0 c0 q1 n1 c1 cc wm R M=>tk3 11 12 13 (u:=.agg #[.slice q0 n0 c0,.slice q1 n1 c1]) (v:=.int .i64 cc) R.bel rfl rfl rfl rfl rfl rfl (R.st M 15 16 rfl rfl rfl rfl fun wx MK=>?_)))))
   (R1.sv rfl rfl fun P z2 R2=>rd1 4 (by kernel_rfl) rfl
    (R2.sc (by omega) (RV.out _ R2.bel).1 rfl rfl fun xc yc z3 R3=>rd1 8 (by kernel_rfl) rfl
    (R3.sa HSH.out (by omega) (RV.out _ R3.bel).2 rfl rfl fun xa ya z4 R4=>rd1 10 (by kernel_rfl) rfl
     (R4.sm (by omega) rfl rfl fun q0 n0 c0 q1 n1 c1 cc wm R M=>tk3 11 12 13 (u:=.agg #[.slice q0 n0 c0,.slice q1 n1 c1]) (v:=.int .i64 cc) R.bel rfl rfl rfl rfl rfl rfl (R.st M 15 16 rfl rfl rfl rfl fun wx MK=>?_))))))
   (R0.out.sv rfl rfl fun P z1 R1=>rd2 4 9 (by kernel_rfl) rfl rfl
   (R1.sc (by omega) (RV.out _ R1.bel).1 rfl rfl fun xc yc z2 R2=>rd2 8 9 (by kernel_rfl) rfl rfl
    (R2.sa HSH.out (by omega) (RV.out _ R2.bel).2 rfl rfl fun xa ya z3 R3=>rd1 9 (by kernel_rfl) rfl
    (R3.sl rfl rfl fun gb z4 R4=>rd1 10 (by kernel_rfl) rfl
     (R4.sm (by omega) rfl rfl fun q0 n0 c0 q1 n1 c1 cc wm R M=>tk3 11 12 13 (u:=.agg #[.slice q0 n0 c0,.slice q1 n1 c1]) (v:=.int .i64 cc) R.bel rfl rfl rfl rfl rfl rfl (R.st M 15 16 rfl rfl rfl rfl fun wx MK=>?_))))
    (R2.sl rfl rfl fun gb z3 R3=>rd1 8 (by kernel_rfl) rfl
    (R3.sa HSH.out (by omega) (RV.out _ R3.bel).2 rfl rfl fun xa ya z4 R4=>rd1 10 (by kernel_rfl) rfl
     (R4.sm (by omega) rfl rfl fun q0 n0 c0 q1 n1 c1 cc wm R M=>tk3 11 12 13 (u:=.agg #[.slice q0 n0 c0,.slice q1 n1 c1]) (v:=.int .i64 cc) R.bel rfl rfl rfl rfl rfl rfl (R.st M 15 16 rfl rfl rfl rfl fun wx MK=>?_)))))
   (R1.sl rfl rfl fun gb z2 R2=>rd1 4 (by kernel_rfl) rfl
    (R2.sc (by omega) (RV.out _ R2.bel).1 rfl rfl fun xc yc z3 R3=>rd1 8 (by kernel_rfl) rfl
    (R3.sa HSH.out (by omega) (RV.out _ R3.bel).2 rfl rfl fun xa ya z4 R4=>rd1 10 (by kernel_rfl) rfl
     (R4.sm (by omega) rfl rfl fun q0 n0 c0 q1 n1 c1 cc wm R M=>tk3 11 12 13 (u:=.agg #[.slice q0 n0 c0,.slice q1 n1 c1]) (v:=.int .i64 cc) R.bel rfl rfl rfl rfl rfl rfl (R.st M 15 16 rfl rfl rfl rfl fun wx MK=>?_))))))
  all_goals
   have MH:=hideP MK
   clear MK M R
   go_wp2_with fail
   go_simp
   go_meet
   exact ⟨_,_,_,_,_,_,_,_,rfl,rfl,MH⟩
 obtain ⟨P,cc,q0,n0,z0,q1,n1,z1,rfl,rfl,MK⟩:=hcut
 rename World=>wx
 clear PL
 have hm:=MK.out.2
 rcases hm with ⟨hf,rfl,hL⟩ | ⟨hf,rfl,hle',hP⟩
 rotate_left 1
 ·have e:=HR.out
  rw [HSH.out,if_neg (by rw [hf]; decide)] at e
  simp only [Prod.mk.injEq] at e
  obtain ⟨rfl,rfl,rfl⟩:=e
  have WX:=hideP (W2.out.keep MK.out.1)
  clear HR HSH hf MK W2 OX OY
  have p0:wx.cell? ⟨P,0,none⟩=some (.slice none 0 0):=cell_blk hP
  have p1:wx.cell? ⟨P,1,none⟩=some (.slice none 0 0):=cell_blk hP
  have hPr:P<wx.heap.size:=(Array.getElem?_eq_some_iff.1 hP).1
  have hsr:=WX.out.2.1
  have r0:=WX.out.2.2.2.1.1
  have r1:=WX.out.2.2.2.1.2.1
  have f2:=WX.out.2.2.2.1.2.2
  clear hP
  go_wp2_with fail
  refine bodyPost_ret (v:=.tuple #[.agg #[.slice none 0 0,.slice none 0 0],.int .i64 6]) (by simp [results,Tryz.results21,go_sem,r0,r1]) rfl ⟨(WX.out.1.setCell (by simp; omega) _).setCell (by simp; omega) _,_,_,rfl,Own.nil _ _,Own.nil _ _,.inl rfl⟩
 have HL:=hideP hL
 have e:=HR.out
 rw [HSH.out,if_pos hf] at e
 generalize hC:Pl.firstG Q (List.range (H * T))=C at e
 have PC:=hideP hC
 have PE:=hideP e
 have WX:=hideP (W2.out.keep HL.out.bel)
 have RX:=hideP (RV.out _ HL.out.bel)
 have ca0:=WX.out.2.2.1.1
 have cb0:=WX.out.2.2.1.2.2.1
 clear hC e HR hf MK hL RV
 go_upto_region 13 with (first | (refine wpList_hiG _ rfl (.tmp 87) (.tmp 88) b0 0 (ta.length+1) k0 ta.length (by omega) (by omega) hk0' rfl rfl rfl ?_) | (go_at_call 66; refine (KH.out _ _ RX.out.1).mono ?_; rintro e wx ⟨rfl,rfl⟩))
 go_upto_region 14 with (first | (refine wpList_loG _ rfl (.tmp 92) (.const (.int .i64 1)) b2 0 tb.length k2 o2 HO2.out hk2 hk2' rfl rfl rfl ?_) | (go_at_call 66; refine (KT.out _ _ RX.out.2).mono ?_; rintro e wx ⟨rfl,rfl⟩))
 clear ca0 cb0 RX WX KH KT test0 test2 H0 H2 CA CB HO2
 go_wp2_with fail
 go_loopw [16,17,18,19,20,21] (fun s16 _ _ _ _ _ wr=>∃i:Nat,i<=H/\s16=.int .i64 i/\Hid (∀j∈List.range (i * T),(Q j).2=0)/\∃nv,Hid (Lp w2 sh P (.slice q0 n0 z0) nv ((List.range (i * T)).map (fun j=>(Q j).1)) wr)) (fun s16 _ _ _ _ _ _=>H-(intOf s16).toNat)
 case atStart =>
  refine ⟨0,Nat.zero_le _,rfl,by intro x hx; simp at hx,.slice q1 n1 z1,?_⟩
  show Lp _ _ _ _ _ _ _
  rw [Nat.zero_mul]
  exact HL.out
 clear HL
 obtain ⟨i,hi,rfl,hz,nv,hL⟩:=hrel
 by_cases hlt:i<H
 rotate_left 1
 ·have kn:i=H:=by omega
  subst kn
  have EC:Pl.firstG Q (List.range (i * T))=0:=Pl.firstG_zero Q _ hz.out
  rw [PC.out] at EC
  have e:=PE.out
  rw [if_pos EC] at e
  simp only [Prod.mk.injEq] at e
  have LD:Hid (Lp w2 sh P (.slice q0 n0 z0) nv D wr):=by
   have:=hL.out
   rw [e.2.2] at this
   exact this
  have HE:=hideP e
  have WR:=hideP (W2.out.keep LD.out.bel)
  obtain ⟨xo,yo,eo⟩:=owns_form LD.out.d
  subst eo
  have p0:wr.cell? ⟨P,0,none⟩=some (.slice q0 n0 z0):=cell_blk LD.out.blk
  have p1:wr.cell? ⟨P,1,none⟩=some (.slice xo D.length yo):=cell_blk LD.out.blk
  have hPr:P<wr.heap.size:=(Array.getElem?_eq_some_iff.1 LD.out.blk).1
  have hsr:=WR.out.2.1
  have r0:=WR.out.2.2.2.1.1
  have r1:=WR.out.2.2.2.1.2.1
  have f2:=WR.out.2.2.2.1.2.2
  clear EC e hL
  go_wp2_with fail
  refine bodyPost_ret (v:=.tuple #[.agg #[.slice q0 n0 z0,.slice xo D.length yo],.int .i64 0]) (by simp [results,Tryz.results21,go_sem,r0,r1]) rfl ?_
  show FPost _ _ _ _ _ _
  rw [<- HE.out.1,<- HE.out.2.1]
  refine ⟨(WR.out.1.setCell (by simp; omega) _).setCell (by simp; omega) _,_,_,rfl,?_,?_,?_⟩
  ·exact Own.base (Own.store (Own.store (own_of_any LD.out.c) (by omega) _) (by omega) _) (by omega)
  ·exact Own.base (Own.store (Own.store (own_of_any LD.out.d) (by omega) _) (by omega) _) (by omega)
  exact .inr (.inr fun b e0 e1=>LD.out.ap b e0 e1)
 have hlt':(i:Int)<(H:Int):=by omega
 go_wp2_with fail
 rename World=>wj
 go_loopw [17,18,19,20,21] (fun s17 _ _ _ _ wq=>∃k:Nat,k<=T/\s17=.int .i64 k/\Hid (∀j∈List.range (i * T+k),(Q j).2=0)/\∃nv,Hid (Lp w2 sh P (.slice q0 n0 z0) nv ((List.range (i * T+k)).map (fun j=>(Q j).1)) wq)) (fun s17 _ _ _ _ _=>T-(intOf s17).toNat)
 case atStart=>exact ⟨0,Nat.zero_le _,rfl,hz,nv,hL⟩
 clear hz hL
 obtain ⟨k,hk,rfl,hz,nv,hL⟩:=hrel
 by_cases hlt2:k<T
 rotate_left 1
 ·have kn:k=T:=by omega
  subst kn
  go_wp2_with fail
  go_roundw
  case rel=>exact ⟨i+1,by omega,by go_num,by rw [Nat.succ_mul]; exact hz,_,by rw [Nat.succ_mul]; exact hL⟩
  simp [intOf]; omega
 have hlt2':(k:Int)<(T:Int):=by omega
 have CCs:=hideP (Pl.cell_cases (Pl.twoM kf) (Pl.twoM kg) (Pl.noneV kf) (Pl.noneB kf) hn' HLA.out HLB.out hlt hlt2 (fun x y x0 x1 y0 y1=>Pl.two_bd kg g0 g1 x y x0 x1 y0 y1) OX.out OY.out)
 rw [<- HQ.out] at CCs
 have hat:i * T+k<H * T:=by
  have:=Nat.mul_le_mul_right T (show i+1<=H from hlt)
  rw [Nat.succ_mul] at this
  omega
 have hpn:i * n+n<=da.length:=by
  rw [HLA.out,<- Nat.succ_mul]
  exact Nat.mul_le_mul_right n hlt
 have FA:Hid (¬(Q (i * T+k)).2=0->Pl.firstG Q (List.range (H * T))=(Q (i * T+k)).2):=fun h=>Pl.range_first Q (H * T) (i * T+k) hat hz.out h
 rw [PC.out] at FA
 have UB:Hid ((List.range (i * T+k)).length+1<=16777216):=by
  show _<=_
  rw [List.length_range]
  have:=Nat.mul_le_mul hH' hT'
  omega
 go_wp2_with fail
 rename World=>wk
 clear hat
 go_loopw [18,19] (fun s18 s19 wq=>∃m:Nat,m<=n/\s19=.int .i64 m/\Hid (wq.ownsRow wk.heap.size 3 1 s18 m ((Pl.innV db m T k).map (Value.int .i64)))/\Hid (Below wk.heap.size wk wq)) (fun _ s19 _=>n-(intOf s19).toNat)
 case atStart=>exact ⟨0,Nat.zero_le _,rfl,owns_empty wk wk.heap.size (Nat.le_refl _),(Below.refl _ _).alloc (Nat.le_refl _) _⟩
 obtain ⟨m,hm,rfl,ho,hb⟩:=hrel
 have LQ:=hideP (hL.out.quiet hb.out)
 have WQ:=hideP (W2.out.keep LQ.out.bel)
 obtain ⟨xo,yo,eo⟩:=owns_form ho.out
 subst eo
 have hsz:=hb.out.size
 by_cases hlt3:m<n
 ·have hlt3':(m:Int)<(n:Int):=by omega
  have cq3:=WQ.out.2.2.1.2.2.2
  have hix:m * T+k<db.length:=by
   rw [HLB.out]
   have:=Nat.mul_le_mul_right T (show m+1<=n from hlt3)
   rw [Nat.succ_mul] at this
   omega
  have hck:wr.cell? ⟨b3,m * T+k,none⟩=some (.int .i64 (db.getD (m * T+k) 0)):=by
   have:=rd_cell H3.out hix
   rw [Nat.zero_add] at this
   exact (WQ.out.1.cell (p:=⟨b3,m * T+k,none⟩) this.1).trans this.2
  have VS:Hid (Pl.innV db (m+1) T k=Pl.innV db m T k++[db.getD (m * T+k) 0]):=Pl.innV_snoc db m T k
  have e1:((m:Int) * (T:Int))=((m * T:Nat):Int):=by simp
  generalize db.getD (m * T+k) 0=x at *
  generalize m * T=q at *
  go_wp2_with (at_builtin; refine wpList_append_one (base:=wk.heap.size) _ _ _ rfl _ _ rfl _ rfl rfl m _ ho.out (by omega) (by omega) ?_)
  intro v' w9 ho' hg
  have ho9:Hid (w9.ownsRow wk.heap.size 3 1 v' (m+1) ((Pl.innV db (m+1) T k).map (Value.int .i64))):=by
   show World.ownsRow _ _ _ _ _ _ _
   rw [VS.out,List.map_append]
   exact ho'
  have hb9:Hid (Below wk.heap.size wk w9):=(hb.out.alloc hsz _).grown hg (by simp; omega) (fun k hk=>(ho.out.lt k hk).1)
  clear ho' hg cq3 hck
  go_wp2_with fail
  go_roundw
  case rel=>exact ⟨m+1,by omega,by go_num,ho9,hb9⟩
  simp [intOf]; omega
 have mn:m=n:=by omega
 subst mn
 obtain ⟨c1,S1,D1,hE⟩:∃c1 S1 D1,Pl.each2M (Pl.twoM kg) [(m:Int)] (Pl.rowAt da m i) [(m:Int)] (Pl.innV db m T k)=(c1,S1,D1):=⟨_,_,_,rfl⟩
 have KE:Hid (∀x0 x1 y0 y1 W,Rd W.heap.size W x0 [(m:Int)]->Rd W.heap.size W x1 (Pl.rowAt da m i)->Rd W.heap.size W y0 [(m:Int)]->Rd W.heap.size W y1 (Pl.innV db m T k)->Calls Tryz.prog 39 #[.int .i64 (kg:Int),.agg #[x0,x1],.agg #[y0,y1]] W (FPostF W c1 S1 D1)):=fun x0 x1 y0 y1 W r0 r1 r2 r3 =>
  l2Each_frm kg (Pl.twoM kg) x0 x1 y0 y1 _ _ _ _ W (fun x y w'' z0 z1 z2 z3=>l2Two_any kg x y w'' g0 g1 z0 z1 z2 z3) r0 r1 r2 r3 CCs.out.1 CCs.out.2.1 c1 S1 D1 hE
 have HEE:=hideP hE
 have cq1:=WQ.out.2.2.1.2.1
 have RLn:Hid ((Pl.rowAt da m i).length=m):=Pl.rowAt_len (by rw [Nat.succ_mul]; exact hpn)
 have VLn:Hid ((Pl.innV db m T k).length=m):=Pl.innV_len db m T k
 have RC:=hideP (own_of_any ho.out).rd
 obtain ⟨o3,ho3⟩:∃o3:Nat,o3=if k1=i * m then 0 else 0+i * m:=⟨_,rfl⟩
 have HO3:=hideP ho3
 have RR:Hid (Rd wr.heap.size wr (.slice (some ⟨b1,o3,none⟩) m (k1-i * m)) (Pl.rowAt da m i)):=rd_mid ((H1.out.keep WQ.out.1).up WQ.out.1.size) ho3 hk1 hpn
 clear ho3
 have e2:((i:Int) * (m:Int))=((i * m:Nat):Int):=by simp
 have hdl:da.length=H * m:=HLA.out
 clear hE
 go_upto_region 25 with fail
 go_cut [20,21] (fun s20 s21 wy=>∃A u0 u1,s20=.pointer (some ⟨A,0,none⟩)/\s21=.int .i64 c1/\Hid (Md wk A u0 u1 S1 D1 wy)/\Hid (c1=0->Frm u0 S1.length/\Frm u1 D1.length))
 case first =>
  generalize hpp:i * m=pp at *
  clear hpp hdl
  have rdr:=RR.out
  go_wp2_with (refine wpList_midG _ rfl (.tmp 126) (.tmp 129) (.tmp 134) b1 0 da.length k1 pp m o3 HO3.out (by omega) hk1' rfl rfl rfl rfl ?_)
  refine (l2Vector_any _ (Pl.rowAt da m i) _ (by rw [RLn.out]; omega) rdr).mono ?_
  rintro e wa ⟨ga,gb,capa,rfl,_,_,resa,hba⟩
  rw [RLn.out] at resa
  clear cq1 rdr
  go_wp2_with fail
  refine (l2Vector_any _ (Pl.innV db m T k) _ (by rw [VLn.out]; omega) ((RC.out.keep hba).up hba.size)).mono ?_
  rintro e wb ⟨gc,gd,capb,rfl,_,_,resb,hbb⟩
  rw [VLn.out] at resb
  have ra0:=hideP ((resa.1.rd.keep hbb).up hbb.size)
  have ra1:=hideP ((resa.2.1.rd.keep hbb).up hbb.size)
  have rb0:=hideP resb.1.rd
  have rb1:=hideP resb.2.1.rd
  have BB:Hid (Below wk.heap.size wk wb):=hb.out.trans ((hba.mono hsz).trans (hbb.mono (by have:=hba.size; omega)))
  clear resa resb hba hbb
  rw [RLn.out]
  rw [VLn.out]
  go_wp2_with fail
  refine (KE.out _ _ _ _ _ ra0.out ra1.out rb0.out rb1.out).mono ?_
  rintro e we ⟨hbe,u0,u1,rfl,rese,frm⟩
  obtain ⟨x0,y0,x1,y1,eu,ev⟩:=rese.forms
  subst eu ev
  have hsb:=BB.out.size
  have BE:Hid (Below wk.heap.size wk we):=BB.out.trans (hbe.mono hsb)
  have RE:=hideP rese
  have FE:=hideP frm
  clear hbe rese frm ra0 ra1 rb0 rb1
  go_wp2_with fail
  go_meet
  exact ⟨_,_,_,rfl,rfl,⟨BE.out.alloc BE.out.size _,BE.out.size,heap_alloc_new _ _,(RE.out.1.keep ((Below.refl _ _).alloc (Nat.le_refl _) _)).base hsb,(RE.out.2.1.keep ((Below.refl _ _).alloc (Nat.le_refl _) _)).base hsb⟩,FE⟩
 obtain ⟨A,u0,u1,rfl,rfl,MD,FR⟩:=hcut
 rename World=>wy
 clear KE RC RR cq1 e2 hdl HO3
 have hkw:=hL.out.bel.size
 have hPk:P<wk.heap.size:=(Array.getElem?_eq_some_iff.1 hL.out.blk).1
 have hAy:A<wy.heap.size:=(Array.getElem?_eq_some_iff.1 MD.out.blk).1
 have hyk:=MD.out.bel.size
 have hAk:=MD.out.le
 rcases CCs.out.2.2 with ⟨D1',v,e1,ok1,hr1,hq⟩ | ⟨D1',c2,e1,ok1,hc2,hr1,hq⟩ | ⟨c1',hc1,e1,hq⟩
 rotate_left 1
 ·rw [HEE.out] at e1
  simp only [Prod.mk.injEq] at e1
  obtain ⟨rfl,rfl,rfl⟩:=e1
  obtain ⟨⟨ga,capa,eu,ha1,ha2⟩,⟨gb,capb,ev,hb1',hb2'⟩⟩:=FR.out rfl
  have eu':u0=.slice (some ⟨ga,0,none⟩) 1 capa:=eu
  clear eu
  subst eu' ev
  have KR:Hid (Calls Tryz.prog 67 #[.int .i64 (kf:Int),.agg #[.slice (some ⟨ga,0,none⟩) 1 capa,.slice (some ⟨gb,0,none⟩) D1.length capb]] wy (FPost wy c2 [] [])):=l2Reduce_any kf f0 f1 ga 0 capa gb 0 capb [(m:Int)] D1 wy MD.out.o0.rd MD.out.o1.rd ha1 ha2 hb1' hb2' ok1 c2 [] [] hr1
  have pA0:wy.cell? ⟨A,0,none⟩=some (.slice (some ⟨ga,0,none⟩) 1 capa):=cell_blk MD.out.blk
  have pA1:wy.cell? ⟨A,1,none⟩=some (.slice (some ⟨gb,0,none⟩) D1.length capb):=cell_blk MD.out.blk
  have FB:Hid (∀o,wy.frozen? ⟨A,o,none⟩=false):=fun o=>frozen_blk MD.out.blk
  have PA0:=hideP pA0
  have PA1:=hideP pA1
  have tt:((0:Int) == 0)=true:=rfl
  go_wp2_with fail
  refine KR.out.mono ?_
  rintro e wz ⟨hbz,t0,t1,rfl,resz⟩
  have cA0:wz.cell? ⟨A,0,none⟩=some (.slice (some ⟨ga,0,none⟩) 1 capa):=(hbz.cell (p:=⟨A,0,none⟩) hAy).trans PA0.out
  have cA1:wz.cell? ⟨A,1,none⟩=some (.slice (some ⟨gb,0,none⟩) D1.length capb):=(hbz.cell (p:=⟨A,1,none⟩) hAy).trans PA1.out
  have fA:∀o,wz.frozen? ⟨A,o,none⟩=false:=fun o=>(hbz.frozen (p:=⟨A,o,none⟩) hAy).trans (FB.out o)
  have hsz':=hbz.size
  have BS:Hid (∀a b,Below wk.heap.size wk ((wz.setCell ⟨A,0,none⟩ a).setCell ⟨A,1,none⟩ b)):=fun a b=>((MD.out.bel.trans (hbz.mono hyk)).setCell MD.out.le _).setCell MD.out.le _
  obtain ⟨x0,y0,e0⟩:=resz.1.form
  subst e0
  clear pA0 pA1 hbz
  obtain ⟨x1,y1,e1⟩:=resz.2.1.form
  subst e1
  have LS:=hideP (hL.out.quiet (BS.out (.slice x0 0 y0) (.slice x1 0 y1)))
  have WS:=hideP (W2.out.keep LS.out.bel)
  have EC:=FA.out (by rw [hq]; exact hc2)
  rw [hq] at EC
  have e:=PE.out
  rw [if_neg (by rw [EC]; exact hc2)] at e
  simp only [Prod.mk.injEq] at e
  obtain ⟨rfl,rfl,rfl⟩:=e
  have HEC:=hideP EC
  have hne:(c2 != 0)=true:=by rw [bne_iff_ne]; exact hc2
  clear FA EC PE PC hq hc2 hr1 KR MD FR HEE LS resz CCs
  have hsq:=WS.out.2.1
  have r0:=WS.out.2.2.2.1.1
  have r1:=WS.out.2.2.2.1.2.1
  have f2:=WS.out.2.2.2.1.2.2
  go_wp2_with fail
  refine bodyPost_ret (v:=.tuple #[.agg #[.slice none 0 0,.slice none 0 0],.int .i64 c2]) (by simp [results,Tryz.results21,go_sem,r0,r1]) rfl ?_
  show FPost _ _ _ _ _ _
  rw [HEC.out]
  exact ⟨(WS.out.1.setCell (by simp; omega) _).setCell (by simp; omega) _,_,_,rfl,Own.nil _ _,Own.nil _ _,.inl rfl⟩
 ·rw [HEE.out] at e1
  simp only [Prod.mk.injEq] at e1
  obtain ⟨rfl,rfl,rfl⟩:=e1
  have WS:=hideP (W2.out.keep (hL.out.quiet MD.out.bel).bel)
  have EC:=FA.out (by rw [hq]; exact hc1)
  rw [hq] at EC
  have e:=PE.out
  rw [if_neg (by rw [EC]; exact hc1)] at e
  simp only [Prod.mk.injEq] at e
  obtain ⟨rfl,rfl,rfl⟩:=e
  have HEC:=hideP EC
  have hne:(c1 != 0)=true:=by rw [bne_iff_ne]; exact hc1
  have hnf:(c1 == 0)=false:=by rw [beq_eq_false_iff_ne]; exact hc1
  clear FA EC PE PC hq hc1 MD FR HEE CCs
  have hsq:=WS.out.2.1
  have r0:=WS.out.2.2.2.1.1
  have r1:=WS.out.2.2.2.1.2.1
  have f2:=WS.out.2.2.2.1.2.2
  go_wp2_with fail
  refine bodyPost_ret (v:=.tuple #[.agg #[.slice none 0 0,.slice none 0 0],.int .i64 c1]) (by simp [results,Tryz.results21,go_sem,r0,r1]) rfl ?_
  show FPost _ _ _ _ _ _
  rw [HEC.out]
  exact ⟨(WS.out.1.setCell (by simp; omega) _).setCell (by simp; omega) _,_,_,rfl,Own.nil _ _,Own.nil _ _,.inl rfl⟩
 rw [HEE.out] at e1
 simp only [Prod.mk.injEq] at e1
 obtain ⟨rfl,rfl,rfl⟩:=e1
 obtain ⟨⟨ga,capa,eu,ha1,ha2⟩,⟨gb,capb,ev,hb1',hb2'⟩⟩:=FR.out rfl
 have eu':u0=.slice (some ⟨ga,0,none⟩) 1 capa:=eu
 clear eu
 subst eu' ev
 have KR:Hid (Calls Tryz.prog 67 #[.int .i64 (kf:Int),.agg #[.slice (some ⟨ga,0,none⟩) 1 capa,.slice (some ⟨gb,0,none⟩) D1.length capb]] wy (FPost wy 0 [] [v])):=l2Reduce_any kf f0 f1 ga 0 capa gb 0 capb [(m:Int)] D1 wy MD.out.o0.rd MD.out.o1.rd ha1 ha2 hb1' hb2' ok1 0 [] [v] hr1
 have pA0:wy.cell? ⟨A,0,none⟩=some (.slice (some ⟨ga,0,none⟩) 1 capa):=cell_blk MD.out.blk
 have pA1:wy.cell? ⟨A,1,none⟩=some (.slice (some ⟨gb,0,none⟩) D1.length capb):=cell_blk MD.out.blk
 have FB:Hid (∀o,wy.frozen? ⟨A,o,none⟩=false):=fun o=>frozen_blk MD.out.blk
 have PA0:=hideP pA0
 have PA1:=hideP pA1
 have tt:((0:Int) == 0)=true:=rfl
 go_wp2_with fail
 refine KR.out.mono ?_
 rintro e wz ⟨hbz,t0,t1,rfl,resz⟩
 have cA0:wz.cell? ⟨A,0,none⟩=some (.slice (some ⟨ga,0,none⟩) 1 capa):=(hbz.cell (p:=⟨A,0,none⟩) hAy).trans PA0.out
 have cA1:wz.cell? ⟨A,1,none⟩=some (.slice (some ⟨gb,0,none⟩) D1.length capb):=(hbz.cell (p:=⟨A,1,none⟩) hAy).trans PA1.out
 have fA:∀o,wz.frozen? ⟨A,o,none⟩=false:=fun o=>(hbz.frozen (p:=⟨A,o,none⟩) hAy).trans (FB.out o)
 have hsz':=hbz.size
 have BS:Hid (∀a b,Below wk.heap.size wk ((wz.setCell ⟨A,0,none⟩ a).setCell ⟨A,1,none⟩ b)):=fun a b=>((MD.out.bel.trans (hbz.mono hyk)).setCell MD.out.le _).setCell MD.out.le _
 obtain ⟨x0,y0,e0⟩:=resz.1.form
 subst e0
 clear pA0 pA1 hbz
 obtain ⟨ao,dcap,e1,hor⟩:=resz.2.1
 obtain ⟨dg,doff,hdB,hdz,rfl,hdc⟩:=hor.resolve_left (by simp)
 obtain ⟨hdg,_,_,rfl⟩:=hdB
 have e1':t1=.slice (some ⟨dg,0,none⟩) 1 dcap:=e1
 clear e1
 subst e1'
 have hdc0:wz.cell? ⟨dg,0,none⟩=some (.int .i64 v):=(hdc 0 (by simp)).1
 have mA1:((wz.setCell ⟨A,0,none⟩ (.slice x0 0 y0)).setCell ⟨A,1,none⟩ (.slice (some ⟨dg,0,none⟩) 1 dcap)).cell? ⟨A,1,none⟩=some (.slice (some ⟨dg,0,none⟩) 1 dcap):=by simp [go_sem,cA1]
 have hne:¬dg=A:=by omega
 have mD:((wz.setCell ⟨A,0,none⟩ (.slice x0 0 y0)).setCell ⟨A,1,none⟩ (.slice (some ⟨dg,0,none⟩) 1 dcap)).cell? ⟨dg,0,none⟩=some (.int .i64 v):=by
  rw [World.cell?_of_block (heap_setCell_other _ _ _ _ hne),World.cell?_of_block (heap_setCell_other _ _ _ _ hne)]
  exact hdc0
 have LS:=hideP (hL.out.quiet (BS.out (.slice x0 0 y0) (.slice (some ⟨dg,0,none⟩) 1 dcap)))
 have CM1:=hideP mA1
 have CMD:=hideP mD
 have hPd:¬dg=P:=by omega
 have hPA:¬A=P:=by omega
 have VZ:Hid ((List.range (i * T+(k+1))).map (fun j=>(Q j).1)=(List.range (i * T+k)).map (fun j=>(Q j).1)++[v]):=by
  show _=_
  rw [<- Nat.add_assoc,List.range_succ,List.map_append]
  simp [hq]
 have ZZ:Hid (∀j∈List.range (i * T+(k+1)),(Q j).2=0):=by
  intro j hj
  rw [<- Nat.add_assoc,List.range_succ] at hj
  simp only [List.mem_append,List.mem_cons,List.not_mem_nil,or_false] at hj
  rcases hj with hj | rfl
  ·exact hz.out j hj
  rw [hq]
 have UZ:Hid (((List.range (i * T+k)).map (fun j=>(Q j).1)).length+1<=16777216):=by show _<=_; rw [List.length_map]; exact UB.out
 have NB:Hid (∀b,nv.ownBlock=some b->b<wk.heap.size):=fun b h=>(hL.out.d.lt b h).2
 clear mA1 mD hdc hdc0 hor resz KR MD FR PA0 PA1 FB hr1 ok1 HEE hz hL CCs UB FA
 generalize (List.range (i * T+k)).map (fun j=>(Q j).1)=zs at *
 go_wp2_with fail
 clear cA0 cA1 fA BS
 generalize (wz.setCell ⟨A,0,none⟩ (.slice x0 0 y0)).setCell ⟨A,1,none⟩ (.slice (some ⟨dg,0,none⟩) 1 dcap)=ws at *
 obtain ⟨xo',yo',eo'⟩:=owns_form LS.out.d
 subst eo'
 have rA:Hid (¬(Value.slice xo' zs.length yo').ownBlock=some A):=fun h=>by have:=NB.out A h; omega
 have rD:Hid (¬(Value.slice xo' zs.length yo').ownBlock=some dg):=fun h=>by have:=NB.out dg h; omega
 have LQ:=hideP (LS.out.quiet ((Below.refl ws.heap.size ws).drew))
 have CM1':Hid (ws.drew.cell? ⟨A,1,none⟩=some (.slice (some ⟨dg,0,none⟩) 1 dcap)):=CM1.out
 have CMD':Hid (ws.drew.cell? ⟨dg,0,none⟩=some (.int .i64 v)):=CMD.out
 have SK:=hideP (Keep.refl ws.drew P (Value.slice xo' zs.length yo').ownBlock)
 refine wp_region_held (S:=fun w'=>Keep ws.drew P (Value.slice xo' zs.length yo').ownBlock w') (by kernel_rfl) ?_
 change wpAnyH _ _ _ _ _ _ _ _ (World.drew _)
 clear LS CM1 CMD
 generalize World.drew ws=wn0 at *
 have HSZ:Hid (∀o,w2.heap.size<=(wn0.alloc o).heap.size):=fun o=>by have:=LQ.out.bel.size; simp; omega
 have OA:Hid (∀o,(wn0.alloc o).ownsRow w2.heap.size 3 1 (.slice xo' zs.length yo') zs.length (zs.map (Value.int .i64))):=fun o=>LQ.out.d.alloc o
 have RN:Hid (Rd (wn0.alloc (.cells #[.int .i64 v] 3)).heap.size (wn0.alloc (.cells #[.int .i64 v] 3)) (.slice (some ⟨wn0.heap.size,0,none⟩) 1 1) [v]):=(own_of_any (owns_one wn0 v 0 (Nat.zero_le _))).rd
 have hPn:P<wn0.heap.size:=(Array.getElem?_eq_some_iff.1 LQ.out.blk).1
 have p1:wn0.cell? ⟨P,1,none⟩=some (.slice xo' zs.length yo'):=cell_blk LQ.out.blk
 refine tz 0 (.pointer (some ⟨P,1,none⟩)) rfl SK.out (fun w' hS=>by clear hS; go_simp) ?_
 refine tz 2 (.pointer (some ⟨A,1,none⟩)) rfl SK.out (fun w' hS=>by clear hS; go_simp) ?_
 refine tz 3 (.slice (some ⟨dg,0,none⟩) 1 dcap) rfl SK.out (fun w' hS=>by have:=hS.cell hPA rA.out CM1'.out; clear hS; go_simp) ?_
 refine tz 4 (.pointer (some ⟨dg,0,none⟩)) rfl SK.out (fun w' hS=>by clear hS; go_simp) ?_
 refine tz 5 (.int .i64 v) rfl SK.out (fun w' hS=>by have:=hS.cell hPd rD.out CMD'.out; clear hS; go_simp) ?_
 refine ry2 1 6 rfl rfl (fun K hK=>?_) (fun K hK=>?_)
 ·go_simp
  refine hK.out _ _ SK.out (fun _=>?_)
  clear hK
  refine ry1 6 rfl (fun K hK=>?_)
  go_simp
  refine hK.out _ _ (SK.out.alloc _) (fun _=>?_)
  clear hK
  refine ry1 7 rfl (fun K hK=>?_)
  refine step_append_at (base:=w2.heap.size) _ rfl _ _ rfl (.slice xo' zs.length yo') (.slice (some ⟨wn0.heap.size,0,none⟩) 1 1) rfl rfl zs.length zs [v] (OA.out _) RN.out (by simpa using UZ.out) (HSZ.out _) ?_
  intro v' w9 ho' hg hat'
  have ho9:w9.ownsRow w2.heap.size 3 1 v' (zs.length+1) ((zs++[v]).map (Value.int .i64)):=ho'
  have OS:=hideP (LQ.out.step hg ho9 (by simpa using hat'))
  have K9:=hideP ((SK.out.alloc _).grown hg)
  obtain ⟨x9,y9,e9⟩:=owns_form ho9
  subst e9
  have hs9:P<w9.heap.size:=(Array.getElem?_eq_some_iff.1 OS.out.1).1
  have p9:w9.cell? ⟨P,1,none⟩=some (.slice xo' zs.length yo'):=cell_blk OS.out.1
  have f9:w9.frozen? ⟨P,1,none⟩=false:=frozen_blk OS.out.1
  clear ho' ho9 hg hat'
  refine hK.out _ _ K9.out (fun _=>?_)
  clear hK
  refine ry1 8 rfl (fun K hK=>?_)
  go_simp
  refine hK.out _ _ K9.out (fun _=>?_)
  clear hK
  refine ry1 9 rfl (fun K hK=>?_)
  go_simp
  refine hK.out _ _ (K9.out.set _) (fun _=>?_)
  clear hK
  refine wpAnyH_done (by kernel_rfl) ?_ _
  clear p9 f9
  go_wp2_with fail
  go_roundw
  case rel=>exact ⟨k+1,by omega,by go_num,ZZ,_,by show Lp _ _ _ _ _ _ _; rw [VZ.out]; exact OS.out.2⟩
  simp [intOf]; omega
 go_simp
 refine hK.out _ _ (SK.out.alloc _) (fun _=>?_)
 clear hK
 refine ry1 1 rfl (fun K hK=>?_)
 go_simp
 refine hK.out _ _ (SK.out.alloc _) (fun _=>?_)
 clear hK
 refine ry1 7 rfl (fun K hK=>?_)
 refine step_append_at (base:=w2.heap.size) _ rfl _ _ rfl (.slice xo' zs.length yo') (.slice (some ⟨wn0.heap.size,0,none⟩) 1 1) rfl rfl zs.length zs [v] (OA.out _) RN.out (by simpa using UZ.out) (HSZ.out _) ?_
 intro v' w9 ho' hg hat'
 have ho9:w9.ownsRow w2.heap.size 3 1 v' (zs.length+1) ((zs++[v]).map (Value.int .i64)):=ho'
 have OS:=hideP (LQ.out.step hg ho9 (by simpa using hat'))
 have K9:=hideP ((SK.out.alloc _).grown hg)
 obtain ⟨x9,y9,e9⟩:=owns_form ho9
 subst e9
 have hs9:P<w9.heap.size:=(Array.getElem?_eq_some_iff.1 OS.out.1).1
 have p9:w9.cell? ⟨P,1,none⟩=some (.slice xo' zs.length yo'):=cell_blk OS.out.1
 have f9:w9.frozen? ⟨P,1,none⟩=false:=frozen_blk OS.out.1
 clear ho' ho9 hg hat'
 refine hK.out _ _ K9.out (fun _=>?_)
 clear hK
 refine ry1 8 rfl (fun K hK=>?_)
 go_simp
 refine hK.out _ _ K9.out (fun _=>?_)
 clear hK
 refine ry1 9 rfl (fun K hK=>?_)
 go_simp
 refine hK.out _ _ (K9.out.set _) (fun _=>?_)
 clear hK
 refine wpAnyH_done (by kernel_rfl) ?_ _
 clear p9 f9
 go_wp2_with fail
 go_roundw
 case rel=>exact ⟨k+1,by omega,by go_num,ZZ,_,by show Lp _ _ _ _ _ _ _; rw [VZ.out]; exact OS.out.2⟩
 simp [intOf]; omega
end Go.Proofs.YtacapaiadggemaaGreat
