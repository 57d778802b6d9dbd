import Derived.Test.YtacapaiadggemaaGreatValid2
namespace Go.Proofs.YtacapaiadggemaaGreat
open Go.RowKit
set_option maxRecDepth 100000
set_option maxHeartbeats 16000000
set_option linter.unusedVariables false
theorem callF92 (args:Array Value) (w:World):(callFunc 85 args).run Tryz.prog w=.ok (.enter 85 args) w:=by kernel_rfl
theorem callF93 (args:Array Value) (w:World):(callFunc 86 args).run Tryz.prog w=.ok (.enter 86 args) w:=by kernel_rfl
theorem callF51 (args:Array Value) (w:World):(callFunc 40 args).run Tryz.prog w=.ok (.enter 40 args) w:=by kernel_rfl
theorem c92_any (f:Nat) (r:Int × Int) (p q b off m c1:Nat) (x y:Int) (w:World) (hcf:∀args w,(callFunc f args).run Tryz.prog w=.ok (.enter f args) w) (co:w.cell? ⟨p,0,none⟩=some (.func (.func f) #[] #[])) (ca:w.cell? ⟨q,1,none⟩=some (.slice (some ⟨b,off,none⟩) m c1)) (hm:0<m)
  (hx:w.cell? ⟨b,off,none⟩=some (.int .i64 x)) (hf:∀w',Calls Tryz.prog f #[.int .i64 x,.int .i64 y] w' (CPost w' r)) :
  Calls Tryz.prog 85 #[.int .i64 y,.pointer (some ⟨p,0,none⟩),.pointer (some ⟨q,0,none⟩)] w (CPost w r):=by
 have lp:=World.block_lt_of_cell? w ⟨p,0,none⟩ co
 have lq:=World.block_lt_of_cell? w ⟨q,1,none⟩ ca
 have lb:=World.block_lt_of_cell? w ⟨b,off,none⟩ hx
 have L0:∀w',Below w.heap.size w w'->w'.cell? ⟨p,0,none⟩=some (.func (.func f) #[] #[]):=fun w' h=>(h.cell (p:=⟨p,0,none⟩) lp).trans co
 have L1:∀w',Below w.heap.size w w'->w'.cell? ⟨q,1,none⟩=some (.slice (some ⟨b,off,none⟩) m c1):=fun w' h=>(h.cell (p:=⟨q,1,none⟩) lq).trans ca
 have L2:∀w',Below w.heap.size w w'->w'.cell? ⟨b,off,none⟩=some (.int .i64 x):=fun w' h=>(h.cell (p:=⟨b,off,none⟩) lb).trans hx
 have D:=hideP (show Below w.heap.size w w.drew from (Below.refl _ _).drew)
 have HF:=hideP hf
 clear co ca hx lp lq lb hf
 go_enter Tryz.func85,Tryz.ntmps85
 go_wp2_with fail
 refine wp_region_held (S:=fun w'=>Below w.heap.size w w') (by kernel_rfl) ?_
 change wpAnyH _ _ _ _ _ _ _ _ (World.drew _)
 refine tz 0 (.pointer (some ⟨p,0,none⟩)) rfl D.out (fun w' hS=>by clear L0 L1 L2 hS; go_simp) ?_
 refine tz 1 (.func (.func f) #[] #[]) rfl D.out (fun w' hS=>by have:=L0 w' hS; clear L0 L1 L2 hS; go_simp) ?_
 refine tz 2 (.pointer (some ⟨q,1,none⟩)) rfl D.out (fun w' hS=>by clear L0 L1 L2 hS; go_simp) ?_
 refine tz 3 (.slice (some ⟨b,off,none⟩) m c1) rfl D.out (fun w' hS=>by have:=L1 w' hS; clear L0 L1 L2 hS; go_simp) ?_
 refine tz 4 (.pointer (some ⟨b,off,none⟩)) rfl D.out (fun w' hS=>by clear L0 L1 L2 hS; go_simp) ?_
 refine tz 5 (.int .i64 x) rfl D.out (fun w' hS=>by have:=L2 w' hS; clear L0 L1 L2 hS; go_simp) ?_
 refine tz 6 (.int .i64 y) rfl D.out (fun w' hS=>by clear L0 L1 L2 hS; go_simp) ?_
 clear L0 L1 L2
 refine ry1 7 rfl (fun K hK=>?_)
 go_simp
 refine (HF.out _).mono ?_
 rintro e w1 ⟨hb,⟨hr,rfl⟩ | ⟨hr,rfl⟩⟩
 rotate_left 1
 ·exact ⟨rfl,D.out.trans hb,.inr ⟨hr,rfl⟩⟩
 have B1:=hideP (D.out.trans hb)
 have HR:=hideP hr
 clear hb hr
 refine hK.out _ _ B1.out (fun _=>?_)
 clear hK
 refine ry1 8 rfl (fun K hK=>?_)
 go_simp
 refine hK.out _ _ B1.out (fun _=>?_)
 clear hK
 refine wpAnyH_done (by kernel_rfl) ?_ _
 go_wp2_with fail
 go_ret
 exact ⟨B1.out,.inl ⟨HR.out,rfl⟩⟩
theorem c93_any (f:Nat) (r:Int × Int) (p q b off m c1:Nat) (x y:Int) (w:World) (hcf:∀args w,(callFunc f args).run Tryz.prog w=.ok (.enter f args) w) (co:w.cell? ⟨p,0,none⟩=some (.func (.func f) #[] #[])) (ca:w.cell? ⟨q,1,none⟩=some (.slice (some ⟨b,off,none⟩) m c1)) (hm:0<m)
  (hx:w.cell? ⟨b,off,none⟩=some (.int .i64 x)) (hf:∀w',Calls Tryz.prog f #[.int .i64 y,.int .i64 x] w' (CPost w' r)) :
  Calls Tryz.prog 86 #[.int .i64 y,.pointer (some ⟨p,0,none⟩),.pointer (some ⟨q,0,none⟩)] w (CPost w r):=by
 have lp:=World.block_lt_of_cell? w ⟨p,0,none⟩ co
 have lq:=World.block_lt_of_cell? w ⟨q,1,none⟩ ca
 have lb:=World.block_lt_of_cell? w ⟨b,off,none⟩ hx
 have L0:∀w',Below w.heap.size w w'->w'.cell? ⟨p,0,none⟩=some (.func (.func f) #[] #[]):=fun w' h=>(h.cell (p:=⟨p,0,none⟩) lp).trans co
 have L1:∀w',Below w.heap.size w w'->w'.cell? ⟨q,1,none⟩=some (.slice (some ⟨b,off,none⟩) m c1):=fun w' h=>(h.cell (p:=⟨q,1,none⟩) lq).trans ca
 have L2:∀w',Below w.heap.size w w'->w'.cell? ⟨b,off,none⟩=some (.int .i64 x):=fun w' h=>(h.cell (p:=⟨b,off,none⟩) lb).trans hx
 have D:=hideP (show Below w.heap.size w w.drew from (Below.refl _ _).drew)
 have HF:=hideP hf
 clear co ca hx lp lq lb hf
 go_enter Tryz.func86,Tryz.ntmps86
 go_wp2_with fail
 refine wp_region_held (S:=fun w'=>Below w.heap.size w w') (by kernel_rfl) ?_
 change wpAnyH _ _ _ _ _ _ _ _ (World.drew _)
 refine tz 0 (.pointer (some ⟨p,0,none⟩)) rfl D.out (fun w' hS=>by clear L0 L1 L2 hS; go_simp) ?_
 refine tz 1 (.func (.func f) #[] #[]) rfl D.out (fun w' hS=>by have:=L0 w' hS; clear L0 L1 L2 hS; go_simp) ?_
 refine tz 2 (.int .i64 y) rfl D.out (fun w' hS=>by clear L0 L1 L2 hS; go_simp) ?_
 refine tz 3 (.pointer (some ⟨q,1,none⟩)) rfl D.out (fun w' hS=>by clear L0 L1 L2 hS; go_simp) ?_
 refine tz 4 (.slice (some ⟨b,off,none⟩) m c1) rfl D.out (fun w' hS=>by have:=L1 w' hS; clear L0 L1 L2 hS; go_simp) ?_
 refine tz 5 (.pointer (some ⟨b,off,none⟩)) rfl D.out (fun w' hS=>by clear L0 L1 L2 hS; go_simp) ?_
 refine tz 6 (.int .i64 x) rfl D.out (fun w' hS=>by have:=L2 w' hS; clear L0 L1 L2 hS; go_simp) ?_
 clear L0 L1 L2
 refine ry1 7 rfl (fun K hK=>?_)
 go_simp
 refine (HF.out _).mono ?_
 rintro e w1 ⟨hb,⟨hr,rfl⟩ | ⟨hr,rfl⟩⟩
 rotate_left 1
 ·exact ⟨rfl,D.out.trans hb,.inr ⟨hr,rfl⟩⟩
 have B1:=hideP (D.out.trans hb)
 have HR:=hideP hr
 clear hb hr
 refine hK.out _ _ B1.out (fun _=>?_)
 clear hK
 refine ry1 8 rfl (fun K hK=>?_)
 go_simp
 refine hK.out _ _ B1.out (fun _=>?_)
 clear hK
 refine wpAnyH_done (by kernel_rfl) ?_ _
 go_wp2_with fail
 go_ret
 exact ⟨B1.out,.inl ⟨HR.out,rfl⟩⟩
theorem wid_sizes {w wx:World} {o:Obj} {sa xs sb ys:List Int} {p0 p1 p2 p3:Value} (h:Wid (w.alloc o) sa xs sb ys p0 p1 p2 p3 wx) :
  w.heap.size+3<wx.heap.size/\(wx.cell? ⟨w.heap.size+1,0,none⟩=some p0/\wx.cell? ⟨w.heap.size+1,1,none⟩=some p1/\wx.cell? ⟨w.heap.size+1+1,0,none⟩=some p2/\wx.cell? ⟨w.heap.size+1+1,1,none⟩=some p3) /\
  (wx.cell? ⟨w.heap.size+1+1+1,0,none⟩=some (.slice none 0 0)/\wx.cell? ⟨w.heap.size+1+1+1,1,none⟩=some (.slice none 0 0)/\∀o,wx.frozen? ⟨w.heap.size+1+1+1,o,none⟩=false)/\Below w.heap.size w wx:=by
 obtain ⟨h1,h2,h3,h4,_⟩:=h
 have e:(w.alloc o).heap.size=w.heap.size+1:=by simp
 rw [e] at h1 h2 h3 h4
 exact ⟨by omega,h3,h4,((Below.refl _ _).alloc (Nat.le_refl _) _).trans (h1.mono (by omega))⟩
theorem each2_scalar (f:Nat) (nv:Int) (nb:Bool) (F:Int->Int->Int × Int) (v0 v1 v2 v3:Value) (sa da sb db:List Int) (w:World) (hl1:da.length<=1048576) (hl3:db.length<=1048576) (hcf:∀args w,(callFunc f args).run Tryz.prog w=.ok (.enter f args) w)
  (hF:∀x y w',-3000000000<=x->x<=3000000000->-3000000000<=y->y<=3000000000->Calls Tryz.prog f #[.int .i64 x,.int .i64 y] w' (CPost w' (F x y)))
  (h0:Rd w.heap.size w v0 sa) (h1:Rd w.heap.size w v1 da) (h2:Rd w.heap.size w v2 sb) (h3:Rd w.heap.size w v3 db) (oka:Pl.okB sa da=true) (okb:Pl.okB sb db=true) (c:Int) (S D:List Int) (hres:Pl.each2M F sa da sb db=(c,S,D)) (hsc:sa.length=0\/sb.length=0) :
  Calls Tryz.prog 41 #[.agg #[.func (.func f) #[] #[],.int .i64 nv,.bool nb],.agg #[v0,v1],.agg #[v2,v3]] w (KPost w c S D):=by
 have hmf:∀(fn:Fn) (first cap:Array Value) (w:World),(Instr.makeFunc fn first cap).run Tryz.prog w=.ok (.func fn first cap) w:=fun _ _ _ _=>rfl
 have hl0:sa.length<=3:=by
  have:=(Pl.ok_len oka).2
  simp only [Pl.fitsB,Pl.baseB,Bool.and_eq_true,decide_eq_true_eq] at this
  omega
 have hl2:sb.length<=3:=by
  have:=(Pl.ok_len okb).2
  simp only [Pl.fitsB,Pl.baseB,Bool.and_eq_true,decide_eq_true_eq] at this
  omega
 have A:∀o,Below w.heap.size w (w.alloc o):=fun o=>(Below.refl _ _).alloc (Nat.le_refl _) _
 have W0:=hideP (fun o=>wid_new (w.alloc o) ((h0.keep (A o)).up (by simp)) ((h1.keep (A o)).up (by simp)) ((h2.keep (A o)).up (by simp)) ((h3.keep (A o)).up (by simp)) 25 25 25)
 have KA:=hideP (fun w'=>isScalar_any v0 v1 sa _ w' w h0)
 have KB:=hideP (fun w'=>isScalar_any v2 v3 sb _ w' w h2)
 obtain ⟨a0,d0,e0⟩:=h0.form
 obtain ⟨a1,d1,b1,o1,e1,hao1,hb1,hc1⟩:=h1.parts
 obtain ⟨a2,d2,e2⟩:=h2.form
 obtain ⟨a3,d3,b3,o3,e3,hao3,hb3,hc3⟩:=h3.parts
 have P1:=hideP (And.intro hao1 (And.intro hb1 hc1))
 have P3:=hideP (And.intro hao3 (And.intro hb3 hc3))
 subst e0 e1 e2 e3
 have HF:=hideP hF
 have OA:=hideP oka
 have OB:=hideP okb
 have HR:=hideP hres
 clear h0 h1 h2 h3 hF oka okb hres hao1 hb1 hc1 hao3 hb3 hc3 A
 by_cases hsa:sa.length=0
 ·have hda:=Pl.ok_one OA.out hsa
  have hao:=P1.out.1 (by omega)
  have hlt:=P1.out.2.1 (by omega)
  have hce:=P1.out.2.2 0 (by omega)
  rw [Nat.add_zero] at hce
  have e:=HR.out
  unfold Pl.each2M at e
  rw [if_pos hsa,Pl.eachL F sb da db OB.out] at e
  simp only [Prod.mk.injEq] at e
  have HE:=hideP e
  rw [decide_eq_true hsa] at KA
  have hx:-3000000000<=da.getD 0 0/\da.getD 0 0<=3000000000:=Pl.ok_cell OA.out (by
   have:da.getD 0 0=da[0]:=by simp [List.getD,hda]
   rw [this]; exact List.getElem_mem _)
  have HDA:=hideP hda
  have HCE:=hideP hce
  clear hsa hda hce e hsc
  subst hao
  go_enter Tryz.func41,Tryz.ntmps41
  go_wp2_with fail
  refine (KA.out _).mono ?_
  rintro e w1 ⟨rfl,hb1⟩
  have W1:=hideP ((W0.out _).keep hb1)
  have CO:Hid (w1.cell? ⟨w.heap.size,0,none⟩=some (.func (.func f) #[] #[])):=by
   have:=hb1.cell (p:=⟨w.heap.size,0,none⟩) (by show w.heap.size<_; simp; omega)
   show _=_
   rw [this]
   simp [go_sem]
  clear hb1
  obtain ⟨hs1,⟨c0,c1,c2,c3⟩,⟨r0,r1,f3⟩,hbw⟩:=wid_sizes W1.out
  have BW:=hideP hbw
  have CA:=hideP c1
  clear hbw
  go_wp2_with fail
  refine (each1_any 85 #[.pointer (some ⟨w.heap.size,0,none⟩),.pointer (some ⟨w.heap.size+1,0,none⟩)] (F (da.getD 0 0)) (.slice a2 sb.length d2) (.slice a3 db.length d3) sb db w1 (by omega) hl3 W1.out.2.2.2.2.2.2.1 W1.out.2.2.2.2.2.2.2 callF92 ?_).mono ?_
  ·intro y hy w' hb
   have hyb:=Pl.ok_cell OB.out hy
   refine c92_any f (F (da.getD 0 0) y) w.heap.size (w.heap.size+1) b1 o1 da.length d1 (da.getD 0 0) y w' hcf ?_ ?_ (by rw [HDA.out]; omega) ?_ (fun w''=>HF.out _ _ w'' hx.1 hx.2 hyb.1 hyb.2)
   ·exact (hb.cell (p:=⟨w.heap.size,0,none⟩) (by show w.heap.size<_; omega)).trans CO.out
   ·exact (hb.cell (p:=⟨w.heap.size+1,1,none⟩) (by show w.heap.size+1<_; omega)).trans CA.out
   exact (hb.cell (p:=⟨b1,o1,none⟩) (by show b1<_; omega)).trans ((BW.out.cell (p:=⟨b1,o1,none⟩) hlt).trans HCE.out)
  rintro e w2 ⟨hb2,hor⟩
  rw [HE.out.2.1,HE.out.2.2,HE.out.1] at hor
  have W2:=hideP (W1.out.keep hb2)
  have B2:=hideP (BW.out.trans (hb2.mono (by omega)))
  clear hb2 c0 c1 c2 c3 r0 r1 f3 HE
  rcases hor with ⟨hc0,u0,u1,rfl,hres⟩ | ⟨hc0,rfl,rfl,rfl⟩
  rotate_left 1
  ·exact ⟨rfl,B2.out,.inr ⟨hc0,rfl,rfl,rfl⟩⟩
  have R2:=hideP hres
  have HC:=hideP hc0
  obtain ⟨x0,y0,e0⟩:=hres.1.form
  obtain ⟨x1,y1,e1⟩:=hres.2.1.form
  subst e0 e1
  obtain ⟨hs2,_,⟨r0,r1,f3⟩,_⟩:=wid_sizes W2.out
  clear hres hc0
  go_wp2_with fail
  refine bodyPost_ret (v:=.agg #[.slice x0 S.length y0,.slice x1 D.length y1]) (by simp [results,Tryz.results41,go_sem,r0,r1]) rfl ⟨(B2.out.setCell (by simp; omega) _).setCell (by simp; omega) _,.inl ⟨HC.out,_,_,rfl,?_,?_,R2.out.2.2⟩⟩
  ·exact Own.base (Own.store (Own.store R2.out.1 (by omega) _) (by omega) _) (by omega)
  exact Own.base (Own.store (Own.store R2.out.2.1 (by omega) _) (by omega) _) (by omega)
 have hsb:sb.length=0:=by omega
 have hda:=Pl.ok_one OB.out hsb
 have hao:=P3.out.1 (by omega)
 have hlt:=P3.out.2.1 (by omega)
 have hce:=P3.out.2.2 0 (by omega)
 rw [Nat.add_zero] at hce
 have e:=HR.out
 unfold Pl.each2M at e
 rw [if_neg hsa,if_pos hsb,Pl.eachR F sa da db OA.out] at e
 simp only [Prod.mk.injEq] at e
 have HE:=hideP e
 rw [decide_eq_false hsa] at KA
 rw [decide_eq_true hsb] at KB
 have hx:-3000000000<=db.getD 0 0/\db.getD 0 0<=3000000000:=Pl.ok_cell OB.out (by
  have:db.getD 0 0=db[0]:=by simp [List.getD,hda]
  rw [this]; exact List.getElem_mem _)
 have HDA:=hideP hda
 have HCE:=hideP hce
 clear hsa hsb hda hce e hsc
 subst hao
 go_enter Tryz.func41,Tryz.ntmps41
 go_wp2_with fail
 refine (KA.out _).mono ?_
 rintro e w1 ⟨rfl,hb1⟩
 have W1:=hideP ((W0.out _).keep hb1)
 have CO:Hid (w1.cell? ⟨w.heap.size,0,none⟩=some (.func (.func f) #[] #[])):=by
  have:=hb1.cell (p:=⟨w.heap.size,0,none⟩) (by show w.heap.size<_; simp; omega)
  show _=_
  rw [this]
  simp [go_sem]
 clear hb1
 have c2:=(wid_sizes W1.out).2.1.2.2.1
 have c3:=(wid_sizes W1.out).2.1.2.2.2
 have hs1:=(wid_sizes W1.out).1
 go_wp2_with fail
 refine (KB.out _).mono ?_
 rintro e w1' ⟨rfl,hb1⟩
 replace W1:=hideP (W1.out.keep hb1)
 replace CO:Hid (w1'.cell? ⟨w.heap.size,0,none⟩=some (.func (.func f) #[] #[])):=(hb1.cell (p:=⟨w.heap.size,0,none⟩) (by show w.heap.size<_; omega)).trans CO.out
 clear hb1 c2 c3 hs1
 obtain ⟨hs1,⟨c0,c1,c2,c3⟩,⟨r0,r1,f3⟩,hbw⟩:=wid_sizes W1.out
 have BW:=hideP hbw
 have CA:=hideP c3
 clear hbw
 go_wp2_with fail
 refine (each1_any 86 #[.pointer (some ⟨w.heap.size,0,none⟩),.pointer (some ⟨w.heap.size+1+1,0,none⟩)] (fun x=>F x (db.getD 0 0)) (.slice a0 sa.length d0) (.slice a1 da.length d1) sa da w1' (by omega) hl1 W1.out.2.2.2.2.1 W1.out.2.2.2.2.2.1 callF93 ?_).mono ?_
 ·intro y hy w' hb
  have hyb:=Pl.ok_cell OA.out hy
  refine c93_any f (F y (db.getD 0 0)) w.heap.size (w.heap.size+1+1) b3 o3 db.length d3 (db.getD 0 0) y w' hcf ?_ ?_ (by rw [HDA.out]; omega) ?_ (fun w''=>HF.out _ _ w'' hyb.1 hyb.2 hx.1 hx.2)
  ·exact (hb.cell (p:=⟨w.heap.size,0,none⟩) (by show w.heap.size<_; omega)).trans CO.out
  ·exact (hb.cell (p:=⟨w.heap.size+1+1,1,none⟩) (by show w.heap.size+1+1<_; omega)).trans CA.out
  exact (hb.cell (p:=⟨b3,o3,none⟩) (by show b3<_; omega)).trans ((BW.out.cell (p:=⟨b3,o3,none⟩) hlt).trans HCE.out)
 rintro e w2 ⟨hb2,hor⟩
 rw [HE.out.2.1,HE.out.2.2,HE.out.1] at hor
 have W2:=hideP (W1.out.keep hb2)
 have B2:=hideP (BW.out.trans (hb2.mono (by omega)))
 clear hb2 c0 c1 c2 c3 r0 r1 f3 HE
 rcases hor with ⟨hc0,u0,u1,rfl,hres⟩ | ⟨hc0,rfl,rfl,rfl⟩
 rotate_left 1
 ·exact ⟨rfl,B2.out,.inr ⟨hc0,rfl,rfl,rfl⟩⟩
 have R2:=hideP hres
 have HC:=hideP hc0
 obtain ⟨x0,y0,e0⟩:=hres.1.form
 obtain ⟨x1,y1,e1⟩:=hres.2.1.form
 subst e0 e1
 obtain ⟨hs2,_,⟨r0,r1,f3⟩,_⟩:=wid_sizes W2.out
 clear hres hc0
 go_wp2_with fail
 refine bodyPost_ret (v:=.agg #[.slice x0 S.length y0,.slice x1 D.length y1]) (by simp [results,Tryz.results41,go_sem,r0,r1]) rfl ⟨(B2.out.setCell (by simp; omega) _).setCell (by simp; omega) _,.inl ⟨HC.out,_,_,rfl,?_,?_,R2.out.2.2⟩⟩
 ·exact Own.base (Own.store (Own.store R2.out.1 (by omega) _) (by omega) _) (by omega)
 exact Own.base (Own.store (Own.store R2.out.2.1 (by omega) _) (by omega) _) (by omega)
theorem needFit_any (B:Nat) (v:Value) (zs:List Int) (w:World) (hl:zs.length<=1048576) (h:Rd B w v zs) :
  Calls Tryz.prog 124 #[v] w fun e w'=>w'=w/\((Pl.fitsB zs=true/\e=.returned (.tuple #[]))\/(Pl.fitsB zs=false/\e=.panicked [thrown 6])):=by
 have K:=hideP (shapeFits_any B v zs w hl h)
 obtain ⟨a0,d0,e0⟩:=h.form
 subst e0
 clear h
 by_cases hf:Pl.fitsB zs=true
 ·rw [hf] at K
  have HF:=hideP hf
  clear hf
  go_enter Tryz.func124,Tryz.ntmps124
  go_wp2_with (first | (go_at_call 80; refine K.out.mono ?_; rintro e w' ⟨rfl,rfl⟩) | (go_at_call 73; refine (refuse_no _ _).mono ?_; rintro e w' ⟨rfl,rfl⟩))
  go_end0
  exact ⟨rfl,.inl ⟨HF.out,rfl⟩⟩
 have hf':Pl.fitsB zs=false:=by simpa using hf
 rw [hf'] at K
 have HF:=hideP hf'
 clear hf hf'
 go_enter Tryz.func124,Tryz.ntmps124
 go_wp2_with (first | (go_at_call 80; refine K.out.mono ?_; rintro e w' ⟨rfl,rfl⟩) | (go_at_call 73; refine (refuse_yes _ _).mono ?_; rintro e w' ⟨rfl,rfl⟩))
 exact ⟨rfl,rfl,.inr ⟨HF.out,rfl⟩⟩
theorem outer_impl (f:Nat) (nv:Int) (nb:Bool) (F:Int->Int->Int × Int) (v0 v1 v2 v3:Value) (sa da sb db:List Int) (w:World) (hcf:∀args w,(callFunc f args).run Tryz.prog w=.ok (.enter f args) w)
  (hF:∀x y w',-3000000000<=x->x<=3000000000->-3000000000<=y->y<=3000000000->Calls Tryz.prog f #[.int .i64 x,.int .i64 y] w' (CPost w' (F x y)))
  (h0:Rd w.heap.size w v0 sa) (h1:Rd w.heap.size w v1 da) (h2:Rd w.heap.size w v2 sb) (h3:Rd w.heap.size w v3 db) (oka:Pl.okB sa da=true) (okb:Pl.okB sb db=true) (c:Int) (S D:List Int) (hres:Pl.outerM F sa da sb db=(c,S,D)) :
  Calls Tryz.prog 65 #[.agg #[.func (.func f) #[] #[],.int .i64 nv,.bool nb],.agg #[v0,v1],.agg #[v2,v3]] w (KPost w c S D):=by
 obtain ⟨i0,hi,hz0,hz1,hz2⟩:=info_parts Tryz.info3
 have HI:=hideP (And.intro hi (And.intro hz0 (And.intro hz1 hz2)))
 clear hi hz0 hz1 hz2
 obtain ⟨hl0,hl1⟩:=Pl.ok_max oka
 obtain ⟨hl2,hl3⟩:=Pl.ok_max okb
 have A:∀o,Below w.heap.size w (w.alloc o):=fun o=>(Below.refl _ _).alloc (Nat.le_refl _) _
 have W0:=hideP (fun o=>wid_new (w.alloc o) ((h0.keep (A o)).up (by simp)) ((h1.keep (A o)).up (by simp)) ((h2.keep (A o)).up (by simp)) ((h3.keep (A o)).up (by simp)) 25 25 25)
 obtain ⟨a0,d0,e0⟩:=h0.form
 obtain ⟨a1,d1,b1,o1,e1,hao1,hb1,hc1⟩:=h1.parts
 obtain ⟨a2,d2,e2⟩:=h2.form
 obtain ⟨a3,d3,b3,o3,e3,hao3,hb3,hc3⟩:=h3.parts
 have P1:=hideP (And.intro hao1 (And.intro hb1 hc1))
 have P3:=hideP (And.intro hao3 (And.intro hb3 hc3))
 subst e0 e1 e2 e3
 have HF:=hideP hF
 have OX:=hideP (fun x (hx:x∈da)=>Pl.ok_cell oka hx)
 have OY:=hideP (fun x (hx:x∈db)=>Pl.ok_cell okb hx)
 have HR:=hideP hres
 clear h0 h1 h2 h3 hF oka okb hres hao1 hb1 hc1 hao3 hb3 hc3 A
 go_enter Tryz.func65,Tryz.ntmps65
 obtain ⟨sh,hsh⟩:∃sh,sa++sb=sh:=⟨_,rfl⟩
 have hlh:sh.length<=6:=by rw [<- hsh,List.length_append]; omega
 have HSH:=hideP hsh
 clear hsh
 have AL:Hid (∀(W:World) o,Below W.heap.size W (W.alloc o)):=fun W o=>(Below.refl _ _).alloc (Nat.le_refl _) _
 go_wp2_with fail
 have W0a:=hideP ((W0.out (.cells #[.func (.func f) #[] #[],.int .i64 nv,.bool nb] 60)).keep (AL.out _ (.cells #[.slice a0 sa.length d0,.slice a2 sb.length d2] 23)))
 have J:=joined2 (w.heap.size+1+1+1+1) (.slice a0 sa.length d0) (.slice a2 sb.length d2) sa sb _ (by omega) (by omega) (by simp) (by simp [go_sem]) (by simp [go_sem]) W0a.out.2.2.2.2.1 W0a.out.2.2.2.2.2.2.1
 rw [HSH.out] at J
 refine J.mono ?_
 clear J
 rintro e w1 ⟨v,rfl,hv,hb1⟩
 have W1:=hideP (W0a.out.keep hb1)
 have CO1:Hid (w1.cell? ⟨w.heap.size,0,none⟩=some (.func (.func f) #[] #[])):=by
  have:=hb1.cell (p:=⟨w.heap.size,0,none⟩) (by show w.heap.size<_; simp; omega)
  show _=_
  rw [this]
  simp [go_sem]
 have HV:Hid (Own (w.heap.size+1+1+1+1+1) w1 v sh):=by
  have:=hv
  show Own _ _ _ _
  simpa using this
 have RD1:=hideP hv.rd
 obtain ⟨zs,ys,ez⟩:=hv.form
 subst ez
 have BW1:=hideP (wid_sizes W1.out).2.2.2
 have hs1:=(wid_sizes W1.out).1
 have hs1':w.heap.size+1+1+1+1<w1.heap.size:=by have:=hb1.size; simp at this; omega
 clear hb1 hv W0 W0a
 by_cases hf:Pl.fitsB sh=true
 rotate_left 1
 ·have hf':Pl.fitsB sh=false:=by simpa using hf
  have KF:Hid (∀w',Rd w'.heap.size w' (.slice zs sh.length ys) sh->Calls Tryz.prog 124 #[.slice zs sh.length ys] w' fun e w''=>e=.panicked [thrown 6]/\w''=w'):=fun w' h=>(needFit_any _ _ sh w' (by omega) h).mono (by
   rintro e w'' ⟨rfl,⟨g,_⟩ | ⟨_,rfl⟩⟩
   ·rw [hf'] at g; cases g
   exact ⟨rfl,rfl⟩)
  have e:=HR.out
  unfold Pl.outerM at e
  rw [HSH.out,if_neg hf] at e
  simp only [Prod.mk.injEq] at e
  obtain ⟨rfl,rfl,rfl⟩:=e
  clear hf hf'
  go_wp2_with (go_at_call 124; refine (KF.out _ RD1.out).mono ?_; rintro e w1 ⟨rfl,rfl⟩)
  exact ⟨rfl,BW1.out,.inr ⟨by decide,rfl,rfl,rfl⟩⟩
 have KF:Hid (∀w',Rd w'.heap.size w' (.slice zs sh.length ys) sh->Calls Tryz.prog 124 #[.slice zs sh.length ys] w' fun e w''=>e=.returned (.tuple #[])/\w''=w'):=fun w' h=>(needFit_any _ _ sh w' (by omega) h).mono (by
  rintro e w'' ⟨rfl,⟨_,rfl⟩ | ⟨g,_⟩⟩
  ·exact ⟨rfl,rfl⟩
  rw [hf] at g; cases g)
 have KC:Hid (∀w',Rd w'.heap.size w' (.slice zs sh.length ys) sh->Calls Tryz.prog 81 #[.slice zs sh.length ys] w' fun e w''=>e=.returned (.int .i64 (Pl.prodC sh))/\w''=w'):=fun w' h=>cellCount_fits _ _ sh w' hf h
 have hp:0<=Pl.prodC sh/\Pl.prodC sh<=1001:=Pl.prodC_bd sh (by simp only [Pl.fitsB,Pl.baseB,Bool.and_eq_true] at hf; exact hf.1.2)
 have e:=HR.out
 unfold Pl.outerM at e
 rw [HSH.out,if_pos hf] at e
 generalize hC:Pl.firstG (Pl.pairF F) (Pl.pairs da db)=C at e
 have PC:=hideP hC
 have PE:=hideP e
 obtain ⟨cp,hcp⟩:∃cp:Nat,Pl.prodC sh=cp:=⟨(Pl.prodC sh).toNat,by omega⟩
 rw [hcp] at KC hp
 clear hC e HR hf hcp HSH
 generalize hn:da.length=n at *
 have Hn:Hid (da.length=n):=hn
 generalize hm:db.length=m at *
 have Hm:Hid (db.length=m):=hm
 clear hn hm
 go_wp2_with (first
  |(go_at_call 124; refine (KF.out _ RD1.out).mono ?_; rintro e w1 ⟨rfl,rfl⟩)
  |(go_at_call 81; refine (KC.out _ RD1.out).mono ?_; rintro e w1 ⟨rfl,rfl⟩)
  |(at_make; refine wpList_make_own _ rfl _ _ 23 rfl w1.heap.size 3 i0 (.int .i64 0) 1 Tryz.underlying23 HI.out.1 HI.out.2.1 HI.out.2.2.1 _ _ _ cp rfl rfl rfl ?b2 ?b3 ?b4 ?_))
 case b2=>rw [HI.out.2.2.2]; omega
 case b3=>unfold maxLen; omega
 case b4=>exact Nat.le_refl _
 intro w2 hown hgrow
 have B2:Hid (Below w1.heap.size w1 w2):=(Below.refl _ _).grown hgrow (Nat.le_refl _) (by intro k h; cases h)
 have W2:=hideP (W1.out.keep B2.out)
 have HO2:=hideP hown
 clear hown hgrow KF KC hp HI
 have c1:=(wid_sizes W2.out).2.1.2.1
 go_wp2_with fail
 clear c1
 go_loopw [8,10,12,27] (fun s8 _ _ i wr=>∃k:Nat,k<=n/\i=.int .i64 k/\Hid (∀p∈Pl.pairs (da.take k) db,(Pl.pairF F p).2=0)/\Hid (wr.ownsRow w1.heap.size 3 1 s8 (Pl.pairs (da.take k) db).length (((Pl.pairs (da.take k) db).map (fun p=>(Pl.pairF F p).1)).map (Value.int .i64)))/\Hid (Below w1.heap.size w1 wr)) (fun _ _ _ i _=>n-(intOf i).toNat)
 case atStart =>
  refine ⟨0,Nat.zero_le _,rfl,by intro x hx; rw [Pl.upP_zero] at hx; simp at hx,?_,B2⟩
  show World.ownsRow _ _ _ _ _ _ _
  rw [Pl.upP_zero]
  exact HO2.out
 obtain ⟨k,hk,rfl,hz,ho,hbel⟩:=hrel
 have WR:=hideP (W1.out.keep hbel.out)
 have HBW:Hid (Below w.heap.size w wr):=BW1.out.trans (hbel.out.mono (by omega))
 by_cases hlt:k<n
 rotate_left 1
 ·have kn:k=n:=by omega
  subst kn
  have EC:Pl.firstG (Pl.pairF F) (Pl.pairs da db)=0:=Pl.firstG_zero (Pl.pairF F) (Pl.pairs da db) (by
   have:=hz.out
   rw [Pl.pairs_all _ _ _ (by rw [Hn.out]; exact Nat.le_refl _)] at this
   exact this)
  rw [PC.out] at EC
  have e:=PE.out
  rw [if_pos EC] at e
  simp only [Prod.mk.injEq] at e
  have hDL:D.length=(Pl.pairs (da.take k) db).length:=by
   rw [Pl.pairs_all _ _ _ (by rw [Hn.out]; exact Nat.le_refl _),<- e.2.2,List.length_map]
  have OD:=ho.out
  rw [<- hDL,Pl.pairs_all _ _ _ (by rw [Hn.out]; exact Nat.le_refl _),e.2.2] at OD
  have HOD:=hideP OD
  have HE:=hideP e
  obtain ⟨xo,yo,eo⟩:=owns_form OD
  subst eo
  obtain ⟨hs5,_,⟨r0,r1,f3⟩,_⟩:=wid_sizes WR.out
  have HOW:=hideP (show Own (w.heap.size+1+1+1+1+1) wr (.slice zs sh.length ys) sh by
   obtain ⟨q,p,e,h⟩:=HV.out
   refine ⟨q,p,e,?_⟩
   have:=hbel.out.size
   rcases h with h | ⟨g,of,g1',g2',g3,g4⟩
   ·exact .inl h
   exact .inr ⟨g,of,g1',by omega,g3,fun i hi=>⟨(hbel.out.cell (p:=⟨g,of+i,none⟩) g2').trans (g4 i hi).1,(hbel.out.frozen (p:=⟨g,of+i,none⟩) g2').trans (g4 i hi).2⟩⟩)
  clear EC e OD hDL ho
  go_wp2_with fail
  refine bodyPost_ret (v:=.agg #[.slice zs sh.length ys,.slice xo D.length yo]) (by simp [results,Tryz.results65,go_sem,r0,r1]) rfl ?_
  show KPost _ _ _ _ _ _
  rw [<- HE.out.1,<- HE.out.2.1]
  refine ⟨(HBW.out.setCell (by simp; omega) _).setCell (by simp; omega) _,.inl ⟨rfl,_,_,rfl,?_,?_,?_⟩⟩
  ·exact Own.base (Own.store (Own.store HOW.out (by omega) _) (by omega) _) (by omega)
  ·have:=(own_of_any HOD.out).base (show w.heap.size+1+1+1+1+1<=w1.heap.size by omega)
   exact Own.base (Own.store (Own.store this (by omega) _) (by omega) _) (by omega)
  refine apart_right (B:=w1.heap.size) (own_of_any HOD.out) ?_
  exact HV.out.lt
 have hlen:k<da.length:=by rw [Hn.out]; exact hlt
 have hao1:=P1.out.1 (by omega)
 have hck1:wr.cell? ⟨b1,o1+k,none⟩=some (.int .i64 (da.getD k 0)):=(HBW.out.cell (p:=⟨b1,o1+k,none⟩) (P1.out.2.1 (by omega))).trans (P1.out.2.2 k (by omega))
 clear P1
 subst hao1
 have X:=OX.out (da.getD k 0) (by
  have:da.getD k 0=da[k]:=by simp [List.getD,hlen]
  rw [this]; exact List.getElem_mem hlen)
 have HX:=hideP X
 obtain ⟨x,hx⟩:∃x,da.getD k 0=x:=⟨_,rfl⟩
 have EX:=hideP hx
 rw [hx] at hck1 HX
 clear X hx
 have c3:=(wid_sizes WR.out).2.1.2.2.2
 go_wp2_with fail
 rename World=>wk
 clear c3 hck1 HX
 go_loopw [8,12,34] (fun s8 _ j wq=>∃l:Nat,l<=m/\j=.int .i64 l/\Hid (∀p∈Pl.upP da db k l,(Pl.pairF F p).2=0)/\Hid (wq.ownsRow w1.heap.size 3 1 s8 (Pl.upP da db k l).length (((Pl.upP da db k l).map (fun p=>(Pl.pairF F p).1)).map (Value.int .i64)))/\Hid (Below w1.heap.size w1 wq)) (fun _ _ j _=>m-(intOf j).toNat)
 case atStart =>
  refine ⟨0,Nat.zero_le _,rfl,?_,?_,hbel⟩
  ·intro p hp
   rw [Pl.upP_start] at hp
   exact hz.out p hp
  show World.ownsRow _ _ _ _ _ _ _
  rw [Pl.upP_start]
  exact ho.out
 clear hz ho hbel WR HBW
 obtain ⟨l,hl,rfl,hz,ho,hbel⟩:=hrel
 have WR:=hideP (W1.out.keep hbel.out)
 have HBW:Hid (Below w.heap.size w wr):=BW1.out.trans (hbel.out.mono (by omega))
 by_cases hlt2:l<m
 rotate_left 1
 ·have lm:l=m:=by omega
  subst lm
  have RW:Hid (Pl.upP da db k l=Pl.pairs (da.take (k+1)) db):=Pl.upP_row da db k l hlen (by rw [Hm.out]; exact Nat.le_refl _)
  go_wp2_with fail
  go_roundw
  case rel=>exact ⟨k+1,by omega,by go_num,by intro p hp; rw [<- RW.out] at hp; exact hz.out p hp,by show World.ownsRow _ _ _ _ _ _ _; rw [<- RW.out]; exact ho.out,hbel⟩
  simp [intOf]; omega
 have hlen':l<db.length:=by rw [Hm.out]; exact hlt2
 have hao3:=P3.out.1 (by omega)
 have hck3:wr.cell? ⟨b3,o3+l,none⟩=some (.int .i64 (db.getD l 0)):=(HBW.out.cell (p:=⟨b3,o3+l,none⟩) (P3.out.2.1 (by omega))).trans (P3.out.2.2 l (by omega))
 have hco:wr.cell? ⟨w.heap.size,0,none⟩=some (.func (.func f) #[] #[]):=(hbel.out.cell (p:=⟨w.heap.size,0,none⟩) (by show w.heap.size<_; omega)).trans CO1.out
 clear P3
 subst hao3
 have Y:=OY.out (db.getD l 0) (by
  have:db.getD l 0=db[l]:=by simp [List.getD,hlen']
  rw [this]; exact List.getElem_mem hlen')
 have T:Hid (Pl.upP da db k (l+1)=Pl.upP da db k l++[(da.getD k 0,db.getD l 0)]):=Pl.upP_snoc da db k l hlen'
 have FA:Hid (¬(F (da.getD k 0) (db.getD l 0)).2=0->Pl.firstG (Pl.pairF F) (Pl.pairs da db)=(F (da.getD k 0) (db.getD l 0)).2):=Pl.pairs_first F da db k l hlen hlen' hz.out
 have X:=OX.out (da.getD k 0) (by
  have:da.getD k 0=da[k]:=by simp [List.getD,hlen]
  rw [this]; exact List.getElem_mem hlen)
 rw [EX.out] at T FA X
 generalize db.getD l 0=y at *
 have LC:Hid (∀w',Calls Tryz.prog f #[.int .i64 x,.int .i64 y] w' (CPost w' (F x y))):=fun w'=>HF.out x y w' X.1 X.2 Y.1 Y.2
 have UB:Hid ((Pl.upP da db k l).length+1<=16777216):=by
  show _<=_
  rw [Pl.upP_len da db k l (by omega) (by omega)]
  have:=Nat.mul_le_mul (show k<=1000 by omega) (show db.length<=1000 by rw [Hm.out]; omega)
  omega
 clear X Y hlen'
 have hltl:(l:Int)<(m:Int):=by omega
 go_wp2_with fail
 refine (LC.out _).mono ?_
 rintro e w5 ⟨hb5,hor⟩
 have B5:=hideP (hbel.out.trans (hb5.mono hbel.out.size))
 have HO5:=hideP (owns_keep ho.out hb5)
 have HBW5:=hideP (HBW.out.trans (hb5.mono HBW.out.size))
 have hsz5:w1.heap.size<=w5.heap.size:=B5.out.size
 clear hb5 hck3 hco
 rcases hor with ⟨hr,rfl⟩ | ⟨hr,rfl⟩
 rotate_left 1
 ·have EC:=FA.out hr
  rw [PC.out] at EC
  have e:=PE.out
  rw [if_neg (by rw [EC]; exact hr)] at e
  simp only [Prod.mk.injEq] at e
  obtain ⟨rfl,rfl,rfl⟩:=e
  exact ⟨rfl,HBW5.out,.inr ⟨by rw [EC]; exact hr,rfl,rfl,by rw [EC]⟩⟩
 have Z:Hid (∀p∈Pl.upP da db k (l+1),(Pl.pairF F p).2=0):=by
  intro p hp
  rw [T.out] at hp
  simp at hp
  rcases hp with hp | rfl
  ·exact hz.out p hp
  exact hr
 have V:Hid ((Pl.upP da db k (l+1)).map (fun p=>(Pl.pairF F p).1)=(Pl.upP da db k l).map (fun p=>(Pl.pairF F p).1)++[(F x y).1]):=by show _=_; rw [T.out]; simp [Pl.pairF]
 have VL:Hid ((Pl.upP da db k (l+1)).length=(Pl.upP da db k l).length+1):=by show _=_; rw [T.out]; simp
 clear hr FA
 generalize (F x y).1=r at *
 go_wp2_with (at_builtin; refine wpList_append_one (base:=w1.heap.size) _ _ _ rfl _ _ rfl _ rfl rfl _ _ HO5.out UB.out hsz5 ?_)
 intro v' w9 ho' hg
 have R9:Hid (w9.ownsRow w1.heap.size 3 1 v' (Pl.upP da db k (l+1)).length (((Pl.upP da db k (l+1)).map (fun p=>(Pl.pairF F p).1)).map (Value.int .i64))):=by
  show World.ownsRow _ _ _ _ _ _ _
  rw [V.out,VL.out,List.map_append,List.map_map]
  exact ho'
 have B9:Hid (Below w1.heap.size w1 w9):=(B5.out.alloc hsz5 _).grown hg (by simp; omega) (fun k hk=>(HO5.out.lt k hk).1)
 clear ho' hg
 go_wp2_with fail
 go_roundw
 case rel=>exact ⟨l+1,by omega,by go_num,Z,R9,B9⟩
 simp [intOf]; omega
end Go.Proofs.YtacapaiadggemaaGreat
