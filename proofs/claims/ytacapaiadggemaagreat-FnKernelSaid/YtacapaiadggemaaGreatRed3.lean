import Derived.Test.YtacapaiadggemaaGreatTwoR
import Derived.Test.YtacapaiadggemaaGreatSpecO
namespace Go.Proofs.YtacapaiadggemaaGreat
open Go.RowKit
set_option maxRecDepth 100000
set_option maxHeartbeats 16000000
set_option linter.unusedVariables false
theorem Pl.ok_row {sh da:List Int} (h:Pl.okB sh da=true) {s n r:Nat} (hf:Pl.fitsB sh.tail=true) (hs:Pl.prodC sh.tail=s) (hl:da.length=n * s) (hr:r<n):Pl.okB sh.tail (Pl.rowAt da s r)=true:=by
 have h1:(r+1) * s<=da.length:=by rw [hl]; exact Nat.mul_le_mul_right s hr
 simp only [Pl.okB,Bool.and_eq_true,decide_eq_true_eq,List.all_eq_true] at h ⊢
 exact ⟨⟨hf,by rw [Pl.rowAt_len h1,hs]⟩,fun x hx=>h.2 x (Pl.rowAt_mem hx)⟩
theorem l2None_any (k:Nat) (w:World) (h0:1<=k) (h1:k<11):Calls Tryz.prog 125 #[.int .i64 (k:Int)] w fun e w'=>e=.returned (.tuple #[.int .i64 (Pl.noneV k),.bool (!Pl.noneB k)])/\w'=w:=by
 have hk:k=1\/k=2\/k=3\/k=4\/k=5\/k=6\/k=7\/k=8\/k=9\/k=10:=by omega
 rcases hk with rfl | rfl | rfl | rfl | rfl | rfl | rfl | rfl | rfl | rfl
 all_goals
  go_enter Tryz.func125,Tryz.ntmps125
  go_wp2
  go_ret2
  exact ⟨rfl,rfl⟩
theorem l2Reduce_rows (op:Int) (F:Int->Int->Int × Int) (b0 o0 c0 b1 o1 c1 n s:Nat) (sh da:List Int) (w:World)
  (hF:∀x y w',-3000000000<=x->x<=3000000000->-3000000000<=y->y<=3000000000->Calls Tryz.prog 63 #[.int .i64 op,.int .i64 x,.int .i64 y] w' fun e w''=>e=.returned (.tuple #[.int .i64 (F x y).1,.int .i64 (F x y).2])/\w''=w')
  (hFb:∀x y,-3000000000<=x->x<=3000000000->-3000000000<=y->y<=3000000000->(F x y).2=0->-3000000000<=(F x y).1/\(F x y).1<=3000000000)
  (h0:Rd w.heap.size w (.slice (some ⟨b0,o0,none⟩) sh.length c0) sh) (h1:Rd w.heap.size w (.slice (some ⟨b1,o1,none⟩) da.length c1) da) (hc0:sh.length<=c0) (hc0':c0<=9223372036854775807) (hc1:da.length<=c1) (hc1':c1<=9223372036854775807)
  (hok:Pl.okB sh da=true) (hsl:¬sh.length=0) (hft:Pl.fitsB sh.tail=true) (hn:sh.getD 0 0=n) (hs:Pl.prodC sh.tail=s) (hn1:1<=n) (hn2:n<=1000) (hl:da.length=n * s)
  (r:Int × List Int) (hres:Pl.foldM F da s n=r) (c:Int) (S D:List Int) (hr:(if r.1=0 then (0,sh.tail,r.2) else (r.1,[],[]))=(c,S,D)) :
  Calls Tryz.prog 67 #[.int .i64 op,.agg #[.slice (some ⟨b0,o0,none⟩) sh.length c0,.slice (some ⟨b1,o1,none⟩) da.length c1]] w (FPost w c S D):=by
 obtain ⟨hm0,hm1⟩:=Pl.ok_max hok
 have hrr:sh.all Pl.inR=true:=by
  have:=(Pl.ok_len hok).2
  simp only [Pl.fitsB,Pl.baseB,Bool.and_eq_true] at this
  exact this.1.2
 have KR:Hid (∀(i:Nat) w',i<n->Below w.heap.size w w'->Calls Tryz.prog 100 #[.agg #[.slice (some ⟨b0,o0,none⟩) sh.length c0,.slice (some ⟨b1,o1,none⟩) da.length c1],.int .i64 (i:Int)] w' fun e w''=>∃u0 u1,e=.returned (.agg #[u0,u1])/\Res w'.heap.size w'' u0 u1 sh.tail (Pl.rowAt da s i)/\Below w'.heap.size w' w''):=fun i w' hi hb =>
  l2Row_any b0 o0 c0 b1 o1 c1 i s sh da w' ((h0.keep hb).up hb.size) ((h1.keep hb).up hb.size) (by omega) hm0 hm1 hc0 hc0' hc1 hc1' hrr hs (by rw [hl]; exact Nat.mul_le_mul_right s hi) (by omega)
 have RO:Hid (∀i,i<n->Pl.okB sh.tail (Pl.rowAt da s i)=true):=fun i hi=>Pl.ok_row hok hft hs hl hi
 obtain ⟨hlt0,hce⟩:=rd_cell h0 (i:=0) (by omega)
 rw [Nat.add_zero,hn] at hce
 have HF:=hideP hF
 have HB:=hideP hFb
 have HR:=hideP hres
 have HRR:=hideP hr
 have test:((sh.length:Int) == 0)=false:=by rw [beq_eq_false_iff_ne]; omega
 have B:Hid (∀o o',Below w.heap.size w ((w.alloc o).alloc o')):=fun o o'=>((Below.refl _ _).alloc (Nat.le_refl _) _).alloc (by simp) _
 obtain ⟨n',rfl⟩:∃n',n=n'+1:=⟨n-1,by omega⟩
 have test2:(((n':Int)+1) == 0)=false:=by rw [beq_eq_false_iff_ne]; omega
 clear hF hFb hres hr h0 h1 hok hft hs hl hrr hn hc0 hc1 hc0' hc1'
 generalize sh.tail=tl at *
 go_enter Tryz.func67,Tryz.ntmps67
 go_wp2_with fail
 refine (KR.out n' _ (by omega) (B.out _ _)).mono ?_
 rintro e w1 ⟨u0,u1,rfl,res1,hb1⟩
 have PB:Hid (∀W,Below w1.heap.size w1 W->(W.cell? ⟨w.heap.size,0,none⟩=some (.slice (some ⟨b0,o0,none⟩) sh.length c0)/\W.cell? ⟨w.heap.size,1,none⟩=some (.slice (some ⟨b1,o1,none⟩) da.length c1))/\(W.cell? ⟨w.heap.size+1,0,none⟩=some (.slice none 0 0)/\W.cell? ⟨w.heap.size+1,1,none⟩=some (.slice none 0 0)/\∀o,W.frozen? ⟨w.heap.size+1,o,none⟩=false)/\Below w.heap.size w W):=fun W hb=>by
  have hs:=hb1.size
  refine boxes2 (hb:=?_)
  have k:Below (w.heap.size+1+1) _ w1:=hb1.mono (by simp)
  exact k.trans (hb.mono (by simp at hs; omega))
 have hs1:w.heap.size+1+1<=w1.heap.size:=by have:=hb1.size; simpa using this
 have res1':Res (w.heap.size+1+1) w1 u0 u1 tl (Pl.rowAt da s n'):=by simpa using res1
 have AC1:=hideP (Ac.new (w:=w) res1')
 obtain ⟨xf,yf,xg,yg,eu,ev⟩:=res1.forms
 subst eu ev
 clear res1 res1' hb1 hce
 go_wp2_with fail
 go_loopw [12,13,14] (fun i _ _ wr=>∃q:Nat,q<=n'/\i=.int .i64 ((q:Int)-1)/\∃acc u0 u1,Hid (Pl.okB tl acc=true)/\Hid (Pl.foldL F (Pl.rowsDown da s q) acc=r)/\Hid (Ac w1 (w.heap.size+1+1) w1.heap.size u0 u1 tl acc wr)) (fun i _ _ _=>(intOf i+1).toNat)
 case atStart =>
  refine ⟨n',Nat.le_refl _,by go_num,Pl.rowAt da s n',_,_,RO.out n' (by omega),?_,AC1⟩
  have:=HR.out
  unfold Pl.foldM at this
  rw [Nat.add_sub_cancel] at this
  exact this
 clear AC1
 obtain ⟨q,hq,rfl,acc,u0,u1,hao,hfo,AC⟩:=hrel
 obtain ⟨xu,yu,xv,yv,eu,ev⟩:=AC.out.res.forms
 subst eu ev
 have HBW:=hideP (PB.out wr AC.out.bel).2.2
 by_cases hq0:q=0
 ·subst hq0
  have e:r=(0,acc):=hfo.out.symm
  have hre:=HRR.out
  rw [e] at hre
  simp only [if_true,Prod.mk.injEq] at hre
  obtain ⟨rfl,rfl,rfl⟩:=hre
  have p0:wr.cell? ⟨w1.heap.size,0,none⟩=some (.slice xu tl.length yu):=cell_blk AC.out.blk
  have p1:wr.cell? ⟨w1.heap.size,1,none⟩=some (.slice xv acc.length yv):=cell_blk AC.out.blk
  have hsz:w1.heap.size<wr.heap.size:=(Array.getElem?_eq_some_iff.1 AC.out.blk).1
  have r0:=(PB.out wr AC.out.bel).2.1.1
  have r1:=(PB.out wr AC.out.bel).2.1.2.1
  have f2:=(PB.out wr AC.out.bel).2.1.2.2
  clear e
  go_wp2_with fail
  refine bodyPost_ret (v:=.tuple #[.agg #[.slice xu tl.length yu,.slice xv acc.length yv],.int .i64 0]) (by simp [results,Tryz.results67,go_sem,r0,r1]) rfl ⟨(HBW.out.setCell (by simp) _).setCell (by simp) _,_,_,rfl,?_,?_,AC.out.res.2.2⟩
  ·exact Own.base (Own.store (Own.store AC.out.res.1 (by omega) _) (by omega) _) (by omega)
  exact Own.base (Own.store (Own.store AC.out.res.2.1 (by omega) _) (by omega) _) (by omega)
 obtain ⟨q',rfl⟩:∃q',q=q'+1:=⟨q-1,by omega⟩
 have eq1:(((q'+1:Nat)):Int)-1=(q':Int):=by omega
 rw [eq1]
 clear eq1
 have HFO:Hid (Pl.foldL F (Pl.rowAt da s q'::Pl.rowsDown da s q') acc=r):=hfo.out
 have HRO:=hideP (RO.out q' (by omega))
 obtain ⟨cc,S9,D9,hM⟩:∃cc S9 D9,Pl.each2M F tl (Pl.rowAt da s q') tl acc=(cc,S9,D9):=⟨_,_,_,rfl⟩
 have HM:=hideP hM
 have KE:Hid (∀x0 x1 w',Below wr.heap.size wr w'->Rd w'.heap.size w' x0 tl->Rd w'.heap.size w' x1 (Pl.rowAt da s q')->Calls Tryz.prog 39 #[.int .i64 op,.agg #[x0,x1],.agg #[.slice xu tl.length yu,.slice xv acc.length yv]] w' (FPost w' cc S9 D9)):=fun x0 x1 w' hb g0 g1 =>
  l2Each_any op F x0 x1 _ _ tl (Pl.rowAt da s q') tl acc w' HF.out g0 g1 ((AC.out.keep hb).res.1.rd) ((AC.out.keep hb).res.2.1.rd) HRO.out hao.out cc S9 D9 HM.out
 have KQ:=hideP (fun w' hb=>KR.out q' w' (by omega) hb)
 clear hM hfo
 generalize Pl.rowAt da s q'=row at *
 go_upto_region 16 with fail
 go_cut [13,14] (fun s13 s14 wx=>∃P z0 y0 z1 y1,s13=.pointer (some ⟨P,0,none⟩)/\s14=.int .i64 cc/\Hid (Ac wr wr.heap.size P (.slice z0 S9.length y0) (.slice z1 D9.length y1) S9 D9 wx))
 case rest =>
  obtain ⟨P,z0,y0,z1,y1,rfl,rfl,AX⟩:=hcut
  rename World=>wx
  have hrows:=HM.out
  rw [Pl.each2_rows F HRO.out hao.out] at hrows
  have hfold:=HFO.out
  unfold Pl.foldL at hfold
  have MV:=hideP (AC.out.move (Nat.le_refl _) (by have:=AC.out.bel.size; omega) AX.out)
  have p0:wx.cell? ⟨P,0,none⟩=some (.slice z0 S9.length y0):=cell_blk AX.out.blk
  have p1:wx.cell? ⟨P,1,none⟩=some (.slice z1 D9.length y1):=cell_blk AX.out.blk
  have hPx:P<wx.heap.size:=(Array.getElem?_eq_some_iff.1 AX.out.blk).1
  by_cases hz:Pl.firstG (Pl.pairF F) (row.zip acc)=0
  ·rw [if_pos hz] at hrows hfold
   simp only [Prod.mk.injEq] at hrows
   have OKM:=hideP (Pl.ok_map F HB.out HRO.out hao.out hz)
   have HFD:=hideP hfold
   obtain ⟨rfl,rfl,e3⟩:=hrows
   rw [e3] at OKM HFD
   clear hfold hz e3
   have a0:wx.cell? ⟨w1.heap.size,0,none⟩=some (.slice xu tl.length yu):=cell_blk MV.out.1
   have a1:wx.cell? ⟨w1.heap.size,1,none⟩=some (.slice xv acc.length yv):=cell_blk MV.out.1
   have fA:∀o,wx.frozen? ⟨w1.heap.size,o,none⟩=false:=fun o=>frozen_blk MV.out.1
   have hAx:w1.heap.size<wx.heap.size:=(Array.getElem?_eq_some_iff.1 MV.out.1).1
   go_wp2_with fail
   go_roundw
   case rel=>exact ⟨q',by omega,by go_num,D9,_,_,OKM,HFD,MV.out.2⟩
   simp [intOf]
  rw [if_neg hz] at hrows hfold
  simp only [Prod.mk.injEq] at hrows
  obtain ⟨e1,rfl,rfl⟩:=hrows
  have hne:(cc != 0)=true:=by rw [bne_iff_ne,<- e1]; exact hz
  have hre:=HRR.out
  rw [<- hfold,if_neg (by exact hz)] at hre
  simp only [Prod.mk.injEq] at hre
  obtain ⟨hc9,rfl,rfl⟩:=hre
  have HC9:=hideP (hc9.symm.trans e1)
  clear hfold hz e1 hc9
  have BX:=hideP (AC.out.bel.trans (AX.out.bel.mono AC.out.bel.size))
  have r0:=(PB.out wx BX.out).2.1.1
  have r1:=(PB.out wx BX.out).2.1.2.1
  have f2:=(PB.out wx BX.out).2.1.2.2
  have HBX:=hideP (PB.out wx BX.out).2.2
  have hsx:w.heap.size+1<wx.heap.size:=by have:=BX.out.size; omega
  go_wp2_with fail
  refine bodyPost_ret (v:=.tuple #[.agg #[.slice none 0 0,.slice none 0 0],.int .i64 cc]) (by simp [results,Tryz.results67,go_sem,r0,r1]) rfl ?_
  show FPost _ _ _ _ _ _
  rw [HC9.out]
  exact ⟨(HBX.out.setCell (by simp) _).setCell (by simp) _,_,_,rfl,Own.nil _ _,Own.nil _ _,.inl rfl⟩
 refine wp_region_held (S:=fun w'=>Below wr.heap.size wr w') (by kernel_rfl) ?_
 change wpAnyH _ _ _ _ _ _ _ _ (World.drew _)
 have R0:=hideP (Rn.start wr)
 generalize World.drew wr=wn0 at R0 ⊢
 refine tz 0 (.int .i64 op) rfl R0.out.bel (fun w' hS=>by clear hS; go_simp) ?_
 refine tz 1 (.agg #[.slice (some ⟨b0,o0,none⟩) sh.length c0,.slice (some ⟨b1,o1,none⟩) da.length c1]) rfl R0.out.bel (fun w' hS=>by obtain ⟨g0,g1⟩:=(PB.out w' (AC.out.bel.trans (hS.mono AC.out.bel.size))).1; clear hS; go_simp) ?_
 refine tz 2 (.int .i64 (q':Int)) rfl R0.out.bel (fun w' hS=>by clear hS; go_simp) ?_
 refine tz 4 (.agg #[.slice xu tl.length yu,.slice xv acc.length yv]) rfl R0.out.bel (fun w' hS=>by have hk:=(AC.out.keep hS).blk; have g0:w'.cell? ⟨w1.heap.size,0,none⟩=some (.slice xu tl.length yu):=cell_blk hk; have g1:w'.cell? ⟨w1.heap.size,1,none⟩=some (.slice xv acc.length yv):=cell_blk hk; clear hk; clear hS; go_simp) ?_
 refine ry2 3 9 rfl rfl (fun K hK=>?_) (fun K hK=>?_)
 rotate_left 1
 ·go_simp
  have R1:=hideP (R0.out.var)
  refine hK.out _ _ R1.out.bel (fun _=>?_)
  clear hK R0
  generalize wn0.alloc (.cells #[.slice none 0 0,.slice none 0 0] 25)=wn1 at *
  generalize wn0.heap.size=P at *
  refine ry1 3 rfl (fun K hK=>?_)
  go_simp
  refine (KQ.out _ (HBW.out.trans (R1.out.bel.mono HBW.out.size))).mono ?_
  rintro e wn2 ⟨x0,x1,rfl,resa,hba⟩
  have R2:=hideP (R1.out.row resa hba)
  clear resa hba
  refine hK.out _ _ R2.out.bel (fun _=>?_)
  clear hK R1
  refine ry1 5 rfl (fun K hK=>?_)
  go_simp
  refine (KE.out _ _ _ R2.out.bel (R2.out.x _ _ _ _ rfl).1 (R2.out.x _ _ _ _ rfl).2).mono ?_
  rintro e wn3 ⟨hbc,p0,p1,rfl,resc⟩
  have R3:=hideP (R2.out.each resc hbc)
  obtain ⟨z0,y0,z1,y1,ez0,ez1⟩:=resc.forms
  subst ez0 ez1
  clear hbc resc
  refine hK.out _ _ R3.out.bel (fun _=>?_)
  clear hK R2
  refine tz 6 (.tuple #[.agg #[.slice z0 S9.length y0,.slice z1 D9.length y1],.int .i64 cc]) rfl R3.out.bel (fun w' hS=>by clear hS; go_simp) ?_
  refine tz 7 (.agg #[.slice z0 S9.length y0,.slice z1 D9.length y1]) rfl R3.out.bel (fun w' hS=>by clear hS; go_simp) ?_
  refine tz 8 (.int .i64 cc) rfl R3.out.bel (fun w' hS=>by clear hS; go_simp) ?_
  refine ry1 10 rfl (fun K hK=>?_)
  have MK:=hideP (R3.out.done)
  have hp:=(R3.out.v _ rfl).2
  have hA1:=(Array.getElem?_eq_some_iff.1 hp).1
  have cA0:wn3.cell? ⟨P,0,none⟩=some (.slice none 0 0):=cell_blk hp
  have cA1:wn3.cell? ⟨P,1,none⟩=some (.slice none 0 0):=cell_blk hp
  have fA:∀o,wn3.frozen? ⟨P,o,none⟩=false:=fun o=>frozen_blk hp
  clear hp
  go_simp
  refine hK.out _ _ MK.out.bel (fun _=>?_)
  clear hK
  refine ry1 11 rfl (fun K hK=>?_)
  go_simp
  refine hK.out _ _ MK.out.bel (fun _=>?_)
  clear hK
  refine wpAnyH_done (by kernel_rfl) ?_ _
  clear cA0 cA1 fA
  go_wp2_with fail
  go_meet
  exact ⟨_,_,_,_,_,rfl,rfl,MK⟩
 go_simp
 refine (KQ.out _ (HBW.out.trans (R0.out.bel.mono HBW.out.size))).mono ?_
 rintro e wn1 ⟨x0,x1,rfl,resa,hba⟩
 have R1:=hideP (R0.out.row resa hba)
 clear resa hba
 refine hK.out _ _ R1.out.bel (fun _=>?_)
 clear hK R0
 refine ry2 5 9 rfl rfl (fun K hK=>?_) (fun K hK=>?_)
 ·go_simp
  refine (KE.out _ _ _ R1.out.bel (R1.out.x _ _ _ _ rfl).1 (R1.out.x _ _ _ _ rfl).2).mono ?_
  rintro e wn2 ⟨hbc,p0,p1,rfl,resc⟩
  have R2:=hideP (R1.out.each resc hbc)
  obtain ⟨z0,y0,z1,y1,ez0,ez1⟩:=resc.forms
  subst ez0 ez1
  clear hbc resc
  refine hK.out _ _ R2.out.bel (fun _=>?_)
  clear hK R1
  refine tz 6 (.tuple #[.agg #[.slice z0 S9.length y0,.slice z1 D9.length y1],.int .i64 cc]) rfl R2.out.bel (fun w' hS=>by clear hS; go_simp) ?_
  refine tz 7 (.agg #[.slice z0 S9.length y0,.slice z1 D9.length y1]) rfl R2.out.bel (fun w' hS=>by clear hS; go_simp) ?_
  refine tz 8 (.int .i64 cc) rfl R2.out.bel (fun w' hS=>by clear hS; go_simp) ?_
  refine ry1 9 rfl (fun K hK=>?_)
  go_simp
  have R3:=hideP (R2.out.var)
  refine hK.out _ _ R3.out.bel (fun _=>?_)
  clear hK R2
  generalize wn2.alloc (.cells #[.slice none 0 0,.slice none 0 0] 25)=wn3 at *
  generalize wn2.heap.size=P at *
  refine ry1 10 rfl (fun K hK=>?_)
  have MK:=hideP (R3.out.done)
  have hp:=(R3.out.v _ rfl).2
  have hA1:=(Array.getElem?_eq_some_iff.1 hp).1
  have cA0:wn3.cell? ⟨P,0,none⟩=some (.slice none 0 0):=cell_blk hp
  have cA1:wn3.cell? ⟨P,1,none⟩=some (.slice none 0 0):=cell_blk hp
  have fA:∀o,wn3.frozen? ⟨P,o,none⟩=false:=fun o=>frozen_blk hp
  clear hp
  go_simp
  refine hK.out _ _ MK.out.bel (fun _=>?_)
  clear hK
  refine ry1 11 rfl (fun K hK=>?_)
  go_simp
  refine hK.out _ _ MK.out.bel (fun _=>?_)
  clear hK
  refine wpAnyH_done (by kernel_rfl) ?_ _
  clear cA0 cA1 fA
  go_wp2_with fail
  go_meet
  exact ⟨_,_,_,_,_,rfl,rfl,MK⟩
 go_simp
 have R2:=hideP (R1.out.var)
 refine hK.out _ _ R2.out.bel (fun _=>?_)
 clear hK R1
 generalize wn1.alloc (.cells #[.slice none 0 0,.slice none 0 0] 25)=wn2 at *
 generalize wn1.heap.size=P at *
 refine ry1 5 rfl (fun K hK=>?_)
 go_simp
 refine (KE.out _ _ _ R2.out.bel (R2.out.x _ _ _ _ rfl).1 (R2.out.x _ _ _ _ rfl).2).mono ?_
 rintro e wn3 ⟨hbc,p0,p1,rfl,resc⟩
 have R3:=hideP (R2.out.each resc hbc)
 obtain ⟨z0,y0,z1,y1,ez0,ez1⟩:=resc.forms
 subst ez0 ez1
 clear hbc resc
 refine hK.out _ _ R3.out.bel (fun _=>?_)
 clear hK R2
 refine tz 6 (.tuple #[.agg #[.slice z0 S9.length y0,.slice z1 D9.length y1],.int .i64 cc]) rfl R3.out.bel (fun w' hS=>by clear hS; go_simp) ?_
 refine tz 7 (.agg #[.slice z0 S9.length y0,.slice z1 D9.length y1]) rfl R3.out.bel (fun w' hS=>by clear hS; go_simp) ?_
 refine tz 8 (.int .i64 cc) rfl R3.out.bel (fun w' hS=>by clear hS; go_simp) ?_
 refine ry1 10 rfl (fun K hK=>?_)
 have MK:=hideP (R3.out.done)
 have hp:=(R3.out.v _ rfl).2
 have hA1:=(Array.getElem?_eq_some_iff.1 hp).1
 have cA0:wn3.cell? ⟨P,0,none⟩=some (.slice none 0 0):=cell_blk hp
 have cA1:wn3.cell? ⟨P,1,none⟩=some (.slice none 0 0):=cell_blk hp
 have fA:∀o,wn3.frozen? ⟨P,o,none⟩=false:=fun o=>frozen_blk hp
 clear hp
 go_simp
 refine hK.out _ _ MK.out.bel (fun _=>?_)
 clear hK
 refine ry1 11 rfl (fun K hK=>?_)
 go_simp
 refine hK.out _ _ MK.out.bel (fun _=>?_)
 clear hK
 refine wpAnyH_done (by kernel_rfl) ?_ _
 clear cA0 cA1 fA
 go_wp2_with fail
 go_meet
 exact ⟨_,_,_,_,_,rfl,rfl,MK⟩
theorem l2Reduce_scalar (op:Int) (b0 o0 c0 b1 o1 c1:Nat) (sh da:List Int) (w:World) (h1:Rd w.heap.size w (.slice (some ⟨b1,o1,none⟩) da.length c1) da) (hok:Pl.okB sh da=true) (hsl:sh.length=0) :
  Calls Tryz.prog 67 #[.int .i64 op,.agg #[.slice (some ⟨b0,o0,none⟩) sh.length c0,.slice (some ⟨b1,o1,none⟩) da.length c1]] w (FPost w 0 [] da):=by
 obtain ⟨hm0,hm1⟩:=Pl.ok_max hok
 have test:((sh.length:Int) == 0)=true:=by simp [hsl]
 have A:Hid (∀o o' o'',Below w.heap.size w (((w.alloc o).alloc o').alloc o'')):=fun o o' o''=>below3 w o o' o''
 have H1:=hideP h1
 clear h1 hok hsl
 go_enter Tryz.func67,Tryz.ntmps67
 go_wp2_with fail
 refine (l2Copy_any _ da _ (by omega) ((H1.out.keep (A.out _ _ _)).up (by simp; omega))).mono ?_
 rintro e w1 ⟨u,rfl,ho1,hb1⟩
 have hs1:w.heap.size+1+1+1<=w1.heap.size:=by have:=hb1.size; simpa using this
 have X:=hideP (boxes2 (w:=w) (x0:=.slice (some ⟨b0,o0,none⟩) sh.length c0) (x1:=.slice (some ⟨b1,o1,none⟩) da.length c1) (((Below.refl _ _).alloc (by simp) _).trans (hb1.mono (by simp))))
 have ho1':w1.ownsRow (w.heap.size+1+1) 3 1 u da.length (da.map (Value.int .i64)):=owns_base ho1 (by simp)
 have HO1:=hideP (own_of_any ho1')
 obtain ⟨xu,yu,eu⟩:=owns_form ho1
 subst eu
 clear ho1 ho1' hb1
 have r0:=X.out.2.1.1
 have r1:=X.out.2.1.2.1
 have f2:=X.out.2.1.2.2
 go_wp2_with fail
 refine bodyPost_ret (v:=.tuple #[.agg #[.slice (some ⟨w.heap.size+1+1,0,none⟩) 0 0,.slice xu da.length yu],.int .i64 0]) (by simp [results,Tryz.results67,go_sem,r0,r1]) rfl ⟨(X.out.2.2.setCell (by simp) _).setCell (by simp) _,_,_,rfl,⟨_,_,rfl,.inl rfl⟩,?_,.inl rfl⟩
 exact Own.base (Own.store (Own.store HO1.out (by omega) _) (by omega) _) (by omega)
theorem l2Reduce_refused (op nv:Int) (b0 o0 c0 b1 o1 c1:Nat) (sh da:List Int) (w:World) (h0:Rd w.heap.size w (.slice (some ⟨b0,o0,none⟩) sh.length c0) sh) (hN:∀w',Calls Tryz.prog 125 #[.int .i64 op] w' fun e w''=>e=.returned (.tuple #[.int .i64 nv,.bool false])/\w''=w')
  (hsl:¬sh.length=0) (hl3:sh.length<=3) (hn:sh.getD 0 0=0) :
  Calls Tryz.prog 67 #[.int .i64 op,.agg #[.slice (some ⟨b0,o0,none⟩) sh.length c0,.slice (some ⟨b1,o1,none⟩) da.length c1]] w (FPost w 1 [] []):=by
 have test:((sh.length:Int) == 0)=false:=by rw [beq_eq_false_iff_ne]; omega
 obtain ⟨hlt0,hce⟩:=rd_cell h0 (i:=0) (by omega)
 rw [Nat.add_zero,hn] at hce
 have B:Hid (∀o o',Below w.heap.size w ((w.alloc o).alloc o')):=fun o o'=>((Below.refl _ _).alloc (Nat.le_refl _) _).alloc (by simp) _
 have KN:=hideP hN
 clear h0 hN hn
 go_enter Tryz.func67,Tryz.ntmps67
 go_wp2_with (go_at_call 125; refine (KN.out _).mono ?_; rintro e w' ⟨rfl,rfl⟩)
 refine bodyPost_ret (v:=.tuple #[.agg #[.slice none 0 0,.slice none 0 0],.int .i64 1]) (by simp [results,Tryz.results67,go_sem]) rfl ⟨B.out _ _,_,_,rfl,Own.nil _ _,Own.nil _ _,.inl rfl⟩
theorem l2Reduce_none (op nv:Int) (b0 o0 c0 b1 o1 c1:Nat) (sh da:List Int) (w:World) (h0:Rd w.heap.size w (.slice (some ⟨b0,o0,none⟩) sh.length c0) sh) (hN:∀w',Calls Tryz.prog 125 #[.int .i64 op] w' fun e w''=>e=.returned (.tuple #[.int .i64 nv,.bool true])/\w''=w')
  (hc0:sh.length<=c0) (hc0':c0<=9223372036854775807) (hsl:¬sh.length=0) (hl3:sh.length<=3) (hn:sh.getD 0 0=0) (c:Int) (S D:List Int) (hres:(if Pl.fitsB sh.tail=true then (0,sh.tail,List.replicate (Pl.prodC sh.tail).toNat nv) else (6,[],[]))=(c,S,D)) :
  Calls Tryz.prog 67 #[.int .i64 op,.agg #[.slice (some ⟨b0,o0,none⟩) sh.length c0,.slice (some ⟨b1,o1,none⟩) da.length c1]] w (FPost w c S D):=by
 have test:((sh.length:Int) == 0)=false:=by rw [beq_eq_false_iff_ne]; omega
 obtain ⟨hlt0,hce⟩:=rd_cell h0 (i:=0) (by omega)
 rw [Nat.add_zero,hn] at hce
 have htl:sh.tail.length=sh.length-1:=by simp
 have RT:=hideP (fun c'=>rd_tail h0 (by omega) c')
 have RZ:Hid (sh.length-1=0->∀c',Rd w.heap.size w (.slice (some ⟨b0,o0,none⟩) 0 c') sh.tail):=fun h c'=>rd_zero _ _ _ _ _ (by omega)
 have B:Hid (∀o o',Below w.heap.size w ((w.alloc o).alloc o')):=fun o o'=>((Below.refl _ _).alloc (Nat.le_refl _) _).alloc (by simp) _
 have KN:=hideP hN
 have KT:Hid (∀w' v,Below w.heap.size w w'->Rd w.heap.size w v sh.tail->Calls Tryz.prog 27 #[v] w' fun e w''=>∃u,e=.returned u/\w''.ownsRow w'.heap.size 3 1 u sh.tail.length (sh.tail.map (Value.int .i64))/\Below w'.heap.size w' w''):=fun w' v hb h=>l2Copy_any v sh.tail w' (by omega) ((h.keep hb).up hb.size)
 have HR:=hideP hres
 have hl2:sh.tail.length<=2:=by omega
 generalize sh.tail=st at *
 generalize sh.length=L at *
 clear h0 hN hn hres htl
 by_cases hc:c0=1
 ·subst hc
  have RZ':=hideP (RZ.out (by omega))
  clear RZ
  go_enter Tryz.func67,Tryz.ntmps67
  go_wp2_with (go_at_call 125; refine (KN.out _).mono ?_; rintro e w' ⟨rfl,rfl⟩)
  refine (KT.out _ _ (B.out _ _) (RZ'.out _)).mono ?_
  rintro e w1 ⟨u,rfl,ho1,hb1⟩
  have PB:Hid (∀W,Below w1.heap.size w1 W->(W.cell? ⟨w.heap.size,0,none⟩=some (.slice (some ⟨b0,o0,none⟩) L 1)/\W.cell? ⟨w.heap.size,1,none⟩=some (.slice (some ⟨b1,o1,none⟩) da.length c1))/\(W.cell? ⟨w.heap.size+1,0,none⟩=some (.slice none 0 0)/\W.cell? ⟨w.heap.size+1,1,none⟩=some (.slice none 0 0)/\∀o,W.frozen? ⟨w.heap.size+1,o,none⟩=false)/\Below w.heap.size w W):=fun W hb=>by
   have hs:=hb1.size
   refine boxes2 (hb:=?_)
   have k:Below (w.heap.size+1+1) _ w1:=hb1.mono (by simp)
   exact k.trans (hb.mono (by simp at hs; omega))
  have hs1:w.heap.size+1+1<=w1.heap.size:=by have:=hb1.size; simpa using this
  have ho1':w1.ownsRow (w.heap.size+1+1) 3 1 u st.length (st.map (Value.int .i64)):=by simpa using ho1
  have HO1:=hideP (own_of_any ho1')
  obtain ⟨xu,yu,eu⟩:=owns_form ho1
  subst eu
  clear ho1 ho1' hb1 hce
  have A1:Hid (Below w1.heap.size w1 (w1.alloc (.cells #[] 3))):=(Below.refl _ _).alloc (Nat.le_refl _) _
  have OA:=hideP (HO1.out.keep A1.out)
  go_wp2_with fail
  refine (l2Made_two _ _ _ _ _ _ st _ (by omega) OA.out.rd (Nat.le_refl _)).mono ?_
  rintro e w2 ⟨q0,n0,e0,q1,n1,e1,cc,rfl,hb2,hor⟩
  have B2:=hideP (A1.out.trans (hb2.mono (by simp)))
  have hs2:w1.heap.size+1<=w2.heap.size:=by have:=hb2.size; simpa using this
  have O2:=hideP (OA.out.keep hb2)
  clear hb2 A1 OA
  rcases hor with ⟨hf,rfl,eq0,eq1⟩ | ⟨hf,rfl,eq0,eq1⟩
  rotate_left 1
  ·simp only [Value.slice.injEq] at eq0 eq1
   obtain ⟨rfl,rfl,rfl⟩:=eq0
   obtain ⟨rfl,rfl,rfl⟩:=eq1
   have hre:=HR.out
   rw [if_neg (by rw [hf]; decide)] at hre
   simp only [Prod.mk.injEq] at hre
   obtain ⟨rfl,rfl,rfl⟩:=hre
   have B3:Hid (∀o,Below w1.heap.size w1 (w2.alloc o)):=fun o=>B2.out.alloc (by omega) _
   have r0:=fun o=>(PB.out _ (B3.out o)).2.1.1
   have r1:=fun o=>(PB.out _ (B3.out o)).2.1.2.1
   have f2:=fun o=>(PB.out _ (B3.out o)).2.1.2.2
   have HB3:=hideP (fun o=>(PB.out _ (B3.out o)).2.2)
   clear hf HR
   go_wp2_with fail
   refine bodyPost_ret (v:=.tuple #[.agg #[.slice none 0 0,.slice none 0 0],.int .i64 6]) (by simp [results,Tryz.results67,go_sem,r0,r1]) rfl ⟨((HB3.out _).setCell (by simp) _).setCell (by simp) _,_,_,rfl,Own.nil _ _,Own.nil _ _,.inl rfl⟩
  simp only [Value.slice.injEq] at eq0 eq1
  obtain ⟨rfl,rfl,rfl⟩:=eq0
  obtain ⟨rfl,rfl,rfl⟩:=eq1
  have hre:=HR.out
  rw [if_pos hf] at hre
  simp only [Prod.mk.injEq] at hre
  obtain ⟨rfl,rfl,rfl⟩:=hre
  have A3:Hid (∀o o',Below w2.heap.size w2 ((w2.alloc o).alloc o')):=fun o o'=>((Below.refl _ _).alloc (Nat.le_refl _) _).alloc (by simp) _
  have KW:Hid (∀o,Calls Tryz.prog 83 #[.agg #[.slice none 0 0,.slice (some ⟨w2.heap.size+1,0,none⟩) 1 1],.slice q0 st.length e0] ((w2.alloc o).alloc (.cells #[.int .i64 nv] 3)) fun e w'=>∃u0 u1,e=.returned (.agg #[u0,u1])/\Res ((w2.alloc o).alloc (.cells #[.int .i64 nv] 3)).heap.size w' u0 u1 st (List.replicate (Pl.prodC st).toNat nv)/\Below ((w2.alloc o).alloc (.cells #[.int .i64 nv] 3)).heap.size ((w2.alloc o).alloc (.cells #[.int .i64 nv] 3)) w'):=fun o =>
   l2Wide_any none 0 0 (w2.heap.size+1) 0 1 1 (.slice q0 st.length e0) nv st _ hf (by simp) (by omega) (by simp [go_sem]) (((O2.out.keep (A3.out _ _)).rd))
  clear hf HR
  go_wp2_with fail
  refine (KW.out _).mono ?_
  rintro e w3 ⟨u0,u1,rfl,res3,hb3⟩
  have B3:=hideP (B2.out.trans ((A3.out _ _).trans (hb3.mono (by simp; omega)) |>.mono (by omega)))
  have hs3:=B3.out.size
  obtain ⟨z0,y0,z1,y1,ez0,ez1⟩:=res3.forms
  have R3:=hideP res3
  have hsa:w.heap.size+1+1<=((w2.alloc (.cells #[.slice q0 st.length e0,.slice (some ⟨w1.heap.size,0,none⟩) 0 0] 25)).alloc (.cells #[.int .i64 nv] 3)).heap.size:=by simp; omega
  have O0:=hideP (R3.out.1.base hsa)
  have O1:=hideP (R3.out.2.1.base hsa)
  subst ez0 ez1
  clear res3 hb3 KW hsa
  have r0:=(PB.out w3 B3.out).2.1.1
  have r1:=(PB.out w3 B3.out).2.1.2.1
  have f2:=(PB.out w3 B3.out).2.1.2.2
  have HB3:=hideP (PB.out w3 B3.out).2.2
  go_wp2_with fail
  refine bodyPost_ret (v:=.tuple #[.agg #[.slice z0 st.length y0,.slice z1 (List.replicate (Pl.prodC st).toNat nv).length y1],.int .i64 0]) (by simp [results,Tryz.results67,go_sem,r0,r1]) rfl ⟨(HB3.out.setCell (by simp) _).setCell (by simp) _,_,_,rfl,?_,?_,R3.out.2.2⟩
  ·exact Own.base (Own.store (Own.store O0.out (by omega) _) (by omega) _) (by omega)
  exact Own.base (Own.store (Own.store O1.out (by omega) _) (by omega) _) (by omega)
 go_enter Tryz.func67,Tryz.ntmps67
 go_wp2_with (go_at_call 125; refine (KN.out _).mono ?_; rintro e w' ⟨rfl,rfl⟩)
 refine (KT.out _ _ (B.out _ _) (RT.out _)).mono ?_
 rintro e w1 ⟨u,rfl,ho1,hb1⟩
 have PB:Hid (∀W,Below w1.heap.size w1 W->(W.cell? ⟨w.heap.size,0,none⟩=some (.slice (some ⟨b0,o0,none⟩) L c0)/\W.cell? ⟨w.heap.size,1,none⟩=some (.slice (some ⟨b1,o1,none⟩) da.length c1))/\(W.cell? ⟨w.heap.size+1,0,none⟩=some (.slice none 0 0)/\W.cell? ⟨w.heap.size+1,1,none⟩=some (.slice none 0 0)/\∀o,W.frozen? ⟨w.heap.size+1,o,none⟩=false)/\Below w.heap.size w W):=fun W hb=>by
  have hs:=hb1.size
  refine boxes2 (hb:=?_)
  have k:Below (w.heap.size+1+1) _ w1:=hb1.mono (by simp)
  exact k.trans (hb.mono (by simp at hs; omega))
 have hs1:w.heap.size+1+1<=w1.heap.size:=by have:=hb1.size; simpa using this
 have ho1':w1.ownsRow (w.heap.size+1+1) 3 1 u st.length (st.map (Value.int .i64)):=by simpa using ho1
 have HO1:=hideP (own_of_any ho1')
 obtain ⟨xu,yu,eu⟩:=owns_form ho1
 subst eu
 clear ho1 ho1' hb1 hce
 have A1:Hid (Below w1.heap.size w1 (w1.alloc (.cells #[] 3))):=(Below.refl _ _).alloc (Nat.le_refl _) _
 have OA:=hideP (HO1.out.keep A1.out)
 go_wp2_with fail
 refine (l2Made_two _ _ _ _ _ _ st _ (by omega) OA.out.rd (Nat.le_refl _)).mono ?_
 rintro e w2 ⟨q0,n0,e0,q1,n1,e1,cc,rfl,hb2,hor⟩
 have B2:=hideP (A1.out.trans (hb2.mono (by simp)))
 have hs2:w1.heap.size+1<=w2.heap.size:=by have:=hb2.size; simpa using this
 have O2:=hideP (OA.out.keep hb2)
 clear hb2 A1 OA
 rcases hor with ⟨hf,rfl,eq0,eq1⟩ | ⟨hf,rfl,eq0,eq1⟩
 rotate_left 1
 ·simp only [Value.slice.injEq] at eq0 eq1
  obtain ⟨rfl,rfl,rfl⟩:=eq0
  obtain ⟨rfl,rfl,rfl⟩:=eq1
  have hre:=HR.out
  rw [if_neg (by rw [hf]; decide)] at hre
  simp only [Prod.mk.injEq] at hre
  obtain ⟨rfl,rfl,rfl⟩:=hre
  have B3:Hid (∀o,Below w1.heap.size w1 (w2.alloc o)):=fun o=>B2.out.alloc (by omega) _
  have r0:=fun o=>(PB.out _ (B3.out o)).2.1.1
  have r1:=fun o=>(PB.out _ (B3.out o)).2.1.2.1
  have f2:=fun o=>(PB.out _ (B3.out o)).2.1.2.2
  have HB3:=hideP (fun o=>(PB.out _ (B3.out o)).2.2)
  clear hf HR
  go_wp2_with fail
  refine bodyPost_ret (v:=.tuple #[.agg #[.slice none 0 0,.slice none 0 0],.int .i64 6]) (by simp [results,Tryz.results67,go_sem,r0,r1]) rfl ⟨((HB3.out _).setCell (by simp) _).setCell (by simp) _,_,_,rfl,Own.nil _ _,Own.nil _ _,.inl rfl⟩
 simp only [Value.slice.injEq] at eq0 eq1
 obtain ⟨rfl,rfl,rfl⟩:=eq0
 obtain ⟨rfl,rfl,rfl⟩:=eq1
 have hre:=HR.out
 rw [if_pos hf] at hre
 simp only [Prod.mk.injEq] at hre
 obtain ⟨rfl,rfl,rfl⟩:=hre
 have A3:Hid (∀o o',Below w2.heap.size w2 ((w2.alloc o).alloc o')):=fun o o'=>((Below.refl _ _).alloc (Nat.le_refl _) _).alloc (by simp) _
 have KW:Hid (∀o,Calls Tryz.prog 83 #[.agg #[.slice none 0 0,.slice (some ⟨w2.heap.size+1,0,none⟩) 1 1],.slice q0 st.length e0] ((w2.alloc o).alloc (.cells #[.int .i64 nv] 3)) fun e w'=>∃u0 u1,e=.returned (.agg #[u0,u1])/\Res ((w2.alloc o).alloc (.cells #[.int .i64 nv] 3)).heap.size w' u0 u1 st (List.replicate (Pl.prodC st).toNat nv)/\Below ((w2.alloc o).alloc (.cells #[.int .i64 nv] 3)).heap.size ((w2.alloc o).alloc (.cells #[.int .i64 nv] 3)) w'):=fun o =>
  l2Wide_any none 0 0 (w2.heap.size+1) 0 1 1 (.slice q0 st.length e0) nv st _ hf (by simp) (by omega) (by simp [go_sem]) (((O2.out.keep (A3.out _ _)).rd))
 clear hf HR
 go_wp2_with fail
 refine (KW.out _).mono ?_
 rintro e w3 ⟨u0,u1,rfl,res3,hb3⟩
 have B3:=hideP (B2.out.trans ((A3.out _ _).trans (hb3.mono (by simp; omega)) |>.mono (by omega)))
 have hs3:=B3.out.size
 obtain ⟨z0,y0,z1,y1,ez0,ez1⟩:=res3.forms
 have R3:=hideP res3
 have hsa:w.heap.size+1+1<=((w2.alloc (.cells #[.slice q0 st.length e0,.slice (some ⟨w1.heap.size,0,none⟩) 0 0] 25)).alloc (.cells #[.int .i64 nv] 3)).heap.size:=by simp; omega
 have O0:=hideP (R3.out.1.base hsa)
 have O1:=hideP (R3.out.2.1.base hsa)
 subst ez0 ez1
 clear res3 hb3 KW hsa
 have r0:=(PB.out w3 B3.out).2.1.1
 have r1:=(PB.out w3 B3.out).2.1.2.1
 have f2:=(PB.out w3 B3.out).2.1.2.2
 have HB3:=hideP (PB.out w3 B3.out).2.2
 go_wp2_with fail
 refine bodyPost_ret (v:=.tuple #[.agg #[.slice z0 st.length y0,.slice z1 (List.replicate (Pl.prodC st).toNat nv).length y1],.int .i64 0]) (by simp [results,Tryz.results67,go_sem,r0,r1]) rfl ⟨(HB3.out.setCell (by simp) _).setCell (by simp) _,_,_,rfl,?_,?_,R3.out.2.2⟩
 ·exact Own.base (Own.store (Own.store O0.out (by omega) _) (by omega) _) (by omega)
 exact Own.base (Own.store (Own.store O1.out (by omega) _) (by omega) _) (by omega)
theorem l2Reduce_any (k:Nat) (k0:1<=k) (k1:k<11) (b0 o0 c0 b1 o1 c1:Nat) (sh da:List Int) (w:World)
  (h0:Rd w.heap.size w (.slice (some ⟨b0,o0,none⟩) sh.length c0) sh) (h1:Rd w.heap.size w (.slice (some ⟨b1,o1,none⟩) da.length c1) da) (hc0:sh.length<=c0) (hc0':c0<=9223372036854775807) (hc1:da.length<=c1) (hc1':c1<=9223372036854775807)
  (hok:Pl.okB sh da=true) (c:Int) (S D:List Int) (hres:Pl.reduceM (Pl.twoM k) (Pl.noneV k) (Pl.noneB k) sh da=(c,S,D)) :
  Calls Tryz.prog 67 #[.int .i64 (k:Int),.agg #[.slice (some ⟨b0,o0,none⟩) sh.length c0,.slice (some ⟨b1,o1,none⟩) da.length c1]] w (FPost w c S D):=by
 unfold Pl.reduceM at hres
 by_cases hsl:sh.length=0
 ·rw [if_pos hsl] at hres
  simp only [Prod.mk.injEq] at hres
  obtain ⟨rfl,rfl,rfl⟩:=hres
  exact l2Reduce_scalar (k:Int) b0 o0 c0 b1 o1 c1 sh da w h1 hok hsl
 rw [if_neg hsl] at hres
 have hm:=(Pl.ok_max hok).1
 by_cases hn:sh.getD 0 0=0
 ·rw [if_pos hn] at hres
  have hN:=fun w'=>l2None_any k w' k0 k1
  by_cases hb:Pl.noneB k=true
  ·rw [if_pos hb] at hres
   simp only [Prod.mk.injEq] at hres
   obtain ⟨rfl,rfl,rfl⟩:=hres
   rw [hb] at hN
   exact l2Reduce_refused (k:Int) (Pl.noneV k) b0 o0 c0 b1 o1 c1 sh da w h0 hN hsl hm hn
  rw [if_neg hb] at hres
  have hb':Pl.noneB k=false:=by simpa using hb
  rw [hb'] at hN
  exact l2Reduce_none (k:Int) (Pl.noneV k) b0 o0 c0 b1 o1 c1 sh da w h0 hN hc0 hc0' hsl hm hn c S D hres
 rw [if_neg hn] at hres
 obtain ⟨hft,n,s,e1,e2,n1,n2,hl⟩:=Pl.ok_rows hok hsl hn
 rw [e1,e2] at hres
 exact l2Reduce_rows (k:Int) (Pl.twoM k) b0 o0 c0 b1 o1 c1 n s sh da w (fun x y w' g0 g1 g2 g3=>l2Two_any k x y w' k0 k1 g0 g1 g2 g3) (fun x y g0 g1 g2 g3=>Pl.two_bd k k0 k1 x y g0 g1 g2 g3) h0 h1 hc0 hc0' hc1 hc1' hok hsl hft e1 e2 n1 n2 hl _ rfl c S D hres
end Go.Proofs.YtacapaiadggemaaGreat
