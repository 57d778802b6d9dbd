import Derived.Test.YtacapaiadggemaaGreatClI
namespace Go.Proofs.YtacapaiadggemaaGreat
open Go.RowKit
set_option maxRecDepth 100000
set_option maxHeartbeats 16000000
set_option linter.unusedVariables false
theorem fieldB (a0 a1:Option Addr) (n0 c0 n1 c1:Nat) (w:World):(Instr.field 25 (.agg #[.slice a0 n0 c0,.slice a1 n1 c1]) 1).run Tryz.prog w=.ok (.slice a1 n1 c1) w:=by kernel_rfl
theorem Lp.stepL {wv wr w9:World} {sh zs xs:List Int} {P:Nat} {u0 nv v':Value} (h:Lp wv sh P u0 nv zs wr) (hg:wr.grownBy w9 nv.ownBlock)
  (ho:w9.ownsRow wv.heap.size 3 1 v' (zs.length+xs.length) ((zs++xs).map (Value.int .i64))) (hat:v'.ownBlock=nv.ownBlock\/v'.ownBlock=some wr.heap.size) :
  w9.heap[P]? = some (.cells #[u0,nv] 25 (0,0))/\Lp wv sh P u0 v' (zs++xs) (w9.setCell ⟨P,1,none⟩ v'):=by
 have hs:=h.bel.size
 have hPlt:P<wr.heap.size:=(Array.getElem?_eq_some_iff.1 h.blk).1
 have hne:¬nv.ownBlock=some P:=fun e=>own_ne h.d h.blk (by decide) e
 have h1:w9.heap[P]? = some (.cells #[u0,nv] 25 (0,0)):=by
  rw [hg.block P hPlt (fun e=>hne e.symm)]
  exact h.blk
 have hc:w9.ownsRow wv.heap.size 3 1 u0 sh.length (sh.map (Value.int .i64)):=by
  refine h.c.kept hg ?_
  rcases hb:u0.ownBlock with _ | b
  ·exact .inl rfl
  right
  intro e
  exact h.ap b hb e.symm
 refine ⟨h1,(h.bel.grown hg hs (fun k hk=>(h.d.lt k hk).1)).setCell h.le _,h.le,heap_setCell_same w9 P 1 #[u0,nv] 25 v' h1,?_,?_,?_⟩
 ·exact hc.kept (grown_setCell w9 P 1 v') (.inr (own_ne hc h1 (by decide)))
 ·rw [List.length_append]
  exact ho.kept (grown_setCell w9 P 1 v') (.inr (own_ne ho h1 (by decide)))
 intro b e e2
 rcases hat with hat | hat
 ·rw [hat] at e2
  exact h.ap b e e2
 rw [hat] at e2
 have:=(h.c.lt b e).2
 simp only [Option.some.injEq] at e2
 omega
theorem l2From_core (a0:Option Addr) (k0 b1 k1 b2 k2 b3 k3:Nat) (sa da tb db:List Int) (n:Nat) (w:World)
  (h0:Rd w.heap.size w (.slice a0 sa.length k0) sa) (h1:Rd w.heap.size w (.slice (some ⟨b1,0,none⟩) da.length k1) da) (h2:Rd w.heap.size w (.slice (some ⟨b2,0,none⟩) (tb.length+1) k2) ((n:Int)::tb)) (h3:Rd w.heap.size w (.slice (some ⟨b3,0,none⟩) db.length k3) db)
  (hk2:tb.length+1<=k2) (hk2':k2<=9223372036854775807) (hk3:db.length<=k3) (hk3':k3<=9223372036854775807) (oka:Pl.okB sa da=true) (okb:Pl.okB ((n:Int)::tb) db=true)
  (c:Int) (S D:List Int) (hres:(if Pl.fitsB (sa++tb)=true then (if da.all (Pl.inB n)=true then (0,sa++tb,Pl.flat db (Pl.prodC tb).toNat da) else (4,[],[])) else (6,[],[]))=(c,S,D)) :
  Calls Tryz.prog 56 #[.agg #[.slice a0 sa.length k0,.slice (some ⟨b1,0,none⟩) da.length k1],.agg #[.slice (some ⟨b2,0,none⟩) (tb.length+1) k2,.slice (some ⟨b3,0,none⟩) db.length k3]] w (FPost w c S D):=by
 have m0:=Pl.ok_max oka
 have m2:=Pl.ok_max okb
 have hsa:=m0.1
 have hld:=m0.2
 have hle:=m2.2
 have htb:tb.length<=2:=by have:=m2.1; simp at this; omega
 have W0:=hideP (wid_new w h0 h1 h2 h3 25 25 25)
 obtain ⟨o2,ho2⟩:∃o2:Nat,o2=if k2=1 then 0 else 0+1:=⟨_,rfl⟩
 have HO2:=hideP ho2
 have H2:=hideP (rd_tailG ho2 hk2 h2)
 have CB:=hideP (rd_headG h2)
 have H0:=hideP h0
 have H1:=hideP h1
 have H3:=hideP h3
 have HS:=hideP h2
 have hrr:((n:Int)::tb).all Pl.inR=true:=by
  have:=(Pl.ok_len okb).2
  simp only [Pl.fitsB,Pl.baseB,Bool.and_eq_true] at this
  exact this.1.2
 have hn1:n<=1000:=by
  have:=(Pl.ok_len okb).2
  simp only [Pl.fitsB,Pl.baseB,Bool.and_eq_true,List.all_cons] at this
  have:=Pl.inR_bd this.1.2.1
  omega
 have ROWS:Hid (1<=n->∃s:Nat,Pl.prodC tb=s/\db.length=n * s):=fun hn=>by
  obtain ⟨hft,n',s,e1,e2,_,_,e3⟩:=Pl.ok_rows okb (by simp) (by show ¬(n:Int)=0; omega)
  have en:n'=n:=by
   have:(n:Int)=n':=e1
   omega
  exact ⟨s,e2,by rw [e3,en]⟩
 have KRB:Hid (∀(q s:Nat) (W:World),Below w.heap.size w W->Pl.prodC tb=s->(q+1) * s<=db.length->q<=1000->Calls Tryz.prog 100 #[.agg #[.slice (some ⟨b2,0,none⟩) (tb.length+1) k2,.slice (some ⟨b3,0,none⟩) db.length k3],.int .i64 (q:Int)] W fun e w'=>∃u0 u1,e=.returned (.agg #[u0,u1])/\Res W.heap.size w' u0 u1 tb (Pl.rowAt db s q)/\Below W.heap.size W w'):=fun q s W hb hs hq hq2=>by
  have e:((n:Int)::tb).length=tb.length+1:=by simp
  have hh:=(HS.out.keep hb).up hb.size
  rw [<- e] at hh
  have:=l2Row_any b2 0 k2 b3 0 k3 q s ((n:Int)::tb) db W hh ((H3.out.keep hb).up hb.size) (by simp) (by simp; omega) hle (by simpa using hk2) hk2' hk3 hk3' hrr hs hq hq2
  rw [e] at this
  exact this
 have HR:=hideP hres
 obtain ⟨sh,hsh⟩:∃sh,sa++tb=sh:=⟨_,rfl⟩
 have hlh:sh.length<=5:=by rw [<- hsh,List.length_append]; omega
 have HSH:=hideP hsh
 clear h0 h1 h2 h3 oka okb hres hsh m0 m2 ho2 hrr
 have test2:(((tb.length:Int)+1) == 0)=false:=by rw [beq_eq_false_iff_ne]; omega
 go_enter Tryz.func56,Tryz.ntmps56
 go_upto_region 3 with fail
 generalize hw2:(((w.alloc (.cells #[.slice a0 sa.length k0,.slice (some ⟨b1,0,none⟩) da.length k1] 25)).alloc (.cells #[.slice (some ⟨b2,0,none⟩) (tb.length+1) k2,.slice (some ⟨b3,0,none⟩) db.length k3] 25)).alloc (.cells #[.slice none 0 0,.slice none 0 0] 25))=w2 at *
 have W2:Hid (Wid w sa da ((n:Int)::tb) db (.slice a0 sa.length k0) (.slice (some ⟨b1,0,none⟩) da.length k1) (.slice (some ⟨b2,0,none⟩) (tb.length+1) k2) (.slice (some ⟨b3,0,none⟩) db.length k3) w2):=W0
 have hs2:=W2.out.2.1
 clear W0 hw2
 have RV:Hid (∀W,Below w2.heap.size w2 W->Rd W.heap.size W (.slice a0 sa.length k0) sa/\Rd W.heap.size W (.slice (some ⟨b2,o2,none⟩) tb.length (k2-1)) tb):=fun W hb=>by
  have k:=(W2.out.keep hb).1
  exact ⟨(H0.out.keep k).up k.size,(H2.out.keep k).up k.size⟩
 have PL:Hid (∀W,Below w2.heap.size w2 W->W.cell? ⟨w.heap.size,0,none⟩=some (.slice a0 sa.length k0)/\W.cell? ⟨w.heap.size+1,0,none⟩=some (.slice (some ⟨b2,0,none⟩) (tb.length+1) k2)):=fun W hb=>⟨(W2.out.keep hb).2.2.1.1,(W2.out.keep hb).2.2.1.2.2.1⟩
 go_cut [6,7] (fun s8 s9 wx=>∃P cc q0 n0 c0 q1 n1 c1,s8=.pointer (some ⟨P,0,none⟩)/\s9=.int .i64 cc/\Hid (Mk w2 sh P cc (.slice q0 n0 c0) (.slice q1 n1 c1) wx))
 case first =>
  refine wp_region_held (S:=fun w'=>Below w2.heap.size w2 w') (by kernel_rfl) ?_
  change wpAnyH _ _ _ _ _ _ _ _ (World.drew _)
  have R0:=hideP (Rg.start w2)
  generalize World.drew w2=wn0 at R0 ⊢
  refine tz 0 (.pointer (some ⟨w.heap.size,0,none⟩)) rfl R0.out.bel (fun w' hS=>by clear hS; go_simp) ?_
  refine tz 1 (.slice a0 sa.length k0) rfl R0.out.bel (fun w' hS=>by have y0:=(PL.out w' hS).1; clear hS; go_simp) ?_
  refine tz 3 (.pointer (some ⟨w.heap.size+1,0,none⟩)) rfl R0.out.bel (fun w' hS=>by clear hS; go_simp) ?_
  refine tz 4 (.slice (some ⟨b2,0,none⟩) (tb.length+1) k2) rfl R0.out.bel (fun w' hS=>by have y0:=(PL.out w' hS).2; clear hS; go_simp) ?_
  refine tz 5 (.slice (some ⟨b2,o2,none⟩) tb.length (k2-1)) rfl R0.out.bel (fun w' _=>exec_loG (.tmp 19) (.const (.int .i64 1)) b2 0 tb.length k2 o2 HO2.out hk2 hk2' (by kernel_rfl) (by kernel_rfl) (by kernel_rfl) w') ?_
  refine rd3 2 7 12 (by kernel_rfl) rfl rfl rfl
   (R0.out.sc (by omega) (RV.out _ R0.out.bel).1 rfl rfl fun xc yc z1 R1=>rd3 6 7 12 (by kernel_rfl) rfl rfl rfl
   (R1.sa HSH.out (by omega) (RV.out _ R1.bel).2 rfl rfl fun xa ya z2 R2=>rd2 7 12 (by kernel_rfl) rfl rfl
    (R2.sl rfl rfl fun gb z3 R3=>rd2 8 12 (by kernel_rfl) rfl rfl
    (R3.sm (by omega) rfl rfl fun q0 n0 c0 q1 n1 c1 cc wm R M=>tk3 9 10 11 (u:=.agg #[.slice q0 n0 c0,.slice q1 n1 c1]) (v:=.int .i64 cc) R.bel rfl rfl rfl rfl rfl rfl (rd1 12 (by kernel_rfl) rfl (R.sv rfl rfl fun P wp R=>R.st M 13 14 rfl rfl rfl rfl fun wx MK=>?_)))
    (R3.sv rfl rfl fun P z4 R4=>rd1 8 (by kernel_rfl) rfl
     (R4.sm (by omega) rfl rfl fun q0 n0 c0 q1 n1 c1 cc wm R M=>tk3 9 10 11 (u:=.agg #[.slice q0 n0 c0,.slice q1 n1 c1]) (v:=.int .i64 cc) R.bel rfl rfl rfl rfl rfl rfl (R.st M 13 14 rfl rfl rfl rfl fun wx MK=>?_))))
    (R2.sv rfl rfl fun P z3 R3=>rd1 7 (by kernel_rfl) rfl
    (R3.sl rfl rfl fun gb z4 R4=>rd1 8 (by kernel_rfl) rfl
     (R4.sm (by omega) rfl rfl fun q0 n0 c0 q1 n1 c1 cc wm R M=>tk3 9 10 11 (u:=.agg #[.slice q0 n0 c0,.slice q1 n1 c1]) (v:=.int .i64 cc) R.bel rfl rfl rfl rfl rfl rfl (R.st M 13 14 rfl rfl rfl rfl fun wx MK=>?_)))))
   (R1.sl rfl rfl fun gb z2 R2=>rd2 6 12 (by kernel_rfl) rfl rfl
    (R2.sa HSH.out (by omega) (RV.out _ R2.bel).2 rfl rfl fun xa ya z3 R3=>rd2 8 12 (by kernel_rfl) rfl rfl
    (R3.sm (by omega) rfl rfl fun q0 n0 c0 q1 n1 c1 cc wm R M=>tk3 9 10 11 (u:=.agg #[.slice q0 n0 c0,.slice q1 n1 c1]) (v:=.int .i64 cc) R.bel rfl rfl rfl rfl rfl rfl (rd1 12 (by kernel_rfl) rfl (R.sv rfl rfl fun P wp R=>R.st M 13 14 rfl rfl rfl rfl fun wx MK=>?_)))
    (R3.sv rfl rfl fun P z4 R4=>rd1 8 (by kernel_rfl) rfl
     (R4.sm (by omega) rfl rfl fun q0 n0 c0 q1 n1 c1 cc wm R M=>tk3 9 10 11 (u:=.agg #[.slice q0 n0 c0,.slice q1 n1 c1]) (v:=.int .i64 cc) R.bel rfl rfl rfl rfl rfl rfl (R.st M 13 14 rfl rfl rfl rfl fun wx MK=>?_))))
    (R2.sv rfl rfl fun P z3 R3=>rd1 6 (by kernel_rfl) rfl
    (R3.sa HSH.out (by omega) (RV.out _ R3.bel).2 rfl rfl fun xa ya z4 R4=>rd1 8 (by kernel_rfl) rfl
     (R4.sm (by omega) rfl rfl fun q0 n0 c0 q1 n1 c1 cc wm R M=>tk3 9 10 11 (u:=.agg #[.slice q0 n0 c0,.slice q1 n1 c1]) (v:=.int .i64 cc) R.bel rfl rfl rfl rfl rfl rfl (R.st M 13 14 rfl rfl rfl rfl fun wx MK=>?_)))))
   (R1.sv rfl rfl fun P z2 R2=>rd2 6 7 (by kernel_rfl) rfl rfl
    (R2.sa HSH.out (by omega) (RV.out _ R2.bel).2 rfl rfl fun xa ya z3 R3=>rd1 7 (by kernel_rfl) rfl
    (R3.sl rfl rfl fun gb z4 R4=>rd1 8 (by kernel_rfl) rfl
     (R4.sm (by omega) rfl rfl fun q0 n0 c0 q1 n1 c1 cc wm R M=>tk3 9 10 11 (u:=.agg #[.slice q0 n0 c0,.slice q1 n1 c1]) (v:=.int .i64 cc) R.bel rfl rfl rfl rfl rfl rfl (R.st M 13 14 rfl rfl rfl rfl fun wx MK=>?_))))
    (R2.sl rfl rfl fun gb z3 R3=>rd1 6 (by kernel_rfl) rfl
    (R3.sa HSH.out (by omega) (RV.out _ R3.bel).2 rfl rfl fun xa ya z4 R4=>rd1 8 (by kernel_rfl) rfl
     (R4.sm (by omega) rfl rfl fun q0 n0 c0 q1 n1 c1 cc wm R M=>tk3 9 10 11 (u:=.agg #[.slice q0 n0 c0,.slice q1 n1 c1]) (v:=.int .i64 cc) R.bel rfl rfl rfl rfl rfl rfl (R.st M 13 14 rfl rfl rfl rfl fun wx MK=>?_))))))
   (R0.out.sl rfl rfl fun gb z1 R1=>rd2 2 12 (by kernel_rfl) rfl rfl
   (R1.sc (by omega) (RV.out _ R1.bel).1 rfl rfl fun xc yc z2 R2=>rd2 6 12 (by kernel_rfl) rfl rfl
    (R2.sa HSH.out (by omega) (RV.out _ R2.bel).2 rfl rfl fun xa ya z3 R3=>rd2 8 12 (by kernel_rfl) rfl rfl
    (R3.sm (by omega) rfl rfl fun q0 n0 c0 q1 n1 c1 cc wm R M=>tk3 9 10 11 (u:=.agg #[.slice q0 n0 c0,.slice q1 n1 c1]) (v:=.int .i64 cc) R.bel rfl rfl rfl rfl rfl rfl (rd1 12 (by kernel_rfl) rfl (R.sv rfl rfl fun P wp R=>R.st M 13 14 rfl rfl rfl rfl fun wx MK=>?_)))
    (R3.sv rfl rfl fun P z4 R4=>rd1 8 (by kernel_rfl) rfl
     (R4.sm (by omega) rfl rfl fun q0 n0 c0 q1 n1 c1 cc wm R M=>tk3 9 10 11 (u:=.agg #[.slice q0 n0 c0,.slice q1 n1 c1]) (v:=.int .i64 cc) R.bel rfl rfl rfl rfl rfl rfl (R.st M 13 14 rfl rfl rfl rfl fun wx MK=>?_))))
    (R2.sv rfl rfl fun P z3 R3=>rd1 6 (by kernel_rfl) rfl
    (R3.sa HSH.out (by omega) (RV.out _ R3.bel).2 rfl rfl fun xa ya z4 R4=>rd1 8 (by kernel_rfl) rfl
     (R4.sm (by omega) rfl rfl fun q0 n0 c0 q1 n1 c1 cc wm R M=>tk3 9 10 11 (u:=.agg #[.slice q0 n0 c0,.slice q1 n1 c1]) (v:=.int .i64 cc) R.bel rfl rfl rfl rfl rfl rfl (R.st M 13 14 rfl rfl rfl rfl fun wx MK=>?_)))))
   (R1.sv rfl rfl fun P z2 R2=>rd1 2 (by kernel_rfl) rfl
    (R2.sc (by omega) (RV.out _ R2.bel).1 rfl rfl fun xc yc z3 R3=>rd1 6 (by kernel_rfl) rfl
    (R3.sa HSH.out (by omega) (RV.out _ R3.bel).2 rfl rfl fun xa ya z4 R4=>rd1 8 (by kernel_rfl) rfl
     (R4.sm (by omega) rfl rfl fun q0 n0 c0 q1 n1 c1 cc wm R M=>tk3 9 10 11 (u:=.agg #[.slice q0 n0 c0,.slice q1 n1 c1]) (v:=.int .i64 cc) R.bel rfl rfl rfl rfl rfl rfl (R.st M 13 14 rfl rfl rfl rfl fun wx MK=>?_))))))
   (R0.out.sv rfl rfl fun P z1 R1=>rd2 2 7 (by kernel_rfl) rfl rfl
   (R1.sc (by omega) (RV.out _ R1.bel).1 rfl rfl fun xc yc z2 R2=>rd2 6 7 (by kernel_rfl) rfl rfl
    (R2.sa HSH.out (by omega) (RV.out _ R2.bel).2 rfl rfl fun xa ya z3 R3=>rd1 7 (by kernel_rfl) rfl
    (R3.sl rfl rfl fun gb z4 R4=>rd1 8 (by kernel_rfl) rfl
     (R4.sm (by omega) rfl rfl fun q0 n0 c0 q1 n1 c1 cc wm R M=>tk3 9 10 11 (u:=.agg #[.slice q0 n0 c0,.slice q1 n1 c1]) (v:=.int .i64 cc) R.bel rfl rfl rfl rfl rfl rfl (R.st M 13 14 rfl rfl rfl rfl fun wx MK=>?_))))
    (R2.sl rfl rfl fun gb z3 R3=>rd1 6 (by kernel_rfl) rfl
    (R3.sa HSH.out (by omega) (RV.out _ R3.bel).2 rfl rfl fun xa ya z4 R4=>rd1 8 (by kernel_rfl) rfl
     (R4.sm (by omega) rfl rfl fun q0 n0 c0 q1 n1 c1 cc wm R M=>tk3 9 10 11 (u:=.agg #[.slice q0 n0 c0,.slice q1 n1 c1]) (v:=.int .i64 cc) R.bel rfl rfl rfl rfl rfl rfl (R.st M 13 14 rfl rfl rfl rfl fun wx MK=>?_)))))
   (R1.sl rfl rfl fun gb z2 R2=>rd1 2 (by kernel_rfl) rfl
    (R2.sc (by omega) (RV.out _ R2.bel).1 rfl rfl fun xc yc z3 R3=>rd1 6 (by kernel_rfl) rfl
    (R3.sa HSH.out (by omega) (RV.out _ R3.bel).2 rfl rfl fun xa ya z4 R4=>rd1 8 (by kernel_rfl) rfl
     (R4.sm (by omega) rfl rfl fun q0 n0 c0 q1 n1 c1 cc wm R M=>tk3 9 10 11 (u:=.agg #[.slice q0 n0 c0,.slice q1 n1 c1]) (v:=.int .i64 cc) R.bel rfl rfl rfl rfl rfl rfl (R.st M 13 14 rfl rfl rfl rfl fun wx MK=>?_))))))
  all_goals
   have MH:=hideP MK
   clear MK M R
   go_wp2_with fail
   go_simp
   go_meet
   exact ⟨_,_,_,_,_,_,_,_,rfl,rfl,MH⟩
 obtain ⟨P,cc,q0,n0,z0,q1,n1,z1,rfl,rfl,MK⟩:=hcut
 rename World=>wx
 clear PL RV H0 H2 HO2
 have hm:=MK.out.2
 rcases hm with ⟨hf,rfl,hL⟩ | ⟨hf,rfl,hle',hP⟩
 rotate_left 1
 ·have e:=HR.out
  rw [HSH.out,if_neg (by rw [hf]; decide)] at e
  simp only [Prod.mk.injEq] at e
  obtain ⟨rfl,rfl,rfl⟩:=e
  have WX:=hideP (W2.out.keep MK.out.1)
  clear HR HSH hf MK W2
  have p0:wx.cell? ⟨P,0,none⟩=some (.slice none 0 0):=cell_blk hP
  have p1:wx.cell? ⟨P,1,none⟩=some (.slice none 0 0):=cell_blk hP
  have hPr:P<wx.heap.size:=(Array.getElem?_eq_some_iff.1 hP).1
  have hsr:=WX.out.2.1
  have r0:=WX.out.2.2.2.1.1
  have r1:=WX.out.2.2.2.1.2.1
  have f2:=WX.out.2.2.2.1.2.2
  clear hP
  go_wp2_with fail
  refine bodyPost_ret (v:=.tuple #[.agg #[.slice none 0 0,.slice none 0 0],.int .i64 6]) (by simp [results,Tryz.results56,go_sem,r0,r1]) rfl ⟨(WX.out.1.setCell (by simp; omega) _).setCell (by simp; omega) _,_,_,rfl,Own.nil _ _,Own.nil _ _,.inl rfl⟩
 have HL:=hideP hL
 have e:=HR.out
 rw [HSH.out,if_pos hf] at e
 obtain ⟨sN,hsN⟩:∃sN,(Pl.prodC tb).toNat=sN:=⟨_,rfl⟩
 have HSN:=hideP hsN
 rw [hsN] at e
 have PE:=hideP e
 clear e HR hf MK hL hsN
 go_wp2_with fail
 go_loopw [8] (fun s8 wr=>∃k:Nat,k<=da.length/\s8=.int .i64 k/\Hid ((da.take k).all (Pl.inB n)=true)/\∃nv,Hid (Lp w2 sh P (.slice q0 n0 z0) nv (Pl.flat db sN (da.take k)) wr)) (fun s8 _=>da.length-(intOf s8).toNat)
 case atStart=>exact ⟨0,Nat.zero_le _,rfl,(show (da.take 0).all (Pl.inB n)=true from rfl),.slice q1 n1 z1,HL⟩
 clear HL
 obtain ⟨k,hk,rfl,hz,nv,hL⟩:=hrel
 have WR:=hideP (W2.out.keep hL.out.bel)
 have ca1:=WR.out.2.2.1.2.1
 by_cases hlt:k<da.length
 rotate_left 1
 ·have kn:k=da.length:=by omega
  subst kn
  rw [List.take_length] at hz hL
  have e:=PE.out
  rw [if_pos hz.out] at e
  simp only [Prod.mk.injEq] at e
  have LD:Hid (Lp w2 sh P (.slice q0 n0 z0) nv D wr):=by
   have:=hL.out
   rw [e.2.2] at this
   exact this
  have HE:=hideP e
  obtain ⟨xo,yo,eo⟩:=owns_form LD.out.d
  subst eo
  have p0:wr.cell? ⟨P,0,none⟩=some (.slice q0 n0 z0):=cell_blk LD.out.blk
  have p1:wr.cell? ⟨P,1,none⟩=some (.slice xo D.length yo):=cell_blk LD.out.blk
  have hPr:P<wr.heap.size:=(Array.getElem?_eq_some_iff.1 LD.out.blk).1
  have hsr:=WR.out.2.1
  have r0:=WR.out.2.2.2.1.1
  have r1:=WR.out.2.2.2.1.2.1
  have f2:=WR.out.2.2.2.1.2.2
  clear e hL
  go_wp2_with fail
  refine bodyPost_ret (v:=.tuple #[.agg #[.slice q0 n0 z0,.slice xo D.length yo],.int .i64 0]) (by simp [results,Tryz.results56,go_sem,r0,r1]) rfl ?_
  show FPost _ _ _ _ _ _
  rw [<- HE.out.1,<- HE.out.2.1]
  refine ⟨(WR.out.1.setCell (by simp; omega) _).setCell (by simp; omega) _,_,_,rfl,?_,?_,?_⟩
  ·exact Own.base (Own.store (Own.store (own_of_any LD.out.c) (by omega) _) (by omega) _) (by omega)
  ·exact Own.base (Own.store (Own.store (own_of_any LD.out.d) (by omega) _) (by omega) _) (by omega)
  exact .inr (.inr fun b e0 e1=>LD.out.ap b e0 e1)
 have hlt':(k:Int)<(da.length:Int):=by omega
 have hck:wr.cell? ⟨b1,k,none⟩=some (.int .i64 (da.getD k 0)):=by
  have:=rd_cell H1.out hlt
  rw [Nat.zero_add] at this
  exact (WR.out.1.cell (p:=⟨b1,k,none⟩) this.1).trans this.2
 have cb:wr.cell? ⟨b2,0,none⟩=some (.int .i64 (n:Int)):=(WR.out.1.cell (p:=⟨b2,0,none⟩) CB.out.1).trans CB.out.2
 have cb0:=WR.out.2.2.1.2.2.1
 have TS:=hideP (Pl.take_snoc da k hlt)
 have AS:=hideP (Pl.all_snoc da (Pl.inB n) k hlt)
 have AF:Hid (Pl.inB n (da.getD k 0)=false->da.all (Pl.inB n)=false):=fun h=>Pl.all_false hlt h
 have HCK:=hideP hck
 generalize da.getD k 0=x at *
 have QL:Hid (∀q,Lp w2 sh P (.slice q0 n0 z0) nv (Pl.flat db sN (da.take k)) (wr.drewN q)):=fun q=>hL.out.quiet (below_drewN (Below.refl _ _) q)
 have QX:Hid (∀q,(wr.drewN q).cell? ⟨b1,k,none⟩=some (.int .i64 x)):=fun q=>HCK.out
 by_cases hin:0<=x/\x<n
 rotate_left 1
 ·have hbad:Pl.inB n x=false:=by unfold Pl.inB; rw [decide_eq_false_iff_not]; exact hin
  have e:=PE.out
  rw [AF.out hbad,if_neg (by decide)] at e
  simp only [Prod.mk.injEq] at e
  obtain ⟨rfl,rfl,rfl⟩:=e
  clear TS AS AF hbad PE QX
  by_cases hx:x<0
  ·clear hin
   go_wp2_with fail
   go_quiet (fail)
   have WQ:=hideP (W2.out.keep (QL.out nq).bel)
   clear QL hck HCK cb cb0 ca1 WR hL hx
   generalize wr.drewN nq=wq at *
   have hsq:=WQ.out.2.1
   have r0:=WQ.out.2.2.2.1.1
   have r1:=WQ.out.2.2.2.1.2.1
   have f2:=WQ.out.2.2.2.1.2.2
   go_wp2_with fail
   refine bodyPost_ret (v:=.tuple #[.agg #[.slice none 0 0,.slice none 0 0],.int .i64 4]) (by simp [results,Tryz.results56,go_sem,r0,r1]) rfl ⟨(WQ.out.1.setCell (by simp; omega) _).setCell (by simp; omega) _,_,_,rfl,Own.nil _ _,Own.nil _ _,.inl rfl⟩
  have hx2:(n:Int)<=x:=by omega
  have hx3:0<=x:=by omega
  clear hin hx
  go_wp2_with fail
  go_quiet (fail)
  have WQ:=hideP (W2.out.keep (QL.out nq).bel)
  clear QL hck HCK cb cb0 ca1 WR hL hx2 hx3
  generalize wr.drewN nq=wq at *
  have hsq:=WQ.out.2.1
  have r0:=WQ.out.2.2.2.1.1
  have r1:=WQ.out.2.2.2.1.2.1
  have f2:=WQ.out.2.2.2.1.2.2
  go_wp2_with fail
  refine bodyPost_ret (v:=.tuple #[.agg #[.slice none 0 0,.slice none 0 0],.int .i64 4]) (by simp [results,Tryz.results56,go_sem,r0,r1]) rfl ⟨(WQ.out.1.setCell (by simp; omega) _).setCell (by simp; omega) _,_,_,rfl,Own.nil _ _,Own.nil _ _,.inl rfl⟩
 obtain ⟨q,rfl⟩:=Int.eq_ofNat_of_zero_le hin.1
 have hqn:q<n:=by omega
 obtain ⟨s,hs1,hs3'⟩:=ROWS.out (by omega)
 have es:s=sN:=by rw [<- HSN.out,hs1]; simp
 subst es
 have hq1:(q+1) * s<=db.length:=by rw [hs3']; exact Nat.mul_le_mul_right s hqn
 have KRW:Hid (∀W,Below w2.heap.size w2 W->Calls Tryz.prog 100 #[.agg #[.slice (some ⟨b2,0,none⟩) (tb.length+1) k2,.slice (some ⟨b3,0,none⟩) db.length k3],.int .i64 (q:Int)] W fun e w'=>∃u0 u1,e=.returned (.agg #[u0,u1])/\Res W.heap.size w' u0 u1 tb (Pl.rowAt db s q)/\Below W.heap.size W w'):=fun W hb=>KRB.out q s W (W2.out.keep hb).1 hs1 hq1 (by omega)
 have RLn:Hid ((Pl.rowAt db s q).length=s):=Pl.rowAt_len hq1
 have hsd:s<=1000:=by
  have:1 * s<=(q+1) * s:=Nat.mul_le_mul_right s (by omega)
  omega
 have FS:Hid (Pl.flat db s (da.take (k+1))=Pl.flat db s (da.take k)++Pl.rowAt db s q):=by
  show _=_
  rw [TS.out,Pl.flat_snoc]
  simp
 have AL:Hid ((da.take (k+1)).all (Pl.inB n)=true):=by
  show _=_
  rw [AS.out,hz.out]
  unfold Pl.inB
  rw [Bool.true_and,decide_eq_true_eq]
  exact hin
 have UB:Hid ((Pl.flat db s (da.take k)).length+(Pl.rowAt db s q).length<=16777216):=by
  show _<=_
  have h1:=Pl.flat_len db s (da.take k)
  have h2:(da.take k).length * s<=1000 * 1000:=Nat.mul_le_mul (by rw [List.length_take]; omega) hsd
  rw [RLn.out]
  omega
 have t1:¬(q:Int)<0:=by omega
 have t2:¬(n:Int)<=(q:Int):=by omega
 have t3:¬n<=q:=by omega
 clear TS AS AF hin hs1 hs3' HSN PE
 generalize Pl.flat db s (da.take k)=fl at *
 go_wp2_with fail
 go_quiet (fail)
 have LQ0:=hideP (QL.out nq)
 have CX0:=hideP (QX.out nq)
 clear QL QX hck HCK cb cb0 ca1 WR hL t1 t2 t3
 generalize wr.drewN nq=wq at *
 obtain ⟨xo',yo',eo'⟩:=owns_form LQ0.out.d
 subst eo'
 have hPq:w2.heap.size<=P:=LQ0.out.le
 have rNo:Hid (∀b,b<w2.heap.size->¬(Value.slice xo' fl.length yo').ownBlock=some b):=fun b hb h=>by
  have:=(LQ0.out.d.lt b h).1
  omega
 have LQ:=hideP (LQ0.out.quiet ((Below.refl wq.heap.size wq).drew))
 have CX:Hid (wq.drew.cell? ⟨b1,k,none⟩=some (.int .i64 (q:Int))):=CX0.out
 have SK:=hideP (Keep.refl wq.drew P (Value.slice xo' fl.length yo').ownBlock)
 go_wp2_with fail
 refine wp_region_held (S:=fun w'=>Keep wq.drew P (Value.slice xo' fl.length yo').ownBlock w') (by kernel_rfl) ?_
 change wpAnyH _ _ _ _ _ _ _ _ (World.drew _)
 clear LQ0 CX0
 generalize World.drew wq=wn0 at *
 have LW:Hid (Below w2.heap.size w2 wn0):=LQ.out.bel
 have WN:=hideP (W2.out.keep LW.out)
 have hb1w:b1<w.heap.size:=(rd_cell H1.out hlt).1
 have LB:Hid (∀w',Keep wn0 P (Value.slice xo' fl.length yo').ownBlock w'->w'.cell? ⟨w.heap.size+1,0,none⟩=some (.slice (some ⟨b2,0,none⟩) (tb.length+1) k2)/\w'.cell? ⟨w.heap.size+1,1,none⟩=some (.slice (some ⟨b3,0,none⟩) db.length k3)):=fun w' h=>⟨h.cell (by omega) (rNo.out _ (by omega)) WN.out.2.2.1.2.2.1,h.cell (by omega) (rNo.out _ (by omega)) WN.out.2.2.1.2.2.2⟩
 have LA:Hid (∀w',Keep wn0 P (Value.slice xo' fl.length yo').ownBlock w'->w'.cell? ⟨w.heap.size,1,none⟩=some (.slice (some ⟨b1,0,none⟩) da.length k1)):=fun w' h=>h.cell (by omega) (rNo.out _ (by omega)) WN.out.2.2.1.2.1
 have LX:Hid (∀w',Keep wn0 P (Value.slice xo' fl.length yo').ownBlock w'->w'.cell? ⟨b1,k,none⟩=some (.int .i64 (q:Int))):=fun w' h=>h.cell (by omega) (rNo.out _ (by omega)) CX.out
 have p1:wn0.cell? ⟨P,1,none⟩=some (.slice xo' fl.length yo'):=cell_blk LQ.out.blk
 have hPn:P<wn0.heap.size:=(Array.getElem?_eq_some_iff.1 LQ.out.blk).1
 refine tz 0 (.pointer (some ⟨P,1,none⟩)) rfl SK.out (fun w' hS=>by clear hS; go_simp) ?_
 refine tz 2 (.agg #[.slice (some ⟨b2,0,none⟩) (tb.length+1) k2,.slice (some ⟨b3,0,none⟩) db.length k3]) rfl SK.out (fun w' hS=>by have:=LB.out w' hS; clear hS; go_simp) ?_
 refine tz 3 (.pointer (some ⟨w.heap.size,1,none⟩)) rfl SK.out (fun w' hS=>by clear hS; go_simp) ?_
 refine tz 4 (.slice (some ⟨b1,0,none⟩) da.length k1) rfl SK.out (fun w' hS=>by have:=LA.out w' hS; clear hS; go_simp) ?_
 refine tz 5 (.int .i64 (k:Int)) rfl SK.out (fun w' hS=>by clear hS; go_simp) ?_
 refine tz 6 (.pointer (some ⟨b1,k,none⟩)) rfl SK.out (fun w' hS=>by clear hS; go_simp) ?_
 refine tz 7 (.int .i64 (q:Int)) rfl SK.out (fun w' hS=>by have:=LX.out w' hS; clear hS; go_simp) ?_
 clear LB LA LX
 refine ry2 1 8 rfl rfl (fun K hK=>?_) (fun K hK=>?_)
 ·go_simp
  refine hK.out _ _ SK.out (fun _=>?_)
  clear hK
  refine ry1 8 rfl (fun K hK=>?_)
  go_simp
  refine (KRW.out _ (LW.out)).mono ?_
  rintro e wz ⟨u0,u1,rfl,resz,hbz⟩
  obtain ⟨x0,y0,e0⟩:=resz.1.form
  obtain ⟨x1,y1,e1⟩:=resz.2.1.form
  subst e0 e1
  have KZ:=hideP (SK.out.below hbz)
  have LZ:=hideP (LQ.out.quiet hbz)
  have RZ:=hideP resz.2.1.rd
  clear resz hbz
  refine hK.out _ _ KZ.out (fun _=>?_)
  clear hK
  refine tz 9 (.slice x1 (Pl.rowAt db s q).length y1) rfl KZ.out (fun w' hS=>by have:=fieldB x0 x1 tb.length y0 (Pl.rowAt db s q).length y1 w'; clear hS; go_simp) ?_
  refine ry1 10 rfl (fun K hK=>?_)
  refine step_append_at (base:=w2.heap.size) _ rfl _ _ rfl (.slice xo' fl.length yo') (.slice x1 (Pl.rowAt db s q).length y1) rfl rfl fl.length fl (Pl.rowAt db s q) LZ.out.d RZ.out UB.out LZ.out.bel.size ?_
  intro v' w9 ho' hg hat'
  have OS:=hideP (LZ.out.stepL hg ho' hat')
  have K9:=hideP (KZ.out.grown hg)
  obtain ⟨x9,y9,e9⟩:=owns_form ho'
  subst e9
  have hs9:P<w9.heap.size:=(Array.getElem?_eq_some_iff.1 OS.out.1).1
  have p9:w9.cell? ⟨P,1,none⟩=some (.slice xo' fl.length yo'):=cell_blk OS.out.1
  have f9:w9.frozen? ⟨P,1,none⟩=false:=frozen_blk OS.out.1
  clear ho' hg hat'
  refine hK.out _ _ K9.out (fun _=>?_)
  clear hK
  refine ry1 11 rfl (fun K hK=>?_)
  go_simp
  refine hK.out _ _ K9.out (fun _=>?_)
  clear hK
  refine ry1 12 rfl (fun K hK=>?_)
  go_simp
  refine hK.out _ _ (K9.out.set _) (fun _=>?_)
  clear hK
  refine wpAnyH_done (by kernel_rfl) ?_ _
  clear p9 f9
  go_wp2_with fail
  go_roundw
  case rel=>exact ⟨k+1,by omega,by go_num,AL,_,by show Lp _ _ _ _ _ _ _; rw [FS.out]; exact OS.out.2⟩
  simp [intOf]; omega
 go_simp
 refine (KRW.out _ (LW.out)).mono ?_
 rintro e wz ⟨u0,u1,rfl,resz,hbz⟩
 obtain ⟨x0,y0,e0⟩:=resz.1.form
 obtain ⟨x1,y1,e1⟩:=resz.2.1.form
 subst e0 e1
 have KZ:=hideP (SK.out.below hbz)
 have LZ:=hideP (LQ.out.quiet hbz)
 have RZ:=hideP resz.2.1.rd
 clear resz hbz
 refine hK.out _ _ KZ.out (fun _=>?_)
 clear hK
 refine tz 9 (.slice x1 (Pl.rowAt db s q).length y1) rfl KZ.out (fun w' hS=>by have:=fieldB x0 x1 tb.length y0 (Pl.rowAt db s q).length y1 w'; clear hS; go_simp) ?_
 refine ry1 1 rfl (fun K hK=>?_)
 have p1:wz.cell? ⟨P,1,none⟩=some (.slice xo' fl.length yo'):=cell_blk LZ.out.blk
 go_simp
 refine hK.out _ _ KZ.out (fun _=>?_)
 clear hK p1
 refine ry1 10 rfl (fun K hK=>?_)
 refine step_append_at (base:=w2.heap.size) _ rfl _ _ rfl (.slice xo' fl.length yo') (.slice x1 (Pl.rowAt db s q).length y1) rfl rfl fl.length fl (Pl.rowAt db s q) LZ.out.d RZ.out UB.out LZ.out.bel.size ?_
 intro v' w9 ho' hg hat'
 have OS:=hideP (LZ.out.stepL hg ho' hat')
 have K9:=hideP (KZ.out.grown hg)
 obtain ⟨x9,y9,e9⟩:=owns_form ho'
 subst e9
 have hs9:P<w9.heap.size:=(Array.getElem?_eq_some_iff.1 OS.out.1).1
 have p9:w9.cell? ⟨P,1,none⟩=some (.slice xo' fl.length yo'):=cell_blk OS.out.1
 have f9:w9.frozen? ⟨P,1,none⟩=false:=frozen_blk OS.out.1
 clear ho' hg hat'
 refine hK.out _ _ K9.out (fun _=>?_)
 clear hK
 refine ry1 11 rfl (fun K hK=>?_)
 go_simp
 refine hK.out _ _ K9.out (fun _=>?_)
 clear hK
 refine ry1 12 rfl (fun K hK=>?_)
 go_simp
 refine hK.out _ _ (K9.out.set _) (fun _=>?_)
 clear hK
 refine wpAnyH_done (by kernel_rfl) ?_ _
 clear p9 f9
 go_wp2_with fail
 go_roundw
 case rel=>exact ⟨k+1,by omega,by go_num,AL,_,by show Lp _ _ _ _ _ _ _; rw [FS.out]; exact OS.out.2⟩
 simp [intOf]; omega
theorem l2From_any (a0:Option Addr) (k0 b1 k1 b2 k2 b3 k3:Nat) (sa da sb db:List Int) (w:World) (h0:Rd w.heap.size w (.slice a0 sa.length k0) sa) (h1:Rd w.heap.size w (.slice (some ⟨b1,0,none⟩) da.length k1) da) (h2:Rd w.heap.size w (.slice (some ⟨b2,0,none⟩) sb.length k2) sb) (h3:Rd w.heap.size w (.slice (some ⟨b3,0,none⟩) db.length k3) db)
  (hk2:sb.length<=k2) (hk2':k2<=9223372036854775807) (hk3:db.length<=k3) (hk3':k3<=9223372036854775807) (oka:Pl.okB sa da=true) (okb:Pl.okB sb db=true) (c:Int) (S D:List Int) (hres:Pl.fromM sa da sb db=(c,S,D)) :
  Calls Tryz.prog 56 #[.agg #[.slice a0 sa.length k0,.slice (some ⟨b1,0,none⟩) da.length k1],.agg #[.slice (some ⟨b2,0,none⟩) sb.length k2,.slice (some ⟨b3,0,none⟩) db.length k3]] w (FPost w c S D):=by
 have e:=hres
 unfold Pl.fromM at e
 by_cases hsb:sb.length=0
 ·rw [if_pos hsb] at e
  simp only [Prod.mk.injEq] at e
  obtain ⟨rfl,rfl,rfl⟩:=e
  have B:Hid (∀o o' o'',Below w.heap.size w (((w.alloc o).alloc o').alloc o'')):=fun o o' o''=>below3 w o o' o''
  have test:((sb.length:Int) == 0)=true:=by rw [hsb]; rfl
  clear h0 h1 h2 h3 oka okb hres hsb
  generalize sb.length=lb at *
  go_enter Tryz.func56,Tryz.ntmps56
  go_wp2_with fail
  refine bodyPost_ret (v:=.tuple #[.agg #[.slice none 0 0,.slice none 0 0],.int .i64 2]) (by simp [results,Tryz.results56,go_sem]) rfl ⟨B.out _ _ _,_,_,rfl,Own.nil _ _,Own.nil _ _,.inl rfl⟩
 rw [if_neg hsb] at e
 obtain ⟨n,hn⟩:∃n:Nat,sb.getD 0 0=n:=by
  have:=(Pl.ok_len okb).2
  simp only [Pl.fitsB,Pl.baseB,Bool.and_eq_true] at this
  have:=Pl.inR_bd (Pl.all_getD this.1.2 (k:=0) (by omega))
  exact ⟨(sb.getD 0 0).toNat,by omega⟩
 have sb':(n:Int)::sb.tail=sb:=by
  rw [<- hn]
  exact Pl.cons_tail sb hsb
 have lb':sb.length=sb.tail.length+1:=by rw [List.length_tail]; omega
 rw [hn] at e
 rw [lb']
 refine l2From_core a0 k0 b1 k1 b2 k2 b3 k3 sa da sb.tail db n w h0 h1 ?_ h3 (by omega) hk2' hk3 hk3' oka (by rw [sb']; exact okb) c S D e
 rw [<- lb',sb']
 exact h2
end Go.Proofs.YtacapaiadggemaaGreat
