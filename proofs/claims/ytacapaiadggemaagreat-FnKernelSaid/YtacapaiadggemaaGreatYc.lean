import Derived.Test.YtacapaiadggemaaGreatFace2
import Derived.Deep.CutBlock
namespace Go.Proofs.YtacapaiadggemaaGreat
open Go.RowKit
set_option maxRecDepth 100000
set_option maxHeartbeats 16000000
set_option linter.unusedVariables false
theorem cat_gen (v0 v1 v2 v3:Value) (sa da sb db:List Int) (w:World) (h0:Sl w v0 sa) (h1:Sl w v1 da) (h2:Sl w v2 sb) (h3:Sl w v3 db)
  (oka:Pl.okB sa da=true) (okb:Pl.okB sb db=true) (c:Int) (SS DD:List Int) (hres:Pl.catM sa da sb db=(c,SS,DD)) :
  Calls Tryz.prog 118 #[.agg #[v0,v1],.agg #[v2,v3]] w (KPost w c SS DD):=by
 have m1:=(Pl.ok_max oka).2
 have m2:=(Pl.ok_max okb).2
 have pa:=Pl.axes_bd oka
 have pb:=Pl.axes_bd okb
 unfold Pl.catM at hres
 obtain ⟨xs,hxs⟩:∃xs,Pl.axesS sa da=xs:=⟨_,rfl⟩
 obtain ⟨ys,hys⟩:∃ys,Pl.axesS sb db=ys:=⟨_,rfl⟩
 rw [hxs] at pa hres
 rw [hys] at pb hres
 have HE:=hideP hres
 have PA:=hideP (Pl.asR_bd xs ys.length (by omega) pa)
 have PB:=hideP (Pl.asR_bd ys xs.length (by omega) pb)
 have C0:=hideP (Cz.new w sa da sb db v0 v1 v2 v3 h0 h1 h2 h3)
 have lx:=pa.1
 have ly:=pb.1
 have KWA:Hid (∀w',Sl w' v0 sa->Sl w' v1 da->Calls Tryz.prog 141 #[.agg #[v0,v1]] w' fun e w''=>∃u0,e=.returned (.agg #[u0,v1])/\Sl w'' u0 xs/\Below w'.heap.size w' w''):=fun w' r0 r1=>by
  have:=withAxes_s v0 v1 sa da w' r0 r1
  rw [hxs] at this
  exact this
 have KWB:Hid (∀w',Sl w' v2 sb->Sl w' v3 db->Calls Tryz.prog 141 #[.agg #[v2,v3]] w' fun e w''=>∃u0,e=.returned (.agg #[u0,v3])/\Sl w'' u0 ys/\Below w'.heap.size w' w''):=fun w' r0 r1=>by
  have:=withAxes_s v2 v3 sb db w' r0 r1
  rw [hys] at this
  exact this
 obtain ⟨t0,j0,e0,_⟩:=h0
 obtain ⟨t1,j1,e1,_⟩:=h1
 obtain ⟨t2,j2,e2,_⟩:=h2
 obtain ⟨t3,j3,e3,_⟩:=h3
 subst e0 e1 e2 e3
 clear hxs hys hres pa pb oka okb
 go_enter Tryz.func118,Tryz.ntmps118
 go_upto_region 1 with fail
 have DW:=hideP (C0.out.keep (show Below _ _ (World.drew _) from (Below.refl _ _).drew))
 go_cut [] (fun wy=>∃gA kA gB kB,Hid ((xs.length<=kA/\kA<=9223372036854775807)/\ys.length<=kB/\kB<=9223372036854775807)/\Hid (Cz w xs da ys db (.slice (some ⟨gA,0,none⟩) xs.length kA) (.slice t1 da.length j1) (.slice (some ⟨gB,0,none⟩) ys.length kB) (.slice t3 db.length j3) wy))
 case first =>
  refine wp_region_held (S:=fun w'=>True) (by kernel_rfl) ?_
  change wpAnyH _ _ _ _ _ _ _ _ (World.drew _)
  generalize World.drew (((w.alloc (.cells #[.slice t0 sa.length j0,.slice t1 da.length j1] 25)).alloc (.cells #[.slice t2 sb.length j2,.slice t3 db.length j3] 25)).alloc (.cells #[.slice none 0 0,.slice none 0 0] 25))=wd at DW ⊢
  refine ry2 0 2 rfl rfl (fun K hK=>?_) (fun K hK=>?_)
  focus
   have q0:=DW.out.a0
   have q1:=DW.out.a1
   go_simp
   refine hK.out _ _ trivial (fun _=>?_)
   clear hK q0 q1
   refine ry2 1 2 rfl rfl (fun K hK=>?_) (fun K hK=>?_)
   focus
    go_simp
    refine (KWA.out _ DW.out.xa DW.out.xd).mono ?_
    rintro e w1 ⟨u0,rfl,sA,hb⟩
    have D1:=hideP (DW.out.keep hb)
    have SA:=hideP sA
    obtain ⟨gA,kA,eA,ka1,ka2⟩:=sA.at (by omega)
    subst eA
    clear sA hb
    refine hK.out _ _ trivial (fun _=>?_)
    clear hK
    refine ry1 2 rfl (fun K hK=>?_)
    have q0:=D1.out.b0
    have q1:=D1.out.b1
    go_simp
    refine hK.out _ _ trivial (fun _=>?_)
    clear hK q0 q1
   rotate_left
   focus
    have q0:=DW.out.b0
    have q1:=DW.out.b1
    go_simp
    refine hK.out _ _ trivial (fun _=>?_)
    clear hK q0 q1
    refine ry1 1 rfl (fun K hK=>?_)
    go_simp
    refine (KWA.out _ DW.out.xa DW.out.xd).mono ?_
    rintro e w1 ⟨u0,rfl,sA,hb⟩
    have D1:=hideP (DW.out.keep hb)
    have SA:=hideP sA
    obtain ⟨gA,kA,eA,ka1,ka2⟩:=sA.at (by omega)
    subst eA
    clear sA hb
    refine hK.out _ _ trivial (fun _=>?_)
    clear hK
   rotate_left
  rotate_left
  rotate_left
  focus
   have q0:=DW.out.b0
   have q1:=DW.out.b1
   go_simp
   refine hK.out _ _ trivial (fun _=>?_)
   clear hK q0 q1
   refine ry1 0 rfl (fun K hK=>?_)
   have q0:=DW.out.a0
   have q1:=DW.out.a1
   go_simp
   refine hK.out _ _ trivial (fun _=>?_)
   clear hK q0 q1
   refine ry1 1 rfl (fun K hK=>?_)
   go_simp
   refine (KWA.out _ DW.out.xa DW.out.xd).mono ?_
   rintro e w1 ⟨u0,rfl,sA,hb⟩
   have D1:=hideP (DW.out.keep hb)
   have SA:=hideP sA
   obtain ⟨gA,kA,eA,ka1,ka2⟩:=sA.at (by omega)
   subst eA
   clear sA hb
   refine hK.out _ _ trivial (fun _=>?_)
   clear hK
  rotate_left
  all_goals
   refine ry1 3 rfl (fun K hK=>?_)
   go_simp
   refine (KWB.out _ D1.out.xb D1.out.xe).mono ?_
   rintro e w2 ⟨u2,rfl,sB,hb⟩
   have D2:=hideP (D1.out.keep hb)
   have SA2:=hideP (SA.out.keep hb)
   obtain ⟨gB,kB,eB,kb1,kb2⟩:=sB.at (by omega)
   subst eB
   have D3:=hideP (D2.out.putA SA2.out D2.out.xd)
   have SB3:=hideP ((sB.aside (j:=0) D2.out.a0 (.slice (some ⟨gA,0,none⟩) xs.length kA)).aside (A:=w.heap.size) (j:=1) (q:=some ⟨gA,0,none⟩) (m:=xs.length) (k:=kA) (by have:=D2.out.a0; simp [go_sem,this]) (.slice t1 da.length j1))
   clear sB hb
   refine hK.out _ _ trivial (fun _=>?_)
   clear hK
   refine ry1 4 rfl (fun K hK=>?_)
   have q0:=D2.out.a0
   have q1:=D2.out.a1
   have q2:=D2.out.fa
   go_simp
   refine hK.out _ _ trivial (fun _=>?_)
   clear hK q0 q1 q2
   generalize ((w2.setCell ⟨w.heap.size,0,none⟩ (.slice (some ⟨gA,0,none⟩) xs.length kA)).setCell ⟨w.heap.size,1,none⟩ (.slice t1 da.length j1))=w3 at D3 SB3 ⊢
   have D4:=hideP (D3.out.putB SB3.out D3.out.xe)
   refine ry1 5 rfl (fun K hK=>?_)
   have q0:=D3.out.b0
   have q1:=D3.out.b1
   have q2:=D3.out.fb
   go_simp
   refine hK.out _ _ trivial (fun _=>?_)
   clear hK q0 q1 q2
   refine wpAnyH_done (by kernel_rfl) ?_ _
   go_wp2_with fail
   go_meet
   exact ⟨gA,kA,gB,kB,⟨⟨ka1,ka2⟩,kb1,kb2⟩,D4⟩
 obtain ⟨gA,kA,gB,kB,HK,C1⟩:=hcut
 rename World=>wx
 clear DW C0 KWA KWB
 have z0:=C1.out.a0
 have z1:=C1.out.a1
 have z2:=C1.out.b0
 have z3:=C1.out.b1
 go_upto_block 0 with fail
 go_cut [] from 17 to 24 (fun wy=>∃(X Y:List Int) (gA kA gB kB:Nat),Hid (X=Pl.asR xs ys.length/\Y=Pl.asR ys xs.length)/\Hid ((X.length<=kA/\kA<=9223372036854775807)/\Y.length<=kB/\kB<=9223372036854775807)/\Hid (Cz w X da Y db (.slice (some ⟨gA,0,none⟩) X.length kA) (.slice t1 da.length j1) (.slice (some ⟨gB,0,none⟩) Y.length kB) (.slice t3 db.length j3) wy))
 case first =>
  by_cases hc1:ys.length=xs.length+1
  ·have u1:((xs.length:Int)-(ys.length:Int) == -1)=true:=by rw [beq_iff_eq]; omega
   have eA1:Pl.asR xs ys.length=1::xs:=by unfold Pl.asR; rw [if_pos (by omega)]
   have eB1:Pl.asR ys xs.length=ys:=by unfold Pl.asR; rw [if_neg (by omega)]
   have KR:=hideP (asRow_gen (.slice (some ⟨gA,0,none⟩) xs.length kA) (.slice t1 da.length j1) xs da wx (by omega) C1.out.xa C1.out.xd)
   clear hc1
   go_wp2_with fail
   refine KR.out.mono ?_
   rintro e w2 ⟨g2,k2,rfl,hk1,hk2,sn,hb⟩
   have C2:=hideP (C1.out.keep hb)
   have CP:=hideP (C2.out.putA sn C2.out.xd)
   clear z0 z1 z2 z3 sn hb KR C1
   have q0:=C2.out.a0
   have q1:=C2.out.a1
   have q2:=C2.out.fa
   go_wp2_with fail
   go_meet
   exact ⟨_,_,g2,k2,gB,kB,⟨eA1.symm,eB1.symm⟩,⟨⟨hk1,hk2⟩,HK.out.2⟩,CP⟩
  have u1:((xs.length:Int)-(ys.length:Int) == -1)=false:=by rw [beq_eq_false_iff_ne]; omega
  by_cases hc2:xs.length=ys.length+1
  ·have u2:((xs.length:Int)-(ys.length:Int) == 1)=true:=by rw [beq_iff_eq]; omega
   have eA1:Pl.asR xs ys.length=xs:=by unfold Pl.asR; rw [if_neg (by omega)]
   have eB1:Pl.asR ys xs.length=1::ys:=by unfold Pl.asR; rw [if_pos (by omega)]
   have KR:=hideP (asRow_gen (.slice (some ⟨gB,0,none⟩) ys.length kB) (.slice t3 db.length j3) ys db wx (by omega) C1.out.xb C1.out.xe)
   clear hc1 hc2
   go_wp2_with fail
   refine KR.out.mono ?_
   rintro e w2 ⟨g2,k2,rfl,hk1,hk2,sn,hb⟩
   have C2:=hideP (C1.out.keep hb)
   have CP:=hideP (C2.out.putB sn C2.out.xe)
   clear z0 z1 z2 z3 sn hb KR C1
   have q0:=C2.out.b0
   have q1:=C2.out.b1
   have q2:=C2.out.fb
   go_wp2_with fail
   go_meet
   exact ⟨_,_,gA,kA,g2,k2,⟨eA1.symm,eB1.symm⟩,⟨HK.out.1,hk1,hk2⟩,CP⟩
  have u2:((xs.length:Int)-(ys.length:Int) == 1)=false:=by rw [beq_eq_false_iff_ne]; omega
  have eA1:Pl.asR xs ys.length=xs:=by unfold Pl.asR; rw [if_neg (by omega)]
  have eB1:Pl.asR ys xs.length=ys:=by unfold Pl.asR; rw [if_neg (by omega)]
  go_wp2_with fail
  go_meet
  exact ⟨xs,ys,gA,kA,gB,kB,⟨eA1.symm,eB1.symm⟩,HK,C1⟩
 clear HK C1 z0 z1 z2 z3
 obtain ⟨X,Y,gA,kA,gB,kB,HX,HK,CX⟩:=hcut
 rename World=>wx
 obtain ⟨n1,tx,ex,lx2,hx1,hx2⟩:=PA.out
 obtain ⟨n2,ty,ey,ly2,hy1,hy2⟩:=PB.out
 have e:=HE.out
 rw [ex,ey] at e
 have eX:=HX.out.1.trans ex
 have eY:=HX.out.2.trans ey
 subst eX eY
 clear ex ey HX HE PA PB lx ly
 unfold Pl.catX at e
 have c0:=CX.out.a0
 have c1:=CX.out.b0
 by_cases hm:ty.length=tx.length
 rotate_left 1
 ·rw [if_neg (by simp; omega)] at e
  simp only [Prod.mk.injEq] at e
  obtain ⟨rfl,rfl,rfl⟩:=e
  have y3:(((tx.length:Int)+1) != ((ty.length:Int)+1))=true:=by rw [bne_iff_ne]; omega
  have BW:=hideP CX.out.bel
  go_wp2_with (go_at_call 73; refine (refuse_yes _ _).mono ?_; rintro e wx ⟨rfl,rfl⟩)
  exact ⟨rfl,BW.out,.inr ⟨by decide,rfl,rfl,rfl⟩⟩
 rw [if_pos (by simp [hm])] at e
 have PE:Hid ((if tx=ty then (if Pl.fitsB ((n1+n2)::tx)=true then (0,(n1+n2)::tx,da++db) else (6,[],[])) else (3,[],[]))=(c,SS,DD)):=e
 clear e
 have y3:(((n1::tx).length:Int) != ((n2::ty).length:Int))=false:=by simp [hm]
 clear y3 c0 c1
 have KA:Hid (tx.length+1<=kA/\kA<=9223372036854775807):=HK.out.1
 have KB:Hid (tx.length+1<=kB/\kB<=9223372036854775807):=by
  have:=HK.out.2
  rw [List.length_cons,hm] at this
  exact this
 clear HK
 have CY:=CX.out
 rw [List.length_cons,List.length_cons,hm] at CY
 clear CX
 have CX:=hideP CY
 clear CY
 have y3:(((tx.length:Int)+1) != ((tx.length:Int)+1))=false:=by simp
 obtain ⟨oA,hoA⟩:∃oA:Nat,oA=if kA=1 then 0 else 0+1:=⟨_,rfl⟩
 obtain ⟨oB,hoB⟩:∃oB:Nat,oB=if kB=1 then 0 else 0+1:=⟨_,rfl⟩
 have HOA:=hideP hoA
 have HOB:=hideP hoB
 have PX:Hid (∀w',Below wx.heap.size wx w'->(w'.cell? ⟨gA,0,none⟩=some (.int .i64 n1)/\w'.cell? ⟨gB,0,none⟩=some (.int .i64 n2))/\(Rd w'.heap.size w' (.slice (some ⟨gA,oA,none⟩) tx.length (kA-1)) tx/\Rd w'.heap.size w' (.slice (some ⟨gB,oB,none⟩) tx.length (kB-1)) ty)/\Cz w (n1::tx) da (n2::ty) db (.slice (some ⟨gA,0,none⟩) (tx.length+1) kA) (.slice t1 da.length j1) (.slice (some ⟨gB,0,none⟩) (tx.length+1) kB) (.slice t3 db.length j3) w'):=fun w' hb=>by
  have k:=CX.out.keep hb
  have x1:=k.xb.rd
  rw [<- hm] at x1
  refine ⟨⟨(rd_headG k.xa.rd).2,(rd_headG x1).2⟩,⟨rd_tailG hoA KA.out.1 k.xa.rd,?_⟩,k⟩
  have:=rd_tailG hoB (by rw [hm]; exact KB.out.1) x1
  rw [hm] at this
  exact this
 have KEQ:Hid (∀w',Below wx.heap.size wx w'->Calls Tryz.prog 87 #[.slice (some ⟨gA,oA,none⟩) tx.length (kA-1),.slice (some ⟨gB,oB,none⟩) tx.length (kB-1)] w' fun e w''=>e=.returned (.bool (decide (tx=ty)))/\Below w'.heap.size w' w''):=fun w' hb=>slEq_any _ _ tx ty w' (by omega) (by omega) (PX.out w' hb).2.1.1 (PX.out w' hb).2.1.2
 have A3:Hid (∀(W:World) o,Below W.heap.size W (W.alloc o)):=fun W o=>(Below.refl _ _).alloc (Nat.le_refl _) _
 have hszx:=CX.out.size
 have c0:=CX.out.a0
 have c1:=CX.out.b0
 have HM:=hideP hm
 clear hoA hoB CX hm
 go_wp2_with (go_at_call 73; refine (refuse_no _ _).mono ?_; rintro e wx ⟨rfl,rfl⟩)
 clear c0 c1
 have DR:=hideP (show Below wx.heap.size wx wx.drew from (Below.refl _ _).drew)
 refine wp_region_held (S:=fun w'=>Below wx.heap.size wx w') (by kernel_rfl) ?_
 change wpAnyH _ _ _ _ _ _ _ _ (World.drew _)
 generalize World.drew wx=wd at DR ⊢
 refine tz 0 (.pointer (some ⟨w.heap.size,0,none⟩)) rfl DR.out (fun w' hS=>by clear hS; go_simp) ?_
 refine tz 1 (.slice (some ⟨gA,0,none⟩) (tx.length+1) kA) rfl DR.out (fun w' hS=>by have:=(PX.out w' hS).2.2.a0; clear hS; go_simp) ?_
 refine tz 2 (.slice (some ⟨gA,oA,none⟩) tx.length (kA-1)) rfl DR.out (fun w' _=>exec_loG (.tmp 34) (.const (.int .i64 1)) gA 0 tx.length kA oA HOA.out KA.out.1 KA.out.2 (by kernel_rfl) (by kernel_rfl) (by kernel_rfl) w') ?_
 refine tz 3 (.pointer (some ⟨w.heap.size+1,0,none⟩)) rfl DR.out (fun w' hS=>by clear hS; go_simp) ?_
 refine tz 4 (.slice (some ⟨gB,0,none⟩) (tx.length+1) kB) rfl DR.out (fun w' hS=>by have:=(PX.out w' hS).2.2.b0; clear hS; go_simp) ?_
 refine tz 5 (.slice (some ⟨gB,oB,none⟩) tx.length (kB-1)) rfl DR.out (fun w' _=>exec_loG (.tmp 37) (.const (.int .i64 1)) gB 0 tx.length kB oB HOB.out KB.out.1 KB.out.2 (by kernel_rfl) (by kernel_rfl) (by kernel_rfl) w') ?_
 refine ry1 6 rfl (fun K hK=>?_)
 go_simp
 refine (KEQ.out wd DR.out).mono ?_
 rintro e w6 ⟨rfl,hb6⟩
 have D6:=hideP (DR.out.trans (hb6.mono DR.out.size))
 have BW6:=hideP (PX.out w6 D6.out).2.2.bel
 clear hb6 DR KEQ
 refine hK.out _ _ D6.out (fun _=>?_)
 clear hK
 refine ry1 7 rfl (fun K hK=>?_)
 go_simp
 refine hK.out _ _ D6.out (fun _=>?_)
 clear hK
 refine ry1 8 rfl (fun K hK=>?_)
 by_cases htl:tx=ty
 rotate_left 1
 ·have htd:decide (tx=ty)=false:=decide_eq_false htl
  rw [htd]
  have e:=PE.out
  rw [if_neg htl] at e
  simp only [Prod.mk.injEq] at e
  obtain ⟨rfl,rfl,rfl⟩:=e
  clear htd htl PE
  go_simp
  refine (refuse_yes _ _).mono ?_
  rintro e w6 ⟨rfl,rfl⟩
  go_wp2_with fail
  exact ⟨rfl,BW6.out,.inr ⟨by decide,rfl,rfl,rfl⟩⟩
 have htd:decide (tx=ty)=true:=decide_eq_true htl
 rw [htd]
 have e:=PE.out
 rw [if_pos htl] at e
 have PE2:=hideP e
 clear e htd htl PE
 go_simp
 refine (refuse_no _ _).mono ?_
 rintro e w6 ⟨rfl,rfl⟩
 refine hK.out _ _ D6.out (fun _=>?_)
 clear hK
 refine wpAnyH_done (by kernel_rfl) ?_ _
 have PX6:Hid (∀w',Below w6.heap.size w6 w'->Below wx.heap.size wx w'):=fun w' hb=>D6.out.trans (hb.mono D6.out.size)
 have hs6:=D6.out.size
 go_upto_region 9 with fail
 have DR:=hideP (show Below w6.heap.size w6 w6.drew from (Below.refl _ _).drew)
 refine wp_region_held (S:=fun w'=>Below w6.heap.size w6 w') (by kernel_rfl) ?_
 change wpAnyH _ _ _ _ _ _ _ _ (World.drew _)
 generalize World.drew w6=wd at DR ⊢
 refine tz 0 (.pointer (some ⟨w.heap.size,0,none⟩)) rfl DR.out (fun w' hS=>by clear hS; go_simp) ?_
 refine tz 1 (.slice (some ⟨gA,0,none⟩) (tx.length+1) kA) rfl DR.out (fun w' hS=>by have:=(PX.out w' (PX6.out w' hS)).2.2.a0; clear hS; go_simp) ?_
 refine tz 2 (.pointer (some ⟨gA,0,none⟩)) rfl DR.out (fun w' hS=>by clear hS; go_simp) ?_
 refine tz 3 (.int .i64 n1) rfl DR.out (fun w' hS=>by have:=(PX.out w' (PX6.out w' hS)).1.1; clear hS; go_simp) ?_
 refine tz 4 (.pointer (some ⟨w.heap.size+1,0,none⟩)) rfl DR.out (fun w' hS=>by clear hS; go_simp) ?_
 refine tz 5 (.slice (some ⟨gB,0,none⟩) (tx.length+1) kB) rfl DR.out (fun w' hS=>by have:=(PX.out w' (PX6.out w' hS)).2.2.b0; clear hS; go_simp) ?_
 refine tz 6 (.pointer (some ⟨gB,0,none⟩)) rfl DR.out (fun w' hS=>by clear hS; go_simp) ?_
 refine tz 7 (.int .i64 n2) rfl DR.out (fun w' hS=>by have:=(PX.out w' (PX6.out w' hS)).1.2; clear hS; go_simp) ?_
 refine tz 8 (.int .i64 (n1+n2)) rfl DR.out (fun w' hS=>by clear hS; go_simp; rw [IntKind.wrap_i64]; omega) ?_
 refine tz 10 (.pointer (some ⟨w.heap.size,0,none⟩)) rfl DR.out (fun w' hS=>by clear hS; go_simp) ?_
 refine tz 11 (.slice (some ⟨gA,0,none⟩) (tx.length+1) kA) rfl DR.out (fun w' hS=>by have:=(PX.out w' (PX6.out w' hS)).2.2.a0; clear hS; go_simp) ?_
 refine tz 12 (.slice (some ⟨gA,oA,none⟩) tx.length (kA-1)) rfl DR.out (fun w' _=>exec_loG (.tmp 53) (.const (.int .i64 1)) gA 0 tx.length kA oA HOA.out KA.out.1 KA.out.2 (by kernel_rfl) (by kernel_rfl) (by kernel_rfl) w') ?_
 refine ry1 9 rfl (fun K hK=>?_)
 go_simp
 have E1:=hideP (DR.out.trans ((A3.out wd (.cells #[.int .i64 (n1+n2)] 3)).mono DR.out.size))
 refine hK.out _ _ E1.out (fun _=>?_)
 clear hK
 refine ry1 13 rfl (fun K hK=>?_)
 go_simp
 have E2:=hideP (E1.out.trans ((A3.out (wd.alloc (.cells #[.int .i64 (n1+n2)] 3)) (.cells #[.slice (some ⟨wd.heap.size,0,none⟩) 1 1,.slice (some ⟨gA,oA,none⟩) tx.length (kA-1)] 23)).mono E1.out.size))
 refine hK.out _ _ E2.out (fun _=>?_)
 clear hK
 refine ry1 14 rfl (fun K hK=>?_)
 go_simp
 refine (joined_lit (n1+n2) (.slice (some ⟨gA,oA,none⟩) tx.length (kA-1)) tx wd (by omega) (PX.out wd (PX6.out wd DR.out)).2.1.1).mono ?_
 rintro e w7 ⟨zs,yy,rfl,ho7,hb7⟩
 have B7:=hideP (DR.out.trans (hb7.mono DR.out.size))
 have O7:=hideP (ho7.base DR.out.size)
 clear ho7 hb7 E1 E2
 refine hK.out _ _ B7.out (fun _=>?_)
 clear hK
 refine ry1 15 rfl (fun K hK=>?_)
 go_simp
 refine hK.out _ _ B7.out (fun _=>?_)
 clear hK
 refine wpAnyH_done (by kernel_rfl) ?_ _
 have RD7:=hideP O7.out.rd
 have hs7:=B7.out.size
 have KN:=hideP (needFit_any _ _ ((n1+n2)::tx) w7 (by rw [List.length_cons]; omega) RD7.out)
 clear DR
 by_cases hf:Pl.fitsB ((n1+n2)::tx)=true
 rotate_left 1
 ·have e:=PE2.out
  rw [if_neg hf] at e
  simp only [Prod.mk.injEq] at e
  obtain ⟨rfl,rfl,rfl⟩:=e
  have KF:Hid (Calls Tryz.prog 124 #[.slice zs (tx.length+1) yy] w7 fun e w''=>e=.panicked [thrown 6]/\w''=w7):=KN.out.mono (by
   rintro e w'' ⟨rfl,⟨g,_⟩ | ⟨_,rfl⟩⟩
   ·rw [g] at hf; exact absurd rfl hf
   exact ⟨rfl,rfl⟩)
  have BW:=hideP (PX.out w7 (PX6.out w7 B7.out)).2.2.bel
  clear hf PE2 KN
  go_wp2_with (go_at_call 124; refine KF.out.mono ?_; rintro e w7 ⟨rfl,rfl⟩)
  exact ⟨rfl,BW.out,.inr ⟨by decide,rfl,rfl,rfl⟩⟩
 have e:=PE2.out
 rw [if_pos hf] at e
 simp only [Prod.mk.injEq] at e
 obtain ⟨rfl,rfl,rfl⟩:=e
 have Z7:=hideP (PX.out w7 (PX6.out w7 B7.out)).2.2
 have ca1:=Z7.out.a1
 have cb1:=Z7.out.b1
 have KF:Hid (Calls Tryz.prog 124 #[.slice zs (tx.length+1) yy] w7 fun e w''=>e=.returned (.tuple #[])/\w''=w7):=KN.out.mono (by
  rintro e w'' ⟨rfl,⟨_,rfl⟩ | ⟨g,_⟩⟩
  ·exact ⟨rfl,rfl⟩
  rw [hf] at g; cases g)
 clear hf PE2 KN
 go_wp2_with (go_at_call 124; refine KF.out.mono ?_; rintro e w7 ⟨rfl,rfl⟩)
 have AL:=hideP (A3.out w7 (.cells #[.slice t1 da.length j1,.slice t3 db.length j3] 23))
 refine (joined2 w7.heap.size (.slice t1 da.length j1) (.slice t3 db.length j3) da db (w7.alloc (.cells #[.slice t1 da.length j1,.slice t3 db.length j3] 23)) (by omega) (by omega) (by simp) (by simp [go_sem]) (by simp [go_sem]) (Z7.out.xd.keep AL.out).rd (Z7.out.xe.keep AL.out).rd).mono ?_
 rintro e w8 ⟨dv,rfl,ho8,hb8⟩
 have B8:=hideP (AL.out.trans (hb8.mono AL.out.size))
 have O8:=hideP (ho8.base AL.out.size)
 have C8:=hideP (Z7.out.keep B8.out)
 have O78:=hideP (O7.out.keep B8.out)
 have AP:=hideP (apart_right (B:=w7.heap.size) O8.out O7.out.lt)
 obtain ⟨zd,yd,ed⟩:=ho8.form
 subst ed
 have hs8:=B8.out.size
 clear ho8 hb8 ca1 cb1
 obtain ⟨r0,r1,f2⟩:=C8.out.res
 go_wp2_with fail
 refine bodyPost_ret (v:=.agg #[.slice zs (tx.length+1) yy,.slice zd (da++db).length yd]) (by simp [results,Tryz.results118,go_sem,r0,r1]) rfl ⟨(C8.out.bel.setCell (by simp; omega) _).setCell (by simp; omega) _,.inl ⟨rfl,_,_,rfl,?_,?_,AP.out⟩⟩
 ·exact Own.base (B:=w6.heap.size) (Own.store (Own.store O78.out (by omega) _) (by omega) _) (by omega)
 exact Own.base (B:=w7.heap.size) (Own.store (Own.store O8.out (by omega) _) (by omega) _) (by omega)
end Go.Proofs.YtacapaiadggemaaGreat
