import Derived.Test.YtacapaiadggemaaGreatDv
namespace Go.Proofs.YtacapaiadggemaaGreat
open Go.RowKit
set_option maxRecDepth 100000
set_option maxHeartbeats 16000000
set_option linter.unusedVariables false
namespace Pl
def asR (s:List Int) (m:Nat):List Int:=if s.length+1=m then 1::s else s
def catX (X Y da db:List Int):Int × List Int × List Int :=
 if X.length=Y.length then (if X.tail=Y.tail then (if fitsB ((X.getD 0 0+Y.getD 0 0)::X.tail)=true then (0,(X.getD 0 0+Y.getD 0 0)::X.tail,da++db) else (6,[],[])) else (3,[],[])) else (2,[],[])
def catM (sa da sb db:List Int):Int × List Int × List Int:=catX (asR (axesS sa da) (axesS sb db).length) (asR (axesS sb db) (axesS sa da).length) da db
theorem axes_bd {s d:List Int} (ok:okB s d=true):(1<=(axesS s d).length/\(axesS s d).length<=3)/\0<=(axesS s d).getD 0 0/\(axesS s d).getD 0 0<=1000:=by
 have okx:=axes_ok ok
 obtain ⟨n,t,e⟩:=axes_cons s d
 have m:=(ok_max okx).1
 rw [e] at okx m ⊢
 have hb:=(ok_len okx).2
 simp only [fitsB,baseB,Bool.and_eq_true,List.all_cons] at hb
 have:=inR_bd hb.1.2.1
 exact ⟨⟨by simp,m⟩,this.1,this.2⟩
theorem asR_bd (s:List Int) (m:Nat) (hm:m<=3) (h:(1<=s.length/\s.length<=3)/\0<=s.getD 0 0/\s.getD 0 0<=1000):∃n t,asR s m=n::t/\t.length<=2/\0<=n/\n<=1000:=by
 unfold asR
 by_cases h1:s.length+1=m
 ·rw [if_pos h1]
  exact ⟨1,s,rfl,by omega,by omega,by omega⟩
 rw [if_neg h1]
 cases s with
 |nil=>simp at h
 |cons n t=>exact ⟨n,t,rfl,by have:=h.1.2; simp at this; omega,by simpa using h.2.1,by simpa using h.2.2⟩
end Pl
theorem row_at {w:World} {base n:Nat} {v:Value} {xs:List Value} (h:w.ownsRow base 3 1 v n xs) (hn:0<n):∃g cap,v=.slice (some ⟨g,0,none⟩) n cap/\n<=cap/\cap<=9223372036854775807:=by
 rcases h.2 with ⟨_,h0⟩ | ⟨g,cap,cur,e,_,_,h1,h2,_⟩
 ·omega
 exact ⟨g,cap,e,h1,by unfold maxLen at h2; omega⟩
theorem Sl.at {w:World} {v:Value} {zs:List Int} (h:Sl w v zs) (hp:0<zs.length):∃g k,v=.slice (some ⟨g,0,none⟩) zs.length k/\zs.length<=k/\k<=9223372036854775807:=by
 obtain ⟨a,k,e,h1,h2,_,h3⟩:=h
 rcases h3 with h3 | ⟨g,rfl⟩
 ·omega
 exact ⟨g,k,e,h1,h2⟩
theorem l2Cat_gen (v0 v1 v2 v3:Value) (sa da sb db:List Int) (w:World) (h0:Sl w v0 sa) (h1:Sl w v1 da) (h2:Sl w v2 sb) (h3:Sl w v3 db)
  (oka:Pl.okB sa da=true) (okb:Pl.okB sb db=true) (c:Int) (SS DD:List Int) (hres:Pl.catM sa da sb db=(c,SS,DD)) :
  Calls Tryz.prog 55 #[.agg #[v0,v1],.agg #[v2,v3]] w (FPost w c SS DD):=by
 have m1:=(Pl.ok_max oka).2
 have m2:=(Pl.ok_max okb).2
 have pa:=Pl.axes_bd oka
 have pb:=Pl.axes_bd okb
 unfold Pl.catM at hres
 obtain ⟨xs,hxs⟩:∃xs,Pl.axesS sa da=xs:=⟨_,rfl⟩
 obtain ⟨ys,hys⟩:∃ys,Pl.axesS sb db=ys:=⟨_,rfl⟩
 rw [hxs] at pa hres
 rw [hys] at pb hres
 have HE:=hideP hres
 have PA:=hideP (Pl.asR_bd xs ys.length (by omega) pa)
 have PB:=hideP (Pl.asR_bd ys xs.length (by omega) pb)
 have C0:=hideP (Cz.new w sa da sb db v0 v1 v2 v3 h0 h1 h2 h3)
 have lx:=pa.1
 have ly:=pb.1
 have KXA:Hid (∀w',Sl w' v0 sa->Sl w' v1 da->Calls Tryz.prog 112 #[.agg #[v0,v1]] w' fun e w''=>∃u0 u1,e=.returned (.agg #[u0,u1])/\Sl w'' u0 xs/\Sl w'' u1 da/\Below w'.heap.size w' w''):=fun w' r0 r1=>by
  have:=l2Axes_gen v0 v1 sa da w' (by omega) r0 r1
  rw [hxs] at this
  exact this
 have KXB:Hid (∀w',Sl w' v2 sb->Sl w' v3 db->Calls Tryz.prog 112 #[.agg #[v2,v3]] w' fun e w''=>∃u0 u1,e=.returned (.agg #[u0,u1])/\Sl w'' u0 ys/\Sl w'' u1 db/\Below w'.heap.size w' w''):=fun w' r0 r1=>by
  have:=l2Axes_gen v2 v3 sb db w' (by omega) r0 r1
  rw [hys] at this
  exact this
 obtain ⟨t0,j0,e0,_⟩:=h0
 obtain ⟨t1,j1,e1,_⟩:=h1
 obtain ⟨t2,j2,e2,_⟩:=h2
 obtain ⟨t3,j3,e3,_⟩:=h3
 subst e0 e1 e2 e3
 clear hxs hys hres pa pb oka okb
 go_enter Tryz.func55,Tryz.ntmps55
 go_wp2_with fail
 refine (KXA.out _ C0.out.xa C0.out.xd).mono ?_
 rintro e w1 ⟨u0,u1,rfl,ra,rd,hb⟩
 obtain ⟨gA,kA,eA,ka1,ka2⟩:=ra.at (by omega)
 obtain ⟨a1,k1,ed,_⟩:=id rd
 subst eA ed
 have C1:=hideP (C0.out.keep hb)
 have C2:=hideP (C1.out.putA ra rd)
 clear ra rd hb C0 KXA
 have z0:=C1.out.a0
 have z1:=C1.out.a1
 have z2:=C1.out.fa
 go_upto_region 2 with fail
 generalize ((w1.setCell ⟨w.heap.size,0,none⟩ (.slice (some ⟨gA,0,none⟩) xs.length kA)).setCell ⟨w.heap.size,1,none⟩ (.slice a1 da.length k1))=w2 at C2 ⊢
 clear z0 z1 z2 C1
 have z0:=C2.out.b0
 have z1:=C2.out.b1
 go_wp2_with fail
 refine (KXB.out _ C2.out.xb C2.out.xe).mono ?_
 rintro e w3 ⟨u2,u3,rfl,ra,rd,hb⟩
 obtain ⟨gB,kB,eB,kb1,kb2⟩:=ra.at (by omega)
 obtain ⟨a3,k3,ed,_⟩:=id rd
 subst eB ed
 have C3:=hideP (C2.out.keep hb)
 have C1:=hideP (C3.out.putB ra rd)
 have HK:=hideP (And.intro (And.intro ka1 ka2) (And.intro kb1 kb2))
 clear ra rd hb C2 KXB z0 z1 ka1 ka2 kb1 kb2
 have z0:=C3.out.b0
 have z1:=C3.out.b1
 have z2:=C3.out.fb
 go_upto_region 3 with fail
 generalize ((w3.setCell ⟨w.heap.size+1,0,none⟩ (.slice (some ⟨gB,0,none⟩) ys.length kB)).setCell ⟨w.heap.size+1,1,none⟩ (.slice a3 db.length k3))=wx at C1 ⊢
 clear z0 z1 z2 C3
 have z0:=C1.out.a0
 have z1:=C1.out.a1
 have z2:=C1.out.b0
 have z3:=C1.out.b1
 go_upto_if 17 with fail
 go_cut [] (fun wy=>∃(X Y:List Int) (gA kA gB kB:Nat),Hid (X=Pl.asR xs ys.length/\Y=Pl.asR ys xs.length)/\Hid ((X.length<=kA/\kA<=9223372036854775807)/\Y.length<=kB/\kB<=9223372036854775807)/\Hid (Cz w X da Y db (.slice (some ⟨gA,0,none⟩) X.length kA) (.slice a1 da.length k1) (.slice (some ⟨gB,0,none⟩) Y.length kB) (.slice a3 db.length k3) wy))
 case first =>
  by_cases hc1:xs.length=ys.length+1
  ·have t1:((xs.length:Int) == (ys.length:Int)+1)=true:=by rw [beq_iff_eq]; omega
   have eA1:Pl.asR xs ys.length=xs:=by unfold Pl.asR; rw [if_neg (by omega)]
   have eB1:Pl.asR ys xs.length=1::ys:=by unfold Pl.asR; rw [if_pos (by omega)]
   go_upto_region 4 with fail
   have DW:=hideP (C1.out.keep (show Below _ _ wx.drew from (Below.refl _ _).drew))
   clear z0 z1 z2 z3
   refine wp_region_held (S:=fun w'=>w'.cell? ⟨w.heap.size+1,1,none⟩=some (.slice a3 db.length k3)) (by kernel_rfl) ?_
   change wpAnyH _ _ _ _ _ _ _ _ (World.drew _)
   generalize World.drew wx=wd at DW ⊢
   have A1:Hid (Below wd.heap.size wd (wd.alloc (.cells #[.int .i64 1] 3))):=(Below.refl _ _).alloc (Nat.le_refl _) _
   have CL:=hideP (DW.out.keep A1.out)
   have OL:=hideP (owns_one wd 1 wd.heap.size (Nat.le_refl _))
   refine tz 1 (.pointer (some ⟨w.heap.size+1,0,none⟩)) rfl DW.out.b1 (fun w' hS=>by clear hS; go_simp) ?_
   refine tz 4 (.pointer (some ⟨w.heap.size+1,1,none⟩)) rfl DW.out.b1 (fun w' hS=>by clear hS; go_simp) ?_
   refine tz 5 (.slice a3 db.length k3) rfl DW.out.b1 (fun w' hS=>by go_simp) ?_
   refine ry2 0 2 rfl rfl (fun K hK=>?_) (fun K hK=>?_)
   focus
    go_simp
    refine hK.out _ _ CL.out.b1 (fun _=>?_)
    clear hK
    refine ry1 2 rfl (fun K hK=>?_)
    have q0:=CL.out.b0
    go_simp
    refine hK.out _ _ CL.out.b1 (fun _=>?_)
    clear hK q0
   rotate_left
   focus
    have q0:=DW.out.b0
    go_simp
    refine hK.out _ _ DW.out.b1 (fun _=>?_)
    clear hK q0
    refine ry1 0 rfl (fun K hK=>?_)
    go_simp
    refine hK.out _ _ CL.out.b1 (fun _=>?_)
    clear hK
   rotate_left
   all_goals
    refine ry1 3 rfl (fun K hK=>?_)
    refine step_append_rd (base:=wd.heap.size) (wd.alloc (.cells #[.int .i64 1] 3)) rfl (.tmp 18) (.tmp 20) rfl (.slice (some ⟨wd.heap.size,0,none⟩) 1 1) (.slice (some ⟨gB,0,none⟩) ys.length kB) rfl rfl 1 [1] ys OL.out CL.out.xb.rd (by omega) (by simp) ?_
    intro v' w2 ho hg
    have B2:Below wd.heap.size wd w2:=A1.out.grown hg (by simp) (fun k hk=>(OL.out.lt k hk).1)
    have C2:=hideP (DW.out.keep B2)
    obtain ⟨g2,k2,ev,hk1,hk2⟩:=row_at ho (by omega)
    subst ev
    have eA:1+ys.length=ys.length+1:=Nat.add_comm _ _
    rw [eA] at ho hk1 ⊢
    have SN:Sl w2 (.slice (some ⟨g2,0,none⟩) (ys.length+1) k2) (1::ys):=Sl.of_own (own_of_any (zs:=1::ys) ho) rfl hk1 hk2
    have CP:=hideP (C2.out.putB SN C2.out.xe)
    clear ho hg eA B2 SN
    refine hK.out _ _ C2.out.b1 (fun _=>?_)
    clear hK
    refine ry1 6 rfl (fun K hK=>?_)
    go_simp
    refine hK.out _ _ C2.out.b1 (fun _=>?_)
    clear hK
    refine ry1 7 rfl (fun K hK=>?_)
    have q0:=C2.out.b0
    have q1:=C2.out.b1
    have q2:=C2.out.fb
    go_simp
    refine hK.out _ _ CP.out.b1 (fun _=>?_)
    clear hK q0 q1 q2
    refine wpAnyH_done (by kernel_rfl) ?_ _
    go_wp2_with fail
    go_meet
    exact ⟨_,_,gA,kA,g2,k2,⟨eA1.symm,eB1.symm⟩,⟨HK.out.1,hk1,hk2⟩,CP⟩
  have t1:((xs.length:Int) == (ys.length:Int)+1)=false:=by rw [beq_eq_false_iff_ne]; omega
  by_cases hc2:ys.length=xs.length+1
  rotate_left 1
  ·have t2:((ys.length:Int) == (xs.length:Int)+1)=false:=by rw [beq_eq_false_iff_ne]; omega
   have eA1:Pl.asR xs ys.length=xs:=by unfold Pl.asR; rw [if_neg (by omega)]
   have eB1:Pl.asR ys xs.length=ys:=by unfold Pl.asR; rw [if_neg (by omega)]
   go_wp2_with fail
   go_meet
   exact ⟨xs,ys,gA,kA,gB,kB,⟨eA1.symm,eB1.symm⟩,HK,C1⟩
  have t2:((ys.length:Int) == (xs.length:Int)+1)=true:=by rw [beq_iff_eq]; omega
  have eA1:Pl.asR xs ys.length=1::xs:=by unfold Pl.asR; rw [if_pos (by omega)]
  have eB1:Pl.asR ys xs.length=ys:=by unfold Pl.asR; rw [if_neg (by omega)]
  go_upto_region 6 with fail
  have DW:=hideP (C1.out.keep (show Below _ _ wx.drew from (Below.refl _ _).drew))
  clear z0 z1 z2 z3
  refine wp_region_held (S:=fun w'=>w'.cell? ⟨w.heap.size,1,none⟩=some (.slice a1 da.length k1)) (by kernel_rfl) ?_
  change wpAnyH _ _ _ _ _ _ _ _ (World.drew _)
  generalize World.drew wx=wd at DW ⊢
  have A1:Hid (Below wd.heap.size wd (wd.alloc (.cells #[.int .i64 1] 3))):=(Below.refl _ _).alloc (Nat.le_refl _) _
  have CL:=hideP (DW.out.keep A1.out)
  have OL:=hideP (owns_one wd 1 wd.heap.size (Nat.le_refl _))
  refine tz 1 (.pointer (some ⟨w.heap.size,0,none⟩)) rfl DW.out.a1 (fun w' hS=>by clear hS; go_simp) ?_
  refine tz 4 (.pointer (some ⟨w.heap.size,1,none⟩)) rfl DW.out.a1 (fun w' hS=>by clear hS; go_simp) ?_
  refine tz 5 (.slice a1 da.length k1) rfl DW.out.a1 (fun w' hS=>by go_simp) ?_
  refine ry2 0 2 rfl rfl (fun K hK=>?_) (fun K hK=>?_)
  focus
   go_simp
   refine hK.out _ _ CL.out.a1 (fun _=>?_)
   clear hK
   refine ry1 2 rfl (fun K hK=>?_)
   have q0:=CL.out.a0
   go_simp
   refine hK.out _ _ CL.out.a1 (fun _=>?_)
   clear hK q0
  rotate_left
  focus
   have q0:=DW.out.a0
   go_simp
   refine hK.out _ _ DW.out.a1 (fun _=>?_)
   clear hK q0
   refine ry1 0 rfl (fun K hK=>?_)
   go_simp
   refine hK.out _ _ CL.out.a1 (fun _=>?_)
   clear hK
  rotate_left
  all_goals
   refine ry1 3 rfl (fun K hK=>?_)
   refine step_append_rd (base:=wd.heap.size) (wd.alloc (.cells #[.int .i64 1] 3)) rfl (.tmp 33) (.tmp 35) rfl (.slice (some ⟨wd.heap.size,0,none⟩) 1 1) (.slice (some ⟨gA,0,none⟩) xs.length kA) rfl rfl 1 [1] xs OL.out CL.out.xa.rd (by omega) (by simp) ?_
   intro v' w2 ho hg
   have B2:Below wd.heap.size wd w2:=A1.out.grown hg (by simp) (fun k hk=>(OL.out.lt k hk).1)
   have C2:=hideP (DW.out.keep B2)
   obtain ⟨g2,k2,ev,hk1,hk2⟩:=row_at ho (by omega)
   subst ev
   have eA:1+xs.length=xs.length+1:=Nat.add_comm _ _
   rw [eA] at ho hk1 ⊢
   have SN:Sl w2 (.slice (some ⟨g2,0,none⟩) (xs.length+1) k2) (1::xs):=Sl.of_own (own_of_any (zs:=1::xs) ho) rfl hk1 hk2
   have CP:=hideP (C2.out.putA SN C2.out.xd)
   clear ho hg eA B2 SN
   refine hK.out _ _ C2.out.a1 (fun _=>?_)
   clear hK
   refine ry1 6 rfl (fun K hK=>?_)
   go_simp
   refine hK.out _ _ C2.out.a1 (fun _=>?_)
   clear hK
   refine ry1 7 rfl (fun K hK=>?_)
   have q0:=C2.out.a0
   have q1:=C2.out.a1
   have q2:=C2.out.fa
   go_simp
   refine hK.out _ _ CP.out.a1 (fun _=>?_)
   clear hK q0 q1 q2
   refine wpAnyH_done (by kernel_rfl) ?_ _
   go_wp2_with fail
   go_meet
   exact ⟨_,_,g2,k2,gB,kB,⟨eA1.symm,eB1.symm⟩,⟨⟨hk1,hk2⟩,HK.out.2⟩,CP⟩
 clear HK C1 z0 z1 z2 z3
 obtain ⟨X,Y,gA,kA,gB,kB,HX,HK,CX⟩:=hcut
 rename World=>wx
 obtain ⟨n1,tx,ex,lx2,hx1,hx2⟩:=PA.out
 obtain ⟨n2,ty,ey,ly2,hy1,hy2⟩:=PB.out
 have e:=HE.out
 rw [ex,ey] at e
 have eX:=HX.out.1.trans ex
 have eY:=HX.out.2.trans ey
 subst eX eY
 clear ex ey HX HE PA PB lx ly
 unfold Pl.catX at e
 have c0:=CX.out.a0
 have c1:=CX.out.b0
 by_cases hm:ty.length=tx.length
 rotate_left 1
 ·rw [if_neg (by simp; omega)] at e
  simp only [Prod.mk.injEq] at e
  obtain ⟨rfl,rfl,rfl⟩:=e
  have t3:(((tx.length:Int)+1) != ((ty.length:Int)+1))=true:=by rw [bne_iff_ne]; omega
  obtain ⟨r0,r1,f2⟩:=CX.out.res
  have hszx:=CX.out.size
  go_wp2_with fail
  exact bodyPost_ret (v:=.tuple #[.agg #[.slice none 0 0,.slice none 0 0],.int .i64 2]) (by simp [results,Tryz.results55,go_sem,r0,r1]) rfl ⟨(CX.out.bel.setCell (by simp; omega) _).setCell (by simp; omega) _,_,_,rfl,Own.nil _ _,Own.nil _ _,.inl rfl⟩
 rw [if_pos (by simp [hm])] at e
 have PE:Hid ((if tx=ty then (if Pl.fitsB ((n1+n2)::tx)=true then (0,(n1+n2)::tx,da++db) else (6,[],[])) else (3,[],[]))=(c,SS,DD)):=e
 clear e
 have t3:(((n1::tx).length:Int) != ((n2::ty).length:Int))=false:=by simp [hm]
 clear t3 c0 c1
 have KA:Hid (tx.length+1<=kA/\kA<=9223372036854775807):=HK.out.1
 have KB:Hid (tx.length+1<=kB/\kB<=9223372036854775807):=by
  have:=HK.out.2
  rw [List.length_cons,hm] at this
  exact this
 clear HK
 have CY:=CX.out
 rw [List.length_cons,List.length_cons,hm] at CY
 clear CX
 have CX:=hideP CY
 clear CY
 have t3:(((tx.length:Int)+1) != ((tx.length:Int)+1))=false:=by simp
 obtain ⟨oA,hoA⟩:∃oA:Nat,oA=if kA=1 then 0 else 0+1:=⟨_,rfl⟩
 obtain ⟨oB,hoB⟩:∃oB:Nat,oB=if kB=1 then 0 else 0+1:=⟨_,rfl⟩
 have HOA:=hideP hoA
 have HOB:=hideP hoB
 have PX:Hid (∀w',Below wx.heap.size wx w'->(w'.cell? ⟨gA,0,none⟩=some (.int .i64 n1)/\w'.cell? ⟨gB,0,none⟩=some (.int .i64 n2))/\(Rd w'.heap.size w' (.slice (some ⟨gA,oA,none⟩) tx.length (kA-1)) tx/\Rd w'.heap.size w' (.slice (some ⟨gB,oB,none⟩) tx.length (kB-1)) ty)/\Cz w (n1::tx) da (n2::ty) db (.slice (some ⟨gA,0,none⟩) (tx.length+1) kA) (.slice a1 da.length k1) (.slice (some ⟨gB,0,none⟩) (tx.length+1) kB) (.slice a3 db.length k3) w'):=fun w' hb=>by
  have k:=CX.out.keep hb
  have x1:=k.xb.rd
  rw [<- hm] at x1
  refine ⟨⟨(rd_headG k.xa.rd).2,(rd_headG x1).2⟩,⟨rd_tailG hoA KA.out.1 k.xa.rd,?_⟩,k⟩
  have:=rd_tailG hoB (by rw [hm]; exact KB.out.1) x1
  rw [hm] at this
  exact this
 have KEQ:Hid (∀w',Below wx.heap.size wx w'->Calls Tryz.prog 58 #[.slice (some ⟨gA,oA,none⟩) tx.length (kA-1),.slice (some ⟨gB,oB,none⟩) tx.length (kB-1)] w' fun e w''=>e=.returned (.bool (decide (tx=ty)))/\Below w'.heap.size w' w''):=fun w' hb=>l2Same_any _ _ tx ty w' (by omega) (by omega) (PX.out w' hb).2.1.1 (PX.out w' hb).2.1.2
 have A3:Hid (∀(W:World) o,Below W.heap.size W (W.alloc o)):=fun W o=>(Below.refl _ _).alloc (Nat.le_refl _) _
 have hszx:=CX.out.size
 have c0:=CX.out.a0
 have c1:=CX.out.b0
 have HM:=hideP hm
 clear hoA hoB CX hm
 go_upto_region 9 with fail
 clear c0 c1
 have DR:=hideP (show Below wx.heap.size wx wx.drew from (Below.refl _ _).drew)
 refine wp_region_held (S:=fun w'=>Below wx.heap.size wx w') (by kernel_rfl) ?_
 change wpAnyH _ _ _ _ _ _ _ _ (World.drew _)
 generalize World.drew wx=wd at DR ⊢
 refine tz 0 (.pointer (some ⟨w.heap.size,0,none⟩)) rfl DR.out (fun w' hS=>by clear hS; go_simp) ?_
 refine tz 1 (.slice (some ⟨gA,0,none⟩) (tx.length+1) kA) rfl DR.out (fun w' hS=>by have:=(PX.out w' hS).2.2.a0; clear hS; go_simp) ?_
 refine tz 2 (.slice (some ⟨gA,oA,none⟩) tx.length (kA-1)) rfl DR.out (fun w' _=>exec_loG (.tmp 49) (.const (.int .i64 1)) gA 0 tx.length kA oA HOA.out KA.out.1 KA.out.2 (by kernel_rfl) (by kernel_rfl) (by kernel_rfl) w') ?_
 refine tz 3 (.pointer (some ⟨w.heap.size+1,0,none⟩)) rfl DR.out (fun w' hS=>by clear hS; go_simp) ?_
 refine tz 4 (.slice (some ⟨gB,0,none⟩) (tx.length+1) kB) rfl DR.out (fun w' hS=>by have:=(PX.out w' hS).2.2.b0; clear hS; go_simp) ?_
 refine tz 5 (.slice (some ⟨gB,oB,none⟩) tx.length (kB-1)) rfl DR.out (fun w' _=>exec_loG (.tmp 52) (.const (.int .i64 1)) gB 0 tx.length kB oB HOB.out KB.out.1 KB.out.2 (by kernel_rfl) (by kernel_rfl) (by kernel_rfl) w') ?_
 refine ry1 6 rfl (fun K hK=>?_)
 go_simp
 refine (KEQ.out wd DR.out).mono ?_
 rintro e w6 ⟨rfl,hb6⟩
 have D6:=hideP (DR.out.trans (hb6.mono DR.out.size))
 clear hb6 DR
 refine hK.out _ _ D6.out (fun _=>?_)
 clear hK
 refine ry1 7 rfl (fun K hK=>?_)
 go_simp
 refine hK.out _ _ D6.out (fun _=>?_)
 clear hK
 refine wpAnyH_done (by kernel_rfl) ?_ _
 have hs6:=D6.out.size
 have C6:=hideP (PX.out w6 D6.out).2.2
 by_cases htl:tx=ty
 rotate_left 1
 ·have htd:decide (tx=ty)=false:=decide_eq_false htl
  rw [htd]
  have e:=PE.out
  rw [if_neg htl] at e
  simp only [Prod.mk.injEq] at e
  obtain ⟨rfl,rfl,rfl⟩:=e
  clear htd htl PE KEQ
  obtain ⟨r0,r1,f2⟩:=C6.out.res
  go_wp2_with fail
  exact bodyPost_ret (v:=.tuple #[.agg #[.slice none 0 0,.slice none 0 0],.int .i64 3]) (by simp [results,Tryz.results55,go_sem,r0,r1]) rfl ⟨(C6.out.bel.setCell (by simp; omega) _).setCell (by simp; omega) _,_,_,rfl,Own.nil _ _,Own.nil _ _,.inl rfl⟩
 have htd:decide (tx=ty)=true:=decide_eq_true htl
 rw [htd]
 have e:=PE.out
 rw [if_pos htl] at e
 have PE2:=hideP e
 clear e htd htl PE KEQ
 have PX6:Hid (∀w',Below w6.heap.size w6 w'->Below wx.heap.size wx w'):=fun w' hb=>D6.out.trans (hb.mono D6.out.size)
 have LB:Hid (∀w' b o v,b<w.heap.size+1+1->Below (w.heap.size+1+1) w6 w'->w6.cell? ⟨b,o,none⟩=some v->w'.cell? ⟨b,o,none⟩=some v):=fun w' b o v hlt hb e=>(hb.cell (p:=⟨b,o,none⟩) hlt).trans e
 go_upto_region 11 with fail
 have DR:=hideP (show Below w6.heap.size w6 w6.drew from (Below.refl _ _).drew)
 refine wp_region_held (S:=fun w'=>Below (w.heap.size+1+1) w6 w'/\w'.cell? ⟨gA,0,none⟩=some (.int .i64 n1)/\w'.cell? ⟨gB,0,none⟩=some (.int .i64 n2)) (by kernel_rfl) ?_
 change wpAnyH _ _ _ _ _ _ _ _ (World.drew _)
 generalize World.drew w6=wd at DR ⊢
 have hSle:w.heap.size+1+1<=w6.heap.size:=by omega
 have SX:Hid (∀w',Below w6.heap.size w6 w'->Below (w.heap.size+1+1) w6 w'/\w'.cell? ⟨gA,0,none⟩=some (.int .i64 n1)/\w'.cell? ⟨gB,0,none⟩=some (.int .i64 n2)):=fun w' hb=>⟨hb.mono hSle,(PX.out w' (PX6.out w' hb)).1⟩
 have SW:=hideP (SX.out wd DR.out)
 have hwd:=DR.out.size
 have OL:=hideP (owns_one wd (n1+n2) wd.heap.size (Nat.le_refl _))
 have AL:=hideP (A3.out wd (.cells #[.int .i64 (n1+n2)] 3))
 have RLX:Hid (Rd (wd.alloc (.cells #[.int .i64 (n1+n2)] 3)).heap.size (wd.alloc (.cells #[.int .i64 (n1+n2)] 3)) (.slice (some ⟨gA,oA,none⟩) tx.length (kA-1)) tx):=(PX.out _ (PX6.out _ (DR.out.trans (AL.out.mono hwd)))).2.1.1
 refine tz 0 (.pointer (some ⟨w.heap.size,0,none⟩)) rfl SW.out (fun w' hS=>by clear hS; go_simp) ?_
 refine tz 1 (.slice (some ⟨gA,0,none⟩) (tx.length+1) kA) rfl SW.out (fun w' hS=>by have:=LB.out w' (w.heap.size) 0 _ (by omega) hS.1 C6.out.a0; clear hS; go_simp) ?_
 refine tz 2 (.pointer (some ⟨gA,0,none⟩)) rfl SW.out (fun w' hS=>by clear hS; go_simp) ?_
 refine tz 3 (.int .i64 n1) rfl SW.out (fun w' hS=>by have:=hS.2.1; clear hS; go_simp) ?_
 refine tz 4 (.pointer (some ⟨w.heap.size+1,0,none⟩)) rfl SW.out (fun w' hS=>by clear hS; go_simp) ?_
 refine tz 5 (.slice (some ⟨gB,0,none⟩) (tx.length+1) kB) rfl SW.out (fun w' hS=>by have:=LB.out w' (w.heap.size+1) 0 _ (by omega) hS.1 C6.out.b0; clear hS; go_simp) ?_
 refine tz 6 (.pointer (some ⟨gB,0,none⟩)) rfl SW.out (fun w' hS=>by clear hS; go_simp) ?_
 refine tz 7 (.int .i64 n2) rfl SW.out (fun w' hS=>by have:=hS.2.2; clear hS; go_simp) ?_
 refine tz 8 (.int .i64 (n1+n2)) rfl SW.out (fun w' hS=>by clear hS; go_simp; rw [IntKind.wrap_i64]; omega) ?_
 refine tz 10 (.pointer (some ⟨w.heap.size,0,none⟩)) rfl SW.out (fun w' hS=>by clear hS; go_simp) ?_
 refine tz 11 (.slice (some ⟨gA,0,none⟩) (tx.length+1) kA) rfl SW.out (fun w' hS=>by have:=LB.out w' (w.heap.size) 0 _ (by omega) hS.1 C6.out.a0; clear hS; go_simp) ?_
 refine tz 12 (.slice (some ⟨gA,oA,none⟩) tx.length (kA-1)) rfl SW.out (fun w' _=>exec_loG (.tmp 68) (.const (.int .i64 1)) gA 0 tx.length kA oA HOA.out KA.out.1 KA.out.2 (by kernel_rfl) (by kernel_rfl) (by kernel_rfl) w') ?_
 refine tz 14 (.pointer (some ⟨w.heap.size,1,none⟩)) rfl SW.out (fun w' hS=>by clear hS; go_simp) ?_
 refine tz 15 (.slice a1 da.length k1) rfl SW.out (fun w' hS=>by have:=LB.out w' (w.heap.size) 1 _ (by omega) hS.1 C6.out.a1; clear hS; go_simp) ?_
 refine tz 17 (.pointer (some ⟨w.heap.size+1,1,none⟩)) rfl SW.out (fun w' hS=>by clear hS; go_simp) ?_
 refine tz 18 (.slice a3 db.length k3) rfl SW.out (fun w' hS=>by have:=LB.out w' (w.heap.size+1) 1 _ (by omega) hS.1 C6.out.b1; clear hS; go_simp) ?_
 refine ry1 9 rfl (fun K hK=>?_)
 go_simp
 refine hK.out _ _ (SX.out _ (DR.out.trans (AL.out.mono hwd))) (fun _=>?_)
 clear hK
 refine ry1 13 rfl (fun K hK=>?_)
 refine step_append_rd (base:=wd.heap.size) (wd.alloc (.cells #[.int .i64 (n1+n2)] 3)) rfl (.tmp 66) (.tmp 69) rfl (.slice (some ⟨wd.heap.size,0,none⟩) 1 1) (.slice (some ⟨gA,oA,none⟩) tx.length (kA-1)) rfl rfl 1 [n1+n2] tx OL.out RLX.out (by omega) (by simp) ?_
 intro v1 w1 ho1 hg1
 have B1:Hid (Below wd.heap.size wd w1):=AL.out.grown hg1 (by simp) (fun k hk=>(OL.out.lt k hk).1)
 have D1':=hideP (DR.out.trans (B1.out.mono hwd))
 obtain ⟨gv,kv,ev,_,_⟩:=row_at ho1 (by omega)
 subst ev
 have O1:Hid (Own wd.heap.size w1 (.slice (some ⟨gv,0,none⟩) (1+tx.length) kv) ((n1+n2)::tx)):=own_of_any (zs:=(n1+n2)::tx) ho1
 clear ho1 hg1
 refine hK.out _ _ (SX.out _ D1'.out) (fun _=>?_)
 clear hK
 refine ry1 16 rfl (fun K hK=>?_)
 go_simp
 refine (l2Copy_at (.slice a1 da.length k1) da w1 (by omega) (PX.out _ (PX6.out _ D1'.out)).2.2.xd.rd).mono ?_
 rintro e w2 ⟨gd,kd,rfl,_,_,ho2,hb2⟩
 have D2':=hideP (D1'.out.trans (hb2.mono D1'.out.size))
 have O2:=hideP ho2
 have B12:=hideP hb2
 clear ho2 hb2
 refine hK.out _ _ (SX.out _ D2'.out) (fun _=>?_)
 clear hK
 have RE:=hideP (PX.out _ (PX6.out _ D2'.out)).2.2.xe.rd
 refine ry1 19 rfl (fun K hK=>?_)
 refine step_append_rd (base:=w1.heap.size) w2 rfl (.tmp 73) (.tmp 75) rfl (.slice (some ⟨gd,0,none⟩) da.length kd) (.slice a3 db.length k3) rfl rfl da.length da db O2.out RE.out (by omega) B12.out.size ?_
 intro v3 w3 ho3 hg3
 have B13:Hid (Below w1.heap.size w1 w3):=B12.out.grown hg3 B12.out.size (fun k hk=>(O2.out.lt k hk).1)
 have D3':=hideP (D1'.out.trans (B13.out.mono D1'.out.size))
 have O3:Hid (Own w1.heap.size w3 v3 (da++db)):=own_of_any (zs:=da++db) ho3
 have O13:=hideP (O1.out.keep B13.out)
 obtain ⟨zd,yd,ed⟩:=O3.out.form
 rw [List.length_append] at ed
 subst ed
 clear ho3 hg3
 refine hK.out _ _ (SX.out _ D3'.out) (fun _=>?_)
 clear hK
 have AP:=hideP (apart_right (B:=w1.heap.size) O3.out O1.out.lt)
 have hs13:=B13.out.size
 have hs1:=B1.out.size
 have htX:1+tx.length=((n1+n2)::tx).length:=by rw [List.length_cons,Nat.add_comm]
 have KM:Hid (Calls Tryz.prog 62 #[.slice (some ⟨gv,0,none⟩) (1+tx.length) kv,.slice zd (da.length+db.length) yd] w3 fun e w'=>Below w3.heap.size w3 w'/\((Pl.fitsB ((n1+n2)::tx)=true/\e=.returned (.tuple #[.agg #[.slice (some ⟨gv,0,none⟩) (1+tx.length) kv,.slice zd (da.length+db.length) yd],.int .i64 0]))\/(Pl.fitsB ((n1+n2)::tx)=false/\e=.returned (.tuple #[.agg #[.slice none 0 0,.slice none 0 0],.int .i64 6])))):=by
  have r:=O13.out.rd
  rw [htX] at r ⊢
  exact l2Made_any _ _ zd _ kv yd ((n1+n2)::tx) w3 (by rw [<- htX]; omega) r (Nat.le_refl _)
 clear htX
 refine ry1 20 rfl (fun K hK=>?_)
 go_simp
 refine KM.out.mono ?_
 rintro e w4 ⟨hb4,hor⟩
 have D4:=hideP (D3'.out.trans (hb4.mono D3'.out.size))
 have C4:=hideP (PX.out _ (PX6.out _ D4.out)).2.2
 have B34:=hideP hb4
 have hs4:=hb4.size
 have gne:∀g x,w4.cell? ⟨g,0,none⟩=some (.int .i64 x)->¬g=w.heap.size+1+1:=fun g x z e=>by
  rw [e,C4.out.res.1] at z
  cases z
 have SST:Hid (∀v0 v1,Below (w.heap.size+1+1) w6 ((w4.setCell ⟨w.heap.size+1+1,0,none⟩ v0).setCell ⟨w.heap.size+1+1,1,none⟩ v1)/\((w4.setCell ⟨w.heap.size+1+1,0,none⟩ v0).setCell ⟨w.heap.size+1+1,1,none⟩ v1).cell? ⟨gA,0,none⟩=some (.int .i64 n1)/\((w4.setCell ⟨w.heap.size+1+1,0,none⟩ v0).setCell ⟨w.heap.size+1+1,1,none⟩ v1).cell? ⟨gB,0,none⟩=some (.int .i64 n2)):=fun v0 v1=>by
  have z:=SX.out _ D4.out
  have st:∀g x,w4.cell? ⟨g,0,none⟩=some (.int .i64 x)->((w4.setCell ⟨w.heap.size+1+1,0,none⟩ v0).setCell ⟨w.heap.size+1+1,1,none⟩ v1).cell? ⟨g,0,none⟩=some (.int .i64 x):=fun g x h=>by
   have gn:=gne g x h
   rw [<- h]
   exact (World.cell?_of_block (heap_setCell_other _ _ _ _ gn)).trans (World.cell?_of_block (heap_setCell_other _ _ _ _ gn))
  exact ⟨(z.1.setCell (by simp) _).setCell (by simp) _,st _ _ z.2.1,st _ _ z.2.2⟩
 clear hb4 gne
 obtain ⟨r0,r1,f2⟩:=C4.out.res
 rcases hor with ⟨hf,rfl⟩ | ⟨hf,rfl⟩
 ·have e:=PE2.out
  rw [if_pos hf] at e
  simp only [Prod.mk.injEq] at e
  obtain ⟨rfl,rfl,rfl⟩:=e
  clear PE2 hf KM
  refine hK.out _ _ (SX.out _ D4.out) (fun _=>?_)
  clear hK
  refine tz 21 (.agg #[.slice (some ⟨gv,0,none⟩) (1+tx.length) kv,.slice zd (da.length+db.length) yd]) rfl (SX.out _ D4.out) (fun w' hS=>by clear hS; go_simp) ?_
  refine tz 22 (.int .i64 0) rfl (SX.out _ D4.out) (fun w' hS=>by clear hS; go_simp) ?_
  refine ry1 23 rfl (fun K hK=>?_)
  go_simp
  refine hK.out _ _ (SST.out _ _) (fun _=>?_)
  clear hK
  refine ry1 24 rfl (fun K hK=>?_)
  go_simp
  refine hK.out _ _ (SST.out _ _) (fun _=>?_)
  clear hK
  refine wpAnyH_done (by kernel_rfl) ?_ _
  go_wp2_with fail
  refine bodyPost_ret (v:=.tuple #[.agg #[.slice (some ⟨gv,0,none⟩) (1+tx.length) kv,.slice zd (da.length+db.length) yd],.int .i64 0]) (by simp [results,Tryz.results55,go_sem,r0,r1]) rfl ⟨(C4.out.bel.setCell (by simp; omega) _).setCell (by simp; omega) _,_,_,rfl,?_,?_,AP.out⟩
  ·exact Own.base (B:=wd.heap.size) (Own.store (Own.store (O13.out.keep B34.out) (by omega) _) (by omega) _) (by omega)
  exact Own.base (B:=w1.heap.size) (Own.store (Own.store (O3.out.keep B34.out) (by omega) _) (by omega) _) (by omega)
 have e:=PE2.out
 rw [if_neg (by rw [hf]; decide)] at e
 simp only [Prod.mk.injEq] at e
 obtain ⟨rfl,rfl,rfl⟩:=e
 clear PE2 hf KM
 refine hK.out _ _ (SX.out _ D4.out) (fun _=>?_)
 clear hK
 refine tz 21 (.agg #[.slice none 0 0,.slice none 0 0]) rfl (SX.out _ D4.out) (fun w' hS=>by clear hS; go_simp) ?_
 refine tz 22 (.int .i64 6) rfl (SX.out _ D4.out) (fun w' hS=>by clear hS; go_simp) ?_
 refine ry1 23 rfl (fun K hK=>?_)
 go_simp
 refine hK.out _ _ (SST.out _ _) (fun _=>?_)
 clear hK
 refine ry1 24 rfl (fun K hK=>?_)
 go_simp
 refine hK.out _ _ (SST.out _ _) (fun _=>?_)
 clear hK
 refine wpAnyH_done (by kernel_rfl) ?_ _
 go_wp2_with fail
 refine bodyPost_ret (v:=.tuple #[.agg #[.slice none 0 0,.slice none 0 0],.int .i64 6]) (by simp [results,Tryz.results55,go_sem,r0,r1]) rfl ⟨(C4.out.bel.setCell (by simp; omega) _).setCell (by simp; omega) _,_,_,rfl,Own.nil _ _,Own.nil _ _,.inl rfl⟩
end Go.Proofs.YtacapaiadggemaaGreat
