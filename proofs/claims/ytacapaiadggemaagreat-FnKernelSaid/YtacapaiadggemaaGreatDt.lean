import Derived.Test.YtacapaiadggemaaGreatDs
namespace Go.Proofs.YtacapaiadggemaaGreat
open Go.RowKit
set_option maxRecDepth 100000
set_option maxHeartbeats 16000000
set_option linter.unusedVariables false
theorem Pl.fits2:∀z:Nat,z<9->∀r:Nat,r<4->Pl.fitsB [(z:Int),(r:Int)]=true:=by decide
def LW (w:World) (z r:Int):World:=(((w.alloc (.cells #[.int .i64 z] 3)).alloc (.cells #[.int .i64 z,.int .i64 2] 3)).alloc (.cells #[.int .i64 z,.int .i64 r] 3)).alloc (.cells #[.slice (some ⟨w.heap.size,0,none⟩) 1 1,.slice (some ⟨w.heap.size+1,0,none⟩) 2 2,.slice (some ⟨w.heap.size+1+1,0,none⟩) 2 2] 23)
theorem lits3 (w:World) (z r:Int) (N:Nat) (hN:N<=w.heap.size):Below w.heap.size w (LW w z r)/\Row N (LW w z r) (.slice (some ⟨w.heap.size,0,none⟩) 1 1) [z]/\Row N (LW w z r) (.slice (some ⟨w.heap.size+1,0,none⟩) 2 2) [z,2]/\Row N (LW w z r) (.slice (some ⟨w.heap.size+1+1,0,none⟩) 2 2) [z,r]:=by
 have b:∀(a:World) o,Below a.heap.size a (a.alloc o):=fun a o=>(Below.refl _ _).alloc (Nat.le_refl _) _
 have e:∀(a:World) o,(a.alloc o).heap.size=a.heap.size+1:=fun a o=>by simp
 have r0:Row N _ (.slice (some ⟨w.heap.size,0,none⟩) 1 1) [z]:=⟨owns_one w z N hN,⟨_,rfl⟩⟩
 have r1:Row N _ (.slice (some ⟨(w.alloc (.cells #[.int .i64 z] 3)).heap.size,0,none⟩) 2 2) [z,2]:=⟨World.ownsRow_lit (w.alloc (.cells #[.int .i64 z] 3)) #[.int .i64 z,.int .i64 2] 2 (by rw [e]; omega) (by unfold maxLen; omega) rfl,⟨_,rfl⟩⟩
 have r2:Row N _ (.slice (some ⟨((w.alloc (.cells #[.int .i64 z] 3)).alloc (.cells #[.int .i64 z,.int .i64 2] 3)).heap.size,0,none⟩) 2 2) [z,r]:=⟨World.ownsRow_lit ((w.alloc (.cells #[.int .i64 z] 3)).alloc (.cells #[.int .i64 z,.int .i64 2] 3)) #[.int .i64 z,.int .i64 r] 2 (by rw [e,e]; omega) (by unfold maxLen; omega) rfl,⟨_,rfl⟩⟩
 rw [e] at r1
 rw [e,e] at r2
 refine ⟨?_,((r0.keep (b _ _)).keep (b _ _)).keep (b _ _),(r1.keep (b _ _)).keep (b _ _),r2.keep (b _ _)⟩
 exact (((b w _).trans ((b _ _).mono (by simp))).trans ((b _ _).mono (by simp; omega))).trans ((b _ _).mono (by simp; omega))
def D3Post (w:World) (e:Ending) (w':World):Prop:=∃(f g:Int) (v0 v1 v2 v3:Value) (sa da sb db:List Int),e=.returned (.tuple #[.int .i64 f,.int .i64 g,.agg #[v0,v1],.agg #[v2,v3]])/\(sa.length<=4/\da.length<=1001/\sb.length<=4/\db.length<=1001)/\(Sl w' v0 sa/\Sg w' v1 da/\Sg w' v2 sb/\Sg w' v3 db)/\Below w.heap.size w w'
theorem draw20_any (ao:Option Addr) (n cap:Nat) (w:World) (hn:n<=1048576) (hcap:n<=cap) (hm:cap<=9223372036854775807) (h:RdB w.heap.size w ao n):Calls Tryz.prog 20 #[.slice ao n cap] w (D3Post w):=by
 have KO:=hideP (open2 ao n cap w hn hcap hm h)
 obtain ⟨P,hP⟩:∃P,P=w.heap.size+1+1:=⟨_,rfl⟩
 rw [<- hP] at KO
 clear h hP
 go_enter Tryz.func20,Tryz.ntmps20
 go_wp2_with fail
 refine KO.out.mono ?_
 rintro e w1 ⟨rfl,d1⟩
 have D1:=hideP d1
 clear KO d1
 have KN:=hideP (l2Op_any _ P w1 D1.out.r)
 go_wp2_with fail
 refine KN.out.mono ?_
 rintro e fw ⟨f,rfl,hr,hg⟩
 have D2:=hideP (D1.out.step hr hg)
 clear hr hg KN D1
 have KN:=hideP (l2Op_any _ P fw D2.out.r)
 go_wp2_with fail
 refine KN.out.mono ?_
 rintro e gw ⟨g,rfl,hr,hg⟩
 have D3:=hideP (D2.out.step hr hg)
 clear hr hg KN D2
 have KN:=hideP (next_any _ P gw D3.out.r)
 go_wp2_with fail
 refine KN.out.mono ?_
 rintro e xw ⟨x,rfl,hx,hr,hg⟩
 have D4:=hideP (D3.out.step hr hg)
 clear hr hg KN D3
 have KD:=hideP (l1DrawAny_any _ P xw D4.out.g.size D4.out.r)
 go_wp2_with fail
 refine KD.out.mono ?_
 rintro e w4 ⟨v0,v1,sa,da,rfl,l0,l1,ds⟩
 obtain ⟨g0,c0,e0,_,_⟩:=ds.o0.form
 obtain ⟨g1,c1,e1,_,_⟩:=ds.o1.form
 subst e0 e1
 have Lsa:=hideP (And.intro l0 l1)
 have DD:=hideP (D4.out.drawn ds)
 have D5:=hideP (DD.out.alloc (.slice (some ⟨g0,0,none⟩) sa.length c0) (.slice (some ⟨g1,0,none⟩) da.length c1))
 have hA:w.heap.size+1<w4.heap.size:=(Array.getElem?_eq_some_iff.1 (DD.out.vars (w.heap.size+1,.slice none 0 0,.slice none 0 0) (by simp)).2).1
 clear ds l0 l1 KD D4 DD
 go_upto_region 6 with fail
 generalize hw5:w4.alloc (.cells #[.slice (some ⟨g0,0,none⟩) sa.length c0,.slice (some ⟨g1,0,none⟩) da.length c1] 25)=w5 at D5 ⊢
 generalize w4.heap.size=A at D5 hA ⊢
 clear hw5
 have KD:=hideP (l1DrawAny_any _ P w5 D5.out.g.size D5.out.r)
 go_wp2_with fail
 refine KD.out.mono ?_
 rintro e w6 ⟨v2,v3,sb,db,rfl,l2,l3,ds⟩
 obtain ⟨g2,c2,e2,_,_⟩:=ds.o0.form
 obtain ⟨g3,c3,e3,_,_⟩:=ds.o1.form
 subst e2 e3
 have Lsb:=hideP (And.intro l2 l3)
 have DD:=hideP (D5.out.drawn ds)
 have D6:=hideP (DD.out.alloc (.slice (some ⟨g2,0,none⟩) sb.length c2) (.slice (some ⟨g3,0,none⟩) db.length c3))
 have hA2:A<w6.heap.size:=(Array.getElem?_eq_some_iff.1 (DD.out.vars (A,.slice (some ⟨g0,0,none⟩) sa.length c0,.slice (some ⟨g1,0,none⟩) da.length c1) (by simp)).2).1
 clear ds l2 l3 KD D5 DD
 go_upto_region 7 with fail
 generalize hw7:w6.alloc (.cells #[.slice (some ⟨g2,0,none⟩) sb.length c2,.slice (some ⟨g3,0,none⟩) db.length c3] 25)=w7 at D6 ⊢
 generalize w6.heap.size=A2 at D6 hA2 ⊢
 clear hw7
 have HX:Hid (∀m∈[((A,.slice (some ⟨g0,0,none⟩) sa.length c0,.slice (some ⟨g1,0,none⟩) da.length c1):Nat × Value × Value),(w.heap.size+1,.slice none 0 0,.slice none 0 0),(w.heap.size,.slice none 0 0,.slice none 0 0)],¬m.1=A2):=fun m hm=>by
  simp only [List.mem_cons,List.not_mem_nil,or_false] at hm
  rcases hm with rfl | rfl | rfl
  ·show ¬A=A2
   omega
  ·show ¬w.heap.size+1=A2
   omega
  show ¬w.heap.size=A2
  omega
 obtain ⟨p0,p1,p2⟩:=D6.out.cells (X:=A) (a:=(.slice (some ⟨g0,0,none⟩) sa.length c0)) (b:=(.slice (some ⟨g1,0,none⟩) da.length c1)) (by simp)
 go_cut [39] (fun s wx=>s=.bool (decide (0<(x:Int) % 4/\0<sa.length/\sa.length<3))/\wx=w7)
 case first =>
  by_cases ha:0<(x:Int) % 4
  rotate_left 1
  ·go_wp2_with fail
   go_meet
   exact ⟨congrArg Value.bool (decide_eq_false (fun h=>by have:=h.1; omega)).symm,rfl⟩
  by_cases hb:0<sa.length
  ·have hb':(0:Int)<(sa.length:Int):=by omega
   by_cases hc:sa.length<3
   ·have hc':(sa.length:Int)<3:=by omega
    go_wp2_with fail
    go_meet
    exact ⟨by simp [ha,hb,hc],rfl⟩
   have hc':¬(sa.length:Int)<3:=by omega
   go_wp2_with fail
   go_meet
   exact ⟨by simp [ha,hb,hc],rfl⟩
  have hb':¬(0:Int)<(sa.length:Int):=by omega
  go_wp2_with fail
  go_meet
  exact ⟨by simp [ha,hb],rfl⟩
 obtain ⟨rfl,rfl⟩:=hcut
 rename World=>w7
 go_upto_if 39 with fail
 go_cut [] (fun wx=>∃(g2 c2 g3 c3:Nat) (sb db:List Int),Hid (sb.length<=4/\db.length<=1001)/\Hid (Dv w.heap.size P w [(.slice (some ⟨g2,0,none⟩) sb.length c2,sb),(.slice (some ⟨g3,0,none⟩) db.length c3,db),(.slice (some ⟨g0,0,none⟩) sa.length c0,sa),(.slice (some ⟨g1,0,none⟩) da.length c1,da)] [(A2,.slice (some ⟨g2,0,none⟩) sb.length c2,.slice (some ⟨g3,0,none⟩) db.length c3),(A,.slice (some ⟨g0,0,none⟩) sa.length c0,.slice (some ⟨g1,0,none⟩) da.length c1),(w.heap.size+1,.slice none 0 0,.slice none 0 0),(w.heap.size,.slice none 0 0,.slice none 0 0)] wx))
 case rest =>
  obtain ⟨g2,c2,g3,c3,sb,db,Lsb,D6⟩:=hcut
  rename World=>w7
  obtain ⟨p0,p1,p2⟩:=D6.out.cells (X:=A) (a:=(.slice (some ⟨g0,0,none⟩) sa.length c0)) (b:=(.slice (some ⟨g1,0,none⟩) da.length c1)) (by simp)
  obtain ⟨y0,y1,y2⟩:=D6.out.cells (X:=A2) (a:=(.slice (some ⟨g2,0,none⟩) sb.length c2)) (b:=(.slice (some ⟨g3,0,none⟩) db.length c3)) (by simp)
  obtain ⟨q0,q1,q2⟩:=D6.out.cells (X:=w.heap.size) (a:=.slice none 0 0) (b:=.slice none 0 0) (by simp)
  obtain ⟨t0,t1,t2⟩:=D6.out.cells (X:=w.heap.size+1) (a:=.slice none 0 0) (b:=.slice none 0 0) (by simp)
  have DF:=hideP (fun u0 u1 u2 u3=>(D6.out.two (X:=w.heap.size) (a:=.slice none 0 0) (b:=.slice none 0 0) (a':=.slice none 0 0) (b':=.slice none 0 0) (by simp) (by simp) u0 u1 u2 u3).keep (show Below _ _ (World.drew _) from (Below.refl _ _).drew))
  clear D6
  go_wp2_with fail
  go_region
  all_goals
   go_wp2_with fail
   exact bodyPost_ret (v:=.tuple #[.int .i64 f,.int .i64 g,.agg #[.slice (some ⟨g0,0,none⟩) sa.length c0,.slice (some ⟨g1,0,none⟩) da.length c1],.agg #[.slice (some ⟨g2,0,none⟩) sb.length c2,.slice (some ⟨g3,0,none⟩) db.length c3]]) (by simp [results,Tryz.results20,go_sem,q0,q1,t0,t1]) rfl ⟨f,g,_,_,_,_,sa,da,sb,db,rfl,⟨Lsa.out.1,Lsa.out.2,Lsb.out.1,Lsb.out.2⟩,⟨((DF.out _ _ _ _).rows (.slice (some ⟨g0,0,none⟩) sa.length c0,sa) (by simp)).sl,((DF.out _ _ _ _).rows (.slice (some ⟨g1,0,none⟩) da.length c1,da) (by simp)).sg,((DF.out _ _ _ _).rows (.slice (some ⟨g2,0,none⟩) sb.length c2,sb) (by simp)).sg,((DF.out _ _ _ _).rows (.slice (some ⟨g3,0,none⟩) db.length c3,db) (by simp)).sg⟩,(DF.out _ _ _ _).below⟩
 by_cases ha:(0<(x:Int) % 4/\0<sa.length/\sa.length<3)
 rotate_left 1
 ·rw [decide_eq_false ha]
  go_wp2_with fail
  go_meet
  exact ⟨g2,c2,g3,c3,sb,db,Lsb,D6⟩
 rw [decide_eq_true ha]
 obtain ⟨ha1,ha2,ha3⟩:=ha
 have hcc:w7.cell? ⟨g0,sa.length-1,none⟩=some (.int .i64 (sa.getD (sa.length-1) 0)):=by
  have:=(rd_cell (D6.out.rows (.slice (some ⟨g0,0,none⟩) sa.length c0,sa) (by simp)).own.rd (i:=sa.length-1) (by show _<sa.length; omega)).2
  rw [Nat.zero_add] at this
  exact this
 generalize sa.getD (sa.length-1) 0=z at hcc
 obtain ⟨L1,hL1⟩:∃L1:Nat,sa.length=L1+1:=⟨sa.length-1,by omega⟩
 rw [hL1] at p0
 rw [show sa.length-1=L1 by omega] at hcc
 have hL3:L1<2:=by omega
 have hw1:IntKind.i64.wrap ((L1:Int)+1-1)=(L1:Int):=by rw [IntKind.wrap_i64]; omega
 by_cases hz0:0<=z
 rotate_left 1
 ·go_wp2_with fail
  go_meet
  exact ⟨g2,c2,g3,c3,sb,db,Lsb,D6⟩
 by_cases hz9:z<9
 rotate_left 1
 ·go_wp2_with fail
  go_meet
  exact ⟨g2,c2,g3,c3,sb,db,Lsb,D6⟩
 obtain ⟨zn,rfl⟩:∃zn:Nat,z=(zn:Int):=⟨z.toNat,by omega⟩
 obtain ⟨r4,hr4⟩:∃r4:Nat,(x:Int) % 4=(r4:Int):=⟨x % 4,by omega⟩
 have h4:r4<4:=by omega
 have LT:=lits3 w7 (zn:Int) (r4:Int) _ D6.out.g.size
 have DA:=D6.out.keep LT.1
 have hx3:(x:Int) % 3=0\/(x:Int) % 3=1\/(x:Int) % 3=2:=by omega
 rcases hx3 with h3 | h3 | h3
 ·have KF:=DA.fill (u:=.slice (some ⟨w7.heap.size,0,none⟩) 1 1) (zs:=[(zn:Int)]) HX.out LT.2.1 (Pl.fits1 zn (by omega))
  unfold LW at KF
  replace KF:=hideP KF
  clear D6 DA LT
  go_wp2_with fail
  refine KF.out.mono ?_
  rintro e w8 ⟨g4,c4,dc,rfl,_,ll,_,d6,d7⟩
  have D7:=hideP d7
  have LB:=hideP ll
  obtain ⟨y0,y1,y2⟩:=d6.cells (X:=A2) (a:=(.slice (some ⟨g2,0,none⟩) sb.length c2)) (b:=(.slice (some ⟨g3,0,none⟩) db.length c3)) (by simp)
  clear d6 d7 ll KF
  go_wp2_with fail
  go_meet
  exact ⟨w7.heap.size,1,g4,c4,[(zn:Int)],dc,LB,D7.out.sub (fun x hx=>by simp only [List.mem_cons,List.not_mem_nil,or_false] at hx ⊢; rcases hx with rfl | rfl | rfl | rfl <;> simp) (fun _ h=>h)⟩
 ·have KF:=DA.fill (u:=.slice (some ⟨w7.heap.size+1,0,none⟩) 2 2) (zs:=[(zn:Int),2]) HX.out LT.2.2.1 (Pl.fits2 zn (by omega) 2 (by omega))
  unfold LW at KF
  replace KF:=hideP KF
  clear D6 DA LT
  go_wp2_with fail
  refine KF.out.mono ?_
  rintro e w8 ⟨g4,c4,dc,rfl,_,ll,_,d6,d7⟩
  have D7:=hideP d7
  have LB:=hideP ll
  obtain ⟨y0,y1,y2⟩:=d6.cells (X:=A2) (a:=(.slice (some ⟨g2,0,none⟩) sb.length c2)) (b:=(.slice (some ⟨g3,0,none⟩) db.length c3)) (by simp)
  clear d6 d7 ll KF
  go_wp2_with fail
  go_meet
  exact ⟨w7.heap.size+1,2,g4,c4,[(zn:Int),2],dc,LB,D7.out.sub (fun x hx=>by simp only [List.mem_cons,List.not_mem_nil,or_false] at hx ⊢; rcases hx with rfl | rfl | rfl | rfl <;> simp) (fun _ h=>h)⟩
 have KF:=DA.fill (u:=.slice (some ⟨w7.heap.size+1+1,0,none⟩) 2 2) (zs:=[(zn:Int),(r4:Int)]) HX.out LT.2.2.2 (Pl.fits2 zn (by omega) r4 h4)
 unfold LW at KF
 replace KF:=hideP KF
 clear D6 DA LT
 go_wp2_with fail
 refine KF.out.mono ?_
 rintro e w8 ⟨g4,c4,dc,rfl,_,ll,_,d6,d7⟩
 have D7:=hideP d7
 have LB:=hideP ll
 obtain ⟨y0,y1,y2⟩:=d6.cells (X:=A2) (a:=(.slice (some ⟨g2,0,none⟩) sb.length c2)) (b:=(.slice (some ⟨g3,0,none⟩) db.length c3)) (by simp)
 clear d6 d7 ll KF
 go_wp2_with fail
 go_meet
 exact ⟨w7.heap.size+1+1,2,g4,c4,[(zn:Int),(r4:Int)],dc,LB,D7.out.sub (fun x hx=>by simp only [List.mem_cons,List.not_mem_nil,or_false] at hx ⊢; rcases hx with rfl | rfl | rfl | rfl <;> simp) (fun _ h=>h)⟩
end Go.Proofs.YtacapaiadggemaaGreat
