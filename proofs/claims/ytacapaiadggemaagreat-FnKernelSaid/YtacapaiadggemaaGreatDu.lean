import Derived.Test.YtacapaiadggemaaGreatDt
namespace Go.Proofs.YtacapaiadggemaaGreat
open Go.RowKit
set_option maxRecDepth 100000
set_option maxHeartbeats 16000000
set_option linter.unusedVariables false
def DyR (w:World) (P A:Nat) (wx:World):Prop:=∃(a0:Option Addr) (c0 g1 c1 g2 c2 g3 c3:Nat) (sa da sb db:List Int) (n1:Nat) (L:List (Value × List Int)),Hid (da.length=n1)/\Hid ((sa.length<=4/\da.length<=1001)/\(sb.length<=4/\db.length<=1001))/\Hid (((.slice a0 sa.length c0,sa)∈L\/(a0=none/\sa=[]/\c0=0))/\(.slice (some ⟨g1,0,none⟩) n1 c1,da)∈L/\(.slice (some ⟨g2,0,none⟩) sb.length c2,sb)∈L/\(.slice (some ⟨g3,0,none⟩) db.length c3,db)∈L)/\Hid (Dv w.heap.size P w L [(A,.slice a0 sa.length c0,.slice (some ⟨g1,0,none⟩) n1 c1),(A+1,.slice (some ⟨g2,0,none⟩) sb.length c2,.slice (some ⟨g3,0,none⟩) db.length c3),(w.heap.size+1,.slice none 0 0,.slice none 0 0),(w.heap.size,.slice none 0 0,.slice none 0 0)] wx)
theorem DyR.mk {w wx:World} {P A c0 g1 c1 g2 c2 g3 c3 n1:Nat} {a0:Option Addr} {sa da sb db:List Int} {L:List (Value × List Int)} (h:Dv w.heap.size P w L [(A,.slice a0 sa.length c0,.slice (some ⟨g1,0,none⟩) n1 c1),(A+1,.slice (some ⟨g2,0,none⟩) sb.length c2,.slice (some ⟨g3,0,none⟩) db.length c3),(w.heap.size+1,.slice none 0 0,.slice none 0 0),(w.heap.size,.slice none 0 0,.slice none 0 0)] wx) (hn:da.length=n1) (l0:sa.length<=4/\da.length<=1001) (l1:sb.length<=4/\db.length<=1001) (m0:(.slice a0 sa.length c0,sa)∈L\/(a0=none/\sa=[]/\c0=0)) (m1:(.slice (some ⟨g1,0,none⟩) n1 c1,da)∈L) (m2:(.slice (some ⟨g2,0,none⟩) sb.length c2,sb)∈L) (m3:(.slice (some ⟨g3,0,none⟩) db.length c3,db)∈L):DyR w P A wx :=
 ⟨a0,c0,g1,c1,g2,c2,g3,c3,sa,da,sb,db,n1,L,hn,⟨l0,l1⟩,⟨m0,m1,m2,m3⟩,h⟩
theorem Dv.nx0 {B P A G:Nat} {z:Int} {a:Value} {w0 w:World} {L:List (Value × List Int)} {N:List (Nat × Value × Value)} (h:Dv B P w0 ((.slice (some ⟨G,0,none⟩) 1 1,[z])::L) ((A,a,.slice (some ⟨G,0,none⟩) 1 1)::N) w) (hL:∀m∈L,¬m.1.ownBlock=some G) :
  Calls Tryz.prog 24 #[.pointer (some ⟨P,0,none⟩)] w fun e w'=>∃y:Nat,e=.returned (.int .i64 (y:Int))/\y<=255/\w'.cell? ⟨A,1,none⟩=some (.slice (some ⟨G,0,none⟩) 1 1)/\w'.cell? ⟨G,0,none⟩=some (.int .i64 z)/\w'.frozen? ⟨G,0,none⟩=false/\∀v,Dv B P w0 ((.slice (some ⟨G,0,none⟩) 1 1,[v])::L) ((A,a,.slice (some ⟨G,0,none⟩) 1 1)::N) (w'.setCell ⟨G,0,none⟩ (.int .i64 v)):=by
 refine (next_any B P w h.r).mono ?_
 rintro e w' ⟨y,rfl,hy,hr,hg⟩
 have d:=h.step hr hg
 have r:Row w0.heap.size w' (.slice (some ⟨G,0,none⟩) 1 1) [z]:=d.rows (_,[z]) (by simp)
 exact ⟨y,rfl,hy,(d.cells (X:=A) (a:=a) (b:=.slice (some ⟨G,0,none⟩) 1 1) (by simp)).2.1,(rd_cell (zs:=[z]) r.own.rd (i:=0) (by simp)).2,r.1.frozenAt 0,fun v=>d.cell rfl hL 0 v⟩
theorem draw14_any (ao:Option Addr) (n cap:Nat) (w:World) (hn:n<=1048576) (hcap:n<=cap) (hm:cap<=9223372036854775807) (h:RdB w.heap.size w ao n):Calls Tryz.prog 14 #[.slice ao n cap] w (D2Post w):=by
 have KO:=hideP (open2 ao n cap w hn hcap hm h)
 obtain ⟨P,hP⟩:∃P,P=w.heap.size+1+1:=⟨_,rfl⟩
 rw [<- hP] at KO
 clear h hP
 go_enter Tryz.func14,Tryz.ntmps14
 go_wp2_with fail
 refine KO.out.mono ?_
 rintro e w1 ⟨rfl,d1⟩
 have D1:=hideP d1
 clear KO d1
 have KN:=hideP (next_any _ P w1 D1.out.r)
 go_wp2_with fail
 refine KN.out.mono ?_
 rintro e xw ⟨x,rfl,hx,hr,hg⟩
 have D2:=hideP (D1.out.step hr hg)
 clear hr hg KN D1
 obtain ⟨f,hf⟩:∃f:Nat,1+(x:Int) % 7=(f:Int):=⟨1+x % 7,by omega⟩
 have hf7:f=1\/(f=2\/f=3)\/f=4\/f=5\/f=6\/f=7:=by omega
 have KP:=hideP (l2Pair_any _ P xw D2.out.g.size D2.out.r)
 go_wp2_with fail
 refine KP.out.mono ?_
 rintro e w4 ⟨v0,v1,v2,v3,sa,da,sb,db,rfl,⟨l0,l1,l2,l3⟩,dp⟩
 have D4:=hideP (D2.out.join dp)
 obtain ⟨g0,c0,e0,_,_⟩:=(dp.rows (v0,sa) (by simp)).form
 obtain ⟨g1,c1,e1,_,_⟩:=(dp.rows (v1,da) (by simp)).form
 obtain ⟨g2,c2,e2,_,_⟩:=(dp.rows (v2,sb) (by simp)).form
 obtain ⟨g3,c3,e3,_,_⟩:=(dp.rows (v3,db) (by simp)).form
 dsimp only at e0 e1 e2 e3
 subst e0 e1 e2 e3
 have LA:=hideP (And.intro l0 l1)
 have LB:=hideP (And.intro l2 l3)
 clear dp l0 l1 l2 l3 KP D2
 have D6:=(D4.out.alloc (.slice (some ⟨g0,0,none⟩) sa.length c0) (.slice (some ⟨g1,0,none⟩) da.length c1)).alloc (.slice (some ⟨g2,0,none⟩) sb.length c2) (.slice (some ⟨g3,0,none⟩) db.length c3)
 rw [show (w4.alloc (.cells #[.slice (some ⟨g0,0,none⟩) sa.length c0,.slice (some ⟨g1,0,none⟩) da.length c1] 25)).heap.size=w4.heap.size+1 by simp] at D6
 replace D6:=hideP (D6.sub (L':=[(.slice (some ⟨g0,0,none⟩) sa.length c0,sa),(.slice (some ⟨g1,0,none⟩) da.length c1,da),(.slice (some ⟨g2,0,none⟩) sb.length c2,sb),(.slice (some ⟨g3,0,none⟩) db.length c3,db)]) (fun x hx=>by simp only [List.mem_cons,List.not_mem_nil,or_false] at hx ⊢; rcases hx with rfl | rfl | rfl | rfl <;> simp) (M':=[(w4.heap.size,.slice (some ⟨g0,0,none⟩) sa.length c0,.slice (some ⟨g1,0,none⟩) da.length c1),(w4.heap.size+1,.slice (some ⟨g2,0,none⟩) sb.length c2,.slice (some ⟨g3,0,none⟩) db.length c3),(w.heap.size+1,.slice none 0 0,.slice none 0 0),(w.heap.size,.slice none 0 0,.slice none 0 0)]) (fun x hx=>by simp only [List.mem_cons,List.not_mem_nil,or_false] at hx ⊢; rcases hx with rfl | rfl | rfl | rfl <;> simp))
 have hA:w.heap.size+1<w4.heap.size:=(Array.getElem?_eq_some_iff.1 (D4.out.vars (w.heap.size+1,.slice none 0 0,.slice none 0 0) (by simp)).2).1
 clear D4
 go_upto_region 5 with fail
 generalize hw6:(w4.alloc (.cells #[.slice (some ⟨g0,0,none⟩) sa.length c0,.slice (some ⟨g1,0,none⟩) da.length c1] 25)).alloc (.cells #[.slice (some ⟨g2,0,none⟩) sb.length c2,.slice (some ⟨g3,0,none⟩) db.length c3] 25)=w6 at D6 ⊢
 generalize w4.heap.size=A at D6 hA ⊢
 clear hw6
 obtain ⟨p0,p1,p2⟩:=D6.out.cells (X:=A) (a:=(.slice (some ⟨g0,0,none⟩) sa.length c0)) (b:=(.slice (some ⟨g1,0,none⟩) da.length c1)) (by simp)
 obtain ⟨y0,y1,y2⟩:=D6.out.cells (X:=A+1) (a:=(.slice (some ⟨g2,0,none⟩) sb.length c2)) (b:=(.slice (some ⟨g3,0,none⟩) db.length c3)) (by simp)
 obtain ⟨q0,q1,q2⟩:=D6.out.cells (X:=w.heap.size) (a:=.slice none 0 0) (b:=.slice none 0 0) (by simp)
 obtain ⟨t0,t1,t2⟩:=D6.out.cells (X:=w.heap.size+1) (a:=.slice none 0 0) (b:=.slice none 0 0) (by simp)
 by_cases h250:(250:Int)<=(x:Int)
 ·go_wp2_with fail
  go_region
  all_goals
   go_wp2_with fail
   exact bodyPost_ret (v:=.tuple #[.int .i64 ((x:Int) % 2 * 8),.agg #[.slice (some ⟨g0,0,none⟩) sa.length c0,.slice (some ⟨g1,0,none⟩) da.length c1],.agg #[.slice (some ⟨g2,0,none⟩) sb.length c2,.slice (some ⟨g3,0,none⟩) db.length c3]]) (by simp [results,Tryz.results14,go_sem,q0,q1,t0,t1]) rfl (((D6.out.two (X:=w.heap.size) (a:=.slice none 0 0) (b:=.slice none 0 0) (a':=.slice none 0 0) (b':=.slice none 0 0) (by simp) (by simp) _ _ _ _).keep (Below.refl _ _).drew).d2 LA.out LB.out (by simp) (by simp) (by simp) (by simp) _)
 by_cases h3:(x:Int) % 3=0
 ·go_wp2_with fail
  go_region
  all_goals
   go_wp2_with fail
   exact bodyPost_ret (v:=.tuple #[.int .i64 (f:Int),.agg #[.slice (some ⟨g0,0,none⟩) sa.length c0,.slice (some ⟨g1,0,none⟩) da.length c1],.agg #[.slice (some ⟨g2,0,none⟩) sb.length c2,.slice (some ⟨g3,0,none⟩) db.length c3]]) (by simp [results,Tryz.results14,go_sem,q0,q1,t0,t1]) rfl (((D6.out.two (X:=w.heap.size) (a:=.slice none 0 0) (b:=.slice none 0 0) (a':=.slice none 0 0) (b':=.slice none 0 0) (by simp) (by simp) _ _ _ _).keep (Below.refl _ _).drew).d2 LA.out LB.out (by simp) (by simp) (by simp) (by simp) _)
 go_upto_if 37 with fail
 go_cut [] (fun wx=>DyR w P A wx)
 case rest =>
  obtain ⟨a0,c0,g1,c1,g2,c2,g3,c3,sa,da,sb,db,n1,L,HE,LL,ML,D7⟩:=hcut
  rename World=>w7
  have e1:=HE.out
  subst e1
  clear HE D6 LA LB p0 p1 p2 y0 y1 y2 q0 q1 q2 t0 t1 t2
  obtain ⟨p0,p1,p2⟩:=D7.out.cells (X:=A) (a:=(.slice a0 sa.length c0)) (b:=(.slice (some ⟨g1,0,none⟩) da.length c1)) (by simp)
  obtain ⟨y0,y1,y2⟩:=D7.out.cells (X:=A+1) (a:=(.slice (some ⟨g2,0,none⟩) sb.length c2)) (b:=(.slice (some ⟨g3,0,none⟩) db.length c3)) (by simp)
  obtain ⟨q0,q1,q2⟩:=D7.out.cells (X:=w.heap.size) (a:=.slice none 0 0) (b:=.slice none 0 0) (by simp)
  obtain ⟨t0,t1,t2⟩:=D7.out.cells (X:=w.heap.size+1) (a:=.slice none 0 0) (b:=.slice none 0 0) (by simp)
  have DF:=hideP (fun u0 u1 u2 u3=>(D7.out.two (X:=w.heap.size) (a:=.slice none 0 0) (b:=.slice none 0 0) (a':=.slice none 0 0) (b':=.slice none 0 0) (by simp) (by simp) u0 u1 u2 u3).keep (show Below _ _ (World.drew _) from (Below.refl _ _).drew))
  clear D7
  go_wp2_with fail
  go_region
  all_goals
   go_wp2_with fail
   exact bodyPost_ret (v:=.tuple #[.int .i64 (f:Int),.agg #[.slice a0 sa.length c0,.slice (some ⟨g1,0,none⟩) da.length c1],.agg #[.slice (some ⟨g2,0,none⟩) sb.length c2,.slice (some ⟨g3,0,none⟩) db.length c3]]) (by simp [results,Tryz.results14,go_sem,q0,q1,t0,t1]) rfl ⟨f,_,_,_,_,sa,da,sb,db,rfl,⟨LL.out.1.1,LL.out.1.2,LL.out.2.1,LL.out.2.2⟩,⟨by
    rcases ML.out.1 with h | ⟨rfl,rfl,rfl⟩
    ·exact ((DF.out _ _ _ _).rows _ h).sl
    exact sl_nil _,((DF.out _ _ _ _).rows _ ML.out.2.1).sg,((DF.out _ _ _ _).rows _ ML.out.2.2.1).sg,((DF.out _ _ _ _).rows _ ML.out.2.2.2).sg⟩,(DF.out _ _ _ _).below⟩
 have HX:Hid (∀m∈[((A+1,.slice (some ⟨g2,0,none⟩) sb.length c2,.slice (some ⟨g3,0,none⟩) db.length c3):Nat × Value × Value),(w.heap.size+1,.slice none 0 0,.slice none 0 0),(w.heap.size,.slice none 0 0,.slice none 0 0)],¬m.1=A):=fun m hm=>by
  simp only [List.mem_cons,List.not_mem_nil,or_false] at hm
  rcases hm with rfl | rfl | rfl
  ·show ¬A+1=A
   omega
  ·show ¬w.heap.size+1=A
   omega
  show ¬w.heap.size=A
  omega
 have HY:Hid (∀m∈[((A,.slice (some ⟨g0,0,none⟩) sa.length c0,.slice (some ⟨g1,0,none⟩) da.length c1):Nat × Value × Value)]++[(w.heap.size+1,.slice none 0 0,.slice none 0 0),(w.heap.size,.slice none 0 0,.slice none 0 0)],¬m.1=A+1):=fun m hm=>by
  simp only [List.mem_append,List.mem_cons,List.not_mem_nil,or_false] at hm
  rcases hm with rfl | rfl | rfl
  ·show ¬A=A+1
   omega
  ·show ¬w.heap.size+1=A+1
   omega
  show ¬w.heap.size=A+1
  omega
 rcases hf7 with rfl | h23 | rfl | rfl | rfl | rfl
 rotate_left 4
 ·obtain ⟨z,hz⟩:∃z:Nat,(x:Int) % 6=(z:Int):=⟨((x:Int) % 6).toNat,by omega⟩
  have DA0:=D6.out
  have DA:=hideP (DA0.keep (w':=w6.alloc (.cells #[.int .i64 (z:Int)] 3)) ((Below.refl _ _).alloc (Nat.le_refl _) _))
  have KF:=hideP (DA.out.fill (u:=.slice (some ⟨w6.heap.size,0,none⟩) 1 1) (zs:=[(z:Int)]) HX.out ⟨owns_one w6 _ _ DA0.g.size,⟨_,rfl⟩⟩ (Pl.fits1 z (by omega)))
  clear D6 DA0 DA
  go_wp2_with fail
  refine KF.out.mono ?_
  rintro e w8 ⟨g4,c4,dc,rfl,hdl,ll,hne,d6,d7⟩
  have D7:=hideP d7
  have LC:=hideP ll
  clear p0 p1 p2
  obtain ⟨p0,p1,p2⟩:=d6.cells (X:=A) (a:=(.slice (some ⟨g0,0,none⟩) sa.length c0)) (b:=(.slice (some ⟨g1,0,none⟩) da.length c1)) (by simp)
  clear d6 d7 ll KF
  go_wp2_with fail
  go_meet
  exact DyR.mk (sa:=[(z:Int)]) D7.out rfl LC.out LB.out (.inl (by simp)) (by simp) (by simp) (by simp)
 ·go_upto_region 18 with fail
  have DD:=hideP (D6.out.keep (w':=w6.drew) (Below.refl _ _).drew)
  clear p0 p1 p2 y0 y1 y2 q0 q1 q2 t0 t1 t2 D6
  obtain ⟨p0,p1,p2⟩:=DD.out.cells (X:=A) (a:=(.slice (some ⟨g0,0,none⟩) sa.length c0)) (b:=(.slice (some ⟨g1,0,none⟩) da.length c1)) (by simp); obtain ⟨y0,y1,y2⟩:=DD.out.cells (X:=A+1) (a:=(.slice (some ⟨g2,0,none⟩) sb.length c2)) (b:=(.slice (some ⟨g3,0,none⟩) db.length c3)) (by simp)
  go_region_with (go_at_call 27; first | (refine (l2Copy_at (.slice (some ⟨g0,0,none⟩) sa.length c0) sa _ (by have:=LA.out.1; omega) (DD.out.rows (.slice (some ⟨g0,0,none⟩) sa.length c0,sa) (by simp)).own.rd).mono ?_; rintro e ws ⟨gs,cs,rfl,_,_,ho,hb⟩; have DS:=hideP ((DD.out.keep hb).row (v:=.slice (some ⟨gs,0,none⟩) sa.length cs) (zs:=sa) ⟨owns_base ho DD.out.g.size,⟨_,rfl⟩⟩); clear p0 p1 p2 y0 y1 y2 ho hb DD; have DD:=DS; clear DS; obtain ⟨p0,p1,p2⟩:=DD.out.cells (X:=A) (a:=(.slice (some ⟨g0,0,none⟩) sa.length c0)) (b:=(.slice (some ⟨g1,0,none⟩) da.length c1)) (by simp); obtain ⟨y0,y1,y2⟩:=DD.out.cells (X:=A+1) (a:=(.slice (some ⟨g2,0,none⟩) sb.length c2)) (b:=(.slice (some ⟨g3,0,none⟩) db.length c3)) (by simp)) | (refine (l2Copy_at (.slice (some ⟨g1,0,none⟩) da.length c1) da _ (by have:=LA.out.2; omega) (DD.out.rows (.slice (some ⟨g1,0,none⟩) da.length c1,da) (by simp)).own.rd).mono ?_; rintro e wt ⟨gt,ct,rfl,_,_,ho,hb⟩; have DS:=hideP ((DD.out.keep hb).row (v:=.slice (some ⟨gt,0,none⟩) da.length ct) (zs:=da) ⟨owns_base ho DD.out.g.size,⟨_,rfl⟩⟩); clear p0 p1 p2 y0 y1 y2 ho hb DD; have DD:=DS; clear DS; obtain ⟨p0,p1,p2⟩:=DD.out.cells (X:=A) (a:=(.slice (some ⟨g0,0,none⟩) sa.length c0)) (b:=(.slice (some ⟨g1,0,none⟩) da.length c1)) (by simp); obtain ⟨y0,y1,y2⟩:=DD.out.cells (X:=A+1) (a:=(.slice (some ⟨g2,0,none⟩) sb.length c2)) (b:=(.slice (some ⟨g3,0,none⟩) db.length c3)) (by simp)))
  all_goals
   go_wp2_with fail
   go_meet
   exact DyR.mk (Dv.put (M:=[(A,.slice (some ⟨g0,0,none⟩) sa.length c0,.slice (some ⟨g1,0,none⟩) da.length c1)]) DD.out HY.out _ _) rfl LA.out LA.out (.inl (by simp)) (by simp) (by simp) (by simp)
 ·obtain ⟨z,hz⟩:∃z:Nat,(x:Int) / 7 % 5=(z:Int):=⟨((x:Int) / 7 % 5).toNat,by omega⟩
  have DA0:=D6.out
  have DA:=hideP (DA0.keep (w':=w6.alloc (.cells #[.int .i64 (z:Int)] 3)) ((Below.refl _ _).alloc (Nat.le_refl _) _))
  have KF:=hideP (DA.out.fill (u:=.slice (some ⟨w6.heap.size,0,none⟩) 1 1) (zs:=[(z:Int)]) HX.out ⟨owns_one w6 _ _ DA0.g.size,⟨_,rfl⟩⟩ (Pl.fits1 z (by omega)))
  clear D6 DA0 DA
  go_wp2_with fail
  refine KF.out.mono ?_
  rintro e w8 ⟨g4,c4,dc,rfl,hdl,ll,hne,d6,d7⟩
  have D7:=hideP d7
  have LC:=hideP ll
  clear p0 p1 p2
  obtain ⟨p0,p1,p2⟩:=d6.cells (X:=A) (a:=(.slice (some ⟨g0,0,none⟩) sa.length c0)) (b:=(.slice (some ⟨g1,0,none⟩) da.length c1)) (by simp)
  clear d6 d7 ll KF
  go_wp2_with fail
  go_meet
  exact DyR.mk (sa:=[(z:Int)]) D7.out rfl LC.out LB.out (.inl (by simp)) (by simp) (by simp) (by simp)
 ·rcases h23 with rfl | rfl
  all_goals
   have KN:=hideP (next_any _ P w6 D6.out.r)
   go_wp2_with fail
   refine KN.out.mono ?_
   rintro e w8 ⟨y,rfl,hy,hr,hg⟩
   obtain ⟨z,hz⟩:∃z:Int,(y:Int) % 14-6=z:=⟨_,rfl⟩
   have DN:=D6.out.step hr hg
   have D8:=hideP ((DN.keep (w':=w8.alloc (.cells #[.int .i64 z] 3)) ((Below.refl _ _).alloc (Nat.le_refl _) _)).row (v:=.slice (some ⟨w8.heap.size,0,none⟩) 1 1) (zs:=[z]) ⟨owns_one w8 _ _ DN.g.size,⟨_,rfl⟩⟩)
   have NG:Hid (∀m∈([(.slice (some ⟨g0,0,none⟩) sa.length c0,sa),(.slice (some ⟨g1,0,none⟩) da.length c1,da),(.slice (some ⟨g2,0,none⟩) sb.length c2,sb),(.slice (some ⟨g3,0,none⟩) db.length c3,db)]:List (Value × List Int)),¬m.1.ownBlock=some w8.heap.size):=fun m hm e=>by
    have:=((DN.rows m hm).1.lt _ e).2
    omega
   have D9:=hideP (Dv.put (M:=[]) D8.out (by simpa using HX.out) (.slice none 0 0) (.slice (some ⟨w8.heap.size,0,none⟩) 1 1))
   clear p0 p1 p2
   obtain ⟨p0,p1,p2⟩:=D8.out.cells (X:=A) (a:=(.slice (some ⟨g0,0,none⟩) sa.length c0)) (b:=(.slice (some ⟨g1,0,none⟩) da.length c1)) (by simp)
   clear D6 DN hr hg KN D8
   by_cases h16:(x:Int) % 16=15
   ·go_upto_region 14 with fail
    clear p0 p1 p2 q0 q1 q2 t0 t1 t2 y0 y1 y2
    generalize (((w8.alloc (.cells #[.int .i64 z] 3)).setCell ⟨A,0,none⟩ (.slice none 0 0)).setCell ⟨A,1,none⟩ (.slice (some ⟨w8.heap.size,0,none⟩) 1 1))=w9 at D9 ⊢
    generalize w8.heap.size=G at D9 NG ⊢
    replace D9:=hideP (D9.out.keep (w':=w9.drew) (Below.refl _ _).drew)
    have TK:=D9.out.cells (X:=A) (a:=.slice none 0 0) (b:=.slice (some ⟨G,0,none⟩) 1 1) (by simp)
    have p1:=TK.2.1
    clear TK
    go_region_with (go_at_call 24; refine (D9.out.nx0 NG.out).mono ?_; rintro e w10 ⟨y3,rfl,hy3,u1,hcc,hfz,d10⟩; have D10:=hideP d10; obtain ⟨s,hs⟩:∃s:Nat,(y3:Int) % 2=(s:Int):=⟨y3 % 2,by omega⟩; clear p1 d10)
    all_goals
     go_wp2_with fail
     go_meet
     exact DyR.mk (sa:=[]) (D10.out _) rfl ⟨by simp,by simp⟩ LB.out (.inr ⟨rfl,rfl,rfl⟩) List.mem_cons_self (by simp) (by simp)
   go_wp2_with fail
   go_meet
   exact DyR.mk (sa:=[]) (da:=[z]) D9.out rfl ⟨by simp,by simp⟩ LB.out (.inr ⟨rfl,rfl,rfl⟩) (by simp) (by simp) (by simp)
 ·have KT:Hid (∀W,1<sb.length->Rd W.heap.size W (.slice (some ⟨g2,0,none⟩) sb.length c2) sb->Rd W.heap.size W (.slice (some ⟨g2,1,none⟩) (sb.length-1) (c2-1)) sb.tail):=fun W h1 h=>by
   have:=h.sub 1 sb.length (by omega) (Nat.le_refl _) (c2-1)
   rw [Nat.zero_add] at this
   simpa [List.take_of_length_le] using this
  have RB:=hideP (D6.out.rows (.slice (some ⟨g2,0,none⟩) sb.length c2,sb) (by simp)).own.rd
  have hc2:sb.length<=c2:=by omega
  have hsb:=LB.out.1
  go_upto_region 26 with fail
  go_cut [157] (fun s wx=>s=.bool (decide (1<sb.length/\Pl.fitsB sb.tail=true))/\wx=w6)
  case first =>
   by_cases hb:1<sb.length
   ·have hb':(1:Int)<(sb.length:Int):=by omega
    have KF:=hideP (l1Fits_any w6.heap.size (.slice (some ⟨g2,1,none⟩) (sb.length-1) (c2-1)) sb.tail w6 (by simp; omega) (KT.out w6 hb RB.out))
    have hc1:¬c2=1:=by omega
    go_wp2_with (go_at_call 52; refine KF.out.mono ?_; rintro e w6 ⟨rfl,rfl⟩)
    rename World=>w6
    go_meet
    refine ⟨congrArg Value.bool ?_,rfl⟩
    by_cases hft:Pl.fitsB sb.tail=true
    ·rw [hft]
     exact (decide_eq_true ⟨hb,rfl⟩).symm
    rw [decide_eq_false (fun h=>hft h.2)]
    simpa using hft
   have hb':¬(1:Int)<(sb.length:Int):=by omega
   go_wp2_with fail
   go_meet
   exact ⟨congrArg Value.bool (decide_eq_false (fun h=>hb h.1)).symm,rfl⟩
  obtain ⟨rfl,rfl⟩:=hcut
  rename World=>w6
  by_cases ha:(1<sb.length/\Pl.fitsB sb.tail=true)
  rotate_left 1
  ·rw [decide_eq_false ha]
   go_wp2_with fail
   go_meet
   exact DyR.mk D6.out rfl LA.out LB.out (.inl (by simp)) (by simp) (by simp) (by simp)
  rw [decide_eq_true ha]
  obtain ⟨hb,hft⟩:=ha
  have hb':(1:Int)<(sb.length:Int):=by omega
  have hc1:¬c2=1:=by omega
  have KC:=hideP (l2Copy_at (.slice (some ⟨g2,1,none⟩) (sb.length-1) (c2-1)) sb.tail w6 (by simp; omega) (KT.out w6 hb RB.out))
  clear KT RB
  generalize sb.tail=tb at KC hft
  go_wp2_with fail
  refine KC.out.mono ?_
  rintro e w8 ⟨g5,c5,rfl,k5,k5',ho,hb8⟩
  have D8:=D6.out.keep hb8
  have KF:=hideP (D8.fill (u:=.slice (some ⟨g5,0,none⟩) tb.length c5) (zs:=tb) HX.out ⟨owns_base ho D6.out.g.size,⟨_,rfl⟩⟩ hft)
  clear D6 D8 KC ho hb8 k5 k5'
  go_wp2_with fail
  refine KF.out.mono ?_
  rintro e w9 ⟨g4,c4,dc,rfl,hdl,ll,hne,d6,d7⟩
  have D7:=hideP d7
  have LC:=hideP ll
  clear p0 p1 p2
  obtain ⟨p0,p1,p2⟩:=d6.cells (X:=A) (a:=(.slice (some ⟨g0,0,none⟩) sa.length c0)) (b:=(.slice (some ⟨g1,0,none⟩) da.length c1)) (by simp)
  clear d6 d7 ll KF
  go_wp2_with fail
  go_meet
  exact DyR.mk D7.out rfl LC.out LB.out (.inl (by simp)) (by simp) (by simp) (by simp)
 go_upto_region 19 with fail
 go_cut [96] (fun s wx=>s=.bool (decide (0<sb.length/\0<sb.getD 0 0))/\wx=w6)
 case first =>
  by_cases hb:0<sb.length
  ·have hb':(0:Int)<(sb.length:Int):=by omega
   have hcc:w6.cell? ⟨g2,0,none⟩=some (.int .i64 (sb.getD 0 0)):=(rd_cell (zs:=sb) (D6.out.rows (.slice (some ⟨g2,0,none⟩) sb.length c2,sb) (by simp)).own.rd (i:=0) hb).2
   obtain ⟨s0,hs0⟩:∃s0,sb.getD 0 0=s0:=⟨_,rfl⟩
   rw [hs0] at hcc
   by_cases hs:0<s0
   ·go_wp2_with fail
    go_meet
    exact ⟨congrArg Value.bool (decide_eq_true ⟨hb,by rw [hs0]; exact hs⟩).symm,rfl⟩
   go_wp2_with fail
   go_meet
   exact ⟨congrArg Value.bool (decide_eq_false (fun h=>by have:=h.2; rw [hs0] at this; omega)).symm,rfl⟩
  have hb':¬(0:Int)<(sb.length:Int):=by omega
  go_wp2_with fail
  go_meet
  exact ⟨by simp [hb],rfl⟩
 obtain ⟨rfl,rfl⟩:=hcut
 rename World=>w6
 by_cases ha:(0<sb.length/\0<sb.getD 0 0)
 rotate_left 1
 ·rw [decide_eq_false ha]
  go_wp2_with fail
  go_meet
  exact DyR.mk D6.out rfl LA.out LB.out (.inl (by simp)) (by simp) (by simp) (by simp)
 rw [decide_eq_true ha]
 obtain ⟨hb,hs⟩:=ha
 obtain ⟨s0,hs0⟩:∃s0,sb.getD 0 0=s0:=⟨_,rfl⟩
 rw [hs0] at hs
 have hsn:¬s0=0:=by omega
 obtain ⟨z,hz⟩:∃z:Nat,1+(x:Int) % 3=(z:Int):=⟨(1+(x:Int) % 3).toNat,by omega⟩
 have DA0:=D6.out
 have DA:=hideP (DA0.keep (w':=w6.alloc (.cells #[.int .i64 (z:Int)] 3)) ((Below.refl _ _).alloc (Nat.le_refl _) _))
 have KF:=hideP (DA.out.fill (u:=.slice (some ⟨w6.heap.size,0,none⟩) 1 1) (zs:=[(z:Int)]) HX.out ⟨owns_one w6 _ _ DA0.g.size,⟨_,rfl⟩⟩ (Pl.fits1 z (by omega)))
 clear D6 DA0 DA
 go_wp2_with fail
 refine KF.out.mono ?_
 rintro e w8 ⟨g4,c4,dc,rfl,hdl,ll,hne,d6,d7⟩
 have D7:=hideP d7
 have LC:=hideP ll
 clear p0 p1 p2
 obtain ⟨p0,p1,p2⟩:=d6.cells (X:=A) (a:=(.slice (some ⟨g0,0,none⟩) sa.length c0)) (b:=(.slice (some ⟨g1,0,none⟩) da.length c1)) (by simp)
 clear d6 d7 ll KF
 have hd1:0<dc.length:=by
  have e:Pl.prodC [(z:Int)]=z:=by
   show Pl.stepC 1 (z:Int)=z
   unfold Pl.stepC
   rw [if_neg (by omega)]
   omega
  rw [e] at hdl
  omega
 have NG:=hideP hne
 have HL:=hideP LC.out.2
 have hb':(0:Int)<(sb.length:Int):=by omega
 go_upto_region 21 with fail
 generalize ((w8.setCell ⟨A,0,none⟩ (.slice (some ⟨w6.heap.size,0,none⟩) 1 1)).setCell ⟨A,1,none⟩ (.slice (some ⟨g4,0,none⟩) dc.length c4))=w9 at D7 ⊢
 clear p0 p1 p2 y0 y1 y2 q0 q1 q2 t0 t1 t2 hne hdl LC
 generalize hn1:dc.length=n1 at *
 have HN:Hid (dc.length=n1):=hn1
 clear hn1
 go_wp2_with fail
 go_loopw [10] (fun i wr=>∃(j:Nat) (zs:List Int),j<=n1/\i=.int .i64 (j:Int)/\Hid (zs.length=n1)/\Hid (Dv w.heap.size P w ((.slice (some ⟨g4,0,none⟩) n1 c4,zs)::(.slice (some ⟨w6.heap.size,0,none⟩) 1 1,[(z:Int)])::[(.slice (some ⟨g0,0,none⟩) sa.length c0,sa),(.slice (some ⟨g1,0,none⟩) da.length c1,da),(.slice (some ⟨g2,0,none⟩) sb.length c2,sb),(.slice (some ⟨g3,0,none⟩) db.length c3,db)]) ((A,.slice (some ⟨w6.heap.size,0,none⟩) 1 1,.slice (some ⟨g4,0,none⟩) n1 c4)::[(A+1,.slice (some ⟨g2,0,none⟩) sb.length c2,.slice (some ⟨g3,0,none⟩) db.length c3),(w.heap.size+1,.slice none 0 0,.slice none 0 0),(w.heap.size,.slice none 0 0,.slice none 0 0)]) wr)) (fun i _=>n1-(intOf i).toNat)
 case atStart=>exact ⟨0,dc,Nat.zero_le _,rfl,HN,D7⟩
 clear D7
 obtain ⟨j,zs,hj,rfl,HZ,DR⟩:=hrel
 have hn':=HL.out
 obtain ⟨p0,p1,p2⟩:=DR.out.cells (X:=A) (a:=.slice (some ⟨w6.heap.size,0,none⟩) 1 1) (b:=.slice (some ⟨g4,0,none⟩) n1 c4) (by simp)
 have RR:Row w.heap.size wr (.slice (some ⟨g4,0,none⟩) n1 c4) zs:=DR.out.rows (_,zs) (by simp)
 rw [<- HZ.out] at RR
 have DC:=hideP (fun q v=>(DR.out.cell HZ.out NG.out q v).keep (show Below _ _ (World.drew _) from (Below.refl _ _).drew))
 have HQ:Hid (∀q v,(zs.set q v).length=n1):=fun q v=>by rw [List.length_set]; exact HZ.out
 by_cases hlt:j<n1
 rotate_left 1
 ·have hlt':¬(j:Int)<(n1:Int):=by omega
  have hcc:wr.cell? ⟨g4,0,none⟩=some (.int .i64 (zs.getD 0 0)):=(rd_cell RR.own.rd (i:=0) (by rw [HZ.out]; exact hd1)).2
  have hfz:=RR.1.frozenAt 0
  have hd1':(0:Int)<(n1:Int):=by omega
  generalize zs.getD 0 0=yv at hcc
  clear RR
  go_wp2_with fail
  go_region
  all_goals
   go_wp2_with fail
   go_meet
   exact DyR.mk (sa:=[(z:Int)]) (DC.out 0 _) (HQ.out 0 _) ⟨by simp,Nat.le_trans (Nat.le_of_eq (HQ.out 0 _)) HL.out⟩ LB.out (.inl (by simp)) List.mem_cons_self (by simp) (by simp)
 have hlt':(j:Int)<(n1:Int):=by omega
 clear DC RR
 have DD:=hideP (DR.out.keep (w':=wr.drew) (Below.refl _ _).drew)
 have RR:Row w.heap.size wr.drew (.slice (some ⟨g4,0,none⟩) n1 c4) zs:=DD.out.rows (_,zs) (by simp)
 rw [<- HZ.out] at RR
 have DC:=hideP (fun q v=>DD.out.cell HZ.out NG.out q v)
 have SS:∀W zt,Dv w.heap.size P w ((.slice (some ⟨g4,0,none⟩) n1 c4,zt)::(.slice (some ⟨w6.heap.size,0,none⟩) 1 1,[(z:Int)])::[(.slice (some ⟨g0,0,none⟩) sa.length c0,sa),(.slice (some ⟨g1,0,none⟩) da.length c1,da),(.slice (some ⟨g2,0,none⟩) sb.length c2,sb),(.slice (some ⟨g3,0,none⟩) db.length c3,db)]) ((A,.slice (some ⟨w6.heap.size,0,none⟩) 1 1,.slice (some ⟨g4,0,none⟩) n1 c4)::[(A+1,.slice (some ⟨g2,0,none⟩) sb.length c2,.slice (some ⟨g3,0,none⟩) db.length c3),(w.heap.size+1,.slice none 0 0,.slice none 0 0),(w.heap.size,.slice none 0 0,.slice none 0 0)]) W->W.cell? ⟨A,1,none⟩=some (.slice (some ⟨g4,0,none⟩) n1 c4)/\W.cell? ⟨A+1,0,none⟩=some (.slice (some ⟨g2,0,none⟩) sb.length c2)/\W.cell? ⟨g2,0,none⟩=some (.int .i64 s0):=fun W zt h=>by
  refine ⟨(h.cells (X:=A) (a:=.slice (some ⟨w6.heap.size,0,none⟩) 1 1) (b:=.slice (some ⟨g4,0,none⟩) n1 c4) (by simp)).2.1,(h.cells (X:=A+1) (a:=.slice (some ⟨g2,0,none⟩) sb.length c2) (b:=.slice (some ⟨g3,0,none⟩) db.length c3) (by simp)).1,?_⟩
  have:=(rd_cell (zs:=sb) (h.rows (.slice (some ⟨g2,0,none⟩) sb.length c2,sb) (by simp)).own.rd (i:=0) hb).2
  rw [hs0] at this
  exact this
 have SV:=hideP (SS _ _ DD.out)
 have SC:=hideP (fun v=>SS _ _ (DC.out j v))
 have hcc:wr.drew.cell? ⟨g4,j,none⟩=some (.int .i64 (zs.getD j 0)):=by
  have:=(rd_cell RR.own.rd (i:=j) (by rw [HZ.out]; exact hlt)).2
  rw [Nat.zero_add] at this
  exact this
 have hfz:=RR.1.frozenAt j
 generalize zs.getD j 0=yv at hcc
 clear RR HZ SS
 go_upto_region 24 with fail
 clear DR p0 p1 p2
 refine wp_region_held (S:=fun w'=>w'.cell? ⟨A,1,none⟩=some (.slice (some ⟨g4,0,none⟩) n1 c4)/\w'.cell? ⟨A+1,0,none⟩=some (.slice (some ⟨g2,0,none⟩) sb.length c2)/\w'.cell? ⟨g2,0,none⟩=some (.int .i64 s0)) (by kernel_rfl) ?_
 change wpAnyH _ _ _ _ _ _ _ _ (World.drew _)
 generalize World.drew wr=wd at DD SV SC hcc hfz DC ⊢
 refine tz 0 (.pointer (some ⟨A,1,none⟩)) rfl SV.out (fun w' hS=>by clear hS; go_simp) ?_
 refine tz 1 (.slice (some ⟨g4,0,none⟩) n1 c4) rfl SV.out (fun w' hS=>by have g0:=hS.1; clear hS; go_simp) ?_
 refine tz 2 (.int .i64 (j:Int)) rfl SV.out (fun w' hS=>by clear hS; go_simp) ?_
 refine tz 3 (.pointer (some ⟨A,1,none⟩)) rfl SV.out (fun w' hS=>by clear hS; go_simp) ?_
 refine tz 4 (.slice (some ⟨g4,0,none⟩) n1 c4) rfl SV.out (fun w' hS=>by have g0:=hS.1; clear hS; go_simp) ?_
 refine tz 5 (.int .i64 (j:Int)) rfl SV.out (fun w' hS=>by clear hS; go_simp) ?_
 refine tz 6 (.pointer (some ⟨g4,j,none⟩)) rfl SV.out (fun w' hS=>by clear hS; go_simp) ?_
 refine tz 8 (.pointer (some ⟨A+1,0,none⟩)) rfl SV.out (fun w' hS=>by clear hS; go_simp) ?_
 refine tz 9 (.slice (some ⟨g2,0,none⟩) sb.length c2) rfl SV.out (fun w' hS=>by have g0:=hS.2.1; clear hS; go_simp) ?_
 refine tz 10 (.pointer (some ⟨g2,0,none⟩)) rfl SV.out (fun w' hS=>by clear hS; go_simp) ?_
 refine tz 11 (.int .i64 s0) rfl SV.out (fun w' hS=>by have g0:=hS.2.2; clear hS; go_simp) ?_
 refine tz 13 (.pointer (some ⟨A+1,0,none⟩)) rfl SV.out (fun w' hS=>by clear hS; go_simp) ?_
 refine tz 14 (.slice (some ⟨g2,0,none⟩) sb.length c2) rfl SV.out (fun w' hS=>by have g0:=hS.2.1; clear hS; go_simp) ?_
 refine tz 15 (.pointer (some ⟨g2,0,none⟩)) rfl SV.out (fun w' hS=>by clear hS; go_simp) ?_
 refine tz 16 (.int .i64 s0) rfl SV.out (fun w' hS=>by have g0:=hS.2.2; clear hS; go_simp) ?_
 refine tz 18 (.pointer (some ⟨A+1,0,none⟩)) rfl SV.out (fun w' hS=>by clear hS; go_simp) ?_
 refine tz 19 (.slice (some ⟨g2,0,none⟩) sb.length c2) rfl SV.out (fun w' hS=>by have g0:=hS.2.1; clear hS; go_simp) ?_
 refine tz 20 (.pointer (some ⟨g2,0,none⟩)) rfl SV.out (fun w' hS=>by clear hS; go_simp) ?_
 refine tz 21 (.int .i64 s0) rfl SV.out (fun w' hS=>by have g0:=hS.2.2; clear hS; go_simp) ?_
 refine ry1 7 rfl (fun K hK=>?_)
 go_simp
 refine hK.out _ _ SV.out (fun _=>?_)
 clear hK
 refine ry1 12 rfl (fun K hK=>?_)
 go_simp
 refine hK.out _ _ SV.out (fun _=>?_)
 clear hK
 refine ry1 17 rfl (fun K hK=>?_)
 go_simp
 refine hK.out _ _ SV.out (fun _=>?_)
 clear hK
 refine ry1 22 rfl (fun K hK=>?_)
 go_simp
 refine hK.out _ _ SV.out (fun _=>?_)
 clear hK
 refine ry1 23 rfl (fun K hK=>?_)
 go_simp
 refine hK.out _ _ SV.out (fun _=>?_)
 clear hK
 refine ry1 24 rfl (fun K hK=>?_)
 go_simp
 refine hK.out _ _ (SC.out _) (fun _=>?_)
 clear hK
 refine wpAnyH_done (by kernel_rfl) ?_ _
 go_wp2_with fail
 go_round
 case rel=>exact ⟨j+1,_,by omega,rfl,HQ.out _ _,DC.out _ _⟩
 simp [intOf]; omega
end Go.Proofs.YtacapaiadggemaaGreat
