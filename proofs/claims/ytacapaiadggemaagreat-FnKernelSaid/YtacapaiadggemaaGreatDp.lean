import Derived.Test.YtacapaiadggemaaGreatDv
namespace Go.Proofs.YtacapaiadggemaaGreat
open Go.RowKit
set_option maxRecDepth 100000
set_option maxHeartbeats 16000000
set_option linter.unusedVariables false
theorem Dv.two {B P X:Nat} {w0 w:World} {L:List (Value × List Int)} {M:List (Nat × Value × Value)} {a b a' b':Value} (h:Dv B P w0 L M w) (h0:(X,a,b)∈M) (h1:(X+1,a',b')∈M) (u0 u1 u2 u3:Value):Dv B P w0 L [] ((((w.setCell ⟨X,0,none⟩ u0).setCell ⟨X,1,none⟩ u1).setCell ⟨X+1,0,none⟩ u2).setCell ⟨X+1,1,none⟩ u3):=by
 have x0:=h.vars _ h0
 have x1:=h.vars _ h1
 have e:Dv B P w0 L [] w:=h.sub (fun _ h=>h) (fun _ h=>by simp at h)
 have n:∀m∈([]:List (Nat × Value × Value)),∀Y,¬m.1=Y:=fun _ h=>by simp at h
 have z0:=heap_setCell_same w X 0 #[a,b] 25 u0 x0.2
 have y0:((w.setCell ⟨X,0,none⟩ u0).setCell ⟨X,1,none⟩ u1).heap[X+1]? = some (.cells #[a',b'] 25 (0,0)):=by
  have hl:=(Array.getElem?_eq_some_iff.1 x1.2).1
  rw [(grown_set _ X 1 u1).block _ (by simpa using hl) (by intro e; injection e with e; omega),(grown_set w X 0 u0).block _ hl (by intro e; injection e with e; omega)]
  exact x1.2
 exact (((e.set x0.1 x0.2 (fun m hm=>n m hm _) 0 u0).set x0.1 z0 (fun m hm=>n m hm _) 1 u1).set x1.1 y0 (fun m hm=>n m hm _) 0 u2).set x1.1 (heap_setCell_same _ (X+1) 0 #[a',b'] 25 u2 y0) (fun m hm=>n m hm _) 1 u3
def PrPost (B P:Nat) (w:World) (e:Ending) (w':World):Prop:=∃(v0 v1 v2 v3:Value) (sa da sb db:List Int),e=.returned (.tuple #[.agg #[v0,v1],.agg #[v2,v3]])/\(sa.length<=4/\da.length<=1001/\sb.length<=4/\db.length<=1001)/\Dv B P w [(v0,sa),(v1,da),(v2,sb),(v3,db)] [] w'
theorem Dv.pr {B P:Nat} {w0 w:World} {L:List (Value × List Int)} {v0 v1 v2 v3:Value} {sa da sb db:List Int} (h:Dv B P w0 L [] w) (l0:sa.length<=4/\da.length<=1001) (l1:sb.length<=4/\db.length<=1001) (m0:(v0,sa)∈L) (m1:(v1,da)∈L) (m2:(v2,sb)∈L) (m3:(v3,db)∈L):PrPost B P w0 (.returned (.tuple #[.agg #[v0,v1],.agg #[v2,v3]])) w :=
 ⟨v0,v1,v2,v3,sa,da,sb,db,rfl,⟨l0.1,l0.2,l1.1,l1.2⟩,h.sub (fun x hx=>by
  simp only [List.mem_cons,List.not_mem_nil,or_false] at hx
  rcases hx with rfl | rfl | rfl | rfl
  ·exact m0
  ·exact m1
  ·exact m2
  exact m3) (fun _ h=>h)⟩
theorem l2Pair_any (B P:Nat) (w:World) (hB:B<=w.heap.size) (h:Rdr B P w):Calls Tryz.prog 37 #[.pointer (some ⟨P,0,none⟩)] w (PrPost B P w):=by
 have hsz:(w.alloc (.cells #[.slice none 0 0,.slice none 0 0] 25)).heap.size=w.heap.size+1:=by simp
 have D2:=((Dv.new h hB).alloc (.slice none 0 0) (.slice none 0 0)).alloc (.slice none 0 0) (.slice none 0 0)
 rw [hsz] at D2
 replace D2:=hideP D2
 have KN:=hideP (next_any B P _ D2.out.r)
 clear h hsz
 go_enter Tryz.func37,Tryz.ntmps37
 go_wp2_with fail
 refine KN.out.mono ?_
 rintro e w3 ⟨x,rfl,hx,hr,hg⟩
 have D3:=hideP (D2.out.step hr hg)
 clear hr hg KN D2
 have KD:=hideP (l1DrawAny_any B P w3 (Nat.le_trans hB D3.out.g.size) D3.out.r)
 go_wp2_with fail
 refine KD.out.mono ?_
 rintro e w4 ⟨v0,v1,sa,da,rfl,l0,l1,ds⟩
 obtain ⟨g0,c0,e0,k0,k0'⟩:=ds.o0.form
 obtain ⟨g1,c1,e1,k1,k1'⟩:=ds.o1.form
 subst e0 e1
 have LN:=hideP (And.intro l0 l1)
 have D4:=hideP (D3.out.drawn ds)
 have D5:=hideP (D4.out.alloc (.slice (some ⟨g0,0,none⟩) sa.length c0) (.slice (some ⟨g1,0,none⟩) da.length c1))
 obtain ⟨w5,hw5⟩:∃w5,w5=w4.alloc (.cells #[(.slice (some ⟨g0,0,none⟩) sa.length c0),(.slice (some ⟨g1,0,none⟩) da.length c1)] 25):=⟨_,rfl⟩
 rw [<- hw5] at D5
 have hA:w.heap.size+1<w4.heap.size:=(Array.getElem?_eq_some_iff.1 (D4.out.vars _ (List.mem_cons_self)).2).1
 clear ds l0 l1 KD D3 D4 k0 k0' k1 k1'
 obtain ⟨r,hr⟩:∃r:Nat,(x:Int) % 4=(r:Int):=⟨x % 4,by omega⟩
 obtain ⟨s,hs⟩:∃s:Nat,(x:Int) % 8=(s:Int):=⟨x % 8,by omega⟩
 go_upto_region 3 with fail
 rw [<- hw5]
 clear hw5
 obtain ⟨A,hAe⟩:∃A,w4.heap.size=A:=⟨_,rfl⟩
 rw [hAe] at D5 hA ⊢
 clear hAe
 by_cases h3:r=3
 ·subst h3
  go_upto_region 4 with fail
  have D6:=hideP (D5.out.keep (w':=w5.drew) (Below.refl _ _).drew)
  have BW:=hideP (Nat.le_trans hB D6.out.g.size)
  obtain ⟨p0,p1,p2⟩:=D6.out.cells (X:=A) (a:=(.slice (some ⟨g0,0,none⟩) sa.length c0)) (b:=(.slice (some ⟨g1,0,none⟩) da.length c1)) (by simp)
  obtain ⟨q0,q1,q2⟩:=D6.out.cells (X:=w.heap.size) (a:=.slice none 0 0) (b:=.slice none 0 0) (by simp)
  obtain ⟨t0,t1,t2⟩:=D6.out.cells (X:=w.heap.size+1) (a:=.slice none 0 0) (b:=.slice none 0 0) (by simp)
  clear D5
  go_region_with (go_at_call 25; refine (l1DrawAny_any B P _ BW.out D6.out.r).mono ?_; rintro e w7 ⟨v2,v3,sb,db,rfl,l2,l3,ds⟩; have D7:=hideP (D6.out.drawn ds); obtain ⟨g2,c2,e2,_,_⟩:=ds.o0.form; obtain ⟨g3,c3,e3,_,_⟩:=ds.o1.form; subst e2 e3; have TK:=D7.out.cells (X:=A) (a:=(.slice (some ⟨g0,0,none⟩) sa.length c0)) (b:=(.slice (some ⟨g1,0,none⟩) da.length c1)) (by simp); have u0:=TK.1; have u1:=TK.2.1; clear TK ds p0 p1 p2 q0 q1 q2 t0 t1 t2; obtain ⟨q0,q1,q2⟩:=D7.out.cells (X:=w.heap.size) (a:=.slice none 0 0) (b:=.slice none 0 0) (by simp); obtain ⟨t0,t1,t2⟩:=D7.out.cells (X:=w.heap.size+1) (a:=.slice none 0 0) (b:=.slice none 0 0) (by simp))
  all_goals
   go_wp2_with fail
   exact bodyPost_ret (v:=.tuple #[.agg #[.slice (some ⟨g0,0,none⟩) sa.length c0,.slice (some ⟨g1,0,none⟩) da.length c1],.agg #[.slice (some ⟨g2,0,none⟩) sb.length c2,.slice (some ⟨g3,0,none⟩) db.length c3]]) (by simp [results,Tryz.results37,go_sem,q0,q1,t0,t1]) rfl ((D7.out.two (X:=w.heap.size) (a:=.slice none 0 0) (b:=.slice none 0 0) (a':=.slice none 0 0) (b':=.slice none 0 0) (by simp) (by simp) _ _ _ _).pr LN.out ⟨l2,l3⟩ (by simp) (by simp) (by simp) (by simp))
 have KC:=hideP (l2Copy_at (.slice (some ⟨g0,0,none⟩) sa.length c0) sa w5 (by have:=LN.out.1; omega) (D5.out.rows (.slice (some ⟨g0,0,none⟩) sa.length c0,sa) (by simp)).own.rd)
 have h3':¬((r:Int)=3):=by omega
 have c0':=(D5.out.cells (X:=A) (a:=(.slice (some ⟨g0,0,none⟩) sa.length c0)) (b:=(.slice (some ⟨g1,0,none⟩) da.length c1)) (by simp)).1
 go_wp2_with fail
 refine KC.out.mono ?_
 rintro e w6 ⟨g4,c4,rfl,k4,k4',ho,hb⟩
 have D6:=hideP ((D5.out.keep hb).row (v:=.slice (some ⟨g4,0,none⟩) sa.length c4) (zs:=sa) ⟨owns_base ho D5.out.g.size,⟨_,rfl⟩⟩)
 clear KC D5 c0' ho hb k4 k4'
 go_upto_if 23 with fail
 go_cut [6] (fun s6 wx=>∃g c zs,s6=.slice (some ⟨g,0,none⟩) zs.length c/\zs.length<=4/\Hid (Dv B P w [(.slice (some ⟨g,0,none⟩) zs.length c,zs),(.slice (some ⟨g0,0,none⟩) sa.length c0,sa),(.slice (some ⟨g1,0,none⟩) da.length c1,da)] [(A,.slice (some ⟨g0,0,none⟩) sa.length c0,.slice (some ⟨g1,0,none⟩) da.length c1),(w.heap.size+1,.slice none 0 0,.slice none 0 0),(w.heap.size,.slice none 0 0,.slice none 0 0)] wx))
 case first =>
  by_cases h2:r=2
  ·subst h2
   have DE:Hid (Dv B P w _ _ (w6.alloc (.cells #[] 3))):=(D6.out.keep ((Below.refl _ _).alloc (Nat.le_refl _) _)).row (v:=.slice (some ⟨w6.heap.size,0,none⟩) 0 0) (zs:=[]) ⟨owns_empty w6 _ D6.out.g.size,⟨_,rfl⟩⟩
   clear D6
   go_wp2_with fail
   go_meet
   exact ⟨w6.heap.size,0,[],rfl,by simp,DE.out.sub (fun x hx=>by simp only [List.mem_cons,List.not_mem_nil,or_false] at hx ⊢; rcases hx with rfl | rfl | rfl <;> simp) (fun _ h=>h)⟩
  have h2':¬((r:Int)=2):=by omega
  go_wp2_with fail
  go_meet
  exact ⟨g4,c4,sa,rfl,LN.out.1,D6.out⟩
 obtain ⟨g,c,zs,rfl,hz4,D7⟩:=hcut
 rename World=>w7
 have KF:=hideP (l1Fits_any w7.heap.size (.slice (some ⟨g,0,none⟩) zs.length c) zs w7 (by omega) (D7.out.rows (.slice (some ⟨g,0,none⟩) zs.length c,zs) (by simp)).own.rd)
 have HZ:=hideP hz4
 clear D6 h3 h3' hr hz4
 go_wp2_with fail
 refine KF.out.mono ?_
 rintro e w7 ⟨rfl,rfl⟩
 clear KF
 by_cases hf:Pl.fitsB zs=true
 rotate_left 1
 ·have hf':Pl.fitsB zs=false:=by simpa using hf
  rw [hf']
  clear hf hf'
  go_upto_region 9 with fail
  have D6:=hideP (D7.out.keep (w':=w7.drew) (Below.refl _ _).drew)
  have BW:=hideP (Nat.le_trans hB D6.out.g.size)
  obtain ⟨p0,p1,p2⟩:=D6.out.cells (X:=A) (a:=(.slice (some ⟨g0,0,none⟩) sa.length c0)) (b:=(.slice (some ⟨g1,0,none⟩) da.length c1)) (by simp)
  obtain ⟨q0,q1,q2⟩:=D6.out.cells (X:=w.heap.size) (a:=.slice none 0 0) (b:=.slice none 0 0) (by simp)
  obtain ⟨t0,t1,t2⟩:=D6.out.cells (X:=w.heap.size+1) (a:=.slice none 0 0) (b:=.slice none 0 0) (by simp)
  clear D7
  go_region_with (go_at_call 70; refine (l1Draw_any B P _ BW.out D6.out.r).mono ?_; rintro e w8 ⟨v2,v3,sb,db,rfl,hok,ds⟩; have D8:=hideP (D6.out.drawn ds); have LB:Hid (sb.length<=4/\db.length<=1001):=⟨by have:=(Pl.ok_max hok).1; omega,by have:=(Pl.ok_max hok).2; omega⟩; obtain ⟨g2,c2,e2,_,_⟩:=ds.o0.form; obtain ⟨g3,c3,e3,_,_⟩:=ds.o1.form; subst e2 e3; have TK:=D8.out.cells (X:=A) (a:=(.slice (some ⟨g0,0,none⟩) sa.length c0)) (b:=(.slice (some ⟨g1,0,none⟩) da.length c1)) (by simp); have u0:=TK.1; have u1:=TK.2.1; clear TK ds hok p0 p1 p2 q0 q1 q2 t0 t1 t2; obtain ⟨q0,q1,q2⟩:=D8.out.cells (X:=w.heap.size) (a:=.slice none 0 0) (b:=.slice none 0 0) (by simp); obtain ⟨t0,t1,t2⟩:=D8.out.cells (X:=w.heap.size+1) (a:=.slice none 0 0) (b:=.slice none 0 0) (by simp))
  all_goals
   go_wp2_with fail
   exact bodyPost_ret (v:=.tuple #[.agg #[.slice (some ⟨g0,0,none⟩) sa.length c0,.slice (some ⟨g1,0,none⟩) da.length c1],.agg #[.slice (some ⟨g2,0,none⟩) sb.length c2,.slice (some ⟨g3,0,none⟩) db.length c3]]) (by simp [results,Tryz.results37,go_sem,q0,q1,t0,t1]) rfl ((D8.out.two (X:=w.heap.size) (a:=.slice none 0 0) (b:=.slice none 0 0) (a':=.slice none 0 0) (b':=.slice none 0 0) (by simp) (by simp) _ _ _ _).pr LN.out LB.out (by simp) (by simp) (by simp) (by simp))
 have KL:=hideP (l1Fill_any B P (.slice (some ⟨g,0,none⟩) zs.length c) zs w7 D7.out.r hf (fun w' hg=>((D7.out.rows (.slice (some ⟨g,0,none⟩) zs.length c,zs) (by simp)).step D7.out.r hg).own.rd))
 have FF:=hideP hf
 rw [hf]
 clear hf
 go_wp2_with fail
 refine KL.out.mono ?_
 rintro e w8 ⟨va,db,rfl,hdl,hdr,ho,hk,hr8,hg⟩
 have D8:=hideP ((D7.out.step hr8 hg).row (v:=va) (zs:=db) ⟨owns_base ho D7.out.g.size,hk⟩)
 have RW:Row w.heap.size w8 va db:=D8.out.rows (va,db) (by simp)
 obtain ⟨g5,c5,e5,_,_⟩:=RW.form
 subst e5
 have LB:Hid (zs.length<=4/\db.length<=1001):=⟨HZ.out,by have:=(Pl.ok_max (ok_of FF.out hdl hdr)).2; omega⟩
 have D9:=hideP (D8.out.alloc (.slice (some ⟨g,0,none⟩) zs.length c) (.slice (some ⟨g5,0,none⟩) db.length c5))
 have hB2:w.heap.size+1<w8.heap.size:=(Array.getElem?_eq_some_iff.1 (D8.out.vars (w.heap.size+1,.slice none 0 0,.slice none 0 0) (by simp)).2).1
 clear hdl hdr ho hk hr8 hg KL D7 D8 HZ FF RW
 go_upto_region 11 with fail
 generalize hw9:w8.alloc (.cells #[.slice (some ⟨g,0,none⟩) zs.length c,.slice (some ⟨g5,0,none⟩) db.length c5] 25)=w9 at D9 ⊢
 clear hw9
 obtain ⟨A2,hA2⟩:∃A2,w8.heap.size=A2:=⟨_,rfl⟩
 rw [hA2] at D9 hB2 ⊢
 clear hA2
 obtain ⟨p0,p1,p2⟩:=D9.out.cells (X:=A) (a:=(.slice (some ⟨g0,0,none⟩) sa.length c0)) (b:=(.slice (some ⟨g1,0,none⟩) da.length c1)) (by simp)
 obtain ⟨y0,y1,y2⟩:=D9.out.cells (X:=A2) (a:=(.slice (some ⟨g,0,none⟩) zs.length c)) (b:=(.slice (some ⟨g5,0,none⟩) db.length c5)) (by simp)
 obtain ⟨q0,q1,q2⟩:=D9.out.cells (X:=w.heap.size) (a:=.slice none 0 0) (b:=.slice none 0 0) (by simp)
 obtain ⟨t0,t1,t2⟩:=D9.out.cells (X:=w.heap.size+1) (a:=.slice none 0 0) (b:=.slice none 0 0) (by simp)
 have DF:=hideP (fun u0 u1 u2 u3=>D9.out.two (X:=w.heap.size) (a:=.slice none 0 0) (b:=.slice none 0 0) (a':=.slice none 0 0) (b':=.slice none 0 0) (by simp) (by simp) u0 u1 u2 u3)
 clear D9
 by_cases h6:s=6
 ·subst h6
  go_wp2_with fail
  go_region
  all_goals
   go_wp2_with fail
   exact bodyPost_ret (v:=.tuple #[.agg #[.slice (some ⟨g,0,none⟩) zs.length c,.slice (some ⟨g5,0,none⟩) db.length c5],.agg #[.slice (some ⟨g0,0,none⟩) sa.length c0,.slice (some ⟨g1,0,none⟩) da.length c1]]) (by simp [results,Tryz.results37,go_sem,q0,q1,t0,t1]) rfl (((DF.out _ _ _ _).keep (Below.refl _ _).drew).pr LB.out LN.out (by simp) (by simp) (by simp) (by simp))
 have h6':¬((s:Int)=6):=by omega
 go_wp2_with fail
 go_region
 all_goals
  go_wp2_with fail
  exact bodyPost_ret (v:=.tuple #[.agg #[.slice (some ⟨g0,0,none⟩) sa.length c0,.slice (some ⟨g1,0,none⟩) da.length c1],.agg #[.slice (some ⟨g,0,none⟩) zs.length c,.slice (some ⟨g5,0,none⟩) db.length c5]]) (by simp [results,Tryz.results37,go_sem,q0,q1,t0,t1]) rfl (((DF.out _ _ _ _).keep (Below.refl _ _).drew).pr LN.out LB.out (by simp) (by simp) (by simp) (by simp))
end Go.Proofs.YtacapaiadggemaaGreat
