import Derived.Test.YtacapaiadggemaaGreatDp
namespace Go.Proofs.YtacapaiadggemaaGreat
open Go.RowKit
set_option maxRecDepth 100000
set_option maxHeartbeats 16000000
set_option linter.unusedVariables false
theorem Row.sg {B:Nat} {w:World} {v:Value} {zs:List Int} (h:Row B w v zs):Sg w v zs:=by
 obtain ⟨g,k,e,h1,h2⟩:=h.form
 exact ⟨g,k,e,h1,h2,h.own.rd⟩
theorem Row.sl {B:Nat} {w:World} {v:Value} {zs:List Int} (h:Row B w v zs):Sl w v zs:=by
 obtain ⟨g,k,e,h1,h2⟩:=h.form
 exact ⟨_,k,e,h1,h2,h.own.rd,.inr ⟨g,rfl⟩⟩
def D1Post (w:World) (e:Ending) (w':World):Prop:=∃(op:Int) (v0 v1:Value) (sh da:List Int),e=.returned (.tuple #[.int .i64 op,.agg #[v0,v1]])/\(sh.length<=4/\da.length<=1001)/\((Sl w' v0 sh/\(op=1\/Sg w' v0 sh))/\Sg w' v1 da)/\Below w.heap.size w w'
def D2Post (w:World) (e:Ending) (w':World):Prop:=∃(op:Int) (v0 v1 v2 v3:Value) (sa da sb db:List Int),e=.returned (.tuple #[.int .i64 op,.agg #[v0,v1],.agg #[v2,v3]])/\(sa.length<=4/\da.length<=1001/\sb.length<=4/\db.length<=1001)/\(Sl w' v0 sa/\Sg w' v1 da/\Sg w' v2 sb/\Sg w' v3 db)/\Below w.heap.size w w'
theorem Dv.below {P:Nat} {w0 w:World} {L:List (Value × List Int)} {M:List (Nat × Value × Value)} (h:Dv w0.heap.size P w0 L M w):Below w0.heap.size w0 w:=grown_below h.g h.r.1 (Nat.le_refl _)
theorem Dv.d1 {P:Nat} {w0 w:World} {L:List (Value × List Int)} {M:List (Nat × Value × Value)} {v0 v1:Value} {sh da:List Int} (h:Dv w0.heap.size P w0 L M w) (l:sh.length<=4/\da.length<=1001) (m0:(v0,sh)∈L) (m1:(v1,da)∈L) (op:Int):D1Post w0 (.returned (.tuple #[.int .i64 op,.agg #[v0,v1]])) w :=
 ⟨op,v0,v1,sh,da,rfl,l,⟨⟨(h.rows _ m0).sl,.inr (h.rows _ m0).sg⟩,(h.rows _ m1).sg⟩,h.below⟩
theorem Dv.d2 {P:Nat} {w0 w:World} {L:List (Value × List Int)} {M:List (Nat × Value × Value)} {v0 v1 v2 v3:Value} {sa da sb db:List Int} (h:Dv w0.heap.size P w0 L M w) (l0:sa.length<=4/\da.length<=1001) (l1:sb.length<=4/\db.length<=1001) (m0:(v0,sa)∈L) (m1:(v1,da)∈L) (m2:(v2,sb)∈L) (m3:(v3,db)∈L) (op:Int):D2Post w0 (.returned (.tuple #[.int .i64 op,.agg #[v0,v1],.agg #[v2,v3]])) w :=
 ⟨op,v0,v1,v2,v3,sa,da,sb,db,rfl,⟨l0.1,l0.2,l1.1,l1.2⟩,⟨(h.rows _ m0).sl,(h.rows _ m1).sg,(h.rows _ m2).sg,(h.rows _ m3).sg⟩,h.below⟩
theorem Dv.join {B P:Nat} {w0 w w':World} {L L':List (Value × List Int)} {M:List (Nat × Value × Value)} (h:Dv B P w0 L M w) (d:Dv B P w L' [] w'):Dv B P w0 (L'++L) M w':=by
 have k:=h.step d.r d.g
 exact ⟨k.r,k.g,k.b,fun x hx=>by
  rcases List.mem_append.1 hx with q | q
  ·exact (d.rows x q).base h.g.size
  exact k.rows x q,k.vars⟩
theorem open1 (ao:Option Addr) (n cap:Nat) (w:World) (hn:n<=1048576) (hcap:n<=cap) (hm:cap<=9223372036854775807) (h:RdB w.heap.size w ao n):Calls Tryz.prog 23 #[.slice ao n cap] (w.alloc (.cells #[.slice none 0 0,.slice none 0 0] 25)) fun e w'=>e=.returned (.pointer (some ⟨w.heap.size+1,0,none⟩))/\Dv w.heap.size (w.heap.size+1) w [] [(w.heap.size,.slice none 0 0,.slice none 0 0)] w':=by
 have b1:Below w.heap.size w (w.alloc (.cells #[.slice none 0 0,.slice none 0 0] 25)):=(Below.refl _ _).alloc (Nat.le_refl _) _
 have e1:(w.alloc (.cells #[.slice none 0 0,.slice none 0 0] 25)).heap.size=w.heap.size+1:=by simp
 have K:=l1Open_any w.heap.size ao n cap (w.alloc (.cells #[.slice none 0 0,.slice none 0 0] 25)) hn hcap hm (by omega) (h.keep b1)
 rw [e1] at K
 refine K.mono ?_
 rintro e w' ⟨rfl,hr,hb⟩
 refine ⟨rfl,hr,grown_of_b (b1.trans (hb.mono (by omega))) _,Nat.le_refl _,fun x hx=>by simp at hx,fun m hm=>?_⟩
 simp only [List.mem_cons,List.not_mem_nil,or_false] at hm
 subst hm
 exact ⟨⟨Nat.le_refl _,by simp⟩,(hb.block _ (by simp)).trans (heap_alloc_new w _)⟩
theorem open2 (ao:Option Addr) (n cap:Nat) (w:World) (hn:n<=1048576) (hcap:n<=cap) (hm:cap<=9223372036854775807) (h:RdB w.heap.size w ao n):Calls Tryz.prog 23 #[.slice ao n cap] ((w.alloc (.cells #[.slice none 0 0,.slice none 0 0] 25)).alloc (.cells #[.slice none 0 0,.slice none 0 0] 25)) fun e w'=>e=.returned (.pointer (some ⟨w.heap.size+1+1,0,none⟩))/\Dv w.heap.size (w.heap.size+1+1) w [] [(w.heap.size+1,.slice none 0 0,.slice none 0 0),(w.heap.size,.slice none 0 0,.slice none 0 0)] w':=by
 have b1:Below w.heap.size w ((w.alloc (.cells #[.slice none 0 0,.slice none 0 0] 25)).alloc (.cells #[.slice none 0 0,.slice none 0 0] 25)):=((Below.refl _ _).alloc (Nat.le_refl _) _).alloc (by simp) _
 have e1:((w.alloc (.cells #[.slice none 0 0,.slice none 0 0] 25)).alloc (.cells #[.slice none 0 0,.slice none 0 0] 25)).heap.size=w.heap.size+1+1:=by simp
 have K:=l1Open_any w.heap.size ao n cap ((w.alloc (.cells #[.slice none 0 0,.slice none 0 0] 25)).alloc (.cells #[.slice none 0 0,.slice none 0 0] 25)) hn hcap hm (by omega) (h.keep b1)
 rw [e1] at K
 refine K.mono ?_
 rintro e w' ⟨rfl,hr,hb⟩
 refine ⟨rfl,hr,grown_of_b (b1.trans (hb.mono (by omega))) _,Nat.le_refl _,fun x hx=>by simp at hx,fun m hm=>?_⟩
 simp only [List.mem_cons,List.not_mem_nil,or_false] at hm
 rcases hm with rfl | rfl
 ·have:=heap_alloc_new (w.alloc (.cells #[.slice none 0 0,.slice none 0 0] 25)) (.cells #[.slice none 0 0,.slice none 0 0] 25)
  exact ⟨⟨by simp,by simp⟩,(hb.block _ (by simp)).trans (by simpa using this)⟩
 exact ⟨⟨by simp,by simp; omega⟩,(hb.block _ (by simp; omega)).trans ((Below.heap_alloc _ _ _ (by simp)).trans (heap_alloc_new w _))⟩
theorem draw8_any (ao:Option Addr) (n cap:Nat) (w:World) (hn:n<=1048576) (hcap:n<=cap) (hm:cap<=9223372036854775807) (h:RdB w.heap.size w ao n):Calls Tryz.prog 8 #[.slice ao n cap] w (D2Post w):=by
 have KO:=hideP (open2 ao n cap w hn hcap hm h)
 obtain ⟨P,hP⟩:∃P,P=w.heap.size+1+1:=⟨_,rfl⟩
 rw [<- hP] at KO
 clear h hP
 go_enter Tryz.func8,Tryz.ntmps8
 go_wp2_with fail
 refine KO.out.mono ?_
 rintro e w1 ⟨rfl,d1⟩
 have D1:=hideP d1
 clear KO d1
 have KN:=hideP (l2Op_any _ P w1 D1.out.r)
 go_wp2_with fail
 refine KN.out.mono ?_
 rintro e xw ⟨x,rfl,hr,hg⟩
 have D2:=hideP (D1.out.step hr hg)
 clear hr hg KN D1
 have KP:=hideP (l2Pair_any _ P xw D2.out.g.size D2.out.r)
 go_wp2_with fail
 refine KP.out.mono ?_
 rintro e w4 ⟨v0,v1,v2,v3,sa,da,sb,db,rfl,⟨l0,l1,l2,l3⟩,dp⟩
 have D4:=hideP (D2.out.join dp)
 obtain ⟨g0,c0,e0,_,_⟩:=(dp.rows (v0,sa) (by simp)).form
 obtain ⟨g1,c1,e1,_,_⟩:=(dp.rows (v1,da) (by simp)).form
 obtain ⟨g2,c2,e2,_,_⟩:=(dp.rows (v2,sb) (by simp)).form
 obtain ⟨g3,c3,e3,_,_⟩:=(dp.rows (v3,db) (by simp)).form
 dsimp only at e0 e1 e2 e3
 subst e0 e1 e2 e3
 have LA:=hideP (And.intro l0 l1)
 have LB:=hideP (And.intro l2 l3)
 clear dp l0 l1 l2 l3 KP D2
 have D6:=(D4.out.alloc (.slice (some ⟨g0,0,none⟩) sa.length c0) (.slice (some ⟨g1,0,none⟩) da.length c1)).alloc (.slice (some ⟨g2,0,none⟩) sb.length c2) (.slice (some ⟨g3,0,none⟩) db.length c3)
 rw [show (w4.alloc (.cells #[.slice (some ⟨g0,0,none⟩) sa.length c0,.slice (some ⟨g1,0,none⟩) da.length c1] 25)).heap.size=w4.heap.size+1 by simp] at D6
 replace D6:=hideP D6
 have hA:w.heap.size+1<w4.heap.size:=(Array.getElem?_eq_some_iff.1 (D4.out.vars (w.heap.size+1,.slice none 0 0,.slice none 0 0) (by simp)).2).1
 clear D4
 go_upto_region 4 with fail
 generalize hw6:(w4.alloc (.cells #[.slice (some ⟨g0,0,none⟩) sa.length c0,.slice (some ⟨g1,0,none⟩) da.length c1] 25)).alloc (.cells #[.slice (some ⟨g2,0,none⟩) sb.length c2,.slice (some ⟨g3,0,none⟩) db.length c3] 25)=w6 at D6 ⊢
 generalize w4.heap.size=A at D6 hA ⊢
 clear hw6
 obtain ⟨p0,p1,p2⟩:=D6.out.cells (X:=A) (a:=(.slice (some ⟨g0,0,none⟩) sa.length c0)) (b:=(.slice (some ⟨g1,0,none⟩) da.length c1)) (by simp)
 obtain ⟨y0,y1,y2⟩:=D6.out.cells (X:=A+1) (a:=(.slice (some ⟨g2,0,none⟩) sb.length c2)) (b:=(.slice (some ⟨g3,0,none⟩) db.length c3)) (by simp)
 obtain ⟨q0,q1,q2⟩:=D6.out.cells (X:=w.heap.size) (a:=.slice none 0 0) (b:=.slice none 0 0) (by simp)
 obtain ⟨t0,t1,t2⟩:=D6.out.cells (X:=w.heap.size+1) (a:=.slice none 0 0) (b:=.slice none 0 0) (by simp)
 go_region
 all_goals
  go_wp2_with fail
  exact bodyPost_ret (v:=.tuple #[.int .i64 x,.agg #[.slice (some ⟨g0,0,none⟩) sa.length c0,.slice (some ⟨g1,0,none⟩) da.length c1],.agg #[.slice (some ⟨g2,0,none⟩) sb.length c2,.slice (some ⟨g3,0,none⟩) db.length c3]]) (by simp [results,Tryz.results8,go_sem,q0,q1,t0,t1]) rfl (((D6.out.two (X:=w.heap.size) (a:=.slice none 0 0) (b:=.slice none 0 0) (a':=.slice none 0 0) (b':=.slice none 0 0) (by simp) (by simp) _ _ _ _).keep (Below.refl _ _).drew).d2 LA.out LB.out (by simp) (by simp) (by simp) (by simp) _)
theorem draw17_any (ao:Option Addr) (n cap:Nat) (w:World) (hn:n<=1048576) (hcap:n<=cap) (hm:cap<=9223372036854775807) (h:RdB w.heap.size w ao n):Calls Tryz.prog 17 #[.slice ao n cap] w (D2Post w):=by
 have KO:=hideP (open2 ao n cap w hn hcap hm h)
 obtain ⟨P,hP⟩:∃P,P=w.heap.size+1+1:=⟨_,rfl⟩
 rw [<- hP] at KO
 clear h hP
 go_enter Tryz.func17,Tryz.ntmps17
 go_wp2_with fail
 refine KO.out.mono ?_
 rintro e w1 ⟨rfl,d1⟩
 have D1:=hideP d1
 clear KO d1
 have KN:=hideP (l2Op_any _ P w1 D1.out.r)
 go_wp2_with fail
 refine KN.out.mono ?_
 rintro e xw ⟨x,rfl,hr,hg⟩
 have D2:=hideP (D1.out.step hr hg)
 clear hr hg KN D1
 have KD:=hideP (l1DrawAny_any _ P xw D2.out.g.size D2.out.r)
 go_wp2_with fail
 refine KD.out.mono ?_
 rintro e w4 ⟨v0,v1,sa,da,rfl,l0,l1,ds⟩
 obtain ⟨g0,c0,e0,_,_⟩:=ds.o0.form
 obtain ⟨g1,c1,e1,_,_⟩:=ds.o1.form
 subst e0 e1
 have LA:=hideP (And.intro l0 l1)
 have D4:=hideP (D2.out.drawn ds)
 have D5:=hideP (D4.out.alloc (.slice (some ⟨g0,0,none⟩) sa.length c0) (.slice (some ⟨g1,0,none⟩) da.length c1))
 have hA:w.heap.size+1<w4.heap.size:=(Array.getElem?_eq_some_iff.1 (D4.out.vars (w.heap.size+1,.slice none 0 0,.slice none 0 0) (by simp)).2).1
 clear ds l0 l1 KD D2 D4
 go_upto_region 4 with fail
 generalize hw5:w4.alloc (.cells #[.slice (some ⟨g0,0,none⟩) sa.length c0,.slice (some ⟨g1,0,none⟩) da.length c1] 25)=w5 at D5 ⊢
 generalize w4.heap.size=A at D5 hA ⊢
 clear hw5
 have D6:=hideP (D5.out.keep (w':=w5.drew) (Below.refl _ _).drew)
 obtain ⟨p0,p1,p2⟩:=D6.out.cells (X:=A) (a:=(.slice (some ⟨g0,0,none⟩) sa.length c0)) (b:=(.slice (some ⟨g1,0,none⟩) da.length c1)) (by simp)
 obtain ⟨q0,q1,q2⟩:=D6.out.cells (X:=w.heap.size) (a:=.slice none 0 0) (b:=.slice none 0 0) (by simp)
 obtain ⟨t0,t1,t2⟩:=D6.out.cells (X:=w.heap.size+1) (a:=.slice none 0 0) (b:=.slice none 0 0) (by simp)
 clear D5
 go_region_with (go_at_call 25; refine (l1DrawAny_any _ P _ D6.out.g.size D6.out.r).mono ?_; rintro e w7 ⟨v2,v3,sb,db,rfl,l2,l3,ds⟩; have D7:=hideP (D6.out.drawn ds); have LB:=hideP (And.intro l2 l3); obtain ⟨g2,c2,e2,_,_⟩:=ds.o0.form; obtain ⟨g3,c3,e3,_,_⟩:=ds.o1.form; subst e2 e3; have TK:=D7.out.cells (X:=A) (a:=(.slice (some ⟨g0,0,none⟩) sa.length c0)) (b:=(.slice (some ⟨g1,0,none⟩) da.length c1)) (by simp); have u0:=TK.1; have u1:=TK.2.1; clear TK ds p0 p1 p2 q0 q1 q2 t0 t1 t2; obtain ⟨q0,q1,q2⟩:=D7.out.cells (X:=w.heap.size) (a:=.slice none 0 0) (b:=.slice none 0 0) (by simp); obtain ⟨t0,t1,t2⟩:=D7.out.cells (X:=w.heap.size+1) (a:=.slice none 0 0) (b:=.slice none 0 0) (by simp))
 all_goals
  go_wp2_with fail
  exact bodyPost_ret (v:=.tuple #[.int .i64 x,.agg #[.slice (some ⟨g0,0,none⟩) sa.length c0,.slice (some ⟨g1,0,none⟩) da.length c1],.agg #[.slice (some ⟨g2,0,none⟩) sb.length c2,.slice (some ⟨g3,0,none⟩) db.length c3]]) (by simp [results,Tryz.results17,go_sem,q0,q1,t0,t1]) rfl ((D7.out.two (X:=w.heap.size) (a:=.slice none 0 0) (b:=.slice none 0 0) (a':=.slice none 0 0) (b':=.slice none 0 0) (by simp) (by simp) _ _ _ _).d2 LA.out LB.out (by simp) (by simp) (by simp) (by simp) _)
theorem Dv.cell {B P g n cap:Nat} {w0 w:World} {L:List (Value × List Int)} {M:List (Nat × Value × Value)} {da:List Int} (h:Dv B P w0 ((.slice (some ⟨g,0,none⟩) n cap,da)::L) M w) (hn:da.length=n) (hL:∀x∈L,¬x.1.ownBlock=some g) (q:Nat) (z:Int):Dv B P w0 ((.slice (some ⟨g,0,none⟩) n cap,da.set q z)::L) M (w.setCell ⟨g,q,none⟩ (.int .i64 z)):=by
 subst hn
 have hg:=grown_set w g q (.int .i64 z)
 have hr:Row w0.heap.size w (.slice (some ⟨g,0,none⟩) da.length cap) da:=h.rows _ (List.mem_cons_self)
 obtain ⟨c,hc⟩:=h.r.blk
 have hb:=(hr.1.lt g rfl).1
 have hB:=h.b
 refine ⟨h.r.kept hg (fun k hk=>?_),grown_trans h.g hg (fun i e=>.inr (by injection e with e; omega)),h.b,fun x hx=>?_,fun m hm=>⟨(h.vars m hm).1,(hg.block _ (Array.getElem?_eq_some_iff.1 (h.vars m hm).2).1 (fun e=>own_blk_ne hr.1 (h.vars m hm).2 (by decide) e.symm)).trans (h.vars m hm).2⟩⟩
 ·injection hk with hk
  subst hk
  exact ⟨by omega,fun e=>own_blk_ne hr.1 hc (by decide) (by rw [<- e]; rfl)⟩
 rcases List.mem_cons.1 hx with rfl | hx
 ·exact ⟨by have:=(hr.1.stored q (.int .i64 z)).1; rw [List.length_set,List.map_set]; exact this,hr.2⟩
 exact ⟨(h.rows x (List.mem_cons_of_mem _ hx)).1.kept hg (.inr (hL x hx)),(h.rows x (List.mem_cons_of_mem _ hx)).2⟩
theorem Dv.one {B P X:Nat} {w0 w:World} {L:List (Value × List Int)} {M:List (Nat × Value × Value)} {a b:Value} (h:Dv B P w0 L M w) (h0:(X,a,b)∈M) (u0 u1:Value):Dv B P w0 L [] ((w.setCell ⟨X,0,none⟩ u0).setCell ⟨X,1,none⟩ u1):=by
 have x0:=h.vars _ h0
 have e:Dv B P w0 L [] w:=h.sub (fun _ h=>h) (fun _ h=>by simp at h)
 have n:∀m∈([]:List (Nat × Value × Value)),∀Y,¬m.1=Y:=fun _ h=>by simp at h
 exact (e.set x0.1 x0.2 (fun m hm=>n m hm _) 0 u0).set x0.1 (heap_setCell_same w X 0 #[a,b] 25 u0 x0.2) (fun m hm=>n m hm _) 1 u1
theorem draw4_any (ao:Option Addr) (n cap:Nat) (w:World) (hn:n<=1048576) (hcap:n<=cap) (hm:cap<=9223372036854775807) (h:RdB w.heap.size w ao n):Calls Tryz.prog 4 #[.slice ao n cap] w (D1Post w):=by
 have KO:=hideP (open1 ao n cap w hn hcap hm h)
 obtain ⟨P,hP⟩:∃P,P=w.heap.size+1:=⟨_,rfl⟩
 rw [<- hP] at KO
 clear h hP
 go_enter Tryz.func4,Tryz.ntmps4
 go_wp2_with fail
 refine KO.out.mono ?_
 rintro e w1 ⟨rfl,d1⟩
 have D1:=hideP d1
 clear KO d1
 have KN:=hideP (next_any _ P w1 D1.out.r)
 go_wp2_with fail
 refine KN.out.mono ?_
 rintro e xw ⟨x,rfl,hx,hr,hg⟩
 have D2:=hideP (D1.out.step hr hg)
 clear hr hg KN D1
 have KD:=hideP (l1DrawAny_any _ P xw D2.out.g.size D2.out.r)
 go_wp2_with fail
 refine KD.out.mono ?_
 rintro e w4 ⟨v0,v1,sa,da,rfl,l0,l1,ds⟩
 obtain ⟨g0,c0,e0,_,_⟩:=ds.o0.form
 obtain ⟨g1,c1,e1,_,_⟩:=ds.o1.form
 subst e0 e1
 have LA:=hideP (And.intro l0 l1)
 have NE:=hideP ds.ne
 have D4:=hideP (D2.out.drawn ds)
 have D5:=hideP (D4.out.alloc (.slice (some ⟨g0,0,none⟩) sa.length c0) (.slice (some ⟨g1,0,none⟩) da.length c1))
 have hA:w.heap.size<w4.heap.size:=(Array.getElem?_eq_some_iff.1 (D4.out.vars (w.heap.size,.slice none 0 0,.slice none 0 0) (by simp)).2).1
 clear ds l0 l1 KD D2 D4
 go_upto_if 16 with fail
 generalize hw5:w4.alloc (.cells #[.slice (some ⟨g0,0,none⟩) sa.length c0,.slice (some ⟨g1,0,none⟩) da.length c1] 25)=w5 at D5 ⊢
 generalize w4.heap.size=A at D5 hA ⊢
 clear hw5
 replace D5:=hideP (D5.out.sub (L':=[(.slice (some ⟨g1,0,none⟩) da.length c1,da),(.slice (some ⟨g0,0,none⟩) sa.length c0,sa)]) (fun x hx=>by simp only [List.mem_cons,List.not_mem_nil,or_false] at hx ⊢; rcases hx with rfl | rfl <;> simp) (fun _ h=>h))
 have NG:Hid (∀y∈[((.slice (some ⟨g0,0,none⟩) sa.length c0:Value),sa)],¬y.1.ownBlock=some g1):=fun y hy=>by
  simp only [List.mem_cons,List.not_mem_nil,or_false] at hy
  subst hy
  exact NE.out
 have HN:Hid (da.length<=1001):=LA.out.2
 have HS:Hid (sa.length<=4):=LA.out.1
 generalize hn1:da.length=n1 at *
 replace hn1:=hideP hn1
 clear LA NE
 go_cut [] (fun wx=>∃zs:List Int,Hid (zs.length=n1)/\Hid (Dv w.heap.size P w [(.slice (some ⟨g1,0,none⟩) n1 c1,zs),(.slice (some ⟨g0,0,none⟩) sa.length c0,sa)] [(A,.slice (some ⟨g0,0,none⟩) sa.length c0,.slice (some ⟨g1,0,none⟩) n1 c1),(w.heap.size,.slice none 0 0,.slice none 0 0)] wx))
 case rest =>
  obtain ⟨zs,HZ,D6⟩:=hcut
  rename World=>w6
  have LZ:Hid (sa.length<=4/\zs.length<=1001):=⟨HS.out,by rw [HZ.out]; exact HN.out⟩
  clear D5 hn1 NG HN
  obtain ⟨p0,p1,p2⟩:=D6.out.cells (X:=A) (a:=(.slice (some ⟨g0,0,none⟩) sa.length c0)) (b:=.slice (some ⟨g1,0,none⟩) n1 c1) (by simp)
  obtain ⟨q0,q1,q2⟩:=D6.out.cells (X:=w.heap.size) (a:=.slice none 0 0) (b:=.slice none 0 0) (by simp)
  by_cases h248:(248:Int)<=(x:Int)
  ·go_wp2_with fail
   go_region
   all_goals
    go_wp2_with fail
    exact bodyPost_ret (v:=.tuple #[.int .i64 ((x:Int) % 2 * 5),.agg #[.slice (some ⟨g0,0,none⟩) sa.length c0,.slice (some ⟨g1,0,none⟩) n1 c1]]) (by simp [results,Tryz.results4,go_sem,q0,q1]) rfl (((D6.out.one (X:=w.heap.size) (a:=.slice none 0 0) (b:=.slice none 0 0) (by simp) _ _).keep (Below.refl _ _).drew).d1 LZ.out (by simp) (by simp) _)
  go_wp2_with fail
  go_region
  all_goals
   go_wp2_with fail
   exact bodyPost_ret (v:=.tuple #[.int .i64 (1+(x:Int) % 4),.agg #[.slice (some ⟨g0,0,none⟩) sa.length c0,.slice (some ⟨g1,0,none⟩) n1 c1]]) (by simp [results,Tryz.results4,go_sem,q0,q1]) rfl (((D6.out.one (X:=w.heap.size) (a:=.slice none 0 0) (b:=.slice none 0 0) (by simp) _ _).keep (Below.refl _ _).drew).d1 LZ.out (by simp) (by simp) _)
 by_cases h4:(x:Int) % 8=4
 rotate_left 1
 ·go_wp2_with fail
  go_meet
  exact ⟨da,hn1,D5⟩
 go_wp2_with fail
 go_loopw [7] (fun i wr=>∃(j:Nat) (zs:List Int),j<=n1/\i=.int .i64 (j:Int)/\Hid (zs.length=n1)/\Hid (Dv w.heap.size P w [(.slice (some ⟨g1,0,none⟩) n1 c1,zs),(.slice (some ⟨g0,0,none⟩) sa.length c0,sa)] [(A,.slice (some ⟨g0,0,none⟩) sa.length c0,.slice (some ⟨g1,0,none⟩) n1 c1),(w.heap.size,.slice none 0 0,.slice none 0 0)] wr)) (fun i _=>n1-(intOf i).toNat)
 case atStart=>exact ⟨0,da,Nat.zero_le _,rfl,hn1,D5⟩
 clear D5 hn1
 obtain ⟨j,zs,hj,rfl,HZ,DR⟩:=hrel
 have hn':=HN.out
 obtain ⟨p0,p1,p2⟩:=DR.out.cells (X:=A) (a:=(.slice (some ⟨g0,0,none⟩) sa.length c0)) (b:=.slice (some ⟨g1,0,none⟩) n1 c1) (by simp)
 by_cases hlt:j<n1
 rotate_left 1
 ·have hlt':¬(j:Int)<(n1:Int):=by omega
  go_wp2_with fail
  go_meet
  exact ⟨zs,HZ,DR⟩
 have hlt':(j:Int)<(n1:Int):=by omega
 have RR:Row w.heap.size wr (.slice (some ⟨g1,0,none⟩) n1 c1) zs:=DR.out.rows (_,zs) (by simp)
 rw [<- HZ.out] at RR
 have hcc:wr.cell? ⟨g1,j,none⟩=some (.int .i64 (zs.getD j 0)):=by
  have:=(rd_cell RR.own.rd (i:=j) (by rw [HZ.out]; exact hlt)).2
  rw [Nat.zero_add] at this
  exact this
 have hfz:=RR.1.frozenAt j
 have DC:=hideP (fun z=>(DR.out.cell HZ.out NG.out j z).keep (show Below _ _ (World.drew _) from (Below.refl _ _).drew))
 have HL:Hid (∀z,(zs.set j z).length=n1):=fun z=>by rw [List.length_set]; exact HZ.out
 generalize zs.getD j 0=y at hcc
 clear RR DR HZ
 go_wp2_with fail
 go_region
 all_goals
  go_wp2_with fail
  go_round
  case rel=>exact ⟨j+1,_,by omega,rfl,HL.out _,DC.out _⟩
  simp [intOf]; omega
theorem Pl.fits1 (z:Nat) (h:z<=1000):Pl.fitsB [(z:Int)]=true:=by
 have e:Pl.prodC [(z:Int)]=z:=by
  show Pl.stepC 1 (z:Int)=z
  unfold Pl.stepC
  rw [if_neg (by omega)]
  omega
 unfold Pl.fitsB Pl.baseB
 rw [e]
 simp [Pl.inR]
 omega
theorem Dv.fill {B P X:Nat} {w0 w:World} {L:List (Value × List Int)} {N:List (Nat × Value × Value)} {a b u:Value} {zs:List Int} (h:Dv B P w0 L ((X,a,b)::N) w) (hN:∀m∈N,¬m.1=X) (hu:Row w0.heap.size w u zs) (hf:Pl.fitsB zs=true) :
  Calls Tryz.prog 43 #[.pointer (some ⟨P,0,none⟩),u] w fun e w'=>∃(g1 c1:Nat) (da:List Int),e=.returned (.agg #[u,.slice (some ⟨g1,0,none⟩) da.length c1])/\(da.length:Int)=Pl.prodC zs/\(zs.length<=4/\da.length<=1001)/\(∀y∈(u,zs)::L,¬y.1.ownBlock=some g1)/\Dv B P w0 ((.slice (some ⟨g1,0,none⟩) da.length c1,da)::(u,zs)::L) ((X,a,b)::N) w'/\Dv B P w0 ((.slice (some ⟨g1,0,none⟩) da.length c1,da)::(u,zs)::L) ((X,u,.slice (some ⟨g1,0,none⟩) da.length c1)::N) ((w'.setCell ⟨X,0,none⟩ u).setCell ⟨X,1,none⟩ (.slice (some ⟨g1,0,none⟩) da.length c1)):=by
 refine (l1Fill_any B P u zs w h.r hf (fun w' hg=>(hu.step h.r hg).own.rd)).mono ?_
 rintro e w' ⟨va,da,rfl,hdl,hdr,ho,hk,hr,hg⟩
 have R:Row w0.heap.size w' va da:=⟨owns_base ho h.g.size,hk⟩
 obtain ⟨g1,c1,e1,_,_⟩:=R.form
 subst e1
 have hne:∀y∈(u,zs)::L,¬y.1.ownBlock=some g1:=fun y hy e=>by
  have h2:=(ho.lt g1 rfl).1
  rcases List.mem_cons.1 hy with rfl | hy
  ·have h1:=(hu.1.lt g1 e).2
   omega
  have h1:=((h.rows y hy).1.lt g1 e).2
  omega
 have m:=Pl.ok_max (ok_of hf hdl hdr)
 have d:=((h.step hr hg).row (hu.step h.r hg)).row R
 exact ⟨g1,c1,da,rfl,hdl,⟨by omega,by omega⟩,hne,d,Dv.put (M:=[]) d (by simpa using hN) _ _⟩
theorem draw11_any (ao:Option Addr) (n cap:Nat) (w:World) (hn:n<=1048576) (hcap:n<=cap) (hm:cap<=9223372036854775807) (h:RdB w.heap.size w ao n):Calls Tryz.prog 11 #[.slice ao n cap] w (D1Post w):=by
 have KO:=hideP (open1 ao n cap w hn hcap hm h)
 obtain ⟨P,hP⟩:∃P,P=w.heap.size+1:=⟨_,rfl⟩
 rw [<- hP] at KO
 clear h hP
 go_enter Tryz.func11,Tryz.ntmps11
 go_wp2_with fail
 refine KO.out.mono ?_
 rintro e w1 ⟨rfl,d1⟩
 have D1:=hideP d1
 clear KO d1
 have KN:=hideP (next_any _ P w1 D1.out.r)
 go_wp2_with fail
 refine KN.out.mono ?_
 rintro e xw ⟨x,rfl,hx,hr,hg⟩
 have D2:=hideP (D1.out.step hr hg)
 clear hr hg KN D1
 have KD:=hideP (l1DrawAny_any _ P xw D2.out.g.size D2.out.r)
 go_wp2_with fail
 refine KD.out.mono ?_
 rintro e w4 ⟨v0,v1,sa,da,rfl,l0,l1,ds⟩
 obtain ⟨g0,c0,e0,_,_⟩:=ds.o0.form
 obtain ⟨g1,c1,e1,_,_⟩:=ds.o1.form
 subst e0 e1
 have LA:=hideP (And.intro l0 l1)
 have NE:=hideP ds.ne
 have D4:=hideP (D2.out.drawn ds)
 have D5:=hideP (D4.out.alloc (.slice (some ⟨g0,0,none⟩) sa.length c0) (.slice (some ⟨g1,0,none⟩) da.length c1))
 have hA:w.heap.size<w4.heap.size:=(Array.getElem?_eq_some_iff.1 (D4.out.vars (w.heap.size,.slice none 0 0,.slice none 0 0) (by simp)).2).1
 clear ds l0 l1 KD D2 D4 NE
 go_upto_region 4 with fail
 generalize hw5:w4.alloc (.cells #[.slice (some ⟨g0,0,none⟩) sa.length c0,.slice (some ⟨g1,0,none⟩) da.length c1] 25)=w5 at D5 ⊢
 generalize w4.heap.size=A at D5 hA ⊢
 clear hw5
 obtain ⟨r9,hr9⟩:∃r9:Nat,(x:Int) % 9=(r9:Int):=⟨x % 9,by omega⟩
 have h9:r9<=8:=by omega
 have HX:Hid (∀m∈[((w.heap.size,.slice none 0 0,.slice none 0 0):Nat × Value × Value)],¬m.1=A):=fun m hm=>by
  simp only [List.mem_cons,List.not_mem_nil,or_false] at hm
  subst hm
  show ¬w.heap.size=A
  omega
 go_cut [20] (fun s wx=>s=.bool (decide ((x:Int) % 7=0/\(x:Int) % 2=1))/\wx=w5)
 case first =>
  by_cases ha:(x:Int) % 7=0
  ·by_cases hb:(x:Int) % 2=1
   all_goals
    go_wp2_with fail
    go_meet
    exact ⟨by simp [ha,hb],rfl⟩
  go_wp2_with fail
  go_meet
  exact ⟨by simp [ha],rfl⟩
 obtain ⟨rfl,rfl⟩:=hcut
 rename World=>w5
 go_upto_if 20 with fail
 go_cut [] (fun wx=>∃(g0 c0 g1 c1:Nat) (sa da:List Int),Hid (sa.length<=4/\da.length<=1001)/\Hid (Dv w.heap.size P w [(.slice (some ⟨g0,0,none⟩) sa.length c0,sa),(.slice (some ⟨g1,0,none⟩) da.length c1,da)] [(A,.slice (some ⟨g0,0,none⟩) sa.length c0,.slice (some ⟨g1,0,none⟩) da.length c1),(w.heap.size,.slice none 0 0,.slice none 0 0)] wx))
 case first =>
  by_cases ha:((x:Int) % 7=0/\(x:Int) % 2=1)
  ·rw [decide_eq_true ha]
   have DA:=hideP (D5.out.keep (w':=w5.alloc (.cells #[] 3)) ((Below.refl _ _).alloc (Nat.le_refl _) _))
   have DA0:=D5.out
   have KF:=hideP (DA.out.fill (u:=.slice (some ⟨w5.heap.size,0,none⟩) 0 0) (zs:=[]) HX.out ⟨owns_empty w5 _ DA0.g.size,⟨_,rfl⟩⟩ (by decide))
   clear D5 DA
   go_wp2_with fail
   refine KF.out.mono ?_
   rintro e w6 ⟨g2,c2,db,rfl,_,ll,_,d6,d7⟩
   have D7:=hideP d7
   have LB:=hideP ll
   obtain ⟨p0,p1,p2⟩:=d6.cells (X:=A) (a:=(.slice (some ⟨g0,0,none⟩) sa.length c0)) (b:=(.slice (some ⟨g1,0,none⟩) da.length c1)) (by simp)
   clear d6 d7 ll KF
   go_wp2_with fail
   go_meet
   exact ⟨w5.heap.size,0,g2,c2,[],db,LB,D7.out.sub (fun x hx=>by simp only [List.mem_cons,List.not_mem_nil,or_false] at hx ⊢; rcases hx with rfl | rfl <;> simp) (fun _ h=>h)⟩
  rw [decide_eq_false ha]
  go_wp2_with fail
  go_meet
  exact ⟨g0,c0,g1,c1,sa,da,LA,D5⟩
 obtain ⟨g0,c0,g1,c1,sa,da,LA,D5⟩:=hcut
 rename World=>w5
 go_upto_region 6 with fail
 go_cut [31] (fun s wx=>s=.bool (decide ((x:Int) % 7=5/\(x:Int) % 2=1))/\wx=w5)
 case first =>
  by_cases ha:(x:Int) % 7=5
  ·by_cases hb:(x:Int) % 2=1
   all_goals
    go_wp2_with fail
    go_meet
    exact ⟨by simp [ha,hb],rfl⟩
  go_wp2_with fail
  go_meet
  exact ⟨by simp [ha],rfl⟩
 obtain ⟨rfl,rfl⟩:=hcut
 rename World=>w5
 go_upto_if 31 with fail
 go_cut [] (fun wx=>∃(g0 c0 g1 c1:Nat) (sa da:List Int),Hid (sa.length<=4/\da.length<=1001)/\Hid (Dv w.heap.size P w [(.slice (some ⟨g0,0,none⟩) sa.length c0,sa),(.slice (some ⟨g1,0,none⟩) da.length c1,da)] [(A,.slice (some ⟨g0,0,none⟩) sa.length c0,.slice (some ⟨g1,0,none⟩) da.length c1),(w.heap.size,.slice none 0 0,.slice none 0 0)] wx))
 case first =>
  by_cases ha:((x:Int) % 7=5/\(x:Int) % 2=1)
  ·rw [decide_eq_true ha]
   have DA:=hideP (D5.out.keep (w':=w5.alloc (.cells #[.int .i64 (r9:Int)] 3)) ((Below.refl _ _).alloc (Nat.le_refl _) _))
   have DA0:=D5.out
   have KF:=hideP (DA.out.fill (u:=.slice (some ⟨w5.heap.size,0,none⟩) 1 1) (zs:=[(r9:Int)]) HX.out ⟨owns_one w5 _ _ DA0.g.size,⟨_,rfl⟩⟩ (Pl.fits1 r9 (by omega)))
   clear D5 DA
   go_wp2_with fail
   refine KF.out.mono ?_
   rintro e w6 ⟨g2,c2,db,rfl,_,ll,_,d6,d7⟩
   have D7:=hideP d7
   have LB:=hideP ll
   obtain ⟨p0,p1,p2⟩:=d6.cells (X:=A) (a:=(.slice (some ⟨g0,0,none⟩) sa.length c0)) (b:=(.slice (some ⟨g1,0,none⟩) da.length c1)) (by simp)
   clear d6 d7 ll KF
   go_wp2_with fail
   go_meet
   exact ⟨w5.heap.size,1,g2,c2,[(r9:Int)],db,LB,D7.out.sub (fun x hx=>by simp only [List.mem_cons,List.not_mem_nil,or_false] at hx ⊢; rcases hx with rfl | rfl <;> simp) (fun _ h=>h)⟩
  rw [decide_eq_false ha]
  go_wp2_with fail
  go_meet
  exact ⟨g0,c0,g1,c1,sa,da,LA,D5⟩
 obtain ⟨g0,c0,g1,c1,sa,da,LA,D5⟩:=hcut
 rename World=>w5
 obtain ⟨p0,p1,p2⟩:=D5.out.cells (X:=A) (a:=(.slice (some ⟨g0,0,none⟩) sa.length c0)) (b:=(.slice (some ⟨g1,0,none⟩) da.length c1)) (by simp)
 obtain ⟨q0,q1,q2⟩:=D5.out.cells (X:=w.heap.size) (a:=.slice none 0 0) (b:=.slice none 0 0) (by simp)
 by_cases h255:(x:Int)=255
 ·have KN:=hideP (next_any _ P w5 D5.out.r)
  go_wp2_with fail
  refine KN.out.mono ?_
  rintro e w6 ⟨y,rfl,hy,hr,hg⟩
  obtain ⟨s,hs⟩:∃s:Nat,(y:Int) % 2=(s:Int):=⟨y % 2,by omega⟩
  have hwr:IntKind.i64.wrap (1000+(s:Int))=1000+(s:Int):=by rw [IntKind.wrap_i64]; omega
  have D6:=(D5.out.step hr hg).keep (w':=w6.alloc (.cells #[.int .i64 (1000+(s:Int))] 3)) ((Below.refl _ _).alloc (Nat.le_refl _) _)
  have D7:=hideP (D6.row (v:=.slice (some ⟨w6.heap.size,0,none⟩) 1 1) (zs:=[1000+(s:Int)]) ⟨owns_one w6 _ _ (D5.out.step hr hg).g.size,⟨_,rfl⟩⟩)
  clear D6 hr hg KN q0 q1 q2 p0 p1 p2 D5
  obtain ⟨q0,q1,q2⟩:=D7.out.cells (X:=w.heap.size) (a:=.slice none 0 0) (b:=.slice none 0 0) (by simp)
  have D8:=hideP (fun u0 u1=>D7.out.one (X:=w.heap.size) (a:=.slice none 0 0) (b:=.slice none 0 0) (by simp) u0 u1)
  clear D7
  go_wp2_with fail
  exact bodyPost_ret (v:=.tuple #[.int .i64 1,.agg #[.slice none 0 0,.slice (some ⟨w6.heap.size,0,none⟩) 1 1]]) (by simp [results,Tryz.results11,go_sem,q0,q1]) rfl ⟨1,_,_,[],[1000+(s:Int)],rfl,⟨by simp,by simp⟩,⟨⟨sl_nil _,.inl rfl⟩,((D8.out _ _).rows (.slice (some ⟨w6.heap.size,0,none⟩) 1 1,[1000+(s:Int)]) (by simp)).sg⟩,(D8.out _ _).below⟩
 have h255':¬x=255:=by omega
 by_cases h250:(250:Int)<=(x:Int)
 ·go_wp2_with fail
  go_region
  all_goals
   go_wp2_with fail
   exact bodyPost_ret (v:=.tuple #[.int .i64 ((x:Int) % 2 * 8),.agg #[.slice (some ⟨g0,0,none⟩) sa.length c0,.slice (some ⟨g1,0,none⟩) da.length c1]]) (by simp [results,Tryz.results11,go_sem,q0,q1]) rfl (((D5.out.one (X:=w.heap.size) (a:=.slice none 0 0) (b:=.slice none 0 0) (by simp) _ _).keep (Below.refl _ _).drew).d1 LA.out (by simp) (by simp) _)
 go_wp2_with fail
 go_region
 all_goals
  go_wp2_with fail
  exact bodyPost_ret (v:=.tuple #[.int .i64 (1+(x:Int) % 7),.agg #[.slice (some ⟨g0,0,none⟩) sa.length c0,.slice (some ⟨g1,0,none⟩) da.length c1]]) (by simp [results,Tryz.results11,go_sem,q0,q1]) rfl (((D5.out.one (X:=w.heap.size) (a:=.slice none 0 0) (b:=.slice none 0 0) (by simp) _ _).keep (Below.refl _ _).drew).d1 LA.out (by simp) (by simp) _)
end Go.Proofs.YtacapaiadggemaaGreat
