import Derived.Test.YtacapaiadggemaaGreatDyP
import Derived.Test.YtacapaiadggemaaGreatDa2
namespace Go.Proofs.YtacapaiadggemaaGreat
open Go.RowKit
set_option maxRecDepth 100000
set_option maxHeartbeats 16000000
set_option linter.unusedVariables false
theorem l2Axes_both (v0 v1:Value) (sh da:List Int) (w:World) (hl:da.length<=1048576) (h0:Sl w v0 sh) (h1:Sl w v1 da) :
  Calls Tryz.prog 112 #[.agg #[v0,v1]] w fun e w'=>∃u0 u1,e=.returned (.agg #[u0,u1])/\Sl w' u0 (Pl.axesS sh da)/\Sl w' u1 da/\Below w.heap.size w w'/\(Sg w v1 da->Sg w' u1 da):=by
 have H0:=hideP h0
 have H1:=hideP h1
 obtain ⟨a0,k0,e0,_⟩:=h0
 obtain ⟨a1,k1,e1,_⟩:=h1
 subst e0 e1
 have PB:Hid (∀W,Below (w.heap.size+1+1) ((w.alloc (.cells #[.slice a0 sh.length k0,.slice a1 da.length k1] 25)).alloc (.cells #[.slice none 0 0,.slice none 0 0] 25)) W->(W.cell? ⟨w.heap.size,0,none⟩=some (.slice a0 sh.length k0)/\W.cell? ⟨w.heap.size,1,none⟩=some (.slice a1 da.length k1))/\(W.cell? ⟨w.heap.size+1,0,none⟩=some (.slice none 0 0)/\W.cell? ⟨w.heap.size+1,1,none⟩=some (.slice none 0 0)/\∀o,W.frozen? ⟨w.heap.size+1,o,none⟩=false)/\Below w.heap.size w W):=fun W hb=>boxes2 hb
 have B:Hid (∀o o',Below w.heap.size w ((w.alloc o).alloc o')):=fun o o'=>((Below.refl _ _).alloc (Nat.le_refl _) _).alloc (by simp) _
 unfold Pl.axesS
 by_cases hsl:sh.length=0
 rotate_left 1
 ·rw [if_neg hsl]
  have test:((sh.length:Int) == 0)=false:=by rw [beq_eq_false_iff_ne]; omega
  clear hsl
  go_enter Tryz.func112,Tryz.ntmps112
  go_wp2_with fail
  exact bodyPost_ret (v:=.agg #[.slice a0 sh.length k0,.slice a1 da.length k1]) (by simp [results,Tryz.results112,go_sem]) rfl ⟨_,_,rfl,H0.out.keep (B.out _ _),H1.out.keep (B.out _ _),B.out _ _,fun h=>h.keep (B.out _ _)⟩
 rw [if_pos hsl]
 have test:((sh.length:Int) == 0)=true:=by rw [hsl]; rfl
 have KV:Hid (∀w',Below w.heap.size w w'->Calls Tryz.prog 45 #[.slice a1 da.length k1] w' fun e w''=>∃g0 g1 cap,e=.returned (.agg #[.slice (some ⟨g0,0,none⟩) 1 1,.slice (some ⟨g1,0,none⟩) da.length cap])/\da.length<=cap/\cap<=9223372036854775807/\Res w'.heap.size w'' (.slice (some ⟨g0,0,none⟩) 1 1) (.slice (some ⟨g1,0,none⟩) da.length cap) [(da.length:Int)] da/\Below w'.heap.size w' w''):=fun w' hb=>l2Vector_any _ da w' hl (H1.out.keep hb).rd
 clear hsl H0
 generalize sh.length=L at *
 go_enter Tryz.func112,Tryz.ntmps112
 go_wp2_with fail
 refine (KV.out _ (B.out _ _)).mono ?_
 rintro e w2 ⟨g0,g1,cap,rfl,hc0,hc1,res,hb2⟩
 have X2:=hideP (PB.out _ (show Below (w.heap.size+1+1) _ w2 from hb2.mono (by simp)))
 have R2:=hideP res
 clear res hb2
 have r0:=X2.out.2.1.1
 have r1:=X2.out.2.1.2.1
 have f2:=X2.out.2.1.2.2
 have BW:Hid (∀x y,Below w.heap.size w ((w2.setCell ⟨w.heap.size+1,0,none⟩ x).setCell ⟨w.heap.size+1,1,none⟩ y)):=fun x y=>(X2.out.2.2.setCell (by simp) _).setCell (by simp) _
 go_wp2_with fail
 exact bodyPost_ret (v:=.agg #[.slice (some ⟨g0,0,none⟩) 1 1,.slice (some ⟨g1,0,none⟩) da.length cap]) (by simp [results,Tryz.results112,go_sem,r0,r1]) rfl ⟨_,_,rfl,Sl.of_own (Own.store (Own.store R2.out.1 (by simp) _) (by simp) _) rfl (Nat.le_refl _) (by omega),Sl.of_own (Own.store (Own.store R2.out.2.1 (by simp) _) (by simp) _) rfl hc0 hc1,BW.out _ _,fun _=>⟨g1,cap,rfl,hc0,hc1,(Own.store (Own.store R2.out.2.1 (by simp) _) (by simp) _).rd⟩⟩
theorem l2Axes_gen (v0 v1:Value) (sh da:List Int) (w:World) (hl:da.length<=1048576) (h0:Sl w v0 sh) (h1:Sl w v1 da) :
  Calls Tryz.prog 112 #[.agg #[v0,v1]] w fun e w'=>∃u0 u1,e=.returned (.agg #[u0,u1])/\Sl w' u0 (Pl.axesS sh da)/\Sl w' u1 da/\Below w.heap.size w w':=by
 refine (l2Axes_both v0 v1 sh da w hl h0 h1).mono ?_
 rintro e w' ⟨u0,u1,h,h1,h2,h3,_⟩
 exact ⟨u0,u1,h,h1,h2,h3⟩
structure Cz (w:World) (xs da ys db:List Int) (u0 u1 u2 u3:Value) (wx:World):Prop where
 bel:Below w.heap.size w wx
 size:w.heap.size+1+1<wx.heap.size
 a0:wx.cell? ⟨w.heap.size,0,none⟩=some u0
 a1:wx.cell? ⟨w.heap.size,1,none⟩=some u1
 b0:wx.cell? ⟨w.heap.size+1,0,none⟩=some u2
 b1:wx.cell? ⟨w.heap.size+1,1,none⟩=some u3
 res:wx.cell? ⟨w.heap.size+1+1,0,none⟩=some (.slice none 0 0)/\wx.cell? ⟨w.heap.size+1+1,1,none⟩=some (.slice none 0 0)/\∀o,wx.frozen? ⟨w.heap.size+1+1,o,none⟩=false
 fa:∀o,wx.frozen? ⟨w.heap.size,o,none⟩=false
 fb:∀o,wx.frozen? ⟨w.heap.size+1,o,none⟩=false
 xa:Sl wx u0 xs
 xd:Sl wx u1 da
 xb:Sl wx u2 ys
 xe:Sl wx u3 db
theorem Cz.keep {w wx w':World} {xs da ys db:List Int} {u0 u1 u2 u3:Value} (h:Cz w xs da ys db u0 u1 u2 u3 wx) (hb:Below wx.heap.size wx w'):Cz w xs da ys db u0 u1 u2 u3 w':=by
 have hs:=hb.size
 have h2:=h.size
 have k:∀b o v,b<wx.heap.size->wx.cell? ⟨b,o,none⟩=some v->w'.cell? ⟨b,o,none⟩=some v:=fun b o v hlt e=>(hb.cell (p:=⟨b,o,none⟩) hlt).trans e
 have f:∀b o,b<wx.heap.size->wx.frozen? ⟨b,o,none⟩=false->w'.frozen? ⟨b,o,none⟩=false:=fun b o hlt e=>(hb.frozen (p:=⟨b,o,none⟩) hlt).trans e
 exact ⟨h.bel.trans (hb.mono (by omega)),by omega,k _ _ _ (by omega) h.a0,k _ _ _ (by omega) h.a1,k _ _ _ (by omega) h.b0,k _ _ _ (by omega) h.b1,⟨k _ _ _ (by omega) h.res.1,k _ _ _ (by omega) h.res.2.1,fun o=>f _ _ (by omega) (h.res.2.2 o)⟩,fun o=>f _ _ (by omega) (h.fa o),fun o=>f _ _ (by omega) (h.fb o),h.xa.keep hb,h.xd.keep hb,h.xb.keep hb,h.xe.keep hb⟩
theorem Cz.putA {w wx:World} {xs da ys db:List Int} {u0 u1 u2 u3:Value} (h:Cz w xs da ys db u0 u1 u2 u3 wx) {xs' da':List Int} {t0 t1:Value} (hx:Sl wx t0 xs') (hd:Sl wx t1 da'):Cz w xs' da' ys db t0 t1 u2 u3 ((wx.setCell ⟨w.heap.size,0,none⟩ t0).setCell ⟨w.heap.size,1,none⟩ t1):=by
 have h2:=h.size
 have e0:=h.a0
 have e1:=h.a1
 have e2:=h.b0
 have e3:=h.b1
 obtain ⟨e4,e5,e6⟩:=h.res
 have f1:=h.fa
 have f2:=h.fb
 obtain ⟨a,k,ea,_⟩:=h.xa
 obtain ⟨b,m,eb,_⟩:=id hx
 have st:∀{v:Value} {zs:List Int},Sl wx v zs->Sl ((wx.setCell ⟨w.heap.size,0,none⟩ t0).setCell ⟨w.heap.size,1,none⟩ t1) v zs:=fun s=>(s.aside (h.a0.trans (by rw [ea])) t0).aside (q:=b) (m:=xs'.length) (k:=m) (by rw [eb]; simp [go_sem,h.a0]) t1
 exact ⟨(h.bel.setCell (by simp) _).setCell (by simp) _,by simpa using h2,by simp [go_sem,e0],by simp [go_sem,e1],by simp [go_sem,e2],by simp [go_sem,e3],⟨by simp [go_sem,e4],by simp [go_sem,e5],fun o=>by simp [go_sem,e6]⟩,fun o=>by simp [go_sem,f1],fun o=>by simp [go_sem,f2],st hx,st hd,st h.xb,st h.xe⟩
theorem Cz.putB {w wx:World} {xs da ys db:List Int} {u0 u1 u2 u3:Value} (h:Cz w xs da ys db u0 u1 u2 u3 wx) {xs' da':List Int} {t0 t1:Value} (hx:Sl wx t0 xs') (hd:Sl wx t1 da'):Cz w xs da xs' da' u0 u1 t0 t1 ((wx.setCell ⟨w.heap.size+1,0,none⟩ t0).setCell ⟨w.heap.size+1,1,none⟩ t1):=by
 have h2:=h.size
 have e0:=h.a0
 have e1:=h.a1
 have e2:=h.b0
 have e3:=h.b1
 obtain ⟨e4,e5,e6⟩:=h.res
 have f1:=h.fa
 have f2:=h.fb
 obtain ⟨a,k,ea,_⟩:=h.xb
 obtain ⟨b,m,eb,_⟩:=id hx
 have st:∀{v:Value} {zs:List Int},Sl wx v zs->Sl ((wx.setCell ⟨w.heap.size+1,0,none⟩ t0).setCell ⟨w.heap.size+1,1,none⟩ t1) v zs:=fun s=>(s.aside (h.b0.trans (by rw [ea])) t0).aside (q:=b) (m:=xs'.length) (k:=m) (by rw [eb]; simp [go_sem,h.b0]) t1
 exact ⟨(h.bel.setCell (by simp) _).setCell (by simp) _,by simpa using h2,by simp [go_sem,e0],by simp [go_sem,e1],by simp [go_sem,e2],by simp [go_sem,e3],⟨by simp [go_sem,e4],by simp [go_sem,e5],fun o=>by simp [go_sem,e6]⟩,fun o=>by simp [go_sem,f1],fun o=>by simp [go_sem,f2],st h.xa,st h.xd,st hx,st hd⟩
theorem Cz.new (w:World) (sa da sb db:List Int) (v0 v1 v2 v3:Value) (h0:Sl w v0 sa) (h1:Sl w v1 da) (h2:Sl w v2 sb) (h3:Sl w v3 db):Cz w sa da sb db v0 v1 v2 v3 (((w.alloc (.cells #[v0,v1] 25)).alloc (.cells #[v2,v3] 25)).alloc (.cells #[.slice none 0 0,.slice none 0 0] 25)):=by
 obtain ⟨q1,q2,⟨q3,q4,q5,q6⟩,q7,q8,q9,q10,q11⟩:=wid_new w h0.rd h1.rd h2.rd h3.rd 25 25 25
 have b:=below3 w (.cells #[v0,v1] 25) (.cells #[v2,v3] 25) (.cells #[.slice none 0 0,.slice none 0 0] 25)
 exact ⟨q1,q2,q3,q4,q5,q6,q7,fun o=>by simp [go_sem],fun o=>by simp [go_sem],h0.keep b,h1.keep b,h2.keep b,h3.keep b⟩
theorem SpSt.new {B E P:Nat} {w:World} {v0 v1:Value} {sh da:List Int} (h0:Row E w v0 sh) (h1:Row E w v1 da) (hne:¬v1.ownBlock=v0.ownBlock) (hr:Rdr B P w) (hB:E<=w.heap.size) (hE:B<=E) :
  SpSt B E P w.heap.size w v0 v1 sh da ((w.alloc (.cells #[v0,v1] 25)).alloc (.cells #[.slice none 0 0,.slice none 0 0] 25)):=by
 have A2:Below w.heap.size w ((w.alloc (.cells #[v0,v1] 25)).alloc (.cells #[.slice none 0 0,.slice none 0 0] 25)):=((Below.refl _ _).alloc (Nat.le_refl _) _).alloc (by simp) _
 refine ⟨h0.keep A2,h1.keep A2,hne,hr.keep A2,?_,?_,A2.mono (by omega),hr.lt,by simp; omega,hB,fun b c hc=>(A2.block _ (Array.getElem?_eq_some_iff.1 hc).1).trans hc,Nat.le_refl _,hE,fun b h1 _=>A2.block b (by omega)⟩
 ·rw [Below.heap_alloc _ _ _ (by simp)]; exact heap_alloc_new w _
 have:=heap_alloc_new (w.alloc (.cells #[v0,v1] 25)) (.cells #[.slice none 0 0,.slice none 0 0] 25)
 simpa using this
theorem sp_cells {A:Nat} {w:World} {v0 v1:Value} (h:w.heap[A]? = some (.cells #[v0,v1] 25 (0,0))) (hz:w.heap[A+1]? = some (.cells #[.slice none 0 0,.slice none 0 0] 25 (0,0))) :
  (w.cell? ⟨A,0,none⟩=some v0/\w.cell? ⟨A,1,none⟩=some v1/\∀o,w.frozen? ⟨A,o,none⟩=false)/\w.cell? ⟨A+1,0,none⟩=some (.slice none 0 0)/\w.cell? ⟨A+1,1,none⟩=some (.slice none 0 0)/\∀o,w.frozen? ⟨A+1,o,none⟩=false :=
 ⟨⟨by rw [Lib.cell_of_heap h]; rfl,by rw [Lib.cell_of_heap h]; rfl,fun o=>frozen_blk h⟩,by rw [Lib.cell_of_heap hz]; rfl,by rw [Lib.cell_of_heap hz]; rfl,fun o=>frozen_blk hz⟩
theorem l1Spoil_any (B E P:Nat) (v0 v1:Value) (sh da:List Int) (w:World) (h0:Row E w v0 sh) (h1:Row E w v1 da) (hne:¬v1.ownBlock=v0.ownBlock) (hr:Rdr B P w) (hB:E<=w.heap.size) (hE:B<=E) (hs:sh.length<=3) (hd:da.length<=1000) :
  Calls Tryz.prog 71 #[.pointer (some ⟨P,0,none⟩),.agg #[v0,v1]] w (SpPost B E P w):=by
 have S0:=hideP (SpSt.new h0 h1 hne hr hB hE)
 have KN:=hideP (next_any B P _ S0.out.r)
 obtain ⟨g0,c0,e0,hc0,hc0'⟩:=h0.form
 obtain ⟨g1,c1,e1,hc1,hc1'⟩:=h1.form
 subst e0 e1
 have HS:=hideP hs
 have HD:=hideP hd
 have hA:w.heap.size=w.heap.size:=rfl
 clear h0 h1 hne hr hB hE hs hd hA
 go_enter Tryz.func71,Tryz.ntmps71
 go_wp2_with fail
 refine KN.out.mono ?_
 rintro e w1 ⟨x,rfl,hx,hr,hg⟩
 have S1:=hideP (S0.out.next hg hr)
 clear hr hg KN S0
 obtain ⟨A,hA⟩:∃A,w.heap.size=A:=⟨_,rfl⟩
 rw [hA] at S1 ⊢
 obtain ⟨r,hr⟩:∃r:Nat,(x:Int) % 5=(r:Int):=⟨x % 5,by omega⟩
 have hr5:r=0\/r=1\/r=2\/r=3\/r=4:=by omega
 rcases hr5 with rfl | rfl | rfl | rfl | rfl
 rotate_left 3
 ·have S2:Hid (SpSt B E P A w _ _ sh da (w1.alloc (.cells #[.int .i64 (-1),.int .i64 (x:Int)] 3))):=S1.out.keep ((Below.refl _ _).alloc (Nat.le_refl _) _)
  have RL:Hid (Row E (w1.alloc (.cells #[.int .i64 (-1),.int .i64 (x:Int)] 3)) (.slice (some ⟨w1.heap.size,0,none⟩) 2 2) [-1,(x:Int)]):=⟨World.ownsRow_lit w1 #[.int .i64 (-1),.int .i64 (x:Int)] 2 S1.out.k (by unfold maxLen; omega) rfl,⟨_,rfl⟩⟩
  have S3:=hideP (S2.out.put0 RL.out (by
   intro e
   exact absurd (S1.out.o1.1.lt w1.heap.size e).2 (Nat.lt_irrefl _)))
  obtain ⟨⟨q0,q1,q2⟩,q3,q4,q5⟩:=S2.out.cells
  have L1:Hid ([-1,(x:Int)].length<=4):=by show _<=_; simp
  have L2:Hid (da.length<=1001):=by show _<=_; have:=HD.out; omega
  clear S1 S2 RL
  go_wp2_with fail
  have SD:=S3.out.done L1.out L2.out
  exact bodyPost_ret (v:=.agg #[.slice (some ⟨w1.heap.size,0,none⟩) 2 2,.slice (some ⟨g1,0,none⟩) da.length c1]) (by simp [results,Tryz.results71,go_sem,q3,q4]) rfl SD
 ·have S2:Hid (SpSt B E P A w _ _ sh da (w1.alloc (.cells #[.int .i64 1000] 3))):=S1.out.keep ((Below.refl _ _).alloc (Nat.le_refl _) _)
  have RL:Hid (Row E (w1.alloc (.cells #[.int .i64 1000] 3)) (.slice (some ⟨w1.heap.size,0,none⟩) 1 1) [1000]):=⟨owns_one w1 1000 E S1.out.k,⟨_,rfl⟩⟩
  have KF:=hideP (l1Fill_any B P (.slice (some ⟨w1.heap.size,0,none⟩) 1 1) [1000] _ S2.out.r (by decide) (fun w'' hg=>by obtain ⟨c,hc⟩:=S2.out.r.blk; exact (RL.out.other hc (by decide) hg).own.rd))
  go_wp2_with fail
  refine KF.out.mono ?_
  rintro e w3 ⟨va,db,rfl,hdl,hdr,ho,hk,hr3,hg⟩
  have hdb:db.length=1000:=by
   have e:Pl.prodC [1000]=1000:=by decide
   rw [e] at hdl
   exact_mod_cast hdl
  have hgs:=hg.size
  simp at hgs
  have RL3:Hid (Row E w3 (.slice (some ⟨w1.heap.size,0,none⟩) 1 1) [1000]):=by
   obtain ⟨c,hc⟩:=S2.out.r.blk
   exact RL.out.other hc (by decide) hg
  have S3:=hideP (S2.out.next hg hr3)
  have RD3:Hid (Row E w3 va db):=⟨owns_base ho (by have:=S1.out.k; simp; omega),hk⟩
  have NB:Hid (¬va.ownBlock=some w1.heap.size):=fun e=>by have:=(ho.lt _ e).1; simp at this; omega
  have S4:=hideP (S3.out.put0 RL3.out (fun e=>absurd (S1.out.o1.1.lt w1.heap.size e).2 (Nat.lt_irrefl _)))
  have S5:=hideP (S4.out.put1 (RD3.out.other S3.out.a (by decide) (grown_set w3 A 0 _)) (fun e=>NB.out e))
  have HDB:=hideP hdb
  obtain ⟨dg,dc,ed,hd1,hd2⟩:=RD3.out.form
  subst ed
  obtain ⟨⟨q0,q1,q2⟩,q3,q4,q5⟩:=S3.out.cells
  clear hdl hdr ho hk hr3 hg KF S2 hdb RL RL3 RD3 NB S1
  go_upto_region 11 with fail
  clear S3 S4 q0 q1 q2 q3 q4 q5
  generalize ((w3.setCell ⟨A,0,none⟩ (.slice (some ⟨w1.heap.size,0,none⟩) 1 1)).setCell ⟨A,1,none⟩ (.slice (some ⟨dg,0,none⟩) db.length dc))=w5 at *
  obtain ⟨u,hu⟩:∃u:Nat,(x:Int) / 128=(u:Int):=⟨x / 128,by simp⟩
  have hu1:u=0\/u=1:=by omega
  have hwr:IntKind.i64.wrap (1000+(u:Int))=1000+(u:Int):=by rw [IntKind.wrap_i64]; omega
  have S6:Hid (SpSt B E P A w _ _ [1000] db (w5.alloc (.cells #[.int .i64 (1000+(u:Int))] 3))):=S5.out.keep ((Below.refl _ _).alloc (Nat.le_refl _) _)
  have S7:=hideP (S6.out.put0 (v:=.slice (some ⟨w5.heap.size,0,none⟩) 1 1) (zs:=[1000+(u:Int)]) ⟨owns_one w5 _ E S5.out.k,⟨_,rfl⟩⟩ (fun e=>absurd (S5.out.o1.1.lt w5.heap.size e).2 (Nat.lt_irrefl _)))
  obtain ⟨⟨q0,q1,q2⟩,q3,q4,q5⟩:=S6.out.cells
  clear S5
  go_upto_region 12 with fail
  clear S6 q0 q1 q2 q3 q4 q5
  generalize ((w5.alloc (.cells #[.int .i64 (1000+(u:Int))] 3)).setCell ⟨A,0,none⟩ (.slice (some ⟨w5.heap.size,0,none⟩) 1 1))=w7 at *
  obtain ⟨⟨q0,q1,q2⟩,q3,q4,q5⟩:=S7.out.cells
  have L1:Hid ([1000+(u:Int)].length<=4):=by show _<=_; simp
  rcases hu1 with rfl | rfl
  ·have HR:=hideP (app_make0 w7 dg db.length dc 23 hd1)
   have S8:=hideP (S7.out.put1 S7.out.o1 S7.out.ne)
   have L2:Hid (db.length<=1001):=by show _<=_; have:=HDB.out; omega
   go_wp2_with (at_builtin; refine wpList_append_eq _ _ rfl _ _ _ rfl _ _ _ rfl rfl HR.out ?_)
   have SE:=S8.out.done L1.out L2.out
   exact bodyPost_ret (v:=.agg #[.slice (some ⟨w5.heap.size,0,none⟩) 1 1,.slice (some ⟨dg,0,none⟩) db.length dc]) (by simp [results,Tryz.results71,go_sem,q3,q4]) rfl SE
  obtain ⟨v',w8,hrun,ho,hg,hat⟩:=app_make1 w7 db S7.out.o1.1 (by have:=HDB.out; omega) S7.out.k 23
  have HR:=hideP hrun
  have S8:=hideP (S7.out.app1 (x:=0) hg (by rw [List.map_append] at ho; exact ho) (Nat.le_refl _) hat)
  have hcell:=(S7.out.row S7.out.o1 hg)
  obtain ⟨⟨p0,p1,p2⟩,p3,p4,p5⟩:=sp_cells hcell.1 hcell.2.1
  obtain ⟨g',c',ev,hv1,hv2⟩:=S8.out.o1.form
  subst ev
  have L2:Hid ((db++[(0:Int)]).length<=1001):=by show _<=_; have:=HDB.out; simp; omega
  have el:(db++[(0:Int)]).length=db.length+1:=by simp
  clear hrun ho hg hat hcell
  go_wp2_with (at_builtin; refine wpList_append_eq _ _ rfl _ _ _ rfl _ _ _ rfl rfl HR.out ?_)
  have SE:=S8.out.done L1.out L2.out
  rw [el] at SE
  exact bodyPost_ret (v:=.agg #[.slice (some ⟨w5.heap.size,0,none⟩) 1 1,.slice (some ⟨g',0,none⟩) (db.length+1) c']) (by simp [results,Tryz.results71,go_sem,p3,p4]) rfl SE
 ·obtain ⟨z,hz⟩:∃z:Int,(x:Int) / 5 % 4=z:=⟨_,rfl⟩
  have S2:Hid (SpSt B E P A w _ _ sh da (w1.alloc (.cells #[.int .i64 z] 3))):=S1.out.keep ((Below.refl _ _).alloc (Nat.le_refl _) _)
  have c00:=S1.out.cells.1.1
  have RO:Hid (Rd (w1.heap.size+1) (w1.alloc (.cells #[.int .i64 z] 3)) (.slice (some ⟨w1.heap.size,0,none⟩) 1 1) [z]):=rd_lit1 w1 z _ (by omega)
  go_wp2_with (at_builtin; refine wpList_append_rd_at (base:=E) _ rfl (.tmp 12) (.tmp 16) rfl (.slice (some ⟨g0,0,none⟩) sh.length c0) (.slice (some ⟨w1.heap.size,0,none⟩) 1 1) rfl rfl sh.length sh [z] S2.out.o0.1 RO.out (by have:=HS.out; simp; omega) S2.out.k ?_)
  intro v' w3 ho hg hat
  have S3:=hideP (S2.out.app0 hg ho (by simp) hat)
  obtain ⟨g',c',ev,hv1,hv2⟩:=S3.out.o0.form
  subst ev
  obtain ⟨⟨q0,q1,q2⟩,q3,q4,q5⟩:=sp_cells (S2.out.row S2.out.o0 hg).1 (S2.out.row S2.out.o0 hg).2.1
  have L1:Hid ((sh++[z]).length<=4):=by show _<=_; have:=HS.out; simp; omega
  have L2:Hid (da.length<=1001):=by show _<=_; have:=HD.out; omega
  clear S1 S2 c00 ho hg hat RO
  go_wp2_with fail
  have SD:=S3.out.done L1.out L2.out
  rw [show (sh++[(z:Int)]).length=sh.length+1 by simp] at SD
  exact bodyPost_ret (v:=.agg #[.slice (some ⟨g',0,none⟩) (sh.length+1) c',.slice (some ⟨g1,0,none⟩) da.length c1]) (by simp [results,Tryz.results71,go_sem,q3,q4]) rfl SD
 ·have S2:Hid (SpSt B E P A w _ _ sh da (w1.alloc (.cells #[.int .i64 0] 3))):=S1.out.keep ((Below.refl _ _).alloc (Nat.le_refl _) _)
  have c00:=S1.out.cells.1.2.1
  have RO:Hid (Rd (w1.heap.size+1) (w1.alloc (.cells #[.int .i64 0] 3)) (.slice (some ⟨w1.heap.size,0,none⟩) 1 1) [0]):=rd_lit1 w1 0 _ (by omega)
  go_wp2_with (at_builtin; refine wpList_append_rd_at (base:=E) _ rfl (.tmp 23) (.tmp 24) rfl (.slice (some ⟨g1,0,none⟩) da.length c1) (.slice (some ⟨w1.heap.size,0,none⟩) 1 1) rfl rfl da.length da [0] S2.out.o1.1 RO.out (by have:=HD.out; simp; omega) S2.out.k ?_)
  intro v' w3 ho hg hat
  have S3:=hideP (S2.out.app1 hg ho (by simp) hat)
  obtain ⟨g',c',ev,hv1,hv2⟩:=S3.out.o1.form
  subst ev
  obtain ⟨⟨q0,q1,q2⟩,q3,q4,q5⟩:=sp_cells (S2.out.row S2.out.o1 hg).1 (S2.out.row S2.out.o1 hg).2.1
  have L1:Hid ((da++[0]).length<=1001):=by show _<=_; have:=HD.out; simp; omega
  have L2:Hid (sh.length<=4):=by show _<=_; have:=HS.out; omega
  clear S1 S2 c00 ho hg hat RO
  go_wp2_with fail
  have SD:=S3.out.done L2.out L1.out
  rw [show (da++[(0:Int)]).length=da.length+1 by simp] at SD
  exact bodyPost_ret (v:=.agg #[.slice (some ⟨g0,0,none⟩) sh.length c0,.slice (some ⟨g',0,none⟩) (da.length+1) c']) (by simp [results,Tryz.results71,go_sem,q3,q4]) rfl SD
 by_cases hd0:0<da.length
 ·have hd0':(0:Int)<(da.length:Int):=by omega
  obtain ⟨q,hq0⟩:∃q:Nat,x / 5 % da.length=q:=⟨_,rfl⟩
  have hqd:q<da.length:=by rw [<- hq0]; exact Nat.mod_lt _ hd0
  have hq:(x:Int) / 5 % (da.length:Int)=(q:Int):=by rw [<- hq0]; simp
  obtain ⟨x5,hx5⟩:∃x5:Nat,(x:Int) / 5=(x5:Int):=⟨x / 5,by simp⟩
  have hx50:x5<=255:=by omega
  have hqt:(x5:Int).tmod (da.length:Int)=(q:Int):=by rw [Int.tmod_eq_emod_of_nonneg (by omega),<- hx5,hq]
  have hw5:IntKind.i64.wrap (x5:Int)=(x5:Int):=by rw [IntKind.wrap_i64]; omega
  have S3:=hideP ((S1.out.cell rfl q 3000000001).keep (Below.refl _ _).drew)
  have hfz:=S1.out.o1.1.frozenAt q
  have hcc:w1.cell? ⟨g1,q,none⟩=some (.int .i64 (da.getD q 0)):=by
   have:=(rd_cell S1.out.o1.own.rd hqd).2
   rw [Nat.zero_add] at this
   exact this
  generalize da.getD q 0=y at hcc
  obtain ⟨⟨q0,q1,q2⟩,q3,q4,q5⟩:=S1.out.cells
  have L1:Hid ((da.set q 3000000001).length<=1001):=by show _<=_; have:=HD.out; simp; omega
  have L2:Hid (sh.length<=4):=by show _<=_; have:=HS.out; omega
  have hdn:¬(da.length:Int)=0:=by omega
  have hqi:(q:Int)<(da.length:Int):=by omega
  generalize hld:da.length=ld at *
  have hdz:¬ld=0:=by omega
  clear hld hq0 hq hd0 S1
  go_wp2_with fail
  clear q2 q3 q4 q5 hr hx
  go_region
  obtain ⟨⟨q0,q1',q2⟩,q3,q4,q5⟩:=S3.out.cells
  clear q1 hcc hfz
  generalize (w1.setCell ⟨g1,q,none⟩ (.int .i64 3000000001)).drew=w3 at *
  go_wp2_with fail
  have SE:=S3.out.done L2.out L1.out
  exact bodyPost_ret (v:=.agg #[.slice (some ⟨g0,0,none⟩) sh.length c0,.slice (some ⟨g1,0,none⟩) ld c1]) (by simp [results,Tryz.results71,go_sem,q3,q4]) rfl SE
 have hdz:da.length=0:=by omega
 have c01:=S1.out.cells.1.2.1
 have hdn:¬((0:Int)<(da.length:Int)):=by omega
 have S2:Hid (SpSt B E P A w _ _ sh da (w1.alloc (.cells #[.int .i64 1000] 3))):=S1.out.keep ((Below.refl _ _).alloc (Nat.le_refl _) _)
 have RL:Hid (Row E (w1.alloc (.cells #[.int .i64 1000] 3)) (.slice (some ⟨w1.heap.size,0,none⟩) 1 1) [1000]):=⟨owns_one w1 1000 E S1.out.k,⟨_,rfl⟩⟩
 have KF:=hideP (l1Fill_any B P (.slice (some ⟨w1.heap.size,0,none⟩) 1 1) [1000] _ S2.out.r (by decide) (fun w'' hg=>by obtain ⟨c,hc⟩:=S2.out.r.blk; exact (RL.out.other hc (by decide) hg).own.rd))
 go_wp2_with fail
 refine KF.out.mono ?_
 rintro e w3 ⟨va,db,rfl,hdl,hdr,ho,hk,hr3,hg⟩
 have hdb:db.length=1000:=by
  have e:Pl.prodC [1000]=1000:=by decide
  rw [e] at hdl
  exact_mod_cast hdl
 have hgs:=hg.size
 simp at hgs
 have RL3:Hid (Row E w3 (.slice (some ⟨w1.heap.size,0,none⟩) 1 1) [1000]):=by
  obtain ⟨c,hc⟩:=S2.out.r.blk
  exact RL.out.other hc (by decide) hg
 have S3:=hideP (S2.out.next hg hr3)
 have RD3:Hid (Row E w3 va db):=⟨owns_base ho (by have:=S1.out.k; simp; omega),hk⟩
 have NB:Hid (¬va.ownBlock=some w1.heap.size):=fun e=>by have:=(ho.lt _ e).1; simp at this; omega
 have S4:=hideP (S3.out.put0 RL3.out (fun e=>absurd (S1.out.o1.1.lt w1.heap.size e).2 (Nat.lt_irrefl _)))
 have S5:=hideP (S4.out.put1 (RD3.out.other S3.out.a (by decide) (grown_set w3 A 0 _)) (fun e=>NB.out e))
 have HDB:=hideP hdb
 obtain ⟨dg,dc,ed,hd1,hd2⟩:=RD3.out.form
 subst ed
 obtain ⟨⟨q0,q1,q2⟩,q3,q4,q5⟩:=S3.out.cells
 clear hdl hdr ho hk hr3 hg KF S2 hdb RL RL3 RD3 NB S1
 go_upto_region 11 with fail
 clear S3 S4 q0 q1 q2 q3 q4 q5
 generalize ((w3.setCell ⟨A,0,none⟩ (.slice (some ⟨w1.heap.size,0,none⟩) 1 1)).setCell ⟨A,1,none⟩ (.slice (some ⟨dg,0,none⟩) db.length dc))=w5 at *
 obtain ⟨u,hu⟩:∃u:Nat,(x:Int) / 128=(u:Int):=⟨x / 128,by simp⟩
 have hu1:u=0\/u=1:=by omega
 have hwr:IntKind.i64.wrap (1000+(u:Int))=1000+(u:Int):=by rw [IntKind.wrap_i64]; omega
 have S6:Hid (SpSt B E P A w _ _ [1000] db (w5.alloc (.cells #[.int .i64 (1000+(u:Int))] 3))):=S5.out.keep ((Below.refl _ _).alloc (Nat.le_refl _) _)
 have S7:=hideP (S6.out.put0 (v:=.slice (some ⟨w5.heap.size,0,none⟩) 1 1) (zs:=[1000+(u:Int)]) ⟨owns_one w5 _ E S5.out.k,⟨_,rfl⟩⟩ (fun e=>absurd (S5.out.o1.1.lt w5.heap.size e).2 (Nat.lt_irrefl _)))
 obtain ⟨⟨q0,q1,q2⟩,q3,q4,q5⟩:=S6.out.cells
 clear S5
 go_upto_region 12 with fail
 clear S6 q0 q1 q2 q3 q4 q5
 generalize ((w5.alloc (.cells #[.int .i64 (1000+(u:Int))] 3)).setCell ⟨A,0,none⟩ (.slice (some ⟨w5.heap.size,0,none⟩) 1 1))=w7 at *
 obtain ⟨⟨q0,q1,q2⟩,q3,q4,q5⟩:=S7.out.cells
 have L1:Hid ([1000+(u:Int)].length<=4):=by show _<=_; simp
 rcases hu1 with rfl | rfl
 ·have HR:=hideP (app_make0 w7 dg db.length dc 23 hd1)
  have S8:=hideP (S7.out.put1 S7.out.o1 S7.out.ne)
  have L2:Hid (db.length<=1001):=by show _<=_; have:=HDB.out; omega
  go_wp2_with (at_builtin; refine wpList_append_eq _ _ rfl _ _ _ rfl _ _ _ rfl rfl HR.out ?_)
  have SE:=S8.out.done L1.out L2.out
  exact bodyPost_ret (v:=.agg #[.slice (some ⟨w5.heap.size,0,none⟩) 1 1,.slice (some ⟨dg,0,none⟩) db.length dc]) (by simp [results,Tryz.results71,go_sem,q3,q4]) rfl SE
 obtain ⟨v',w8,hrun,ho,hg,hat⟩:=app_make1 w7 db S7.out.o1.1 (by have:=HDB.out; omega) S7.out.k 23
 have HR:=hideP hrun
 have S8:=hideP (S7.out.app1 (x:=0) hg (by rw [List.map_append] at ho; exact ho) (Nat.le_refl _) hat)
 have hcell:=(S7.out.row S7.out.o1 hg)
 obtain ⟨⟨p0,p1,p2⟩,p3,p4,p5⟩:=sp_cells hcell.1 hcell.2.1
 obtain ⟨g',c',ev,hv1,hv2⟩:=S8.out.o1.form
 subst ev
 have L2:Hid ((db++[(0:Int)]).length<=1001):=by show _<=_; have:=HDB.out; simp; omega
 have el:(db++[(0:Int)]).length=db.length+1:=by simp
 clear hrun ho hg hat hcell
 go_wp2_with (at_builtin; refine wpList_append_eq _ _ rfl _ _ _ rfl _ _ _ rfl rfl HR.out ?_)
 have SE:=S8.out.done L1.out L2.out
 rw [el] at SE
 exact bodyPost_ret (v:=.agg #[.slice (some ⟨w5.heap.size,0,none⟩) 1 1,.slice (some ⟨g',0,none⟩) (db.length+1) c']) (by simp [results,Tryz.results71,go_sem,p3,p4]) rfl SE
def DaPost (B P:Nat) (w:World) (e:Ending) (w':World):Prop:=∃(v0 v1:Value) (sh da:List Int),e=.returned (.agg #[v0,v1])/\sh.length<=4/\da.length<=1001/\DrSt B P w v0 v1 sh da w'
theorem grown_kb {B P:Nat} {w w3 w4:World} (h:w.grownBy w3 (some P)) (hb:Below B w3 w4) (hk:Kb w.heap.size P w3 w4):w.grownBy w4 (some P) :=
 ⟨hb.os.trans h.os,hb.tape.trans h.tape,hb.output.trans h.output,Nat.le_trans h.size hb.size,fun i hi hne=>(hk i hi (fun e=>hne (by rw [e]))).trans (h.block i hi hne)⟩
theorem DrSt.keep {B P:Nat} {w w' w'':World} {v0 v1:Value} {sh da:List Int} (h:DrSt B P w v0 v1 sh da w') (hb:Below w'.heap.size w' w''):DrSt B P w v0 v1 sh da w'' :=
 ⟨h.o0.keep hb,h.o1.keep hb,h.ne,h.r.keep hb,grown_trans h.g (grown_of_b hb (some P)) (fun i e=>.inl (by injection e with e; exact e.symm))⟩
theorem DrSt.from {B P:Nat} {w w1 w':World} {v0 v1:Value} {sh da:List Int} (h:DrSt B P w1 v0 v1 sh da w') (hg:w.grownBy w1 (some P)):DrSt B P w v0 v1 sh da w' :=
 ⟨h.o0.base hg.size,h.o1.base hg.size,h.ne,h.r,grown_trans hg h.g (fun i e=>.inl (by injection e with e; exact e.symm))⟩
theorem l1DrawAny_any (B P:Nat) (w:World) (hBw:B<=w.heap.size) (h:Rdr B P w):Calls Tryz.prog 25 #[.pointer (some ⟨P,0,none⟩)] w (DaPost B P w):=by
 have hPl:=h.lt
 have A1:Below w.heap.size w (w.alloc (.cells #[.slice none 0 0,.slice none 0 0] 25)):=(Below.refl _ _).alloc (Nat.le_refl _) _
 have KN:=hideP (next_any B P (w.alloc (.cells #[.slice none 0 0,.slice none 0 0] 25)) (h.keep A1))
 have G0:Hid (w.grownBy (w.alloc (.cells #[.slice none 0 0,.slice none 0 0] 25)) (some P)):=grown_of_b A1 _
 have ZN:Hid ((w.alloc (.cells #[.slice none 0 0,.slice none 0 0] 25)).heap[w.heap.size]? = some (.cells #[.slice none 0 0,.slice none 0 0] 25 (0,0))):=heap_alloc_new w _
 have hsz:(w.alloc (.cells #[.slice none 0 0,.slice none 0 0] 25)).heap.size=w.heap.size+1:=by simp
 clear h A1
 go_enter Tryz.func25,Tryz.ntmps25
 go_wp2_with fail
 refine KN.out.mono ?_
 rintro e w1 ⟨x,rfl,hx,hr,hg⟩
 have G1:Hid (w.grownBy w1 (some P)):=grown_trans G0.out hg (fun i e=>.inl (by injection e with e; exact e.symm))
 have ZN1:Hid (w1.heap[w.heap.size]? = some (.cells #[.slice none 0 0,.slice none 0 0] 25 (0,0))):=(hg.block _ (by omega) (by intro e; injection e with e; omega)).trans ZN.out
 have hs1:w.heap.size+1<=w1.heap.size:=by have:=hg.size; rw [hsz] at this; exact this
 have KD:=hideP (l1Draw_any B P w1 (by omega) hr)
 clear hr hg KN G0 ZN hsz
 go_wp2_with fail
 refine KD.out.mono ?_
 rintro e w2 ⟨v0,v1,sh,da,rfl,hok,hds⟩
 have ZN2:Hid (w2.heap[w.heap.size]? = some (.cells #[.slice none 0 0,.slice none 0 0] 25 (0,0))):=(hds.g.block _ (by omega) (by intro e; injection e with e; omega)).trans ZN1.out
 have hs2:=hds.g.size
 have D2:=hideP (hds.from G1.out)
 obtain ⟨hm0,hm1⟩:=Pl.ok_max hok
 have LS:Hid (sh.length<=3):=hm0
 have LD:Hid (da.length<=1000):=hm1
 obtain ⟨g0,c0,e0,hc0,hc0'⟩:=hds.o0.form
 obtain ⟨g1,c1,e1,hc1,hc1'⟩:=hds.o1.form
 subst e0 e1
 clear hds KD ZN1 G1 hok hm0 hm1
 obtain ⟨w3,hw3⟩:∃w3,w3=w2.alloc (.cells #[.slice (some ⟨g0,0,none⟩) sh.length c0,.slice (some ⟨g1,0,none⟩) da.length c1] 25):=⟨_,rfl⟩
 have A3:Below w2.heap.size w2 w3:=by rw [hw3]; exact (Below.refl _ _).alloc (Nat.le_refl _) _
 have D3:=hideP (D2.out.keep A3)
 have ZN3:Hid (w3.heap[w.heap.size]? = some (.cells #[.slice none 0 0,.slice none 0 0] 25 (0,0))):=(A3.block _ (by omega)).trans ZN2.out
 have AN3:Hid (w3.heap[w2.heap.size]? = some (.cells #[.slice (some ⟨g0,0,none⟩) sh.length c0,.slice (some ⟨g1,0,none⟩) da.length c1] 25 (0,0))):=by rw [hw3]; exact heap_alloc_new w2 _
 have hs3:=A3.size
 have KS:=hideP (l1Spoil_any B w.heap.size P _ _ sh da w3 D3.out.o0 D3.out.o1 (fun e=>D3.out.ne e.symm) D3.out.r (by omega) hBw LS.out LD.out)
 have q0:w3.cell? ⟨w2.heap.size,0,none⟩=some (.slice (some ⟨g0,0,none⟩) sh.length c0):=by rw [Lib.cell_of_heap AN3.out]; rfl
 have q1:w3.cell? ⟨w2.heap.size,1,none⟩=some (.slice (some ⟨g1,0,none⟩) da.length c1):=by rw [Lib.cell_of_heap AN3.out]; rfl
 clear A3 ZN2 D2
 obtain ⟨r,hr⟩:∃r:Nat,(x:Int) % 16=(r:Int):=⟨x % 16,by omega⟩
 go_upto_region 3 with fail
 rw [<- hw3]
 clear hw3
 by_cases h15:r=15
 ·subst h15
  go_wp2_with fail
  refine KS.out.mono ?_
  rintro e w4 ⟨v0,v1,sh',da',rfl,l0,l1,r0,r1,hb,hk,hn,hr4,hkb⟩
  have ZN4:=hideP (hk _ _ ZN3.out)
  have D4:Hid (DrSt B P w v0 v1 sh' da' w4):=⟨r0,r1,fun e=>hn e.symm,hr4,grown_kb D3.out.g hb hkb⟩
  have L0:=hideP l0
  have L1:=hideP l1
  obtain ⟨h0,d0,e0,_,_⟩:=r0.form
  obtain ⟨h1,d1,e1,_,_⟩:=r1.form
  subst e0 e1
  clear r0 r1 hb hk l0 l1 KS q0 q1 AN3 hn hr4 hkb
  have p0:w4.cell? ⟨w.heap.size,0,none⟩=some (.slice none 0 0):=by rw [Lib.cell_of_heap ZN4.out]; rfl
  have p1:w4.cell? ⟨w.heap.size,1,none⟩=some (.slice none 0 0):=by rw [Lib.cell_of_heap ZN4.out]; rfl
  have f2:∀o,w4.frozen? ⟨w.heap.size,o,none⟩=false:=fun o=>frozen_blk ZN4.out
  go_wp2_with fail
  exact bodyPost_ret (v:=.agg #[.slice (some ⟨h0,0,none⟩) sh'.length d0,.slice (some ⟨h1,0,none⟩) da'.length d1]) (by simp [results,Tryz.results25,go_sem,p0,p1]) rfl ⟨_,_,sh',da',rfl,L0.out,L1.out,D4.out.fill2 hBw (Nat.le_refl _) (by omega) ZN4.out _ _⟩
 have hne:((r:Int) == 15)=false:=by rw [beq_eq_false_iff_ne]; omega
 have p0:w3.cell? ⟨w.heap.size,0,none⟩=some (.slice none 0 0):=by rw [Lib.cell_of_heap ZN3.out]; rfl
 have p1:w3.cell? ⟨w.heap.size,1,none⟩=some (.slice none 0 0):=by rw [Lib.cell_of_heap ZN3.out]; rfl
 have f2:∀o,w3.frozen? ⟨w.heap.size,o,none⟩=false:=fun o=>frozen_blk ZN3.out
 have L0:Hid (sh.length<=4):=by show _<=_; have:=LS.out; omega
 have L1:Hid (da.length<=1001):=by show _<=_; have:=LD.out; omega
 clear KS
 go_wp2_with fail
 exact bodyPost_ret (v:=.agg #[.slice (some ⟨g0,0,none⟩) sh.length c0,.slice (some ⟨g1,0,none⟩) da.length c1]) (by simp [results,Tryz.results25,go_sem,p0,p1]) rfl ⟨_,_,sh,da,rfl,L0.out,L1.out,D3.out.fill2 hBw (Nat.le_refl _) (by omega) ZN3.out _ _⟩
structure Dv (B P:Nat) (w0:World) (L:List (Value × List Int)) (M:List (Nat × Value × Value)) (w:World):Prop where
 r:Rdr B P w
 g:w0.grownBy w (some P)
 b:B<=w0.heap.size
 rows:∀x∈L,Row w0.heap.size w x.1 x.2
 vars:∀m∈M,(w0.heap.size<=m.1/\¬m.1=P)/\w.heap[m.1]? = some (.cells #[m.2.1,m.2.2] 25 (0,0))
theorem Row.step {B P N:Nat} {w w':World} {v:Value} {zs:List Int} (h:Row N w v zs) (hr:Rdr B P w) (hg:w.grownBy w' (some P)):Row N w' v zs:=by
 obtain ⟨c,hc⟩:=hr.blk
 exact h.other hc (by decide) hg
theorem grown_p {P:Nat} {a b c:World} (h:a.grownBy b (some P)) (k:b.grownBy c (some P)):a.grownBy c (some P):=grown_trans h k (fun i e=>.inl (by injection e with e; exact e.symm))
theorem Dv.step {B P:Nat} {w0 w w':World} {L:List (Value × List Int)} {M:List (Nat × Value × Value)} (h:Dv B P w0 L M w) (hr:Rdr B P w') (hg:w.grownBy w' (some P)):Dv B P w0 L M w' :=
 ⟨hr,grown_p h.g hg,h.b,fun x hx=>(h.rows x hx).step h.r hg,fun m hm=>⟨(h.vars m hm).1,(hg.block _ (Array.getElem?_eq_some_iff.1 (h.vars m hm).2).1 (by intro e; injection e with e; exact (h.vars m hm).1.2 e)).trans (h.vars m hm).2⟩⟩
theorem Dv.keep {B P:Nat} {w0 w w':World} {L:List (Value × List Int)} {M:List (Nat × Value × Value)} (h:Dv B P w0 L M w) (hb:Below w.heap.size w w'):Dv B P w0 L M w':=h.step (h.r.keep hb) (grown_of_b hb _)
theorem Dv.row {B P:Nat} {w0 w:World} {L:List (Value × List Int)} {M:List (Nat × Value × Value)} (h:Dv B P w0 L M w) {v:Value} {zs:List Int} (hv:Row w0.heap.size w v zs):Dv B P w0 ((v,zs)::L) M w :=
 ⟨h.r,h.g,h.b,fun x hx=>by rcases List.mem_cons.1 hx with rfl | hx; exact hv; exact h.rows x hx,h.vars⟩
theorem Dv.alloc {B P:Nat} {w0 w:World} {L:List (Value × List Int)} {M:List (Nat × Value × Value)} (h:Dv B P w0 L M w) (u0 u1:Value):Dv B P w0 L ((w.heap.size,u0,u1)::M) (w.alloc (.cells #[u0,u1] 25)):=by
 have k:=h.keep (w':=w.alloc (.cells #[u0,u1] 25)) ((Below.refl _ _).alloc (Nat.le_refl _) _)
 refine ⟨k.r,k.g,k.b,k.rows,fun m hm=>?_⟩
 rcases List.mem_cons.1 hm with rfl | hm
 ·exact ⟨⟨h.g.size,fun e=>by have:=h.r.lt; omega⟩,heap_alloc_new w _⟩
 exact k.vars m hm
theorem Dv.set {B P X:Nat} {w0 w:World} {L:List (Value × List Int)} {M:List (Nat × Value × Value)} {c:Array Value} (h:Dv B P w0 L M w) (hX:w0.heap.size<=X/\¬X=P) (hc:w.heap[X]? = some (.cells c 25 (0,0))) (hM:∀m∈M,¬m.1=X) (j:Nat) (u:Value):Dv B P w0 L M (w.setCell ⟨X,j,none⟩ u):=by
 have g1:=grown_set w X j u
 have hb:=h.b
 refine ⟨h.r.kept g1 (fun k hk=>by injection hk with hk; omega),grown_trans h.g g1 (fun i e=>.inr (by injection e with e; omega)),h.b,fun x hx=>(h.rows x hx).other hc (by decide) g1,fun m hm=>⟨(h.vars m hm).1,(g1.block _ (Array.getElem?_eq_some_iff.1 (h.vars m hm).2).1 (by intro e; injection e with e; exact hM m hm e)).trans (h.vars m hm).2⟩⟩
theorem Dv.put {B P X:Nat} {w0 w:World} {L:List (Value × List Int)} {M N:List (Nat × Value × Value)} {a b:Value} (h:Dv B P w0 L (M++(X,a,b)::N) w) (hM:∀m∈M++N,¬m.1=X) (u0 u1:Value):Dv B P w0 L (M++(X,u0,u1)::N) ((w.setCell ⟨X,0,none⟩ u0).setCell ⟨X,1,none⟩ u1):=by
 have hx:=h.vars (X,a,b) (by simp)
 have h0:Dv B P w0 L (M++N) w:=⟨h.r,h.g,h.b,h.rows,fun m hm=>h.vars m (by simp only [List.mem_append,List.mem_cons] at hm ⊢; rcases hm with hm | hm; exact .inl hm; exact .inr (.inr hm))⟩
 have z:=heap_setCell_same w X 0 #[a,b] 25 u0 hx.2
 have h1:=(h0.set hx.1 hx.2 hM 0 u0).set hx.1 z hM 1 u1
 refine ⟨h1.r,h1.g,h1.b,h1.rows,fun m hm=>?_⟩
 rcases List.mem_append.1 hm with q | q
 ·exact h1.vars m (by simp [q])
 rcases List.mem_cons.1 q with rfl | q
 ·exact ⟨hx.1,heap_setCell_same _ X 1 #[u0,b] 25 u1 z⟩
 exact h1.vars m (by simp [q])
theorem Dv.cells {B P X:Nat} {w0 w:World} {L:List (Value × List Int)} {M:List (Nat × Value × Value)} {a b:Value} (h:Dv B P w0 L M w) (hx:(X,a,b)∈M):w.cell? ⟨X,0,none⟩=some a/\w.cell? ⟨X,1,none⟩=some b/\∀o,w.frozen? ⟨X,o,none⟩=false:=by
 have z:=(h.vars _ hx).2
 exact ⟨by rw [Lib.cell_of_heap z]; rfl,by rw [Lib.cell_of_heap z]; rfl,fun o=>frozen_blk z⟩
theorem Dv.sub {B P:Nat} {w0 w:World} {L L':List (Value × List Int)} {M M':List (Nat × Value × Value)} (h:Dv B P w0 L M w) (hL:∀x∈L',x∈L) (hM:∀x∈M',x∈M):Dv B P w0 L' M' w:=⟨h.r,h.g,h.b,fun x hx=>h.rows x (hL x hx),fun m hm=>h.vars m (hM m hm)⟩
theorem Dv.drawn {B P:Nat} {w0 w w':World} {L:List (Value × List Int)} {M:List (Nat × Value × Value)} {v0 v1:Value} {sh da:List Int} (h:Dv B P w0 L M w) (d:DrSt B P w v0 v1 sh da w'):Dv B P w0 ((v0,sh)::(v1,da)::L) M w' :=
 ((h.step d.r d.g).row (d.o1.base h.g.size)).row (d.o0.base h.g.size)
theorem Dv.new {B P:Nat} {w:World} (h:Rdr B P w) (hB:B<=w.heap.size):Dv B P w [] [] w:=⟨h,World.grownBy.refl _ _,hB,fun x hx=>by simp at hx,fun x hx=>by simp at hx⟩
theorem l2Op_any (B P:Nat) (w:World) (h:Rdr B P w):Calls Tryz.prog 36 #[.pointer (some ⟨P,0,none⟩)] w fun e w'=>∃z:Int,e=.returned (.int .i64 z)/\Rdr B P w'/\w.grownBy w' (some P):=by
 have KN:=hideP (next_any B P w h)
 clear h
 go_enter Tryz.func36,Tryz.ntmps36
 go_wp2_with fail
 refine KN.out.mono ?_
 rintro e w1 ⟨x,rfl,hx,hr,hg⟩
 have R:=hideP hr
 have G:=hideP hg
 clear hr hg KN
 by_cases h248:248<=x
 ·have h':(248:Int)<=(x:Int):=by omega
  go_wp2_with fail
  go_ret
  exact ⟨_,rfl,R.out,G.out⟩
 have h':¬(248:Int)<=(x:Int):=by omega
 go_wp2_with fail
 go_ret
 exact ⟨_,rfl,R.out,G.out⟩
end Go.Proofs.YtacapaiadggemaaGreat
