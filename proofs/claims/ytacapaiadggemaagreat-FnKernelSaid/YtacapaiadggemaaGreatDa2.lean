import Derived.Test.YtacapaiadggemaaGreatDy2
namespace Go.Proofs.YtacapaiadggemaaGreat
open Go.RowKit
set_option maxRecDepth 100000
set_option maxHeartbeats 16000000
set_option linter.unusedVariables false
structure FsSt (B P A:Nat) (w0:World) (sv cv v:Value) (zs:List Int) (w:World):Prop where
 o:w.ownsRow w0.heap.size 3 1 v zs.length (zs.map (Value.int .i64))
 k:∃g,v.ownBlock=some g
 r:Rdr B P w
 z:w.heap[w0.heap.size]? = some (.cells #[.slice none 0 0,.slice none 0 0] 25 (0,0))
 a:w.heap[A]? = some (.cells #[sv,cv] 25 (0,0))
 n:w0.heap.size<A
 p:P<w0.heap.size
 g:w0.grownBy w (some P)
theorem FsSt.keep {B P A:Nat} {w0 w w':World} {sv cv v:Value} {zs:List Int} (h:FsSt B P A w0 sv cv v zs w) (hb:Below w.heap.size w w'):FsSt B P A w0 sv cv v zs w':=by
 have h1:A<w.heap.size:=(Array.getElem?_eq_some_iff.1 h.a).1
 have h2:w0.heap.size<w.heap.size:=(Array.getElem?_eq_some_iff.1 h.z).1
 exact ⟨owns_keep h.o hb,h.k,h.r.keep hb,(hb.block _ h2).trans h.z,(hb.block _ h1).trans h.a,h.n,h.p,grown_trans h.g (grown_of_b hb none) (fun _ e=>by cases e)⟩
theorem FsSt.next {B P A:Nat} {w0 w w':World} {sv cv v:Value} {zs:List Int} (h:FsSt B P A w0 sv cv v zs w) (hg:w.grownBy w' (some P)) (hr:Rdr B P w'):FsSt B P A w0 sv cv v zs w':=by
 obtain ⟨c,hc⟩:=h.r.blk
 have h1:A<w.heap.size:=(Array.getElem?_eq_some_iff.1 h.a).1
 have h2:w0.heap.size<w.heap.size:=(Array.getElem?_eq_some_iff.1 h.z).1
 have hp:=h.p
 have hn:=h.n
 exact ⟨h.o.kept hg (.inr (own_blk_ne h.o hc (by decide))),h.k,hr,(hg.block _ h2 (by intro e; injection e with e; omega)).trans h.z,(hg.block _ h1 (by intro e; injection e with e; omega)).trans h.a,h.n,h.p,grown_trans h.g hg (fun i e=>.inl (by injection e with e; exact e.symm))⟩
theorem FsSt.app {B P A:Nat} {w0 w w':World} {sv cv v v':Value} {zs:List Int} {x:Int} (h:FsSt B P A w0 sv cv v zs w) (hg:w.grownBy w' v.ownBlock) (ho:w'.ownsRow w0.heap.size 3 1 v' (zs.length+[x].length) ((zs++[x]).map (Value.int .i64)))
  {m:Nat} (hat:v'.ownBlock=v.ownBlock\/v'.ownBlock=some m):FsSt B P A w0 sv cv v' (zs++[x]) w':=by
 obtain ⟨c,hc⟩:=h.r.blk
 have h1:A<w.heap.size:=(Array.getElem?_eq_some_iff.1 h.a).1
 have h2:w0.heap.size<w.heap.size:=(Array.getElem?_eq_some_iff.1 h.z).1
 refine ⟨by rw [List.length_append]; exact ho,?_,h.r.kept hg (fun k hk=>⟨by have:=(h.o.lt k hk).1; have:=h.r.1; have:=h.p; omega,fun e=>own_blk_ne h.o hc (by decide) (by rw [hk,e])⟩),
  (hg.block _ h2 (fun e=>own_blk_ne h.o h.z (by decide) e.symm)).trans h.z,(hg.block _ h1 (fun e=>own_blk_ne h.o h.a (by decide) e.symm)).trans h.a,h.n,h.p,grown_trans h.g hg (fun i e=>.inr (h.o.lt i e).1)⟩
 rcases hat with e | e
 ·rw [e]; exact h.k
 exact ⟨_,e⟩
theorem FsSt.put {B P A:Nat} {w0 w:World} {sv cv v:Value} {zs:List Int} (h:FsSt B P A w0 sv cv v zs w):FsSt B P A w0 sv v v zs (w.setCell ⟨A,1,none⟩ v):=by
 obtain ⟨c,hc⟩:=h.r.blk
 have h1:A<w.heap.size:=(Array.getElem?_eq_some_iff.1 h.a).1
 have hn:=h.n
 have hp:=h.p
 have hg:=grown_set w A 1 v
 refine ⟨h.o.kept hg (.inr (own_blk_ne h.o h.a (by decide))),h.k,h.r.kept hg (fun k hk=>by injection hk with hk; have:=h.r.1; omega),(hg.block _ (by omega) (by intro e; injection e with e; omega)).trans h.z,?_,h.n,h.p,grown_trans h.g hg (fun i e=>.inr (by injection e with e; omega))⟩
 have:=Lib.heap_setCell_same (i:=1) h.a v
 simpa using this
theorem FsSt.cell {B P A:Nat} {w0 w:World} {sv cv v:Value} {zs:List Int} (h:FsSt B P A w0 sv cv v zs w):w.cell? ⟨A,0,none⟩=some sv/\w.cell? ⟨A,1,none⟩=some cv/\w.frozen? ⟨A,1,none⟩=false/\A<w.heap.size :=
 ⟨by rw [Lib.cell_of_heap h.a]; rfl,by rw [Lib.cell_of_heap h.a]; rfl,frozen_of_row w A 1 _ 25 h.a,(Array.getElem?_eq_some_iff.1 h.a).1⟩
theorem FsSt.form {B P A:Nat} {w0 w:World} {sv cv v:Value} {zs:List Int} (h:FsSt B P A w0 sv cv v zs w):∃g cap,v=.slice (some ⟨g,0,none⟩) zs.length cap/\zs.length<=cap/\cap<=9223372036854775807:=owns_some h.o h.k
def FlPost (B P:Nat) (sv:Value) (sh:List Int) (w:World) (e:Ending) (w':World):Prop :=
 ∃(v:Value) (da:List Int),e=.returned (.agg #[sv,v])/\(da.length:Int)=Pl.prodC sh/\(∀x∈da,-3000000000<=x/\x<=3000000000)/\w'.ownsRow w.heap.size 3 1 v da.length (da.map (Value.int .i64))/\(∃g,v.ownBlock=some g)/\Rdr B P w'/\w.grownBy w' (some P)
theorem FsSt.done {B P A:Nat} {w0 w:World} {sv cv v:Value} {zs:List Int} (h:FsSt B P A w0 sv cv v zs w) {sh:List Int} (hl:(zs.length:Int)=Pl.prodC sh) (hv:∀x∈zs,-3000000000<=x/\x<=3000000000) (u0 u1:Value) :
  FlPost B P sv sh w0 (.returned (.agg #[sv,v])) ((w.setCell ⟨w0.heap.size,0,none⟩ u0).setCell ⟨w0.heap.size,1,none⟩ u1):=by
 obtain ⟨c,hc⟩:=h.r.blk
 have hp:=h.p
 have h2:w0.heap.size<w.heap.size:=(Array.getElem?_eq_some_iff.1 h.z).1
 have g1:=grown_set w w0.heap.size 0 u0
 have g2:=grown_set (w.setCell ⟨w0.heap.size,0,none⟩ u0) w0.heap.size 1 u1
 have hne:=own_blk_ne h.o h.z (by decide)
 exact ⟨v,zs,rfl,hl,hv,(h.o.kept g1 (.inr hne)).kept g2 (.inr hne),h.k,(h.r.kept g1 (fun k hk=>by injection hk with hk; have:=h.r.1; omega)).kept g2 (fun k hk=>by injection hk with hk; have:=h.r.1; omega),
  grown_trans (grown_trans h.g g1 (fun i e=>.inr (by injection e with e; omega))) g2 (fun i e=>.inr (by injection e with e; omega))⟩
theorem l1Fill_any (B P:Nat) (sv:Value) (sh:List Int) (w:World) (h:Rdr B P w) (hf:Pl.fitsB sh=true) (HS:∀w',w.grownBy w' (some P)->Rd w'.heap.size w' sv sh) :
  Calls Tryz.prog 43 #[.pointer (some ⟨P,0,none⟩),sv] w (FlPost B P sv sh w):=by
 have hPl:=h.lt
 obtain ⟨hbase,hm⟩:Pl.baseB sh=true/\Pl.prodC sh<=1000:=by
  simp only [Pl.fitsB,Bool.and_eq_true,decide_eq_true_eq] at hf
  exact hf
 obtain ⟨hlen,hall⟩:sh.length<=3/\sh.all Pl.inR=true:=by
  simp only [Pl.baseB,Bool.and_eq_true,decide_eq_true_eq] at hbase
  exact hbase
 obtain ⟨M,hM⟩:∃M:Nat,Pl.prodC sh=(M:Int):=⟨(Pl.prodC sh).toNat,by have:=(Pl.prodC_bd sh hall).1; omega⟩
 have hM2:M<=1000:=by omega
 have KP:Hid (∀w',w.grownBy w' (some P)->Calls Tryz.prog 66 #[sv] w' fun e w''=>e=.returned (.int .i64 (M:Int))/\w''=w'):=fun w' hg=>by
  have:=l1Product_any _ sv sh w' (by omega) hall (HS w' hg)
  rw [hM] at this
  exact this
 obtain ⟨sa,sc,es⟩:=(HS w (grown_same w 0 _)).form
 subst es
 have HR:=hideP h
 clear h HS hf hbase hall hm
 have ST:Hid (FsSt B P (w.heap.size+1+1) w (.slice sa sh.length sc) (.slice (some ⟨w.heap.size+1,0,none⟩) 0 0) (.slice (some ⟨w.heap.size+1,0,none⟩) 0 0) []
   (((w.alloc (.cells #[.slice none 0 0,.slice none 0 0] 25)).alloc (.cells #[] 3)).alloc (.cells #[.slice sa sh.length sc,.slice (some ⟨w.heap.size+1,0,none⟩) 0 0] 25))):=by
  have b1:Below w.heap.size w (((w.alloc (.cells #[.slice none 0 0,.slice none 0 0] 25)).alloc (.cells #[] 3)).alloc (.cells #[.slice sa sh.length sc,.slice (some ⟨w.heap.size+1,0,none⟩) 0 0] 25)):=(((Below.refl _ _).alloc (Nat.le_refl _) _).alloc (by simp) _).alloc (by simp; omega) _
  refine ⟨?_,⟨_,rfl⟩,HR.out.keep b1,?_,?_,by omega,hPl,grown_of_b b1 _⟩
  ·have:=World.ownsRow_lit (base:=w.heap.size) (e:=3) (size:=1) (w.alloc (.cells #[.slice none 0 0,.slice none 0 0] 25)) #[] 0 (by simp) (by unfold maxLen; omega) rfl
   have e:(w.alloc (.cells #[.slice none 0 0,.slice none 0 0] 25)).heap.size=w.heap.size+1:=by simp
   rw [e] at this
   exact owns_keep this ((Below.refl _ _).alloc (Nat.le_refl _) _)
  ·rw [Below.heap_alloc _ _ _ (by simp; omega),Below.heap_alloc _ _ _ (by simp)]
   exact heap_alloc_new w _
  have:=heap_alloc_new ((w.alloc (.cells #[.slice none 0 0,.slice none 0 0] 25)).alloc (.cells #[] 3)) (.cells #[.slice sa sh.length sc,.slice (some ⟨w.heap.size+1,0,none⟩) 0 0] 25)
  simpa using this
 clear HR
 generalize sh.length=L at *
 go_enter Tryz.func43,Tryz.ntmps43
 go_wp2_with fail
 go_loopw [6] (fun i wr=>∃(j:Nat) (v:Value) (zs:List Int),j<=M/\i=.int .i64 (j:Int)/\Hid (zs.length=j)/\Hid (∀z∈zs,-3000000000<=z/\z<=3000000000)/\Hid (FsSt B P (w.heap.size+1+1) w (.slice sa L sc) v v zs wr)) (fun i _=>M-(intOf i).toNat)
 case atStart=>exact ⟨0,_,[],Nat.zero_le _,rfl,(show ([]:List Int).length=0 from rfl),by intro z hz; simp at hz,ST⟩
 clear ST
 obtain ⟨j,v,zs,hj,rfl,hzl,hzr,ST⟩:=hrel
 have KM:=hideP (KP.out wr ST.out.g)
 by_cases hlt:j<M
 rotate_left 1
 ·have hlt':¬(j:Int)<(M:Int):=by omega
  obtain ⟨g,cap,eo,hc1,hc2⟩:=ST.out.form
  subst eo
  have FIN:Hid (∀u0 u1,FlPost B P (.slice sa L sc) sh w (.returned (.agg #[.slice sa L sc,.slice (some ⟨g,0,none⟩) zs.length cap])) ((wr.setCell ⟨w.heap.size,0,none⟩ u0).setCell ⟨w.heap.size,1,none⟩ u1)) :=
   fun u0 u1=>ST.out.done (by rw [hM,hzl.out]; omega) hzr.out u0 u1
  have cA:=ST.out.cell.2.1
  have cB:=ST.out.cell.1
  have cZ:Hid (wr.heap[w.heap.size]? = some (.cells #[.slice none 0 0,.slice none 0 0] 25 (0,0))):=ST.out.z
  have z0:wr.cell? ⟨w.heap.size,0,none⟩=some (.slice none 0 0):=by rw [Lib.cell_of_heap cZ.out]; rfl
  have z1:wr.cell? ⟨w.heap.size,1,none⟩=some (.slice none 0 0):=by rw [Lib.cell_of_heap cZ.out]; rfl
  have f0:wr.frozen? ⟨w.heap.size,0,none⟩=false:=frozen_of_row wr w.heap.size 0 _ 25 cZ.out
  have f1:wr.frozen? ⟨w.heap.size,1,none⟩=false:=frozen_of_row wr w.heap.size 1 _ 25 cZ.out
  clear ST cZ
  go_wp2_with (go_at_call 66; refine KM.out.mono ?_; rintro e wr ⟨rfl,rfl⟩)
  refine bodyPost_ret (v:=.agg #[.slice sa L sc,.slice (some ⟨g,0,none⟩) zs.length cap]) (by simp [results,Tryz.results43,go_sem,z0,z1]) rfl ?_
  exact FIN.out _ _
 have hlt':(j:Int)<(M:Int):=by omega
 go_upto_region 5 with (go_at_call 66; refine KM.out.mono ?_; rintro e wr ⟨rfl,rfl⟩)
 rename World=>wr
 obtain ⟨g,cap,eo,hc1,hc2⟩:=ST.out.form
 subst eo
 have S1:=hideP (ST.out.keep (show Below wr.heap.size wr wr.drew from (Below.refl _ _).drew))
 clear ST KM
 refine wp_region_held (S:=fun _=>True) (by kernel_rfl) ?_
 change wpAnyH _ _ _ _ _ _ _ _ (World.drew _)
 generalize World.drew wr=wn at *
 refine tz 0 (.pointer (some ⟨w.heap.size+1+1,1,none⟩)) rfl trivial (fun w' hS=>by go_simp) ?_
 refine tz 2 (.pointer (some ⟨P,0,none⟩)) rfl trivial (fun w' hS=>by go_simp) ?_
 refine ry2 1 3 rfl rfl (fun K hK=>?_) (fun K hK=>?_)
 focus
  have cA:=S1.out.cell.2.1
  go_simp
  refine hK.out _ _ trivial (fun _=>?_)
  clear hK cA
 rotate_left
 focus
  go_simp
  refine (l1Cell_any B P _ S1.out.r).mono ?_
  rintro e w2 ⟨y,rfl,hy,hr,hg⟩
  have S2:=hideP (S1.out.next hg hr)
  have HZ:Hid (∀z∈zs++[y],-3000000000<=z/\z<=3000000000):=by
   intro z hz
   simp at hz
   rcases hz with hz | rfl
   ·exact hzr.out z hz
   exact hy
  have HL:Hid ((zs++[y]).length=j+1):=by show _=_; rw [List.length_append,hzl.out]; rfl
  clear hr hg S1 hy
  refine hK.out _ _ trivial (fun _=>?_)
  clear hK
 rotate_left
 all_goals first
  |refine wpAnyH_ready (rs:=[3]) (by kernel_rfl) (by simp) ?_
   refine AllReadyH.cons rfl (fun K hK=>?_) AllReadyH.nil
   go_simp
   refine (l1Cell_any B P _ S1.out.r).mono ?_
   rintro e w2 ⟨y,rfl,hy,hr,hg⟩
   have S2:=hideP (S1.out.next hg hr)
   have HZ:Hid (∀z∈zs++[y],-3000000000<=z/\z<=3000000000):=by
    intro z hz
    simp at hz
    rcases hz with hz | rfl
    ·exact hzr.out z hz
    exact hy
   have HL:Hid ((zs++[y]).length=j+1):=by show _=_; rw [List.length_append,hzl.out]; rfl
   clear hr hg S1 hy
   refine hK.out _ _ trivial (fun _=>?_)
   clear hK
  |refine wpAnyH_ready (rs:=[1,4]) (by kernel_rfl) (by simp) ?_
   refine AllReadyH.cons rfl (fun K hK=>?_) (AllReadyH.cons rfl (fun K hK=>?_) AllReadyH.nil)
   focus
    have cA:=S2.out.cell.2.1
    go_simp
    refine hK.out _ _ trivial (fun _=>?_)
    clear hK cA
   rotate_left
   focus
    go_simp
    have S3:Hid (FsSt B P (w.heap.size+1+1) w (.slice sa L sc) _ _ zs (w2.alloc (.cells #[.int .i64 y] 3))):=S2.out.keep ((Below.refl _ _).alloc (Nat.le_refl _) _)
    have RO:Hid (Rd (w2.heap.size+1) (w2.alloc (.cells #[.int .i64 y] 3)) (.slice (some ⟨w2.heap.size,0,none⟩) 1 1) [y]):=rd_lit1 w2 y _ (by omega)
    refine hK.out _ _ trivial (fun _=>?_)
    clear hK S2
    generalize hwz:w2.heap.size=nz at *
    generalize (w2.alloc (.cells #[.int .i64 y] 3))=w3 at *
   rotate_left
 all_goals first
  |refine wpAnyH_ready (rs:=[4]) (by kernel_rfl) (by simp) ?_
   refine AllReadyH.cons rfl (fun K hK=>?_) AllReadyH.nil
   go_simp
   have S3:Hid (FsSt B P (w.heap.size+1+1) w (.slice sa L sc) _ _ zs (w2.alloc (.cells #[.int .i64 y] 3))):=S2.out.keep ((Below.refl _ _).alloc (Nat.le_refl _) _)
   have RO:Hid (Rd (w2.heap.size+1) (w2.alloc (.cells #[.int .i64 y] 3)) (.slice (some ⟨w2.heap.size,0,none⟩) 1 1) [y]):=rd_lit1 w2 y _ (by omega)
   refine hK.out _ _ trivial (fun _=>?_)
   clear hK S2
   generalize hwz:w2.heap.size=nz at *
   generalize (w2.alloc (.cells #[.int .i64 y] 3))=w3 at *
  |refine wpAnyH_ready (rs:=[1]) (by kernel_rfl) (by simp) ?_
   refine AllReadyH.cons rfl (fun K hK=>?_) AllReadyH.nil
   have cA:=S3.out.cell.2.1
   go_simp
   refine hK.out _ _ trivial (fun _=>?_)
   clear hK cA
 all_goals
  refine ry1 5 rfl (fun K hK=>?_)
  refine step_append_at (base:=w.heap.size) _ rfl (.tmp 17) (.tmp 20) rfl (.slice (some ⟨g,0,none⟩) zs.length cap) (.slice (some ⟨nz,0,none⟩) 1 1) rfl rfl zs.length zs [y] S3.out.o RO.out (by have:=hzl.out; simp; omega) (by have:=S3.out.g.size; omega) ?_
  intro v' w4 ho hg hat
  have S4:=hideP (S3.out.app hg ho hat)
  clear ho hg hat RO
  obtain ⟨g',cap',eo',hd1,hd2⟩:=S4.out.form
  rw [show (zs++[y]).length=zs.length+1 by rw [List.length_append]; rfl] at eo'
  subst eo'
  clear hd1 hd2
  refine hK.out _ _ trivial (fun _=>?_)
  clear hK S3
 all_goals
  refine ry1 6 rfl (fun K hK=>?_)
  go_simp
  refine hK.out _ _ trivial (fun _=>?_)
  clear hK
 all_goals
  refine ry1 7 rfl (fun K hK=>?_)
  have fA:=S4.out.cell.2.2.1
  have cA:=S4.out.cell.2.1
  have S5:=hideP S4.out.put
  go_simp
  refine hK.out _ _ trivial (fun _=>?_)
  clear hK fA cA S4
  refine wpAnyH_done (by kernel_rfl) ?_ _
  go_wp2_with fail
  go_roundw
  case rel=>exact ⟨j+1,_,_,by omega,by go_num,HL.out,HZ,S5⟩
  simp [intOf]; omega
def Row (N:Nat) (w:World) (v:Value) (zs:List Int):Prop:=w.ownsRow N 3 1 v zs.length (zs.map (Value.int .i64))/\∃g,v.ownBlock=some g
theorem Row.keep {N:Nat} {w w':World} {v:Value} {zs:List Int} (h:Row N w v zs) (hb:Below w.heap.size w w'):Row N w' v zs:=⟨owns_keep h.1 hb,h.2⟩
theorem Row.other {N P:Nat} {w w':World} {v:Value} {zs:List Int} {c:Array Value} {t:TypeId} (h:Row N w v zs) (hP:w.heap[P]? = some (.cells c t (0,0))) (ht:¬t=3) (hg:w.grownBy w' (some P)):Row N w' v zs :=
 ⟨h.1.kept hg (.inr (own_blk_ne h.1 hP ht)),h.2⟩
theorem Row.base {N M:Nat} {w:World} {v:Value} {zs:List Int} (h:Row N w v zs) (hM:M<=N):Row M w v zs:=⟨owns_base h.1 hM,h.2⟩
theorem Row.form {N:Nat} {w:World} {v:Value} {zs:List Int} (h:Row N w v zs):∃g cap,v=.slice (some ⟨g,0,none⟩) zs.length cap/\zs.length<=cap/\cap<=9223372036854775807:=owns_some h.1 h.2
theorem Row.own {N:Nat} {w:World} {v:Value} {zs:List Int} (h:Row N w v zs):Own N w v zs:=own_of_any h.1
theorem ok_of {sh da:List Int} (hf:Pl.fitsB sh=true) (hl:(da.length:Int)=Pl.prodC sh) (hv:∀x∈da,-3000000000<=x/\x<=3000000000):Pl.okB sh da=true:=by
 simp only [Pl.okB,Bool.and_eq_true,decide_eq_true_eq,List.all_eq_true,Pl.valB]
 exact ⟨⟨hf,hl⟩,hv⟩
theorem own_at {B:Nat} {w:World} {ao:Option Addr} {n c:Nat} {zs:List Int} (h:Own B w (.slice ao n c) zs) (hp:0<zs.length):∃g,ao=some ⟨g,0,none⟩:=by
 obtain ⟨ao',cap',e,g⟩:=h
 simp only [Value.slice.injEq] at e
 obtain ⟨rfl,_,_⟩:=e
 rcases g with g | ⟨g,off,hB,_,e,_⟩
 ·omega
 exact ⟨g,by rw [e,hB.2.2.2]⟩
theorem same_yes (v0 v1 v2 v3:Value) (sh da:List Int) (w:World) (hl0:sh.length<=1048576) (hl1:da.length<=1048576) (h0:Rd w.heap.size w v0 sh) (h1:Rd w.heap.size w v1 da) (h2:Rd w.heap.size w v2 sh) (h3:Rd w.heap.size w v3 da) :
  Calls Tryz.prog 34 #[.agg #[v0,v1],.agg #[v2,v3]] w fun e w'=>e=.returned (.bool true)/\Below w.heap.size w w':=by
 have B:Hid (∀o o',Below w.heap.size w ((w.alloc o).alloc o')):=fun o o'=>((Below.refl _ _).alloc (Nat.le_refl _) _).alloc (by simp) _
 have K0:Hid (∀w',Below w.heap.size w w'->Calls Tryz.prog 58 #[v0,v2] w' fun e w''=>e=.returned (.bool true)/\Below w'.heap.size w' w''):=fun w' hb=>by
  have:=l2Same_any v0 v2 sh sh w' hl0 hl0 ((h0.keep hb).up hb.size) ((h2.keep hb).up hb.size)
  rw [decide_eq_true rfl] at this
  exact this
 have K1:Hid (∀w',Below w.heap.size w w'->Calls Tryz.prog 58 #[v1,v3] w' fun e w''=>e=.returned (.bool true)/\Below w'.heap.size w' w''):=fun w' hb=>by
  have:=l2Same_any v1 v3 da da w' hl1 hl1 ((h1.keep hb).up hb.size) ((h3.keep hb).up hb.size)
  rw [decide_eq_true rfl] at this
  exact this
 obtain ⟨a0,c0,e0⟩:=h0.form
 obtain ⟨a1,c1,e1⟩:=h1.form
 obtain ⟨a2,c2,e2⟩:=h2.form
 obtain ⟨a3,c3,e3⟩:=h3.form
 subst e0 e1 e2 e3
 clear h0 h1 h2 h3
 generalize sh.length=L0 at *
 generalize da.length=L1 at *
 go_enter Tryz.func34,Tryz.ntmps34
 go_wp2_with fail
 refine (K0.out _ (B.out _ _)).mono ?_
 rintro e w1 ⟨rfl,hb1⟩
 have hs1:=hb1.size
 simp at hs1
 obtain ⟨hc,hf⟩:=bcell hb1
 have q1:w1.cell? ⟨w.heap.size,1,none⟩=some (.slice a1 L1 c1):=by rw [hc w.heap.size 1 (by simp; omega)]; simp [go_sem]
 have q3:w1.cell? ⟨w.heap.size+1,1,none⟩=some (.slice a3 L1 c3):=by rw [hc (w.heap.size+1) 1 (by simp)]; simp [go_sem]
 have B1:=hideP ((B.out _ _).trans (hb1.mono (by simp; omega)))
 clear hb1 hc hf K0 B
 go_wp2_with fail
 refine (K1.out _ B1.out).mono ?_
 rintro e w2 ⟨rfl,hb2⟩
 have B2:=hideP (B1.out.trans (hb2.mono B1.out.size))
 clear hb2 q1 q3
 go_wp2_with fail
 go_ret
 exact ⟨rfl,B2.out⟩
theorem take_one_on {α:Type} (l:List α) (x:α) (r:List α) (k:Nat) (h:l.length=k):List.take (k+1) (l++x::r)=l++[x]:=by
 subst h
 have e:(l++[x]).length=l.length+1:=by simp
 rw [show l++x::r=(l++[x])++r by simp,<- e]
 exact List.take_left
theorem app_make0 (w:World) (g n cap:Nat) (ty:TypeId) (hnc:n<=cap):(Builtin.append_ #[23,3] ty #[.slice (some ⟨g,0,none⟩) n cap,.int .i64 0]).run Tryz.prog w=.ok (.slice (some ⟨g,0,none⟩) n cap) w:=by
 obtain ⟨i0,hi,hz0,hz1,hz2⟩:=info_parts Tryz.info3
 have hw:IntKind.i64.wrap 0=0:=by rw [IntKind.wrap_i64]; omega
 simp [Builtin.append_,run_underlying Tryz.underlying23,run_underlying Tryz.underlying3,sizeOf,typeInfo,hi,hw,asInt,asIntOf,hnc,storeCells]
theorem app_make1 {base g n cap:Nat} (w:World) (xs:List Int) (hown:w.ownsRow base 3 1 (.slice (some ⟨g,0,none⟩) n cap) n (xs.map (Value.int .i64))) (hn:n<=1000) (hbase:base<=w.heap.size) (ty:TypeId) :
  ∃v' w',(Builtin.append_ #[23,3] ty #[.slice (some ⟨g,0,none⟩) n cap,.int .i64 1]).run Tryz.prog w=.ok v' w'/\w'.ownsRow base 3 1 v' (n+1) ((xs++[0]).map (Value.int .i64))/\w.grownBy w' (some g)/\(v'.ownBlock=some g\/v'.ownBlock=some w.heap.size):=by
 obtain ⟨i0,hi,hz0,hz1,hz2⟩:=info_parts Tryz.info3
 have hw:IntKind.i64.wrap 1=1:=by rw [IntKind.wrap_i64]; omega
 have hzc:Builtin.zeroCells (Value.int .i64 0).cells 1=#[.int .i64 0]:=by
  apply Array.ext'
  simp [Builtin.zeroCells,Value.cells,Array.range]
 have hxl:(xs.map (Value.int .i64)).length=n:=by simpa using hown.1
 have hlen:((xs++[0]).map (Value.int .i64)).length=(n+1) * 1:=by simp at hxl ⊢; omega
 rcases hown.2 with ⟨e,_⟩ | ⟨g',cap',cur,e,hbg,hg,hnc,hcm,hcs,htake⟩
 ·simp at e
 simp only [Value.slice.injEq,Option.some.injEq,Addr.mk.injEq] at e
 obtain ⟨⟨rfl,_⟩,_,rfl⟩:=e
 by_cases hroom:n+1<=cap
 ·have hst:=run_storeCells_at Tryz.prog g n 3 [Value.int .i64 0] 0 cur w hg (by simp at hcs ⊢; omega) (by simp [Value.oneCell'])
  simp only [Nat.add_zero] at hst
  refine ⟨_,_,by simp [Builtin.append_,run_underlying Tryz.underlying23,run_underlying Tryz.underlying3,sizeOf,typeInfo,zeroValue,hi,hz0,hz1,hz2,hw,asInt,asIntOf,hroom,hzc,Addr.add_lit,hst]; rfl,⟨hlen,.inr ⟨g,cap,_,rfl,hbg,setRow_heap w g cur _ 3 _ hg,hroom,hcm,?_,?_⟩⟩,⟨rfl,rfl,rfl,by simp,fun k _ hk=>setRow_other w g k _ (fun e=>hk (by rw [e]))⟩,.inl rfl⟩
  ·simp only [List.size_toArray,List.length_append,List.length_take,Array.length_toList]
   simp at hcs ⊢
   omega
  have ht:List.take n cur.toList=xs.map (Value.int .i64):=by simpa using htake
  rw [ht]
  have e:(xs.map (Value.int .i64)++[Value.int .i64 0]).length=(n+1) * 1:=by simp at hxl ⊢; omega
  have e2:(xs++[0]).map (Value.int .i64)=xs.map (Value.int .i64)++[Value.int .i64 0]:=by simp
  rw [e2,<- e]
  simp
  exact take_one_on _ _ _ _ (by simp)
 have holds:∀j u,(xs.map (Value.int .i64))[j]? = some u->w.cell? ((⟨g,0,none⟩:Addr).add j)=some u:=hown.cells (g:=g) rfl
 have hfit:Builtin.nextslicecap (n+1) cap * i0.bytes<=281474976710656:=growslice_fits (by omega) (by rw [hz2]; omega)
 have hn1:¬(n+1<=cap):=hroom
 have h48':¬(281474976710656<Builtin.nextslicecap (n+1) cap * i0.bytes):=by omega
 have hfo:=run_firstCells_some (P:=Tryz.prog) w.drew 1 n ⟨g,0,none⟩ n cap (xs.map (Value.int .i64)) (by rw [hxl,Nat.mul_one]) (by simpa using holds)
 have hge:=grownCap_ge w (n+1) cap 3
 have hcm2:grownCap w (n+1) cap 3<=maxLen:=grownCap_le_maxLen w (n+1) cap 3 (by unfold maxLen; omega)
 refine ⟨.slice (some ⟨w.heap.size,0,none⟩) (n+1) (grownCap w (n+1) cap 3),w.drew.alloc (.cells ((xs.map (Value.int .i64)).toArray++#[.int .i64 0]++Builtin.zeroCells (Value.int .i64 0).cells (grownCap w (n+1) cap 3-(n+1))) 3),?_,⟨hlen,.inr ⟨w.heap.size,_,_,rfl,hbase,heap_alloc_new w.drew _,hge,hcm2,?_,?_⟩⟩,⟨rfl,rfl,rfl,by simp,fun k hk _=>Below.heap_alloc w.drew _ k hk⟩,.inr rfl⟩
 ·have hby:¬(281474976710656<(i0.bytes:Int)):=by rw [hz2]; decide
  have h63:¬(9223372036854775807<(n:Int)+max 1 0):=by omega
  simp [Builtin.append_,run_underlying Tryz.underlying23,run_underlying Tryz.underlying3,sizeOf,typeInfo,zeroValue,hi,hz0,hz1,hw,asInt,asIntOf,hn1,h48',hzc,hby,h63,Question.forced,hfo,newRow,grownCap]
 ·have h1:(Value.int .i64 0).cells.size=1:=rfl
  simp at hxl
  simp [size_zeroCells,h1]
  omega
 have e:(xs.map (Value.int .i64)++[Value.int .i64 0]).length=(n+1) * 1:=by simp at hxl ⊢; omega
 have e2:(xs++[0]).map (Value.int .i64)=xs.map (Value.int .i64)++[Value.int .i64 0]:=by simp
 rw [e2,<- e]
 simp
 exact take_one_on _ _ _ _ (by simp)
structure DrSt (B P:Nat) (w:World) (v0 v1:Value) (sh da:List Int) (w':World):Prop where
 o0:Row w.heap.size w' v0 sh
 o1:Row w.heap.size w' v1 da
 ne:¬v0.ownBlock=v1.ownBlock
 r:Rdr B P w'
 g:w.grownBy w' (some P)
def DrPost (B P:Nat) (w:World) (e:Ending) (w':World):Prop:=∃(v0 v1:Value) (sh da:List Int),e=.returned (.agg #[v0,v1])/\Pl.okB sh da=true/\DrSt B P w v0 v1 sh da w'
theorem DrSt.fill {B P N:Nat} {w w':World} {v0 v1:Value} {sh da:List Int} {c:Array Value} (h:DrSt B P w v0 v1 sh da w') (hB:B<=w.heap.size) (hN:w.heap.size<=N) (hP:¬N=P) (hc:w'.heap[N]? = some (.cells c 25 (0,0))) (j:Nat) (u:Value):DrSt B P w v0 v1 sh da (w'.setCell ⟨N,j,none⟩ u):=by
 have g1:=grown_set w' N j u
 refine ⟨h.o0.other hc (by decide) g1,h.o1.other hc (by decide) g1,h.ne,h.r.kept g1 (fun k hk=>?_),grown_trans h.g g1 (fun i e=>.inr (by injection e with e; omega))⟩
 injection hk with hk
 subst hk
 exact ⟨by omega,hP⟩
theorem DrSt.fill2 {B P N:Nat} {w w':World} {v0 v1:Value} {sh da:List Int} {x0 x1:Value} (h:DrSt B P w v0 v1 sh da w') (hB:B<=w.heap.size) (hN:w.heap.size<=N) (hP:¬N=P) (hc:w'.heap[N]? = some (.cells #[x0,x1] 25 (0,0))) (u0 u1:Value):DrSt B P w v0 v1 sh da ((w'.setCell ⟨N,0,none⟩ u0).setCell ⟨N,1,none⟩ u1) :=
 (h.fill hB hN hP hc 0 u0).fill hB hN hP (heap_setCell_same w' N 0 #[x0,x1] 25 u0 hc) 1 u1
theorem l1Draw_any (B P:Nat) (w:World) (hBw:B<=w.heap.size) (h:Rdr B P w):Calls Tryz.prog 70 #[.pointer (some ⟨P,0,none⟩)] w (DrPost B P w):=by
 have hPl:=h.lt
 have A1:Below w.heap.size w (w.alloc (.cells #[.slice none 0 0,.slice none 0 0] 25)):=(Below.refl _ _).alloc (Nat.le_refl _) _
 have KS:=hideP (l1Shape_any B P (w.alloc (.cells #[.slice none 0 0,.slice none 0 0] 25)) (by simp; omega) (h.keep A1))
 have GZ:Hid (w.grownBy (w.alloc (.cells #[.slice none 0 0,.slice none 0 0] 25)) (some P)):=grown_of_b A1 _
 have ZN:Hid ((w.alloc (.cells #[.slice none 0 0,.slice none 0 0] 25)).heap[w.heap.size]? = some (.cells #[.slice none 0 0,.slice none 0 0] 25 (0,0))):=heap_alloc_new w _
 have hsz:(w.alloc (.cells #[.slice none 0 0,.slice none 0 0] 25)).heap.size=w.heap.size+1:=by simp
 clear h A1
 go_enter Tryz.func70,Tryz.ntmps70
 go_wp2_with fail
 refine KS.out.mono ?_
 rintro e w1 ⟨sv,sh,rfl,hf,hns⟩
 have S1:=hideP hns
 obtain ⟨c,hc⟩:=hns.r.blk
 have V1:Hid (Row (w.heap.size+1) w1 sv sh):=⟨by have:=hns.o; rw [hsz] at this; exact this,hns.k⟩
 have KF:=hideP (l1Fill_any B P sv sh w1 hns.r hf (fun w'' hg=>(V1.out.other hc (by decide) hg).own.rd))
 obtain ⟨sg,sc,es,hs1,hs2⟩:=hns.form
 subst es
 clear hns KS
 go_wp2_with fail
 refine KF.out.mono ?_
 rintro e w2 ⟨va,da,rfl,hdl,hdr,ho,hk,hr,hg⟩
 have hs01:w.heap.size+1<=w1.heap.size:=by have:=S1.out.s; rw [hsz] at this; exact this
 have OK:=hideP (ok_of hf hdl hdr)
 have DS:Hid (DrSt B P w (.slice (some ⟨sg,0,none⟩) sh.length sc) va sh da w2):=by
  refine ⟨(V1.out.other hc (by decide) hg).base (by omega),⟨owns_base ho (by omega),hk⟩,?_,hr,grown_trans (grown_trans GZ.out S1.out.g (fun i e=>.inl (by injection e with e; exact e.symm))) hg (fun i e=>.inl (by injection e with e; exact e.symm))⟩
  intro e
  have h1:=(V1.out.1.lt sg rfl).2
  have h2:=(ho.lt sg (e.symm.trans rfl)).1
  omega
 have Z2:Hid (w2.heap[w.heap.size]? = some (.cells #[.slice none 0 0,.slice none 0 0] 25 (0,0))):=((hg.block _ (by omega) (by intro e; injection e with e; omega)).trans (S1.out.g.block _ (by omega) (by intro e; injection e with e; omega))).trans ZN.out
 obtain ⟨dg,dc,ed,hd1,hd2⟩:=DS.out.o1.form
 subst ed
 clear hf hdl hdr ho hk hr hg KF V1 hc S1 GZ ZN
 have r0:w2.cell? ⟨w.heap.size,0,none⟩=some (.slice none 0 0):=by rw [Lib.cell_of_heap Z2.out]; rfl
 have r1:w2.cell? ⟨w.heap.size,1,none⟩=some (.slice none 0 0):=by rw [Lib.cell_of_heap Z2.out]; rfl
 have f2:∀o,w2.frozen? ⟨w.heap.size,o,none⟩=false:=fun o=>frozen_blk Z2.out
 go_wp2_with fail
 refine bodyPost_ret (v:=.agg #[.slice (some ⟨sg,0,none⟩) sh.length sc,.slice (some ⟨dg,0,none⟩) da.length dc]) (by simp [results,Tryz.results70,go_sem,r0,r1]) rfl ⟨_,_,sh,da,rfl,OK.out,DS.out.fill2 hBw (Nat.le_refl _) (by omega) Z2.out _ _⟩
def K25 (w0 w:World):Prop:=∀(b:Nat) (c:Array Value),w0.heap[b]? = some (.cells c 25 (0,0))->w.heap[b]? = some (.cells c 25 (0,0))
theorem K25.keep {w0 w w':World} (h:K25 w0 w) (hb:Below w.heap.size w w'):K25 w0 w':=fun b c hc=>(hb.block _ (Array.getElem?_eq_some_iff.1 (h b c hc)).1).trans (h b c hc)
theorem K25.row {w0 w w':World} {r:Option Nat} (h:K25 w0 w) (hg:w.grownBy w' r) (hr:∀b c,w.heap[b]? = some (.cells c 25 (0,0))->¬r=some b):K25 w0 w':=fun b c hc=>(hg.block _ (Array.getElem?_eq_some_iff.1 (h b c hc)).1 (fun e=>hr b c (h b c hc) e.symm)).trans (h b c hc)
theorem K25.set {w0 w:World} (h:K25 w0 w) {X:Nat} (hX:w0.heap.size<=X) (j:Nat) (v:Value):K25 w0 (w.setCell ⟨X,j,none⟩ v):=fun b c hc=>((grown_set w X j v).block _ (Array.getElem?_eq_some_iff.1 (h b c hc)).1 (fun e=>by injection e with e; have:=(Array.getElem?_eq_some_iff.1 hc).1; omega)).trans (h b c hc)
theorem K25.next {B P:Nat} {w0 w w':World} (h:K25 w0 w) (hg:w.grownBy w' (some P)) (hr:Rdr B P w):K25 w0 w':=h.row hg (fun b c hc e=>by
 injection e with e
 subst e
 obtain ⟨c',hc'⟩:=hr.blk
 rw [hc'] at hc
 injection hc with hc
 injection hc with _ h2
 exact absurd h2 (by decide))
theorem K25.own {E:Nat} {w0 w w':World} {u:Value} {zs:List Int} (h:K25 w0 w) (hu:Row E w u zs) (hg:w.grownBy w' u.ownBlock):K25 w0 w':=h.row hg (fun b c hc e=>own_blk_ne hu.1 hc (by decide) e)
def Kb (E P:Nat) (w0 w:World):Prop:=∀b,b<E->¬b=P->w.heap[b]? = w0.heap[b]?
theorem Kb.keep {E P:Nat} {w0 w w':World} (h:Kb E P w0 w) (hE:E<=w.heap.size) (hb:Below w.heap.size w w'):Kb E P w0 w':=fun b h1 h2=>(hb.block b (by omega)).trans (h b h1 h2)
theorem Kb.grown {E P:Nat} {w0 w w':World} {r:Option Nat} (h:Kb E P w0 w) (hE:E<=w.heap.size) (hg:w.grownBy w' r) (hr:∀k,r=some k->E<=k\/k=P):Kb E P w0 w':=fun b h1 h2=>(hg.block b (by omega) (fun e=>by rcases hr b e.symm with q | q <;> omega)).trans (h b h1 h2)
theorem Kb.set {E P:Nat} {w0 w:World} (h:Kb E P w0 w) (hE:E<=w.heap.size) {X:Nat} (hX:E<=X) (j:Nat) (v:Value):Kb E P w0 (w.setCell ⟨X,j,none⟩ v):=h.grown hE (grown_set w X j v) (fun k hk=>by injection hk with hk; omega)
structure SpSt (B E P A:Nat) (w0:World) (v0 v1:Value) (sh da:List Int) (w:World):Prop where
 o0:Row E w v0 sh
 o1:Row E w v1 da
 ne:¬v1.ownBlock=v0.ownBlock
 r:Rdr B P w
 a:w.heap[A]? = some (.cells #[v0,v1] 25 (0,0))
 z:w.heap[A+1]? = some (.cells #[.slice none 0 0,.slice none 0 0] 25 (0,0))
 b:Below B w0 w
 p:P<A
 k:E<=w.heap.size
 bA:E<=A
 f:K25 w0 w
 aA:w0.heap.size<=A
 be:B<=E
 g:Kb E P w0 w
theorem SpSt.lt {B E P A:Nat} {w0 w:World} {v0 v1:Value} {sh da:List Int} (h:SpSt B E P A w0 v0 v1 sh da w):A+1<w.heap.size:=(Array.getElem?_eq_some_iff.1 h.z).1
theorem SpSt.keep {B E P A:Nat} {w0 w w':World} {v0 v1:Value} {sh da:List Int} (h:SpSt B E P A w0 v0 v1 sh da w) (hb:Below w.heap.size w w'):SpSt B E P A w0 v0 v1 sh da w' :=
 ⟨h.o0.keep hb,h.o1.keep hb,h.ne,h.r.keep hb,(hb.block _ (by have:=h.lt; omega)).trans h.a,(hb.block _ h.lt).trans h.z,h.b.trans (hb.mono (Nat.le_trans h.be h.k)),h.p,Nat.le_trans h.k hb.size,h.bA,h.f.keep hb,h.aA,h.be,h.g.keep h.k hb⟩
theorem SpSt.next {B E P A:Nat} {w0 w w':World} {v0 v1:Value} {sh da:List Int} (h:SpSt B E P A w0 v0 v1 sh da w) (hg:w.grownBy w' (some P)) (hr:Rdr B P w'):SpSt B E P A w0 v0 v1 sh da w':=by
 obtain ⟨c,hc⟩:=h.r.blk
 have hp:=h.p
 have hl:=h.lt
 exact ⟨h.o0.other hc (by decide) hg,h.o1.other hc (by decide) hg,h.ne,hr,(hg.block _ (by omega) (by intro e; injection e with e; omega)).trans h.a,(hg.block _ hl (by intro e; injection e with e; omega)).trans h.z,h.b.trans (grown_below hg h.r.1 (Nat.le_trans h.be h.k)),h.p,Nat.le_trans h.k hg.size,h.bA,h.f.next hg h.r,h.aA,h.be,h.g.grown h.k hg (fun k hk=>by injection hk with hk; exact .inr hk.symm)⟩
theorem SpSt.cells {B E P A:Nat} {w0 w:World} {v0 v1:Value} {sh da:List Int} (h:SpSt B E P A w0 v0 v1 sh da w):(w.cell? ⟨A,0,none⟩=some v0/\w.cell? ⟨A,1,none⟩=some v1/\∀o,w.frozen? ⟨A,o,none⟩=false)/\(w.cell? ⟨A+1,0,none⟩=some (.slice none 0 0)/\w.cell? ⟨A+1,1,none⟩=some (.slice none 0 0)/\∀o,w.frozen? ⟨A+1,o,none⟩=false) :=
 ⟨⟨by rw [Lib.cell_of_heap h.a]; rfl,by rw [Lib.cell_of_heap h.a]; rfl,fun o=>frozen_blk h.a⟩,⟨by rw [Lib.cell_of_heap h.z]; rfl,by rw [Lib.cell_of_heap h.z]; rfl,fun o=>frozen_blk h.z⟩⟩
theorem SpSt.put0 {B E P A:Nat} {w0 w:World} {v0 v1 v:Value} {sh da zs:List Int} (h:SpSt B E P A w0 v0 v1 sh da w) (hv:Row E w v zs) (hn:¬v1.ownBlock=v.ownBlock):SpSt B E P A w0 v v1 zs da (w.setCell ⟨A,0,none⟩ v):=by
 have hg:=grown_set w A 0 v
 have hp:=h.p
 have hl:=h.lt
 have ha:=h.bA
 have hbe:=h.be
 exact ⟨hv.other h.a (by decide) hg,h.o1.other h.a (by decide) hg,hn,h.r.kept hg (fun k hk=>by injection hk with hk; omega),heap_setCell_same w A 0 #[v0,v1] 25 v h.a,(hg.block _ hl (by intro e; injection e with e; omega)).trans h.z,h.b.setCell (by show B<=A; omega) _,h.p,by have:=h.k; simpa using this,h.bA,h.f.set h.aA _ _,h.aA,h.be,h.g.set h.k h.bA _ _⟩
theorem SpSt.put1 {B E P A:Nat} {w0 w:World} {v0 v1 v:Value} {sh da zs:List Int} (h:SpSt B E P A w0 v0 v1 sh da w) (hv:Row E w v zs) (hn:¬v.ownBlock=v0.ownBlock):SpSt B E P A w0 v0 v sh zs (w.setCell ⟨A,1,none⟩ v):=by
 have hg:=grown_set w A 1 v
 have hp:=h.p
 have hl:=h.lt
 have ha:=h.bA
 have hbe:=h.be
 exact ⟨h.o0.other h.a (by decide) hg,hv.other h.a (by decide) hg,hn,h.r.kept hg (fun k hk=>by injection hk with hk; omega),heap_setCell_same w A 1 #[v0,v1] 25 v h.a,(hg.block _ hl (by intro e; injection e with e; omega)).trans h.z,h.b.setCell (by show B<=A; omega) _,h.p,by have:=h.k; simpa using this,h.bA,h.f.set h.aA _ _,h.aA,h.be,h.g.set h.k h.bA _ _⟩
theorem SpSt.row {B E P A:Nat} {w0 w w':World} {v0 v1:Value} {sh da:List Int} (h:SpSt B E P A w0 v0 v1 sh da w) {u:Value} {zs:List Int} (hu:Row E w u zs) (hg:w.grownBy w' u.ownBlock) :
  w'.heap[A]? = some (.cells #[v0,v1] 25 (0,0))/\w'.heap[A+1]? = some (.cells #[.slice none 0 0,.slice none 0 0] 25 (0,0))/\Rdr B P w'/\Below B w0 w'/\E<=w'.heap.size/\Kb E P w0 w':=by
 obtain ⟨c,hc⟩:=h.r.blk
 have hl:=h.lt
 refine ⟨(hg.block _ (by omega) (fun e=>own_blk_ne hu.1 h.a (by decide) e.symm)).trans h.a,(hg.block _ hl (fun e=>own_blk_ne hu.1 h.z (by decide) e.symm)).trans h.z,h.r.kept hg (fun k hk=>⟨Nat.le_trans h.be (hu.1.lt k hk).1,fun e=>own_blk_ne hu.1 hc (by decide) (by rw [hk,e])⟩),h.b.grown hg (Nat.le_trans h.be h.k) (fun k hk=>Nat.le_trans h.be (hu.1.lt k hk).1),Nat.le_trans h.k hg.size,h.g.grown h.k hg (fun k hk=>.inl (hu.1.lt k hk).1)⟩
def SpPost (B E P:Nat) (w:World) (e:Ending) (w':World):Prop:=∃(v0 v1:Value) (sh da:List Int),e=.returned (.agg #[v0,v1])/\sh.length<=4/\da.length<=1001/\Row E w' v0 sh/\Row E w' v1 da/\Below B w w'/\K25 w w'/\¬v1.ownBlock=v0.ownBlock/\Rdr B P w'/\Kb E P w w'
theorem SpSt.done {B E P A:Nat} {w0 w:World} {v0 v1:Value} {sh da:List Int} (h:SpSt B E P A w0 v0 v1 sh da w) (hs:sh.length<=4) (hd:da.length<=1001):SpPost B E P w0 (.returned (.agg #[v0,v1])) ((w.setCell ⟨A+1,0,none⟩ v0).setCell ⟨A+1,1,none⟩ v1):=by
 have g1:=grown_set w (A+1) 0 v0
 have g2:=grown_set (w.setCell ⟨A+1,0,none⟩ v0) (A+1) 1 v1
 have z1:=heap_setCell_same w (A+1) 0 #[.slice none 0 0,.slice none 0 0] 25 v0 h.z
 have:=h.bA
 have hbe:=h.be
 have hp:=h.p
 have hz:E<=(w.setCell ⟨A+1,0,none⟩ v0).heap.size:=by simpa using h.k
 exact ⟨v0,v1,sh,da,rfl,hs,hd,(h.o0.other h.z (by decide) g1).other z1 (by decide) g2,(h.o1.other h.z (by decide) g1).other z1 (by decide) g2,(h.b.setCell (by show B<=A+1; omega) _).setCell (by show B<=A+1; omega) _,(h.f.set (by have:=h.aA; omega) _ _).set (by have:=h.aA; omega) _ _,h.ne,(h.r.kept g1 (fun k hk=>by injection hk with hk; omega)).kept g2 (fun k hk=>by injection hk with hk; omega),(h.g.set h.k (by omega) _ _).set hz (by omega) _ _⟩
theorem SpSt.app0 {B E P A:Nat} {w0 w w':World} {v0 v1 v':Value} {sh da:List Int} {x:Int} (h:SpSt B E P A w0 v0 v1 sh da w) (hg:w.grownBy w' v0.ownBlock) (ho:w'.ownsRow E 3 1 v' (sh.length+1) (sh.map (Value.int .i64)++[.int .i64 x]))
  {m:Nat} (hm:w.heap.size<=m) (hat:v'.ownBlock=v0.ownBlock\/v'.ownBlock=some m):SpSt B E P A w0 v' v1 (sh++[x]) da (w'.setCell ⟨A,0,none⟩ v'):=by
 obtain ⟨a1,a2,a3,a4,a5,a6⟩:=h.row h.o0 hg
 have o1:Row E w' v1 da:=⟨h.o1.1.kept hg (.inr h.ne),h.o1.2⟩
 have hv:Row E w' v' (sh++[x]):=⟨by rw [List.length_append,List.map_append]; exact ho,by
  rcases hat with e | e
  ·rw [e]; exact h.o0.2
  exact ⟨_,e⟩⟩
 have hn:¬v1.ownBlock=v'.ownBlock:=by
  rcases hat with e | e
  ·rw [e]; exact h.ne
  rw [e]; intro e'
  have:=(h.o1.1.lt _ e').2
  omega
 have hg2:=grown_set w' A 0 v'
 have hl:A+1<w'.heap.size:=(Array.getElem?_eq_some_iff.1 a2).1
 have hp:=h.p
 have ha:=h.bA
 have hbe:=h.be
 exact ⟨hv.other a1 (by decide) hg2,o1.other a1 (by decide) hg2,hn,a3.kept hg2 (fun k hk=>by injection hk with hk; omega),heap_setCell_same w' A 0 #[v0,v1] 25 v' a1,(hg2.block _ hl (by intro e; injection e with e; omega)).trans a2,a4.setCell (by show B<=A; omega) _,h.p,by simpa using a5,h.bA,(h.f.own h.o0 hg).set h.aA _ _,h.aA,h.be,a6.set a5 h.bA _ _⟩
theorem SpSt.app1 {B E P A:Nat} {w0 w w':World} {v0 v1 v':Value} {sh da:List Int} {x:Int} (h:SpSt B E P A w0 v0 v1 sh da w) (hg:w.grownBy w' v1.ownBlock) (ho:w'.ownsRow E 3 1 v' (da.length+1) (da.map (Value.int .i64)++[.int .i64 x]))
  {m:Nat} (hm:w.heap.size<=m) (hat:v'.ownBlock=v1.ownBlock\/v'.ownBlock=some m):SpSt B E P A w0 v0 v' sh (da++[x]) (w'.setCell ⟨A,1,none⟩ v'):=by
 obtain ⟨a1,a2,a3,a4,a5,a6⟩:=h.row h.o1 hg
 have o0:Row E w' v0 sh:=⟨h.o0.1.kept hg (.inr (fun e=>h.ne e.symm)),h.o0.2⟩
 have hv:Row E w' v' (da++[x]):=⟨by rw [List.length_append,List.map_append]; exact ho,by
  rcases hat with e | e
  ·rw [e]; exact h.o1.2
  exact ⟨_,e⟩⟩
 have hn:¬v'.ownBlock=v0.ownBlock:=by
  rcases hat with e | e
  ·rw [e]; exact h.ne
  rw [e]; intro e'
  have:=(h.o0.1.lt _ e'.symm).2
  omega
 have hg2:=grown_set w' A 1 v'
 have hl:A+1<w'.heap.size:=(Array.getElem?_eq_some_iff.1 a2).1
 have hp:=h.p
 have ha:=h.bA
 have hbe:=h.be
 exact ⟨o0.other a1 (by decide) hg2,hv.other a1 (by decide) hg2,hn,a3.kept hg2 (fun k hk=>by injection hk with hk; omega),heap_setCell_same w' A 1 #[v0,v1] 25 v' a1,(hg2.block _ hl (by intro e; injection e with e; omega)).trans a2,a4.setCell (by show B<=A; omega) _,h.p,by simpa using a5,h.bA,(h.f.own h.o1 hg).set h.aA _ _,h.aA,h.be,a6.set a5 h.bA _ _⟩
theorem SpSt.cell {B E P A g n cap:Nat} {w0 w:World} {v0:Value} {sh da:List Int} (h:SpSt B E P A w0 v0 (.slice (some ⟨g,0,none⟩) n cap) sh da w) (hn:da.length=n) (q:Nat) (x:Int):SpSt B E P A w0 v0 (.slice (some ⟨g,0,none⟩) n cap) sh (da.set q x) (w.setCell ⟨g,q,none⟩ (.int .i64 x)):=by
 subst hn
 have hg:=grown_set w g q (.int .i64 x)
 obtain ⟨a1,a2,a3,a4,a5,a6⟩:=h.row h.o1 (u:=.slice (some ⟨g,0,none⟩) da.length cap) hg
 have o0:Row E _ v0 sh:=⟨h.o0.1.kept hg (.inr (fun e=>h.ne e.symm)),h.o0.2⟩
 have hst:=(h.o1.1.stored q (.int .i64 x)).1
 exact ⟨o0,⟨by rw [List.length_set,List.map_set]; exact hst,h.o1.2⟩,h.ne,a3,a1,a2,a4,h.p,a5,h.bA,h.f.own h.o1 hg,h.aA,h.be,a6⟩
end Go.Proofs.YtacapaiadggemaaGreat
