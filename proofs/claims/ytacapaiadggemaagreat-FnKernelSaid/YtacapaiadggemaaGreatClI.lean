import Derived.Test.YtacapaiadggemaaGreatSpecO
import Derived.Test.YtacapaiadggemaaGreatDyP
import Derived.Test.YtacapaiadggemaaGreatRows2
namespace Go.Proofs.YtacapaiadggemaaGreat
open Go.RowKit
set_option linter.unusedVariables false
def Keep (w0:World) (P:Nat) (row:Option Nat) (w:World):Prop:=w0.heap.size<=w.heap.size/\∀b,b<w0.heap.size->¬b=P->¬row=some b->w.heap[b]? = w0.heap[b]?
theorem Keep.refl (w0:World) (P:Nat) (row:Option Nat):Keep w0 P row w0:=⟨Nat.le_refl _,fun _ _ _ _=>rfl⟩
theorem Keep.grown {w0 w w':World} {P:Nat} {row:Option Nat} (h:Keep w0 P row w) (hg:w.grownBy w' row):Keep w0 P row w':=by
 refine ⟨Nat.le_trans h.1 hg.size,fun b hb h1 h2=>?_⟩
 rw [<- h.2 b hb h1 h2]
 exact hg.block b (by have:=h.1; omega) (fun e=>h2 e.symm)
theorem Keep.below {w0 w w':World} {P:Nat} {row:Option Nat} (h:Keep w0 P row w) (hb:Below w.heap.size w w'):Keep w0 P row w':=by
 refine ⟨Nat.le_trans h.1 hb.size,fun b hlt h1 h2=>?_⟩
 rw [<- h.2 b hlt h1 h2]
 exact (grown_of_below hb).block b (by have:=h.1; omega) (by simp)
theorem Keep.set {w0 w:World} {P o:Nat} {row:Option Nat} (h:Keep w0 P row w) (v:Value):Keep w0 P row (w.setCell ⟨P,o,none⟩ v):=by
 refine ⟨by simpa using h.1,fun b hb h1 h2=>?_⟩
 rw [<- h.2 b hb h1 h2]
 exact heap_setCell_other _ _ _ _ h1
theorem Keep.cell {w0 w:World} {P b o:Nat} {row:Option Nat} {v:Value} (h:Keep w0 P row w) (h1:¬b=P) (h2:¬row=some b) (hc:w0.cell? ⟨b,o,none⟩=some v):w.cell? ⟨b,o,none⟩=some v:=by
 have hb:=World.block_lt_of_cell? w0 _ hc
 rw [<- hc]
 exact World.cell?_of_block (h.2 b hb h1 h2)
set_option maxRecDepth 100000
set_option maxHeartbeats 16000000
namespace Pl
open Go.RowKit
set_option linter.unusedVariables false
def catZ (zz:Nat->List Int) (j:Nat):List Int:=(List.range j).flatMap zz
theorem catZ_succ (zz:Nat->List Int) (j:Nat):catZ zz (j+1)=catZ zz j++zz j:=by
 unfold catZ
 rw [List.range_succ,List.flatMap_append]
 simp
end Pl
end Go.Proofs.YtacapaiadggemaaGreat
namespace Go.Proofs.YtacapaiadggemaaGreat
open Go.RowKit
set_option linter.unusedVariables false
theorem apart_lo {A B:Nat} {w:World} {u0 u1:Value} {sh da:List Int} (h:Own B w u0 sh) (h1:da.length=0\/∀b,u1.ownBlock=some b->b<A) (hA:A<=B):Apart u0 u1 sh da:=by
 obtain ⟨ao,cap,rfl,h⟩:=h
 rcases h1 with h1 | h1
 ·exact .inr (.inl h1)
 rcases h with h | ⟨g,off,hB,_,rfl,_⟩
 ·exact .inl h
 refine .inr (.inr fun b e0 e1=>?_)
 have:=h1 b e1
 simp [Value.ownBlock] at e0
 omega
theorem l2Stack_any (rp:Option Addr) (rb k rcap:Nat) (dv:Nat->Value) (zz:Nat->List Int) (sv:Value) (st:List Int) (w:World) (hrp:0<k->rp=some ⟨rb,0,none⟩) (hk:k<=1000) (hrb:0<k->rb<w.heap.size)
  (hc:∀i,i<k->w.cell? ⟨rb,i * 2+1,none⟩=some (dv i)) (hd:∀i,i<k->Rd w.heap.size w (dv i) (zz i)) (hs:Rd w.heap.size w sv st) (hl:∀j,j<=k->(Pl.catZ zz j).length<=1000) (hst:st.length<=2) (hf:Pl.fitsB ((k:Int)::st)=true) :
  Calls Tryz.prog 142 #[sv,.slice rp k rcap] w (FPost w 0 ((k:Int)::st) (Pl.catZ zz k)):=by
 have HC:=hideP hc
 have HD:=hideP hd
 have HL:=hideP hl
 have HP:=hideP hrp
 have HB:=hideP hrb
 have HS:=hideP hs
 have HFI:=hideP hf
 obtain ⟨a0,d0,e0⟩:=hs.form
 subst e0
 clear hc hd hl hrp hrb hs hf
 have A:Hid (∀o o',Below w.heap.size w ((w.alloc o).alloc o')):=fun o o'=>((Below.refl _ _).alloc (Nat.le_refl _) _).alloc (by simp) _
 have PB:Hid (∀W,Below (w.heap.size+1) (w.alloc (.cells #[.slice none 0 0,.slice none 0 0] 25)) W->(W.cell? ⟨w.heap.size,0,none⟩=some (.slice none 0 0)/\W.cell? ⟨w.heap.size,1,none⟩=some (.slice none 0 0)/\∀o,W.frozen? ⟨w.heap.size,o,none⟩=false)/\Below w.heap.size w W):=fun W hb=>by
  have c:=fun o=>hb.cell (p:=⟨w.heap.size,o,none⟩) (by show w.heap.size<_; omega)
  have f:=fun o=>hb.frozen (p:=⟨w.heap.size,o,none⟩) (by show w.heap.size<_; omega)
  refine ⟨⟨by rw [c]; simp [go_sem],by rw [c]; simp [go_sem],fun o=>by rw [f]; simp [go_sem]⟩,?_⟩
  exact ((Below.refl _ _).alloc (Nat.le_refl _) _).trans (hb.mono (by omega))
 have OE:Hid (((w.alloc (.cells #[.slice none 0 0,.slice none 0 0] 25)).alloc (.cells #[] 3)).ownsRow (w.heap.size+1) 3 1 (.slice (some ⟨w.heap.size+1,0,none⟩) 0 0) 0 (([]:List Int).map (Value.int .i64))):=by
  have:=owns_empty (w.alloc (.cells #[.slice none 0 0,.slice none 0 0] 25)) (w.heap.size+1) (by simp)
  have e:(w.alloc (.cells #[.slice none 0 0,.slice none 0 0] 25)).heap.size=w.heap.size+1:=by simp
  rw [e] at this
  exact this
 go_enter Tryz.func142,Tryz.ntmps142
 go_wp2_with fail
 go_loopw [6,7] (fun dvv i wr=>∃j:Nat,j<=k/\i=.int .i64 j/\Hid (wr.ownsRow (w.heap.size+1) 3 1 dvv (Pl.catZ zz j).length ((Pl.catZ zz j).map (Value.int .i64)))/\Hid (Below (w.heap.size+1) (w.alloc (.cells #[.slice none 0 0,.slice none 0 0] 25)) wr)) (fun _ i _=>k-(intOf i).toNat)
 case atStart=>exact ⟨0,Nat.zero_le _,rfl,OE,(Below.refl _ _).alloc (by simp) _⟩
 obtain ⟨j,hj,rfl,ho,hbel⟩:=hrel
 have X:=hideP (PB.out _ hbel.out)
 have hsw:w.heap.size+1<=wr.heap.size:=by have:=hbel.out.size; simpa using this
 obtain ⟨xo,yo,eo⟩:=owns_form ho.out
 subst eo
 by_cases hlt:j<k
 ·have hlt':(j:Int)<(k:Int):=by omega
  have hrp:=HP.out (by omega)
  have hrb:=HB.out (by omega)
  obtain ⟨xa,xc,ed⟩:=(HD.out j hlt).form
  have RD:=hideP (((HD.out j hlt).keep X.out.2).up X.out.2.size)
  have hck:wr.cell? ⟨rb,j * 2+1,none⟩=some (.slice xa (zz j).length xc):=by
   rw [<- ed]
   exact (X.out.2.cell (p:=⟨rb,j * 2+1,none⟩) hrb).trans (HC.out j hlt)
  rw [ed] at RD
  have SU:=hideP (Pl.catZ_succ zz j)
  have UB:Hid ((Pl.catZ zz j).length+(zz j).length<=16777216):=by
   have:=HL.out (j+1) (by omega)
   rw [SU.out,List.length_append] at this
   show _<=_
   omega
  subst hrp
  clear ed
  generalize zz j=zj at *
  go_wp2_with (at_builtin; refine wpList_append_rd_at (base:=w.heap.size+1) _ rfl _ _ rfl _ _ rfl rfl _ _ _ ho.out RD.out UB.out hsw ?_)
  intro v' w5 ho5 hg5 _
  have D5:Hid (Below (w.heap.size+1) (w.alloc (.cells #[.slice none 0 0,.slice none 0 0] 25)) w5):=hbel.out.grown hg5 hsw (fun k hk=>(ho.out.lt k hk).1)
  have O5:Hid (w5.ownsRow (w.heap.size+1) 3 1 v' (Pl.catZ zz (j+1)).length ((Pl.catZ zz (j+1)).map (Value.int .i64))):=by
   show World.ownsRow _ _ _ _ _ _ _
   rw [SU.out,List.length_append,List.map_append]
   exact ho5
  clear ho5 hg5 hck
  go_wp2_with fail
  go_roundw
  case rel=>exact ⟨j+1,by omega,by go_num,O5,D5⟩
  simp [intOf]; omega
 have jn:j=k:=by omega
 subst jn
 have A1:Hid (Below wr.heap.size wr (wr.alloc (.cells #[.int .i64 (j:Int)] 3))):=(Below.refl _ _).alloc (Nat.le_refl _) _
 have RS:=hideP (((HS.out.keep X.out.2).up X.out.2.size).keep A1.out)
 have OL:=hideP (owns_one wr (j:Int) wr.heap.size (Nat.le_refl _))
 have OD:=hideP (own_of_any ho.out)
 go_wp2_with (at_builtin; refine wpList_append_rd_at (base:=wr.heap.size) _ rfl _ _ rfl _ _ rfl rfl 1 [(j:Int)] st OL.out RS.out (by omega) (by simp) ?_)
 intro v' w5 ho5 hg5 _
 have B5:Hid (Below wr.heap.size wr w5):=A1.out.grown hg5 (by simp) (fun k hk=>(OL.out.lt k hk).1)
 have O5:Hid (w5.ownsRow wr.heap.size 3 1 v' ((j:Int)::st).length (((j:Int)::st).map (Value.int .i64))):=by
  have:=ho5
  rw [Nat.add_comm] at this
  exact this
 obtain ⟨xs,ys,es⟩:=owns_form O5.out
 subst es
 clear ho5 hg5
 have KM:Hid (Calls Tryz.prog 62 #[.slice xs ((j:Int)::st).length ys,.slice xo (Pl.catZ zz j).length yo] w5 fun e w'=>e=.returned (.tuple #[.agg #[.slice xs ((j:Int)::st).length ys,.slice xo (Pl.catZ zz j).length yo],.int .i64 0])/\Below w5.heap.size w5 w'):=(l2Made_any _ xs xo _ ys yo ((j:Int)::st) w5 (by simp; omega) (own_of_any O5.out).rd (Nat.le_refl _)).mono (by
  rintro e w' ⟨hb,⟨_,rfl⟩ | ⟨hf,_⟩⟩
  ·exact ⟨rfl,hb⟩
  rw [HFI.out] at hf; cases hf)
 have eL:((j:Int)::st).length=st.length+1:=rfl
 go_wp2_with fail
 refine KM.out.mono ?_
 rintro e w6 ⟨rfl,hb6⟩
 have B6:=hideP (B5.out.trans (hb6.mono B5.out.size))
 have X6:=hideP (PB.out _ (hbel.out.trans (B6.out.mono hsw)))
 have O6:=hideP ((own_of_any O5.out).keep hb6)
 have D6:=hideP (OD.out.keep B6.out)
 have AP:=hideP (apart_lo (u0:=.slice xs ((j:Int)::st).length ys) (own_of_any O5.out) OD.out.lt (Nat.le_refl _))
 have hs6:=B6.out.size
 clear hb6
 have r0:=X6.out.1.1
 have r1:=X6.out.1.2.1
 have f2:=X6.out.1.2.2
 go_wp2_with fail
 refine bodyPost_ret (v:=.tuple #[.agg #[.slice xs ((j:Int)::st).length ys,.slice xo (Pl.catZ zz j).length yo],.int .i64 0]) (by simp [results,Tryz.results142,go_sem,r0,r1]) rfl ⟨(X6.out.2.setCell (by simp) _).setCell (by simp) _,_,_,rfl,?_,?_,AP.out⟩
 ·exact Own.base (Own.store (Own.store O6.out (by omega) _) (by omega) _) (by omega)
 exact Own.base (Own.store (Own.store D6.out (by omega) _) (by omega) _) (by omega)
namespace Pl
def rowZ (db:List Int) (TP n:Nat) (k:Int):List Int:=if 0<=k/\k<n then (db.drop (k.toNat * TP)).take TP else List.replicate TP 0
theorem catZ_add (zz:Nat->List Int) (p q:Nat):catZ zz (p+q)=catZ zz p++catZ (fun t=>zz (p+t)) q:=by
 induction q with
 |zero=>simp [catZ]
 |succ q ih=>rw [<- Nat.add_assoc,catZ_succ,ih,catZ_succ,List.append_assoc]
theorem catZ_congr {zz yy:Nat->List Int} (m:Nat) (h:∀t,t<m->zz t=yy t):catZ zz m=catZ yy m:=by
 induction m with
 |zero=>rfl
 |succ m ih=>rw [catZ_succ,catZ_succ,ih (fun t ht=>h t (by omega)),h m (by omega)]
theorem span_in (db:List Int) (TP n:Nat) (i:Int) (a m:Nat) (hi:i=a) (hm:a+m<=n):catZ (fun t=>rowZ db TP n (i+t)) m=(db.drop (a * TP)).take (m * TP):=by
 subst hi
 induction m with
 |zero=>simp [catZ]
 |succ m ih =>
  rw [catZ_succ,ih (by omega),Nat.succ_mul,List.take_add]
  congr 1
  unfold rowZ
  rw [if_pos (by omega),List.drop_drop]
  congr 2
  rw [<- Nat.add_mul]
  congr 1
theorem span_out (db:List Int) (TP n:Nat) (i:Int) (m:Nat) (h:∀t:Nat,t<m->¬(0<=i+t/\i+t<n)):catZ (fun t=>rowZ db TP n (i+t)) m=List.replicate (m * TP) 0:=by
 induction m with
 |zero=>simp [catZ]
 |succ m ih =>
  rw [catZ_succ,ih (fun t ht=>h t (by omega)),Nat.succ_mul,<- List.replicate_append_replicate]
  congr 1
  unfold rowZ
  rw [if_neg (h m (by omega))]
theorem rowZ_len (db:List Int) (TP n:Nat) (k:Int) (h:n * TP<=db.length):(rowZ db TP n k).length=TP:=by
 unfold rowZ
 split
 ·rename_i hk
  have h1:(k.toNat+1) * TP<=n * TP:=Nat.mul_le_mul_right TP (by omega)
  rw [Nat.succ_mul] at h1
  rw [List.length_take,List.length_drop]
  omega
 simp
theorem catZ_len {zz:Nat->List Int} {TP:Nat} (h:∀t,(zz t).length=TP) (m:Nat):(catZ zz m).length=m * TP:=by
 induction m with
 |zero=>simp [catZ]
 |succ m ih=>rw [catZ_succ,List.length_append,ih,h,Nat.succ_mul]
theorem span_take_neg (db:List Int) (TP n W t:Nat) (x i:Int) (hx:x<0) (hW:max x (-x)=W) (ht:gone x n=t) (hi:i=n+x):catZ (fun t=>rowZ db TP n (i+t)) W=takeD x n TP W t db:=by
 have e1:(W:Int)=-x:=by omega
 have e2:t=min W n:=by unfold gone at ht; rw [hW] at ht; omega
 unfold takeD
 rw [if_pos hx]
 obtain ⟨d,hd⟩:∃d,W=d+t:=⟨W-t,by omega⟩
 have hd':W-t=d:=by omega
 rw [hd',hd,catZ_add,span_out _ _ _ _ _ (fun s hs=>by omega)]
 congr 1
 have e3:n * TP-(n-t) * TP=t * TP:=by rw [<- Nat.sub_mul]; congr 1; omega
 rw [e3,<- span_in db TP n ((n-t:Nat):Int) (n-t) t rfl (by omega)]
 refine catZ_congr t (fun s hs=>?_)
 show rowZ _ _ _ _=rowZ _ _ _ _
 congr 1
 omega
theorem span_take_pos (db:List Int) (TP n W t:Nat) (x:Int) (hx:¬x<0) (hW:max x (-x)=W) (ht:gone x n=t):catZ (fun t=>rowZ db TP n (0+t)) W=takeD x n TP W t db:=by
 have e2:t=min W n:=by unfold gone at ht; rw [hW] at ht; omega
 unfold takeD
 rw [if_neg hx]
 obtain ⟨d,hd⟩:∃d,W=t+d:=⟨W-t,by omega⟩
 have hd':W-t=d:=by omega
 rw [hd',hd,catZ_add,span_in db TP n 0 0 t rfl (by omega),Nat.zero_mul,List.drop_zero]
 congr 1
 rw [<- span_out db TP n (t:Int) d (fun s hs=>by omega)]
 refine catZ_congr d (fun s hs=>?_)
 show rowZ _ _ _ _=rowZ _ _ _ _
 congr 1
 omega
theorem fits_less {n:Int} {d:Int} {tb:List Int} (h:fitsB (n::tb)=true) (h0:0<=d) (h1:d<=n):fitsB (d::tb)=true:=by
 rw [fits_eq] at h ⊢
 simp only [Bool.and_eq_true,decide_eq_true_eq] at h ⊢
 obtain ⟨hb,hp⟩:=h
 have hbt:=(prod_two tb (base_tail hb)).1.1
 rw [prodP_cons] at hp ⊢
 refine ⟨?_,Int.le_trans (Int.mul_le_mul_of_nonneg_right h1 hbt) hp⟩
 simp only [baseB,Bool.and_eq_true,decide_eq_true_eq,List.all_cons,List.length_cons,inR] at hb ⊢
 refine ⟨hb.1,by omega,hb.2.2⟩
theorem fits_tail {d:Int} {tb:List Int} (h:fitsB (d::tb)=true) (h0:1<=d):fitsB tb=true:=by
 rw [fits_eq] at h ⊢
 simp only [Bool.and_eq_true,decide_eq_true_eq] at h ⊢
 obtain ⟨hb,hp⟩:=h
 have hbt:=(prod_two tb (base_tail hb)).1.1
 rw [prodP_cons] at hp
 refine ⟨base_tail hb,Int.le_trans ?_ hp⟩
 have:=Int.mul_le_mul_of_nonneg_right h0 hbt
 omega
end Pl
theorem inf27:(Tryz.prog.info? 25).map (fun i=>(i.zero,i.size,i.bytes))=some (some (.agg #[.slice none 0 0,.slice none 0 0]),2,48):=by kernel_rfl
theorem und66:Tryz.prog.underlying 85=some (.slice 25):=by kernel_rfl
theorem wpList_append66 {base:Nat} (w:World) {ops:Array Oper} {rest:List Oper} {o:Oper} {a:Act} {Q:Exit->Act->World->Prop} (hg:o.guard=none) (s y:Operand)
  (hop:o.op=Op.call { callee:=Callee.builtin Builtin.append,args:=#[s,y],argTypes:=#[85,85] }) (v u0 u1:Value) (hs:a.eval s=v) (H:Nat) (hH:w.heap.size=H) (hx:a.eval y=.slice (some ⟨H,0,none⟩) 1 1) (n:Nat) (xs:List Value)
  (hown:w.ownsRow base 25 2 v n xs) (hu0:u0.oneCell'=true) (hu1:u1.oneCell'=true) (hbd:n+1<=16777216) (hbase:base<=w.heap.size)
  (hK:∀v' w',w'.ownsRow base 25 2 v' (n+1) (xs++[u0,u1])->(w.alloc (.cells #[u0,u1] 25)).grownBy w' v.ownBlock->(v'.ownBlock=v.ownBlock\/v'.ownBlock=some (w.heap.size+1))->wpList Tryz.prog ops Q rest (a.put o.dst v') w'):wpList Tryz.prog ops Q (o::rest) a (w.alloc (.cells #[u0,u1] 25)):=by
 subst hH
 obtain ⟨i0,hi,hz0,hz1,hz2⟩:=info_parts inf27
 obtain ⟨v',w',hr,ho,hgr,_,hat⟩:=run_append_own_at (P:=Tryz.prog) (w.alloc (.cells #[u0,u1] 25)) base 85 o.type 25 i0 (.agg #[.slice none 0 0,.slice none 0 0]) 2 48 und66 hi hz0 hz1 hz2 rfl (by decide) v n xs (hown.alloc _) ⟨w.heap.size,0,none⟩ 1 1 [u0,u1] rfl
  (by
   intro j u hj
   rw [Addr.add_lit,Nat.zero_add]
   match j,hj with
   |0,hj=>simp at hj; subst hj; simp [go_sem]
   |1,hj=>simp at hj; subst hj; simp [go_sem]
   |j+2,hj=>simp at hj)
  (by intro u hu; simp at hu; rcases hu with rfl | rfl <;> assumption) (by unfold maxLen; omega) (by omega) (by simp; omega)
 exact wpList_append_eq _ w' hg s y _ hop v _ v' hs hx hr (hK v' w' ho hgr (by simpa using hat))
theorem rows_form {base n:Nat} {w:World} {v:Value} {xs:List Value} (h:w.ownsRow base 25 2 v n xs):∃ao g cap,v=.slice ao n cap/\(0<n->ao=some ⟨g,0,none⟩/\g<w.heap.size/\∀i,i<n->w.cell? ⟨g,i * 2+1,none⟩=xs[i * 2+1]?):=by
 rcases h.2 with ⟨rfl,rfl⟩ | ⟨g,cap,cur,rfl,hb,hg,_⟩
 ·exact ⟨none,0,0,rfl,fun h=>absurd h (Nat.lt_irrefl _)⟩
 exact ⟨_,g,cap,rfl,fun _=>⟨rfl,(Array.getElem?_eq_some_iff.1 hg).1,fun i hi=>h.cellAt (i * 2+1) (by omega)⟩⟩
theorem l2Span_any (g kg b3 k3:Nat) (n:Nat) (tb db:List Int) (i:Int) (m:Nat) (w:World) (h0:Rd w.heap.size w (.slice (some ⟨g,0,none⟩) (tb.length+1) kg) ((n:Int)::tb)) (h1:Rd w.heap.size w (.slice (some ⟨b3,0,none⟩) db.length k3) db)
  (hg1:tb.length+1<=kg) (hg2:kg<=9223372036854775807) (hk3:db.length<=k3) (hk4:k3<=9223372036854775807) (hi0:-6000000000<=i) (hi1:i<=1000) (hm:m<=6000000000) (hok:Pl.okB ((n:Int)::tb) db=true) (TP:Nat) (hTP:Pl.prodP tb=TP) (c:Int) (SS DD:List Int)
  (hres:(if Pl.fitsB ((m:Int)::tb)=true then ((0:Int),(m:Int)::tb,Pl.catZ (fun t=>Pl.rowZ db TP n (i+(t:Int))) m) else (6,[],[]))=(c,SS,DD)) :
  Calls Tryz.prog 113 #[.agg #[.slice (some ⟨g,0,none⟩) (tb.length+1) kg,.slice (some ⟨b3,0,none⟩) db.length k3],.int .i64 i,.int .i64 (i+(m:Int))] w (FPost w c SS DD):=by
 obtain ⟨hmx0,hmx1⟩:=Pl.ok_max hok
 have hlt2:tb.length<=2:=by simp at hmx0; omega
 have hall:((n:Int)::tb).all Pl.inR=true:=by
  have:=(Pl.ok_len hok).2
  simp only [Pl.fitsB,Pl.baseB,Bool.and_eq_true] at this
  exact this.1.2
 have hbb:Pl.baseB tb=true:=by
  have:=(Pl.ok_len hok).2
  simp only [Pl.fitsB,Bool.and_eq_true] at this
  exact Pl.base_tail this.1
 have hn1:n<=1000:=by
  simp only [List.all_cons,Bool.and_eq_true] at hall
  have:=Pl.inR_bd hall.1
  omega
 have hnT:(n:Int) * (TP:Int)=db.length:=by
  have e:=(Pl.ok_len hok).1
  rw [Pl.prod_eq (Pl.ok_len hok).2,Pl.prodP_cons,hTP] at e
  exact e.symm
 have hrows:n * TP=db.length:=by
  have:((n * TP:Nat):Int)=(db.length:Int):=by rw [<- hnT]; simp
  omega
 have BX:Hid (∀W,Below (w.heap.size+1+1) ((w.alloc (.cells #[.slice (some ⟨g,0,none⟩) (tb.length+1) kg,.slice (some ⟨b3,0,none⟩) db.length k3] 25)).alloc (.cells #[.slice none 0 0,.slice none 0 0] 25)) W->(W.cell? ⟨w.heap.size,0,none⟩=some (.slice (some ⟨g,0,none⟩) (tb.length+1) kg)/\W.cell? ⟨w.heap.size,1,none⟩=some (.slice (some ⟨b3,0,none⟩) db.length k3))/\(W.cell? ⟨w.heap.size+1,0,none⟩=some (.slice none 0 0)/\W.cell? ⟨w.heap.size+1,1,none⟩=some (.slice none 0 0)/\∀o,W.frozen? ⟨w.heap.size+1,o,none⟩=false)/\Below w.heap.size w W):=fun W hb=>boxes2 hb
 have H0:=hideP h0
 have H1:=hideP h1
 have HR:=hideP hres
 have e13:i+(m:Int)-i=(m:Int):=by omega
 clear hres
 go_enter Tryz.func113,Tryz.ntmps113
 by_cases hbig:1000<m
 ·have hf:¬Pl.fitsB ((m:Int)::tb)=true:=fun h=>by
   simp only [Pl.fitsB,Pl.baseB,Bool.and_eq_true,List.all_cons] at h
   have:=Pl.inR_bd h.1.2.1
   omega
  have e:=HR.out
  rw [if_neg hf] at e
  simp only [Prod.mk.injEq] at e
  obtain ⟨rfl,rfl,rfl⟩:=e
  have X1:=hideP (BX.out _ (Below.refl _ _))
  have hbig':(1000:Int)<(m:Int):=by omega
  have r0:=X1.out.2.1.1
  have r1:=X1.out.2.1.2.1
  have f2:=X1.out.2.1.2.2
  go_wp2_with fail
  refine bodyPost_ret (v:=.tuple #[.agg #[.slice none 0 0,.slice none 0 0],.int .i64 6]) (by simp [results,Tryz.results113,go_sem,r0,r1]) rfl ⟨X1.out.2.2,_,_,rfl,Own.nil _ _,Own.nil _ _,.inl rfl⟩
 have hbig':decide ((1000:Int)<(m:Int))=false:=by rw [decide_eq_false_iff_not]; omega
 have B1:Hid (Below (w.heap.size+1+1) ((w.alloc (.cells #[.slice (some ⟨g,0,none⟩) (tb.length+1) kg,.slice (some ⟨b3,0,none⟩) db.length k3] 25)).alloc (.cells #[.slice none 0 0,.slice none 0 0] 25)) ((w.alloc (.cells #[.slice (some ⟨g,0,none⟩) (tb.length+1) kg,.slice (some ⟨b3,0,none⟩) db.length k3] 25)).alloc (.cells #[.slice none 0 0,.slice none 0 0] 25))):=Below.refl _ _
 go_upto_region 3 with fail
 have hsW:w.heap.size+1+1<=((w.alloc (.cells #[.slice (some ⟨g,0,none⟩) (tb.length+1) kg,.slice (some ⟨b3,0,none⟩) db.length k3] 25)).alloc (.cells #[.slice none 0 0,.slice none 0 0] 25)).heap.size:=by simp
 generalize ((w.alloc (.cells #[.slice (some ⟨g,0,none⟩) (tb.length+1) kg,.slice (some ⟨b3,0,none⟩) db.length k3] 25)).alloc (.cells #[.slice none 0 0,.slice none 0 0] 25))=W0 at *
 obtain ⟨o2,ho2⟩:∃o2:Nat,o2=if kg=1 then 0 else 0+1:=⟨_,rfl⟩
 have RT:Hid (∀W,Below w.heap.size w W->Rd W.heap.size W (.slice (some ⟨g,o2,none⟩) tb.length (kg-1)) tb):=fun W hb=>(rd_tailG ho2 hg1 ((H0.out.keep hb).up hb.size))
 have HO2:=hideP ho2
 have A1:Hid (Below W0.heap.size W0 (W0.alloc (.cells #[.int .i64 (m:Int)] 3))):=(Below.refl _ _).alloc (Nat.le_refl _) _
 have OL:=hideP (owns_one W0 (m:Int) W0.heap.size (Nat.le_refl _))
 have K0:=hideP (BX.out _ B1.out)
 have RTA:Hid (Rd (W0.alloc (.cells #[.int .i64 (m:Int)] 3)).heap.size (W0.alloc (.cells #[.int .i64 (m:Int)] 3)) (.slice (some ⟨g,o2,none⟩) tb.length (kg-1)) tb):=RT.out _ (K0.out.2.2.trans (A1.out.mono K0.out.2.2.size))
 have KFT:Hid (∀W v,Rd W.heap.size W v ((m:Int)::tb)->Calls Tryz.prog 52 #[v] W fun e w'=>e=.returned (.bool (Pl.fitsB ((m:Int)::tb)))/\w'=W):=fun W v h=>l1Fits_any _ v _ W (by simp; omega) h
 have cb:∀o,(W0.alloc o).cell? ⟨w.heap.size,0,none⟩=some (.slice (some ⟨g,0,none⟩) (tb.length+1) kg):=fun o=>(BX.out _ (B1.out.trans (((Below.refl _ _).alloc (Nat.le_refl _) _).mono hsW))).1.1
 clear ho2
 generalize hlbt:tb.length=lb at *
 have HLT:Hid (tb.length=lb):=hlbt
 clear hlbt
 go_cut [8] (fun s8 wy=>Rd wy.heap.size wy s8 ((m:Int)::tb)/\Below W0.heap.size W0 wy)
 case first =>
  clear hbig hbig'
  have hl0:tb.length<=2:=by rw [HLT.out]; omega
  by_cases hk:kg=1
  focus
   have RZ:Hid (Rd (W0.alloc (.cells #[.int .i64 (m:Int)] 3)).heap.size (W0.alloc (.cells #[.int .i64 (m:Int)] 3)) (.slice (some ⟨g,0,none⟩) 0 0) tb):=rd_zero _ _ _ _ _ (by rw [HLT.out]; omega)
   have hz:lb=0:=by omega
   clear HO2 RT RTA
   subst hk hz
   go_wp2_with (at_builtin; refine wpList_append_rd_at (base:=W0.heap.size) _ rfl _ _ rfl _ _ rfl rfl _ [(m:Int)] tb OL.out RZ.out (by omega) (by simp) ?_)
  rotate_left
  focus
   have RZ:Hid (Rd (W0.alloc (.cells #[.int .i64 (m:Int)] 3)).heap.size (W0.alloc (.cells #[.int .i64 (m:Int)] 3)) (.slice (some ⟨g,1,none⟩) lb (kg-1)) tb):=by
    have:=RTA.out
    rw [HO2.out,if_neg hk] at this
    exact this
   clear HO2 RT RTA
   go_wp2_with (at_builtin; refine wpList_append_rd_at (base:=W0.heap.size) _ rfl _ _ rfl _ _ rfl rfl _ [(m:Int)] tb OL.out RZ.out (by omega) (by simp) ?_)
  all_goals
   intro v' w5 ho5 hg5 _
   have B5:Hid (Below W0.heap.size W0 w5):=A1.out.grown hg5 (by simp) (fun k hk=>(OL.out.lt k hk).1)
   have O5:Hid (w5.ownsRow W0.heap.size 3 1 v' ((m:Int)::tb).length (((m:Int)::tb).map (Value.int .i64))):=by
    have:=ho5
    show World.ownsRow _ _ _ _ _ _ _
    rw [List.length_cons,Nat.add_comm]
    exact this
   clear ho5 hg5
   go_wp2_with fail
   go_meet
   exact ⟨(own_of_any O5.out).rd,B5.out⟩
 obtain ⟨hr5,hb5⟩:=hcut
 rename World=>w5
 rename Value=>s8
 have R5:=hideP hr5
 have B5:=hideP hb5
 clear hr5 hb5 cb A1 OL RTA
 have X5:=hideP (BX.out _ (B1.out.trans (B5.out.mono hsW)))
 have hs5:w.heap.size+1+1<=w5.heap.size:=Nat.le_trans hsW B5.out.size
 by_cases hf:Pl.fitsB ((m:Int)::tb)=true
 rotate_left 1
 ·have hf':Pl.fitsB ((m:Int)::tb)=false:=by simpa using hf
  rw [hf'] at KFT
  have e:=HR.out
  rw [if_neg hf] at e
  simp only [Prod.mk.injEq] at e
  obtain ⟨rfl,rfl,rfl⟩:=e
  clear hf hf' HR RT HO2 BX K0 B1 hrows hnT
  have r0:=X5.out.2.1.1
  have r1:=X5.out.2.1.2.1
  have f2:=X5.out.2.1.2.2
  go_wp2_with (go_at_call 52; refine (KFT.out _ _ R5.out).mono ?_; rintro e w5 ⟨rfl,rfl⟩)
  refine bodyPost_ret (v:=.tuple #[.agg #[.slice none 0 0,.slice none 0 0],.int .i64 6]) (by simp [results,Tryz.results113,go_sem,r0,r1]) rfl ⟨(X5.out.2.2.setCell (by simp) _).setCell (by simp) _,_,_,rfl,Own.nil _ _,Own.nil _ _,.inl rfl⟩
 rw [hf] at KFT
 have e:=HR.out
 rw [if_pos hf] at e
 simp only [Prod.mk.injEq] at e
 obtain ⟨rfl,rfl,rfl⟩:=e
 have BX5:Hid (∀W,Below w5.heap.size w5 W->_):=fun W hb=>BX.out W ((B1.out.trans (B5.out.mono hsW)).trans (hb.mono hs5))
 clear BX X5 B1 K0 HR
 have hm1:m<=1000:=by omega
 have hin:Hid (∀q:Nat,q<m->0<=i+(q:Int)->i+(q:Int)<(n:Int)->Pl.fitsB tb=true/\Pl.prodC tb=(TP:Int)/\((i+(q:Int)).toNat+1) * TP<=db.length):=fun q hq h0 h1=>by
  have ft:Pl.fitsB tb=true:=Pl.fits_tail hf (by omega)
  refine ⟨ft,(Pl.prod_eq ft).trans hTP,?_⟩
  rw [<- hrows]
  exact Nat.mul_le_mul_right TP (by omega)
 have hout:Hid (0<m->Pl.fitsB tb=true/\(Pl.prodC tb).toNat=TP):=fun hq=>by
  have ft:Pl.fitsB tb=true:=Pl.fits_tail hf (by omega)
  refine ⟨ft,?_⟩
  rw [Pl.prod_eq ft,hTP]
  simp
 have KRW:Hid (∀(q r:Nat) W,q<m->i+(q:Int)=(r:Int)->r<n->Below w.heap.size w W->Calls Tryz.prog 100 #[.agg #[.slice (some ⟨g,0,none⟩) (lb+1) kg,.slice (some ⟨b3,0,none⟩) db.length k3],.int .i64 (i+(q:Int))] W fun e w'=>∃u0 u1,e=.returned (.agg #[u0,u1])/\Res W.heap.size w' u0 u1 tb (Pl.rowZ db TP n (i+(q:Int)))/\Below W.heap.size W w'):=fun q r W hq hr hrn hb=>by
  obtain ⟨ft,pc,hl⟩:=hin.out q hq (by omega) (by omega)
  have er:(i+(q:Int)).toNat=r:=by omega
  rw [er] at hl
  have el:((n:Int)::tb).length=lb+1:=by rw [List.length_cons,HLT.out]
  have:=l2Row_any g 0 kg b3 0 k3 r TP ((n:Int)::tb) db W (by rw [el]; exact (H0.out.keep hb).up hb.size) ((H1.out.keep hb).up hb.size) (by simp) (by rw [el]; omega) hmx1 (by rw [el]; exact hg1) hg2 hk3 hk4 hall pc hl (by omega)
  rw [el] at this
  rw [hr]
  have ez:Pl.rowZ db TP n ((r:Nat):Int)=(db.drop (r * TP)).take TP:=by
   unfold Pl.rowZ
   rw [if_pos (by omega)]
   simp
  rw [ez]
  exact this
 have KWD:Hid (∀(q:Nat) (W:World) v,q<m->¬(0<=i+(q:Int)/\i+(q:Int)<(n:Int))->Below w.heap.size w W->Rd W.heap.size W v tb->Calls Tryz.prog 83 #[.agg #[.slice none 0 0,.slice (some ⟨W.heap.size,0,none⟩) 1 1],v] (W.alloc (.cells #[.int .i64 0] 3)) fun e w'=>∃u0 u1,e=.returned (.agg #[u0,u1])/\Res W.heap.size w' u0 u1 tb (Pl.rowZ db TP n (i+(q:Int)))/\Below W.heap.size W w'):=fun q W v hq hno hb hv=>by
  obtain ⟨ft,pc⟩:=hout.out (by omega)
  have A:Below W.heap.size W (W.alloc (.cells #[.int .i64 0] 3)):=(Below.refl _ _).alloc (Nat.le_refl _) _
  refine (l2Wide_any none 0 0 W.heap.size 0 1 1 v 0 tb (W.alloc (.cells #[.int .i64 0] 3)) ft (by simp) (by omega) (by simp [go_sem]) ((hv.keep A).up A.size)).mono ?_
  rintro e w' ⟨u0,u1,rfl,hr,hb'⟩
  refine ⟨u0,u1,rfl,?_,A.trans (hb'.mono A.size)⟩
  have ez:Pl.rowZ db TP n (i+(q:Int))=List.replicate (Pl.prodC tb).toNat 0:=by
   unfold Pl.rowZ
   rw [if_neg hno,pc]
  rw [ez]
  exact ⟨hr.1.base A.size,hr.2.1.base A.size,hr.2.2⟩
 have KST:Hid (∀W rv rg rcap (dv:Nat->Value) (sv:Value),(0<m->rv=some ⟨rg,0,none⟩/\rg<W.heap.size/\∀i,i<m->W.cell? ⟨rg,i * 2+1,none⟩=some (dv i))->(∀t,t<m->Rd W.heap.size W (dv t) (Pl.rowZ db TP n (i+(t:Int))))->Rd W.heap.size W sv tb->Calls Tryz.prog 142 #[sv,.slice rv m rcap] W (FPost W 0 ((m:Int)::tb) (Pl.catZ (fun t=>Pl.rowZ db TP n (i+(t:Int))) m))):=fun W rv rg rcap dv sv hrv hrd hsv=>by
  refine l2Stack_any rv rg m rcap dv (fun t=>Pl.rowZ db TP n (i+(t:Int))) sv tb W (fun h=>(hrv h).1) hm1 (fun h=>(hrv h).2.1) (fun i hi=>(hrv (by omega)).2.2 i hi) hrd hsv (fun j hj=>?_) (by rw [HLT.out]; omega) hf
  rw [Pl.catZ_len (fun t=>Pl.rowZ_len db TP n _ (by omega)) j]
  have h2:j * TP<=m * TP:=Nat.mul_le_mul_right TP hj
  have h3:m * TP<=1000:=by
   have:=hf
   rw [Pl.fits_eq] at this
   simp only [Bool.and_eq_true,decide_eq_true_eq] at this
   have h4:=this.2
   rw [Pl.prodP_cons,hTP] at h4
   have:((m * TP:Nat):Int)=(m:Int) * (TP:Int):=by simp
   omega
  omega
 have RTW:Hid (∀W,Below w5.heap.size w5 W->Rd W.heap.size W (.slice (some ⟨g,o2,none⟩) lb (kg-1)) tb):=fun W hb=>RT.out W (BX5.out W hb).2.2
 have CN:Hid (∀W,Below w5.heap.size w5 W->W.cell? ⟨g,0,none⟩=some (.int .i64 (n:Int))):=fun W hb=>by
  have hh:=H0.out
  rw [<- HLT.out] at hh
  obtain ⟨k1,k2⟩:=rd_headG hh
  exact ((BX5.out W hb).2.2.cell (p:=⟨g,0,none⟩) k1).trans k2
 clear RT hf hrows hnT hTP hbb hall hok hmx1 hin hout H0 H1 h1 hn1
 go_wp2_with (go_at_call 52; refine (KFT.out _ _ R5.out).mono ?_; rintro e w5 ⟨rfl,rfl⟩)
 clear KFT R5 B5
 have hsz5:=hs5
 go_loopw [9,10] (fun rv k wr=>∃q:Nat,q<=m/\k=.int .i64 (i+(q:Int))/\∃xs dv,Hid (Rs w5 rv q xs dv (fun t=>Pl.rowZ db TP n (i+(t:Int))) wr)) (fun _ k _=>(i+(m:Int)-intOf k).toNat)
 case atStart=>exact ⟨0,Nat.zero_le _,by simp,_,_,Rs.start w5 _⟩
 obtain ⟨q,hq,rfl,xs,dvv,hR⟩:=hrel
 have BR:=hideP (BX5.out _ hR.out.bel).2.2
 obtain ⟨rao,rg,rcap,erv,hform⟩:=rows_form hR.out.row
 subst erv
 have c10:=(BX5.out _ hR.out.bel).1.1
 have c11:=(BX5.out _ hR.out.bel).1.2
 have cz:=CN.out _ hR.out.bel
 have HB:=hideP hR.out
 have hsr:=hR.out.bel.size
 by_cases hlt:q<m
 rotate_left 1
 ·have qm:q=m:=by omega
  subst qm
  have hgt:decide (i+(q:Int)<i+(q:Int))=false:=by rw [decide_eq_false_iff_not]; omega
  have HF2:Hid (0<q->rao=some ⟨rg,0,none⟩/\rg<wr.heap.size/\∀i,i<q->wr.cell? ⟨rg,i * 2+1,none⟩=some (dvv i)):=fun h=>⟨(hform h).1,(hform h).2.1,fun i hi=>((hform h).2.2 i hi).trans (hR.out.cell i hi)⟩
  have RSX:Hid (∀t,t<q->Rd wr.heap.size wr (dvv t) (Pl.rowZ db TP n (i+(t:Int)))):=fun t ht=>(hR.out.own t ht).rd
  have BRW:=hideP hR.out.bel
  have RTZ:=hideP (RTW.out _ hR.out.bel)
  clear hform
  have HL1:Hid (((q:Int)::tb).length=lb+1):=by show _=_; rw [List.length_cons,HLT.out]
  go_wp2_with (refine wpList_loG _ rfl (.tmp 61) (.const (.int .i64 1)) g 0 lb kg o2 HO2.out hg1 hg2 rfl rfl rfl ?_)
  refine (KST.out wr _ rg _ dvv _ HF2.out RSX.out RTZ.out).mono ?_
  rintro e w9 ⟨hb9,u0,u1,rfl,hres⟩
  have X9:=hideP (BX5.out _ (BRW.out.trans (hb9.mono BRW.out.size)))
  have R9:=hideP hres
  have hs9:=hb9.size
  have hsr:=BRW.out.size
  obtain ⟨x0,y0,x1,y1,e0,e1⟩:=hres.forms
  rw [HL1.out] at e0
  subst e0 e1
  clear hb9 hres c10 c11 cz
  have r0:=X9.out.2.1.1
  have r1:=X9.out.2.1.2.1
  have f2:=X9.out.2.1.2.2
  go_wp2_with fail
  refine bodyPost_ret (v:=.tuple #[.agg #[.slice x0 (lb+1) y0,.slice x1 (Pl.catZ (fun t=>Pl.rowZ db TP n (i+(t:Int))) q).length y1],.int .i64 0]) (by simp [results,Tryz.results113,go_sem,r0,r1]) rfl ⟨(X9.out.2.2.setCell (by simp) _).setCell (by simp) _,_,_,rfl,?_,?_,R9.out.2.2⟩
  ·exact Own.base (Own.store (Own.store R9.out.1 (by omega) _) (by omega) _) (by omega)
  exact Own.base (Own.store (Own.store R9.out.2.1 (by omega) _) (by omega) _) (by omega)
 have hlt':i+(q:Int)<i+(m:Int):=by omega
 clear hform
 by_cases hin:0<=i+(q:Int)/\i+(q:Int)<(n:Int)
 ·obtain ⟨hin0,hin1⟩:=hin
  have KR:=hideP (fun W hb=>KRW.out q (i+(q:Int)).toNat W hlt (by omega) (by omega) hb)
  go_wp2_with fail
  refine (KR.out _ BR.out).mono ?_
  rintro e w3 ⟨u0,u1,rfl,hres,hb3⟩
  obtain ⟨rz,hrz⟩:∃rz,Pl.rowZ db TP n (i+(q:Int))=rz:=⟨_,rfl⟩
  rw [hrz] at hres
  have HRZ:=hideP hrz
  clear hrz
  have R3:=hideP (hR.out.keep hb3)
  have hs3:=R3.out.bel.size
  have OFF:Hid (∀g',(Value.slice rao q rcap).ownBlock=some g'->Off g' u1 rz):=fun g' hg=>own_ne_lo hres.2.1 (HB.out.row.lt g' hg).2
  have OU:Hid (Own w5.heap.size w3 u1 rz):=hres.2.1.base HB.out.bel.size
  obtain ⟨x0,y0,x1,y1,e0,e1⟩:=hres.forms
  subst e0 e1
  clear hres hb3 c10 c11 cz
  have UB:Hid (q+1<=16777216):=by show _<=_; omega
  go_wp2_with (at_builtin; refine wpList_append66 (base:=w5.heap.size) w3 rfl (.tmp 45) (.tmp 49) rfl (.slice rao q rcap) (.slice x0 tb.length y0) (.slice x1 rz.length y1) rfl w3.heap.size rfl rfl q xs R3.out.row rfl rfl UB.out hs3 ?_)
  intro v' w9 ho9 hg9 hat9
  have RA:=hideP (R3.out.app (zz:=(fun t=>Pl.rowZ db TP n (i+(t:Int)))) (by show Own _ _ _ (Pl.rowZ db TP n (i+(q:Int))); rw [HRZ.out]; exact OU.out) (by show ∀g',_->Off g' _ (Pl.rowZ db TP n (i+(q:Int))); rw [HRZ.out]; exact OFF.out) ho9 hg9 hat9)
  clear ho9 hg9 hat9
  go_wp2_with fail
  go_roundw
  case rel=>exact ⟨q+1,by omega,by go_num,_,_,RA⟩
  simp [intOf]; omega
 have KW:=hideP (fun W v hb hv=>KWD.out q W v hlt hin hb hv)
 have AL:∀o,(wr.alloc o).cell? ⟨w.heap.size,0,none⟩=some (.slice (some ⟨g,0,none⟩) (lb+1) kg):=fun o=>(BX5.out _ (hR.out.bel.trans (((Below.refl _ _).alloc (Nat.le_refl _) _).mono hsr))).1.1
 have RTZ:=hideP (RTW.out _ hR.out.bel)
 have TST:(decide (0<=i+(q:Int)) && decide (i+(q:Int)<(n:Int)))=false:=by
  simp only [Bool.and_eq_false_iff,decide_eq_false_iff_not]
  omega
 clear RTW
 by_cases hin0:0<=i+(q:Int)
 ·have hin1:decide (i+(q:Int)<(n:Int))=false:=by rw [decide_eq_false_iff_not]; omega
  clear TST
  go_wp2_with (refine wpList_loG _ rfl (.tmp 55) (.const (.int .i64 1)) g 0 lb kg o2 HO2.out hg1 hg2 rfl rfl rfl ?_)
  refine (KW.out _ _ BR.out RTZ.out).mono ?_
  rintro e w3 ⟨u0,u1,rfl,hres,hb3⟩
  obtain ⟨rz,hrz⟩:∃rz,Pl.rowZ db TP n (i+(q:Int))=rz:=⟨_,rfl⟩
  rw [hrz] at hres
  have HRZ:=hideP hrz
  clear hrz
  have R3:=hideP (hR.out.keep hb3)
  have hs3:=R3.out.bel.size
  have OFF:Hid (∀g',(Value.slice rao q rcap).ownBlock=some g'->Off g' u1 rz):=fun g' hg=>own_ne_lo hres.2.1 (HB.out.row.lt g' hg).2
  have OU:Hid (Own w5.heap.size w3 u1 rz):=hres.2.1.base HB.out.bel.size
  obtain ⟨x0,y0,x1,y1,e0,e1⟩:=hres.forms
  subst e0 e1
  clear hres hb3 c10 c11 cz
  have UB:Hid (q+1<=16777216):=by show _<=_; omega
  go_wp2_with (at_builtin; refine wpList_append66 (base:=w5.heap.size) w3 rfl (.tmp 51) (.tmp 58) rfl (.slice rao q rcap) (.slice x0 tb.length y0) (.slice x1 rz.length y1) rfl w3.heap.size rfl rfl q xs R3.out.row rfl rfl UB.out hs3 ?_)
  intro v' w9 ho9 hg9 hat9
  have RA:=hideP (R3.out.app (zz:=(fun t=>Pl.rowZ db TP n (i+(t:Int)))) (by show Own _ _ _ (Pl.rowZ db TP n (i+(q:Int))); rw [HRZ.out]; exact OU.out) (by show ∀g',_->Off g' _ (Pl.rowZ db TP n (i+(q:Int))); rw [HRZ.out]; exact OFF.out) ho9 hg9 hat9)
  clear ho9 hg9 hat9
  go_wp2_with fail
  go_roundw
  case rel=>exact ⟨q+1,by omega,by go_num,_,_,RA⟩
  simp [intOf]; omega
 have hin1:decide (0<=i+(q:Int))=false:=by rw [decide_eq_false_iff_not]; omega
 clear TST hin0
 go_wp2_with (refine wpList_loG _ rfl (.tmp 55) (.const (.int .i64 1)) g 0 lb kg o2 HO2.out hg1 hg2 rfl rfl rfl ?_)
 refine (KW.out _ _ BR.out RTZ.out).mono ?_
 rintro e w3 ⟨u0,u1,rfl,hres,hb3⟩
 obtain ⟨rz,hrz⟩:∃rz,Pl.rowZ db TP n (i+(q:Int))=rz:=⟨_,rfl⟩
 rw [hrz] at hres
 have HRZ:=hideP hrz
 clear hrz
 have R3:=hideP (hR.out.keep hb3)
 have hs3:=R3.out.bel.size
 have OFF:Hid (∀g',(Value.slice rao q rcap).ownBlock=some g'->Off g' u1 rz):=fun g' hg=>own_ne_lo hres.2.1 (HB.out.row.lt g' hg).2
 have OU:Hid (Own w5.heap.size w3 u1 rz):=hres.2.1.base HB.out.bel.size
 obtain ⟨x0,y0,x1,y1,e0,e1⟩:=hres.forms
 subst e0 e1
 clear hres hb3 c10 c11 cz
 have UB:Hid (q+1<=16777216):=by show _<=_; omega
 go_wp2_with (at_builtin; refine wpList_append66 (base:=w5.heap.size) w3 rfl (.tmp 51) (.tmp 58) rfl (.slice rao q rcap) (.slice x0 tb.length y0) (.slice x1 rz.length y1) rfl w3.heap.size rfl rfl q xs R3.out.row rfl rfl UB.out hs3 ?_)
 intro v' w9 ho9 hg9 hat9
 have RA:=hideP (R3.out.app (zz:=(fun t=>Pl.rowZ db TP n (i+(t:Int)))) (by show Own _ _ _ (Pl.rowZ db TP n (i+(q:Int))); rw [HRZ.out]; exact OU.out) (by show ∀g',_->Off g' _ (Pl.rowZ db TP n (i+(q:Int))); rw [HRZ.out]; exact OFF.out) ho9 hg9 hat9)
 clear ho9 hg9 hat9
 go_wp2_with fail
 go_roundw
 case rel=>exact ⟨q+1,by omega,by go_num,_,_,RA⟩
 simp [intOf]; omega
end Go.Proofs.YtacapaiadggemaaGreat
namespace Go.Proofs.YtacapaiadggemaaGreat.Pl
set_option linter.unusedVariables false
theorem prodP_app (xs ys:List Int):prodP (xs++ys)=prodP xs * prodP ys:=by
 unfold prodP
 rw [List.foldl_append,foldl_mul]
theorem base_app {xs ys:List Int} (h:baseB (xs++ys)=true):baseB xs=true/\baseB ys=true:=by
 simp only [baseB,Bool.and_eq_true,decide_eq_true_eq,List.all_eq_true,List.length_append,List.mem_append] at h ⊢
 exact ⟨⟨by omega,fun x hx=>h.2 x (.inl hx)⟩,⟨by omega,fun x hx=>h.2 x (.inr hx)⟩⟩
theorem prodC_pos {xs:List Int} (h:baseB xs=true):0<=prodC xs/\prodC xs<=1001:=by
 simp only [baseB,Bool.and_eq_true] at h
 exact prodC_bd xs h.2
theorem prod_app {xs ys:List Int} (h:fitsB (xs++ys)=true):prodC (xs++ys)=prodC xs * prodC ys:=by
 have hb:baseB (xs++ys)=true:=by simp only [fitsB,Bool.and_eq_true] at h; exact h.1
 obtain ⟨bx,by'⟩:=base_app hb
 have hP:prodP (xs++ys)<=1000:=by
  rw [fits_eq,hb] at h
  simpa using h
 rw [prod_eq h,prodP_app]
 rw [prodP_app] at hP
 have tx:=prod_two xs bx
 have ty:=prod_two ys by'
 by_cases hx:prodP xs<=1000
 ·rw [tx.2.2 (tx.2.1.2 hx)]
  by_cases hy:prodP ys<=1000
  ·rw [ty.2.2 (ty.2.1.2 hy)]
  have h0:prodP xs=0:=by
   rcases Int.lt_or_le (prodP xs) 1 with h1 | h1
   ·omega
   have:=Int.mul_le_mul_of_nonneg_right h1 ty.1.1
   omega
  rw [h0,Int.zero_mul,Int.zero_mul]
 have h0:prodP ys=0:=by
  rcases Int.lt_or_le (prodP ys) 1 with h1 | h1
  ·omega
  have:=Int.mul_le_mul_of_nonneg_left h1 tx.1.1
  omega
 rw [ty.2.2 (ty.2.1.2 (by omega)),h0,Int.mul_zero,Int.mul_zero]
theorem prod_one {n:Int} (h0:0<=n) (h1:n<=1000):prodC [n]=n:=by
 simp [prodC,stepC]
 omega
theorem fold_len (F:Int->Int->Int × Int) (s:Nat) (rows:List (List Int)) (acc:List Int) (hr:∀r∈rows,r.length=s) (ha:acc.length=s):(foldL F rows acc).1=0->(foldL F rows acc).2.length=s:=by
 induction rows generalizing acc with
 |nil=>intro _; exact ha
 |cons x xs ih =>
  unfold foldL
  split
  ·exact ih _ (fun r h=>hr r (List.mem_cons_of_mem _ h)) (by
    have:=hr x List.mem_cons_self
    simp [this,ha])
  intro h
  rename_i hc
  exact absurd h hc
theorem rowsDown_len {da:List Int} {s q:Nat} (h:q * s<=da.length):∀r∈rowsDown da s q,r.length=s:=by
 induction q with
 |zero=>intro r hr; simp [rowsDown] at hr
 |succ q ih =>
  intro r hr
  have h':q * s<=da.length:=by rw [Nat.succ_mul] at h; omega
  simp only [rowsDown,List.mem_cons] at hr
  rcases hr with rfl | hr
  ·exact rowAt_len h
  exact ih h' r hr
theorem reduce_vec (F:Int->Int->Int × Int) (nv:Int) (nb:Bool) (n:Nat) (D:List Int) (hD:D.length=n) :
  (∃v,reduceM F nv nb [(n:Int)] D=(0,[],[v]))\/(∃c,¬c=0/\reduceM F nv nb [(n:Int)] D=(c,[],[])):=by
 unfold reduceM
 have e1:prodC []=1:=rfl
 have e2:fitsB []=true:=rfl
 simp only [List.length_cons,List.length_nil,List.tail_cons,List.getD_cons_zero,e1,e2,if_true]
 rw [if_neg (by omega)]
 by_cases hn:(n:Int)=0
 ·rw [if_pos hn]
  cases nb with
  |true=>exact .inr ⟨1,by decide,by simp⟩
  |false=>exact .inl ⟨nv,by simp⟩
 rw [if_neg hn]
 have et:((1:Int)).toNat=1:=rfl
 have en:((n:Int)).toNat=n:=by omega
 rw [et,en]
 by_cases h0:(foldM F D 1 n).1=0
 ·rw [if_pos h0]
  have hl:(foldM F D 1 n).2.length=1:=by
   unfold foldM at h0 ⊢
   exact fold_len F 1 _ _ (rowsDown_len (by omega)) (rowAt_len (by omega)) h0
  obtain ⟨v,hv⟩:=List.length_eq_one_iff.1 hl
  exact .inl ⟨v,by rw [hv]⟩
 rw [if_neg h0]
 exact .inr ⟨_,h0,rfl⟩
def innV (db:List Int) (n T k:Nat):List Int:=(List.range n).map (fun m=>db.getD (m * T+k) 0)
def innC (F:Int->Int->Int × Int) (nv:Int) (nb:Bool) (G:Int->Int->Int × Int) (n:Nat) (xs ys:List Int):Int × Int :=
 if firstG (pairF G) (xs.zip ys)=0 then ((reduceM F nv nb [(n:Int)] ((xs.zip ys).map (fun p=>(pairF G p).1))).2.2.getD 0 0,(reduceM F nv nb [(n:Int)] ((xs.zip ys).map (fun p=>(pairF G p).1))).1)
 else (0,firstG (pairF G) (xs.zip ys))
def innQ (F:Int->Int->Int × Int) (nv:Int) (nb:Bool) (G:Int->Int->Int × Int) (n T:Nat) (da db:List Int) (i:Nat):Int × Int:=innC F nv nb G n (rowAt da n (i / T)) (innV db n T (i % T))
def innM (F:Int->Int->Int × Int) (nv:Int) (nb:Bool) (G:Int->Int->Int × Int) (sa da sb db:List Int):Int × List Int × List Int :=
 if sa.length=0\/sb.length=0 then (2,[],[])
 else if ¬sa.getD (sa.length-1) 0=sb.getD 0 0 then (3,[],[])
 else if fitsB (sa.take (sa.length-1)++sb.tail)=true then
  (if firstG (innQ F nv nb G (sb.getD 0 0).toNat (prodC sb.tail).toNat da db) (List.range (prodC (sa.take (sa.length-1)++sb.tail)).toNat)=0
   then (0,sa.take (sa.length-1)++sb.tail,(List.range (prodC (sa.take (sa.length-1)++sb.tail)).toNat).map (fun i=>(innQ F nv nb G (sb.getD 0 0).toNat (prodC sb.tail).toNat da db i).1))
   else (firstG (innQ F nv nb G (sb.getD 0 0).toNat (prodC sb.tail).toNat da db) (List.range (prodC (sa.take (sa.length-1)++sb.tail)).toNat),[],[]))
 else (6,[],[])
theorem innV_len (db:List Int) (n T k:Nat):(innV db n T k).length=n:=by simp [innV]
theorem innV_get (db:List Int) (n T k i:Nat) (h:i<n):(innV db n T k).getD i 0=db.getD (i * T+k) 0:=by
 simp [innV,List.getD,h]
theorem innV_mem {db:List Int} {n T k:Nat} {x:Int} (hl:db.length=n * T) (hk:k<T) (h:x∈innV db n T k):x∈db:=by
 simp only [innV,List.mem_map,List.mem_range] at h
 obtain ⟨m,hm,rfl⟩:=h
 have:m * T+k<db.length:=by
  rw [hl]
  have:=Nat.mul_le_mul_right T (show m+1<=n from hm)
  rw [Nat.succ_mul] at this
  omega
 have e:db.getD (m * T+k) 0=db[m * T+k]:=by simp [List.getD,this]
 rw [e]
 exact List.getElem_mem this
theorem range_first (Q:Nat->Int × Int) (N i:Nat) (hi:i<N) (h:∀j∈List.range i,(Q j).2=0) (hc:¬(Q i).2=0):firstG Q (List.range N)=(Q i).2:=by
 obtain ⟨m,rfl⟩:∃m,N=i+(1+m):=⟨N-(i+1),by omega⟩
 have e:List.range (i+(1+m))=List.range i++i::(List.range m).map (fun x=>i+(1+x)):=by
  rw [List.range_add,List.range_add]
  simp [List.range_one,Function.comp_def]
 rw [e]
 exact firstG_app Q _ i _ h hc
theorem inn_len {sa da sb db:List Int} {n:Nat} (ha:okB sa da=true) (hb:okB sb db=true) (h0:1<=sa.length) (h1:1<=sb.length) (e0:sa.getD (sa.length-1) 0=n) (e1:sb.getD 0 0=n) :
  ∃H T:Nat,prodC (sa.take (sa.length-1))=H/\prodC sb.tail=T/\H<=1001/\T<=1001/\n<=1000/\da.length=H * n/\db.length=n * T/\(fitsB (sa.take (sa.length-1)++sb.tail)=true->prodC (sa.take (sa.length-1)++sb.tail)=((H * T:Nat):Int)):=by
 obtain ⟨la,fa⟩:=ok_len ha
 obtain ⟨lb,fb⟩:=ok_len hb
 have sa':sa.take (sa.length-1)++[sa.getD (sa.length-1) 0]=sa:=by
  rw [<- take_snoc sa (sa.length-1) (by omega),show sa.length-1+1=sa.length by omega,List.take_length]
 have sb':[sb.getD 0 0]++sb.tail=sb:=by
  cases sb with
  |nil=>simp at h1
  |cons x l=>simp
 have pa:fitsB (sa.take (sa.length-1)++[sa.getD (sa.length-1) 0])=true:=by rw [sa']; exact fa
 have pb:fitsB ([sb.getD 0 0]++sb.tail)=true:=by rw [sb']; exact fb
 have ba:baseB (sa.take (sa.length-1)++[sa.getD (sa.length-1) 0])=true:=by simp only [fitsB,Bool.and_eq_true] at pa; exact pa.1
 have bb:baseB ([sb.getD 0 0]++sb.tail)=true:=by simp only [fitsB,Bool.and_eq_true] at pb; exact pb.1
 have qa:=prod_app pa
 have qb:=prod_app pb
 rw [sa',e0] at qa
 rw [sb',e1] at qb
 have Ha:=prodC_pos (base_app ba).1
 have Hb:=prodC_pos (base_app bb).2
 have hn:0<=(n:Int)/\(n:Int)<=1000:=by
  have:=(base_app bb).1
  rw [e1] at this
  simp only [baseB,Bool.and_eq_true,List.all_cons] at this
  exact inR_bd this.2.1
 rw [prod_one hn.1 hn.2] at qa qb
 obtain ⟨H,hH⟩:=Int.eq_ofNat_of_zero_le Ha.1
 obtain ⟨T,hT⟩:=Int.eq_ofNat_of_zero_le Hb.1
 refine ⟨H,T,hH,hT,by omega,by omega,by omega,?_,?_,?_⟩
 ·rw [hH] at qa; have:=la.trans qa; exact_mod_cast this
 ·rw [hT] at qb; have:=lb.trans qb; exact_mod_cast this
 intro hf
 rw [prod_app hf,hH,hT]
 exact (Int.natCast_mul H T).symm
theorem ok_vec {xs:List Int} {n:Nat} (hn:n<=1000) (hl:xs.length=n) (h:∀x∈xs,-3000000000<=x/\x<=3000000000):okB [(n:Int)] xs=true:=by
 have e:=prod_one (n:=(n:Int)) (by omega) (by omega)
 have hi:inR (n:Int)=true:=by unfold inR; rw [decide_eq_true_eq]; omega
 simp only [okB,fitsB,baseB,Bool.and_eq_true,decide_eq_true_eq,List.all_eq_true,List.length_cons,List.length_nil,e,hl]
 exact ⟨⟨⟨⟨by omega,by intro x hx; simp at hx; rw [hx]; exact hi⟩,by omega⟩,trivial⟩,fun x hx=>by unfold valB; rw [decide_eq_true_eq]; exact h x hx⟩
theorem cons_tail (sb:List Int) (h:¬sb.length=0):sb.getD 0 0::sb.tail=sb:=by
 cases sb with
 |nil=>simp at h
 |cons x l=>rfl
def innD (f g:Int) (sa da sb db:List Int):Int × List Int × List Int:=if (1<=f/\f<11)/\(1<=g/\g<11)/\okB sa da=true/\okB sb db=true then innM (twoM f) (noneV f.toNat) (noneB f.toNat) (twoM g) sa da sb db else (9,[],[])
theorem innD_no {f g:Int} {sa da sb db:List Int} (h:¬((1<=f/\f<11)/\(1<=g/\g<11)/\okB sa da=true/\okB sb db=true)):innD f g sa da sb db=(9,[],[]):=by unfold innD; rw [if_neg h]
theorem innD_yes {f g:Int} {sa da sb db:List Int} (h:(1<=f/\f<11)/\(1<=g/\g<11)/\okB sa da=true/\okB sb db=true):innD f g sa da sb db=innM (twoM f) (noneV f.toNat) (noneB f.toNat) (twoM g) sa da sb db:=by unfold innD; rw [if_pos h]
end Go.Proofs.YtacapaiadggemaaGreat.Pl
namespace Go.Proofs.YtacapaiadggemaaGreat
open Go.RowKit
set_option maxRecDepth 100000
set_option maxHeartbeats 16000000
set_option linter.unusedVariables false
theorem from_any (a0:Option Addr) (k0:Nat) (a1:Option Addr) (k1:Nat) (a2:Option Addr) (k2:Nat) (a3:Option Addr) (k3:Nat) (sa da sb db:List Int) (w:World) (h0:Rd w.heap.size w (.slice a0 sa.length k0) sa) (h1:Rd w.heap.size w (.slice a1 da.length k1) da) (h2:Rd w.heap.size w (.slice a2 sb.length k2) sb) (h3:Rd w.heap.size w (.slice a3 db.length k3) db)
  (hk2:sb.length<=k2) (hk2':k2<=9223372036854775807) (hk3:db.length<=k3) (hk3':0<db.length->k3<=9223372036854775807) (oka:Pl.okB sa da=true) (okb:Pl.okB sb db=true) (c:Int) (S D:List Int) (hres:Pl.fromM sa da sb db=(c,S,D)) :
  Calls Tryz.prog 119 #[.agg #[.slice a0 sa.length k0,.slice a1 da.length k1],.agg #[.slice a2 sb.length k2,.slice a3 db.length k3]] w (KPost w c S D):=by
 have e:=hres
 unfold Pl.fromM at e
 by_cases hsb:sb.length=0
 ·rw [if_pos hsb] at e
  simp only [Prod.mk.injEq] at e
  obtain ⟨rfl,rfl,rfl⟩:=e
  have KB:Hid (∀w',Calls Tryz.prog 84 #[.agg #[.slice a2 sb.length k2,.slice a3 db.length k3]] w' fun e w''=>e=.returned (.bool true)/\Below w'.heap.size w' w''):=fun w'=>by
   have:=isScalar_any _ (.slice a3 db.length k3) sb _ w' w h2
   rw [decide_eq_true hsb] at this
   exact this
  have W0:=hideP (wid_new w h0 h1 h2 h3 25 25 25)
  clear h0 h1 h2 h3 oka okb hres hsb
  generalize sb.length=lb at *
  go_enter Tryz.func119,Tryz.ntmps119
  go_wp2_with fail
  refine (KB.out _).mono ?_
  rintro e w1 ⟨rfl,hb1⟩
  have BW:=hideP (W0.out.keep hb1).1
  clear hb1
  go_wp2_with (go_at_call 73; refine (refuse_yes _ _).mono ?_; rintro e w1 ⟨rfl,rfl⟩)
  exact ⟨rfl,BW.out,.inr ⟨by decide,rfl,rfl,rfl⟩⟩
 rw [if_neg hsb] at e
 obtain ⟨n,hn⟩:∃n:Nat,sb.getD 0 0=n:=by
  have:=(Pl.ok_len okb).2
  simp only [Pl.fitsB,Pl.baseB,Bool.and_eq_true] at this
  have:=Pl.inR_bd (Pl.all_getD this.1.2 (k:=0) (by omega))
  exact ⟨(sb.getD 0 0).toNat,by omega⟩
 have sb':(n:Int)::sb.tail=sb:=by
  rw [<- hn]
  exact Pl.cons_tail sb hsb
 have lb':sb.length=sb.tail.length+1:=by rw [List.length_tail]; omega
 rw [hn] at e
 obtain ⟨b2,p2,rfl⟩:=rd_some h2 (by omega)
 rw [lb']
 refine from_core a0 k0 a1 k1 b2 p2 k2 a3 k3 sa da sb.tail db n w h0 h1 ?_ h3 (by omega) hk2' hk3 hk3' oka (by rw [sb']; exact okb) c S D e
 rw [<- lb',sb']
 exact h2
namespace Pl
theorem cell_cases (F G:Int->Int->Int × Int) (nv:Int) (nb:Bool) {da db:List Int} {n H T i k:Nat} (hn:n<=1000) (hla:da.length=H * n) (hlb:db.length=n * T) (hi:i<H) (hk:k<T)
  (hGb:∀x y,-3000000000<=x->x<=3000000000->-3000000000<=y->y<=3000000000->(G x y).2=0->-3000000000<=(G x y).1/\(G x y).1<=3000000000)
  (ha:∀x∈da,-3000000000<=x/\x<=3000000000) (hb:∀x∈db,-3000000000<=x/\x<=3000000000) :
  okB [(n:Int)] (rowAt da n i)=true/\okB [(n:Int)] (innV db n T k)=true /\
  ((∃D1 v,each2M G [(n:Int)] (rowAt da n i) [(n:Int)] (innV db n T k)=(0,[(n:Int)],D1)/\okB [(n:Int)] D1=true/\reduceM F nv nb [(n:Int)] D1=(0,[],[v])/\innQ F nv nb G n T da db (i * T+k)=(v,0)) \/
   (∃D1 c2,each2M G [(n:Int)] (rowAt da n i) [(n:Int)] (innV db n T k)=(0,[(n:Int)],D1)/\okB [(n:Int)] D1=true/\¬c2=0/\reduceM F nv nb [(n:Int)] D1=(c2,[],[])/\(innQ F nv nb G n T da db (i * T+k)).2=c2) \/
   (∃c1,¬c1=0/\each2M G [(n:Int)] (rowAt da n i) [(n:Int)] (innV db n T k)=(c1,[],[])/\(innQ F nv nb G n T da db (i * T+k)).2=c1)):=by
 have hr:(i+1) * n<=da.length:=by rw [hla]; exact Nat.mul_le_mul_right n hi
 have o1:okB [(n:Int)] (rowAt da n i)=true:=ok_vec hn (rowAt_len hr) (fun x hx=>ha x (rowAt_mem hx))
 have o2:okB [(n:Int)] (innV db n T k)=true:=ok_vec hn (innV_len db n T k) (fun x hx=>hb x (innV_mem hlb hk hx))
 refine ⟨o1,o2,?_⟩
 have eq:innQ F nv nb G n T da db (i * T+k)=innC F nv nb G n (rowAt da n i) (innV db n T k):=by
  unfold innQ
  rw [show (i * T+k) / T=i by rw [Nat.mul_comm,Nat.mul_add_div (by omega),Nat.div_eq_of_lt hk,Nat.add_zero],show (i * T+k) % T=k by rw [Nat.mul_comm,Nat.mul_add_mod,Nat.mod_eq_of_lt hk]]
 rw [eq,each2_rows G o1 o2]
 unfold innC
 by_cases h0:firstG (pairF G) ((rowAt da n i).zip (innV db n T k))=0
 ·rw [if_pos h0,if_pos h0]
  have o3:=ok_map G hGb o1 o2 h0
  have hl:(((rowAt da n i).zip (innV db n T k)).map (fun p=>(pairF G p).1)).length=n:=by
   simp [rowAt_len hr,innV_len]
  rcases reduce_vec F nv nb n _ hl with ⟨v,hv⟩ | ⟨c2,hc,hv⟩
  ·exact .inl ⟨_,v,rfl,o3,hv,by rw [hv]; rfl⟩
  exact .inr (.inl ⟨_,c2,rfl,o3,hc,hv,by rw [hv]⟩)
 rw [if_neg h0,if_neg h0]
 exact .inr (.inr ⟨_,h0,rfl,rfl⟩)
end Pl
theorem Keep.alloc {w0 w:World} {P:Nat} {row:Option Nat} (h:Keep w0 P row w) (o:Obj):Keep w0 P row (w.alloc o):=by
 refine ⟨by have:=h.1; simp; omega,fun b hb h1 h2=>?_⟩
 rw [<- h.2 b hb h1 h2]
 exact heap_alloc_old w o (by have:=h.1; omega)
namespace Pl
def upJ (Q:Nat->Int × Int) (N a:Nat):List Int:=(List.range a).map (fun j=>(Q j).1)++List.replicate (N-a) 0
theorem upJ_zero (Q:Nat->Int × Int) (N:Nat):upJ Q N 0=List.replicate N 0:=by simp [upJ]
theorem upJ_all (Q:Nat->Int × Int) (N:Nat):upJ Q N N=(List.range N).map (fun j=>(Q j).1):=by simp [upJ]
theorem upJ_len (Q:Nat->Int × Int) {N a:Nat} (h:a<=N):(upJ Q N a).length=N:=by simp [upJ]; omega
theorem upJ_step (Q:Nat->Int × Int) {N a:Nat} (h:a<N):(upJ Q N a).set a (Q a).1=upJ Q N (a+1):=by
 unfold upJ
 rw [List.set_append_right _ _ (by simp),List.range_succ,List.map_append]
 have e:N-a=(N-(a+1))+1:=by omega
 rw [e,List.replicate_succ]
 simp
end Pl
theorem wrap_ok (x:Int) (h0:-9223372036854775808<=x) (h1:x<=9223372036854775807):IntKind.i64.wrap x=x:=by
 rw [IntKind.wrap_i64]
 omega
theorem box_op {w w1:World} {x0 x1 x2:Value} {o':Obj} (hb:Below (w.heap.size+1) ((w.alloc (.cells #[x0,x1,x2] 60)).alloc o') w1) :
  w1.cell? ⟨w.heap.size,0,none⟩=some x0/\w1.cell? ⟨w.heap.size,1,none⟩=some x1/\w1.cell? ⟨w.heap.size,2,none⟩=some x2:=by
 refine ⟨?_,?_,?_⟩
 ·rw [hb.cell (p:=⟨w.heap.size,0,none⟩) (by show w.heap.size<_; omega)]; simp [go_sem]
 ·rw [hb.cell (p:=⟨w.heap.size,1,none⟩) (by show w.heap.size<_; omega)]; simp [go_sem]
 rw [hb.cell (p:=⟨w.heap.size,2,none⟩) (by show w.heap.size<_; omega)]; simp [go_sem]
theorem callF32 (args:Array Value) (w:World):(callFunc 68 args).run Tryz.prog w=.ok (.enter 68 args) w:=by kernel_rfl
end Go.Proofs.YtacapaiadggemaaGreat
