import Derived.Test.YtacapaiadggemaaGreatDy2
namespace Go.Proofs.YtacapaiadggemaaGreat
open Go.RowKit
set_option maxRecDepth 100000
set_option maxHeartbeats 16000000
set_option linter.unusedVariables false
namespace Pl
def revM (sh da:List Int):Int × List Int × List Int:=if sh.length=0 then (0,[],da) else (0,sh,(rowsDown da (prodP sh.tail).toNat (sh.getD 0 0).toNat).flatten)
theorem rowsDown_succ (da:List Int) (s q:Nat):rowsDown da s (q+1)=rowAt da s q::rowsDown da s q:=rfl
theorem rows_size {sh da:List Int} (h:okB sh da=true) (h0:¬sh.length=0):∃n s:Nat,sh.getD 0 0=n/\prodP sh.tail=s/\n<=1000/\s<=1000000000/\da.length=n * s/\baseB sh.tail=true:=by
 obtain ⟨hl,hf⟩:=ok_len h
 have hP:=prod_eq hf
 cases sh with
 |nil=>simp at h0
 |cons x tl =>
  have hb:baseB (x::tl)=true:=by simp only [fitsB,Bool.and_eq_true] at hf; exact hf.1
  have hbt:=base_tail hb
  simp only [List.tail_cons] at hbt ⊢
  have hxr:0<=x/\x<=1000:=by
   simp only [baseB,Bool.and_eq_true,List.all_cons] at hb
   exact inR_bd hb.2.1
  have ht:=(prod_two tl hbt).1
  refine ⟨x.toNat,(prodP tl).toNat,by show x=_; omega,by omega,by omega,by omega,?_,hbt⟩
  have e:(da.length:Int)=(x.toNat:Int) * ((prodP tl).toNat:Int):=by
   rw [hl,hP,prodP_cons]
   congr 1 <;> omega
  exact_mod_cast e
end Pl
theorem rev_any (a0:Option Addr) (c0:Nat) (a1:Option Addr) (c1:Nat) (sh da:List Int) (w:World) (h0:Rd w.heap.size w (.slice a0 sh.length c0) sh) (h1:Rd w.heap.size w (.slice a1 da.length c1) da) (hc0:sh.length<=c0) (hc0':0<sh.length->c0<=9223372036854775807) (hc1:da.length<=c1) (hc1':0<da.length->c1<=9223372036854775807)
  (hok:Pl.okB sh da=true) (c:Int) (S D:List Int) (hres:Pl.revM sh da=(c,S,D)) :
  Calls Tryz.prog 108 #[.agg #[.slice a0 sh.length c0,.slice a1 da.length c1]] w (KPost w c S D):=by
 obtain ⟨hm0,hm1⟩:=Pl.ok_max hok
 have H0:=hideP h0
 have H1:=hideP h1
 have KS:Hid (∀w',Calls Tryz.prog 84 #[.agg #[.slice a0 sh.length c0,.slice a1 da.length c1]] w' fun e w''=>e=.returned (.bool (decide (sh.length=0)))/\Below w'.heap.size w' w''):=fun w'=>isScalar_any _ _ sh w.heap.size w' w H0.out
 obtain ⟨wb,hwb⟩:∃wb,wb=(w.alloc (.cells #[.slice a0 sh.length c0,.slice a1 da.length c1] 25)).alloc (.cells #[.slice none 0 0,.slice none 0 0] 25):=⟨_,rfl⟩
 have WS:wb.heap.size=w.heap.size+1+1:=by rw [hwb]; simp
 have PB:Hid (∀W,Below wb.heap.size wb W->(W.cell? ⟨w.heap.size,0,none⟩=some (.slice a0 sh.length c0)/\W.cell? ⟨w.heap.size,1,none⟩=some (.slice a1 da.length c1))/\(W.cell? ⟨w.heap.size+1,0,none⟩=some (.slice none 0 0)/\W.cell? ⟨w.heap.size+1,1,none⟩=some (.slice none 0 0)/\∀o,W.frozen? ⟨w.heap.size+1,o,none⟩=false)/\Below w.heap.size w W):=fun W hb=>by
  subst hwb
  exact boxes2 (hb.mono (by simp))
 go_enter Tryz.func108,Tryz.ntmps108
 by_cases hsl:sh.length=0
 ·have KS':Hid (∀w',Calls Tryz.prog 84 #[.agg #[.slice a0 sh.length c0,.slice a1 da.length c1]] w' fun e w''=>e=.returned (.bool true)/\Below w'.heap.size w' w''):=fun w'=>by have:=KS.out w'; rw [decide_eq_true hsl] at this; exact this
  have KC:Hid (∀W,Below wb.heap.size wb W->Calls Tryz.prog 135 #[.agg #[.slice a0 sh.length c0,.slice a1 da.length c1]] W (KPost W 0 sh da)):=fun W hb=>by
   have k:=(PB.out W hb).2.2
   exact copied_any _ _ sh da W (by omega) (by omega) ((H0.out.keep k).up k.size) ((H1.out.keep k).up k.size)
  unfold Pl.revM at hres
  rw [if_pos hsl,<- List.length_eq_zero_iff.1 hsl] at hres
  simp only [Prod.mk.injEq] at hres
  obtain ⟨rfl,rfl,rfl⟩:=hres
  clear h0 h1 hok KS H0 H1 hsl
  go_wp2_with fail
  rw [<- hwb]
  refine (KS'.out _).mono ?_
  rintro e w1 ⟨rfl,hb1⟩
  have B1:=hideP hb1
  obtain ⟨c10,c11⟩:=(PB.out _ hb1).1
  clear hb1 hwb
  go_wp2_with fail
  refine (KC.out _ B1.out).mono ?_
  rintro e w2 ⟨hb2,⟨_,u0,u1,rfl,res2⟩ | ⟨hne,_⟩⟩
  rotate_left 1
  ·exact absurd rfl hne
  have B2:=hideP (B1.out.trans (hb2.mono B1.out.size))
  have X2:=hideP (PB.out _ B2.out)
  have R2:=hideP res2
  have hs1:=B1.out.size
  have hs2:=hb2.size
  obtain ⟨x0,y0,x1,y1,e0,e1⟩:=res2.forms
  subst e0 e1
  clear hb2 res2 c10 c11
  have r0:=X2.out.2.1.1
  have r1:=X2.out.2.1.2.1
  have f2:=X2.out.2.1.2.2
  go_wp2_with fail
  refine bodyPost_ret (v:=.agg #[.slice x0 sh.length y0,.slice x1 da.length y1]) (by simp [results,Tryz.results108,go_sem,r0,r1]) rfl ⟨(X2.out.2.2.setCell (by simp) _).setCell (by simp) _,.inl ⟨rfl,_,_,rfl,?_,?_,R2.out.2.2⟩⟩
  ·exact Own.base (Own.store (Own.store R2.out.1 (by omega) _) (by omega) _) (by omega)
  exact Own.base (Own.store (Own.store R2.out.2.1 (by omega) _) (by omega) _) (by omega)
 obtain ⟨b0,o0,rfl⟩:=rd_some h0 (by omega)
 replace hc0':=hc0' (by omega)
 have KS':Hid (∀w',Calls Tryz.prog 84 #[.agg #[.slice (some ⟨b0,o0,none⟩) sh.length c0,.slice a1 da.length c1]] w' fun e w''=>e=.returned (.bool false)/\Below w'.heap.size w' w''):=fun w'=>by have:=KS.out w'; rw [decide_eq_false hsl] at this; exact this
 obtain ⟨hlt0,hce⟩:=rd_cell h0 (i:=0) (by omega)
 rw [Nat.add_zero] at hce
 obtain ⟨n,s,en,es,n2,s2,hl,hbt⟩:=Pl.rows_size hok hsl
 unfold Pl.revM at hres
 rw [if_neg hsl,en,es] at hres
 simp only [Int.toNat_natCast] at hres
 rw [en] at hce
 have htl:sh.tail.length=sh.length-1:=by simp
 have RT:=hideP (fun c'=>rd_tail h0 (by omega) c')
 have RZ:Hid (sh.length-1=0->∀c',Rd w.heap.size w (.slice (some ⟨b0,o0,none⟩) 0 c') sh.tail):=fun h c'=>rd_zero _ _ _ _ _ (by omega)
 have KC:Hid (∀W v,Below w.heap.size w W->Rd w.heap.size w v sh.tail->Calls Tryz.prog 81 #[v] W fun e w'=>e=.returned (.int .i64 (s:Int))/\w'=W):=fun W v hb h=>by
  have:=cellCount_any _ v sh.tail W hbt ((h.keep hb).up hb.size)
  rw [es] at this
  exact this
 have KR:Hid (∀(q:Nat) W,q<n->Below w.heap.size w W->Calls Tryz.prog 126 #[.slice a1 da.length c1,.int .i64 (s:Int),.int .i64 (q:Int),.int .i64 ((q:Int)+1)] W fun e w'=>∃v,e=.returned v/\Rd W.heap.size W v (Pl.rowAt da s q)/\w'=W):=fun q W hq hb=>by
  have h1':(q+1) * s<=da.length:=by rw [hl]; exact Nat.mul_le_mul_right s hq
  have:=rows_gen W.heap.size a1 c1 s q (q+1) da W ((H1.out.keep hb).up hb.size) (by omega) h1' hc1 hc1'
  rw [show (q+1) * s-q * s=s by rw [Nat.succ_mul]; omega,show (((q+1:Nat)):Int)=(q:Int)+1 by omega] at this
  exact this
 have KJ:Hid (∀b W,Below wb.heap.size wb W->b<W.heap.size->W.cell? ⟨b,0,none⟩=some (.slice (some ⟨b0,o0,none⟩) sh.length c0)->Calls Tryz.prog 74 #[.slice (some ⟨b,0,none⟩) 1 1] W fun e w'=>∃ao cap,e=.returned (.slice ao sh.length cap)/\Own W.heap.size w' (.slice ao sh.length cap) sh/\Below W.heap.size W w'):=fun b W hb hlt hcc=>by
  have k:=(PB.out W hb).2.2
  exact joined1_own b _ sh W (by omega) hlt hcc ((H0.out.keep k).up k.size)
 have PZ:Hid (∀W,Below w.heap.size w W->W.cell? ⟨b0,o0,none⟩=some (.int .i64 (n:Int))):=fun W hb=>(hb.cell (p:=⟨b0,o0,none⟩) hlt0).trans hce
 have RL:Hid (∀q,q<n->(Pl.rowAt da s q).length=s):=fun q hq=>Pl.rowAt_len (by rw [hl]; exact Nat.mul_le_mul_right s hq)
 have HR:=hideP hres
 obtain ⟨i0,hi,hz0,hz1,hz2⟩:=info_parts Tryz.info3
 have HI:=hideP (And.intro hi (And.intro hz0 (And.intro hz1 hz2)))
 have hl1:1<=sh.length:=by omega
 have hns:n * s<=1000:=by omega
 clear h0 h1 hok KS H0 H1 hce en es hl hres hi hz0 hz1 hz2 hbt
 generalize sh.tail=st at *
 generalize hLd:da.length=Ld at *
 clear hLd
 generalize hLs:sh.length=Ls at *
 have HLs:=hideP hLs
 clear hLs
 go_wp2_with fail
 rw [<- hwb]
 refine (KS'.out _).mono ?_
 rintro e wq ⟨rfl,hb1⟩
 have BWB:=hideP hb1
 have hs1:w.heap.size+1+1<=wq.heap.size:=by have:=hb1.size; omega
 have BW:=hideP (PB.out _ hb1).2.2
 have c10:=(PB.out _ hb1).1.1
 clear hb1 hwb KS'
 go_upto_region 3 with fail
 go_cut [3] (fun s3 wx=>s3=.int .i64 (s:Int)/\wx=wq)
 case first =>
  by_cases hc:c0=1
  ·subst hc
   have RZ':=hideP (RZ.out (by omega))
   clear RZ RT
   go_wp2_with (go_at_call 81; refine (KC.out _ _ BW.out (RZ'.out _)).mono ?_; rintro e wq ⟨rfl,rfl⟩)
   go_meet
   exact ⟨rfl,rfl⟩
  clear RZ
  go_wp2_with (go_at_call 81; refine (KC.out _ _ BW.out (RT.out _)).mono ?_; rintro e wq ⟨rfl,rfl⟩)
  go_meet
  exact ⟨rfl,rfl⟩
 obtain ⟨rfl,rfl⟩:=hcut
 rename World=>wq
 have c11:=(PB.out _ BWB.out).1.2
 have c10:=(PB.out _ BWB.out).1.1
 clear RT RZ htl
 go_wp2_with (at_make; refine wpList_make_own _ rfl _ _ 23 rfl wq.heap.size 3 i0 (.int .i64 0) 1 Tryz.underlying23 HI.out.1 HI.out.2.1 HI.out.2.2.1 _ _ _ Ld rfl rfl rfl ?b2 ?b3 ?b4 ?_)
 case b2=>rw [HI.out.2.2.2]; omega
 case b3=>unfold maxLen; omega
 case b4=>exact Nat.le_refl _
 intro w2 hown hgrow
 have B2:Hid (Below wq.heap.size wq w2):=(Below.refl _ _).grown hgrow (Nat.le_refl _) (by intro k h; cases h)
 have HO2:Hid (w2.ownsRow wq.heap.size 3 1 (.slice (some ⟨wq.heap.size,0,none⟩) 0 Ld) 0 (([]:List Int).map (Value.int .i64))):=hown
 clear hown hgrow c10 c11
 have BB2:=hideP (BWB.out.trans (B2.out.mono BWB.out.size))
 have c10:=(PB.out _ BB2.out).1.1
 have cz:=PZ.out _ (PB.out _ BB2.out).2.2
 go_wp2_with fail
 clear c10 cz
 go_loopw [4,5] (fun dv i wr=>∃q:Nat,q<=n/\i=.int .i64 ((q:Int)-1)/\∃acc:List Int,Hid (acc++(Pl.rowsDown da s q).flatten=(Pl.rowsDown da s n).flatten)/\Hid (acc.length+q * s=n * s)/\Hid (wr.ownsRow wq.heap.size 3 1 dv acc.length (acc.map (Value.int .i64)))/\Hid (Below wq.heap.size wq wr)) (fun _ i _=>(intOf i+1).toNat)
 case atStart=>exact ⟨n,Nat.le_refl _,by go_num,[],by show _=_; simp,by show _=_; simp,HO2,B2⟩
 clear HO2 B2 BB2
 obtain ⟨q,hq,rfl,acc,hac,hal,ho,hbel⟩:=hrel
 have BR:=hideP (BWB.out.trans (hbel.out.mono BWB.out.size))
 have X:=hideP (PB.out _ BR.out)
 obtain ⟨xo,yo,eo⟩:=owns_form ho.out
 subst eo
 by_cases hq0:q=0
 ·subst hq0
  have hT:acc=(Pl.rowsDown da s n).flatten:=by have:=hac.out; simpa [Pl.rowsDown] using this
  have hre:=HR.out
  rw [<- hT] at hre
  simp only [Prod.mk.injEq] at hre
  obtain ⟨rfl,rfl,rfl⟩:=hre
  have A6:Hid (Below wr.heap.size wr (wr.alloc (.cells #[.slice (some ⟨b0,o0,none⟩) Ls c0] 23))):=(Below.refl _ _).alloc (Nat.le_refl _) _
  have KJ':=hideP (KJ.out wr.heap.size (wr.alloc (.cells #[.slice (some ⟨b0,o0,none⟩) Ls c0] 23)) (BR.out.trans (A6.out.mono BR.out.size)) (lit_cell wr _ 23).1 (lit_cell wr _ 23).2)
  have c10:=X.out.1.1
  clear hT
  go_wp2_with fail
  refine KJ'.out.mono ?_
  rintro e w6 ⟨xs,ys,rfl,ho6,hb6⟩
  have B6:=hideP (BR.out.trans ((A6.out.trans (hb6.mono (by simp))).mono BR.out.size))
  have O6:=hideP ho6
  have D6:=hideP (own_of_any (owns_keep ho.out (A6.out.trans (hb6.mono (by simp)))))
  have X6:=hideP (PB.out _ B6.out)
  have hs6:wr.heap.size+1<=w6.heap.size:=by have:=hb6.size; simpa using this
  have hsr:=hbel.out.size
  have AP:=hideP (apart_lo2 (da:=acc) ho6 (by
   rcases (own_of_any ho.out).lt with h | h
   ·exact .inl h
   exact .inr fun b e=>by have:=h b e; simp; omega))
  clear ho6 hb6 c10
  have r0:=X6.out.2.1.1
  have r1:=X6.out.2.1.2.1
  have f2:=X6.out.2.1.2.2
  go_wp2_with fail
  refine bodyPost_ret (v:=.agg #[.slice xs Ls ys,.slice xo acc.length yo]) (by simp [results,Tryz.results108,go_sem,r0,r1]) rfl ⟨(X6.out.2.2.setCell (by simp) _).setCell (by simp) _,.inl ⟨rfl,_,_,rfl,?_,?_,AP.out⟩⟩
  ·have:=O6.out.base (show w.heap.size+1+1<=_ by simp; omega)
   exact Own.base (Own.store (Own.store this (by omega) _) (by omega) _) (by omega)
  have:=D6.out.base (show w.heap.size+1+1<=wq.heap.size by omega)
  exact Own.base (Own.store (Own.store this (by omega) _) (by omega) _) (by omega)
 obtain ⟨q',rfl⟩:∃q',q=q'+1:=⟨q-1,by omega⟩
 have eq1:(((q'+1:Nat)):Int)-1=(q':Int):=by omega
 rw [eq1]
 clear eq1
 have hac':Hid ((acc++Pl.rowAt da s q')++(Pl.rowsDown da s q').flatten=(Pl.rowsDown da s n).flatten):=by
  have:=hac.out
  rw [Pl.rowsDown_succ,List.flatten_cons,<- List.append_assoc] at this
  exact this
 have hrl:=RL.out q' (by omega)
 have hal':Hid ((acc++Pl.rowAt da s q').length+q' * s=n * s):=by
  have:=hal.out
  rw [Nat.succ_mul] at this
  show _=_
  rw [List.length_append,hrl]
  omega
 have UB:Hid (acc.length+(Pl.rowAt da s q').length<=16777216):=by
  have:=hal'.out
  rw [List.length_append] at this
  show _<=_
  omega
 have KRQ:=hideP (fun W hb=>KR.out q' W (by omega) hb)
 have c11:=X.out.1.2
 clear hrl hac hal
 generalize Pl.rowAt da s q'=row at *
 go_wp2_with fail
 refine (KRQ.out _ X.out.2.2).mono ?_
 rintro e wr ⟨v,rfl,hrd,rfl⟩
 have RD:=hideP hrd
 obtain ⟨zv,yv,ev⟩:=hrd.form
 subst ev
 clear hrd
 have hsz:=hbel.out.size
 go_wp2_with (at_builtin; refine wpList_append_rd_at (base:=wq.heap.size) _ rfl _ _ rfl _ _ rfl rfl _ _ _ ho.out RD.out UB.out hsz ?_)
 intro v' w5 ho5 hg5 _
 have D5:Hid (Below wq.heap.size wq w5):=hbel.out.grown hg5 hsz (fun k hk=>(ho.out.lt k hk).1)
 have O5:Hid (w5.ownsRow wq.heap.size 3 1 v' (acc++row).length ((acc++row).map (Value.int .i64))):=by
  show World.ownsRow _ _ _ _ _ _ _
  rw [List.length_append]
  first | exact ho5 | (rw [List.map_append]; exact ho5)
 clear ho5 hg5 c11
 go_wp2_with fail
 go_roundw
 case rel=>exact ⟨q',by omega,by go_num,acc++row,hac',hal',O5,D5⟩
 simp [intOf]
namespace Pl
def seg (f:Nat->Int) (a b:Nat):List Int:=(List.range (b-a)).map fun t=>f (a+t)
theorem seg_len (f:Nat->Int) (a b:Nat):(seg f a b).length=b-a:=by simp [seg]
theorem seg_get {f:Nat->Int} {a b t:Nat} (h:t<b-a):(seg f a b)[t]? = some (f (a+t)):=by
 unfold seg
 rw [List.getElem?_map,List.getElem?_range h]
 rfl
theorem seg_none (f:Nat->Int) {a b t:Nat} (h:b-a<=t):(seg f a b)[t]? = none:=List.getElem?_eq_none (by rw [seg_len]; exact h)
theorem seg_nil (f:Nat->Int) {a b:Nat} (h:b<=a):seg f a b=[]:=by
 unfold seg
 rw [show b-a=0 by omega]
 rfl
theorem seg_cat (f:Nat->Int) {a m b:Nat} (h1:a<=m) (h2:m<=b):seg f a m++seg f m b=seg f a b:=by
 apply List.ext_getElem?
 intro t
 by_cases ht:t<m-a
 ·rw [List.getElem?_append_left (by rw [seg_len]; exact ht),seg_get ht,seg_get (by omega)]
 rw [List.getElem?_append_right (by rw [seg_len]; omega),seg_len]
 by_cases hb:t<b-a
 ·rw [seg_get (by omega),seg_get hb]
  congr 2; omega
 rw [seg_none f (by omega),seg_none f (by omega)]
theorem seg_congr {f f':Nat->Int} {a b:Nat} (h:∀t,a<=t->t<b->f t=f' t):seg f a b=seg f' a b:=by
 unfold seg
 apply List.map_congr_left
 intro t ht
 have:=List.mem_range.1 ht
 exact h _ (by omega) (by omega)
theorem seg_shift {f f':Nat->Int} {a b c d:Nat} (hl:b-a=d-c) (h:∀t,t<b-a->f (a+t)=f' (c+t)):seg f a b=seg f' c d:=by
 unfold seg
 rw [<- hl]
 apply List.map_congr_left
 intro t ht
 exact h t (List.mem_range.1 ht)
theorem seg_one (f:Nat->Int) (a:Nat):seg f a (a+1)=[f a]:=by
 unfold seg
 rw [show a+1-a=1 by omega]
 rfl
theorem seg_mem {f:Nat->Int} {a b:Nat} {x:Int} (h:x∈seg f a b):∃t,a<=t/\t<b/\f t=x:=by
 unfold seg at h
 obtain ⟨t,ht,rfl⟩:=List.mem_map.1 h
 have:=List.mem_range.1 ht
 exact ⟨a+t,by omega,by omega,rfl⟩
theorem seg_in {f:Nat->Int} {a b t:Nat} (h1:a<=t) (h2:t<b):f t∈seg f a b:=by
 unfold seg
 exact List.mem_map.2 ⟨t-a,List.mem_range.2 (by omega),by congr 1; omega⟩
def mrg (k:Int->Int):List Int->List Int->List Int
 |[],R=>R
 |l::L,[]=>l::L
 |l::L,r::R=>if k r<k l then r::mrg k (l::L) R else l::mrg k L (r::R)
termination_by L R=>L.length+R.length
theorem mrg_nil (k:Int->Int) (L:List Int):mrg k L []=L:=by cases L <;> simp [mrg]
theorem nil_mrg (k:Int->Int) (R:List Int):mrg k [] R=R:=by simp [mrg]
theorem mrg_lt {k:Int->Int} {l r:Int} {L R:List Int} (h:k r<k l):mrg k (l::L) (r::R)=r::mrg k (l::L) R:=by rw [mrg,if_pos h]
theorem mrg_ge {k:Int->Int} {l r:Int} {L R:List Int} (h:¬k r<k l):mrg k (l::L) (r::R)=l::mrg k L (r::R):=by rw [mrg,if_neg h]
theorem mrg_split (k:Int->Int):∀(n:Nat) (L1 R1 L2 R2:List Int),L1.length+R1.length<=n->(∀x∈L1,∀y∈R2,k x<=k y)->(∀x∈R1,∀y∈L2,k x<k y)->mrg k (L1++L2) (R1++R2)=mrg k L1 R1++mrg k L2 R2:=by
 intro n
 induction n with
 |zero =>
  intro L1 R1 L2 R2 h _ _
  obtain rfl:L1=[]:=List.length_eq_zero_iff.1 (by omega)
  obtain rfl:R1=[]:=List.length_eq_zero_iff.1 (by omega)
  simp [mrg_nil]
 |succ n ih =>
  intro L1 R1 L2 R2 h hL hR
  cases L1 with
  |nil =>
   cases R1 with
   |nil=>simp [mrg_nil]
   |cons r R1 =>
    cases L2 with
    |nil=>simp [nil_mrg]
    |cons l L2 =>
     have e:=ih [] R1 (l::L2) R2 (by simp at h ⊢; omega) (by simp) (fun x hx y hy=>hR x (List.mem_cons_of_mem _ hx) y hy)
     rw [List.nil_append] at e ⊢
     rw [List.cons_append,mrg_lt (hR r (by simp) l (by simp)),e,nil_mrg,nil_mrg]
     rfl
  |cons l L1 =>
   cases R1 with
   |nil =>
    cases R2 with
    |nil=>simp [mrg_nil]
    |cons r R2 =>
     have e:=ih L1 [] L2 (r::R2) (by simp at h ⊢; omega) (fun x hx y hy=>hL x (List.mem_cons_of_mem _ hx) y hy) (by simp)
     rw [List.nil_append] at e ⊢
     rw [List.cons_append,mrg_ge (by have:=hL l (by simp) r (by simp); omega),e,mrg_nil,mrg_nil]
     rfl
   |cons r R1 =>
    by_cases hk:k r<k l
    ·have e:=ih (l::L1) R1 L2 R2 (by simp at h ⊢; omega) hL (fun x hx y hy=>hR x (List.mem_cons_of_mem _ hx) y hy)
     rw [List.cons_append,List.cons_append,mrg_lt hk,<- List.cons_append,e,mrg_lt hk]
     rfl
    have e:=ih L1 (r::R1) L2 R2 (by simp at h ⊢; omega) (fun x hx y hy=>hL x (List.mem_cons_of_mem _ hx) y hy) hR
    rw [List.cons_append,List.cons_append,mrg_ge hk,<- List.cons_append,e,mrg_ge hk]
    rfl
theorem mrg_cut {k:Int->Int} {L1 R1 L2 R2:List Int} (h1:∀x∈L1,∀y∈R2,k x<=k y) (h2:∀x∈R1,∀y∈L2,k x<k y):mrg k (L1++L2) (R1++R2)=mrg k L1 R1++mrg k L2 R2:=mrg_split k _ L1 R1 L2 R2 (Nat.le_refl _) h1 h2
theorem mem_mrg (k:Int->Int) {x:Int}:∀(n:Nat) (L R:List Int),L.length+R.length<=n->x∈mrg k L R->x∈L\/x∈R:=by
 intro n
 induction n with
 |zero =>
  intro L R h hx
  obtain rfl:L=[]:=List.length_eq_zero_iff.1 (by omega)
  rw [nil_mrg] at hx
  exact .inr hx
 |succ n ih =>
  intro L R h hx
  cases L with
  |nil=>rw [nil_mrg] at hx; exact .inr hx
  |cons l L =>
   cases R with
   |nil=>rw [mrg_nil] at hx; exact .inl hx
   |cons r R =>
    by_cases hk:k r<k l
    ·rw [mrg_lt hk] at hx
     rcases List.mem_cons.1 hx with rfl | hx
     ·exact .inr (by simp)
     rcases ih _ _ (by simp at h ⊢; omega) hx with h | h
     ·exact .inl h
     exact .inr (List.mem_cons_of_mem _ h)
    rw [mrg_ge hk] at hx
    rcases List.mem_cons.1 hx with rfl | hx
    ·exact .inl (by simp)
    rcases ih _ _ (by simp at h ⊢; omega) hx with h | h
    ·exact .inl (List.mem_cons_of_mem _ h)
    exact .inr h
def ins (k:Int->Int) (x:Int):List Int->List Int
 |[]=>[x]
 |y::l=>if k x<k y then x::y::l else y::ins k x l
theorem ins_split {k:Int->Int} {x:Int} {P Q:List Int} (hP:∀p∈P,k p<=k x) (hQ:∀q∈Q,k x<k q):ins k x (P++Q)=P++x::Q:=by
 induction P with
 |nil =>
  cases Q with
  |nil=>rfl
  |cons q Q=>rw [List.nil_append,ins,if_pos (hQ q (by simp))]; rfl
 |cons p P ih =>
  rw [List.cons_append,ins,if_neg (by have:=hP p (by simp); omega),ih (fun y hy=>hP y (List.mem_cons_of_mem _ hy))]
  rfl
theorem mem_ins {k:Int->Int} {x y:Int} {l:List Int} (h:y∈ins k x l):y=x\/y∈l:=by
 induction l with
 |nil=>simp [ins] at h; exact .inl h
 |cons z l ih =>
  rw [ins] at h
  split at h
  ·rcases List.mem_cons.1 h with h | h
   ·exact .inl h
   exact .inr h
  rcases List.mem_cons.1 h with h | h
  ·exact .inr (by rw [h]; simp)
  rcases ih h with h | h
  ·exact .inl h
  exact .inr (List.mem_cons_of_mem _ h)
def Srt (k:Int->Int) (l:List Int):Prop:=l.Pairwise fun x y=>k x<=k y
theorem srt_ins {k:Int->Int} {x:Int} {l:List Int} (h:Srt k l):Srt k (ins k x l):=by
 induction l with
 |nil=>simp [ins,Srt]
 |cons y l ih =>
  have h':=List.pairwise_cons.1 h
  rw [ins]
  split
  ·rename_i hk
   refine List.pairwise_cons.2 ⟨fun z hz=>?_,h⟩
   rcases List.mem_cons.1 hz with rfl | hz
   ·omega
   have:=h'.1 z hz; omega
  rename_i hk
  refine List.pairwise_cons.2 ⟨fun z hz=>?_,ih h'.2⟩
  rcases mem_ins hz with rfl | hz
  ·omega
  exact h'.1 z hz
theorem mrg_ins (k:Int->Int) (x:Int):∀(n:Nat) (L R:List Int),L.length+R.length<=n->Srt k L->Srt k R->mrg k L (ins k x R)=ins k x (mrg k L R):=by
 intro n
 induction n with
 |zero =>
  intro L R h _ _
  obtain rfl:L=[]:=List.length_eq_zero_iff.1 (by omega)
  rw [nil_mrg,nil_mrg]
 |succ n ih =>
  intro L R h sL sR
  cases L with
  |nil=>rw [nil_mrg,nil_mrg]
  |cons l L =>
   have sL':=List.pairwise_cons.1 sL
   cases R with
   |nil =>
    rw [mrg_nil]
    show mrg k (l::L) [x]=ins k x (l::L)
    rw [ins]
    by_cases hk:k x<k l
    ·rw [mrg_lt hk,if_pos hk,mrg_nil]
    rw [mrg_ge hk,if_neg hk]
    have:=ih L [] (by simp at h ⊢; omega) sL'.2 sR
    rw [mrg_nil] at this
    rw [<- this]
    rfl
   |cons r R =>
    have sR':=List.pairwise_cons.1 sR
    by_cases hx:k x<k r
    ·have e:ins k x (r::R)=x::r::R:=by rw [ins,if_pos hx]
     rw [e]
     by_cases hr:k r<k l
     ·rw [mrg_lt (by omega),mrg_lt hr,ins,if_pos hx]
     by_cases hl:k x<k l
     ·rw [mrg_lt hl,mrg_ge hr,ins,if_pos hl]
     rw [mrg_ge hl,mrg_ge hr,ins,if_neg hl]
     have:=ih L (r::R) (by simp at h ⊢; omega) sL'.2 sR
     rw [e] at this
     rw [this]
    have e:ins k x (r::R)=r::ins k x R:=by rw [ins,if_neg hx]
    rw [e]
    by_cases hr:k r<k l
    ·rw [mrg_lt hr,mrg_lt hr,ins,if_neg hx]
     have:=ih (l::L) R (by simp at h ⊢; omega) sL sR'.2
     rw [this]
    rw [mrg_ge hr,mrg_ge hr,ins,if_neg (by omega)]
    have:=ih L (r::R) (by simp at h ⊢; omega) sL'.2 sR
    rw [e] at this
    rw [this]
def grd (k:Int->Int) (a:Nat):Nat->List Int
 |0=>[]
 |n+1=>ins k ((a+n:Nat):Int) (grd k a n)
theorem srt_grd (k:Int->Int) (a n:Nat):Srt k (grd k a n):=by
 induction n with
 |zero=>exact List.Pairwise.nil
 |succ n ih=>exact srt_ins ih
theorem len_ins (k:Int->Int) (x:Int) (l:List Int):(ins k x l).length=l.length+1:=by
 induction l with
 |nil=>rfl
 |cons y l ih=>rw [ins]; split <;> simp [ih]
theorem len_grd (k:Int->Int) (a n:Nat):(grd k a n).length=n:=by
 induction n with
 |zero=>rfl
 |succ n ih=>rw [grd,len_ins,ih]
theorem mem_grd {k:Int->Int} {a n:Nat} {x:Int} (h:x∈grd k a n):(a:Int)<=x/\x<(a:Int)+n:=by
 induction n with
 |zero=>cases h
 |succ n ih =>
  rcases mem_ins h with rfl | h
  ·omega
  have:=ih h; omega
theorem mrg_grd (k:Int->Int) (a n m:Nat):mrg k (grd k a n) (grd k (a+n) m)=grd k a (n+m):=by
 induction m with
 |zero=>rw [grd,mrg_nil]; rfl
 |succ m ih =>
  rw [grd,mrg_ins k _ _ _ _ (Nat.le_refl _) (srt_grd k a n) (srt_grd k _ m),ih]
  show _=ins k ((a+(n+m):Nat):Int) (grd k a (n+m))
  rw [Nat.add_assoc]
def SrtF (k:Int->Int) (f:Nat->Int) (a b:Nat):Prop:=∀i j,a<=i->i<j->j<b->k (f i)<=k (f j)
theorem srtF_of {k:Int->Int} {f:Nat->Int} {a b:Nat} (h:Srt k (seg f a b)):SrtF k f a b:=by
 intro i j h1 h2 h3
 have hi:(i-a)<(seg f a b).length:=by rw [seg_len]; omega
 have hj:(j-a)<(seg f a b).length:=by rw [seg_len]; omega
 have:=List.pairwise_iff_getElem.1 h (i-a) (j-a) hi hj (by omega)
 have e1:=seg_get (f:=f) (a:=a) (b:=b) (t:=i-a) (by omega)
 have e2:=seg_get (f:=f) (a:=a) (b:=b) (t:=j-a) (by omega)
 rw [List.getElem?_eq_getElem hi] at e1
 rw [List.getElem?_eq_getElem hj] at e2
 rw [Option.some.inj e1,Option.some.inj e2,show a+(i-a)=i by omega,show a+(j-a)=j by omega] at this
 exact this
end Pl
namespace Pl
def plR:List Nat->Nat->List Nat
 |[],_=>[]
 |d::ds,i=>i % d::plR ds (i / d)
theorem plR_len (ds:List Nat):∀i,(plR ds i).length=ds.length:=by
 induction ds with
 |nil=>intro i; rfl
 |cons d ds ih=>intro i; rw [plR,List.length_cons,ih]; rfl
def incR:List Nat->List Nat->List Nat
 |d::ds,p::ps=>if p+1<d then (p+1)::ps else 0::incR ds ps
 |_,_=>[]
theorem inc_plR (ds:List Nat) (h:∀d∈ds,0<d):∀i,incR ds (plR ds i)=plR ds (i+1):=by
 induction ds with
 |nil=>intro i; rfl
 |cons d ds ih =>
  intro i
  have hd:=h d (by simp)
  rw [plR,incR,plR]
  have e:=Nat.div_add_mod i d
  by_cases hc:i % d+1<d
  ·rw [if_pos hc]
   have e1:(i+1) % d=i % d+1:=by
    rw [Nat.add_mod,Nat.mod_eq_of_lt (show 1<d by omega),Nat.mod_eq_of_lt hc]
   have e2:(i+1) / d=i / d:=by
    have h1:=Nat.div_add_mod (i+1) d
    rw [e1] at h1
    have h2:d * ((i+1) / d)=d * (i / d):=by omega
    exact Nat.eq_of_mul_eq_mul_left hd h2
   rw [e1,e2]
  rw [if_neg hc]
  have hm:=Nat.mod_lt i hd
  have e0:i+1=d * (i / d+1):=by rw [Nat.mul_add]; omega
  have e1:(i+1) % d=0:=by rw [e0,Nat.mul_mod_right]
  have e2:(i+1) / d=i / d+1:=by rw [e0,Nat.mul_div_cancel_left _ hd]
  rw [e1,e2,ih (fun x hx=>h x (List.mem_cons_of_mem _ hx))]
theorem plR_zero (ds:List Nat):plR ds 0=List.replicate ds.length 0:=by
 induction ds with
 |nil=>rfl
 |cons d ds ih=>rw [plR,Nat.zero_mod,Nat.zero_div,ih]; rfl
theorem plR_lt (ds:List Nat) (h:∀d∈ds,0<d):∀i t,t<ds.length->(plR ds i).getD t 0<ds.getD t 0:=by
 induction ds with
 |nil=>intro i t ht; simp at ht
 |cons d ds ih =>
  intro i t ht
  cases t with
  |zero=>exact Nat.mod_lt _ (h d (by simp))
  |succ t=>exact ih (fun x hx=>h x (List.mem_cons_of_mem _ hx)) (i / d) t (by simpa using ht)
def prdN (ds:List Nat):Nat:=ds.foldr (· * ·) 1
def ev:List Nat->List Nat->Nat
 |s::ss,q::qs=>q * prdN ss+ev ss qs
 |_,_=>0
theorem prd_pos (ds:List Nat) (h:∀d∈ds,0<d):0<prdN ds:=by
 induction ds with
 |nil=>exact Nat.one_pos
 |cons d ds ih=>exact Nat.mul_pos (h d (by simp)) (ih fun x hx=>h x (List.mem_cons_of_mem _ hx))
theorem ev_lt (ds:List Nat) (h:∀d∈ds,0<d):∀qs:List Nat,qs.length=ds.length->(∀t,t<ds.length->qs.getD t 0<ds.getD t 0)->ev ds qs<prdN ds:=by
 induction ds with
 |nil=>intro qs _ _; cases qs <;> exact Nat.one_pos
 |cons d ds ih =>
  intro qs hl hq
  cases qs with
  |nil=>simp at hl
  |cons q qs =>
   have h1:=ih (fun x hx=>h x (List.mem_cons_of_mem _ hx)) qs (by simpa using hl) (fun t ht=>hq (t+1) (by simpa using ht))
   have h2:q<d:=hq 0 (by simp)
   show q * prdN ds+ev ds qs<d * prdN ds
   have h3:=Nat.mul_le_mul_right (prdN ds) (show q+1<=d by omega)
   rw [Nat.succ_mul] at h3
   omega
theorem incR_at (ds:List Nat):∀(j:Nat) (qs:List Nat),qs.length=ds.length->j<ds.length->(∀t,t<j->¬qs.getD t 0+1<ds.getD t 0)->qs.getD j 0+1<ds.getD j 0->∀t,(incR ds qs).getD t 0=if t<j then 0 else if t=j then qs.getD j 0+1 else qs.getD t 0:=by
 induction ds with
 |nil=>intro j qs _ hj; simp at hj
 |cons d ds ih =>
  intro j qs hl hj hw hn t
  cases qs with
  |nil=>simp at hl
  |cons q qs =>
   cases j with
   |zero =>
    have hn':q+1<d:=hn
    rw [incR,if_pos hn',if_neg (by omega)]
    cases t with
    |zero=>rfl
    |succ t=>rw [if_neg (by omega)]; rfl
   |succ j =>
    have h0:¬q+1<d:=hw 0 (by omega)
    rw [incR,if_neg h0]
    cases t with
    |zero=>rw [if_pos (by omega)]; rfl
    |succ t =>
     have:=ih j qs (by simpa using hl) (by simpa using hj) (fun t ht=>hw (t+1) (by omega)) hn t
     show (incR ds qs).getD t 0=_
     rw [this]
     simp only [Nat.add_lt_add_iff_right,Nat.add_right_cancel_iff]
     rfl
theorem incR_all (ds:List Nat):∀(qs:List Nat),qs.length=ds.length->(∀t,t<ds.length->¬qs.getD t 0+1<ds.getD t 0)->∀t,(incR ds qs).getD t 0=0:=by
 induction ds with
 |nil=>intro qs hl _ t; cases qs <;> rfl
 |cons d ds ih =>
  intro qs hl hw t
  cases qs with
  |nil=>simp at hl
  |cons q qs =>
   have h0:¬q+1<d:=hw 0 (by simp)
   rw [incR,if_neg h0]
   cases t with
   |zero=>rfl
   |succ t=>exact ih qs (by simpa using hl) (fun t ht=>hw (t+1) (by simpa using ht)) t
end Pl
theorem Rw.other {g g' off n:Nat} {f:Nat->Int} {w w':World} (h:Rw g' off n f w) (hg:Gr g w w') (hne:¬g'=g):Rw g' off n f w':=by
 have hb:=hg.block g' h.1 (by intro e; injection e with e; exact hne e)
 have hc:∀o,w'.cell? ⟨g',o,none⟩=w.cell? ⟨g',o,none⟩:=fun o=>by simp only [World.cell?,hb]
 have hf:∀o,w'.frozen? ⟨g',o,none⟩=w.frozen? ⟨g',o,none⟩:=fun o=>by simp only [World.frozen?,hb]
 exact ⟨Nat.lt_of_lt_of_le h.1 hg.size,fun t ht=>⟨(hc _).trans (h.2 t ht).1,(hf _).trans (h.2 t ht).2⟩⟩
def revI (f:Nat->Int) (n i:Nat):Nat->Int:=fun t=>if t<i\/n-i<=t then f (n-1-t) else f t
theorem revI_step {f:Nat->Int} {n i:Nat} (h:i<n-1-i):upd (upd (revI f n i) i (revI f n i (n-1-i))) (n-1-i) (revI f n i i)=revI f n (i+1):=by
 have e1:revI f n i (n-1-i)=f (n-1-i):=by unfold revI; rw [if_neg (by omega)]
 have e2:revI f n i i=f i:=by unfold revI; rw [if_neg (by omega)]
 rw [e1,e2]
 funext t
 unfold upd revI
 by_cases h1:t=n-1-i
 ·subst h1
  rw [if_pos rfl,if_pos (by omega)]
  congr 1; omega
 rw [if_neg h1]
 by_cases h2:t=i
 ·subst h2
  rw [if_pos rfl,if_pos (by omega)]
 rw [if_neg h2]
 by_cases h3:t<i\/n-i<=t
 ·rw [if_pos h3,if_pos (by omega)]
 by_cases h4:t<i+1\/n-(i+1)<=t
 ·exfalso; omega
 rw [if_neg h3,if_neg h4]
theorem reverse_any (g off cap n:Nat) (f:Nat->Int) (w:World) (hR:Rw g off n f w) (hn:n<=1000000) (h0:0<n) :
  Calls Tryz.prog 136 #[.slice (some ⟨g,off,none⟩) n cap] w fun e w'=>e=.returned (.tuple #[])/\Rw g off n (fun t=>f (n-1-t)) w'/\Gr g w w':=by
 have HR:Hid (Rw g off n (revI f n 0) w):=hR.congr fun t ht=>by unfold revI; rw [if_neg (by omega)]
 clear hR
 go_enter Tryz.func136,Tryz.ntmps136
 go_wp2_with fail
 go_loopw [2,3] (fun vi vj wr=>∃i:Nat,2 * i<=n/\vi=.int .i64 (i:Int)/\vj=.int .i64 ((n:Int)-1-(i:Int))/\Hid (Rw g off n (revI f n i) wr)/\Hid (Gr g w wr)) (fun vi _ _=>n-(intOf vi).toNat)
 case atStart=>exact ⟨0,by omega,rfl,by go_num,HR,Gr.refl _ _⟩
 obtain ⟨i,hi,rfl,rfl,RR,GG⟩:=hrel
 by_cases hlt:i<n-1-i
 rotate_left 1
 ·have hlt':¬(i:Int)<(n:Int)-1-(i:Int):=by omega
  have RE:Hid (Rw g off n (fun t=>f (n-1-t)) wr):=RR.out.congr fun t ht=>by
   unfold revI
   by_cases h3:t<i\/n-i<=t
   ·rw [if_pos h3]
   rw [if_neg h3]
   congr 1; omega
  go_wp2_with fail
  go_end0
  exact ⟨rfl,RE.out,GG.out⟩
 have hlt':(i:Int)<(n:Int)-1-(i:Int):=by omega
 have SX:=hideP (revI_step (f:=f) hlt)
 obtain ⟨G,hG⟩:∃G,revI f n i=G:=⟨_,rfl⟩
 rw [hG] at RR SX
 clear hG
 obtain ⟨j,hj⟩:∃j,n-1-i=j:=⟨_,rfl⟩
 have hj':(n:Int)-1-(i:Int)=(j:Int):=by omega
 rw [hj] at SX
 rw [hj'] at hlt' ⊢
 have hjn:j<n:=by omega
 have hin:i<n:=by omega
 have hcw:∀t,t<n->wr.cell? ⟨g,off+t,none⟩=some (.int .i64 (G t)):=fun t ht=>(RR.out.2 t ht).1
 have hfw:∀t,t<n->wr.frozen? ⟨g,off+t,none⟩=false:=fun t ht=>(RR.out.2 t ht).2
 have NW:Hid (Rw g off n (revI f n (i+1)) (((wr.setCell ⟨g,off+i,none⟩ (.int .i64 (G j))).setCell ⟨g,off+j,none⟩ (.int .i64 (G i))).drew)/\Gr g w (((wr.setCell ⟨g,off+i,none⟩ (.int .i64 (G j))).setCell ⟨g,off+j,none⟩ (.int .i64 (G i))).drew)):=by
  refine ⟨?_,(GG.out.trans ((Gr.set _ _ _ _).trans (Gr.set _ _ _ _))).drew⟩
  rw [<- SX.out]
  exact ((RR.out.set _ hin).set _ hjn).drew
 have HJ:=hideP hj
 clear hj hj'
 go_wp2_with fail
 go_region
 all_goals go_wp2_with fail
 go_roundw
 case rel=>exact ⟨i+1,by have:=HJ.out; omega,by go_num,by have:=HJ.out; congr 1; omega,NW.out.1,NW.out.2⟩
 simp [intOf]; omega
theorem reverse_nil (ao:Option Addr) (cap:Nat) (w:World):Calls Tryz.prog 136 #[.slice ao 0 cap] w fun e w'=>e=.returned (.tuple #[])/\w'=w:=by
 go_enter Tryz.func136,Tryz.ntmps136
 go_wp2_with fail
 go_loopw [2,3] (fun vi vj wr=>vi=.int .i64 0/\vj=.int .i64 (-1)/\wr=w) (fun _ _ _=>0)
 case atStart=>exact ⟨rfl,by go_num,rfl⟩
 obtain ⟨rfl,rfl,rfl⟩:=hrel
 go_wp2_with fail
 go_end0
 exact ⟨rfl,rfl⟩
theorem field1 (a0 a1:Option Addr) (n0 c0 n1 c1:Nat) (w:World):(Instr.field 25 (.agg #[.slice a0 n0 c0,.slice a1 n1 c1]) 1).run Tryz.prog w=.ok (.slice a1 n1 c1) w:=by kernel_rfl
theorem l2Iota_any (v0 v1:Value) (sh da:List Int) (w:World) (hok:Pl.okB sh da=true) (h0:Rd w.heap.size w v0 sh) (h1:Rd w.heap.size w v1 da) (c:Int) (S D:List Int) (hres:Pl.iotaM sh da=(c,S,D)) :
  Calls Tryz.prog 44 #[.agg #[v0,v1]] w (FPost w c S D):=by
 obtain ⟨a0,d0,e0⟩:=h0.form
 obtain ⟨a1,d1,b1,o1,e1,hao1,hb1,hc1⟩:=h1.parts
 subst e0 e1
 have B:Hid (∀o o',Below w.heap.size w ((w.alloc o).alloc o')):=fun o o'=>((Below.refl _ _).alloc (Nat.le_refl _) _).alloc (by simp) _
 have PB:Hid (∀W,Below (w.heap.size+1+1) ((w.alloc (.cells #[.slice a0 sh.length d0,.slice a1 da.length d1] 25)).alloc (.cells #[.slice none 0 0,.slice none 0 0] 25)) W->(W.cell? ⟨w.heap.size,0,none⟩=some (.slice a0 sh.length d0)/\W.cell? ⟨w.heap.size,1,none⟩=some (.slice a1 da.length d1))/\(W.cell? ⟨w.heap.size+1,0,none⟩=some (.slice none 0 0)/\W.cell? ⟨w.heap.size+1,1,none⟩=some (.slice none 0 0)/\∀o,W.frozen? ⟨w.heap.size+1,o,none⟩=false)/\Below w.heap.size w W):=fun W hb=>boxes2 hb
 unfold Pl.iotaM at hres
 by_cases hsl:sh.length=0
 rotate_left 1
 ·rw [if_pos hsl] at hres
  simp only [Prod.mk.injEq] at hres
  obtain ⟨rfl,rfl,rfl⟩:=hres
  have test:((sh.length:Int) != 0)=true:=by rw [bne_iff_ne]; omega
  clear h0 h1 hok hsl hao1 hb1 hc1
  generalize sh.length=L at *
  generalize da.length=M at *
  go_enter Tryz.func44,Tryz.ntmps44
  go_wp2_with fail
  refine bodyPost_ret (v:=.tuple #[.agg #[.slice none 0 0,.slice none 0 0],.int .i64 2]) (by simp [results,Tryz.results44,go_sem]) rfl ⟨B.out _ _,_,_,rfl,Own.nil _ _,Own.nil _ _,.inl rfl⟩
 rw [if_neg (fun h=>h hsl)] at hres
 have test:((sh.length:Int) != 0)=false:=by simp [hsl]
 have hd1:=Pl.ok_one hok hsl
 have hao:=hao1 (by omega)
 have hbl:=hb1 (by omega)
 have hce:=hc1 0 (by omega)
 rw [Nat.add_zero] at hce
 have hdl:1<=da.length:=by omega
 subst hao
 generalize da.getD 0 0=x at *
 have cx:∀o o',((w.alloc o).alloc o').cell? ⟨b1,o1,none⟩=some (.int .i64 x):=fun o o'=>((B.out o o').cell (p:=⟨b1,o1,none⟩) hbl).trans hce
 have HCE:=hideP hce
 clear h0 h1 hok hsl hao1 hb1 hc1 hce hd1
 generalize sh.length=L at *
 generalize da.length=M at *
 by_cases hx0:x<0
 ·rw [if_pos hx0] at hres
  simp only [Prod.mk.injEq] at hres
  obtain ⟨rfl,rfl,rfl⟩:=hres
  go_enter Tryz.func44,Tryz.ntmps44
  go_wp2_with fail
  refine bodyPost_ret (v:=.tuple #[.agg #[.slice none 0 0,.slice none 0 0],.int .i64 1]) (by simp [results,Tryz.results44,go_sem]) rfl ⟨B.out _ _,_,_,rfl,Own.nil _ _,Own.nil _ _,.inl rfl⟩
 rw [if_neg hx0] at hres
 by_cases hx1:1000<x
 ·rw [if_pos hx1] at hres
  simp only [Prod.mk.injEq] at hres
  obtain ⟨rfl,rfl,rfl⟩:=hres
  go_enter Tryz.func44,Tryz.ntmps44
  go_wp2_with fail
  refine bodyPost_ret (v:=.tuple #[.agg #[.slice none 0 0,.slice none 0 0],.int .i64 6]) (by simp [results,Tryz.results44,go_sem]) rfl ⟨B.out _ _,_,_,rfl,Own.nil _ _,Own.nil _ _,.inl rfl⟩
 rw [if_neg hx1] at hres
 obtain ⟨n,rfl⟩:=Int.eq_ofNat_of_zero_le (show 0<=x by omega)
 rw [Int.toNat_natCast] at hres
 simp only [Prod.mk.injEq] at hres
 obtain ⟨rfl,rfl,rfl⟩:=hres
 have hn:n<=1000:=by omega
 have OE:Hid (∀o o',(((w.alloc o).alloc o').alloc (.cells #[] 3)).ownsRow (w.heap.size+1+1) 3 1 (.slice (some ⟨w.heap.size+1+1,0,none⟩) 0 0) 0 (([]:List Int).map (Value.int .i64))):=fun o o'=>by
  have:=owns_empty ((w.alloc o).alloc o') (w.heap.size+1+1) (by simp)
  have e:((w.alloc o).alloc o').heap.size=w.heap.size+1+1:=by simp
  rw [e] at this
  exact this
 go_enter Tryz.func44,Tryz.ntmps44
 go_wp2_with fail
 go_loopw [4,5] (fun dv i wr=>∃j:Nat,j<=n/\i=.int .i64 j/\Hid (wr.ownsRow (w.heap.size+1+1) 3 1 dv j ((Pl.iotaL j).map (Value.int .i64)))/\Hid (Below (w.heap.size+1+1) ((w.alloc (.cells #[.slice a0 L d0,.slice (some ⟨b1,o1,none⟩) M d1] 25)).alloc (.cells #[.slice none 0 0,.slice none 0 0] 25)) wr)) (fun _ i _=>n-(intOf i).toNat)
 case atStart=>exact ⟨0,Nat.zero_le _,rfl,OE.out _ _,(Below.refl _ _).alloc (by simp) _⟩
 clear cx
 obtain ⟨j,hj,rfl,ho,hbel⟩:=hrel
 have X:=hideP (PB.out _ hbel.out)
 have hsw:w.heap.size+1+1<=wr.heap.size:=by have:=hbel.out.size; simpa using this
 have c11:=X.out.1.2
 have cx:wr.cell? ⟨b1,o1,none⟩=some (.int .i64 (n:Int)):=(X.out.2.2.cell (p:=⟨b1,o1,none⟩) hbl).trans HCE.out
 obtain ⟨xo,yo,eo⟩:=owns_form ho.out
 subst eo
 by_cases hlt:j<n
 ·have hlt':(j:Int)<(n:Int):=by omega
  go_wp2_with (at_builtin; refine wpList_append_one (base:=w.heap.size+1+1) _ _ _ rfl _ _ rfl _ rfl rfl j _ ho.out (by omega) (by omega) ?_)
  intro v' w9 ho9 hg9
  have O9:Hid (w9.ownsRow (w.heap.size+1+1) 3 1 v' (j+1) ((Pl.iotaL (j+1)).map (Value.int .i64))):=by
   show World.ownsRow _ _ _ _ _ _ _
   rw [Pl.iotaL_succ]
   first | exact ho9 | (rw [List.map_append]; exact ho9)
  have D9:Hid (Below (w.heap.size+1+1) ((w.alloc (.cells #[.slice a0 L d0,.slice (some ⟨b1,o1,none⟩) M d1] 25)).alloc (.cells #[.slice none 0 0,.slice none 0 0] 25)) w9):=(hbel.out.alloc hsw _).grown hg9 (by simp; omega) (fun k hk=>(ho.out.lt k hk).1)
  clear ho9 hg9 c11 cx
  go_wp2_with fail
  go_roundw
  case rel=>exact ⟨j+1,by omega,by go_num,O9,D9⟩
  simp [intOf]; omega
 have jn:j=n:=by omega
 subst jn
 have RD:=hideP ((own_of_any ho.out).rd)
 have KV:=hideP (l2Vector_any (.slice xo j yo) (Pl.iotaL j) wr (by rw [Pl.iotaL_len]; omega) RD.out)
 rw [Pl.iotaL_len] at KV
 go_wp2_with fail
 refine KV.out.mono ?_
 rintro e w5 ⟨g0,g1,cap,rfl,q0,q1,res,hb5⟩
 have X5:=hideP (PB.out _ (hbel.out.trans (hb5.mono hsw)))
 have R5:=hideP res
 have hs5:=hb5.size
 clear res hb5 c11 cx
 have r0:=X5.out.2.1.1
 have r1:=X5.out.2.1.2.1
 have f2:=X5.out.2.1.2.2
 go_wp2_with fail
 refine bodyPost_ret (v:=.tuple #[.agg #[.slice (some ⟨g0,0,none⟩) 1 1,.slice (some ⟨g1,0,none⟩) j cap],.int .i64 0]) (by simp [results,Tryz.results44,go_sem,r0,r1]) rfl ⟨(X5.out.2.2.setCell (by simp) _).setCell (by simp) _,_,_,rfl,?_,?_,R5.out.2.2⟩
 ·exact Own.base (Own.store (Own.store R5.out.1 (by omega) _) (by omega) _) (by omega)
 exact Own.base (Own.store (Own.store R5.out.2.1 (by omega) _) (by omega) _) (by omega)
theorem l2Rev_any (b0 o0 c0 b1 o1 c1:Nat) (sh da:List Int) (w:World) (h0:Rd w.heap.size w (.slice (some ⟨b0,o0,none⟩) sh.length c0) sh) (h1:Rd w.heap.size w (.slice (some ⟨b1,o1,none⟩) da.length c1) da) (hc0:sh.length<=c0) (hc0':c0<=9223372036854775807) (hc1:da.length<=c1) (hc1':c1<=9223372036854775807)
  (hok:Pl.okB sh da=true) (S D:List Int) (hres:Pl.revM sh da=(0,S,D)) :
  Calls Tryz.prog 46 #[.agg #[.slice (some ⟨b0,o0,none⟩) sh.length c0,.slice (some ⟨b1,o1,none⟩) da.length c1]] w fun e w'=>∃u0 u1,e=.returned (.agg #[u0,u1])/\Res w.heap.size w' u0 u1 S D/\Below w.heap.size w w':=by
 obtain ⟨hm0,hm1⟩:=Pl.ok_max hok
 have H0:=hideP h0
 have H1:=hideP h1
 have PB:Hid (∀W,Below (w.heap.size+1+1) ((w.alloc (.cells #[.slice (some ⟨b0,o0,none⟩) sh.length c0,.slice (some ⟨b1,o1,none⟩) da.length c1] 25)).alloc (.cells #[.slice none 0 0,.slice none 0 0] 25)) W->(W.cell? ⟨w.heap.size,0,none⟩=some (.slice (some ⟨b0,o0,none⟩) sh.length c0)/\W.cell? ⟨w.heap.size,1,none⟩=some (.slice (some ⟨b1,o1,none⟩) da.length c1))/\(W.cell? ⟨w.heap.size+1,0,none⟩=some (.slice none 0 0)/\W.cell? ⟨w.heap.size+1,1,none⟩=some (.slice none 0 0)/\∀o,W.frozen? ⟨w.heap.size+1,o,none⟩=false)/\Below w.heap.size w W):=fun W hb=>boxes2 hb
 unfold Pl.revM at hres
 by_cases hsl:sh.length=0
 ·rw [if_pos hsl] at hres
  simp only [Prod.mk.injEq,true_and] at hres
  obtain ⟨rfl,rfl⟩:=hres
  have test:((sh.length:Int) == 0)=true:=by simp [hsl]
  have A:Hid (∀o o' o'',Below w.heap.size w (((w.alloc o).alloc o').alloc o'')):=fun o o' o''=>below3 w o o' o''
  clear h0 h1 hok hsl
  go_enter Tryz.func46,Tryz.ntmps46
  go_wp2_with fail
  refine (l2Copy_any _ da _ (by omega) ((H1.out.keep (A.out _ _ _)).up (by simp; omega))).mono ?_
  rintro e w1 ⟨u,rfl,ho1,hb1⟩
  have hs1:w.heap.size+1+1+1<=w1.heap.size:=by have:=hb1.size; simpa using this
  have X:=hideP (PB.out w1 (((Below.refl _ _).alloc (by simp) _).trans (hb1.mono (by simp))))
  have ho1':w1.ownsRow (w.heap.size+1+1) 3 1 u da.length (da.map (Value.int .i64)):=owns_base ho1 (by simp)
  have HO1:=hideP (own_of_any ho1')
  obtain ⟨xu,yu,eu⟩:=owns_form ho1
  subst eu
  clear ho1 ho1' hb1
  have r0:=X.out.2.1.1
  have r1:=X.out.2.1.2.1
  have f2:=X.out.2.1.2.2
  go_wp2_with fail
  refine bodyPost_ret (v:=.agg #[.slice (some ⟨w.heap.size+1+1,0,none⟩) 0 0,.slice xu da.length yu]) (by simp [results,Tryz.results46,go_sem,r0,r1]) rfl ⟨_,_,rfl,⟨⟨_,_,rfl,.inl rfl⟩,?_,.inl rfl⟩,(X.out.2.2.setCell (by simp) _).setCell (by simp) _⟩
  exact Own.base (Own.store (Own.store HO1.out (by omega) _) (by omega) _) (by omega)
 have test:((sh.length:Int) == 0)=false:=by rw [beq_eq_false_iff_ne]; omega
 obtain ⟨hlt0,hce⟩:=rd_cell h0 (i:=0) (by omega)
 rw [Nat.add_zero] at hce
 obtain ⟨n,s,en,es,n2,s2,hl,hbt⟩:=Pl.rows_size hok hsl
 rw [if_neg hsl,en,es] at hres
 simp only [Int.toNat_natCast,Prod.mk.injEq,true_and] at hres
 have hrr:sh.all Pl.inR=true:=by
  have:=(Pl.ok_len hok).2
  simp only [Pl.fitsB,Pl.baseB,Bool.and_eq_true] at this
  exact this.1.2
 have KR:Hid (∀(q:Nat) W,q<n->Below w.heap.size w W->Calls Tryz.prog 100 #[.agg #[.slice (some ⟨b0,o0,none⟩) sh.length c0,.slice (some ⟨b1,o1,none⟩) da.length c1],.int .i64 (q:Int)] W fun e w''=>∃u0 u1,e=.returned (.agg #[u0,u1])/\Res W.heap.size w'' u0 u1 sh.tail (Pl.rowAt da s q)/\Below W.heap.size W w''):=fun q W hq hb=>by
  have hn0:¬sh.getD 0 0=0:=by rw [en]; omega
  obtain ⟨hft,_⟩:=Pl.ok_rows hok hsl hn0
  have ep:Pl.prodC sh.tail=s:=by rw [Pl.prod_eq hft]; exact es
  exact l2Row_any b0 o0 c0 b1 o1 c1 q s sh da W ((H0.out.keep hb).up hb.size) ((H1.out.keep hb).up hb.size) (by omega) hm0 hm1 hc0 hc0' hc1 hc1' hrr ep (by rw [hl]; exact Nat.mul_le_mul_right s hq) (by omega)
 have RL:Hid (∀q,q<n->(Pl.rowAt da s q).length=s):=fun q hq=>Pl.rowAt_len (by rw [hl]; exact Nat.mul_le_mul_right s hq)
 rw [en] at hce
 have PZ:Hid (∀W,Below w.heap.size w W->W.cell? ⟨b0,o0,none⟩=some (.int .i64 (n:Int))):=fun W hb=>(hb.cell (p:=⟨b0,o0,none⟩) hlt0).trans hce
 have KC:Hid (∀W,Below w.heap.size w W->Calls Tryz.prog 27 #[.slice (some ⟨b0,o0,none⟩) sh.length c0] W fun e w'=>∃v,e=.returned v/\w'.ownsRow W.heap.size 3 1 v sh.length (sh.map (Value.int .i64))/\Below W.heap.size W w'):=fun W hb=>l2Copy_any _ sh W (by omega) ((H0.out.keep hb).up hb.size)
 have OE:Hid (∀o o',(((w.alloc o).alloc o').alloc (.cells #[] 3)).ownsRow (w.heap.size+1+1) 3 1 (.slice (some ⟨w.heap.size+1+1,0,none⟩) 0 0) 0 (([]:List Int).map (Value.int .i64))):=fun o o'=>by
  have:=owns_empty ((w.alloc o).alloc o') (w.heap.size+1+1) (by simp)
  have e:((w.alloc o).alloc o').heap.size=w.heap.size+1+1:=by simp
  rw [e] at this
  exact this
 have HR:=hideP hres
 have hl1:1<=sh.length:=by omega
 have hns:n * s<=1000:=by omega
 have B3:Hid (∀o o' o'',Below w.heap.size w (((w.alloc o).alloc o').alloc o'')):=fun o o' o''=>below3 w o o' o''
 have cz0:=fun o o' o''=>PZ.out _ (B3.out o o' o'')
 clear h0 h1 hok H0 H1 hce en es hl hres hbt hrr
 generalize sh.tail=st at *
 generalize hLd:da.length=Ld at *
 clear hLd
 generalize hLs:sh.length=Ls at *
 have HLs:=hideP hLs
 clear hLs
 go_enter Tryz.func46,Tryz.ntmps46
 go_wp2_with fail
 clear cz0
 go_loopw [3,4] (fun dv i wr=>∃q:Nat,q<=n/\i=.int .i64 ((q:Int)-1)/\∃acc:List Int,Hid (acc++(Pl.rowsDown da s q).flatten=(Pl.rowsDown da s n).flatten)/\Hid (acc.length+q * s=n * s)/\Hid (wr.ownsRow (w.heap.size+1+1) 3 1 dv acc.length (acc.map (Value.int .i64)))/\Hid (Below (w.heap.size+1+1) ((w.alloc (.cells #[.slice (some ⟨b0,o0,none⟩) Ls c0,.slice (some ⟨b1,o1,none⟩) Ld c1] 25)).alloc (.cells #[.slice none 0 0,.slice none 0 0] 25)) wr)) (fun _ i _=>(intOf i+1).toNat)
 case atStart=>exact ⟨n,Nat.le_refl _,by go_num,[],by show _=_; simp,by show _=_; simp,OE.out _ _,(Below.refl _ _).alloc (by simp) _⟩
 obtain ⟨q,hq,rfl,acc,hac,hal,ho,hbel⟩:=hrel
 have X:=hideP (PB.out _ hbel.out)
 have hsw:w.heap.size+1+1<=wr.heap.size:=by have:=hbel.out.size; simpa using this
 obtain ⟨xo,yo,eo⟩:=owns_form ho.out
 subst eo
 by_cases hq0:q=0
 ·subst hq0
  have hT:acc=(Pl.rowsDown da s n).flatten:=by have:=hac.out; simpa [Pl.rowsDown] using this
  have hre:=HR.out
  rw [<- hT] at hre
  obtain ⟨rfl,rfl⟩:=hre
  have c10:=X.out.1.1
  clear hT
  go_wp2_with fail
  refine (KC.out _ X.out.2.2).mono ?_
  rintro e w6 ⟨v,rfl,ho6,hb6⟩
  have X6:=hideP (PB.out _ (hbel.out.trans (hb6.mono hsw)))
  have O6:=hideP (own_of_any ho6)
  have D6:=hideP (own_of_any (owns_keep ho.out hb6))
  have AP:=hideP (apart_lo2 (da:=acc) (own_of_any ho6) (own_of_any ho.out).lt)
  obtain ⟨xs,ys,es⟩:=owns_form ho6
  subst es
  have hs6:=hb6.size
  clear ho6 hb6 c10
  have r0:=X6.out.2.1.1
  have r1:=X6.out.2.1.2.1
  have f2:=X6.out.2.1.2.2
  go_wp2_with fail
  refine bodyPost_ret (v:=.agg #[.slice xs Ls ys,.slice xo acc.length yo]) (by simp [results,Tryz.results46,go_sem,r0,r1]) rfl ⟨_,_,rfl,⟨?_,?_,AP.out⟩,(X6.out.2.2.setCell (by simp) _).setCell (by simp) _⟩
  ·exact Own.base (Own.store (Own.store O6.out (by omega) _) (by omega) _) (by omega)
  exact Own.base (Own.store (Own.store D6.out (by omega) _) (by omega) _) (by omega)
 obtain ⟨q',rfl⟩:∃q',q=q'+1:=⟨q-1,by omega⟩
 have eq1:(((q'+1:Nat)):Int)-1=(q':Int):=by omega
 rw [eq1]
 clear eq1
 have hac':Hid ((acc++Pl.rowAt da s q')++(Pl.rowsDown da s q').flatten=(Pl.rowsDown da s n).flatten):=by
  have:=hac.out
  rw [Pl.rowsDown_succ,List.flatten_cons,<- List.append_assoc] at this
  exact this
 have hrl:=RL.out q' (by omega)
 have hal':Hid ((acc++Pl.rowAt da s q').length+q' * s=n * s):=by
  have:=hal.out
  rw [Nat.succ_mul] at this
  show _=_
  rw [List.length_append,hrl]
  omega
 have UB:Hid (acc.length+(Pl.rowAt da s q').length<=16777216):=by
  have:=hal'.out
  rw [List.length_append] at this
  show _<=_
  omega
 have KRQ:=hideP (fun W hb=>KR.out q' W (by omega) hb)
 have c10:=X.out.1.1
 have c11:=X.out.1.2
 clear hrl hac hal
 generalize Pl.rowAt da s q'=row at *
 go_wp2_with fail
 refine (KRQ.out _ X.out.2.2).mono ?_
 rintro e w3 ⟨u0,u1,rfl,res3,hb3⟩
 have RD:=hideP res3.2.1.rd
 have O3:=hideP (owns_keep ho.out hb3)
 have B3':=hideP (hbel.out.trans (hb3.mono hsw))
 obtain ⟨x0,y0,x1,y1,e0,e1⟩:=res3.forms
 subst e0 e1
 have hsz:w.heap.size+1+1<=w3.heap.size:=by have:=hb3.size; omega
 have hfd:=field1 x0 x1 st.length y0 row.length y1 w3
 clear res3 hb3 c10 c11
 go_wp2_with (at_builtin; refine wpList_append_rd_at (base:=w.heap.size+1+1) _ rfl _ _ rfl _ _ rfl rfl _ _ _ O3.out RD.out UB.out hsz ?_)
 intro v' w5 ho5 hg5 _
 have D5:=hideP (B3'.out.grown hg5 hsz (fun k hk=>(O3.out.lt k hk).1))
 have O5:Hid (w5.ownsRow (w.heap.size+1+1) 3 1 v' (acc++row).length ((acc++row).map (Value.int .i64))):=by
  show World.ownsRow _ _ _ _ _ _ _
  rw [List.length_append]
  first | exact ho5 | (rw [List.map_append]; exact ho5)
 clear ho5 hg5 hfd
 go_wp2_with fail
 go_roundw
 case rel=>exact ⟨q',by omega,by go_num,acc++row,hac',hal',O5,D5⟩
 simp [intOf]
end Go.Proofs.YtacapaiadggemaaGreat
