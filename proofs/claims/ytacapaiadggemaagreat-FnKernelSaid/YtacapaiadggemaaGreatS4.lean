import Derived.Test.YtacapaiadggemaaGreatMonR
import Derived.Lib.QuietBelow
namespace Go.Proofs.YtacapaiadggemaaGreat
open Go.RowKit
set_option maxRecDepth 100000
set_option maxHeartbeats 16000000
set_option linter.unusedVariables false
theorem isNaN_i (x:Int) (w:World):Calls Tryz.prog 148 #[.int .i64 x] w fun e w'=>e=.returned (.bool false)/\w'=w:=by
 go_enter Tryz.func148,Tryz.ntmps148
 go_wp2
 go_ret
 exact ⟨by simp,rfl⟩
def cmI (x y:Int):Int:=if x<y then -1 else if y<x then 1 else 0
theorem cmI_neg {x y:Int}:cmI x y<0 ↔ x<y:=by
 unfold cmI
 constructor
 ·intro h
  split at h
  ·assumption
  split at h <;> omega
 intro h
 rw [if_pos h]; omega
theorem compare_i (x y:Int) (w:World):Calls Tryz.prog 131 #[.int .i64 x,.int .i64 y] w fun e w'=>e=.returned (.int .i64 (cmI x y))/\w'=w:=by
 by_cases h:x<y
 ·have E:Hid (cmI x y=-1):=by show _=_; unfold cmI; rw [if_pos h]
  rw [E.out]
  go_enter Tryz.func131,Tryz.ntmps131
  go_wp2_with (go_at_call 148; refine (isNaN_i _ _).mono ?_; rintro e w ⟨rfl,rfl⟩)
  go_ret
  exact ⟨rfl,rfl⟩
 by_cases h':y<x
 ·have E:Hid (cmI x y=1):=by show _=_; unfold cmI; rw [if_neg h,if_pos h']
  rw [E.out]
  go_enter Tryz.func131,Tryz.ntmps131
  go_wp2_with (go_at_call 148; refine (isNaN_i _ _).mono ?_; rintro e w ⟨rfl,rfl⟩)
  go_ret
  exact ⟨rfl,rfl⟩
 have E:Hid (cmI x y=0):=by show _=_; unfold cmI; rw [if_neg h,if_neg h']
 rw [E.out]
 go_enter Tryz.func131,Tryz.ntmps131
 go_wp2_with (go_at_call 148; refine (isNaN_i _ _).mono ?_; rintro e w ⟨rfl,rfl⟩)
 go_ret
 exact ⟨rfl,rfl⟩
def Cmp (B0:Nat) (w0:World) (pa:Nat) (k:Int->Int) (ok:Int->Prop):Prop :=
 ∀(x y:Int) (W:World),ok x->ok y->Below B0 w0 W->Calls Tryz.prog 139 #[.int .i64 x,.int .i64 y,.pointer (some ⟨pa,0,none⟩)] W fun e w'=>e=.returned (.int .i64 (cmI (k x) (k y)))/\∃q,w'=W.drewN q
abbrev cl (pa:Nat):Value:=.func (.func 139) #[] #[.pointer (some ⟨pa,0,none⟩)]
theorem callF57 (args:Array Value) (w:World):(callFunc 139 args).run Tryz.prog w=.ok (.enter 139 args) w:=by kernel_rfl
theorem grade1_any (pa b off cap:Nat) (u0:Value) (da:List Int) (w0:World) (B0:Nat) (hb:b<B0) (hpa:pa<B0) (h0:w0.cell? ⟨pa,1,none⟩=some (.slice (some ⟨b,off,none⟩) da.length cap)) (hc:∀i,i<da.length->w0.cell? ⟨b,off+i,none⟩=some (.int .i64 (da.getD i 0))) :
  Cmp B0 w0 pa (fun x=>da.getD x.toNat 0) (fun x=>0<=x/\x<da.length):=by
 intro x y W hx hy hW
 obtain ⟨i,rfl⟩:=Int.eq_ofNat_of_zero_le hx.1
 obtain ⟨j,rfl⟩:=Int.eq_ofNat_of_zero_le hy.1
 have c0:=(hW.cell (p:=⟨pa,1,none⟩) hpa).trans h0
 have ci:=(hW.cell (p:=⟨b,off+i,none⟩) hb).trans (hc i (by omega))
 have cj:=(hW.cell (p:=⟨b,off+j,none⟩) hb).trans (hc j (by omega))
 simp only [Int.toNat_natCast]
 have hi:(i:Int)<(da.length:Int):=hx.2
 have hj:(j:Int)<(da.length:Int):=hy.2
 clear hc h0 hx hy hW
 generalize da.getD i 0=di at *
 generalize da.getD j 0=dj at *
 generalize da.length=n at *
 go_enter Tryz.func139,Tryz.ntmps139
 go_wp2_with fail
 go_quiet ((go_at_call 131; exact Calls.quiet_of_same (compare_i _ _ _)))
 go_wp2_with fail
 go_ret
 exact ⟨rfl,_,rfl⟩
theorem ins_zero {F:Nat->Int} {i:Nat}:rotF F i i (i+1)=F:=by
 funext t
 unfold rotF
 rw [show i+1-i=1 by omega,show i-i=0 by omega]
 repeat' split
 all_goals first | rfl | (congr 1; omega) | (exfalso; omega)
theorem ins_step {F:Nat->Int} {j i:Nat} (h0:0<j) (h:j<=i):upd (upd (rotF F j i (i+1)) j (rotF F j i (i+1) (j-1))) (j-1) (rotF F j i (i+1) j)=rotF F (j-1) i (i+1):=by
 obtain ⟨p,rfl⟩:∃p,j=p+1:=⟨j-1,by omega⟩
 obtain ⟨d,rfl⟩:∃d,i=p+1+d:=⟨i-(p+1),by omega⟩
 have e1:p+1+d+1-(p+1+d)=1:=by omega
 have e2:p+1+d-(p+1)=d:=by omega
 have e3:p+1-1=p:=by omega
 have e4:p+1+d-p=d+1:=by omega
 funext t
 unfold upd rotF
 simp only [e1,e2,e3,e4]
 repeat' split
 all_goals first | rfl | (congr 1; omega) | (exfalso; omega) | skip
 all_goals (subst_vars; first | rfl | (congr 1; omega) | (exfalso; omega))
theorem rot_at {F:Nat->Int} {j i:Nat} (h:j<=i):rotF F j i (i+1) j=F i:=by
 unfold rotF
 rw [if_pos (by omega)]
 congr 1; omega
theorem rot_low {F:Nat->Int} {j i t:Nat} (h:t<j):rotF F j i (i+1) t=F t:=by
 unfold rotF
 rw [if_neg (by omega),if_neg (by omega)]
theorem rot_out {F:Nat->Int} {j i t:Nat} (hj:j<=i) (h:t<j\/i<t):rotF F j i (i+1) t=F t:=by
 unfold rotF
 rw [if_neg (by omega),if_neg (by omega)]
theorem ins_seg {k:Int->Int} {F:Nat->Int} {a j i:Nat} (ha:a<=j) (hj:j<=i) (h1:∀t,a<=t->t<j->k (F t)<=k (F i)) (h2:∀t,j<=t->t<i->k (F i)<k (F t)) :
  Pl.seg (rotF F j i (i+1)) a (i+1)=Pl.ins k (F i) (Pl.seg F a i):=by
 rw [<- Pl.seg_cat F ha hj,Pl.ins_split (fun p hp=>by obtain ⟨t,t1,t2,rfl⟩:=Pl.seg_mem hp; exact h1 t t1 t2) (fun p hp=>by obtain ⟨t,t1,t2,rfl⟩:=Pl.seg_mem hp; exact h2 t t1 t2)]
 rw [<- Pl.seg_cat (rotF F j i (i+1)) ha (show j<=i+1 by omega),<- Pl.seg_cat (rotF F j i (i+1)) (show j<=j+1 by omega) (show j+1<=i+1 by omega),Pl.seg_one,rot_at hj]
 rw [Pl.seg_congr (f:=rotF F j i (i+1)) (f':=F) (a:=a) (b:=j) (fun t _ h=>rot_low h)]
 rw [Pl.seg_shift (f:=rotF F j i (i+1)) (f':=F) (a:=j+1) (b:=i+1) (c:=j) (d:=i) (by omega) (fun t ht=>by
  unfold rotF
  rw [if_neg (by omega),if_pos (by omega)]
  congr 1; omega)]
 rfl
structure Cx (B0:Nat) (w0:World) (pa g n:Nat) (k:Int->Int) (ok:Int->Prop):Prop where
 cmp:Cmp B0 w0 pa k ok
 g:B0<=g
 ok:∀t:Nat,t<n->ok (t:Int)
theorem insertion_any (B0:Nat) (w0:World) (pa g off cap n a b:Nat) (k:Int->Int) (ok:Int->Prop) (f:Nat->Int) (w:World) (hX:Cx B0 w0 pa g n k ok) (hR:Rw g off n f w) (hab:a<=b) (hb:b<=n) (hn:n<=1000000) (hid:∀t,a<=t->t<b->f t=(t:Int)) (hB:Below B0 w0 w) :
  Calls Tryz.prog 151 #[.slice (some ⟨g,off,none⟩) n cap,.int .i64 (a:Int),.int .i64 (b:Int),cl pa] w fun e w'=>e=.returned (.tuple #[])/\(∃f',Rw g off n f' w'/\Pl.seg f' a b=Pl.grd k a (b-a)/\∀t,(t<a\/b<=t)->f' t=f t)/\Gr g w w':=by
 have HR:=hideP hR
 have HX:=hideP hX
 have HD:=hideP hid
 have HB:=hideP hB
 have hcf:=callF57
 clear hR hX hid hB
 by_cases hlt0:a<b
 rotate_left 1
 ·obtain rfl:a=b:=by omega
  have hlt':¬(a:Int)+1<(a:Int):=by omega
  go_enter Tryz.func151,Tryz.ntmps151
  go_wp2_with fail
  go_loopw [8,9] (fun vi _ wr=>vi=.int .i64 ((a:Int)+1)/\wr=w) (fun _ _ _=>0)
  case atStart=>exact ⟨by go_num,rfl⟩
  obtain ⟨rfl,rfl⟩:=hrel
  go_wp2_with fail
  go_end0
  exact ⟨rfl,⟨f,HR.out,by rw [Pl.seg_nil f (Nat.le_refl _),Nat.sub_self]; rfl,fun _ _=>rfl⟩,Gr.refl _ _⟩
 go_enter Tryz.func151,Tryz.ntmps151
 go_wp2_with fail
 go_loopw [8,9] (fun vi _ wr=>∃(i:Nat) (F:Nat->Int),a<i/\i<=b/\vi=.int .i64 (i:Int)/\Hid (Rw g off n F wr)/\Hid (Pl.seg F a i=Pl.grd k a (i-a))/\Hid (∀t,(t<a\/i<=t)->F t=f t)/\Hid (Gr g w wr)) (fun vi _ _=>b-(intOf vi).toNat)
 case atStart =>
  refine ⟨a+1,f,by omega,by omega,by go_num,HR,?_,fun t _=>rfl,Gr.refl _ _⟩
  show _=_
  rw [Pl.seg_one,show a+1-a=1 by omega,HD.out a (Nat.le_refl _) hlt0]
  rfl
 obtain ⟨i,F,hai,hib,rfl,RR,HG,HO,GG⟩:=hrel
 by_cases hlt:i<b
 rotate_left 1
 ·have hlt':¬(i:Int)<(b:Int):=by omega
  obtain rfl:i=b:=by omega
  go_wp2_with fail
  go_end0
  exact ⟨rfl,⟨F,RR.out,HG.out,HO.out⟩,GG.out⟩
 have hlt':(i:Int)<(b:Int):=by omega
 go_wp2_with fail
 go_loopw [9] (fun vj w2=>∃j:Nat,a<=j/\j<=i/\vj=.int .i64 (j:Int)/\Hid (Rw g off n (rotF F j i (i+1)) w2)/\Hid (∀t,j<=t->t<i->k (F i)<k (F t))/\Hid (Gr g w w2)) (fun vj _=>(intOf vj).toNat)
 case atStart=>exact ⟨i,by omega,Nat.le_refl _,rfl,by show Rw _ _ _ _ _; rw [ins_zero]; exact RR.out,fun t h1 h2=>by omega,GG⟩
 obtain ⟨j,haj,hji,rfl,R2,H2,G2⟩:=hrel
 have hin:i<n:=by omega
 have eFi:Hid (F i=(i:Int)):=(HO.out i (.inr (Nat.le_refl _))).trans (HD.out i (by omega) hlt)
 have BW:=hideP (G2.out.keep HB.out HX.out.g (Nat.le_trans HX.out.g (Nat.le_of_lt (Nat.lt_of_lt_of_le HR.out.1 (Nat.le_refl _)))))
 have OUT:Hid (∀w',Gr g w w'->Rw g off n (rotF F j i (i+1)) w'->(j=a\/¬k (F i)<k (F (j-1)))->∃(i':Nat) (F':Nat->Int),a<i'/\i'<=b/\Value.int .i64 ((i:Int)+1)=.int .i64 (i':Int)/\Hid (Rw g off n F' w')/\Hid (Pl.seg F' a i'=Pl.grd k a (i'-a))/\Hid (∀t,(t<a\/i'<=t)->F' t=f t)/\Hid (Gr g w w')):=fun w' hg hr hs=>by
  have hsr:Pl.SrtF k F a i:=Pl.srtF_of (by rw [HG.out]; exact Pl.srt_grd _ _ _)
  refine ⟨i+1,_,by omega,by omega,by go_num,hr,?_,fun t ht=>?_,hg⟩
  ·show _=_
   rw [ins_seg haj hji (fun t t1 t2=>by
    rcases hs with hs | hs
    ·omega
    by_cases e:t=j-1
    ·subst e; omega
    have:=hsr t (j-1) t1 (by omega) (by omega); omega) H2.out,HG.out,eFi.out,show i+1-a=(i-a)+1 by omega]
   show _=Pl.ins k ((a+(i-a):Nat):Int) (Pl.grd k a (i-a))
   rw [show a+(i-a)=i by omega]
  rw [rot_out hji (by omega)]
  exact HO.out t (by omega)
 have eG1:Hid (rotF F j i (i+1) j=F i):=rot_at hji
 by_cases hja:a<j
 rotate_left 1
 ·have hja':decide ((a:Int)<(j:Int))=false:=decide_eq_false (by omega)
  go_wp2_with fail
  go_quiet (fail)
  go_wp2_with fail
  go_roundw
  case rel=>exact OUT.out _ (G2.out.trans (Gr.below (below_drewN (Below.refl _ _) _))) (R2.out.drewN _) (.inl (by omega))
  simp [intOf]; omega
 have hja':decide ((a:Int)<(j:Int))=true:=decide_eq_true (by omega)
 have eG2:Hid (rotF F j i (i+1) (j-1)=F (j-1)):=rot_low (by omega)
 have SX:=hideP (ins_step (F:=F) (j:=j) (i:=i) (by omega) hji)
 have ok1:Hid (ok (F i)):=by show ok _; rw [eFi.out]; exact HX.out.ok i hin
 have ok2:Hid (ok (F (j-1))):=by
  have hm:F (j-1)∈Pl.grd k a (i-a):=by rw [<- HG.out]; exact Pl.seg_in (by omega) (by omega)
  have hm:=Pl.mem_grd hm
  obtain ⟨t,ht⟩:=Int.eq_ofNat_of_zero_le (show 0<=F (j-1) by omega)
  show ok _
  rw [ht]
  exact HX.out.ok t (by omega)
 obtain ⟨G,hG⟩:∃G,rotF F j i (i+1)=G:=⟨_,rfl⟩
 rw [hG] at R2 SX eG1 eG2 OUT
 clear hG
 have hcw:∀t,t<n->wr.cell? ⟨g,off+t,none⟩=some (.int .i64 (G t)):=fun t ht=>(R2.out.2 t ht).1
 have hfw:∀t,t<n->wr.frozen? ⟨g,off+t,none⟩=false:=fun t ht=>(R2.out.2 t ht).2
 have KC:Hid (∀m,Calls Tryz.prog 139 #[.int .i64 (G j),.int .i64 (G (j-1)),.pointer (some ⟨pa,0,none⟩)] (wr.drewN m) fun e w'=>e=.returned (.int .i64 (cmI (k (F i)) (k (F (j-1)))))/\∃q,w'=(wr.drewN m).drewN q):=fun m=>by
  rw [<- eG1.out,<- eG2.out]
  exact HX.out.cmp (G j) (G (j-1)) (wr.drewN m) (by rw [eG1.out]; exact ok1.out) (by rw [eG2.out]; exact ok2.out) (below_drewN BW.out m)
 obtain ⟨c,hc⟩:∃c,cmI (k (F i)) (k (F (j-1)))=c:=⟨_,rfl⟩
 have hcn:c<0 ↔ k (F i)<k (F (j-1)):=by rw [<- hc]; exact cmI_neg
 rw [hc] at KC
 have hjn:j<n:=by omega
 have hj1:j-1<n:=by omega
 have hj2:((j-1:Nat):Int)=(j:Int)-1:=by omega
 clear hc ok1 ok2
 by_cases hl:k (F i)<k (F (j-1))
 ·have hcl:c<0:=hcn.2 hl
  have HL:=hideP hl
  clear hcn hl
  have NW:Hid (∀q,Rw g off n (rotF F (j-1) i (i+1)) (((wr.drewN q).setCell ⟨g,off+j,none⟩ (.int .i64 (G (j-1)))).setCell ⟨g,off+(j-1),none⟩ (.int .i64 (G j)))/\Gr g w (((wr.drewN q).setCell ⟨g,off+j,none⟩ (.int .i64 (G (j-1)))).setCell ⟨g,off+(j-1),none⟩ (.int .i64 (G j)))):=fun q=>by
   refine ⟨?_,G2.out.trans (Gr.drewN q ((Gr.set _ _ _ _).trans (Gr.set _ _ _ _)))⟩
   rw [<- SX.out]
   exact ((R2.out.drewN q).set _ hjn).set _ hj1
  have HLL:Hid (∀t,j-1<=t->t<i->k (F i)<k (F t)):=fun t h1 h2=>by
   by_cases e:t=j-1
   ·rw [e]; exact HL.out
   exact H2.out t (by omega) h2
  go_wp2_with fail
  go_quiet (exact Calls.quiet_of (KC.out _))
  go_wp2_with fail
  go_region
  all_goals go_wp2_with fail
  go_roundw
  case rel=>exact ⟨j-1,by omega,by omega,by congr 1; omega,(NW.out _).1,HLL,(NW.out _).2⟩
  simp [intOf]; omega
 have hcl:¬c<0:=fun h=>hl (hcn.1 h)
 have HL:=hideP hl
 clear hcn hl
 go_wp2_with fail
 go_quiet (exact Calls.quiet_of (KC.out _))
 go_wp2_with fail
 go_roundw
 case rel=>exact OUT.out _ (G2.out.trans (Gr.below (below_drewN (Below.refl _ _) _))) (R2.out.drewN _) (.inr HL.out)
 simp [intOf]; omega
theorem Pl.srt_of {k:Int->Int} {f:Nat->Int} {a b:Nat} (h:Pl.SrtF k f a b):Pl.Srt k (Pl.seg f a b):=by
 unfold Pl.Srt Pl.seg
 rw [List.pairwise_map]
 refine List.Pairwise.imp_of_mem (R:=fun x y=>x<y) (fun {x y} hx hy hxy=>?_) List.pairwise_lt_range
 have:=List.mem_range.1 hx
 have:=List.mem_range.1 hy
 exact h _ _ (by omega) (by omega) (by omega)
def SmPost (g off n a m b:Nat) (k:Int->Int) (f:Nat->Int) (w:World) (e:Ending) (w':World):Prop :=
 e=.returned (.tuple #[])/\(∃f',Rw g off n f' w'/\Pl.seg f' a b=Pl.mrg k (Pl.seg f a m) (Pl.seg f m b)/\∀t,(t<a\/b<=t)->f' t=f t)/\Gr g w w'
theorem shl_zero {f:Nat->Int} {a:Nat}:rotF f a (a+1) (a+1)=f:=by
 funext t
 unfold rotF
 rw [show a+1-(a+1)=0 by omega]
 repeat' split
 all_goals first | rfl | (congr 1; omega) | (exfalso; omega)
theorem shl_at {f:Nat->Int} {a c:Nat} (h:a<=c):rotF f a (a+1) (c+1) c=f a:=by
 unfold rotF
 rw [if_neg (by omega),if_pos (by omega)]
 congr 1; omega
theorem shl_out {f:Nat->Int} {a c t:Nat} (h:t<a\/c<t) (hc:a<=c):rotF f a (a+1) (c+1) t=f t:=by
 unfold rotF
 rw [if_neg (by omega),if_neg (by omega)]
theorem shl_step {f:Nat->Int} {a c:Nat} (h:a<=c):upd (upd (rotF f a (a+1) (c+1)) c (rotF f a (a+1) (c+1) (c+1))) (c+1) (rotF f a (a+1) (c+1) c)=rotF f a (a+1) (c+1+1):=by
 obtain ⟨d,rfl⟩:∃d,c=a+d:=⟨c-a,by omega⟩
 rw [shl_at (by omega),shl_out (by omega) (by omega)]
 have e1:a+d+1-(a+1)=d:=by omega
 have e2:a+1-a=1:=by omega
 have e3:a+d+1+1-(a+1)=d+1:=by omega
 funext t
 unfold upd rotF
 simp only [e1,e2,e3]
 repeat' split
 all_goals first | rfl | (congr 1; omega) | (exfalso; omega) | skip
 all_goals (subst_vars; first | rfl | (congr 1; omega) | (exfalso; omega))
theorem shl_seg {k:Int->Int} {f:Nat->Int} {a i b:Nat} (h1:a+1<=i) (h2:i<=b) (hl:∀t,a+1<=t->t<i->k (f t)<k (f a)) (hg:∀t,i<=t->t<b->k (f a)<=k (f t)) :
  Pl.seg (rotF f a (a+1) i) a b=Pl.mrg k (Pl.seg f a (a+1)) (Pl.seg f (a+1) b):=by
 obtain ⟨c,rfl⟩:∃c,i=c+1:=⟨i-1,by omega⟩
 have e:=Pl.mrg_cut (k:=k) (L1:=[]) (L2:=[f a]) (R1:=Pl.seg f (a+1) (c+1)) (R2:=Pl.seg f (c+1) b) (by simp) (fun x hx y hy=>by
  obtain ⟨t,t1,t2,rfl⟩:=Pl.seg_mem hx
  simp at hy
  subst hy
  exact hl t t1 t2)
 have e':=Pl.mrg_cut (k:=k) (L1:=[f a]) (L2:=[]) (R1:=[]) (R2:=Pl.seg f (c+1) b) (fun x hx y hy=>by
  obtain ⟨t,t1,t2,rfl⟩:=Pl.seg_mem hy
  simp at hx
  subst hx
  exact hg t t1 t2) (by simp)
 rw [List.nil_append,Pl.nil_mrg] at e
 rw [List.append_nil,List.nil_append,Pl.nil_mrg,Pl.mrg_nil] at e'
 rw [Pl.seg_one,<- Pl.seg_cat f (show a+1<=c+1 by omega) h2,e,e']
 rw [<- Pl.seg_cat (rotF f a (a+1) (c+1)) (show a<=c+1 by omega) h2,<- Pl.seg_cat (rotF f a (a+1) (c+1)) (show a<=c by omega) (show c<=c+1 by omega),Pl.seg_one,shl_at (by omega)]
 rw [Pl.seg_congr (f:=rotF f a (a+1) (c+1)) (f':=f) (a:=c+1) (b:=b) (fun t t1 t2=>shl_out (.inr (by omega)) (by omega))]
 rw [Pl.seg_shift (f:=rotF f a (a+1) (c+1)) (f':=f) (a:=a) (b:=c) (c:=a+1) (d:=c+1) (by omega) (fun t ht=>by
  unfold rotF
  rw [if_pos (by omega)]
  congr 1; omega)]
 rw [List.append_assoc]
theorem sm_left (B0:Nat) (w0:World) (pa g off cap n a m b:Nat) (k:Int->Int) (ok:Int->Prop) (f:Nat->Int) (w:World) (hX:Cx B0 w0 pa g n k ok) (hR:Rw g off n f w) (hm:m=a+1) (hmb:m<b) (hb:b<=n) (hn:n<=1000000) (hok:∀t,t<n->ok (f t)) (hs:Pl.SrtF k f m b) (hB:Below B0 w0 w) :
  Calls Tryz.prog 152 #[.slice (some ⟨g,off,none⟩) n cap,.int .i64 (a:Int),.int .i64 (m:Int),.int .i64 (b:Int),cl pa] w (SmPost g off n a m b k f w):=by
 have HR:=hideP hR
 have HX:=hideP hX
 have HB:=hideP hB
 have HK:=hideP hok
 have HS:=hideP hs
 have hcf:=callF57
 have hm1:((m:Int)-(a:Int) == 1)=true:=by rw [beq_iff_eq]; omega
 have Hm:=hideP hm
 clear hR hX hB hok hs hm
 have HSW:Hid (B0<=w.heap.size):=Nat.le_trans HX.out.g (Nat.le_of_lt HR.out.1)
 have ham:a+1<=m:=by have:=Hm.out; omega
 have han:a<n:=by omega
 go_enter Tryz.func152,Tryz.ntmps152
 go_wp2_with fail
 go_loopw [10,11,12] (fun vi vj _ wr=>∃i j:Nat,m<=i/\i<=j/\j<=b/\vi=.int .i64 (i:Int)/\vj=.int .i64 (j:Int)/\Hid (∀t,m<=t->t<i->k (f t)<k (f a))/\Hid (∀t,j<=t->t<b->k (f a)<=k (f t))/\Hid (Rw g off n f wr)/\Hid (Gr g w wr)) (fun vi vj _ _=>(intOf vj).toNat-(intOf vi).toNat)
 case atStart=>exact ⟨m,b,Nat.le_refl _,by omega,Nat.le_refl _,rfl,rfl,fun t h1 h2=>by omega,fun t h1 h2=>by omega,HR,Gr.refl _ _⟩
 obtain ⟨i,j,hmi,hij,hjb,rfl,rfl,HL,HG,RR,GG⟩:=hrel
 by_cases hlt:i<j
 ·have hlt':(i:Int)<(j:Int):=by omega
  obtain ⟨h,hh⟩:∃h:Nat,((i:Int)+(j:Int)) / 2=(h:Int):=⟨(i+j) / 2,by omega⟩
  have hih:i<=h:=by omega
  have hhj:h<j:=by omega
  have hhn:h<n:=by omega
  have BW:=hideP (GG.out.keep HB.out HX.out.g HSW.out)
  have hcw:∀t,t<n->wr.cell? ⟨g,off+t,none⟩=some (.int .i64 (f t)):=fun t ht=>(RR.out.2 t ht).1
  have KC:Hid (∀m',Calls Tryz.prog 139 #[.int .i64 (f h),.int .i64 (f a),.pointer (some ⟨pa,0,none⟩)] (wr.drewN m') fun e w'=>e=.returned (.int .i64 (cmI (k (f h)) (k (f a))))/\∃q,w'=(wr.drewN m').drewN q):=fun m' =>
   HX.out.cmp (f h) (f a) (wr.drewN m') (HK.out _ (by omega)) (HK.out _ (by omega)) (below_drewN BW.out m')
  obtain ⟨c,hc⟩:∃c,cmI (k (f h)) (k (f a))=c:=⟨_,rfl⟩
  have hcn:c<0 ↔ k (f h)<k (f a):=by rw [<- hc]; exact cmI_neg
  rw [hc] at KC
  clear hc
  by_cases hl:k (f h)<k (f a)
  ·have hcl:c<0:=hcn.2 hl
   have hcd:decide (c<0)=true:=decide_eq_true hcl
   have HL':Hid (∀t,m<=t->t<h+1->k (f t)<k (f a)):=fun t h1 h2=>by
    by_cases e:t=h
    ·rw [e]; exact hl
    have:=HS.out t h h1 (by omega) (by omega); omega
   clear hcn hl
   go_upto_region 5 with fail
   clear hh
   go_quiet (exact Calls.quiet_of (KC.out _))
   go_wp2_with fail
   go_roundw
   case rel=>exact ⟨h+1,j,by omega,by omega,hjb,by go_num,rfl,HL',HG,(RR.out.drewN _),(GG.out.trans (Gr.below (below_drewN (Below.refl _ _) _)))⟩
   simp [intOf]; omega
  have hcl:¬c<0:=fun h=>hl (hcn.1 h)
  have hcd:decide (c<0)=false:=decide_eq_false hcl
  have HG':Hid (∀t,h<=t->t<b->k (f a)<=k (f t)):=fun t h1 h2=>by
   by_cases e:t=h
   ·rw [e]; omega
   have:=HS.out h t (by omega) (by omega) h2; omega
  clear hcn hl
  go_upto_region 5 with fail
  clear hh
  go_quiet (exact Calls.quiet_of (KC.out _))
  go_wp2_with fail
  go_roundw
  case rel=>exact ⟨i,h,hmi,hih,by omega,rfl,by go_num,HL,HG',(RR.out.drewN _),(GG.out.trans (Gr.below (below_drewN (Below.refl _ _) _)))⟩
  simp [intOf]; omega
 have hlt':¬(i:Int)<(j:Int):=by omega
 obtain rfl:i=j:=by omega
 have HF:=hideP (fun x y=>shl_seg (k:=k) (f:=f) (a:=a) (i:=i) (b:=b) x hjb y)
 have R0:Hid (Rw g off n (rotF f a (a+1) (a+1)) wr):=by show Rw _ _ _ _ _; rw [shl_zero]; exact RR.out
 go_wp2_with fail
 go_loopw [13] (fun vc w2=>∃c:Nat,a<=c/\c+1<=i/\vc=.int .i64 (c:Int)/\Hid (Rw g off n (rotF f a (a+1) (c+1)) w2)/\Hid (Gr g w w2)) (fun vc _=>i-(intOf vc).toNat)
 case atStart=>exact ⟨a,Nat.le_refl _,by omega,rfl,R0,GG⟩
 clear R0 RR GG
 obtain ⟨c,hac,hci,rfl,RR,GG⟩:=hrel
 by_cases hc1:c+1<i
 ·have hc1':(c:Int)<(i:Int)-1:=by omega
  have SX:=hideP (shl_step (f:=f) (a:=a) (c:=c) hac)
  obtain ⟨G,hG⟩:∃G,rotF f a (a+1) (c+1)=G:=⟨_,rfl⟩
  rw [hG] at RR SX
  clear hG
  have hcw:∀t,t<n->wr.cell? ⟨g,off+t,none⟩=some (.int .i64 (G t)):=fun t ht=>(RR.out.2 t ht).1
  have hfw:∀t,t<n->wr.frozen? ⟨g,off+t,none⟩=false:=fun t ht=>(RR.out.2 t ht).2
  have hcn:c<n:=by omega
  have hcn1:c+1<n:=by omega
  have NW:Hid (Rw g off n (rotF f a (a+1) (c+1+1)) (((wr.setCell ⟨g,off+c,none⟩ (.int .i64 (G (c+1)))).setCell ⟨g,off+(c+1),none⟩ (.int .i64 (G c))).drew)/\Gr g w (((wr.setCell ⟨g,off+c,none⟩ (.int .i64 (G (c+1)))).setCell ⟨g,off+(c+1),none⟩ (.int .i64 (G c))).drew)):=by
   refine ⟨?_,(GG.out.trans ((Gr.set _ _ _ _).trans (Gr.set _ _ _ _))).drew⟩
   rw [<- SX.out]
   exact ((RR.out.set _ hcn).set _ hcn1).drew
  go_wp2_with fail
  go_region
  all_goals go_wp2_with fail
  go_roundw
  case rel=>exact ⟨c+1,by omega,by omega,by go_num,NW.out.1,NW.out.2⟩
  simp [intOf]; omega
 have hc1':¬(c:Int)<(i:Int)-1:=by omega
 obtain rfl:i=c+1:=by omega
 have HE:Hid (Pl.seg (rotF f a (a+1) (c+1)) a b=Pl.mrg k (Pl.seg f a m) (Pl.seg f m b)):=by
  have hmm:=Hm.out
  subst hmm
  exact HF.out hmi HL.out HG.out
 go_wp2_with fail
 go_end0
 exact ⟨rfl,⟨_,RR.out,HE.out,fun t ht=>shl_out (by omega) hac⟩,GG.out⟩
theorem sm_right (B0:Nat) (w0:World) (pa g off cap n a m b:Nat) (k:Int->Int) (ok:Int->Prop) (f:Nat->Int) (w:World) (hX:Cx B0 w0 pa g n k ok) (hR:Rw g off n f w) (hm1:a+1<m) (hm:b=m+1) (hb:b<=n) (hn:n<=1000000) (hok:∀t,t<n->ok (f t)) (hs:Pl.SrtF k f a m) (hB:Below B0 w0 w) :
  Calls Tryz.prog 152 #[.slice (some ⟨g,off,none⟩) n cap,.int .i64 (a:Int),.int .i64 (m:Int),.int .i64 (b:Int),cl pa] w (SmPost g off n a m b k f w):=by
 have HR:=hideP hR
 have HX:=hideP hX
 have HB:=hideP hB
 have HK:=hideP hok
 have HS:=hideP hs
 have hcf:=callF57
 have hma:((m:Int)-(a:Int) == 1)=false:=by rw [beq_eq_false_iff_ne]; omega
 have hbm:((b:Int)-(m:Int) == 1)=true:=by rw [beq_iff_eq]; omega
 have Hm:=hideP hm
 have hmn:m<n:=by omega
 clear hR hX hB hok hs hm
 have HSW:Hid (B0<=w.heap.size):=Nat.le_trans HX.out.g (Nat.le_of_lt HR.out.1)
 go_enter Tryz.func152,Tryz.ntmps152
 go_wp2_with fail
 go_loopw [14,15,16] (fun vi vj _ wr=>∃i j:Nat,a<=i/\i<=j/\j<=m/\vi=.int .i64 (i:Int)/\vj=.int .i64 (j:Int)/\Hid (∀t,a<=t->t<i->k (f t)<=k (f m))/\Hid (∀t,j<=t->t<m->k (f m)<k (f t))/\Hid (Rw g off n f wr)/\Hid (Gr g w wr)) (fun vi vj _ _=>(intOf vj).toNat-(intOf vi).toNat)
 case atStart=>exact ⟨a,m,Nat.le_refl _,by omega,Nat.le_refl _,rfl,rfl,fun t h1 h2=>by omega,fun t h1 h2=>by omega,HR,Gr.refl _ _⟩
 obtain ⟨i,j,hmi,hij,hjb,rfl,rfl,HL,HG,RR,GG⟩:=hrel
 by_cases hlt:i<j
 ·have hlt':(i:Int)<(j:Int):=by omega
  obtain ⟨h,hh⟩:∃h:Nat,((i:Int)+(j:Int)) / 2=(h:Int):=⟨(i+j) / 2,by omega⟩
  have hih:i<=h:=by omega
  have hhj:h<j:=by omega
  have hhn:h<n:=by omega
  have BW:=hideP (GG.out.keep HB.out HX.out.g HSW.out)
  have hcw:∀t,t<n->wr.cell? ⟨g,off+t,none⟩=some (.int .i64 (f t)):=fun t ht=>(RR.out.2 t ht).1
  have KC:Hid (∀m',Calls Tryz.prog 139 #[.int .i64 (f m),.int .i64 (f h),.pointer (some ⟨pa,0,none⟩)] (wr.drewN m') fun e w'=>e=.returned (.int .i64 (cmI (k (f m)) (k (f h))))/\∃q,w'=(wr.drewN m').drewN q):=fun m' =>
   HX.out.cmp (f m) (f h) (wr.drewN m') (HK.out _ (by omega)) (HK.out _ (by omega)) (below_drewN BW.out m')
  obtain ⟨c,hc⟩:∃c,cmI (k (f m)) (k (f h))=c:=⟨_,rfl⟩
  have hcn:c<0 ↔ k (f m)<k (f h):=by rw [<- hc]; exact cmI_neg
  rw [hc] at KC
  clear hc
  by_cases hl:k (f m)<k (f h)
  ·have hcl:c<0:=hcn.2 hl
   have hcd:decide (c<0)=true:=decide_eq_true hcl
   have HG':Hid (∀t,h<=t->t<m->k (f m)<k (f t)):=fun t h1 h2=>by
    by_cases e:t=h
    ·rw [e]; exact hl
    have:=HS.out h t (by omega) (by omega) h2; omega
   clear hcn hl
   go_upto_region 17 with fail
   clear hh
   go_quiet (exact Calls.quiet_of (KC.out _))
   go_wp2_with fail
   go_roundw
   case rel=>exact ⟨i,h,hmi,hih,by omega,rfl,by go_num,HL,HG',(RR.out.drewN _),(GG.out.trans (Gr.below (below_drewN (Below.refl _ _) _)))⟩
   simp [intOf]; omega
  have hcl:¬c<0:=fun h=>hl (hcn.1 h)
  have hcd:decide (c<0)=false:=decide_eq_false hcl
  have HL':Hid (∀t,a<=t->t<h+1->k (f t)<=k (f m)):=fun t h1 h2=>by
   by_cases e:t=h
   ·rw [e]; omega
   have:=HS.out t h h1 (by omega) (by omega); omega
  clear hcn hl
  go_upto_region 17 with fail
  clear hh
  go_quiet (exact Calls.quiet_of (KC.out _))
  go_wp2_with fail
  go_roundw
  case rel=>exact ⟨h+1,j,by omega,by omega,hjb,by go_num,rfl,HL',HG,(RR.out.drewN _),(GG.out.trans (Gr.below (below_drewN (Below.refl _ _) _)))⟩
  simp [intOf]; omega
 have hlt':¬(i:Int)<(j:Int):=by omega
 obtain rfl:i=j:=by omega
 have R0:Hid (Rw g off n (rotF f m m (m+1)) wr):=by show Rw _ _ _ _ _; rw [ins_zero]; exact RR.out
 go_wp2_with fail
 go_loopw [17] (fun vc w2=>∃c:Nat,i<=c/\c<=m/\vc=.int .i64 (c:Int)/\Hid (Rw g off n (rotF f c m (m+1)) w2)/\Hid (Gr g w w2)) (fun vc _=>(intOf vc).toNat)
 case atStart=>exact ⟨m,by omega,Nat.le_refl _,rfl,R0,GG⟩
 clear R0 RR GG
 obtain ⟨c,hac,hci,rfl,RR,GG⟩:=hrel
 by_cases hc1:i<c
 ·have hc1':(i:Int)<(c:Int):=by omega
  have SX:=hideP (ins_step (F:=f) (j:=c) (i:=m) (by omega) hci)
  obtain ⟨G,hG⟩:∃G,rotF f c m (m+1)=G:=⟨_,rfl⟩
  rw [hG] at RR SX
  clear hG
  have hcw:∀t,t<n->wr.cell? ⟨g,off+t,none⟩=some (.int .i64 (G t)):=fun t ht=>(RR.out.2 t ht).1
  have hfw:∀t,t<n->wr.frozen? ⟨g,off+t,none⟩=false:=fun t ht=>(RR.out.2 t ht).2
  have hcn:c<n:=by omega
  have hcn1:c-1<n:=by omega
  have hj2:((c-1:Nat):Int)=(c:Int)-1:=by omega
  have NW:Hid (Rw g off n (rotF f (c-1) m (m+1)) (((wr.setCell ⟨g,off+c,none⟩ (.int .i64 (G (c-1)))).setCell ⟨g,off+(c-1),none⟩ (.int .i64 (G c))).drew)/\Gr g w (((wr.setCell ⟨g,off+c,none⟩ (.int .i64 (G (c-1)))).setCell ⟨g,off+(c-1),none⟩ (.int .i64 (G c))).drew)):=by
   refine ⟨?_,(GG.out.trans ((Gr.set _ _ _ _).trans (Gr.set _ _ _ _))).drew⟩
   rw [<- SX.out]
   exact ((RR.out.set _ hcn).set _ hcn1).drew
  go_wp2_with fail
  go_region
  all_goals go_wp2_with fail
  go_roundw
  case rel=>exact ⟨c-1,by omega,by omega,by congr 1; omega,NW.out.1,NW.out.2⟩
  simp [intOf]; omega
 have hc1':¬(i:Int)<(c:Int):=by omega
 obtain rfl:i=c:=by omega
 have HE:Hid (Pl.seg (rotF f i m (m+1)) a b=Pl.mrg k (Pl.seg f a m) (Pl.seg f m b)):=by
  have hmm:=Hm.out
  subst hmm
  show _=_
  rw [ins_seg hmi hci HL.out HG.out,Pl.seg_one]
  have:=Pl.mrg_ins k (f m) _ (Pl.seg f a m) [] (Nat.le_refl _) (Pl.srt_of HS.out) List.Pairwise.nil
  rw [Pl.mrg_nil] at this
  exact this.symm
 go_wp2_with fail
 go_end0
 exact ⟨rfl,⟨_,RR.out,HE.out,fun t ht=>rot_out hci (by have:=Hm.out; omega)⟩,GG.out⟩
end Go.Proofs.YtacapaiadggemaaGreat
