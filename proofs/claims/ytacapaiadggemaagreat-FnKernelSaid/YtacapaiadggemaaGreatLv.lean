import Derived.Test.YtacapaiadggemaaGreatMm
import Derived.Test.YtacapaiadggemaaGreatDy9
import Derived.Test.YtacapaiadggemaaGreatClIG
import Derived.Test.YtacapaiadggemaaGreatFr
import Derived.Test.YtacapaiadggemaaGreatYc
import Derived.Test.YtacapaiadggemaaGreatDu
namespace Go.Proofs.YtacapaiadggemaaGreat
open Go.RowKit
set_option maxRecDepth 100000
set_option maxHeartbeats 16000000
set_option linter.unusedVariables false
theorem specD_bad (op:Int) (v0 v1 v2 v3:Value) (sa da sb db:List Int) (w:World) (hl0:sa.length<=1048576) (hl1:da.length<=1048576) (hl2:sb.length<=1048576) (hl3:db.length<=1048576) (h0:Sl w v0 sa) (h1:Sl w v1 da) (h2:Sl w v2 sb) (h3:Sl w v3 db) (hbad:¬(1<=op/\op<8/\Pl.okB sa da=true/\Pl.okB sb db=true)) :
  Calls Tryz.prog 15 #[.int .i64 op,.agg #[v0,v1],.agg #[v2,v3]] w (FPost w 9 [] []):=by
 have Z0:=hideP (Cz.new w sa da sb db v0 v1 v2 v3 h0 h1 h2 h3)
 have KA:Hid (∀w',Below w.heap.size w w'->Calls Tryz.prog 26 #[.agg #[v0,v1]] w' fun e w''=>e=.returned (.bool (Pl.okB sa da))/\Below w'.heap.size w' w''):=fun w' h=>specOk_any _ _ sa da w' hl0 hl1 (h0.keep h).rd (h1.keep h).rd
 have KB:Hid (∀w',Below w.heap.size w w'->Calls Tryz.prog 26 #[.agg #[v2,v3]] w' fun e w''=>e=.returned (.bool (Pl.okB sb db))/\Below w'.heap.size w' w''):=fun w' h=>specOk_any _ _ sb db w' hl2 hl3 (h2.keep h).rd (h3.keep h).rd
 obtain ⟨a0,k0,rfl,_⟩:=h0
 obtain ⟨a1,k1,rfl,_⟩:=h1
 obtain ⟨a2,k2,rfl,_⟩:=h2
 obtain ⟨a3,k3,rfl,_⟩:=h3
 by_cases g:op<1\/7<op
 ·have g':op<1\/(¬op<1/\7<op):=by omega
  clear hbad KA KB g
  generalize sa.length=lsa at *
  generalize da.length=lda at *
  generalize sb.length=lsb at *
  generalize db.length=ldb at *
  rcases g' with g1 | ⟨g1,g7⟩
  all_goals
   try have g1':=decide_eq_false g1
   go_enter Tryz.func15,Tryz.ntmps15
   go_wp2_with fail
   exact bodyPost_ret (v:=.tuple #[.agg #[.slice none 0 0,.slice none 0 0],.int .i64 9]) (by simp [results,Tryz.results15,go_sem]) rfl ⟨Z0.out.bel,_,_,rfl,Own.nil _ _,Own.nil _ _,.inl rfl⟩
 have g1:decide (op<1)=false:=by rw [decide_eq_false_iff_not]; omega
 have g7:decide (7<op)=false:=by rw [decide_eq_false_iff_not]; omega
 have hq:Pl.okB sa da=false\/(Pl.okB sa da=true/\Pl.okB sb db=false):=by
  cases ea:Pl.okB sa da
  ·exact .inl rfl
  cases eb:Pl.okB sb db
  ·exact .inr ⟨rfl,rfl⟩
  exact absurd ⟨by omega,by omega,ea,eb⟩ hbad
 clear hbad g
 rcases hq with q | ⟨q,q2⟩
 all_goals
  rw [q] at KA
  try rw [q2] at KB
  clear q
  try clear q2
  generalize sa.length=lsa at *
  generalize da.length=lda at *
  generalize sb.length=lsb at *
  generalize db.length=ldb at *
  go_enter Tryz.func15,Tryz.ntmps15
  go_wp2_with fail
  refine (KA.out _ Z0.out.bel).mono ?_
  rintro e w1 ⟨rfl,hb1⟩
  have Z1:=hideP (Z0.out.keep hb1)
  clear hb1 Z0
 rotate_left
 ·have c2:=Z1.out.b0
  have c3:=Z1.out.b1
  go_wp2_with fail
  clear c2 c3
  refine (KB.out _ Z1.out.bel).mono ?_
  rintro e w2 ⟨rfl,hb2⟩
  have Z2:=hideP (Z1.out.keep hb2)
  clear hb2
  have hsq:=Z2.out.size
  have r0:=Z2.out.res.1
  have r1:=Z2.out.res.2.1
  have f2:=Z2.out.res.2.2
  go_wp2_with fail
  exact bodyPost_ret (v:=.tuple #[.agg #[.slice none 0 0,.slice none 0 0],.int .i64 9]) (by simp [results,Tryz.results15,go_sem,r0,r1]) rfl ⟨(Z2.out.bel.setCell (by simp; omega) _).setCell (by simp; omega) _,_,_,rfl,Own.nil _ _,Own.nil _ _,.inl rfl⟩
 have hsq:=Z1.out.size
 have r0:=Z1.out.res.1
 have r1:=Z1.out.res.2.1
 have f2:=Z1.out.res.2.2
 go_wp2_with fail
 exact bodyPost_ret (v:=.tuple #[.agg #[.slice none 0 0,.slice none 0 0],.int .i64 9]) (by simp [results,Tryz.results15,go_sem,r0,r1]) rfl ⟨(Z1.out.bel.setCell (by simp; omega) _).setCell (by simp; omega) _,_,_,rfl,Own.nil _ _,Own.nil _ _,.inl rfl⟩
theorem specD_15 (op:Int) (F:Nat) (AR:Array Value) (v0 v1 v2 v3:Value) (sa da sb db:List Int) (w:World) (hl0:sa.length<=1048576) (hl1:da.length<=1048576) (hl2:sb.length<=1048576) (hl3:db.length<=1048576) (h0:Sl w v0 sa) (h1:Sg w v1 da) (h2:Sg w v2 sb) (h3:Sg w v3 db) (oka:Pl.okB sa da=true) (okb:Pl.okB sb db=true) (c:Int) (S D:List Int)
  (hF:(op=1/\F=53/\AR=#[.agg #[v0,v1],.agg #[v2,v3]])\/(op=2/\F=54/\AR=#[.int .i64 2,.agg #[v0,v1],.agg #[v2,v3]])\/(op=3/\F=54/\AR=#[.int .i64 3,.agg #[v0,v1],.agg #[v2,v3]])\/(op=4/\F=55/\AR=#[.agg #[v0,v1],.agg #[v2,v3]])\/(op=5/\F=56/\AR=#[.agg #[v0,v1],.agg #[v2,v3]]))
  (hk:∀w',Sl w' v0 sa->Sg w' v1 da->Sg w' v2 sb->Sg w' v3 db->Calls Tryz.prog F AR w' (FPost w' c S D)) :
  Calls Tryz.prog 15 #[.int .i64 op,.agg #[v0,v1],.agg #[v2,v3]] w (FPost w c S D):=by
 have Z0:=hideP (Cz.new w sa da sb db v0 v1 v2 v3 h0 h1.sl h2.sl h3.sl)
 have KA:Hid (∀w',Below w.heap.size w w'->Calls Tryz.prog 26 #[.agg #[v0,v1]] w' fun e w''=>e=.returned (.bool true)/\Below w'.heap.size w' w''):=fun w' h=>by
  rw [<- oka]
  exact specOk_any _ _ sa da w' hl0 hl1 (h0.keep h).rd (h1.keep h).sl.rd
 have KB:Hid (∀w',Below w.heap.size w w'->Calls Tryz.prog 26 #[.agg #[v2,v3]] w' fun e w''=>e=.returned (.bool true)/\Below w'.heap.size w' w''):=fun w' h=>by
  rw [<- okb]
  exact specOk_any _ _ sb db w' hl2 hl3 (h2.keep h).sl.rd (h3.keep h).sl.rd
 have HK:Hid (∀w',Below w.heap.size w w'->Calls Tryz.prog F AR w' (FPost w' c S D)):=fun w' h=>hk w' (h0.keep h) (h1.keep h) (h2.keep h) (h3.keep h)
 obtain ⟨a0,k0,rfl,_⟩:=h0
 obtain ⟨b1,k1,rfl,_⟩:=h1
 obtain ⟨b2,k2,rfl,_⟩:=h2
 obtain ⟨b3,k3,rfl,_⟩:=h3
 clear oka okb hk
 generalize sa.length=lsa at *
 generalize da.length=lda at *
 generalize sb.length=lsb at *
 generalize db.length=ldb at *
 rcases hF with ⟨rfl,rfl,rfl⟩ | ⟨rfl,rfl,rfl⟩ | ⟨rfl,rfl,rfl⟩ | ⟨rfl,rfl,rfl⟩ | ⟨rfl,rfl,rfl⟩
 all_goals
  go_enter Tryz.func15,Tryz.ntmps15
  go_wp2_with fail
  refine (KA.out _ Z0.out.bel).mono ?_
  rintro e w1 ⟨rfl,hb1⟩
  have Z1:=hideP (Z0.out.keep hb1)
  clear hb1
  have c2:=Z1.out.b0
  have c3:=Z1.out.b1
  go_wp2_with fail
  clear c2 c3
  refine (KB.out _ Z1.out.bel).mono ?_
  rintro e w2 ⟨rfl,hb2⟩
  have Z2:=hideP (Z1.out.keep hb2)
  clear hb2
  have c0:=Z2.out.a0
  have c1:=Z2.out.a1
  have c2:=Z2.out.b0
  have c3:=Z2.out.b1
  have HC:=hideP (HK.out w2 Z2.out.bel)
  go_wp2_with fail
  refine HC.out.mono ?_
  rintro e w3 ⟨hb3,u0,u1,rfl,res⟩
  have Z3:=hideP (Z2.out.keep hb3)
  have hs2:=Z2.out.size
  have hs3:=Z3.out.size
  have R3:=hideP res
  obtain ⟨x0,y0,e0⟩:=res.1.form
  obtain ⟨x1,y1,e1⟩:=res.2.1.form
  subst e0 e1
  clear res hb3 c0 c1 c2 c3
  have r0:=Z3.out.res.1
  have r1:=Z3.out.res.2.1
  have f2:=Z3.out.res.2.2
  go_wp2_with fail
  refine bodyPost_ret (v:=.tuple #[.agg #[.slice x0 S.length y0,.slice x1 D.length y1],.int .i64 c]) (by simp [results,Tryz.results15,go_sem,r0,r1]) rfl ⟨(Z3.out.bel.setCell (by simp; omega) _).setCell (by simp; omega) _,_,_,rfl,?_,?_,R3.out.2.2⟩
  ·exact Own.base (Own.store (Own.store R3.out.1 (by omega) _) (by omega) _) (by omega)
  exact Own.base (Own.store (Own.store R3.out.2.1 (by omega) _) (by omega) _) (by omega)
theorem take_anyG (a0:Option Addr) (k0:Nat) (a1:Option Addr) (k1:Nat) (a2:Option Addr) (k2:Nat) (a3:Option Addr) (k3:Nat) (sa da sb db:List Int) (w:World)
  (h0:Rd w.heap.size w (.slice a0 sa.length k0) sa) (h1:Rd w.heap.size w (.slice a1 da.length k1) da) (h2:Rd w.heap.size w (.slice a2 sb.length k2) sb) (h3:Rd w.heap.size w (.slice a3 db.length k3) db)
  (hk2:sb.length<=k2) (hk2':k2<=9223372036854775807) (hk3:db.length<=k3) (hk3':0<db.length->k3<=9223372036854775807) (oka:Pl.okB sa da=true) (okb:Pl.okB sb db=true) (c:Int) (S D:List Int) (hres:Pl.takeM sa da sb db=(c,S,D)) :
  Calls Tryz.prog 116 #[.agg #[.slice a0 sa.length k0,.slice a1 da.length k1],.agg #[.slice a2 sb.length k2,.slice a3 db.length k3]] w (KPost w c S D):=by
 have e:=hres
 unfold Pl.takeM at e
 by_cases hsa:sa.length=0
 rotate_left 1
 ·rw [if_neg hsa] at e
  simp only [Prod.mk.injEq] at e
  obtain ⟨rfl,rfl,rfl⟩:=e
  have KA:Hid (∀w',Calls Tryz.prog 84 #[.agg #[.slice a0 sa.length k0,.slice a1 da.length k1]] w' fun e w''=>e=.returned (.bool false)/\Below w'.heap.size w' w''):=fun w'=>by
   have:=isScalar_any _ (.slice a1 da.length k1) sa _ w' w h0
   rw [decide_eq_false hsa] at this
   exact this
  have W0:=hideP (wid_new w h0 h1 h2 h3 25 25 25)
  clear h0 h1 h2 h3 oka okb hres hsa
  generalize sa.length=la at *
  go_enter Tryz.func116,Tryz.ntmps116
  go_wp2_with fail
  refine (KA.out _).mono ?_
  rintro e w1 ⟨rfl,hb1⟩
  have BW:=hideP (W0.out.keep hb1).1
  clear hb1
  go_wp2_with (go_at_call 73; refine (refuse_yes _ _).mono ?_; rintro e w1 ⟨rfl,rfl⟩)
  exact ⟨rfl,BW.out,.inr ⟨by decide,rfl,rfl,rfl⟩⟩
 rw [if_pos hsa] at e
 obtain ⟨x,hx⟩:=List.length_eq_one_iff.1 (Pl.ok_one oka hsa)
 obtain ⟨n',tb,hax⟩:=Pl.axes_cons sb db
 have okx:=Pl.axes_ok okb
 rw [hax] at okx
 have m2:=Pl.ok_max okx
 have hx2:=Pl.ok_cell oka (show x∈da by rw [hx]; simp)
 have hb:Pl.baseB (n'::tb)=true:=by
  have:=(Pl.ok_len okx).2
  simp only [Pl.fitsB,Bool.and_eq_true] at this
  exact this.1
 have hbb:Pl.baseB tb=true:=Pl.base_tail hb
 have hnr:0<=n'/\n'<=1000:=by
  simp only [Pl.baseB,Bool.and_eq_true,List.all_cons] at hb
  exact Pl.inR_bd hb.2.1
 obtain ⟨n,rfl⟩:=Int.eq_ofNat_of_zero_le hnr.1
 have hpT:=(Pl.prod_two tb hbb).1
 obtain ⟨TP,hTP⟩:=Int.eq_ofNat_of_zero_le hpT.1
 have hrow:n * TP<=db.length:=by
  by_cases hn0:n=0
  ·rw [hn0,Nat.zero_mul]; exact Nat.zero_le _
  obtain ⟨hft,n'',s,e1,e2,_,_,e3⟩:=Pl.ok_rows okx (by simp) (by show ¬(n:Int)=0; omega)
  have en:n''=n:=by
   have:(n:Int)=n'':=e1
   omega
  have es:s=TP:=by
   have:=(Pl.prod_eq hft).symm.trans e2
   have h':Pl.prodP tb=(s:Int):=this
   omega
  rw [e3,en,es]
  exact Nat.le_refl _
 rw [hax,hx] at e
 simp only [List.getD_cons_zero,List.tail_cons,hTP,Int.toNat_natCast] at e
 have hg:0<=Pl.gone x n/\Pl.gone x n<=n:=by unfold Pl.gone; omega
 obtain ⟨go,hgo⟩:=Int.eq_ofNat_of_zero_le hg.1
 obtain ⟨W,hW⟩:=Int.eq_ofNat_of_zero_le (show 0<=max x (-x) by omega)
 have hgw:(go:Int)<=W:=by rw [<- hgo,<- hW]; unfold Pl.gone; omega
 rw [hgo,hW,Int.toNat_natCast,Int.toNat_natCast] at e
 obtain ⟨b1,o1,rfl⟩:=rd_some h1 (by rw [hx]; simp)
 refine take_coreG a0 k0 b1 o1 k1 a2 k2 a3 k3 sa da sb db tb x n w h0 h1 h2 h3 hk2 hk2' hk3 hk3' hsa hx hax hx2.1 hx2.2 (by omega) (by have:=m2.1; simp at this; omega) hbb m2.2 TP hTP hrow W go hW hgo (by omega) (by omega) c S D e (fun hf=>?_)
 rw [Pl.fits_eq] at hf
 simp only [Bool.and_eq_true,decide_eq_true_eq] at hf
 have h4:=hf.2
 rw [Pl.prodP_cons,hTP] at h4
 have:((W * TP:Nat):Int)=(W:Int) * (TP:Int):=by simp
 omega
theorem callF50 (args:Array Value) (w:World):(callFunc 50 args).run Tryz.prog w=.ok (.enter 50 args) w:=by kernel_rfl
theorem callF60 (args:Array Value) (w:World):(callFunc 60 args).run Tryz.prog w=.ok (.enter 60 args) w:=by kernel_rfl
theorem monad_face (op:Int) (v0 v1:Value) (sh da:List Int) (w:World) (hl0:sh.length<=1048576) (hl1:da.length<=1048576) (h0:Sl w v0 sh) (h1:Sg w v1 da) (c:Int) (S D:List Int) (hres:Pl.mo8 (Pl.monM op) op sh da=(c,S,D)) :
  Calls Tryz.prog 13 #[.int .i64 op,.agg #[v0,v1]] w (FPost w c S D):=by
 have hmf:∀(fn:Fn) (first cap:Array Value) (w:World),(Instr.makeFunc fn first cap).run Tryz.prog w=.ok (.func fn first cap) w:=fun _ _ _ _=>rfl
 have K:Hid (∀pa po w',Below w.heap.size w w'->w'.cell? ⟨pa,0,none⟩=some v0->w'.cell? ⟨pa,1,none⟩=some v1->w'.cell? ⟨po,0,none⟩=some (.int .i64 op)->Calls Tryz.prog 50 #[.pointer (some ⟨pa,0,none⟩),.pointer (some ⟨po,0,none⟩)] w' (KPost w' c S D)) :=
  fun pa po w' hb g0 g1 g4=>mc_all pa po op _ _ sh da w' hl0 hl1 (h0.keep hb).rd (h1.keep hb).sl.rd g0 g1 g4 _ c S D hres
   (fun k hk k0 k1 ok e w'' hb'=>by
    have hb2:=hb.trans (hb'.mono hb.size)
    have q0:=(h0.keep hb2).rd
    have q1:=(h1.keep hb2).sl.rd
    obtain ⟨a0,p0,rfl,m0,m1,_⟩:=h0
    obtain ⟨b1,p1,rfl,m2,m3,_⟩:=h1
    have hk':k=1\/k=2\/k=3\/k=4\/k=5\/k=6\/k=7:=by omega
    rcases hk' with rfl | rfl | rfl | rfl | rfl | rfl | rfl
    all_goals
     subst hk
    ·exact countUp_any _ _ sh da w'' ok q0 q1 c S D e
    ·have e':((0:Int),[(sh.length:Int)],sh)=(c,S,D):=e
     simp only [Prod.mk.injEq] at e'
     obtain ⟨rfl,rfl,rfl⟩:=e'
     exact shapeOf_any _ _ sh da w'' hl0 hl1 q0 q1
    ·have e':((0:Int),[(da.length:Int)],da)=(c,S,D):=e
     simp only [Prod.mk.injEq] at e'
     obtain ⟨rfl,rfl,rfl⟩:=e'
     exact ravel_any _ _ sh da w'' hl0 hl1 q0 q1
    ·exact rev_any _ _ _ _ sh da w'' q0 q1 m0 (fun _=>m1) m2 (fun _=>m3) ok c S D e
    ·exact flip_any _ _ _ _ sh da w'' q0 q1 m0 (fun _=>m1) ok c S D e
    ·exact grade_any _ _ sh da w'' ok q0 q1 c S D e
    have e':((0:Int),([]:List Int),[(Pl.axesS sh da).getD 0 0])=(c,S,D):=e
    simp only [Prod.mk.injEq] at e'
    obtain ⟨rfl,rfl,rfl⟩:=e'
    exact count_any _ _ sh da w'' q0 q1)
 obtain ⟨a0,p0,rfl,_⟩:=h0
 obtain ⟨b1,p1,rfl,_⟩:=h1
 clear hres
 generalize sh.length=L0 at *
 generalize da.length=L1 at *
 go_enter Tryz.func13,Tryz.ntmps13
 go_wp2_with fail
 refine (answer_any 50 _ c S D _ (callF50 _) ?_).mono ?_
 ·refine K.out (w.heap.size+1) w.heap.size _ ?_ ?_ ?_ ?_
  ·exact (((((Below.refl _ _).alloc (Nat.le_refl _) _).alloc (by simp) _).alloc (by simp; omega) _).alloc (by simp; omega) _).alloc (by simp; omega) _
  ·simp [go_sem]
  ·simp [go_sem]
  simp [go_sem]
 rintro e w1 ⟨hb1,u0,u1,rfl,hres⟩
 have B0:Hid (Below w.heap.size w w1):=((((Below.refl _ _).alloc (Nat.le_refl _) _).alloc (by simp) _).alloc (by simp; omega) _).trans (hb1.mono (by simp; omega))
 have hs:=hb1.size
 simp at hs
 obtain ⟨hc,hf⟩:=bcell hb1
 have r0:w1.cell? ⟨w.heap.size+1+1,0,none⟩=some (.slice none 0 0):=by rw [hc (w.heap.size+1+1) 0 (by simp)]; simp [go_sem]
 have r1:w1.cell? ⟨w.heap.size+1+1,1,none⟩=some (.slice none 0 0):=by rw [hc (w.heap.size+1+1) 1 (by simp)]; simp [go_sem]
 have f3:∀o,w1.frozen? ⟨w.heap.size+1+1,o,none⟩=false:=fun o=>by rw [hf (w.heap.size+1+1) o (by simp)]; simp [go_sem]
 have R:Hid (Res (w.heap.size+1+1+1) w1 u0 u1 S D):=by
  have:=hres
  show Res _ _ _ _ _ _
  simpa using this
 obtain ⟨x0,y0,e0⟩:=hres.1.form
 obtain ⟨x1,y1,e1⟩:=hres.2.1.form
 subst e0 e1
 clear hc hf hb1 hres K
 go_wp2_with fail
 refine bodyPost_ret (v:=.tuple #[.agg #[.slice x0 S.length y0,.slice x1 D.length y1],.int .i64 c]) (by simp [results,Tryz.results13,go_sem,r0,r1]) rfl ⟨(B0.out.setCell (by simp; omega) _).setCell (by simp; omega) _,_,_,rfl,?_,?_,R.out.2.2⟩
 ·exact Own.base (Own.store (Own.store R.out.1 (by omega) _) (by omega) _) (by omega)
 exact Own.base (Own.store (Own.store R.out.2.1 (by omega) _) (by omega) _) (by omega)
namespace Pl
def matchM (sa da sb db:List Int):Int × List Int × List Int:=(0,[],[boolM (decide (sa=sb) && decide (da=db))])
def dyaM (op:Int) (sa da sb db:List Int):Int × List Int × List Int:=if op=1 then reshM sa da sb db else if op=2 then takeM sa da sb db else if op=3 then dropM sa da sb db else if op=4 then catM sa da sb db else if op=5 then fromM sa da sb db else if op=6 then findM sa da sb db else matchM sa da sb db
end Pl
theorem specD_face (op:Int) (v0 v1 v2 v3:Value) (sa da sb db:List Int) (w:World) (hl0:sa.length<=1048576) (hl1:da.length<=1048576) (hl2:sb.length<=1048576) (hl3:db.length<=1048576) (h0:Sl w v0 sa) (h1:Sg w v1 da) (h2:Sg w v2 sb) (h3:Sg w v3 db) (c:Int) (S D:List Int) (hres:Pl.dy8 (Pl.dyaM op) op sa da sb db=(c,S,D)) :
  Calls Tryz.prog 15 #[.int .i64 op,.agg #[v0,v1],.agg #[v2,v3]] w (FPost w c S D):=by
 by_cases h:1<=op/\op<8/\Pl.okB sa da=true/\Pl.okB sb db=true
 rotate_left 1
 ·have e:=hres
  rw [Pl.dy8_no h] at e
  simp only [Prod.mk.injEq] at e
  obtain ⟨rfl,rfl,rfl⟩:=e
  exact specD_bad op v0 v1 v2 v3 sa da sb db w hl0 hl1 hl2 hl3 h0 h1.sl h2.sl h3.sl h
 have e:=hres
 rw [Pl.dy8_yes h] at e
 obtain ⟨k0,k1,oka,okb⟩:=h
 have hk:op=1\/op=2\/op=3\/op=4\/op=5\/op=6\/op=7:=by omega
 obtain ⟨a0,p0,e0,m0,m0',_⟩:=id h0
 obtain ⟨b1,p1,e1,m1,m1',_⟩:=id h1
 obtain ⟨b2,p2,e2,m2,m2',_⟩:=id h2
 obtain ⟨b3,p3,e3,m3,m3',_⟩:=id h3
 subst e0 e1 e2 e3
 rcases hk with rfl | rfl | rfl | rfl | rfl | rfl | rfl
 ·exact specD_15 1 53 _ _ _ _ _ sa da sb db w hl0 hl1 hl2 hl3 h0 h1 h2 h3 oka okb c S D (.inl ⟨rfl,rfl,rfl⟩) (fun w' q0 q1 q2 q3=>l2Reshape_any a0 p0 b1 p1 b2 p2 b3 p3 sa da sb db w' q0.rd q1.sl.rd q2.sl.rd q3.sl.rd oka okb c S D e)
 ·exact specD_15 2 54 _ _ _ _ _ sa da sb db w hl0 hl1 hl2 hl3 h0 h1 h2 h3 oka okb c S D (.inr (.inl ⟨rfl,rfl,rfl⟩)) (fun w' q0 q1 q2 q3=>l2Take_gen 2 _ _ _ _ sa da sb db w' (.inl rfl) q0 q1.sl q2.sl q3 oka okb c S D e)
 ·exact specD_15 3 54 _ _ _ _ _ sa da sb db w hl0 hl1 hl2 hl3 h0 h1 h2 h3 oka okb c S D (.inr (.inr (.inl ⟨rfl,rfl,rfl⟩))) (fun w' q0 q1 q2 q3=>l2Take_gen 3 _ _ _ _ sa da sb db w' (.inr rfl) q0 q1.sl q2.sl q3 oka okb c S D e)
 ·exact specD_15 4 55 _ _ _ _ _ sa da sb db w hl0 hl1 hl2 hl3 h0 h1 h2 h3 oka okb c S D (.inr (.inr (.inr (.inl ⟨rfl,rfl,rfl⟩)))) (fun w' q0 q1 q2 q3=>l2Cat_gen _ _ _ _ sa da sb db w' q0 q1.sl q2.sl q3.sl oka okb c S D e)
 ·exact specD_15 5 56 _ _ _ _ _ sa da sb db w hl0 hl1 hl2 hl3 h0 h1 h2 h3 oka okb c S D (.inr (.inr (.inr (.inr ⟨rfl,rfl,rfl⟩)))) (fun w' q0 q1 q2 q3=>l2From_any a0 p0 b1 p1 b2 p2 b3 p3 sa da sb db w' q0.rd q1.sl.rd q2.sl.rd q3.sl.rd m2 m2' m3 m3' oka okb c S D e)
 ·exact specD_6 a0 p0 b1 p1 b2 p2 b3 p3 sa da sb db w hl0 hl1 hl2 hl3 h0.rd h1.sl.rd h2.sl.rd h3.sl.rd oka okb c S D e
 have e':Pl.matchM sa da sb db=(c,S,D):=e
 unfold Pl.matchM at e'
 simp only [Prod.mk.injEq] at e'
 obtain ⟨rfl,rfl,rfl⟩:=e'
 exact specD_7 a0 p0 b1 p1 b2 p2 b3 p3 sa da sb db w hl0 hl1 hl2 hl3 h0.rd h1.sl.rd h2.sl.rd h3.sl.rd oka okb
theorem dyad_face (op:Int) (v0 v1 v2 v3:Value) (sa da sb db:List Int) (w:World) (hl0:sa.length<=1048576) (hl1:da.length<=1048576) (hl2:sb.length<=1048576) (hl3:db.length<=1048576) (h0:Sl w v0 sa) (h1:Sg w v1 da) (h2:Sg w v2 sb) (h3:Sg w v3 db) (c:Int) (S D:List Int) (hres:Pl.dy8 (Pl.dyaM op) op sa da sb db=(c,S,D)) :
  Calls Tryz.prog 16 #[.int .i64 op,.agg #[v0,v1],.agg #[v2,v3]] w (FPost w c S D):=by
 have hmf:∀(fn:Fn) (first cap:Array Value) (w:World),(Instr.makeFunc fn first cap).run Tryz.prog w=.ok (.func fn first cap) w:=fun _ _ _ _=>rfl
 have K:Hid (∀pa pb po w',Below w.heap.size w w'->w'.cell? ⟨pa,0,none⟩=some v0->w'.cell? ⟨pa,1,none⟩=some v1->w'.cell? ⟨pb,0,none⟩=some v2->w'.cell? ⟨pb,1,none⟩=some v3->w'.cell? ⟨po,0,none⟩=some (.int .i64 op)->Calls Tryz.prog 60 #[.pointer (some ⟨pa,0,none⟩),.pointer (some ⟨pb,0,none⟩),.pointer (some ⟨po,0,none⟩)] w' (KPost w' c S D)) :=
  fun pa pb po w' hb g0 g1 g2 g3 g4=>dc_all pa pb po op v0 v1 v2 v3 sa da sb db w' hl0 hl1 hl2 hl3 (h0.keep hb).rd (h1.keep hb).sl.rd (h2.keep hb).sl.rd (h3.keep hb).sl.rd g0 g1 g2 g3 g4 _ c S D hres
   (fun k hk kk0 kk1 oka okb e w'' hb'=>by
    have hb2:=hb.trans (hb'.mono hb.size)
    have q0:=h0.keep hb2
    have q1:=h1.keep hb2
    have q2:=h2.keep hb2
    have q3:=h3.keep hb2
    obtain ⟨a0,p0,rfl,m0,m0',_⟩:=h0
    obtain ⟨b1,p1,rfl,m1,m1',_⟩:=h1
    obtain ⟨b2,p2,rfl,m2,m2',_⟩:=h2
    obtain ⟨b3,p3,rfl,m3,m3',_⟩:=h3
    have hk':k=1\/k=2\/k=3\/k=4\/k=5\/k=6\/k=7:=by omega
    rcases hk' with rfl | rfl | rfl | rfl | rfl | rfl | rfl
    all_goals
     subst hk
    ·exact reshape_any a0 p0 b1 p1 b2 p2 b3 p3 sa da sb db w'' q0.rd q1.sl.rd q2.sl.rd q3.sl.rd oka okb c S D e
    ·exact take_anyG _ _ _ _ _ _ _ _ sa da sb db w'' q0.rd q1.sl.rd q2.sl.rd q3.sl.rd m2 m2' m3 (fun _=>m3') oka okb c S D e
    ·exact drop_any _ _ _ _ _ _ _ _ sa da sb db w'' q0.rd q1.sl.rd q2.sl.rd q3.sl.rd m2 m2' m3 (fun _=>m3') oka okb c S D e
    ·exact cat_gen _ _ _ _ sa da sb db w'' q0 q1.sl q2.sl q3.sl oka okb c S D e
    ·exact from_any _ _ _ _ _ _ _ _ sa da sb db w'' q0.rd q1.sl.rd q2.sl.rd q3.sl.rd m2 m2' m3 (fun _=>m3') oka okb c S D e
    ·exact find_any a0 p0 b1 p1 b2 p2 b3 p3 sa da sb db w'' q0.rd q1.sl.rd q2.sl.rd q3.sl.rd oka okb c S D e
    have e':Pl.matchM sa da sb db=(c,S,D):=e
    unfold Pl.matchM at e'
    simp only [Prod.mk.injEq] at e'
    obtain ⟨rfl,rfl,rfl⟩:=e'
    exact match_any _ _ _ _ sa da sb db w'' hl0 hl1 hl2 hl3 q0.rd q1.sl.rd q2.sl.rd q3.sl.rd)
 obtain ⟨a0,p0,rfl,_⟩:=h0
 obtain ⟨b1,p1,rfl,_⟩:=h1
 obtain ⟨b2,p2,rfl,_⟩:=h2
 obtain ⟨b3,p3,rfl,_⟩:=h3
 clear hres
 generalize sa.length=L0 at *
 generalize da.length=L1 at *
 generalize sb.length=L2 at *
 generalize db.length=L3 at *
 go_enter Tryz.func16,Tryz.ntmps16
 go_wp2_with fail
 refine (answer_any 60 _ c S D _ (callF60 _) ?_).mono ?_
 ·refine K.out (w.heap.size+1) (w.heap.size+1+1) w.heap.size _ ?_ ?_ ?_ ?_ ?_ ?_
  ·exact ((((((Below.refl _ _).alloc (Nat.le_refl _) _).alloc (by simp) _).alloc (by simp; omega) _).alloc (by simp; omega) _).alloc (by simp; omega) _).alloc (by simp; omega) _
  ·simp [go_sem]
  ·simp [go_sem]
  ·simp [go_sem]
  ·simp [go_sem]
  simp [go_sem]
 rintro e w1 ⟨hb1,u0,u1,rfl,hres⟩
 have B0:Hid (Below w.heap.size w w1):=(((((Below.refl _ _).alloc (Nat.le_refl _) _).alloc (by simp) _).alloc (by simp; omega) _).alloc (by simp; omega) _).trans (hb1.mono (by simp; omega))
 have hs:=hb1.size
 simp at hs
 obtain ⟨hc,hf⟩:=bcell hb1
 have r0:w1.cell? ⟨w.heap.size+1+1+1,0,none⟩=some (.slice none 0 0):=by rw [hc (w.heap.size+1+1+1) 0 (by simp)]; simp [go_sem]
 have r1:w1.cell? ⟨w.heap.size+1+1+1,1,none⟩=some (.slice none 0 0):=by rw [hc (w.heap.size+1+1+1) 1 (by simp)]; simp [go_sem]
 have f3:∀o,w1.frozen? ⟨w.heap.size+1+1+1,o,none⟩=false:=fun o=>by rw [hf (w.heap.size+1+1+1) o (by simp)]; simp [go_sem]
 have R:Hid (Res (w.heap.size+1+1+1+1) w1 u0 u1 S D):=by
  have:=hres
  show Res _ _ _ _ _ _
  simpa using this
 obtain ⟨x0,y0,e0⟩:=hres.1.form
 obtain ⟨x1,y1,e1⟩:=hres.2.1.form
 subst e0 e1
 clear hc hf hb1 hres K
 go_wp2_with fail
 refine bodyPost_ret (v:=.tuple #[.agg #[.slice x0 S.length y0,.slice x1 D.length y1],.int .i64 c]) (by simp [results,Tryz.results16,go_sem,r0,r1]) rfl ⟨(B0.out.setCell (by simp; omega) _).setCell (by simp; omega) _,_,_,rfl,?_,?_,R.out.2.2⟩
 ·exact Own.base (Own.store (Own.store R.out.1 (by omega) _) (by omega) _) (by omega)
 exact Own.base (Own.store (Own.store R.out.2.1 (by omega) _) (by omega) _) (by omega)
namespace Pl
def Gd (r:Int × List Int × List Int):Prop:=(r.1=0->okB r.2.1 r.2.2=true)/\(¬r.1=0->r.2.1=[]/\r.2.2=[])
def bd (x:Int):Prop:=-3000000000<=x/\x<=3000000000
theorem gd_err {c:Int} (h:¬c=0):Gd (c,[],[]):=⟨fun e=>absurd e h,fun _=>⟨rfl,rfl⟩⟩
theorem gd_ok {S D:List Int} (h:okB S D=true):Gd (0,S,D):=⟨fun _=>h,fun e=>absurd rfl e⟩
theorem gd_mk {S D:List Int} (hf:fitsB S=true) (hl:(D.length:Int)=prodC S) (hv:∀x∈D,bd x):Gd (0,S,D):=by
 refine gd_ok ?_
 simp only [okB,Bool.and_eq_true,decide_eq_true_eq,List.all_eq_true]
 exact ⟨⟨hf,hl⟩,fun x hx=>by unfold valB; exact decide_eq_true (hv x hx)⟩
theorem gd_vec {xs:List Int} {n:Nat} (hn:n<=1000) (hl:xs.length=n) (h:∀x∈xs,bd x):Gd (0,[(n:Int)],xs):=gd_ok (ok_vec hn hl h)
theorem bd0:bd 0:=by unfold bd; omega
theorem ok_bd {sh da:List Int} (h:okB sh da=true):∀x∈da,bd x:=fun x hx=>ok_cell h hx
theorem getD_bd {da:List Int} (h:∀x∈da,bd x) (i:Nat):bd (da.getD i 0):=by
 by_cases hi:i<da.length
 ·have e:da.getD i 0=da[i]:=by simp [List.getD,hi]
  rw [e]
  exact h _ (List.getElem_mem hi)
 have e:da.getD i 0=0:=by simp [List.getD,Nat.not_lt.1 hi]
 rw [e]
 exact bd0
theorem firstG_all {α:Type} {F:α->Int × Int} {l:List α} (h:firstG F l=0):∀x∈l,(F x).2=0:=by
 induction l with
 |nil=>intro x hx; cases hx
 |cons y ys ih =>
  simp only [firstG] at h
  by_cases h0:(F y).2=0
  ·rw [if_pos h0] at h
   intro x hx
   rcases List.mem_cons.1 hx with rfl | hx
   ·exact h0
   exact ih h x hx
  rw [if_neg h0] at h
  exact absurd h h0
theorem shape_bd {sh da:List Int} (h:okB sh da=true):∀x∈sh,0<=x/\x<=1000:=fun x hx=>by
 have:=(ok_len h).2
 simp only [fitsB,baseB,Bool.and_eq_true,List.all_eq_true] at this
 exact inR_bd (this.1.2 x hx)
theorem one_bd (op x:Int) (h:bd x) (hc:(oneM op x).2=0):bd (oneM op x).1:=by
 unfold oneM signM notM at *
 unfold bd at *
 repeat' split
 all_goals (simp only; try omega)
 all_goals (split <;> omega)
theorem gd_each1 (op:Int) (sh da:List Int):Gd (each1C op sh da,each1S op sh da,each1D op sh da):=by
 unfold each1S each1D
 by_cases h0:each1C op sh da=0
 ·rw [if_pos h0,if_pos h0,h0]
  unfold each1C at h0
  split at h0
  ·rename_i h
   obtain ⟨hok,h1,h2⟩:=h
   rw [firstC_eq] at h0
   refine gd_mk (ok_len hok).2 (by rw [List.length_map]; exact (ok_len hok).1) (fun v hv=>?_)
   obtain ⟨x,hx,rfl⟩:=List.mem_map.1 hv
   exact one_bd op x (ok_bd hok x hx) (firstG_all h0 x hx)
  omega
 rw [if_neg h0,if_neg h0]
 exact gd_err h0
def Fb (F:Int->Int->Int × Int):Prop:=∀x y,-3000000000<=x->x<=3000000000->-3000000000<=y->y<=3000000000->(F x y).2=0->-3000000000<=(F x y).1/\(F x y).1<=3000000000
theorem two_fb {op:Int} (h0:1<=op) (h1:op<11):Fb (twoM op):=by
 obtain ⟨k,rfl⟩:=Int.eq_ofNat_of_zero_le (show 0<=op by omega)
 exact fun x y a b c d e=>two_bd k (by omega) (by omega) x y a b c d e
theorem gd_eachM {F:Int->Int->Int × Int} (hF:Fb F) {sa xs sb ys:List Int} (h:okB sa xs=true) (h':okB sb ys=true):Gd (eachM F sa xs sb ys):=by
 unfold eachM
 split
 ·exact gd_err (by decide)
 split
 ·exact gd_err (by decide)
 rename_i h2
 have e:sa=sb:=Classical.not_not.1 h2
 subst e
 split
 ·rename_i hz
  exact gd_ok (ok_map F hF h h' hz)
 rename_i hz
 exact gd_err hz
theorem gd_each2 (op:Int) (sa da sb db:List Int):Gd (dyM (each2M (twoM op)) op sa da sb db):=by
 unfold dyM
 split
 rotate_left 1
 ·exact gd_err (by decide)
 rename_i h
 obtain ⟨h1,h2,oka,okb⟩:=h
 have F:=two_fb h1 h2
 unfold each2M
 split
 ·rename_i h0
  exact gd_eachM F (ok_rep oka okb (by have:=ok_one oka h0; omega)) okb
 split
 ·rename_i h0
  exact gd_eachM F oka (ok_rep okb oka (by have:=ok_one okb h0; omega))
 exact gd_eachM F oka okb
theorem gd_outer (op:Int) (sa da sb db:List Int):Gd (dyM (outerM (twoM op)) op sa da sb db):=by
 unfold dyM
 split
 rotate_left 1
 ·exact gd_err (by decide)
 rename_i h
 obtain ⟨h1,h2,oka,okb⟩:=h
 have F:=two_fb h1 h2
 unfold outerM
 split
 rotate_left 1
 ·exact gd_err (by decide)
 rename_i hf
 split
 ·rename_i hz
  refine gd_mk hf ?_ (fun v hv=>?_)
  ·rw [List.length_map,pairs_len,prod_app hf,<- (ok_len oka).1,<- (ok_len okb).1]
   simp
  obtain ⟨p,hp,rfl⟩:=List.mem_map.1 hv
  have c:=firstG_all hz p hp
  obtain ⟨x,hx,hq⟩:=List.mem_flatMap.1 hp
  obtain ⟨y,hy,rfl⟩:=List.mem_map.1 hq
  have bx:=ok_bd oka x hx
  have bq:=ok_bd okb y hy
  exact F x y bx.1 bx.2 bq.1 bq.2 c
 rename_i hz
 exact gd_err hz
theorem down_len {da:List Int} {s:Nat}:∀q,q * s<=da.length->(rowsDown da s q).flatten.length=q * s
 |0,_=>by simp [rowsDown]
 |q+1,h=>by
  have h':q * s<=da.length:=by rw [Nat.succ_mul] at h; omega
  rw [rowsDown_succ,List.flatten_cons,List.length_append,down_len q h',rowAt_len h,Nat.succ_mul,Nat.add_comm]
theorem down_in {da:List Int} {s:Nat}:∀q,∀x∈(rowsDown da s q).flatten,x∈da
 |0,x,h=>by simp [rowsDown] at h
 |q+1,x,h=>by
  rw [rowsDown_succ,List.flatten_cons,List.mem_append] at h
  rcases h with h | h
  ·exact rowAt_mem h
  exact down_in q x h
theorem prodP_rev (l:List Int):prodP l.reverse=prodP l:=by
 induction l with
 |nil=>rfl
 |cons x l ih=>rw [List.reverse_cons,prodP_snoc,ih,prodP_cons,Int.mul_comm]
theorem fits_rev {sh:List Int} (h:fitsB sh=true):fitsB sh.reverse=true:=by
 rw [fits_eq] at h ⊢
 rw [prodP_rev]
 simp only [baseB,Bool.and_eq_true,List.length_reverse,List.all_reverse] at h ⊢
 exact h
theorem gd_mon (op:Int) (sh da:List Int):Gd (mo8 (monM op) op sh da):=by
 unfold mo8
 split
 rotate_left 1
 ·exact gd_err (by decide)
 rename_i h
 obtain ⟨_,_,ok⟩:=h
 have hm:=ok_max ok
 have hb:=ok_bd ok
 unfold monM
 split
 ·unfold iotaM
  split
  ·exact gd_err (by decide)
  split
  ·exact gd_err (by decide)
  split
  ·exact gd_err (by decide)
  rename_i h1 h2
  obtain ⟨n,hn⟩:=Int.eq_ofNat_of_zero_le (show 0<=da.getD 0 0 by omega)
  rw [hn,Int.toNat_natCast]
  refine gd_vec (by omega) (iotaL_len n) (fun x hx=>?_)
  simp only [iotaL,List.mem_map,List.mem_range] at hx
  obtain ⟨i,hi,rfl⟩:=hx
  unfold bd
  omega
 split
 ·exact gd_vec (by omega) rfl (fun x hx=>by have:=shape_bd ok x hx; unfold bd; omega)
 split
 ·exact gd_vec hm.2 rfl hb
 split
 ·unfold revM
  split
  ·rename_i h0
   refine gd_mk rfl ?_ hb
   rw [ok_one ok h0]
   rfl
  rename_i h0
  obtain ⟨n,s,e1,e2,_,_,e3,_⟩:=rows_size ok h0
  rw [e1,e2,Int.toNat_natCast,Int.toNat_natCast]
  refine gd_mk (ok_len ok).2 ?_ (fun x hx=>hb x (down_in n x hx))
  rw [down_len n (by omega),<- (ok_len ok).1,e3]
 split
 ·unfold flipM
  have hf:=fits_rev (ok_len ok).2
  refine gd_mk hf ?_ (fun x hx=>?_)
  ·rw [List.length_map,List.length_range,prod_eq hf,prodP_rev,<- prod_eq (ok_len ok).2]
   exact (ok_len ok).1
  obtain ⟨i,_,rfl⟩:=List.mem_map.1 hx
  exact getD_bd hb _
 split
 ·unfold gradeM
  split
  ·refine gd_vec hm.2 (len_grd _ _ _) (fun x hx=>?_)
   have:=mem_grd hx
   unfold bd
   omega
  exact gd_err (by decide)
 unfold countM
 refine gd_mk rfl rfl (fun x hx=>?_)
 rw [List.mem_singleton] at hx
 subst hx
 unfold axesS
 split
 ·rw [List.getD_cons_zero]
  unfold bd
  omega
 refine getD_bd (fun x hx=>?_) 0
 have:=shape_bd ok x hx
 unfold bd
 omega
theorem rowZ_bd {db:List Int} (h:∀x∈db,bd x) (TP n:Nat) (k:Int):∀x∈rowZ db TP n k,bd x:=by
 unfold rowZ
 split
 ·exact fun x hx=>h x (List.mem_of_mem_drop (List.mem_of_mem_take hx))
 exact fun x hx=>by rw [List.eq_of_mem_replicate hx]; exact bd0
theorem gd_take (f:Int) (hf:f=2\/f=3) {sa da sb db:List Int} (oka:okB sa da=true) (okb:okB sb db=true):Gd (if f=2 then takeM sa da sb db else dropM sa da sb db):=by
 by_cases hsa:sa.length=0
 rotate_left 1
 ·unfold takeM dropM
  rw [if_neg hsa,if_neg hsa,ite_self]
  exact gd_err (by decide)
 obtain ⟨x,hxd⟩:=List.length_eq_one_iff.1 (ok_one oka hsa)
 obtain ⟨n',tb,hax⟩:=axes_cons sb db
 have okx:=axes_ok okb
 rw [hax] at okx
 have hx2:=ok_bd oka x (by rw [hxd]; simp)
 have fitn:=(ok_len okx).2
 have hb:baseB (n'::tb)=true:=by
  have:=fitn
  simp only [fitsB,Bool.and_eq_true] at this
  exact this.1
 have hnr:=shape_bd okx n' (by simp)
 obtain ⟨n,rfl⟩:=Int.eq_ofNat_of_zero_le hnr.1
 obtain ⟨TP,hTP⟩:=Int.eq_ofNat_of_zero_le (prod_two tb (base_tail hb)).1.1
 obtain ⟨c,S,D,hr⟩:∃c S D,(if f=2 then takeM sa da sb db else dropM sa da sb db)=(c,S,D):=⟨_,_,_,rfl⟩
 obtain ⟨i,m,_,_,e⟩:=td_span f x n TP tb db sa da sb hf hsa hxd hax hTP fitn hx2.1 hx2.2 (by omega) c S D hr
 rw [hr,<- e]
 have hrow:n * TP<=db.length:=by
  have h1:=(ok_len okx).1
  rw [prod_eq fitn,prodP_cons,hTP] at h1
  have:((n * TP:Nat):Int)=(n:Int) * (TP:Int):=by simp
  omega
 split
 ·rename_i hfm
  refine gd_mk hfm ?_ (fun y hy=>?_)
  ·rw [catZ_len (fun t=>rowZ_len db TP n _ hrow),prod_eq hfm,prodP_cons,hTP]
   simp
  obtain ⟨t,_,ht⟩:=List.mem_flatMap.1 hy
  exact rowZ_bd (ok_bd okb) TP n _ y ht
 exact gd_err (by decide)
theorem asR_prod (s:List Int) (m:Nat):prodP (asR s m)=prodP s:=by
 unfold asR
 split
 ·rw [prodP_cons,Int.one_mul]
 rfl
theorem gd_cat {sa da sb db:List Int} (oka:okB sa da=true) (okb:okB sb db=true):Gd (catM sa da sb db):=by
 have oxa:=axes_ok oka
 have oxb:=axes_ok okb
 have la:=(ok_len oxa).1
 have lb:=(ok_len oxb).1
 rw [prod_eq (ok_len oxa).2,<- asR_prod _ (axesS sb db).length] at la
 rw [prod_eq (ok_len oxb).2,<- asR_prod _ (axesS sa da).length] at lb
 have pa:=axes_bd oka
 have pb:=axes_bd okb
 obtain ⟨n,t,ea,_⟩:=asR_bd (axesS sa da) (axesS sb db).length pb.1.2 pa
 obtain ⟨m,u,eb,_⟩:=asR_bd (axesS sb db) (axesS sa da).length pa.1.2 pb
 unfold catM catX
 rw [ea] at la ⊢
 rw [eb] at lb ⊢
 rw [prodP_cons] at la lb
 split
 rotate_left 1
 ·exact gd_err (by decide)
 split
 rotate_left 1
 ·exact gd_err (by decide)
 rename_i ht
 simp only [List.tail_cons] at ht
 subst ht
 split
 ·rename_i hf
  simp only [List.getD_cons_zero,List.tail_cons] at hf ⊢
  refine gd_mk hf ?_ (fun x hx=>?_)
  ·rw [prod_eq hf,prodP_cons,List.length_append,Int.add_mul,<- la,<- lb]
   simp
  rcases List.mem_append.1 hx with h | h
  ·exact ok_bd oka x h
  exact ok_bd okb x h
 exact gd_err (by decide)
theorem flat_len' {db:List Int} {s n:Nat} (hl:db.length=n * s):∀xs:List Int,(∀x∈xs,0<=x/\x<n)->(flat db s xs).length=xs.length * s
 |[],_=>by simp [flat]
 |x::xs,h=>by
  have hx:=h x (by simp)
  have e:flat db s (x::xs)=rowAt db s x.toNat++flat db s xs:=by simp [flat]
  have hr:(x.toNat+1) * s<=db.length:=by
   rw [hl]
   exact Nat.mul_le_mul_right s (by omega)
  rw [e,List.length_append,flat_len' hl xs (fun y hy=>h y (by simp [hy])),rowAt_len hr,List.length_cons,Nat.succ_mul,Nat.add_comm]
theorem gd_from {sa da sb db:List Int} (oka:okB sa da=true) (okb:okB sb db=true):Gd (fromM sa da sb db):=by
 unfold fromM
 split
 ·exact gd_err (by decide)
 rename_i h0
 split
 rotate_left 1
 ·exact gd_err (by decide)
 rename_i hf
 split
 rotate_left 1
 ·exact gd_err (by decide)
 rename_i hin
 refine gd_mk hf ?_ (fun x hx=>?_)
 ·have hin':∀x∈da,0<=x/\x<sb.getD 0 0:=fun x hx=>by
   have:=List.all_eq_true.1 hin x hx
   unfold inB at this
   exact of_decide_eq_true this
  rw [prod_app hf,<- (ok_len oka).1]
  cases hd:da with
  |nil=>simp [flat]
  |cons y ys =>
   have hy:=hin' y (by rw [hd]; simp)
   obtain ⟨hft,n,s,e1,e2,_,_,e3⟩:=ok_rows okb h0 (by omega)
   rw [<- hd,e2,Int.toNat_natCast,flat_len' e3 da (fun x hx=>by have:=hin' x hx; omega)]
   simp
 obtain ⟨y,_,hy⟩:=List.mem_flatMap.1 hx
 exact ok_bd okb x (rowAt_mem hy)
theorem gd_resh {sa da sb db:List Int} (okb:okB sb db=true):Gd (reshM sa da sb db):=by
 unfold reshM
 split
 ·exact gd_err (by decide)
 split
 ·exact gd_err (by decide)
 split
 ·exact gd_err (by decide)
 split
 ·exact gd_err (by decide)
 rename_i hf
 split
 ·exact gd_err (by decide)
 have hf':fitsB da=true:=by simpa using hf
 have hb:baseB da=true:=by
  have:=hf'
  simp only [fitsB,Bool.and_eq_true] at this
  exact this.1
 refine gd_mk hf' ?_ (fun x hx=>?_)
 ·have:=prodC_pos hb
  rw [List.length_map,List.length_range]
  omega
 obtain ⟨i,_,rfl⟩:=List.mem_map.1 hx
 exact getD_bd (ok_bd okb) _
theorem gd_dy (op:Int) (sa da sb db:List Int):Gd (dy8 (dyaM op) op sa da sb db):=by
 unfold dy8
 split
 rotate_left 1
 ·exact gd_err (by decide)
 rename_i h
 obtain ⟨_,_,oka,okb⟩:=h
 unfold dyaM
 split
 ·exact gd_resh okb
 split
 ·have:=gd_take 2 (.inl rfl) oka okb
  rw [if_pos rfl] at this
  exact this
 split
 ·have:=gd_take 3 (.inr rfl) oka okb
  rw [if_neg (by decide)] at this
  exact this
 split
 ·exact gd_cat oka okb
 split
 ·exact gd_from oka okb
 split
 ·unfold findM
  split
  ·refine gd_mk (ok_len okb).2 (by rw [List.length_map]; exact (ok_len okb).1) (fun x hx=>?_)
   obtain ⟨v,_,rfl⟩:=List.mem_map.1 hx
   have:=findN_le da v
   have:=(ok_max oka).2
   unfold bd
   omega
  exact gd_err (by decide)
 unfold matchM
 refine gd_mk rfl rfl (fun x hx=>?_)
 rw [List.mem_singleton] at hx
 subst hx
 exact bool_bd _
theorem map_bd {F:Int->Int->Int × Int} (hF:Fb F) {xs ys:List Int} (hx:∀x∈xs,bd x) (hy:∀x∈ys,bd x) (hz:firstG (pairF F) (xs.zip ys)=0):∀v∈(xs.zip ys).map (fun p=>(pairF F p).1),bd v:=fun v hv=>by
 obtain ⟨p,hp,rfl⟩:=List.mem_map.1 hv
 have m:=List.of_mem_zip (show (p.1,p.2)∈_ from hp)
 have b0:=hx _ m.1
 have b1:=hy _ m.2
 exact hF p.1 p.2 b0.1 b0.2 b1.1 b1.2 (firstG_all hz p hp)
theorem fold_bd {F:Int->Int->Int × Int} (hF:Fb F):∀(rows:List (List Int)) (acc:List Int),(∀r∈rows,∀x∈r,bd x)->(∀x∈acc,bd x)->(foldL F rows acc).1=0->∀x∈(foldL F rows acc).2,bd x
 |[],acc,_,ha,_=>ha
 |r::rs,acc,hr,ha,h=>by
  unfold foldL at h ⊢
  split at h
  ·rename_i hz
   rw [if_pos hz]
   exact fold_bd hF rs _ (fun q hq=>hr q (List.mem_cons_of_mem _ hq)) (map_bd hF (hr r List.mem_cons_self) ha hz) h
  rename_i hz
  exact absurd h hz
theorem red_bd {F:Int->Int->Int × Int} (hF:Fb F) {nv:Int} (nb:Bool) (hv:bd nv) (sh D:List Int) (hD:∀x∈D,bd x) (h:(reduceM F nv nb sh D).1=0):∀x∈(reduceM F nv nb sh D).2.2,bd x:=by
 unfold reduceM at h ⊢
 by_cases h0:sh.length=0
 ·rw [if_pos h0]
  exact hD
 rw [if_neg h0] at h ⊢
 by_cases hn:sh.getD 0 0=0
 ·rw [if_pos hn]
  split
  ·intro x hx; cases hx
  split
  ·intro x hx
   rw [List.eq_of_mem_replicate hx]
   exact hv
  intro x hx; cases hx
 rw [if_neg hn] at h ⊢
 by_cases hc:(foldM F D (prodC sh.tail).toNat (sh.getD 0 0).toNat).1=0
 ·rw [if_pos hc]
  unfold foldM at hc ⊢
  refine fold_bd hF _ _ (fun r hr x hx=>hD x (down_in _ x (List.mem_flatten.2 ⟨r,hr,hx⟩))) (fun x hx=>hD x (rowAt_mem hx)) hc
 rw [if_neg hc] at h
 exact absurd h hc
theorem none_bd (k:Nat):bd (noneV k):=by
 unfold noneV bd
 repeat' split
 all_goals omega
theorem innC_bd {F G:Int->Int->Int × Int} (hF:Fb F) (hG:Fb G) {nv:Int} (nb:Bool) (hv:bd nv) (n:Nat) {xs ys:List Int} (hx:∀x∈xs,bd x) (hy:∀x∈ys,bd x) (h:(innC F nv nb G n xs ys).2=0):bd (innC F nv nb G n xs ys).1:=by
 unfold innC at h ⊢
 by_cases hz:firstG (pairF G) (xs.zip ys)=0
 ·rw [if_pos hz] at h ⊢
  exact getD_bd (red_bd hF nb hv _ _ (map_bd hG hx hy hz) h) 0
 rw [if_neg hz] at h
 exact absurd h hz
theorem gd_inn (f g:Int) (sa da sb db:List Int):Gd (innD f g sa da sb db):=by
 unfold innD
 split
 rotate_left 1
 ·exact gd_err (by decide)
 rename_i h
 obtain ⟨hf,hg,oka,okb⟩:=h
 have F:=two_fb hf.1 hf.2
 have G:=two_fb hg.1 hg.2
 unfold innM
 split
 ·exact gd_err (by decide)
 split
 ·exact gd_err (by decide)
 split
 rotate_left 1
 ·exact gd_err (by decide)
 rename_i hfi
 split
 ·rename_i hz
  have hb:baseB (sa.take (sa.length-1)++sb.tail)=true:=by
   have:=hfi
   simp only [fitsB,Bool.and_eq_true] at this
   exact this.1
  refine gd_mk hfi ?_ (fun x hx=>?_)
  ·have:=prodC_pos hb
   rw [List.length_map,List.length_range]
   omega
  obtain ⟨i,hi,rfl⟩:=List.mem_map.1 hx
  have hc:=firstG_all hz i hi
  refine innC_bd F G _ (none_bd _) _ (fun x hx=>ok_bd oka x (rowAt_mem hx)) (fun x hx=>?_) hc
  obtain ⟨m,_,rfl⟩:=List.mem_map.1 hx
  exact getD_bd (ok_bd okb) _
 rename_i hz
 exact gd_err hz
end Pl
theorem lwSame_yes (v0 v1 v2 v3:Value) (c:Int) (S D:List Int) (w:World) (h0:Rd w.heap.size w v0 S) (h1:Rd w.heap.size w v1 D) (h2:Rd w.heap.size w v2 S) (h3:Rd w.heap.size w v3 D) (hg:Pl.Gd (c,S,D)) :
  Calls Tryz.prog 7 #[.agg #[v0,v1],.int .i64 c,.agg #[v2,v3],.int .i64 c] w fun e w'=>e=.returned (.bool true)/\Below w.heap.size w w':=by
 have hl:S.length<=1048576/\D.length<=1048576:=by
  by_cases hc:c=0
  ·have:=Pl.ok_max (hg.1 hc)
   simp only at this
   omega
  have:=hg.2 hc
  simp only at this
  rw [this.1,this.2]
  simp
 have B:Hid (∀o o',Below w.heap.size w ((w.alloc o).alloc o')):=fun o o'=>((Below.refl _ _).alloc (Nat.le_refl _) _).alloc (by simp) _
 have K0:Hid (∀w',Below w.heap.size w w'->Calls Tryz.prog 34 #[.agg #[v0,v1],.agg #[v2,v3]] w' fun e w''=>e=.returned (.bool true)/\Below w'.heap.size w' w''):=fun w' hb=>same_yes v0 v1 v2 v3 S D w' hl.1 hl.2 ((h0.keep hb).up hb.size) ((h1.keep hb).up hb.size) ((h2.keep hb).up hb.size) ((h3.keep hb).up hb.size)
 have K1:Hid (c=0->∀w',Below w.heap.size w w'->Calls Tryz.prog 35 #[.agg #[v0,v1]] w' fun e w''=>e=.returned (.bool true)/\Below w'.heap.size w' w''):=fun hc w' hb=>by
  have:=implOk_any v0 v1 S D w' hl.1 hl.2 ((h0.keep hb).up hb.size) ((h1.keep hb).up hb.size)
  rw [hg.1 hc] at this
  exact this
 obtain ⟨a0,c0,e0⟩:=h0.form
 obtain ⟨a1,c1,e1⟩:=h1.form
 obtain ⟨a2,c2,e2⟩:=h2.form
 obtain ⟨a3,c3,e3⟩:=h3.form
 subst e0 e1 e2 e3
 have t0:(c != c)=false:=by simp
 clear h0 h1 h2 h3 hg hl
 generalize S.length=L0 at *
 generalize D.length=L1 at *
 by_cases hc:c=0
 rotate_left 1
 ·have tc:(c != 0)=true:=by rw [bne_iff_ne]; exact hc
  clear K1 hc
  go_enter Tryz.func7,Tryz.ntmps7
  go_wp2_with fail
  refine (K0.out _ (B.out _ _)).mono ?_
  rintro e w1 ⟨rfl,hb1⟩
  have B1:=hideP ((B.out _ _).trans (hb1.mono (by simp; omega)))
  clear hb1 K0 B
  go_wp2_with fail
  go_ret
  exact ⟨rfl,B1.out⟩
 have K2:=hideP (K1.out hc)
 subst hc
 go_enter Tryz.func7,Tryz.ntmps7
 go_wp2_with fail
 refine (K0.out _ (B.out _ _)).mono ?_
 rintro e w1 ⟨rfl,hb1⟩
 have hs1:=hb1.size
 simp at hs1
 obtain ⟨hc,hf⟩:=bcell hb1
 have q0:w1.cell? ⟨w.heap.size,0,none⟩=some (.slice a0 L0 c0):=by rw [hc w.heap.size 0 (by simp; omega)]; simp [go_sem]
 have q1:w1.cell? ⟨w.heap.size,1,none⟩=some (.slice a1 L1 c1):=by rw [hc w.heap.size 1 (by simp; omega)]; simp [go_sem]
 have B1:=hideP ((B.out _ _).trans (hb1.mono (by simp; omega)))
 clear hb1 hc hf K0 B K1
 go_wp2_with fail
 refine (K2.out _ B1.out).mono ?_
 rintro e w2 ⟨rfl,hb2⟩
 have B2:=hideP (B1.out.trans (hb2.mono B1.out.size))
 clear hb2 K2 q0 q1
 go_wp2_with fail
 go_ret
 exact ⟨rfl,B2.out⟩
def Rz (w:World) (v:Value) (zs:List Int):Prop:=∃a k,v=.slice a zs.length k/\Rd w.heap.size w v zs/\(zs.length=0\/∃g,a=some ⟨g,0,none⟩)
theorem Rz.keep {w w':World} {v:Value} {zs:List Int} (h:Rz w v zs) (hb:Below w.heap.size w w'):Rz w' v zs:=by
 obtain ⟨a,k,e,h3,h4⟩:=h
 exact ⟨a,k,e,(h3.keep hb).up hb.size,h4⟩
theorem Rz.rd {w:World} {v:Value} {zs:List Int} (h:Rz w v zs):Rd w.heap.size w v zs:=by
 obtain ⟨a,k,e,h3,h4⟩:=h
 exact h3
theorem Rz.of {B:Nat} {w:World} {v:Value} {zs:List Int} (h:Own B w v zs):Rz w v zs:=by
 obtain ⟨a,k,e⟩:=h.form
 subst e
 refine ⟨a,k,rfl,h.rd,?_⟩
 by_cases h0:zs.length=0
 ·exact .inl h0
 exact .inr (own_at h (by omega))
theorem Rz.aside {w:World} {v:Value} {zs:List Int} {A j:Nat} {q:Option Addr} {m k:Nat} (h:Rz w v zs) (hA:w.cell? ⟨A,0,none⟩=some (.slice q m k)) (u:Value):Rz (w.setCell ⟨A,j,none⟩ u) v zs:=by
 obtain ⟨a,c,e,h3,h4⟩:=h
 subst e
 refine ⟨a,c,rfl,?_,h4⟩
 by_cases h0:zs.length=0
 ·rw [h0]
  exact rd_zero _ _ _ _ _ h0
 obtain ⟨g,rfl⟩:=h4.resolve_left h0
 have hn:¬g=A:=fun e=>by
  have:=(rd_cell h3 (i:=0) (by omega)).2
  rw [e,Nat.add_zero,hA] at this
  cases this
 have:=h3.aside hn j u
 simpa using this
theorem Sg.aside {w:World} {v:Value} {zs:List Int} {A j:Nat} {q:Option Addr} {m k:Nat} (h:Sg w v zs) (hA:w.cell? ⟨A,0,none⟩=some (.slice q m k)) (u:Value):Sg (w.setCell ⟨A,j,none⟩ u) v zs:=by
 have s:=h.sl.aside (j:=j) hA u
 obtain ⟨g,c,e,h1,h2,_⟩:=h
 exact ⟨g,c,e,h1,h2,s.rd⟩
structure Kv (w:World) (A:Nat) (x0 x1:Value) (wx:World):Prop where
 lo:w.heap.size<=A
 lt:A<wx.heap.size
 c0:wx.cell? ⟨A,0,none⟩=some x0
 c1:wx.cell? ⟨A,1,none⟩=some x1
 fz:∀o,wx.frozen? ⟨A,o,none⟩=false
 fm:∃q m k,x0=.slice q m k
theorem Kv.keep {w wx w':World} {A:Nat} {x0 x1:Value} (h:Kv w A x0 x1 wx) (hb:Below wx.heap.size wx w'):Kv w A x0 x1 w' :=
 ⟨h.lo,Nat.lt_of_lt_of_le h.lt hb.size,(hb.cell (p:=⟨A,0,none⟩) h.lt).trans h.c0,(hb.cell (p:=⟨A,1,none⟩) h.lt).trans h.c1,fun o=>(hb.frozen (p:=⟨A,o,none⟩) h.lt).trans (h.fz o),h.fm⟩
theorem Kv.new {w wx:World} (x0 x1:Value) (hs:w.heap.size<=wx.heap.size) (hf:∃q m k,x0=.slice q m k):Kv w wx.heap.size x0 x1 (wx.alloc (.cells #[x0,x1] 25)) :=
 ⟨hs,by simp,by simp [go_sem],by simp [go_sem],fun o=>by simp [go_sem],hf⟩
theorem Kv.put {w wx:World} {A:Nat} {x0 x1:Value} (h:Kv w A x0 x1 wx) (t0 t1:Value) (hf:∃q m k,t0=.slice q m k):Kv w A t0 t1 ((wx.setCell ⟨A,0,none⟩ t0).setCell ⟨A,1,none⟩ t1):=by
 have h0:=h.c0
 have h1:=h.c1
 have h2:=h.fz
 exact ⟨h.lo,by simpa using h.lt,by simp [go_sem,h0],by simp [go_sem,h1],fun o=>by simp [go_sem,h2],hf⟩
theorem Kv.far {w wx:World} {A X:Nat} {x0 x1:Value} (h:Kv w A x0 x1 wx) (hn:¬A=X) (t0 t1:Value):Kv w A x0 x1 ((wx.setCell ⟨X,0,none⟩ t0).setCell ⟨X,1,none⟩ t1):=by
 have e:∀o,((wx.setCell ⟨X,0,none⟩ t0).setCell ⟨X,1,none⟩ t1).cell? ⟨A,o,none⟩=wx.cell? ⟨A,o,none⟩:=fun o=>by rw [World.cell?_of_block (heap_setCell_other _ _ _ _ hn),World.cell?_of_block (heap_setCell_other _ _ _ _ hn)]
 have h2:=h.fz
 exact ⟨h.lo,by simpa using h.lt,(e 0).trans h.c0,(e 1).trans h.c1,fun o=>by simp [go_sem,h2],h.fm⟩
theorem Kv.below {w wx:World} {A:Nat} {x0 x1:Value} (h:Kv w A x0 x1 wx) (hb:Below w.heap.size w wx) (t0 t1:Value):Below w.heap.size w ((wx.setCell ⟨A,0,none⟩ t0).setCell ⟨A,1,none⟩ t1):=(hb.setCell h.lo _).setCell h.lo _
theorem Kv.sl {w wx:World} {A:Nat} {x0 x1:Value} (h:Kv w A x0 x1 wx) {t0 t1 v:Value} {zs:List Int} (hf:∃q m k,t0=.slice q m k) (s:Sl wx v zs):Sl ((wx.setCell ⟨A,0,none⟩ t0).setCell ⟨A,1,none⟩ t1) v zs:=by
 obtain ⟨q,m,k,e⟩:=h.fm
 obtain ⟨q',m',k',e'⟩:=hf
 have h0:=h.c0
 exact (s.aside (h.c0.trans (by rw [e])) t0).aside (q:=q') (m:=m') (k:=k') (by rw [e']; simp [go_sem,h0]) t1
theorem Kv.sg {w wx:World} {A:Nat} {x0 x1:Value} (h:Kv w A x0 x1 wx) {t0 t1 v:Value} {zs:List Int} (hf:∃q m k,t0=.slice q m k) (s:Sg wx v zs):Sg ((wx.setCell ⟨A,0,none⟩ t0).setCell ⟨A,1,none⟩ t1) v zs:=by
 obtain ⟨q,m,k,e⟩:=h.fm
 obtain ⟨q',m',k',e'⟩:=hf
 have h0:=h.c0
 exact (s.aside (h.c0.trans (by rw [e])) t0).aside (q:=q') (m:=m') (k:=k') (by rw [e']; simp [go_sem,h0]) t1
theorem Kv.rz {w wx:World} {A:Nat} {x0 x1:Value} (h:Kv w A x0 x1 wx) {t0 t1 v:Value} {zs:List Int} (hf:∃q m k,t0=.slice q m k) (s:Rz wx v zs):Rz ((wx.setCell ⟨A,0,none⟩ t0).setCell ⟨A,1,none⟩ t1) v zs:=by
 obtain ⟨q,m,k,e⟩:=h.fm
 obtain ⟨q',m',k',e'⟩:=hf
 have h0:=h.c0
 exact (s.aside (h.c0.trans (by rw [e])) t0).aside (q:=q') (m:=m') (k:=k') (by rw [e']; simp [go_sem,h0]) t1
end Go.Proofs.YtacapaiadggemaaGreat
