import Derived.Test.YtacapaiadggemaaGreatZc
import Derived.Test.YtacapaiadggemaaGreatFaIG
namespace Go.Proofs.YtacapaiadggemaaGreat
open Go.RowKit
set_option maxRecDepth 100000
set_option maxHeartbeats 16000000
set_option linter.unusedVariables false
namespace Pl
def tdC (f x n i j:Int):Prop:=(f=2/\x<0/\i=n+x/\j=n)\/(f=2/\¬x<0/\i=0/\j=x)\/(f=3/\n<=x/\i=0/\j=0)\/(f=3/\¬n<=x/\n<=-x/\i=0/\j=0)\/(f=3/\¬n<=x/\¬n<=-x/\x<0/\i=0/\j=n+x)\/(f=3/\¬n<=x/\¬n<=-x/\¬x<0/\i=x/\j=n)
theorem td_span (f x:Int) (n TP:Nat) (tb db sa da sb:List Int) (hf:f=2\/f=3) (hsa:sa.length=0) (hda:da=[x]) (hax:axesS sb db=(n:Int)::tb) (hTP:prodP tb=TP) (fitn:fitsB ((n:Int)::tb)=true) (x0:-3000000000<=x) (x1:x<=3000000000) (hn:n<=1000) (c:Int) (S D:List Int) (hres:(if f=2 then takeM sa da sb db else dropM sa da sb db)=(c,S,D)) :
  ∃(i:Int) (m:Nat),tdC f x n i (i+(m:Int))/\(-6000000000<=i/\i<=1000/\m<=6000000000)/\(if fitsB ((m:Int)::tb)=true then ((0:Int),(m:Int)::tb,catZ (fun t=>rowZ db TP n (i+(t:Int))) m) else (6,[],[]))=(c,S,D):=by
 rcases hf with rfl | rfl
 ·rw [if_pos rfl] at hres
  unfold takeM at hres
  obtain ⟨W,hW⟩:=Int.eq_ofNat_of_zero_le (show 0<=max x (-x) by omega)
  have hg:0<=gone x n/\gone x n<=n:=by unfold gone; omega
  obtain ⟨go,hgo⟩:=Int.eq_ofNat_of_zero_le hg.1
  rw [if_pos hsa,hax,hda] at hres
  simp only [List.getD_cons_zero,List.tail_cons,hTP,Int.toNat_natCast] at hres
  rw [hgo,hW,Int.toNat_natCast,Int.toNat_natCast] at hres
  by_cases hx:x<0
  ·exact ⟨n+x,W,.inl ⟨rfl,hx,rfl,by omega⟩,by omega,by rw [span_take_neg db TP n W go x _ hx hW hgo rfl]; exact hres⟩
  exact ⟨0,W,.inr (.inl ⟨rfl,hx,rfl,by omega⟩),by omega,by rw [span_take_pos db TP n W go x hx hW hgo]; exact hres⟩
 rw [if_neg (by decide)] at hres
 unfold dropM at hres
 rw [if_pos hsa,hax,hda] at hres
 simp only [List.getD_cons_zero,List.tail_cons,hTP,Int.toNat_natCast] at hres
 have key:∀(i:Int) (a m:Nat),i=a->(m:Int)=n-gone x n->(dropE x n).toNat-(dropF x n).toNat=m->(m=0\/(dropF x n).toNat=a)->a+m<=n->(if fitsB ((m:Int)::tb)=true then ((0:Int),(m:Int)::tb,catZ (fun t=>rowZ db TP n (i+(t:Int))) m) else (6,[],[]))=(c,S,D):=by
  intro i a m hi hm hE hF hle
  rw [if_pos (fits_less fitn (by omega) (by unfold gone at hm; omega)),span_in db TP n i a m hi hle,<- hres,<- Nat.sub_mul,hE,hm]
  rcases hF with rfl | h
  ·simp
  rw [h]
 by_cases h1:(n:Int)<=x
 ·exact ⟨0,0,.inr (.inr (.inl ⟨rfl,h1,rfl,rfl⟩)),by omega,key 0 0 0 rfl (by unfold gone; omega) (by unfold dropE dropF gone; split <;> omega) (.inl rfl) (by omega)⟩
 by_cases h2:(n:Int)<=-x
 ·exact ⟨0,0,.inr (.inr (.inr (.inl ⟨rfl,h1,h2,rfl,rfl⟩))),by omega,key 0 0 0 rfl (by unfold gone; omega) (by unfold dropE dropF gone; split <;> omega) (.inl rfl) (by omega)⟩
 by_cases h3:x<0
 ·obtain ⟨m,hm⟩:=Int.eq_ofNat_of_zero_le (show 0<=n+x by omega)
  exact ⟨0,m,.inr (.inr (.inr (.inr (.inl ⟨rfl,h1,h2,h3,rfl,by omega⟩)))),by omega,key 0 0 m rfl (by unfold gone; omega) (by unfold dropE dropF gone; rw [if_pos h3,if_pos h3]; omega) (.inr (by unfold dropF; rw [if_pos h3]; rfl)) (by omega)⟩
 obtain ⟨m,hm⟩:=Int.eq_ofNat_of_zero_le (show 0<=n-x by omega)
 obtain ⟨a,ha⟩:=Int.eq_ofNat_of_zero_le (show 0<=x by omega)
 exact ⟨x,m,.inr (.inr (.inr (.inr (.inr ⟨rfl,h1,h2,h3,rfl,by omega⟩)))),by omega,key x a m ha (by unfold gone; omega) (by unfold dropE dropF gone; rw [if_neg h3,if_neg h3]; omega) (.inr (by unfold dropF gone; rw [if_neg h3]; omega)) (by omega)⟩
end Pl
theorem l2Take_gen (f:Int) (v0 v1 v2 v3:Value) (sa da sb db:List Int) (w:World) (hf:f=2\/f=3) (h0:Sl w v0 sa) (h1:Sl w v1 da) (h2:Sl w v2 sb) (h3:Sg w v3 db)
  (oka:Pl.okB sa da=true) (okb:Pl.okB sb db=true) (c:Int) (S D:List Int) (hres:(if f=2 then Pl.takeM sa da sb db else Pl.dropM sa da sb db)=(c,S,D)) :
  Calls Tryz.prog 54 #[.int .i64 f,.agg #[v0,v1],.agg #[v2,v3]] w (FPost w c S D):=by
 have Z0:=hideP (Cz.new w sa da sb db v0 v1 v2 v3 h0 h1 h2 h3.sl)
 have H2:=hideP h2
 have H3:=hideP h3
 obtain ⟨a0,k0,e0,_⟩:=id h0
 obtain ⟨a2,k2,e2,_⟩:=id h2
 obtain ⟨b3,k3,e3,_⟩:=id h3
 by_cases hsa:sa.length=0
 rotate_left 1
 ·obtain ⟨a1,k1,e1,_⟩:=id h1
  subst e0 e1 e2 e3
  have e:((2:Int),([]:List Int),([]:List Int))=(c,S,D):=by
   rw [<- hres]
   unfold Pl.takeM Pl.dropM
   rw [if_neg hsa,if_neg hsa,ite_self]
  simp only [Prod.mk.injEq] at e
  obtain ⟨rfl,rfl,rfl⟩:=e
  have test:((sa.length:Int) != 0)=true:=by simp [hsa]
  clear h0 h1 h2 h3 oka okb hres hsa hf H2 H3
  generalize sa.length=la at *
  go_enter Tryz.func54,Tryz.ntmps54
  go_wp2_with fail
  refine bodyPost_ret (v:=.tuple #[.agg #[.slice none 0 0,.slice none 0 0],.int .i64 2]) (by simp [results,Tryz.results54,go_sem]) rfl ⟨Z0.out.bel,_,_,rfl,Own.nil _ _,Own.nil _ _,.inl rfl⟩
 obtain ⟨x,hxd⟩:=List.length_eq_one_iff.1 (Pl.ok_one oka hsa)
 obtain ⟨b1,k1,e1,_⟩:=h1.at (by rw [hxd]; simp)
 have R1:=h1.rd
 subst e0 e1 e2 e3
 have CX:Hid (b1<w.heap.size/\w.cell? ⟨b1,0,none⟩=some (.int .i64 x)):=by
  have:=rd_cell R1 (i:=0) (by rw [hxd]; simp)
  rw [hxd] at this
  exact this
 obtain ⟨n',tb,hax⟩:=Pl.axes_cons sb db
 have okx:=Pl.axes_ok okb
 rw [hax] at okx
 have m2:=Pl.ok_max okx
 have hx2:=Pl.ok_cell oka (show x∈da by rw [hxd]; simp)
 have fitn:=(Pl.ok_len okx).2
 have hb:Pl.baseB (n'::tb)=true:=by
  have:=fitn
  simp only [Pl.fitsB,Bool.and_eq_true] at this
  exact this.1
 have hnr:0<=n'/\n'<=1000:=by
  simp only [Pl.baseB,Bool.and_eq_true,List.all_cons] at hb
  exact Pl.inR_bd hb.2.1
 obtain ⟨n,rfl⟩:=Int.eq_ofNat_of_zero_le hnr.1
 obtain ⟨TP,hTP⟩:=Int.eq_ofNat_of_zero_le (Pl.prod_two tb (Pl.base_tail hb)).1.1
 have hnu:n<=1000:=by omega
 have hxl:-3000000000<=x:=hx2.1
 have hxu:x<=3000000000:=hx2.2
 obtain ⟨i,m,htd,hbd,hsp⟩:=Pl.td_span f x n TP tb db sa da sb hf hsa hxd hax hTP fitn hxl hxu hnu c S D hres
 have KX:Hid (∀w',Below w.heap.size w w'->Calls Tryz.prog 112 #[.agg #[.slice a2 sb.length k2,.slice (some ⟨b3,0,none⟩) db.length k3]] w' fun e w''=>∃g kg g1 kd,e=.returned (.agg #[.slice (some ⟨g,0,none⟩) (tb.length+1) kg,.slice (some ⟨g1,0,none⟩) db.length kd])/\((tb.length+1<=kg/\kg<=9223372036854775807)/\db.length<=kd/\kd<=9223372036854775807)/\Sl w'' (.slice (some ⟨g,0,none⟩) (tb.length+1) kg) ((n:Int)::tb)/\Sl w'' (.slice (some ⟨g1,0,none⟩) db.length kd) db/\Below w'.heap.size w' w''):=fun w' h=>by
  refine (l2Axes_both _ _ sb db w' (by have:=m2.2; omega) (H2.out.keep h) (H3.out.sl.keep h)).mono ?_
  rintro e w'' ⟨u0,u1,rfl,s0,s1,hb',sg⟩
  rw [hax] at s0
  obtain ⟨g,kg,rfl,q1,q2⟩:=s0.at (by simp)
  obtain ⟨g1,kd,rfl,q3,q4,q5⟩:=sg (H3.out.keep h)
  exact ⟨g,kg,g1,kd,rfl,⟨⟨q1,q2⟩,q3,q4⟩,s0,s1,hb'⟩
 have HSP:=hideP hsp
 have OKX:=hideP okx
 have HTP:=hideP hTP
 have HBD:=hideP hbd
 have HTD:=hideP htd
 have test:((sa.length:Int) != 0)=false:=by simp [hsa]
 have hdl:0<da.length:=by rw [hxd]; simp
 have hdl':(0:Int)<(da.length:Int):=by omega
 clear h0 h1 h2 h3 hres hsa hxd hax oka okb R1 hsp okx hTP hbd htd hb hnr hx2 fitn H2 H3 hf m2
 generalize da.length=lda at *
 generalize sa.length=lsa at *
 go_enter Tryz.func54,Tryz.ntmps54
 go_wp2_with fail
 refine (KX.out _ Z0.out.bel).mono ?_
 rintro e' w2 ⟨g,kg,g1,kd,rfl,hk,s0,s1,hb2⟩
 have Z2:=hideP (Z0.out.keep hb2)
 have Z3:=hideP (Z2.out.putB s0 s1)
 have HK:=hideP hk
 have c2:=Z2.out.b0
 have c3:=Z2.out.b1
 have fb:=Z2.out.fb
 have hs2:=Z2.out.size
 clear hb2 s0 s1 hk
 go_upto_region 4 with fail
 clear c2 c3 fb Z0 Z2 KX hs2
 generalize ((w2.setCell ⟨w.heap.size+1,0,none⟩ (.slice (some ⟨g,0,none⟩) (tb.length+1) kg)).setCell ⟨w.heap.size+1,1,none⟩ (.slice (some ⟨g1,0,none⟩) db.length kd))=w3 at *
 have hs3:=Z3.out.size
 have ca:=Z3.out.a1
 have cb:=Z3.out.b0
 have cd:=Z3.out.b1
 have cx:w3.cell? ⟨b1,0,none⟩=some (.int .i64 x):=(Z3.out.bel.cell (p:=⟨b1,0,none⟩) CX.out.1).trans CX.out.2
 have cg:w3.cell? ⟨g,0,none⟩=some (.int .i64 (n:Int)):=(rd_headG Z3.out.xb.rd).2
 have KS:=hideP (l2Span_any g kg g1 kd n tb db i m w3 Z3.out.xb.rd Z3.out.xe.rd HK.out.1.1 HK.out.1.2 HK.out.2.1 HK.out.2.2 HBD.out.1 HBD.out.2.1 HBD.out.2.2 OKX.out TP HTP.out c S D HSP.out)
 have htd:=HTD.out
 clear HSP OKX HTP HBD HTD CX HK
 generalize i+(m:Int)=j at *
 rcases htd with ⟨rfl,hx,rfl,rfl⟩ | ⟨rfl,hx,rfl,rfl⟩ | ⟨rfl,hx,rfl,rfl⟩ | ⟨rfl,hx,hy,rfl,rfl⟩ | ⟨rfl,hx,hy,hz,rfl,rfl⟩ | ⟨rfl,hx,hy,hz,rfl,rfl⟩
 all_goals
  try have hx':=decide_eq_false hx
  try have hy':=decide_eq_false hy
  try have hz':=decide_eq_false hz
  go_wp2_with fail
  refine KS.out.mono ?_
  rintro e w4 ⟨hb4,u0,u1,rfl,res⟩
  have Z4:=hideP (Z3.out.keep hb4)
  have hs4:=hb4.size
  have R4:=hideP res
  obtain ⟨x0',y0,e0⟩:=res.1.form
  obtain ⟨x1',y1,e1⟩:=res.2.1.form
  subst e0 e1
  clear res hb4 ca cb cd cg cx
  have r0:=Z4.out.res.1
  have r1:=Z4.out.res.2.1
  have f2:=Z4.out.res.2.2
  go_wp2_with fail
  refine bodyPost_ret (v:=.tuple #[.agg #[.slice x0' S.length y0,.slice x1' D.length y1],.int .i64 c]) (by simp [results,Tryz.results54,go_sem,r0,r1]) rfl ⟨(Z4.out.bel.setCell (by simp; omega) _).setCell (by simp; omega) _,_,_,rfl,?_,?_,R4.out.2.2⟩
  ·exact Own.base (Own.store (Own.store R4.out.1 (by omega) _) (by omega) _) (by omega)
  exact Own.base (Own.store (Own.store R4.out.2.1 (by omega) _) (by omega) _) (by omega)
theorem ic_allG (pa pb pf pg:Nat) (f g:Int) (a0:Option Addr) (k0:Nat) (a1:Option Addr) (k1:Nat) (a2:Option Addr) (k2:Nat) (a3:Option Addr) (k3:Nat) (sa da sb db:List Int) (w:World) (hl0:sa.length<=1048576) (hl1:da.length<=1048576) (hl2:sb.length<=1048576) (hl3:db.length<=1048576) (h0:Rd w.heap.size w (.slice a0 sa.length k0) sa) (h1:Rd w.heap.size w (.slice a1 da.length k1) da) (h2:Rd w.heap.size w (.slice a2 sb.length k2) sb) (h3:Rd w.heap.size w (.slice a3 db.length k3) db)
  (ca0:w.cell? ⟨pa,0,none⟩=some (.slice a0 sa.length k0)) (ca1:w.cell? ⟨pa,1,none⟩=some (.slice a1 da.length k1)) (cb0:w.cell? ⟨pb,0,none⟩=some (.slice a2 sb.length k2)) (cb1:w.cell? ⟨pb,1,none⟩=some (.slice a3 db.length k3)) (co:w.cell? ⟨pf,0,none⟩=some (.int .i64 f)) (co':w.cell? ⟨pg,0,none⟩=some (.int .i64 g)) (c:Int) (S D:List Int) (hres:Pl.innD f g sa da sb db=(c,S,D))
  (hk:∀kf kg:Nat,f=kf->g=kg->1<=kf->kf<11->1<=kg->kg<11->Pl.okB sa da=true->Pl.okB sb db=true->Pl.innM (Pl.twoM kf) (Pl.noneV kf) (Pl.noneB kf) (Pl.twoM kg) sa da sb db=(c,S,D)->∀w',Below w.heap.size w w'->Calls Tryz.prog 69 #[opV kf,opV kg,.agg #[.slice a0 sa.length k0,.slice a1 da.length k1],.agg #[.slice a2 sb.length k2,.slice a3 db.length k3]] w' (KPost w' c S D)) :
  Calls Tryz.prog 68 #[.pointer (some ⟨pa,0,none⟩),.pointer (some ⟨pb,0,none⟩),.pointer (some ⟨pf,0,none⟩),.pointer (some ⟨pg,0,none⟩)] w (KPost w c S D):=by
 have hpa:=World.block_lt_of_cell? w ⟨pa,0,none⟩ ca0
 have hpb:=World.block_lt_of_cell? w ⟨pb,0,none⟩ cb0
 have hpf:=World.block_lt_of_cell? w ⟨pf,0,none⟩ co
 have hpg:=World.block_lt_of_cell? w ⟨pg,0,none⟩ co'
 simp only at hpa hpb hpf hpg
 have A:Hid (∀o,Below w.heap.size w (w.alloc o)):=fun o=>(Below.refl _ _).alloc (Nat.le_refl _) _
 have K:=hideP (valid2_new _ _ _ _ sa da sb db w hl0 hl1 hl2 hl3 h0 h1 h2 h3)
 have HKK:=hideP hk
 have HR:=hideP hres
 clear h0 h1 h2 h3 hk hres
 generalize sa.length=la at *
 generalize da.length=lda at *
 generalize sb.length=lb at *
 generalize db.length=ldb at *
 have ne:¬pa=w.heap.size:=by omega
 have ne2:¬pb=w.heap.size:=by omega
 go_enter Tryz.func68,Tryz.ntmps68
 go_wp2_with fail
 refine (K.out _ _).mono ?_
 rintro e w1 ⟨hb,⟨hq,rfl⟩ | ⟨hq,rfl⟩⟩
 rotate_left 1
 ·have e:=HR.out
  rw [Pl.innD_no (by intro h; exact hq ⟨h.2.2.1,h.2.2.2⟩)] at e
  simp only [Prod.mk.injEq] at e
  obtain ⟨rfl,rfl,rfl⟩:=e
  exact ⟨rfl,(A.out _).trans (hb.mono (by omega)),.inr ⟨by decide,rfl,rfl,rfl⟩⟩
 have hb':=(A.out (.cells #[.slice none 0 0,.slice none 0 0] 25)).trans (hb.mono (by omega))
 have hs:=hb.size
 simp at hs
 have B1:=hideP hb'.drew
 have HQ:=hideP hq
 have CR:Hid (w1.drew.cell? ⟨w.heap.size,0,none⟩=some (.slice none 0 0)/\w1.drew.cell? ⟨w.heap.size,1,none⟩=some (.slice none 0 0)/\∀o,w1.drew.frozen? ⟨w.heap.size,o,none⟩=false) :=
  ⟨(hb.cell (p:=⟨w.heap.size,0,none⟩) (by show w.heap.size<_; omega)).trans (by simp [go_sem]),(hb.cell (p:=⟨w.heap.size,1,none⟩) (by show w.heap.size<_; omega)).trans (by simp [go_sem]),fun o=>(hb.frozen (p:=⟨w.heap.size,o,none⟩) (by show w.heap.size<_; omega)).trans (by simp [go_sem])⟩
 have L0:∀w',Below w.heap.size w w'->w'.cell? ⟨pf,0,none⟩=some (.int .i64 f):=fun w' h=>(h.cell (p:=⟨pf,0,none⟩) hpf).trans co
 have L0':∀w',Below w.heap.size w w'->w'.cell? ⟨pg,0,none⟩=some (.int .i64 g):=fun w' h=>(h.cell (p:=⟨pg,0,none⟩) hpg).trans co'
 have L1:∀w',Below w.heap.size w w'->w'.cell? ⟨pa,0,none⟩=some (.slice a0 la k0):=fun w' h=>(h.cell (p:=⟨pa,0,none⟩) hpa).trans ca0
 have L2:∀w',Below w.heap.size w w'->w'.cell? ⟨pa,1,none⟩=some (.slice a1 lda k1):=fun w' h=>(h.cell (p:=⟨pa,1,none⟩) hpa).trans ca1
 have L3:∀w',Below w.heap.size w w'->w'.cell? ⟨pb,0,none⟩=some (.slice a2 lb k2):=fun w' h=>(h.cell (p:=⟨pb,0,none⟩) hpb).trans cb0
 have L4:∀w',Below w.heap.size w w'->w'.cell? ⟨pb,1,none⟩=some (.slice a3 ldb k3):=fun w' h=>(h.cell (p:=⟨pb,1,none⟩) hpb).trans cb1
 clear hb hb' ca0 ca1 cb0 cb1 co co' hq K
 go_wp2_with fail
 refine wp_region_held (S:=fun w'=>Below w.heap.size w w') (by kernel_rfl) ?_
 change wpAnyH _ _ _ _ _ _ _ _ (World.drew _)
 refine tz 0 (.int .i64 f) rfl B1.out (fun w' hS=>by have:=L0 w' hS; clear L0 L0' L1 L2 L3 L4 hS; go_simp) ?_
 refine tz 2 (.int .i64 g) rfl B1.out (fun w' hS=>by have:=L0' w' hS; clear L0 L0' L1 L2 L3 L4 hS; go_simp) ?_
 refine tz 4 (.agg #[.slice a0 la k0,.slice a1 lda k1]) rfl B1.out (fun w' hS=>by have:=L1 w' hS; have:=L2 w' hS; clear L0 L0' L1 L2 L3 L4 hS; go_simp) ?_
 refine tz 5 (.agg #[.slice a2 lb k2,.slice a3 ldb k3]) rfl B1.out (fun w' hS=>by have:=L3 w' hS; have:=L4 w' hS; clear L0 L0' L1 L2 L3 L4 hS; go_simp) ?_
 clear L0 L0' L1 L2 L3 L4
 refine ry1 1 rfl (fun K hK=>?_)
 go_simp
 by_cases hf:1<=f/\f<11
 rotate_left 1
 ·have e:=HR.out
  rw [Pl.innD_no (by intro h; exact hf h.1)] at e
  simp only [Prod.mk.injEq] at e
  obtain ⟨rfl,rfl,rfl⟩:=e
  refine (opOf_no f _ (by omega)).mono ?_
  rintro e w2 ⟨rfl,hb2⟩
  exact ⟨rfl,B1.out.trans (hb2.mono (by show _<=w1.heap.size; omega)),.inr ⟨by decide,rfl,rfl,rfl⟩⟩
 obtain ⟨kf,rfl⟩:=Int.eq_ofNat_of_zero_le (show 0<=f by omega)
 have hf0:1<=kf:=by omega
 have hf1:kf<11:=by omega
 refine (opOf_yes kf _ hf0 hf1).mono ?_
 rintro e w2 ⟨rfl,hb2⟩
 have B2:=hideP (B1.out.trans (hb2.mono (by show _<=w1.heap.size; omega)))
 have hs2:w.heap.size+1<=w2.heap.size:=by
  have:=hb2.size
  have e:w1.drew.heap.size=w1.heap.size:=rfl
  omega
 have C2:=hideP (And.intro ((hb2.cell (p:=⟨w.heap.size,0,none⟩) hs).trans CR.out.1) (And.intro ((hb2.cell (p:=⟨w.heap.size,1,none⟩) hs).trans CR.out.2.1) (fun o=>(hb2.frozen (p:=⟨w.heap.size,o,none⟩) hs).trans (CR.out.2.2 o))))
 clear hb2
 refine hK.out _ _ B2.out (fun _=>?_)
 clear hK
 refine ry1 3 rfl (fun K hK=>?_)
 go_simp
 by_cases hg:1<=g/\g<11
 rotate_left 1
 ·have e:=HR.out
  rw [Pl.innD_no (by intro h; exact hg h.2.1)] at e
  simp only [Prod.mk.injEq] at e
  obtain ⟨rfl,rfl,rfl⟩:=e
  refine (opOf_no g _ (by omega)).mono ?_
  rintro e w3 ⟨rfl,hb3⟩
  exact ⟨rfl,B2.out.trans (hb3.mono (by omega)),.inr ⟨by decide,rfl,rfl,rfl⟩⟩
 obtain ⟨kg,rfl⟩:=Int.eq_ofNat_of_zero_le (show 0<=g by omega)
 have hg0:1<=kg:=by omega
 have hg1:kg<11:=by omega
 have e:=HR.out
 rw [Pl.innD_yes ⟨hf,hg,HQ.out.1,HQ.out.2⟩,Int.toNat_natCast] at e
 have HK2:=hideP (HKK.out kf kg rfl rfl hf0 hf1 hg0 hg1 HQ.out.1 HQ.out.2 e)
 clear HKK HR e hf hg
 refine (opOf_yes kg _ hg0 hg1).mono ?_
 rintro e w3 ⟨rfl,hb3⟩
 have B3:=hideP (B2.out.trans (hb3.mono (by omega)))
 have hs3:w.heap.size+1<=w3.heap.size:=by have:=hb3.size; omega
 have C3:=hideP (And.intro ((hb3.cell (p:=⟨w.heap.size,0,none⟩) hs2).trans C2.out.1) (And.intro ((hb3.cell (p:=⟨w.heap.size,1,none⟩) hs2).trans C2.out.2.1) (fun o=>(hb3.frozen (p:=⟨w.heap.size,o,none⟩) hs2).trans (C2.out.2.2 o))))
 clear hb3
 refine hK.out _ _ B3.out (fun _=>?_)
 clear hK
 refine ry1 6 rfl (fun K hK=>?_)
 go_simp
 refine (HK2.out w3 B3.out).mono ?_
 rintro e w4 ⟨hb4,⟨rfl,u0,u1,rfl,hres⟩ | ⟨hc,rfl,rfl,rfl⟩⟩
 rotate_left 1
 ·exact ⟨rfl,B3.out.trans (hb4.mono (by omega)),.inr ⟨hc,rfl,rfl,rfl⟩⟩
 have B4:=hideP (B3.out.trans (hb4.mono (by omega)))
 have R3:=hideP hres
 obtain ⟨q0,q1,f2⟩:=C3.out
 have r0:w4.cell? ⟨w.heap.size,0,none⟩=some (.slice none 0 0):=(hb4.cell (p:=⟨w.heap.size,0,none⟩) (by show w.heap.size<_; omega)).trans q0
 have r1:w4.cell? ⟨w.heap.size,1,none⟩=some (.slice none 0 0):=(hb4.cell (p:=⟨w.heap.size,1,none⟩) (by show w.heap.size<_; omega)).trans q1
 have f3:∀o,w4.frozen? ⟨w.heap.size,o,none⟩=false:=fun o=>(hb4.frozen (p:=⟨w.heap.size,o,none⟩) (by show w.heap.size<_; omega)).trans (f2 o)
 obtain ⟨x0,y0,e0⟩:=hres.1.form
 obtain ⟨x1,y1,e1⟩:=hres.2.1.form
 subst e0 e1
 clear hres hb4 q0 q1 f2
 refine hK.out _ _ B4.out (fun _=>?_)
 clear hK
 refine ry1 7 rfl (fun K hK=>?_)
 go_simp
 refine hK.out _ _ ((B4.out.setCell (by simp) _).setCell (by simp) _) (fun _=>?_)
 clear hK
 refine wpAnyH_done (by kernel_rfl) ?_ _
 go_wp2_with fail
 refine bodyPost_ret (v:=.agg #[.slice x0 S.length y0,.slice x1 D.length y1]) (by simp [results,Tryz.results68,go_sem,r0,r1]) rfl ⟨(B4.out.setCell (by simp) _).setCell (by simp) _,.inl ⟨rfl,_,_,rfl,?_,?_,R3.out.2.2⟩⟩
 ·exact Own.base (Own.store (Own.store R3.out.1 (by omega) _) (by omega) _) (by omega)
 exact Own.base (Own.store (Own.store R3.out.2.1 (by omega) _) (by omega) _) (by omega)
theorem inner_faceG (f g:Int) (a0:Option Addr) (k0:Nat) (a1:Option Addr) (k1:Nat) (a2:Option Addr) (k2:Nat) (a3:Option Addr) (k3:Nat) (sa da sb db:List Int) (w:World) (hl0:sa.length<=1048576) (hl1:da.length<=1048576) (hl2:sb.length<=1048576) (hl3:db.length<=1048576) (h0:Rd w.heap.size w (.slice a0 sa.length k0) sa) (h1:Rd w.heap.size w (.slice a1 da.length k1) da) (h2:Rd w.heap.size w (.slice a2 sb.length k2) sb) (h3:Rd w.heap.size w (.slice a3 db.length k3) db) (hk0:sa.length<=k0) (hk0':k0<=9223372036854775807) (hk1:da.length<=k1) (hk1':k1<=9223372036854775807) (hk2:sb.length<=k2) (hk2':k2<=9223372036854775807) (hk3:db.length<=k3) (hk3':k3<=9223372036854775807)
  (c:Int) (S D:List Int) (hres:Pl.innD f g sa da sb db=(c,S,D)) :
  Calls Tryz.prog 22 #[.int .i64 f,.int .i64 g,.agg #[.slice a0 sa.length k0,.slice a1 da.length k1],.agg #[.slice a2 sb.length k2,.slice a3 db.length k3]] w (FPost w c S D):=by
 have hmf:∀(fn:Fn) (first cap:Array Value) (w:World),(Instr.makeFunc fn first cap).run Tryz.prog w=.ok (.func fn first cap) w:=fun _ _ _ _=>rfl
 have K:Hid (∀pa pb pf pg w',Below w.heap.size w w'->w'.cell? ⟨pa,0,none⟩=some (.slice a0 sa.length k0)->w'.cell? ⟨pa,1,none⟩=some (.slice a1 da.length k1)->w'.cell? ⟨pb,0,none⟩=some (.slice a2 sb.length k2)->w'.cell? ⟨pb,1,none⟩=some (.slice a3 db.length k3)->w'.cell? ⟨pf,0,none⟩=some (.int .i64 f)->w'.cell? ⟨pg,0,none⟩=some (.int .i64 g)->Calls Tryz.prog 68 #[.pointer (some ⟨pa,0,none⟩),.pointer (some ⟨pb,0,none⟩),.pointer (some ⟨pf,0,none⟩),.pointer (some ⟨pg,0,none⟩)] w' (KPost w' c S D)) :=
  fun pa pb pf pg w' hb g0 g1 g2 g3 g4 g5=>ic_allG pa pb pf pg f g a0 k0 a1 k1 a2 k2 a3 k3 sa da sb db w' hl0 hl1 hl2 hl3 ((h0.keep hb).up hb.size) ((h1.keep hb).up hb.size) ((h2.keep hb).up hb.size) ((h3.keep hb).up hb.size) g0 g1 g2 g3 g4 g5 c S D hres
   (fun kf kg hf hg f0 f1 g0 g1 oka okb e w'' hb'=>by
    subst hf hg
    have hb2:=hb.trans (hb'.mono hb.size)
    exact innerI_anyG (88+kf) (88+kg) (Pl.noneV kf) (Pl.noneV kg) (Pl.noneB kf) (Pl.noneB kg) (Pl.twoM kf) (Pl.twoM kg) (callF2 kg g0 g1) (callF2 kf f0 f1) (fun x y w3 z0 z1 z2 z3=>cell2_any kf x y w3 f0 f1 z0 z1 z2 z3) (fun x y z0 z1 z2 z3=>Pl.two_bd kf f0 f1 x y z0 z1 z2 z3) (fun x y w3 z0 z1 z2 z3=>cell2_any kg x y w3 g0 g1 z0 z1 z2 z3) (fun x y z0 z1 z2 z3=>Pl.two_bd kg g0 g1 x y z0 z1 z2 z3) a0 k0 a1 k1 a2 k2 a3 k3 sa da sb db w'' ((h0.keep hb2).up hb2.size) ((h1.keep hb2).up hb2.size) ((h2.keep hb2).up hb2.size) ((h3.keep hb2).up hb2.size) hk0 hk0' hk1 hk1' hk2 hk2' hk3 hk3' oka okb c S D e)
 clear h0 h1 h2 h3 hres hk0 hk0' hk1 hk1' hk2 hk2' hk3 hk3'
 generalize sa.length=la at *
 generalize da.length=lda at *
 generalize sb.length=lb at *
 generalize db.length=ldb at *
 go_enter Tryz.func22,Tryz.ntmps22
 go_wp2_with fail
 refine (answer_any 68 _ c S D _ (callF32 _) ?_).mono ?_
 ·refine K.out (w.heap.size+1+1) (w.heap.size+1+1+1) w.heap.size (w.heap.size+1) _ ?_ ?_ ?_ ?_ ?_ ?_ ?_
  ·exact (((((((Below.refl _ _).alloc (Nat.le_refl _) _).alloc (by simp) _).alloc (by simp; omega) _).alloc (by simp; omega) _).alloc (by simp; omega) _).alloc (by simp; omega) _).alloc (by simp; omega) _
  ·simp [go_sem]
  ·simp [go_sem]
  ·simp [go_sem]
  ·simp [go_sem]
  ·simp [go_sem]
  simp [go_sem]
 rintro e w1 ⟨hb1,u0,u1,rfl,hres⟩
 have B0:Hid (Below w.heap.size w w1):=((((((Below.refl _ _).alloc (Nat.le_refl _) _).alloc (by simp) _).alloc (by simp; omega) _).alloc (by simp; omega) _).alloc (by simp; omega) _).trans (hb1.mono (by simp; omega))
 have hs:=hb1.size
 simp at hs
 obtain ⟨hc,hf⟩:=bcell hb1
 have r0:w1.cell? ⟨w.heap.size+1+1+1+1,0,none⟩=some (.slice none 0 0):=by rw [hc (w.heap.size+1+1+1+1) 0 (by simp)]; simp [go_sem]
 have r1:w1.cell? ⟨w.heap.size+1+1+1+1,1,none⟩=some (.slice none 0 0):=by rw [hc (w.heap.size+1+1+1+1) 1 (by simp)]; simp [go_sem]
 have f3:∀o,w1.frozen? ⟨w.heap.size+1+1+1+1,o,none⟩=false:=fun o=>by rw [hf (w.heap.size+1+1+1+1) o (by simp)]; simp [go_sem]
 have R:Hid (Res (w.heap.size+1+1+1+1+1) w1 u0 u1 S D):=by
  have:=hres
  show Res _ _ _ _ _ _
  simpa using this
 obtain ⟨x0,y0,e0⟩:=hres.1.form
 obtain ⟨x1,y1,e1⟩:=hres.2.1.form
 subst e0 e1
 clear hc hf hb1 hres K
 go_wp2_with fail
 refine bodyPost_ret (v:=.tuple #[.agg #[.slice x0 S.length y0,.slice x1 D.length y1],.int .i64 c]) (by simp [results,Tryz.results22,go_sem,r0,r1]) rfl ⟨(B0.out.setCell (by simp; omega) _).setCell (by simp; omega) _,_,_,rfl,?_,?_,R.out.2.2⟩
 ·exact Own.base (Own.store (Own.store R.out.1 (by omega) _) (by omega) _) (by omega)
 exact Own.base (Own.store (Own.store R.out.2.1 (by omega) _) (by omega) _) (by omega)
end Go.Proofs.YtacapaiadggemaaGreat
