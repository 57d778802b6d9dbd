import Derived.Test.YtacapaiadggemaaGreatFl4
namespace Go.Proofs.YtacapaiadggemaaGreat
open Go.RowKit
set_option maxRecDepth 100000
set_option maxHeartbeats 16000000
set_option linter.unusedVariables false
theorem own_of_rw' {B g off n cap:Nat} {f:Nat->Int} {w:World} {zs:List Int} (h:Rw g off n f w) (hB:B<=g) (hl:zs.length=n) (e:∀i,i<n->zs.getD i 0=f i) (hc:n<=cap/\cap<=9223372036854775807/\off=0):Own B w (.slice (some ⟨g,off,none⟩) n cap) zs:=by
 refine ⟨some ⟨g,off,none⟩,cap,by rw [hl],.inr ⟨g,off,⟨hB,by omega⟩,h.1,rfl,fun i hi=>?_⟩⟩
 rw [hl] at hi
 rw [e i hi]
 exact h.2 i hi
structure FlS (wb:World) (B g3 o3 g4 g5 g7 n N:Nat) (D St P A:Nat->Int) (W:World):Prop where
 r3:Rw g3 o3 n D W
 r4:Rw g4 0 n St W
 r5:Rw g5 0 n P W
 r7:Rw g7 0 N A W
 b:Below B wb W
theorem FlS.set5 {wb W:World} {B g3 o3 g4 g5 g7 n N k:Nat} {D St P A:Nat->Int} (h:FlS wb B g3 o3 g4 g5 g7 n N D St P A W) (hB:B<=g3) (h34:g3<g4) (h45:g4<g5) (h57:g5<g7) (hk:k<n) (x:Int):FlS wb B g3 o3 g4 g5 g7 n N D St (upd P k x) A (W.setCell ⟨g5,k,none⟩ (.int .i64 x)):=by
 have hg:=Gr.set W g5 k (.int .i64 x)
 have h5:=h.r5.set x hk
 rw [Nat.zero_add] at h5
 exact ⟨h.r3.other hg (by omega),h.r4.other hg (by omega),h5,h.r7.other hg (by omega),h.b.setCell (by show B<=g5; omega) _⟩
theorem FlS.set7 {wb W:World} {B g3 o3 g4 g5 g7 n N k:Nat} {D St P A:Nat->Int} (h:FlS wb B g3 o3 g4 g5 g7 n N D St P A W) (hB:B<=g3) (h34:g3<g4) (h45:g4<g5) (h57:g5<g7) (hk:k<N) (x:Int):FlS wb B g3 o3 g4 g5 g7 n N D St P (upd A k x) (W.setCell ⟨g7,k,none⟩ (.int .i64 x)):=by
 have hg:=Gr.set W g7 k (.int .i64 x)
 have h7:=h.r7.set x hk
 rw [Nat.zero_add] at h7
 exact ⟨h.r3.other hg (by omega),h.r4.other hg (by omega),h.r5.other hg (by omega),h7,h.b.setCell (by show B<=g7; omega) _⟩
theorem FlS.drewN {wb W:World} {B g3 o3 g4 g5 g7 n N:Nat} {D St P A:Nat->Int} (q:Nat) (h:FlS wb B g3 o3 g4 g5 g7 n N D St P A W):FlS wb B g3 o3 g4 g5 g7 n N D St P A (W.drewN q):=⟨h.r3,h.r4,h.r5,h.r7,below_drewN h.b q⟩
theorem FlS.place {wb W:World} {B g3 o3 g4 g5 g7 n N:Nat} {D St P P' A:Nat->Int} (h:FlS wb B g3 o3 g4 g5 g7 n N D St P A W) (e:∀t,t<n->P t=P' t):FlS wb B g3 o3 g4 g5 g7 n N D St P' A W:=⟨h.r3,h.r4,h.r5.congr e,h.r7,h.b⟩
theorem flip_core (b0 o0 c0:Nat) (a1:Option Addr) (c1:Nat) (sh da:List Int) (w:World) (h0:Rd w.heap.size w (.slice (some ⟨b0,o0,none⟩) sh.length c0) sh) (h1:Rd w.heap.size w (.slice a1 da.length c1) da) (hc0:sh.length<=c0) (hc0':c0<=9223372036854775807) (hok:Pl.okB sh da=true) (hr:0<sh.length) (S Dd:List Int) (hS:sh.reverse=S) (hDd:((List.range da.length).map fun i=>da.getD (Pl.ev (Pl.shN sh) (Pl.plR (Pl.shN sh) i)) 0)=Dd) :
  Calls Tryz.prog 109 #[.agg #[.slice (some ⟨b0,o0,none⟩) sh.length c0,.slice a1 da.length c1]] w (KPost w 0 S Dd):=by
 obtain ⟨hm0,hm1⟩:=Pl.ok_max hok
 obtain ⟨hlen,hfit⟩:=Pl.ok_len hok
 have hbs:Pl.baseB sh=true:=by simp only [Pl.fitsB,Bool.and_eq_true] at hfit; exact hfit.1
 have hnn:=Pl.base_nonneg hbs
 have HPN:Hid (Pl.prdN (Pl.shN sh)=da.length):=by
  have e1:=Pl.prdN_eq sh (fun x hx=>(hnn x hx).1)
  rw [<- Pl.prod_eq hfit,<- hlen] at e1
  exact_mod_cast e1
 have H0:=hideP h0
 have HNN:=hideP hnn
 obtain ⟨wb,hwb⟩:∃wb,wb=(w.alloc (.cells #[.slice (some ⟨b0,o0,none⟩) sh.length c0,.slice a1 da.length c1] 25)).alloc (.cells #[.slice none 0 0,.slice none 0 0] 25):=⟨_,rfl⟩
 have WS:wb.heap.size=w.heap.size+1+1:=by rw [hwb]; simp
 have PB:Hid (∀W,Below wb.heap.size wb W->(W.cell? ⟨w.heap.size,0,none⟩=some (.slice (some ⟨b0,o0,none⟩) sh.length c0)/\W.cell? ⟨w.heap.size,1,none⟩=some (.slice a1 da.length c1))/\(W.cell? ⟨w.heap.size+1,0,none⟩=some (.slice none 0 0)/\W.cell? ⟨w.heap.size+1,1,none⟩=some (.slice none 0 0)/\∀o,W.frozen? ⟨w.heap.size+1,o,none⟩=false)/\Below w.heap.size w W):=fun W hb=>by
  subst hwb
  exact boxes2 (hb.mono (by simp))
 obtain ⟨b1,o1,ha1⟩:∃b1 o1:Nat,0<da.length->a1=some ⟨b1,o1,none⟩:=by
  by_cases hd:0<da.length
  ·obtain ⟨b1,o1,e⟩:=rd_some h1 hd
   exact ⟨b1,o1,fun _=>e⟩
  exact ⟨0,0,fun h=>absurd h hd⟩
 have HA1:=hideP ha1
 have HC:Hid (∀i,i<da.length->b1<w.heap.size/\w.cell? ⟨b1,o1+i,none⟩=some (.int .i64 (da.getD i 0))):=fun i hi=>rd_cell (by have:=h1; rw [ha1 (by omega)] at this; exact this) (i:=i) hi
 clear ha1
 have KJ:Hid (∀b W,Below wb.heap.size wb W->b<W.heap.size->W.cell? ⟨b,0,none⟩=some (.slice (some ⟨b0,o0,none⟩) sh.length c0)->Calls Tryz.prog 74 #[.slice (some ⟨b,0,none⟩) 1 1] W fun e w'=>∃g off cap,e=.returned (.slice (some ⟨g,off,none⟩) sh.length cap)/\(W.heap.size<=g/\sh.length<=cap/\cap<=9223372036854775807/\off=0)/\Rw g off sh.length (fun t=>sh.getD t 0) w'/\Below W.heap.size W w'):=fun b W hb hlt hcc=>by
  have k:=(PB.out W hb).2.2
  refine (joined1_own b _ sh W (by omega) hlt hcc ((H0.out.keep k).up k.size)).mono ?_
  rintro e w' ⟨ao,cap,rfl,⟨ao',cap',e',ho⟩,hb'⟩
  injection e' with e1 _ e3
  subst e1 e3
  rcases ho with ho | ⟨g,off,hg1,hg2,rfl,hcell⟩
  ·omega
  exact ⟨g,off,cap,rfl,hg1,⟨hg2,hcell⟩,hb'⟩
 have KS:Hid (∀W,Below wb.heap.size wb W->Calls Tryz.prog 137 #[.slice (some ⟨b0,o0,none⟩) sh.length c0] W fun e w'=>e=.returned (.slice (some ⟨W.heap.size,0,none⟩) sh.length sh.length)/\Rw W.heap.size 0 sh.length (fun t=>Pl.prodP (sh.drop (sh.length-t))) w'/\Below W.heap.size W w'):=fun W hb=>by
  have k:=(PB.out W hb).2.2
  exact strides_any b0 o0 c0 sh W hr hm0 hbs hc0 hc0' ((H0.out.keep k).up k.size)
 obtain ⟨i0,hi,hz0,hz1,hz2⟩:=info_parts Tryz.info3
 have HI:=hideP (And.intro hi (And.intro hz0 (And.intro hz1 hz2)))
 have HSS:=hideP hS
 have HDD:=hideP hDd
 clear hi hz0 hz1 hz2 h0 h1 hok hlen hfit hbs hnn H0 hS hDd
 obtain ⟨ds,hds⟩:∃ds,Pl.shN sh=ds:=⟨_,rfl⟩
 have HDS:=hideP hds
 rw [hds] at HPN HDD
 have HDL:Hid (ds.length=sh.length):=by show _=_; rw [<- hds]; unfold Pl.shN; simp
 clear hds
 obtain ⟨n,hn⟩:∃n,sh.length=n:=⟨_,rfl⟩
 obtain ⟨N,hN⟩:∃N,da.length=N:=⟨_,rfl⟩
 have Hn:=hideP hn
 have HN:=hideP hN
 rw [hn] at hm0 hr hc0 PB KJ KS HDL
 rw [hN] at hm1 HPN PB HC HDD
 rw [hn,hN] at hwb ⊢
 clear hn hN
 have B0:Hid (Below wb.heap.size wb (wb.alloc (.cells #[.slice (some ⟨b0,o0,none⟩) n c0] 23))):=(Below.refl _ _).alloc (Nat.le_refl _) _
 have KJ':=hideP (KJ.out wb.heap.size (wb.alloc (.cells #[.slice (some ⟨b0,o0,none⟩) n c0] 23)) B0.out (lit_cell wb _ 23).1 (lit_cell wb _ 23).2)
 go_enter Tryz.func109,Tryz.ntmps109
 go_wp2_with fail
 go_step3
 go_wp2_with fail
 rw [<- hwb,<- WS]
 refine KJ'.out.mono ?_
 rintro e w3 ⟨g3,o3,cap3,rfl,hg3,hr3,hb3⟩
 have B3:=hideP (B0.out.trans (hb3.mono (by simp)))
 have HC3:=hideP hg3.2
 replace hg3:=hg3.1
 have hg3':wb.heap.size+1<=g3:=by simpa using hg3
 have KR:=hideP (reverse_any g3 o3 cap3 n _ w3 hr3 (by omega) hr)
 clear hr3 hb3 hg3 KJ KJ' B0
 go_wp2_with fail
 refine KR.out.mono ?_
 rintro e w4 ⟨rfl,hr4,hgr4⟩
 have B4:=hideP (hgr4.keep B3.out (show wb.heap.size<=g3 by omega) B3.out.size)
 have R34:=hideP hr4
 have K5:=hideP (KS.out w4 B4.out)
 have c00:=(PB.out _ B4.out).1.1
 clear hr4 hgr4 KR B3
 go_wp2_with fail
 refine K5.out.mono ?_
 rintro e w5 ⟨rfl,hr5,hb5⟩
 have B5:=hideP (B4.out.trans (hb5.mono B4.out.size))
 have R35:=hideP (R34.out.keep hb5)
 have R45:=hideP hr5
 have h34:g3<w4.heap.size:=R34.out.1
 obtain ⟨g4,hg4⟩:∃g4,w4.heap.size=g4:=⟨_,rfl⟩
 rw [hg4] at R45 h34 ⊢
 clear hr5 hb5 K5 R34 c00 hg4 B4
 go_wp2_with (at_make; refine wpList_make_full _ rfl _ _ 23 rfl w5.heap.size 3 i0 (.int .i64 0) 1 Tryz.underlying23 HI.out.1 HI.out.2.1 HI.out.2.2.1 _ _ _ _ n rfl rfl rfl rfl ?b2 ?b3 ?b4 ?_)
 case b2=>rw [HI.out.2.2.2]; omega
 case b3=>unfold maxLen; omega
 case b4=>exact Nat.le_refl _
 intro w6 hown hgrow
 rw [made_zeros] at hown
 have BG6:Hid (Below w5.heap.size w5 w6):=(Below.refl _ _).grown hgrow (Nat.le_refl _) (by intro k h; cases h)
 have B6:=hideP (B5.out.trans (BG6.out.mono B5.out.size))
 have R36:=hideP (R35.out.keep BG6.out)
 have R46:=hideP (R45.out.keep BG6.out)
 have R56:Hid (Rw w5.heap.size 0 n (fun _=>0) w6):=by
  have h1:w6.ownsRow w5.heap.size 3 1 (.slice (some ⟨w5.heap.size,0,none⟩) n n) n ((List.replicate n (0:Int)).map (Value.int .i64)):=by simpa using hown
  refine (rw_of_own h1 (by simp)).congr fun t ht=>?_
  simp [List.getD,ht]
 have h45:g4<w5.heap.size:=R45.out.1
 obtain ⟨g5,hg5⟩:∃g5,w5.heap.size=g5:=⟨_,rfl⟩
 rw [hg5] at R56 h45 ⊢
 have c01:=(PB.out _ B6.out).1.2
 clear hown hgrow BG6 R35 R45 B5 hg5
 go_wp2_with (at_make; refine wpList_make_full _ rfl _ _ 23 rfl w6.heap.size 3 i0 (.int .i64 0) 1 Tryz.underlying23 HI.out.1 HI.out.2.1 HI.out.2.2.1 _ _ _ _ N rfl rfl rfl rfl ?e2 ?e3 ?e4 ?_)
 case e2=>rw [HI.out.2.2.2]; omega
 case e3=>unfold maxLen; omega
 case e4=>exact Nat.le_refl _
 intro w7 hown hgrow
 rw [made_zeros] at hown
 have BG7:Hid (Below w6.heap.size w6 w7):=(Below.refl _ _).grown hgrow (Nat.le_refl _) (by intro k h; cases h)
 have R77:Hid (Rw w6.heap.size 0 N (fun _=>0) w7):=by
  have h1:w7.ownsRow w6.heap.size 3 1 (.slice (some ⟨w6.heap.size,0,none⟩) N N) N ((List.replicate N (0:Int)).map (Value.int .i64)):=by simpa using hown
  refine (rw_of_own h1 (by simp)).congr fun t ht=>?_
  simp [List.getD,ht]
 have h57:g5<w6.heap.size:=R56.out.1
 obtain ⟨g7,hg7⟩:∃g7,w6.heap.size=g7:=⟨_,rfl⟩
 have F7:Hid (FlS wb wb.heap.size g3 o3 g4 g5 g7 n N (fun t=>sh.getD (n-1-t) 0) (fun t=>Pl.prodP (sh.drop (n-t))) (Pl.Pz (Pl.plR ds 0) n 0) (Pl.dt da (fun i=>Pl.ev ds (Pl.plR ds i)) 0) w7):=by
  rw [hg7] at R77
  refine ⟨R36.out.keep BG7.out,R46.out.keep BG7.out,(R56.out.keep BG7.out).congr fun t ht=>?_,R77.out.congr fun t _=>?_,B6.out.trans (BG7.out.mono B6.out.size)⟩
  ·unfold Pl.Pz
   rw [if_neg (by omega),Pl.plR_zero,List.getD,List.getElem?_replicate]
   split <;> rfl
  unfold Pl.dt
  rw [if_neg (by omega)]
 rw [hg7] at h57 ⊢
 clear hown hgrow BG7 R36 R46 R56 R77 B6 hg7 c01
 have ev0:Hid (Pl.ev ds (Pl.plR ds 0)=0):=by
  show _=_
  rw [Pl.plR_zero]
  have:∀l:List Nat,Pl.ev l (List.replicate l.length 0)=0:=fun l=>by
   induction l with
   |nil=>rfl
   |cons d l ih=>show 0 * Pl.prdN l+Pl.ev l (List.replicate l.length 0)=0; rw [ih]; omega
  exact this ds
 go_wp2_with fail
 go_step3
 go_wp2_with fail
 go_loopg [6,8,9,28] N (fun g vs _ _ vi wr=>∃i:Nat,i+g=N/\vi=.int .i64 (i:Int)/\vs=.int .i64 ((Pl.ev ds (Pl.plR ds i):Nat):Int)/\Hid (FlS wb wb.heap.size g3 o3 g4 g5 g7 n N (fun t=>sh.getD (n-1-t) 0) (fun t=>Pl.prodP (sh.drop (n-t))) (Pl.Pz (Pl.plR ds i) n 0) (Pl.dt da (fun i=>Pl.ev ds (Pl.plR ds i)) i) wr))
 case atStart=>exact ⟨0,by omega,rfl,by rw [ev0.out]; rfl,F7⟩
 clear F7 ev0
 obtain ⟨i,hig,rfl,rfl,FS⟩:=hrel
 cases gk with
 |zero =>
  have iN:i=N:=by omega
  have kz:¬((i:Int)<(N:Int)):=by omega
  have ZR:=hideP (PB.out wr FS.out.b)
  have OS:Hid (Own wb.heap.size wr (.slice (some ⟨g3,o3,none⟩) n cap3) S):=by
   refine own_of_rw' FS.out.r3 (by omega) (by rw [<- HSS.out,List.length_reverse]; exact Hn.out) (fun t ht=>?_) HC3.out
   rw [<- HSS.out,List.getD,List.getD,List.getElem?_reverse (by rw [Hn.out]; exact ht),Hn.out]
  have OD:Hid (Own wb.heap.size wr (.slice (some ⟨g7,0,none⟩) N N) Dd):=by
   refine own_of_rw' FS.out.r7 (by omega) (by rw [<- HDD.out]; simp) (fun t ht=>?_) ⟨Nat.le_refl _,by omega,rfl⟩
   unfold Pl.dt
   rw [<- HDD.out,if_pos (by omega),List.getD,List.getElem?_map,List.getElem?_range ht]
   rfl
  have AP:Hid (Apart (.slice (some ⟨g3,o3,none⟩) n cap3) (.slice (some ⟨g7,0,none⟩) N N) S Dd):=.inr (.inr fun b e1 e2=>by simp [Value.ownBlock] at e1 e2; omega)
  have hsz:wb.heap.size<=wr.heap.size:=FS.out.b.size
  have r0:=ZR.out.2.1.1
  have r1:=ZR.out.2.1.2.1
  have f2:=ZR.out.2.1.2.2
  clear iN FS
  go_wp2_with fail
  try rw [Exit.noGoto_ret]
  refine bodyPost_ret (v:=.agg #[.slice (some ⟨g3,o3,none⟩) n cap3,.slice (some ⟨g7,0,none⟩) N N]) (by simp [results,Tryz.results109,go_sem,r0,r1]) rfl ⟨(ZR.out.2.2.setCell (by simp) _).setCell (by simp) _,.inl ⟨rfl,_,_,rfl,?_,?_,AP.out⟩⟩
  ·exact Own.base (Own.store (Own.store OS.out (by omega) _) (by omega) _) (by omega)
  exact Own.base (Own.store (Own.store OD.out (by omega) _) (by omega) _) (by omega)
 |succ gg =>
  have hlt':(i:Int)<(N:Int):=by omega
  have ZR:=hideP (PB.out wr FS.out.b)
  have HDP:Hid (∀d∈ds,0<d):=Pl.prd_zero (by rw [HPN.out]; omega)
  obtain ⟨q,hq⟩:∃q,Pl.plR ds i=q:=⟨_,rfl⟩
  have HQL:Hid (q.length=n):=by show _=_; rw [<- hq,Pl.plR_len]; exact HDL.out
  have HQT:Hid (∀t,t<n->q.getD t 0<ds.getD t 0):=fun t ht=>by rw [<- hq]; exact Pl.plR_lt ds HDP.out i t (by rw [HDL.out]; exact ht)
  have HINC:Hid (Pl.incR ds q=Pl.plR ds (i+1)):=by show _=_; rw [<- hq]; exact Pl.inc_plR ds HDP.out i
  have hsN:Pl.ev ds q<N:=by rw [<- HPN.out]; exact Pl.ev_lt ds HDP.out q (by rw [HQL.out,HDL.out]) (fun t ht=>HQT.out t (by rw [<- HDL.out]; exact ht))
  have HST:=hideP (Pl.dt_step da (fun i=>Pl.ev ds (Pl.plR ds i)) i)
  rw [hq] at FS HST ⊢
  clear hq
  obtain ⟨s,hs⟩:∃s,Pl.ev ds q=s:=⟨_,rfl⟩
  have HSE:=hideP hs
  rw [hs] at hsN HST ⊢
  clear hs
  have cd:wr.cell? ⟨b1,o1+s,none⟩=some (.int .i64 (da.getD s 0)):=(ZR.out.2.2.cell (p:=⟨b1,o1+s,none⟩) (HC.out s hsN).1).trans (HC.out s hsN).2
  have c01:=ZR.out.1.2
  rw [HA1.out (by rw [HN.out]; omega)] at c01
  have c7:∃x7,wr.cell? ⟨g7,i,none⟩=some (.int .i64 x7):=⟨_,by have:=(FS.out.r7.2 i (by omega)).1; rw [Nat.zero_add] at this; exact this⟩
  obtain ⟨x7,c7⟩:=c7
  have f7:wr.frozen? ⟨g7,i,none⟩=false:=by have:=(FS.out.r7.2 i (by omega)).2; rw [Nat.zero_add] at this; exact this
  have FK:Hid (FlS wb wb.heap.size g3 o3 g4 g5 g7 n N (fun t=>sh.getD (n-1-t) 0) (fun t=>Pl.prodP (sh.drop (n-t))) (Pl.Pz q n 0) (Pl.dt da (fun i=>Pl.ev ds (Pl.plR ds i)) (i+1)) (wr.setCell ⟨g7,i,none⟩ (.int .i64 (da.getD s 0)))):=by
   rw [<- HST.out]
   exact FS.out.set7 (by omega) h34 h45 h57 (by omega) _
  have hsi:(s:Int)<(N:Int):=by omega
  clear FS HST ZR
  generalize da.getD s 0=xs at *
  go_wp2_with fail
  generalize (wr.setCell ⟨g7,i,none⟩ (.int .i64 xs))=wk at *
  clear cd c01 c7 f7 hsi
  go_loopg [6,9] n (fun gi vs vc w2=>∃(j e:Nat),j+gi=n/\vc=.int .i64 ((n:Int)-1-(j:Int))/\vs=.int .i64 (e:Int)/\Hid (Pl.ev (ds.drop j) (q.drop j)=e)/\e<=N/\Hid (∀t,t<j->¬q.getD t 0+1<ds.getD t 0)/\Hid (FlS wb wb.heap.size g3 o3 g4 g5 g7 n N (fun t=>sh.getD (n-1-t) 0) (fun t=>Pl.prodP (sh.drop (n-t))) (Pl.Pz q n j) (Pl.dt da (fun i=>Pl.ev ds (Pl.plR ds i)) (i+1)) w2))
  case atStart=>exact ⟨0,s,by omega,by go_num,rfl,HSE,by omega,fun t ht=>by omega,FK⟩
  clear FK
  obtain ⟨j,e,hjg,rfl,rfl,HE,heN,HW,FS⟩:=hrel
  cases gk with
  |zero =>
   have jn:j=n:=by omega
   have jz:¬((0:Int)<=(n:Int)-1-(j:Int)):=by omega
   have e0:e=0:=by
    rw [<- HE.out,List.drop_eq_nil_of_le (by rw [HDL.out]; omega)]
    rfl
   have HV:Hid (Pl.ev ds (Pl.plR ds (i+1))=0):=by
    show _=_
    rw [<- HINC.out]
    exact Pl.ev_inc_all ds q (by rw [HQL.out,HDL.out]) (fun t ht=>HW.out t (by rw [HDL.out] at ht; omega))
   have FE:Hid (FlS wb wb.heap.size g3 o3 g4 g5 g7 n N (fun t=>sh.getD (n-1-t) 0) (fun t=>Pl.prodP (sh.drop (n-t))) (Pl.Pz (Pl.plR ds (i+1)) n 0) (Pl.dt da (fun i=>Pl.ev ds (Pl.plR ds i)) (i+1)) wr):=FS.out.place fun t ht=>by
    unfold Pl.Pz
    rw [if_pos (by omega),if_neg (by omega),<- HINC.out,Pl.incR_all ds q (by rw [HQL.out,HDL.out]) (fun t ht=>HW.out t (by rw [HDL.out] at ht; omega))]
    rfl
   subst e0
   clear FS jn HE
   go_wp2_with fail
   go_roundg gg
   case rel=>exact ⟨i+1,by omega,by go_num,by rw [HV.out]; rfl,FE⟩
   omega
  |succ gi =>
   have hjn:j<n:=by omega
   have jz:(0:Int)<=(n:Int)-1-(j:Int):=by omega
   obtain ⟨t0,ht0⟩:∃t0,n-1-j=t0:=⟨_,rfl⟩
   have htj:n-1-t0=j:=by omega
   have htn:t0<n:=by omega
   have htc:(n:Int)-1-(j:Int)=(t0:Int):=by omega
   have htc':(t0:Int)<(n:Int):=by omega
   obtain ⟨qj,hqj⟩:∃qj,q.getD j 0=qj:=⟨_,rfl⟩
   obtain ⟨st,hst⟩:∃st,Pl.prdN (ds.drop (j+1))=st:=⟨_,rfl⟩
   obtain ⟨dj,hdj⟩:∃dj,ds.getD j 0=dj:=⟨_,rfl⟩
   have hqd:qj<dj:=by rw [<- hqj,<- hdj]; exact HQT.out j hjn
   have hstN:st<=N:=by rw [<- hst,<- HPN.out]; exact Pl.prdN_le HDP.out _
   have hdj1:dj<=1000:=by
    have h1:=Pl.shN_getD sh (fun x hx=>(HNN.out x hx).1) j
    rw [HDS.out,hdj] at h1
    have h2:sh.getD j 0∈sh:=by
     rw [List.getD,List.getElem?_eq_getElem (by rw [Hn.out]; exact hjn)]
     exact List.getElem_mem _
    have:=(HNN.out _ h2).2
    omega
   obtain ⟨e',he'⟩:∃e',Pl.ev (ds.drop (j+1)) (q.drop (j+1))=e':=⟨_,rfl⟩
   have HEE:Hid (e=qj * st+e'):=by
    show _=_
    rw [<- HE.out,Pl.ev_at (by rw [HDL.out]; exact hjn) (by rw [HQL.out,HDL.out]),hqj,hst,he']
   have hen':e'<=N:=by
    have h1:=HEE.out
    have h2:=Nat.le_add_left e' (qj * st)
    omega
   have c5:wr.cell? ⟨g5,t0,none⟩=some (.int .i64 (qj:Int)):=by
    have:=(FS.out.r5.2 t0 htn).1
    rw [Nat.zero_add] at this
    rw [this]
    unfold Pl.Pz
    rw [if_neg (by omega),htj,hqj]
   have f5:wr.frozen? ⟨g5,t0,none⟩=false:=by have:=(FS.out.r5.2 t0 htn).2; rw [Nat.zero_add] at this; exact this
   have c4:wr.cell? ⟨g4,t0,none⟩=some (.int .i64 (st:Int)):=by
    have:=(FS.out.r4.2 t0 htn).1
    rw [Nat.zero_add] at this
    rw [this]
    show some (Value.int .i64 (Pl.prodP (sh.drop (n-t0))))=_
    rw [show n-t0=j+1 by omega,<- Pl.prdN_eq _ (fun x hx=>(HNN.out x (List.mem_of_mem_drop hx)).1),<- Pl.shN_drop,HDS.out,hst]
   have c3:wr.cell? ⟨g3,o3+t0,none⟩=some (.int .i64 (dj:Int)):=by
    rw [(FS.out.r3.2 t0 htn).1]
    show some (Value.int .i64 (sh.getD (n-1-t0) 0))=_
    rw [htj,<- Pl.shN_getD sh (fun x hx=>(HNN.out x hx).1) j,HDS.out,hdj]
   have n45:¬g4=g5:=by omega
   have n35:¬g3=g5:=by omega
   have n54:¬g5=g4:=by omega
   have n53:¬g5=g3:=by omega
   have S1:Hid (FlS wb wb.heap.size g3 o3 g4 g5 g7 n N (fun t=>sh.getD (n-1-t) 0) (fun t=>Pl.prodP (sh.drop (n-t))) (upd (Pl.Pz q n j) t0 ((qj:Int)+1)) (Pl.dt da (fun i=>Pl.ev ds (Pl.plR ds i)) (i+1)) (wr.setCell ⟨g5,t0,none⟩ (.int .i64 ((qj:Int)+1)))):=FS.out.set5 (by omega) h34 h45 h57 htn _
   by_cases hc:qj+1<dj
   ·have hc':(qj:Int)+1<(dj:Int):=by omega
    have hcd:decide ((qj:Int)+1<(dj:Int))=true:=decide_eq_true hc'
    have HV:Hid (Pl.ev ds (Pl.plR ds (i+1))=e+st):=by
     show _=_
     rw [<- HINC.out,Pl.ev_inc_at ds j q (by rw [HQL.out,HDL.out]) (by rw [HDL.out]; exact hjn) HW.out (by rw [hqj,hdj]; exact hc),hqj,hst,he',HEE.out,Nat.succ_mul]
     omega
    have FE:Hid (∀qq,FlS wb wb.heap.size g3 o3 g4 g5 g7 n N (fun t=>sh.getD (n-1-t) 0) (fun t=>Pl.prodP (sh.drop (n-t))) (Pl.Pz (Pl.plR ds (i+1)) n 0) (Pl.dt da (fun i=>Pl.ev ds (Pl.plR ds i)) (i+1)) ((wr.setCell ⟨g5,t0,none⟩ (.int .i64 ((qj:Int)+1))).drewN qq)):=fun qq=>(S1.out.place fun t ht=>by
     have hin:=Pl.incR_at ds j q (by rw [HQL.out,HDL.out]) (by rw [HDL.out]; exact hjn) HW.out (by rw [hqj,hdj]; exact hc) (n-1-t)
     rw [HINC.out] at hin
     unfold upd Pl.Pz
     rw [if_neg (show ¬n-0<=t by omega),hin,hqj]
     by_cases h1:t=t0
     ·rw [if_pos h1,if_neg (by omega),if_pos (by omega)]
      rfl
     rw [if_neg h1]
     by_cases h2:n-j<=t
     ·rw [if_pos h2,if_pos (by omega)]; rfl
     rw [if_neg h2,if_neg (by omega),if_neg (by omega)]).drewN qq
    clear S1 FS hqj hst hdj he' ht0 htj HE
    go_wp2_with fail
    go_quiet (fail)
    go_wp2_with fail
    go_roundg gg
    case rel=>exact ⟨i+1,by omega,by go_num,by rw [HV.out]; go_num,FE.out _⟩
    omega
   have hc':¬(qj:Int)+1<(dj:Int):=by omega
   have hcd:decide ((qj:Int)+1<(dj:Int))=false:=decide_eq_false hc'
   have hdq:dj=qj+1:=by omega
   obtain ⟨mm,hmm⟩:∃mm:Nat,st * dj=mm:=⟨_,rfl⟩
   have hmm':(st:Int) * (dj:Int)=(mm:Int):=by rw [<- hmm]; exact (Int.natCast_mul st dj).symm
   have hem:e+st=mm+e':=by
    rw [<- hmm,hdq,HEE.out,Nat.mul_add,Nat.mul_one,Nat.mul_comm st qj]
    omega
   have hmb:mm<=1000000:=by
    rw [<- hmm]
    exact Nat.le_trans (Nat.mul_le_mul hstN hdj1) (by omega)
   have HW':Hid (∀t,t<j+1->¬q.getD t 0+1<ds.getD t 0):=fun t ht=>by
    by_cases h1:t=j
    ·rw [h1,hqj,hdj]; exact hc
    exact HW.out t (by omega)
   have HE':=hideP he'
   have S2:Hid (∀qq,FlS wb wb.heap.size g3 o3 g4 g5 g7 n N (fun t=>sh.getD (n-1-t) 0) (fun t=>Pl.prodP (sh.drop (n-t))) (Pl.Pz q n (j+1)) (Pl.dt da (fun i=>Pl.ev ds (Pl.plR ds i)) (i+1)) (((wr.setCell ⟨g5,t0,none⟩ (.int .i64 ((qj:Int)+1))).drewN qq).setCell ⟨g5,t0,none⟩ (.int .i64 0))):=fun qq=>by
    have:=(S1.out.drewN qq).set5 (by omega) h34 h45 h57 htn 0
    rw [Pl.upd_upd,<- ht0,Pl.Pz_zero q n j hjn,ht0] at this
    exact this
   clear S1 FS hqj hst hdj he' ht0 htj HE hmm hdq
   go_wp2_with fail
   go_quiet (fail)
   go_wp2_with fail
   go_quiet (fail)
   go_wp2_with fail
   go_roundg gi
   case rel=>exact ⟨j+1,e',by omega,by go_num,by congr 1; omega,HE',by omega,HW',S2.out _⟩
   omega
theorem turned_any (v:Value) (zs:List Int) (w:World) (hl:zs.length<=1000) (h:Rd w.heap.size w v zs) :
  Calls Tryz.prog 101 #[v] w fun e w'=>∃u,e=.returned u/\w'.ownsRow w.heap.size 3 1 u zs.length (zs.reverse.map (Value.int .i64))/\Below w.heap.size w w':=by
 obtain ⟨a1,d1,b1,o1,e1,hao1,hb1,hc1⟩:=h.parts
 subst e1
 have O0:Hid ((w.alloc (.cells #[] 3)).ownsRow w.heap.size 3 1 (.slice (some ⟨w.heap.size,0,none⟩) 0 0) 0 (([]:List Int).map (Value.int .i64))):=owns_empty w w.heap.size (Nat.le_refl _)
 have B0:Hid (Below w.heap.size w (w.alloc (.cells #[] 3))):=(Below.refl _ _).alloc (Nat.le_refl _) _
 have HC:=hideP hc1
 have HA:=hideP hao1
 have HBL:=hideP hb1
 clear h hc1 hao1 hb1
 obtain ⟨n,hn⟩:∃n,zs.length=n:=⟨_,rfl⟩
 have Hn:=hideP hn
 rw [hn] at hl HC HA HBL ⊢
 clear hn
 go_enter Tryz.func101,Tryz.ntmps101
 go_wp2_with fail
 go_loopw [3,4] (fun ov vi wr=>∃(j:Nat) (us:List Int),j<=n/\vi=.int .i64 ((n:Int)-1-(j:Int))/\Hid (us=zs.reverse.take j)/\Hid (us.length=j)/\Hid (wr.ownsRow w.heap.size 3 1 ov us.length (us.map (Value.int .i64)))/\Hid (Below w.heap.size w wr)) (fun _ vi _=>((intOf vi)+1).toNat)
 case atStart=>exact ⟨0,[],Nat.zero_le _,by go_num,rfl,rfl,O0,B0⟩
 clear O0 B0
 obtain ⟨j,us,hj,rfl,HU,HL,HO,BB⟩:=hrel
 obtain ⟨xo,yo,eo⟩:=owns_form HO.out
 subst eo
 by_cases hlt:j<n
 rotate_left 1
 ·have hlt':¬(0:Int)<=(n:Int)-1-(j:Int):=by omega
  have OE:Hid (wr.ownsRow w.heap.size 3 1 (.slice xo us.length yo) n (zs.reverse.map (Value.int .i64))):=by
   have h1:=HO.out
   have h2:us=zs.reverse:=by rw [HU.out,List.take_of_length_le (by rw [List.length_reverse,Hn.out]; omega)]
   rw [h2] at h1 ⊢
   rw [List.length_reverse,Hn.out] at h1 ⊢
   exact h1
  go_wp2_with fail
  go_ret
  refine ⟨_,rfl,?_,BB.out⟩
  have:=OE.out
  rw [List.map_reverse] at this
  exact this
 have hlt':(0:Int)<=(n:Int)-1-(j:Int):=by omega
 obtain ⟨t,ht⟩:∃t,n-1-j=t:=⟨_,rfl⟩
 have ht':(n:Int)-1-(j:Int)=(t:Int):=by omega
 have htn:(t:Int)<(n:Int):=by omega
 have hao:=HA.out (by omega)
 have cx:wr.cell? ⟨b1,o1+t,none⟩=some (.int .i64 (zs.getD t 0)):=(BB.out.cell (p:=⟨b1,o1+t,none⟩) (HBL.out (by omega))).trans (HC.out t (by omega))
 have HU':Hid (us++[zs.getD t 0]=zs.reverse.take (j+1)):=by
  show _=_
  rw [HU.out,List.take_add_one,List.getElem?_reverse (by rw [Hn.out]; exact hlt),Hn.out,ht,List.getD,List.getElem?_eq_getElem (by rw [Hn.out]; omega)]
  rfl
 subst hao
 generalize zs.getD t 0=x at *
 have AL:Hid (Below wr.heap.size wr (wr.alloc (.cells #[.int .i64 x] 3))):=(Below.refl _ _).alloc (Nat.le_refl _) _
 have B4:=hideP (BB.out.trans (AL.out.mono BB.out.size))
 have O4:=hideP (owns_keep HO.out AL.out)
 have R4:Hid (Rd (wr.heap.size+1) (wr.alloc (.cells #[.int .i64 x] 3)) (.slice (some ⟨wr.heap.size,0,none⟩) 1 1) [x]):=by
  have:=(own_lit wr _ x (Below.refl _ _)).rd
  show Rd _ _ _ _
  simpa using this
 have hul:us.length<=1000:=by rw [HL.out]; omega
 have hbs:=BB.out.size
 obtain ⟨m,hm⟩:∃m,us.length=m:=⟨_,rfl⟩
 have Hm:=hideP hm
 rw [hm] at O4 hul ⊢
 clear hm HO
 have HT:=hideP ht
 clear ht
 go_wp2_with (at_builtin; refine wpList_append_rd_at (base:=w.heap.size) _ rfl (.tmp 13) (.tmp 18) rfl (.slice xo m yo) (.slice (some ⟨wr.heap.size,0,none⟩) 1 1) rfl rfl m us [x] O4.out R4.out (by simp; omega) (by simp; omega) ?_)
 intro v5 w5 ho5 hg5 _
 have B5:Hid (Below w.heap.size w w5):=B4.out.grown hg5 (by simp; omega) (fun k hk=>(O4.out.lt k hk).1)
 have O5:Hid (w5.ownsRow w.heap.size 3 1 v5 (us++[x]).length ((us++[x]).map (Value.int .i64))):=by
  show World.ownsRow _ _ _ _ _ _ _
  rw [List.length_append,Hm.out]
  simpa using ho5
 have L5:Hid ((us++[x]).length=j+1):=by show _=_; rw [List.length_append,HL.out]; rfl
 clear ho5 hg5 O4 R4 B4
 go_wp2_with fail
 go_roundw
 case rel=>exact ⟨j+1,us++[x],by omega,by go_num,HU',L5,O5,B5⟩
 simp [intOf]; omega
def plF (qs:List Nat) (n j:Nat):Nat->Int:=fun t=>if n-j<=t then (qs.getD (n-1-t) 0:Int) else 0
theorem plF_step {qs:List Nat} {n j:Nat} (h:j<n):upd (plF qs n j) (n-1-j) (qs.getD j 0:Int)=plF qs n (j+1):=by
 funext t
 unfold upd plF
 by_cases h1:t=n-1-j
 ·rw [if_pos h1,if_pos (by omega),h1,show n-1-(n-1-j)=j by omega]
 rw [if_neg h1]
 by_cases h2:n-j<=t
 ·rw [if_pos h2,if_pos (by omega)]
 rw [if_neg h2,if_neg (by omega)]
theorem places_any (v:Value) (ds:List Nat) (zs:List Int) (i:Nat) (w:World) (hz:zs=(ds.map fun (d:Nat)=>(d:Int)).reverse) (hpos:∀d∈ds,0<d) (hl:ds.length<=1000) (hi:i<=1000000) (h:Rd w.heap.size w v zs) :
  Calls Tryz.prog 103 #[v,.int .i64 (i:Int)] w fun e w'=>e=.returned (.slice (some ⟨w.heap.size,0,none⟩) ds.length ds.length)/\Rw w.heap.size 0 ds.length (fun t=>((Pl.plR ds i).getD (ds.length-1-t) 0:Int)) w'/\Below w.heap.size w w':=by
 obtain ⟨a1,d1,b1,o1,e1,hao1,hb1,hc1⟩:=h.parts
 subst e1
 have hzl:zs.length=ds.length:=by rw [hz]; simp
 have HC:Hid (∀j,j<ds.length->a1=some ⟨b1,o1,none⟩/\b1<w.heap.size/\w.cell? ⟨b1,o1+(ds.length-1-j),none⟩=some (.int .i64 (ds.getD j 0:Int))):=fun j hj=>by
  refine ⟨hao1 (by omega),hb1 (by omega),?_⟩
  rw [hc1 (ds.length-1-j) (by omega)]
  congr 2
  rw [hz,List.getD,List.getElem?_reverse (by simp; omega),List.length_map,show ds.length-1-(ds.length-1-j)=j by omega,List.getElem?_map,List.getD,List.getElem?_eq_getElem hj]
  rfl
 have HP:=hideP hpos
 obtain ⟨i0,hi',hz0,hz1,hz2⟩:=info_parts Tryz.info3
 have HI:=hideP (And.intro hi' (And.intro hz0 (And.intro hz1 hz2)))
 obtain ⟨qs,hqs⟩:∃qs,Pl.plR ds i=qs:=⟨_,rfl⟩
 have HQ:=hideP hqs
 rw [hqs,hzl]
 obtain ⟨n,hn⟩:∃n,ds.length=n:=⟨_,rfl⟩
 have Hn:=hideP hn
 rw [hn] at hl HC ⊢
 clear hi' hz0 hz1 hz2 h hc1 hao1 hb1 hz hpos hqs hzl hn
 go_enter Tryz.func103,Tryz.ntmps103
 go_wp2_with (at_make; refine wpList_make_full _ rfl _ _ 23 rfl w.heap.size 3 i0 (.int .i64 0) 1 Tryz.underlying23 HI.out.1 HI.out.2.1 HI.out.2.2.1 _ _ _ _ n rfl rfl rfl rfl ?b2 ?b3 ?b4 ?_)
 case b2=>rw [HI.out.2.2.2]; omega
 case b3=>unfold maxLen; omega
 case b4=>exact Nat.le_refl _
 intro w1 hown hgrow
 rw [made_zeros] at hown
 have B1:Hid (Below w.heap.size w w1):=(Below.refl _ _).grown hgrow (Nat.le_refl _) (by intro k h; cases h)
 have R1:Hid (Rw w.heap.size 0 n (plF qs n 0) w1):=by
  have h1:w1.ownsRow w.heap.size 3 1 (.slice (some ⟨w.heap.size,0,none⟩) n n) n ((List.replicate n (0:Int)).map (Value.int .i64)):=by simpa using hown
  refine (rw_of_own h1 (by simp)).congr fun t ht=>?_
  unfold plF
  rw [if_neg (by omega)]
  simp [List.getD,ht]
 clear hown hgrow
 go_wp2_with fail
 go_loopw [1,6] (fun vi vk wr=>∃(j ij:Nat),j<=n/\ij<=1000000/\vk=.int .i64 ((n:Int)-1-(j:Int))/\vi=.int .i64 (ij:Int)/\Hid (qs.drop j=Pl.plR (ds.drop j) ij)/\Hid (Rw w.heap.size 0 n (plF qs n j) wr)/\Hid (Below w.heap.size w wr)) (fun _ vk _=>((intOf vk)+1).toNat)
 case atStart=>exact ⟨0,i,Nat.zero_le _,hi,by go_num,rfl,HQ.out.symm,R1,B1⟩
 clear R1 B1
 obtain ⟨j,ij,hj,hij,rfl,rfl,HD,RR,BB⟩:=hrel
 by_cases hlt:j<n
 rotate_left 1
 ·have hlt':¬(0:Int)<=(n:Int)-1-(j:Int):=by omega
  have RE:Hid (Rw w.heap.size 0 n (fun t=>(qs.getD (n-1-t) 0:Int)) wr):=RR.out.congr fun t ht=>by
   unfold plF
   rw [if_pos (by omega)]
  go_wp2_with fail
  go_ret
  exact ⟨rfl,RE.out,BB.out⟩
 have hlt':(0:Int)<=(n:Int)-1-(j:Int):=by omega
 obtain ⟨t,ht⟩:∃t,n-1-j=t:=⟨_,rfl⟩
 have ht':(n:Int)-1-(j:Int)=(t:Int):=by omega
 have htn:(t:Int)<(n:Int):=by omega
 obtain ⟨rfl,hbl,hcell⟩:=HC.out j hlt
 obtain ⟨dj,hdj⟩:∃dj,ds.getD j 0=dj:=⟨_,rfl⟩
 rw [hdj,ht] at hcell
 have cx:wr.cell? ⟨b1,o1+t,none⟩=some (.int .i64 (dj:Int)):=(BB.out.cell (p:=⟨b1,o1+t,none⟩) hbl).trans hcell
 have hds:ds.drop j=dj::ds.drop (j+1):=by
  rw [List.drop_eq_getElem_cons (by rw [Hn.out]; exact hlt),<- hdj,List.getD,List.getElem?_eq_getElem (by rw [Hn.out]; exact hlt)]
  rfl
 have hpd:0<dj:=HP.out dj (List.mem_of_mem_drop (i:=j) (by rw [hds]; simp))
 have hD:=HD.out
 rw [hds,Pl.plR] at hD
 have HQJ:Hid (qs.getD j 0=ij % dj):=by
  show _=_
  have h1:=congrArg (fun l=>l.getD 0 0) hD
  simp only [List.getD,List.getElem?_drop] at h1
  rw [List.getD]
  exact h1
 have HD':Hid (qs.drop (j+1)=Pl.plR (ds.drop (j+1)) (ij / dj)):=by
  show _=_
  rw [<- List.tail_drop,hD]
  rfl
 obtain ⟨mj,hmj⟩:∃mj,ij % dj=mj:=⟨_,rfl⟩
 obtain ⟨ej,hej⟩:∃ej,ij / dj=ej:=⟨_,rfl⟩
 have hmi:(ij:Int) % (dj:Int)=(mj:Int):=by rw [<- hmj]; exact (Int.natCast_emod ij dj).symm
 have hei:(ij:Int) / (dj:Int)=(ej:Int):=by rw [<- hej]; exact (Int.natCast_ediv ij dj).symm
 have hejl:ej<=1000000:=by rw [<- hej]; exact Nat.le_trans (Nat.div_le_self _ _) hij
 have hd0:¬((dj:Int)=0):=by omega
 have hdp:(0:Int)<(dj:Int):=by omega
 rw [hmj] at HQJ
 rw [hej] at HD'
 have fx:wr.frozen? ⟨w.heap.size,t,none⟩=false:=by have:=(RR.out.2 t (by omega)).2; rw [Nat.zero_add] at this; exact this
 have cf:∃y,wr.cell? ⟨w.heap.size,t,none⟩=some (.int .i64 y):=⟨_,by have:=(RR.out.2 t (by omega)).1; rw [Nat.zero_add] at this; exact this⟩
 obtain ⟨y,cf⟩:=cf
 have cx2:(wr.setCell ⟨w.heap.size,t,none⟩ (.int .i64 (mj:Int))).cell? ⟨b1,o1+t,none⟩=some (.int .i64 (dj:Int)):=by rw [World.cell?_setCell_far _ _ _ _ (by show w.heap.size ≠ b1; omega)]; exact cx
 have RN:Hid (Rw w.heap.size 0 n (plF qs n (j+1)) (wr.setCell ⟨w.heap.size,t,none⟩ (.int .i64 (mj:Int)))):=by
  have:=RR.out.set (k:=t) (mj:Int) (by omega)
  rw [Nat.zero_add,<- ht,<- HQJ.out,plF_step hlt,HQJ.out,ht] at this
  exact this
 have BN:Hid (Below w.heap.size w (wr.setCell ⟨w.heap.size,t,none⟩ (.int .i64 (mj:Int)))):=BB.out.setCell (by simp) _
 have HT:=hideP ht
 clear ht hD hds hdj hmj hej RR hcell
 go_wp2_with fail
 go_roundw
 case rel=>exact ⟨j+1,ej,by omega,hejl,by have:=HT.out; congr 1; omega,rfl,HD',RN,BN⟩
 have:=HT.out; simp [intOf]; omega
theorem cell_any (b0 o0 c0 b1 o1 c1:Nat) (v2:Value) (sh da:List Int) (ds qs:List Nat) (w:World) (h0:Rd w.heap.size w (.slice (some ⟨b0,o0,none⟩) sh.length c0) sh) (h1:Rd w.heap.size w (.slice (some ⟨b1,o1,none⟩) da.length c1) da) (h2:Rd w.heap.size w v2 (qs.map fun (q:Nat)=>(q:Int))) (hds:sh=ds.map fun (d:Nat)=>(d:Int)) (hql:qs.length=ds.length) (hq:∀t,t<ds.length->qs.getD t 0<ds.getD t 0) (hpos:∀d∈ds,0<d) (hN:Pl.prdN ds=da.length) (hm:da.length<=1000) (hl:ds.length<=3) :
  Calls Tryz.prog 102 #[.agg #[.slice (some ⟨b0,o0,none⟩) sh.length c0,.slice (some ⟨b1,o1,none⟩) da.length c1],v2] w fun e w'=>e=.returned (.int .i64 (da.getD (Pl.ev ds qs) 0))/\Below w.heap.size w w':=by
 have hsl:sh.length=ds.length:=by rw [hds]; simp
 have HC0:Hid (∀j,j<ds.length->b0<w.heap.size/\w.cell? ⟨b0,o0+j,none⟩=some (.int .i64 (ds.getD j 0:Int))):=fun j hj=>by
  have:=rd_cell h0 (i:=j) (by omega)
  refine ⟨this.1,this.2.trans ?_⟩
  congr 2
  rw [hds,List.getD,List.getElem?_map,List.getD,List.getElem?_eq_getElem hj]
  rfl
 obtain ⟨a2,d2,b2,o2,e2,hao2,hb2,hc2⟩:=h2.parts
 have hml:(qs.map fun (q:Nat)=>(q:Int)).length=ds.length:=by rw [List.length_map,hql]
 rw [hml] at e2 hao2 hb2 hc2
 subst e2
 have HC2:Hid (∀j,j<ds.length->a2=some ⟨b2,o2,none⟩/\b2<w.heap.size/\w.cell? ⟨b2,o2+j,none⟩=some (.int .i64 (qs.getD j 0:Int))):=fun j hj=>by
  refine ⟨hao2 (by omega),hb2 (by omega),(hc2 j hj).trans ?_⟩
  congr 2
  rw [List.getD,List.getElem?_map,List.getD,List.getElem?_eq_getElem (show j<qs.length by omega)]
  rfl
 have hev:Pl.ev ds qs<da.length:=by rw [<- hN]; exact Pl.ev_lt ds hpos qs hql hq
 have HC1:Hid (b1<w.heap.size/\w.cell? ⟨b1,o1+Pl.ev ds qs,none⟩=some (.int .i64 (da.getD (Pl.ev ds qs) 0))):=rd_cell h1 (i:=Pl.ev ds qs) hev
 have HPD:=hideP hpos
 have HQT:=hideP hq
 have HQL:=hideP hql
 have AL:Hid (Below w.heap.size w (w.alloc (.cells #[.slice (some ⟨b0,o0,none⟩) sh.length c0,.slice (some ⟨b1,o1,none⟩) da.length c1] 25))):=(Below.refl _ _).alloc (Nat.le_refl _) _
 have CV:Hid ((w.alloc (.cells #[.slice (some ⟨b0,o0,none⟩) sh.length c0,.slice (some ⟨b1,o1,none⟩) da.length c1] 25)).cell? ⟨w.heap.size,0,none⟩=some (.slice (some ⟨b0,o0,none⟩) sh.length c0)/\(w.alloc (.cells #[.slice (some ⟨b0,o0,none⟩) sh.length c0,.slice (some ⟨b1,o1,none⟩) da.length c1] 25)).cell? ⟨w.heap.size,1,none⟩=some (.slice (some ⟨b1,o1,none⟩) da.length c1)):=⟨by simp [go_sem],by simp [go_sem]⟩
 obtain ⟨ee,hee⟩:∃ee,Pl.ev ds qs=ee:=⟨_,rfl⟩
 have HEE:=hideP hee
 have HDB:Hid (∀j,j<ds.length->ds.getD j 0<=1000):=fun j hj=>by
  have h1:ds.getD j 0<=Pl.prdN ds:=by
   have h2:=Pl.prdN_le hpos j
   rw [List.drop_eq_getElem_cons hj] at h2
   have h3:0<Pl.prdN (ds.drop (j+1)):=Pl.prd_pos _ fun d hd=>hpos d (List.mem_of_mem_drop hd)
   have h4:ds[j] * Pl.prdN (ds.drop (j+1))<=Pl.prdN ds:=h2
   have h5:=Nat.le_mul_of_pos_right ds[j] h3
   rw [List.getD,List.getElem?_eq_getElem hj]
   show ds[j]<=_
   omega
  omega
 rw [hee] at hev HC1 ⊢
 obtain ⟨x,hx⟩:∃x,da.getD ee 0=x:=⟨_,rfl⟩
 rw [hx] at HC1 ⊢
 rw [hsl] at AL CV ⊢
 clear h0 h1 h2 hds hpos hq hql hee hx hsl hN hao2 hb2 hc2 hml
 obtain ⟨n,hn⟩:∃n,ds.length=n:=⟨_,rfl⟩
 have Hn:=hideP hn
 rw [hn] at hl HC0 HC2 HDB AL CV ⊢
 clear hn
 generalize da.length=N at *
 go_enter Tryz.func102,Tryz.ntmps102
 go_wp2_with fail
 generalize (w.alloc (.cells #[.slice (some ⟨b0,o0,none⟩) n c0,.slice (some ⟨b1,o1,none⟩) N c1] 25))=wa at *
 go_loopw [5,6] (fun va vk wr=>∃(j acc:Nat),j<=n/\acc<=1000/\vk=.int .i64 (j:Int)/\va=.int .i64 (acc:Int)/\Hid (acc * Pl.prdN (ds.drop j)+Pl.ev (ds.drop j) (qs.drop j)=ee)/\Hid (wr.cell? ⟨w.heap.size,0,none⟩=some (.slice (some ⟨b0,o0,none⟩) n c0)/\wr.cell? ⟨w.heap.size,1,none⟩=some (.slice (some ⟨b1,o1,none⟩) N c1))/\Hid (Below w.heap.size w wr)) (fun _ vk _=>n-(intOf vk).toNat)
 case atStart=>exact ⟨0,0,Nat.zero_le _,by omega,rfl,rfl,by show _=_; rw [Nat.zero_mul,Nat.zero_add]; exact HEE.out,CV,AL⟩
 clear CV AL
 obtain ⟨j,acc,hj,hacc,rfl,rfl,HA,CV,BB⟩:=hrel
 by_cases hlt:j<n
 rotate_left 1
 ·have hlt':¬(j:Int)<(n:Int):=by omega
  have hae:acc=ee:=by
   have h1:=HA.out
   rw [List.drop_eq_nil_of_le (by rw [Hn.out]; omega)] at h1
   have h2:acc * 1+0=ee:=h1
   omega
  have cx:wr.cell? ⟨b1,o1+ee,none⟩=some (.int .i64 x):=(BB.out.cell (p:=⟨b1,o1+ee,none⟩) HC1.out.1).trans HC1.out.2
  have c1':=CV.out.2
  have hel:(ee:Int)<(N:Int):=by omega
  subst hae
  go_wp2_with fail
  go_ret
  exact ⟨rfl,BB.out⟩
 have hlt':(j:Int)<(n:Int):=by omega
 obtain ⟨dj,hdj⟩:∃dj,ds.getD j 0=dj:=⟨_,rfl⟩
 obtain ⟨qj,hqj⟩:∃qj,qs.getD j 0=qj:=⟨_,rfl⟩
 have cx:wr.cell? ⟨b0,o0+j,none⟩=some (.int .i64 (dj:Int)):=by rw [<- hdj]; exact (BB.out.cell (p:=⟨b0,o0+j,none⟩) (HC0.out j hlt).1).trans (HC0.out j hlt).2
 obtain ⟨ea2,hbl2,hcl2⟩:=HC2.out j hlt
 have cq:wr.cell? ⟨b2,o2+j,none⟩=some (.int .i64 (qj:Int)):=by rw [<- hqj]; exact (BB.out.cell (p:=⟨b2,o2+j,none⟩) hbl2).trans hcl2
 subst ea2
 clear hbl2 hcl2
 have hdj1:dj<=1000:=by rw [<- hdj]; exact HDB.out j hlt
 have hqd:qj<dj:=by rw [<- hqj,<- hdj]; exact HQT.out j (by rw [Hn.out]; exact hlt)
 obtain ⟨mm,hmm⟩:∃mm,acc * dj=mm:=⟨_,rfl⟩
 have hmm':(acc:Int) * (dj:Int)=(mm:Int):=by rw [<- hmm]; exact (Int.natCast_mul acc dj).symm
 have hmb:mm<=1000000:=by rw [<- hmm]; exact Nat.le_trans (Nat.mul_le_mul hacc hdj1) (by omega)
 have hds:ds.drop j=dj::ds.drop (j+1):=by
  rw [List.drop_eq_getElem_cons (by rw [Hn.out]; exact hlt),<- hdj,List.getD,List.getElem?_eq_getElem (by rw [Hn.out]; exact hlt)]
  rfl
 have HA':Hid ((mm+qj) * Pl.prdN (ds.drop (j+1))+Pl.ev (ds.drop (j+1)) (qs.drop (j+1))=ee):=by
  show _=_
  rw [<- HA.out,Pl.ev_at (ds:=ds) (qs:=qs) (j:=j) (by rw [Hn.out]; exact hlt) HQL.out,hqj,hds,<- hmm]
  show _=acc * (dj * Pl.prdN (ds.drop (j+1)))+_
  rw [Nat.add_mul,Nat.mul_assoc]
  omega
 have hacc':mm+qj<=1000:=by
  have h3:0<Pl.prdN (ds.drop (j+1)):=Pl.prd_pos _ fun d hd=>HPD.out d (List.mem_of_mem_drop hd)
  have h5:=Nat.le_mul_of_pos_right (mm+qj) h3
  have h6:=HA'.out
  omega
 have c0':=CV.out.1
 have DV:Hid (∀m,((wr.drewN m).cell? ⟨w.heap.size,0,none⟩=some (.slice (some ⟨b0,o0,none⟩) n c0)/\(wr.drewN m).cell? ⟨w.heap.size,1,none⟩=some (.slice (some ⟨b1,o1,none⟩) N c1))/\Below w.heap.size w (wr.drewN m)):=fun m=>⟨CV.out,below_drewN BB.out m⟩
 clear hdj hqj hmm hds HA
 go_wp2_with fail
 go_quiet (fail)
 go_wp2_with fail
 go_roundw
 case rel=>exact ⟨j+1,mm+qj,by omega,hacc',by go_num,by go_num,HA',(DV.out _).1,(DV.out _).2⟩
 simp [intOf]; omega
theorem strides_nil (ao:Option Addr) (cap:Nat) (w:World) :
  Calls Tryz.prog 137 #[.slice ao 0 cap] w fun e w'=>e=.returned (.slice (some ⟨w.heap.size,0,none⟩) 0 0)/\Below w.heap.size w w':=by
 obtain ⟨i0,hi,hz0,hz1,hz2⟩:=info_parts Tryz.info3
 have HI:=hideP (And.intro hi (And.intro hz0 (And.intro hz1 hz2)))
 clear hi hz0 hz1 hz2
 go_enter Tryz.func137,Tryz.ntmps137
 go_wp2_with (at_make; refine wpList_make_full _ rfl _ _ 23 rfl w.heap.size 3 i0 (.int .i64 0) 1 Tryz.underlying23 HI.out.1 HI.out.2.1 HI.out.2.2.1 _ _ _ _ 0 rfl rfl rfl rfl ?b2 ?b3 ?b4 ?_)
 case b2=>rw [HI.out.2.2.2]; omega
 case b3=>unfold maxLen; omega
 case b4=>exact Nat.le_refl _
 intro w1 hown hgrow
 have B1:Hid (Below w.heap.size w w1):=(Below.refl _ _).grown hgrow (Nat.le_refl _) (by intro k h; cases h)
 clear hown hgrow
 go_wp2_with fail
 go_loopw [4,10] (fun _ i wr=>i=.int .i64 0/\wr=w1) (fun _ _ _=>0)
 case atStart=>exact ⟨rfl,rfl⟩
 obtain ⟨rfl,rfl⟩:=hrel
 go_wp2_with fail
 go_ret
 exact ⟨rfl,B1.out⟩
theorem flip_zero (a0:Option Addr) (c0 b1 o1 c1:Nat) (x:Int) (w:World) (h1:Rd w.heap.size w (.slice (some ⟨b1,o1,none⟩) 1 c1) [x]) :
  Calls Tryz.prog 109 #[.agg #[.slice a0 0 c0,.slice (some ⟨b1,o1,none⟩) 1 c1]] w (KPost w 0 [] [x]):=by
 obtain ⟨wb,hwb⟩:∃wb,wb=(w.alloc (.cells #[.slice a0 0 c0,.slice (some ⟨b1,o1,none⟩) 1 c1] 25)).alloc (.cells #[.slice none 0 0,.slice none 0 0] 25):=⟨_,rfl⟩
 have WS:wb.heap.size=w.heap.size+1+1:=by rw [hwb]; simp
 have PB:Hid (∀W,Below wb.heap.size wb W->(W.cell? ⟨w.heap.size,0,none⟩=some (.slice a0 0 c0)/\W.cell? ⟨w.heap.size,1,none⟩=some (.slice (some ⟨b1,o1,none⟩) 1 c1))/\(W.cell? ⟨w.heap.size+1,0,none⟩=some (.slice none 0 0)/\W.cell? ⟨w.heap.size+1,1,none⟩=some (.slice none 0 0)/\∀o,W.frozen? ⟨w.heap.size+1,o,none⟩=false)/\Below w.heap.size w W):=fun W hb=>by
  subst hwb
  exact boxes2 (hb.mono (by simp))
 have HC:Hid (b1<w.heap.size/\w.cell? ⟨b1,o1,none⟩=some (.int .i64 x)):=by
  have:=rd_cell (zs:=[x]) h1 (i:=0) (by simp)
  exact this
 have KJ:Hid (∀b W,Below wb.heap.size wb W->b<W.heap.size->W.cell? ⟨b,0,none⟩=some (.slice a0 0 c0)->Calls Tryz.prog 74 #[.slice (some ⟨b,0,none⟩) 1 1] W fun e w'=>∃ao cap,e=.returned (.slice ao 0 cap)/\Below W.heap.size W w'):=fun b W hb hlt hcc=>by
  refine (joined1_own b _ [] W (by simp) hlt hcc ⟨_,_,rfl,.inl rfl⟩).mono ?_
  rintro e w' ⟨ao,cap,rfl,_,hb'⟩
  exact ⟨ao,cap,rfl,hb'⟩
 obtain ⟨i0,hi,hz0,hz1,hz2⟩:=info_parts Tryz.info3
 have HI:=hideP (And.intro hi (And.intro hz0 (And.intro hz1 hz2)))
 clear hi hz0 hz1 hz2 h1
 have B0:Hid (Below wb.heap.size wb (wb.alloc (.cells #[.slice a0 0 c0] 23))):=(Below.refl _ _).alloc (Nat.le_refl _) _
 have KJ':=hideP (KJ.out wb.heap.size (wb.alloc (.cells #[.slice a0 0 c0] 23)) B0.out (lit_cell wb _ 23).1 (lit_cell wb _ 23).2)
 go_enter Tryz.func109,Tryz.ntmps109
 go_wp2_with fail
 go_step3
 go_wp2_with fail
 rw [<- hwb,<- WS]
 refine KJ'.out.mono ?_
 rintro e w3 ⟨a3,cap3,rfl,hb3⟩
 have B3:=hideP (B0.out.trans (hb3.mono (by simp)))
 clear hb3 KJ KJ' B0
 go_wp2_with fail
 refine (reverse_nil a3 cap3 w3).mono ?_
 rintro e w3 ⟨rfl,rfl⟩
 have c00:=(PB.out _ B3.out).1.1
 go_wp2_with fail
 refine (strides_nil _ _ w3).mono ?_
 rintro e w5 ⟨rfl,hb5⟩
 have B5:=hideP (B3.out.trans (hb5.mono B3.out.size))
 clear hb5 c00
 go_wp2_with (at_make; refine wpList_make_full _ rfl _ _ 23 rfl w5.heap.size 3 i0 (.int .i64 0) 1 Tryz.underlying23 HI.out.1 HI.out.2.1 HI.out.2.2.1 _ _ _ _ 0 rfl rfl rfl rfl ?b2 ?b3 ?b4 ?_)
 case b2=>rw [HI.out.2.2.2]; omega
 case b3=>unfold maxLen; omega
 case b4=>exact Nat.le_refl _
 intro w6 hown hgrow
 have BG6:Hid (Below w5.heap.size w5 w6):=(Below.refl _ _).grown hgrow (Nat.le_refl _) (by intro k h; cases h)
 have B6:=hideP (B5.out.trans (BG6.out.mono B5.out.size))
 have c01:=(PB.out _ B6.out).1.2
 clear hown hgrow BG6 B5
 go_wp2_with (at_make; refine wpList_make_full _ rfl _ _ 23 rfl w6.heap.size 3 i0 (.int .i64 0) 1 Tryz.underlying23 HI.out.1 HI.out.2.1 HI.out.2.2.1 _ _ _ _ 1 rfl rfl rfl rfl ?e2 ?e3 ?e4 ?_)
 case e2=>rw [HI.out.2.2.2]; omega
 case e3=>unfold maxLen; omega
 case e4=>exact Nat.le_refl _
 intro w7 hown hgrow
 rw [made_zeros] at hown
 have BG7:Hid (Below w6.heap.size w6 w7):=(Below.refl _ _).grown hgrow (Nat.le_refl _) (by intro k h; cases h)
 have R7:Hid (Rw w6.heap.size 0 1 (fun _=>0) w7):=by
  have h1:w7.ownsRow w6.heap.size 3 1 (.slice (some ⟨w6.heap.size,0,none⟩) 1 1) 1 ((List.replicate 1 (0:Int)).map (Value.int .i64)):=by simpa using hown
  refine (rw_of_own h1 (by simp)).congr fun t ht=>?_
  obtain rfl:t=0:=by omega
  rfl
 have B7:=hideP (B6.out.trans (BG7.out.mono B6.out.size))
 obtain ⟨g7,hg7⟩:∃g7,w6.heap.size=g7:=⟨_,rfl⟩
 have hg7b:wb.heap.size<=g7:=by rw [<- hg7]; exact B6.out.size
 rw [hg7] at R7 ⊢
 clear hown hgrow BG7 B6 hg7 c01
 go_wp2_with fail
 go_step3
 go_wp2_with fail
 go_loopg [6,8,9,28] 1 (fun g vs _ _ vi wr=>vs=.int .i64 0/\((g=1/\vi=.int .i64 0/\wr=w7)\/(g=0/\vi=.int .i64 1/\Hid (Rw g7 0 1 (fun _=>x) wr)/\Hid (Below wb.heap.size wb wr))))
 case atStart=>exact ⟨rfl,.inl ⟨rfl,rfl,rfl⟩⟩
 obtain ⟨rfl,⟨rfl,rfl,rfl⟩ | ⟨rfl,rfl,RR,BB⟩⟩:=hrel
 ·rename World=>w7
  have ZR:=hideP (PB.out _ B7.out)
  have cd:w7.cell? ⟨b1,o1,none⟩=some (.int .i64 x):=(ZR.out.2.2.cell (p:=⟨b1,o1,none⟩) HC.out.1).trans HC.out.2
  have c01:=ZR.out.1.2
  have c7:w7.cell? ⟨g7,0,none⟩=some (.int .i64 0):=(R7.out.2 0 (by omega)).1
  have f7:w7.frozen? ⟨g7,0,none⟩=false:=(R7.out.2 0 (by omega)).2
  have RN:Hid (Rw g7 0 1 (fun _=>x) (w7.setCell ⟨g7,0,none⟩ (.int .i64 x))):=(R7.out.set (k:=0) x (by omega)).congr fun t ht=>by
   obtain rfl:t=0:=by omega
   rfl
  have BN:Hid (Below wb.heap.size wb (w7.setCell ⟨g7,0,none⟩ (.int .i64 x))):=B7.out.setCell (by show wb.heap.size<=g7; omega) _
  clear R7 B7
  go_wp2_with fail
  go_loopg [6,9] 0 (fun gi vs vc w2=>vs=.int .i64 0/\vc=.int .i64 (-1)/\w2=w7.setCell ⟨g7,0,none⟩ (.int .i64 x))
  case atStart=>exact ⟨rfl,by go_num,rfl⟩
  obtain ⟨rfl,rfl,rfl⟩:=hrel
  go_wp2_with fail
  go_roundg 0
  case rel=>exact ⟨rfl,.inr ⟨rfl,by go_num,RN,BN⟩⟩
  omega
 have ZR:=hideP (PB.out wr BB.out)
 have hsz:wb.heap.size<=wr.heap.size:=BB.out.size
 have OD:Hid (Own wb.heap.size wr (.slice (some ⟨g7,0,none⟩) 1 1) [x]):=own_of_rw' RR.out hg7b rfl (fun t ht=>by
  obtain rfl:t=0:=by omega
  rfl) ⟨Nat.le_refl _,by omega,rfl⟩
 have r0:=ZR.out.2.1.1
 have r1:=ZR.out.2.1.2.1
 have f2:=ZR.out.2.1.2.2
 clear R7 B7
 go_wp2_with fail
 try rw [Exit.noGoto_ret]
 refine bodyPost_ret (v:=.agg #[.slice a3 0 cap3,.slice (some ⟨g7,0,none⟩) 1 1]) (by simp [results,Tryz.results109,go_sem,r0,r1]) rfl ⟨(ZR.out.2.2.setCell (by simp) _).setCell (by simp) _,.inl ⟨rfl,_,_,rfl,⟨_,_,rfl,.inl rfl⟩,?_,.inl rfl⟩⟩
 exact Own.base (Own.store (Own.store OD.out (by omega) _) (by omega) _) (by omega)
theorem flip_any (a0:Option Addr) (c0:Nat) (a1:Option Addr) (c1:Nat) (sh da:List Int) (w:World) (h0:Rd w.heap.size w (.slice a0 sh.length c0) sh) (h1:Rd w.heap.size w (.slice a1 da.length c1) da) (hc0:sh.length<=c0) (hc0':0<sh.length->c0<=9223372036854775807) (hok:Pl.okB sh da=true) (c:Int) (S D:List Int) (hres:Pl.flipM sh da=(c,S,D)) :
  Calls Tryz.prog 109 #[.agg #[.slice a0 sh.length c0,.slice a1 da.length c1]] w (KPost w c S D):=by
 unfold Pl.flipM at hres
 simp only [Prod.mk.injEq] at hres
 obtain ⟨rfl,hS,hD⟩:=hres
 by_cases hr:0<sh.length
 ·obtain ⟨b0,o0,rfl⟩:=rd_some h0 (by omega)
  exact flip_core b0 o0 c0 a1 c1 sh da w h0 h1 hc0 (hc0' hr) hok hr S D hS hD
 obtain rfl:sh=[]:=List.length_eq_zero_iff.1 (by omega)
 have hd1:=Pl.ok_one hok rfl
 match da,hd1,h1,hD with
 |[x],_,h1,hD =>
  rw [<- hS,<- hD]
  obtain ⟨b1,o1,rfl⟩:=rd_some h1 (by simp)
  exact flip_zero a0 c0 b1 o1 c1 x w h1
end Go.Proofs.YtacapaiadggemaaGreat
