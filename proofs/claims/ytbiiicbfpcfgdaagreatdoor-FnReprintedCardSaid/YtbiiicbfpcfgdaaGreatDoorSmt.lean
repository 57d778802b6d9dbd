import Derived.Test.YtbiiicbfpcfgdaaGreatDoorStq
namespace Go.Proofs.YtbiiicbfpcfgdaaGreatDoor
open Go.RowKit
set_option maxRecDepth 100000
set_option maxHeartbeats 16000000
set_option linter.unusedVariables false
theorem own_go {α:Type}{et z:Nat}{Q:World->List Value->α->List Nat->Prop}(L:Lives Q) {X X':World}{v:Value}{c:List α}{F:List Nat}{B p:Nat}(h:Own et z Q X v c F) (hi:Inb B X F) (hp:p<B) (hg:X.grownBy X' (some p)):Own et z Q X' v c F/\Inb B X' F :=
 ⟨h.grown L hi hg (fun b hb hm=>by cases hb;have:=(hi _ hm).1;omega),hi.up (Nat.le_refl _) hg.size⟩
theorem heap_setCells_ne {b b':Nat}(h:b' ≠ b):∀(vs:List Value) (o:Nat) (w:World),(w.setCells b o vs).heap[b']? = w.heap[b']?
 |[],_,_=>rfl
 |v::vs,o,w=>(heap_setCells_ne h vs (o+1) (w.setCell ⟨b,o,none⟩ v)).trans (Below.heap_setCell _ _ _ b' (fun e=>h e))
theorem own_set {α:Type}{et z:Nat}{Q:World->List Value->α->List Nat->Prop}(L:Lives Q) {X:World}{v:Value}{c:List α}{F:List Nat}{B q:Nat}(h:Own et z Q X v c F) (hi:Inb B X F) (hq:q<B) (vs:List Value):Own et z Q (X.setCells q 0 vs) v c F/\Inb B (X.setCells q 0 vs) F:=by
 have hb:Below q X (X.setCells q 0 vs):=setCells_below (B:=q) _ (Nat.le_refl _) _ 0 _ (Below.refl _ _)
 refine⟨h.keep L (fun b hb'=>?_),hi.up (Nat.le_refl _) hb.size⟩
 have:=(hi b hb').1
 exact heap_setCells_ne oM _ _ _
theorem Bs.ofown {w X X':World}{l:List Pl.Itk}{p cap:Nat}{ao:Option Addr}{mb mo cp a:Nat}{be:Bool}(h:Bs w X l p cap ao mb mo cp a be) {o:Option Nat}(hg:X.grownBy X' o) (ho:∀q,o=some q->w.heap.size+1<=q):Bs w X' l p cap ao mb mo cp a be:=by
 have hb:Below (w.heap.size+1) X X':=⟨hg.os,hg.tape,hg.output,hg.size,fun k hk=>hg.block k (by have:=h.lt;omega) (fun e=>by have:=ho k e.symm;omega)⟩
 have hpw:=h.pw
 have e:X'.heap[w.heap.size]? = X.heap[w.heap.size]?:=hb.block _ (Nat.lt_succ_self _)
 have ep:X'.heap[p]? = X.heap[p]?:=hb.block _ oM
 have g (j:Nat):X'.cell? ⟨w.heap.size,j,none⟩=X.cell? ⟨w.heap.size,j,none⟩:=World.cell?_of_block e
 have gp (j:Nat):X'.cell? ⟨p,j,none⟩=X.cell? ⟨p,j,none⟩:=World.cell?_of_block ep
 have hP:=h.ps
 exact⟨h.e.low (hb.mono oM),⟨Nat.lt_of_lt_of_le hP.lt hb.size,(gp 0).trans hP.c0,(gp 1).trans hP.c1,(gp 2).trans hP.c2,(gp 3).trans hP.c3,fun j=>(World.frozen?_of_block (a:=⟨p,j,none⟩) ep).trans (hP.fz j)⟩,grown_then h.g hb oM,h.pw,Nat.lt_of_lt_of_le h.lt hb.size,(g 0).trans h.z0,(g 1).trans h.z1,(g 2).trans h.z2,(g 3).trans h.z3,fun j=>(World.frozen?_of_block (a:=⟨w.heap.size,j,none⟩) e).trans (h.zf j)⟩
theorem PoB.none_ {l:List Pl.Itk}{p cap a:Nat}{ao:Option Addr}{be:Bool}{nm:ByteArray}{w w':World}{Y:Option (List (Pl.E × Pl.E) × Pl.E × List Pl.T)}{k:Int}{nm':ByteArray}{a1 a2:Option Addr}{n1 n2 c1 c2 a':Nat}{be':Bool}(hY:Y=none) (h:IxP l p cap ao 0 be' w a' w'):PoB l p cap a ao be nm w Y (.returned (.tuple #[StV k nm' (.slice a1 n1 c1) (.slice a2 n2 c2),.bool false])) w':=by
 subst hY
 exact⟨k,nm',_,_,a',be',rfl,⟨_,_,_,rfl⟩,⟨_,_,_,rfl⟩,h⟩
theorem tBod1 {P:Prop}(h:P:=by
 go_wp2_with fail
 refine bodyPost_ret (v:=.tuple #[StV 0 ⟨#[]⟩ (.slice none 0 0) (.slice none 0 0),.bool false]) (by simp[results,Tryz.results68,go_sem,StV,z0,z1,z2,z3]) rfl (PoB.none_ HYN.out HE.out)
 ):P:=h
theorem body_any (N k:Nat) (l:List Pl.Itk) (p cap a mb mo cp:Nat) (ao:Option Addr) (be:Bool) (nm:ByteArray) (w:World) (hl:l.length<=1000000) (ha:a<=l.length) (hn:2 * l.length+1<=N) (hkl:l.length<k) (hk:∀t∈l,Pl.iOk t) (hE:Ej w l p ao mb mo cp) (hP:Ps w p ao l.length cap a 0 be) :
  Calls Tryz.prog 68 #[.pointer (some ⟨p,0,none⟩),.string nm] w (PoB l p cap a ao be nm w (Pl.pbody N k (Pl.seps (Pl.rI l a)))):=by
 have K54:Hid (∀(X:World) (b:Nat) (bb:Bool),Bs w X l p cap ao mb mo cp b bb->b<=l.length->Calls Tryz.prog 66 #[.pointer (some ⟨p,0,none⟩)] X (PoK l p cap b ao bb X (Pl.pexpr N (Pl.rI l b)))):=fun X b bb h hb=>code_any N l p cap b mb mo cp ao bb X hl hb hn hk h.e h.ps
 have K52:Hid (∀(X:World) (b:Nat) (bb:Bool) (text:ByteArray),Bs w X l p cap ao mb mo cp b bb->b<=l.length->Calls Tryz.prog 64 #[.pointer (some ⟨p,0,none⟩),.string text] X fun e w'=>e=.returned (.bool (decide ((Pl.tkAt l b).tx=text)))/\Ps w' p ao l.length cap (if (Pl.tkAt l b).tx=text then b+1 else b) 0 bb/\X.grownBy w' (some p)):=fun X b bb text h hb=>sign_any l p cap b 0 ao bb text X oM oM h.ps (h.e.r.up (Nat.le_of_lt h.ps.lt))
 have K33:Hid (∀(X:World) (b:Nat) (bb:Bool),Bs w X l p cap ao mb mo cp b bb->b<=l.length->Calls Tryz.prog 38 #[.pointer (some ⟨p,0,none⟩)] X fun e w'=>e=.returned (.bool (decide (b<Pl.sepA l b)))/\Ps w' p ao l.length cap (Pl.sepA l b) 0 bb/\X.grownBy w' (some p)):=fun X b bb h hb=>separators_any l p cap b 0 mb mo cp ao bb X oM oM h.e h.ps
 have BS0:=zH (Bs.new hE hP)
 have HK:=zH hk
 have hsa:=Pl.sepA_le ha
 have HSa:Hid (Pl.seps (Pl.rI l a)=Pl.rI l (Pl.sepA l a)):=Pl.seps_T hk _ a (Nat.le_refl _)
 rw[HSa.out]
 generalize hY:Pl.pbody N k (Pl.rI l (Pl.sepA l a))=Y at *
 have HY0:=zH hY
 have k33:=zH (K33.out _ a be BS0.out ha)
 clear hE hP hk hY HSa
 go_enter Tryz.func68,Tryz.ntmps68
 go_wp2_with fail
 refine k33.out.mono ?_
 rintro e w1 ⟨rfl,hP1,hg1⟩
 have B1:=zH (BS0.out.step hg1 hP1)
 clear hP1 hg1 k33 BS0
 generalize decide (a<Pl.sepA l a)=bz at *
 generalize hb1:Pl.sepA l a=a1 at *
 clear hb1
 go_wp2_with fail
 go_loopw [6] (fun u wr=>∃(b:Nat) (gs:List (Pl.E × Pl.E)) (F:List Nat) (kk:Nat) (ag:Option Addr) (ng cg:Nat) (bb:Bool),u=.slice ag ng cg/\a1<=b/\b<=l.length/\ng<=b/\gs.length=ng/\l.length-b<kk/\Hid (Bs w wr l p cap ao mb mo cp b bb)/\Hid (OwG wr (.slice ag ng cg) (gs.map Pl.gv) F)/\Hid (Inb (w.heap.size+1) wr F)/\Hid (Y=Pl.pbA gs (Pl.pbody N kk (Pl.rI l b)))/\Hid (bb=(be || Pl.gsB gs))) (fun _ wr=>l.length-(intOf ((wr.cell? ⟨p,1,none⟩).getD undef)).toNat)
 case atStart=>exact⟨a1,[],[],k,none,0,0,be,rfl,Nat.le_refl _,hsa.2,Nat.zero_le _,rfl,by omega,B1,Own.nil _,Inb.nil _ _,by show _=_;rw[Pl.pbA_nil];exact HY0.out.symm,by show _=_;simp[Pl.gsB]⟩
 obtain⟨b,gs,F,kk,ag,ng,cg,bb,rfl,hab,hb,hngb,hng,hfu,BS,OG,IG,HY,HBB⟩:=hrel
 have HNG:=zH hng
 clear hng HY0
 obtain⟨kk,rfl⟩:∃m,kk=m+1:=⟨kk-1,by omega⟩
 have hm1:wr.cell? ⟨p,1,none⟩=some (.int .i64 b):=BS.out.ps.c1
 have k54:=zH (K54.out wr b bb BS.out hb)
 have hpw:p<w.heap.size:=BS.out.pw
 cases hX:Pl.pexpr N (Pl.rI l b) with
 |none =>
  rw[hX] at k54
  have HYN:Hid (Y=none):=by show _=_;rw[HY.out,Pl.pb_none hX];rfl
  clear HY hX K54 K52 K33
  go_wp2_with fail
  refine k54.out.mono ?_
  rintro e w2 ⟨a2,be2,rfl,hI2⟩
  have B2:=BS.out.step hI2.g hI2.ps
  obtain⟨_,_,_,_,_,z0,z1,z2,z3,zf⟩:=id B2
  have HE:=zH (B2.end_x hI2.le (.int .i64 0) (.string ⟨#[]⟩) (.slice none 0 0) (.slice none 0 0))
  clear B2 hI2 k54 BS OG IG B1
  exact tBod1
 |some q =>
  obtain⟨x,r⟩:=q
  rw[hX] at k54
  have hlw:=BS.out.lt
  have HX:=zH hX
  clear hX
  go_wp2_with fail
  refine k54.out.mono ?_
  rintro e w2 ⟨cv,F1,b2,rfl,hO1,hI1,hX2,hb2,hbb2,hr2⟩
  obtain⟨a5,c5,rfl⟩:=hO1.slice
  have HNC:Hid (x.code.length=x.code.length):=rfl
  generalize hnc:x.code.length=nc at hO1 HNC ⊢
  have B2:=BS.out.step hX2.g hX2.ps
  obtain⟨g2a,g2b⟩:=own_go Qg.lives OG.out IG.out (p:=p) oM hX2.g
  have OG2:=zH g2a
  have IG2:=zH g2b
  have O1:=zH hO1
  have I1:=zH (hI1.up (B':=w.heap.size+1) oM (Nat.le_refl _))
  have D1:Hid (∀x∈F1,x ∉ F):=fun x hx hm=>by have:=(hI1 x hx).1;have:=(IG.out x hm).2;omega
  have HR2:=zH hr2
  have hncl:nc<=l.length:=by rw[<- hnc];exact px_len HX.out
  clear g2a g2b hO1 hI1 hX2 k54 BS OG IG hr2 hnc B1
  have k52:=zH (K52.out w2 b2 _ ⟨#[58]⟩ B2 hb2)
  by_cases hc:(Pl.tkAt l b2).tx=⟨#[58]⟩
  rotate_left 1
  ·-- the end
   have hnc:∀r',r ≠ .col::r':=fun r' e=>hc ((Pl.sgn_at HK.out b2 (c:=[58]) (by decide) Pl.tx_col).2 ⟨r',by rw[HR2.out,e]⟩)
   have HYE:Hid (Y=Pl.pbA gs (match Pl.rI l (Pl.sepA l b2) with | .rb::r2=>some ([],x,r2) | _=>none)):=by
    show _=_
    rw[HY.out,Pl.pb_end HX.out hnc,<- Pl.seps_T HK.out _ b2 (Nat.le_refl _),HR2.out]
    rfl
   rw[decide_eq_false hc,if_neg hc] at k52
   clear HX HY HR2 hnc hc K54
   go_wp2_with fail
   refine k52.out.mono ?_
   rintro e w3 ⟨rfl,hP3,hg3⟩
   have B3:=B2.step hg3 hP3
   obtain⟨g3a,g3b⟩:=own_go Qg.lives OG2.out IG2.out (p:=p) oM hg3
   obtain⟨g3c,g3d⟩:=own_go Qs.lives O1.out I1.out (p:=p) oM hg3
   have OG3:=zH g3a
   have IG3:=zH g3b
   have O3:=zH g3c
   have I3:=zH g3d
   clear g3a g3b g3c g3d OG2 IG2 O1 I1 B2 hP3 hg3 k52
   have k33:=zH (K33.out w3 b2 _ B3 hb2)
   have hsb:=Pl.sepA_le hb2
   generalize decide (b2<Pl.sepA l b2)=bq at *
   generalize Pl.sepA l b2=b4 at *
   go_wp2_with fail
   refine k33.out.mono ?_
   rintro e w4 ⟨rfl,hP4,hg4⟩
   have B4:=B3.step hg4 hP4
   obtain⟨g4a,g4b⟩:=own_go Qg.lives OG3.out IG3.out (p:=p) oM hg4
   obtain⟨g4c,g4d⟩:=own_go Qs.lives O3.out I3.out (p:=p) oM hg4
   have OG4:=zH g4a
   have IG4:=zH g4b
   have O4:=zH g4c
   have I4:=zH g4d
   clear g4a g4b g4c g4d OG3 IG3 O3 I3 B3 hP4 hg4 k33
   have k52:=zH (K52.out w4 b4 _ ⟨#[125]⟩ B4 hsb.2)
   clear K52 K33
   by_cases hc:(Pl.tkAt l b4).tx=⟨#[125]⟩
   ·obtain⟨r',hr'⟩:=(Pl.sgn_at HK.out b4 (c:=[125]) (by decide) Pl.tx_rb).1 hc
    obtain⟨hb4',hr4⟩:=Pl.rI_next hr'
    have HYS:Hid (Y=some (gs,x,r')):=by show _=_;rw[HYE.out,hr'];simp[Pl.pbA]
    rw[decide_eq_true hc,if_pos hc] at k52
    have HR4:=zH hr4
    clear hr' HYE hc hr4
    go_wp2_with fail
    refine k52.out.mono ?_
    rintro e w5 ⟨rfl,hP5,hg5⟩
    have B5:=B4.step hg5 hP5
    obtain⟨g5a,g5b⟩:=own_go Qg.lives OG4.out IG4.out (p:=p) oM hg5
    obtain⟨g5c,g5d⟩:=own_go Qs.lives O4.out I4.out (p:=p) oM hg5
    have G6:=own_set Qg.lives g5a g5b (q:=w.heap.size) (Nat.lt_succ_self _) [.int .i64 3,.string nm,.slice a5 nc c5,.slice ag ng cg]
    have S6:=own_set Qs.lives g5c g5d (q:=w.heap.size) (Nat.lt_succ_self _) [.int .i64 3,.string nm,.slice a5 nc c5,.slice ag ng cg]
    have E6:=B5.end_x oM (.int .i64 3) (.string nm) (.slice a5 nc c5) (.slice ag ng cg)
    obtain⟨_,_,_,_,_,z0,z1,z2,z3,zf⟩:=id B5
    have HP:Hid (PoB l p cap a ao be nm w Y (.returned (.tuple #[StV 3 nm (.slice a5 nc c5) (.slice ag ng cg),.bool true])) (w5.setCells w.heap.size 0 [.int .i64 3,.string nm,.slice a5 nc c5,.slice ag ng cg])):=by
     show PoB _ _ _ _ _ _ _ _ _ _ _
     rw[HYS.out]
     refine⟨_,_,F1,F,b4+1,rfl,S6.1,G6.1,S6.2.up (Nat.le_succ _) (Nat.le_refl _),G6.2.up (Nat.le_succ _) (Nat.le_refl _),D1.out,?_,hb4',by omega,HR4.out⟩
     rw[<- HBB.out]
     exact E6
    clear G6 S6 E6 B5 B4 g5a g5b g5c g5d OG4 IG4 O4 I4 hP5 hg5 k52
    go_wp2_with fail
    refine bodyPost_ret (v:=.tuple #[StV 3 nm (.slice a5 nc c5) (.slice ag ng cg),.bool true]) (by simp[results,Tryz.results68,go_sem,StV,z0,z1,z2,z3]) rfl HP.out
   have HYN:Hid (Y=none):=by
    show _=_
    rw[HYE.out]
    have hn:∀r',Pl.rI l b4 ≠ .rb::r':=fun r' e=>hc ((Pl.sgn_at HK.out b4 (c:=[125]) (by decide) Pl.tx_rb).2 ⟨r',e⟩)
    split
    ·rename_i h;exact absurd h (hn _)
    rfl
   rw[decide_eq_false hc,if_neg hc] at k52
   clear HYE hc
   go_wp2_with fail
   refine k52.out.mono ?_
   rintro e w5 ⟨rfl,hP5,hg5⟩
   have B5:=B4.step hg5 hP5
   obtain⟨_,_,_,_,_,z0,z1,z2,z3,zf⟩:=id B5
   have HE:=zH (B5.end_x oM (.int .i64 3) (.string nm) (.slice a5 nc c5) (.slice ag ng cg))
   clear B5 B4 OG4 IG4 O4 I4 hP5 hg5 k52
   go_wp2_with fail
   refine bodyPost_ret (v:=.tuple #[StV 3 nm (.slice a5 nc c5) (.slice ag ng cg),.bool false]) (by simp[results,Tryz.results68,go_sem,StV,z0,z1,z2,z3]) rfl (PoB.none_ HYN.out HE.out)
  -- a guard
  obtain⟨r',hr'⟩:=(Pl.sgn_at HK.out b2 (c:=[58]) (by decide) Pl.tx_col).1 hc
  obtain⟨hb2',hr3⟩:=Pl.rI_next hr'
  have HX2:Hid (Pl.pexpr N (Pl.rI l b)=some (x,.col::r')):=by show _=_;rw[HX.out,<- HR2.out,hr']
  rw[decide_eq_true hc,if_pos hc] at k52
  clear hr' HX HR2 hc
  go_wp2_with fail
  refine k52.out.mono ?_
  rintro e w3 ⟨rfl,hP3,hg3⟩
  have B3:=B2.step hg3 hP3
  obtain⟨g3a,g3b⟩:=own_go Qg.lives OG2.out IG2.out (p:=p) oM hg3
  obtain⟨g3c,g3d⟩:=own_go Qs.lives O1.out I1.out (p:=p) oM hg3
  have OG3:=zH g3a
  have IG3:=zH g3b
  have O3:=zH g3c
  have I3:=zH g3d
  clear g3a g3b g3c g3d OG2 IG2 O1 I1 B2 hP3 hg3 k52
  have k54:=zH (K54.out w3 (b2+1) _ B3 hb2')
  rw[hr3] at k54
  cases hX3:Pl.pexpr N r' with
  |none =>
   rw[hX3] at k54
   have HYN:Hid (Y=none):=by show _=_;rw[HY.out,Pl.pb_col_none HX2.out hX3];rfl
   clear HY hX3 K54 K52 K33 HX2
   go_wp2_with fail
   refine k54.out.mono ?_
   rintro e w4 ⟨b4,be4,rfl,hI4⟩
   have B4:=B3.step hI4.g hI4.ps
   have hle4:=hI4.le
   clear k54 hI4 OG3 IG3 O3 I3
   obtain⟨_,_,_,_,_,z0,z1,z2,z3,zf⟩:=id B4
   have HE:=zH (B4.end_x oM (.int .i64 0) (.string ⟨#[]⟩) (.slice none 0 0) (.slice none 0 0))
   clear B4 B3
   exact tBod1
  |some q =>
   obtain⟨y,r2⟩:=q
   rw[hX3] at k54
   have HX3:=zH hX3
   clear hX3
   have hlw3:=B3.lt
   go_wp2_with fail
   refine k54.out.mono ?_
   rintro e w4 ⟨tv,F3,b4,rfl,hO4,hI4,hX4,hb4,hbb4,hr4⟩
   obtain⟨a6,c6,rfl⟩:=hO4.slice
   generalize hnc4:y.code.length=nd at hO4 ⊢
   have hncl4:nd<=l.length:=by rw[<- hnc4];exact px_len (a:=b2+1) (by rw[hr3];exact HX3.out)
   have B4:=B3.step hX4.g hX4.ps
   obtain⟨g4a,g4b⟩:=own_go Qg.lives OG3.out IG3.out (p:=p) oM hX4.g
   obtain⟨g4c,g4d⟩:=own_go Qs.lives O3.out I3.out (p:=p) oM hX4.g
   have OG4:=zH g4a
   have IG4:=zH g4b
   have O4:=zH g4c
   have I4:=zH g4d
   have P4:=zH hO4
   have J4:=zH (hI4.up (B':=w.heap.size+1) oM (Nat.le_refl _))
   have D3:Hid (∀x∈F3,x ∉ F):=fun x hx hm=>by have:=(hI4 x hx).1;have:=(IG3.out x hm).2;omega
   have D13:Hid (∀x∈F1,x ∉ F3):=fun x hx hm=>by have:=(hI4 x hm).1;have:=(I3.out x hx).2;omega
   have HR4:=zH hr4
   clear g4a g4b g4c g4d OG3 IG3 O3 I3 B3 hO4 hI4 hX4 k54 hnc4 hr4
   have k33:=zH (K33.out w4 b4 _ B4 hb4)
   have hsb:=Pl.sepA_le hb4
   by_cases hs:b4<Pl.sepA l b4
   rotate_left 1
   ·have hns:∀r',r2 ≠ .sep::r':=fun r' e=>hs ((Pl.sep_lt HK.out b4).2 ⟨r',by rw[HR4.out,e]⟩)
    have HYN:Hid (Y=none):=by show _=_;rw[HY.out,Pl.pb_col_no HX2.out HX3.out hns];rfl
    rw[decide_eq_false hs] at k33
    clear HY hns HX2 HX3 HR4 K54 K52 K33 OG4 IG4 O4 I4 P4 J4 D1 D3 D13
    generalize Pl.sepA l b4=b5 at *
    go_wp2_with fail
    refine k33.out.mono ?_
    rintro e w5 ⟨rfl,hP5,hg5⟩
    have B5:=B4.step hg5 hP5
    clear k33 hP5 hg5
    obtain⟨_,_,_,_,_,z0,z1,z2,z3,zf⟩:=id B5
    have HE:=zH (B5.end_x oM (.int .i64 0) (.string ⟨#[]⟩) (.slice none 0 0) (.slice none 0 0))
    clear B5 B4
    exact tBod1
   obtain⟨r5,hr5⟩:=(Pl.sep_lt HK.out b4).1 hs
   have HST:Hid (Pl.rI l (Pl.sepA l b4)=Pl.seps r5):=by
    show _=_
    rw[<- Pl.seps_T HK.out _ b4 (Nat.le_refl _),hr5]
    rfl
   have HY2:Hid (Y=Pl.pbA (gs++[(x,y)]) (Pl.pbody N kk (Pl.rI l (Pl.sepA l b4)))):=by
    show _=_
    rw[HY.out,Pl.pb_col (y:=y) (r2:=r5) HX2.out (by rw[HX3.out,<- HR4.out,hr5]),Pl.pbA_cons,HST.out]
   rw[decide_eq_true hs] at k33
   generalize Pl.sepA l b4=b5 at *
   clear HY HX2 HX3 HR4 hr5 HST K54 K52 K33
   go_wp2_with fail
   refine k33.out.mono ?_
   rintro e w5 ⟨rfl,hP5,hg5⟩
   have B5:=zH (B4.step hg5 hP5)
   obtain⟨g5a,g5b⟩:=own_go Qg.lives OG4.out IG4.out (p:=p) oM hg5
   obtain⟨g5c,g5d⟩:=own_go Qs.lives O4.out I4.out (p:=p) oM hg5
   obtain⟨g5e,g5f⟩:=own_go Qs.lives P4.out J4.out (p:=p) oM hg5
   have OG5:=zH g5a
   have IG5:=zH g5b
   have O5:=zH g5c
   have I5:=zH g5d
   have P5:=zH g5e
   have J5:=zH g5f
   clear g5a g5b g5c g5d g5e g5f OG4 IG4 O4 I4 P4 J4 B4 hP5 hg5 k33
   have BA:Below w5.heap.size w5 (w5.alloc (.cells #[.slice a5 nc c5,.slice a6 nd c6] 57)):=(Below.refl _ _).alloc (Nat.le_refl _) _
   have hlw5:=B5.out.lt
   have hone1:=O5.out.one
   go_wp2_with (at_builtin;refine wpList_append_o el35 Qg.lives _ rfl _ _ rfl _ _ _ _ _ rfl rfl (gs.map Pl.gv) [Pl.gv (x,y)] F (F1++F3) [.slice a5 nc c5,.slice a6 nd c6] (w.heap.size+1) ?ho ?hi ?hy ?hG ?hn ?hd ?hm ?hl ?hc ?h1 ?hbd ?hB ?_)
   case ho=>exact OG5.out.below Qg.lives IG5.out BA (Nat.le_refl _)
   case hi=>exact IG5.out.up (Nat.le_refl _) BA.size
   case hy=>exact RowQ.one ⟨_,_,F1,F3,rfl,rfl,O5.out.below Qs.lives I5.out BA (Nat.le_refl _),P5.out.below Qs.lives J5.out BA (Nat.le_refl _)⟩
   case hG=>exact(I5.out.up (Nat.le_refl _) BA.size).app (J5.out.up (Nat.le_refl _) BA.size)
   case hn =>
    obtain⟨_,_,_,_,_,n1⟩:=O5.out
    obtain⟨_,_,_,_,_,n2⟩:=P5.out
    rw[List.nodup_append]
    exact⟨n1,n2,fun x hx y hy e=>D13.out x hx (e ▸ hy)⟩
   case hd =>
    intro x hx
    rcases List.mem_append.1 hx with h|h
    ·exact D1.out x h
    exact D3.out x h
   case hm=>rfl
   case hl=>rfl
   case hc=>exact cells_new sI
   case h1=>intro u hu;simp only[List.mem_cons,List.not_mem_nil,or_false] at hu;rcases hu with rfl | rfl <;> rfl
   case hbd=>rw[List.length_map,HNG.out];simp;omega
   case hB=>simp;omega
   intro v9 w9 F9 ho9 hi9 hg9 _ hf9
   obtain⟨ag9,cg9,rfl⟩:=ho9.slice
   have B9:=zH ((B5.out.keep BA).ofown hg9 (fun q e=>by have h:=(OG5.out.lt q e).1;exact(IG5.out q h).1))
   have hm9:=B9.out.ps.c1
   have HM9:Hid ((gs++[(x,y)]).length=ng+1):=by show _=_;rw[List.length_append,HNG.out];rfl
   have hl9:(gs.map Pl.gv++[Pl.gv (x,y)]).length=ng+1:=by simp[HNG.out]
   rw[hl9] at ho9
   have O9:Hid (OwG w9 (.slice ag9 (ng+1) cg9) ((gs++[(x,y)]).map Pl.gv) F9):=by show Own _ _ _ _ _ _ _;rw[List.map_append];exact ho9
   have I9:=zH hi9
   have HB9:Hid ((bb || x.bey 0 || y.bey 0)=(be || Pl.gsB (gs++[(x,y)]))):=by show _=_;rw[Pl.gsB_app,HBB.out];simp only[Bool.or_assoc]
   rw[hl9]
   clear ho9 hi9 hg9 hf9 hl9 OG5 IG5 O5 I5 P5 J5 B5 BA D1 D3 D13
   go_wp2_with fail
   go_roundw
   case rel=>exact⟨b5,gs++[(x,y)],F9,kk,ag9,ng+1,cg9,bb || x.bey 0 || y.bey 0,rfl,by omega,hsb.2,by omega,HM9.out,by omega,B9,O9,I9,HY2,HB9⟩
   simp[hm1,hm9,intOf];omega
theorem uSmt1 {P:Prop}(h:P:=by simp[results,Tryz.results39,go_sem,StV,z0,z1,z2,z3]):P:=h
theorem PoS.none_ {l:List Pl.Itk}{p cap a:Nat}{ao:Option Addr}{be:Bool}{w w':World}{Y:Option (Pl.S × List Pl.T)}{k:Int}{nm':ByteArray}{a1 a2:Option Addr}{n1 n2 c1 c2 a':Nat}{be':Bool}(hY:Y=none) (h:IxP l p cap ao 0 be' w a' w'):PoS l p cap a ao be w Y (.returned (.tuple #[StV k nm' (.slice a1 n1 c1) (.slice a2 n2 c2),.bool false])) w':=by
 subst hY
 exact⟨k,nm',_,_,a',be',rfl,⟨_,_,_,rfl⟩,⟨_,_,_,rfl⟩,h⟩
theorem eq2 (t:ByteArray):(t.toList == [58,61])=decide (t=⟨#[58,61]⟩):=by
 have e:ByteArray.toList ⟨#[58,61]⟩=[58,61]:=by rw[ByteArray.toList_eq]
 rw[<- ba_eq,e]
theorem eqself (t:ByteArray):(t.toList == [115,101,108,102])=decide (t=⟨#[115,101,108,102]⟩):=by
 have e:ByteArray.toList ⟨#[115,101,108,102]⟩=[115,101,108,102]:=by rw[ByteArray.toList_eq]
 rw[<- ba_eq,e]
theorem PoS.code_ {l:List Pl.Itk}{p cap a mb mo cp:Nat}{ao:Option Addr}{be bb:Bool}{w X:World}{s:Pl.S}{r:List Pl.T}{x:Pl.E}{k:Int}{nm:ByteArray}{a1:Option Addr}{n1 c1 b:Nat}{F:List Nat}(hs:s.tv=⟨k,nm.data.toList,x.code,[]⟩) (hbe:(be || s.bey)=bb) (B:Bs w X l p cap ao mb mo cp b bb) (hO:OwS X (.slice a1 n1 c1) x.code F) (hI:Inb (w.heap.size+1) X F) (hb:b<=l.length) (hl:l.length<=1000000) (hab:a<b) (hr:Pl.rI l b=r) :
  PoS l p cap a ao be w (some (s,r)) (.returned (.tuple #[StV k nm (.slice a1 n1 c1) (.slice none 0 0),.bool true])) (X.setCells w.heap.size 0 [.int .i64 k,.string nm,.slice a1 n1 c1,.slice none 0 0]):=by
 have S6:=own_set Qs.lives hO hI (q:=w.heap.size) (Nat.lt_succ_self _) [.int .i64 k,.string nm,.slice a1 n1 c1,.slice none 0 0]
 have E6:=B.end_x oM (.int .i64 k) (.string nm) (.slice a1 n1 c1) (.slice none 0 0)
 refine⟨.slice a1 n1 c1,.slice none 0 0,F,[],b,?_,?_,?_,S6.2.up (Nat.le_succ _) (Nat.le_refl _),Inb.nil _ _,by simp,by rw[hbe];exact E6,hb,hab,hr⟩
 ·rw[hs];rfl
 ·rw[hs];exact S6.1
 rw[hs];exact Own.nil _
structure Tb (q:Nat) (X:World) (t:Pl.Itk):Prop where
 lt:q<X.heap.size
 c0:X.cell? ⟨q,0,none⟩=some (.int .i64 t.k)
 c1:X.cell? ⟨q,1,none⟩=some (.string t.tx)
theorem Tb.go {q p:Nat}{X X':World}{t:Pl.Itk}(h:Tb q X t) (hp:p ≠ q) (hg:X.grownBy X' (some p)):Tb q X' t:=by
 have e:=hg.block q h.lt (fun e=>by cases e;exact hp rfl)
 have g (j:Nat):X'.cell? ⟨q,j,none⟩=X.cell? ⟨q,j,none⟩:=World.cell?_of_block e
 exact⟨Nat.lt_of_lt_of_le h.lt hg.size,(g 0).trans h.c0,(g 1).trans h.c1⟩
theorem Tb.new (X:World) (t:Pl.Itk):Tb X.heap.size (X.alloc (.cells #[.int .i64 t.k,.string t.tx,.int .i64 t.v] 80)) t:=⟨by simp,by simp[go_sem],by simp[go_sem]⟩
theorem Pl.sgT_nn (l:List UInt8):(∀nm,Pl.sgT l ≠ .arr nm)/\(∀nm,Pl.sgT l ≠ .fn nm):=by
 unfold Pl.sgT
 repeat (split;· exact⟨nofun,nofun⟩)
 exact⟨nofun,nofun⟩
theorem Pl.itT_nn {t:Pl.Itk}(h2:¬t.k=2) (h3:¬t.k=3):(∀nm,Pl.itT t ≠ .arr nm)/\(∀nm,Pl.itT t ≠ .fn nm):=by
 unfold Pl.itT
 by_cases h1:t.k=1
 ·rw[if_pos h1]
  exact⟨nofun,nofun⟩
 rw[if_neg h1,if_neg h2,if_neg h3]
 exact Pl.sgT_nn _
theorem tSmt1 {P:Prop}(h:P:=by
 go_wp2_with fail
 refine bodyPost_ret (v:=.tuple #[StV 0 ⟨#[]⟩ (.slice none 0 0) (.slice none 0 0),.bool false]) uSmt1 rfl (PoS.none_ HYN.out HE.out)
 ):P:=h
theorem stmt_any (N:Nat) (l:List Pl.Itk) (p cap a mb mo cp:Nat) (ao:Option Addr) (be:Bool) (w:World) (hl:l.length<=1000000) (ha:a<=l.length) (hn:2 * l.length+1<=N) (hk:∀t∈l,Pl.iOk t) (hE:Ej w l p ao mb mo cp) (hP:Ps w p ao l.length cap a 0 be) :
  Calls Tryz.prog 39 #[.pointer (some ⟨p,0,none⟩)] w (PoS l p cap a ao be w (Pl.pstmt N N (Pl.rI l a))):=by
 have K54:Hid (∀(X:World) (b:Nat) (bb:Bool),Bs w X l p cap ao mb mo cp b bb->b<=l.length->Calls Tryz.prog 66 #[.pointer (some ⟨p,0,none⟩)] X (PoK l p cap b ao bb X (Pl.pexpr N (Pl.rI l b)))):=fun X b bb h hb=>code_any N l p cap b mb mo cp ao bb X hl hb hn hk h.e h.ps
 have K52:Hid (∀(X:World) (b:Nat) (bb:Bool) (text:ByteArray),Bs w X l p cap ao mb mo cp b bb->b<=l.length->Calls Tryz.prog 64 #[.pointer (some ⟨p,0,none⟩),.string text] X fun e w'=>e=.returned (.bool (decide ((Pl.tkAt l b).tx=text)))/\Ps w' p ao l.length cap (if (Pl.tkAt l b).tx=text then b+1 else b) 0 bb/\X.grownBy w' (some p)):=fun X b bb text h hb=>sign_any l p cap b 0 ao bb text X oM oM h.ps (h.e.r.up (Nat.le_of_lt h.ps.lt))
 have K55:Hid (∀(X:World) (b:Nat) (bb:Bool),Bs w X l p cap ao mb mo cp b bb->b<=l.length->Calls Tryz.prog 67 #[.pointer (some ⟨p,0,none⟩)] X fun e w'=>e=.returned (.agg #[.int .i64 (Pl.tkAt l b).k,.string (Pl.tkAt l b).tx,.int .i64 (Pl.tkAt l b).v])/\Ps w' p ao l.length cap (b+1) 0 bb/\X.grownBy w' (some p)):=fun X b bb h hb=>next_any l p cap b 0 ao bb X oM oM h.ps (h.e.r.up (Nat.le_of_lt h.ps.lt))
 have K56:Hid (∀(X:World) (b:Nat) (bb:Bool) (nm:ByteArray),Bs w X l p cap ao mb mo cp b bb->b<=l.length->Calls Tryz.prog 68 #[.pointer (some ⟨p,0,none⟩),.string nm] X (PoB l p cap b ao bb nm X (Pl.pbody N N (Pl.seps (Pl.rI l b))))):=fun X b bb nm h hb=>body_any N N l p cap b mb mo cp ao bb nm X hl hb hn oM hk h.e h.ps
 have BS0:=zH (Bs.new hE hP)
 have HK:=zH hk
 have k53:=zH (look_any l p cap ao a 1 _ oM oM oM BS0.out.ps.lt BS0.out.ps.c0 BS0.out.ps.c1 (BS0.out.e.r.up (Nat.le_of_lt BS0.out.ps.lt)))
 have hfd:=field68 (Pl.tkAt l (a+1)).k (Pl.tkAt l (a+1)).v (Pl.tkAt l (a+1)).tx
 have hq:=eq2 (Pl.tkAt l (a+1)).tx
 have HAS:=zH (Pl.sgn_at hk (a+1) (c:=[58,61]) (by decide) Pl.tx_asg)
 have hpw:p<w.heap.size:=hP.lt
 generalize hY:Pl.pstmt N N (Pl.rI l a)=Y at *
 have HY0:=zH hY
 clear hE hP hk hY
 by_cases has:(Pl.tkAt l (a+1)).tx=⟨#[58,61]⟩
 rotate_left 1
 ·-- a value
  have HY:Hid (Y=(Pl.pexpr N (Pl.rI l a)).map fun q=>(.val q.1,q.2)):=by
   show _=_
   rw[<- HY0.out]
   refine Pl.ps_val (fun t r e=>has (HAS.out.2 ?_))
   obtain⟨_,h2⟩:=Pl.rI_next e
   exact⟨r,h2⟩
  rw[decide_eq_false has] at hq
  clear HY0 HAS has K52 K55 K56
  generalize Pl.tkAt l (a+1)=t1 at *
  go_enter Tryz.func39,Tryz.ntmps39
  go_wp2_with fail
  refine k53.out.mono ?_
  rintro e w1 ⟨rfl,hb1⟩
  have B1:=BS0.out.keep hb1
  have k54:=zH (K54.out w1 a be B1 ha)
  clear hb1 BS0 k53 K54
  cases hX:Pl.pexpr N (Pl.rI l a) with
  |none =>
   rw[hX] at k54
   have HYN:Hid (Y=none):=by show _=_;rw[HY.out,hX];rfl
   clear hX HY
   go_wp2_with fail
   refine k54.out.mono ?_
   rintro e w2 ⟨a2,be2,rfl,hI2⟩
   have B2:=B1.step hI2.g hI2.ps
   obtain⟨_,_,_,_,_,z0,z1,z2,z3,zf⟩:=id B2
   have HE:=zH (B2.end_x hI2.le (.int .i64 1) (.string ⟨#[]⟩) (.slice none 0 0) (.slice none 0 0))
   clear B2 hI2 k54 B1
   go_wp2_with fail
   refine bodyPost_ret (v:=.tuple #[StV 1 ⟨#[]⟩ (.slice none 0 0) (.slice none 0 0),.bool false]) uSmt1 rfl (PoS.none_ HYN.out HE.out)
  |some q =>
   obtain⟨x,r⟩:=q
   rw[hX] at k54
   have HYS:Hid (Y=some (.val x,r)):=by show _=_;rw[HY.out,hX];rfl
   clear hX HY
   have hlw:=B1.lt
   go_wp2_with fail
   refine k54.out.mono ?_
   rintro e w2 ⟨cv,F1,b2,rfl,hO1,hI1,hX2,hb2,hbb2,hr2⟩
   obtain⟨a5,c5,rfl⟩:=hO1.slice
   have B2:=B1.step hX2.g hX2.ps
   obtain⟨_,_,_,_,_,z0,z1,z2,z3,zf⟩:=id B2
   generalize hnc:x.code.length=nc at hO1 ⊢
   have HP:=zH (PoS.code_ (a:=a) (be:=be) (s:=.val x) (k:=1) (nm:=⟨#[]⟩) rfl rfl B2 hO1 (hI1.up (B':=w.heap.size+1) oM (Nat.le_refl _)) hb2 hl hbb2 hr2)
   clear B2 hO1 hI1 hX2 k54 B1 hr2
   go_wp2_with fail
   refine bodyPost_ret (v:=.tuple #[StV 1 ⟨#[]⟩ (.slice a5 nc c5) (.slice none 0 0),.bool true]) uSmt1 rfl (by rw[HYS.out];exact HP.out)
 -- a name
 obtain⟨r1,hr1⟩:=HAS.out.1 has
 obtain⟨ha1,hr2⟩:=Pl.rI_next hr1
 have HR:Hid (Pl.rI l a=Pl.itT (Pl.tkAt l a)::.asg::r1):=by show _=_;rw[Pl.rI_cons oM,hr1]
 rw[decide_eq_true has] at hq
 have HR2:=zH hr2
 clear HAS has hr1 hr2
 have k55:=zH (fun X h=>K55.out X a be h ha)
 have k55b:=zH (fun X h=>K55.out X (a+1) be h oM)
 clear K55
 generalize Pl.tkAt l (a+1)=t1 at *
 generalize Pl.tkAt l a=t0 at *
 go_enter Tryz.func39,Tryz.ntmps39
 go_wp2_with fail
 refine k53.out.mono ?_
 rintro e w1 ⟨rfl,hb1⟩
 have B1:=BS0.out.keep hb1
 clear hb1 BS0 k53
 go_wp2_with fail
 refine(k55.out w1 B1).mono ?_
 rintro e w2 ⟨rfl,hP2,hg2⟩
 have B2:=B1.step hg2 hP2
 have hlw2:=B2.lt
 have C2:=B2.keep ((Below.refl _ _).alloc (Nat.le_refl _) (.cells #[.int .i64 t0.k,.string t0.tx,.int .i64 t0.v] 80))
 have T2:=Tb.new w2 t0
 clear B1 hP2 hg2 k55 B2
 go_wp2_with fail
 refine(k55b.out _ C2).mono ?_
 rintro e w3 ⟨rfl,hP3,hg3⟩
 have B3:=C2.step hg3 hP3
 have T3:=T2.go (p:=p) oM hg3
 have hq0:=T3.c0
 have hq1:=T3.c1
 have hlt3:=T3.lt
 generalize hqq:w2.heap.size=q at *
 clear C2 T2 hP3 hg3 k55b hqq
 by_cases h2:t0.k=2
 ·-- an array
  have HY:Hid (Y=(Pl.pexpr N r1).map fun q=>(.asg t0.tx.data.toList q.1,q.2)):=by
   show _=_
   have e:Pl.itT t0=.arr t0.tx.data.toList:=by unfold Pl.itT;rw[h2];rfl
   rw[<- HY0.out,HR.out,e,Pl.ps_asg]
  rw[h2] at hq0
  have k54:=zH (K54.out w3 (a+1+1) be B3 oM)
  rw[HR2.out] at k54
  clear HR HY0 K54 K52 K56 h2
  cases hX:Pl.pexpr N r1 with
  |none =>
   rw[hX] at k54
   have HYN:Hid (Y=none):=by show _=_;rw[HY.out,hX];rfl
   clear hX HY
   go_wp2_with fail
   refine k54.out.mono ?_
   rintro e w4 ⟨a4,be4,rfl,hI4⟩
   have B4:=B3.step hI4.g hI4.ps
   have T4:=T3.go (p:=p) oM hI4.g
   have hq1:=T4.c1
   obtain⟨_,_,_,_,_,z0,z1,z2,z3,zf⟩:=id B4
   have HE:=zH (B4.end_x hI4.le (.int .i64 2) (.string t0.tx) (.slice none 0 0) (.slice none 0 0))
   clear B4 hI4 k54 B3 T3 T4
   go_wp2_with fail
   refine bodyPost_ret (v:=.tuple #[StV 2 t0.tx (.slice none 0 0) (.slice none 0 0),.bool false]) uSmt1 rfl (PoS.none_ HYN.out HE.out)
  |some qq =>
   obtain⟨x,r⟩:=qq
   rw[hX] at k54
   have HYS:Hid (Y=some (.asg t0.tx.data.toList x,r)):=by show _=_;rw[HY.out,hX];rfl
   clear hX HY
   have hlw:=B3.lt
   go_wp2_with fail
   refine k54.out.mono ?_
   rintro e w4 ⟨cv,F1,b4,rfl,hO4,hI4,hX4,hb4,hbb4,hr4⟩
   obtain⟨a5,c5,rfl⟩:=hO4.slice
   have B4:=B3.step hX4.g hX4.ps
   have T4:=T3.go (p:=p) oM hX4.g
   have hq1:=T4.c1
   obtain⟨_,_,_,_,_,z0,z1,z2,z3,zf⟩:=id B4
   generalize hnc:x.code.length=nc at hO4 ⊢
   have HP:=zH (PoS.code_ (a:=a) (be:=be) (s:=.asg t0.tx.data.toList x) (k:=2) (nm:=t0.tx) rfl rfl B4 hO4 (hI4.up (B':=w.heap.size+1) oM (Nat.le_refl _)) hb4 hl oM hr4)
   clear B4 hO4 hI4 hX4 k54 B3 T3 T4 hr4
   go_wp2_with fail
   refine bodyPost_ret (v:=.tuple #[StV 2 t0.tx (.slice a5 nc c5) (.slice none 0 0),.bool true]) uSmt1 rfl (by rw[HYS.out];exact HP.out)
 have h2':(t0.k == 2)=false:=by simpa using h2
 by_cases h3:t0.k=3
 rotate_left 1
 ·-- no name
  have h3':(t0.k == 3)=false:=by simpa using h3
  have HYN:Hid (Y=none):=by
   show _=_
   have e:=Pl.itT_nn h2 h3
   rw[<- HY0.out,HR.out]
   exact Pl.ps_no e.1 e.2
  clear HY0 HR HR2 h2 h3 K54 K52 K56
  obtain⟨_,_,_,_,_,z0,z1,z2,z3,zf⟩:=id B3
  have HE:=zH (B3.end_x oM (.int .i64 0) (.string ⟨#[]⟩) (.slice none 0 0) (.slice none 0 0))
  clear B3 T3
  exact tSmt1
 have e3:Hid (Pl.itT t0=.fn t0.tx.data.toList):=by show _=_;unfold Pl.itT;rw[h3];rfl
 have hes:=eqself t0.tx
 by_cases hs:t0.tx=⟨#[115,101,108,102]⟩
 ·-- self
  have HYN:Hid (Y=none):=by
   show _=_
   have e:t0.tx.data.toList=Pl.selfW:=by rw[hs];rfl
   rw[<- HY0.out,HR.out,e3.out,e]
   exact Pl.ps_self
  rw[decide_eq_true hs] at hes
  rw[h3] at hq0 h2'
  clear HY0 HR HR2 e3 hs h2 h3 K54 K52 K56
  obtain⟨_,_,_,_,_,z0,z1,z2,z3,zf⟩:=id B3
  have HE:=zH (B3.end_x oM (.int .i64 0) (.string ⟨#[]⟩) (.slice none 0 0) (.slice none 0 0))
  clear B3 T3
  exact tSmt1
 rw[decide_eq_false hs] at hes
 have k52:=zH (K52.out w3 (a+1+1) be ⟨#[123]⟩ B3 oM)
 have hnsf:t0.tx.data.toList ≠ Pl.selfW:=fun e=>hs ((Pl.self_iff _).2 e)
 by_cases hc:(Pl.tkAt l (a+1+1)).tx=⟨#[123]⟩
 rotate_left 1
 ·have HYN:Hid (Y=none):=by
   show _=_
   have hn:∀r',r1 ≠ .lb::r':=fun r' e=>hc ((Pl.sgn_at HK.out (a+1+1) (c:=[123]) (by decide) Pl.tx_lb).2 ⟨r',by rw[HR2.out,e]⟩)
   rw[<- HY0.out,HR.out,e3.out,Pl.ps_fn_no hn]
  rw[decide_eq_false hc,if_neg hc] at k52
  rw[h3] at hq0 h2'
  clear HY0 HR HR2 e3 hs h2 h3 K54 K52 K56 hc
  go_wp2_with fail
  refine k52.out.mono ?_
  rintro e w4 ⟨rfl,hP4,hg4⟩
  have B4:=B3.step hg4 hP4
  clear k52 T3 hP4 hg4
  obtain⟨_,_,_,_,_,z0,z1,z2,z3,zf⟩:=id B4
  have HE:=zH (B4.end_x oM (.int .i64 0) (.string ⟨#[]⟩) (.slice none 0 0) (.slice none 0 0))
  clear B4 B3
  exact tSmt1
 obtain⟨r2,hr2⟩:=(Pl.sgn_at HK.out (a+1+1) (c:=[123]) (by decide) Pl.tx_lb).1 hc
 obtain⟨ha3,hr3⟩:=Pl.rI_next hr2
 have HY:Hid (Y=(Pl.pbody N N (Pl.seps r2)).map fun q=>(.fn t0.tx.data.toList q.1 q.2.1,q.2.2)):=by
  show _=_
  rw[<- HY0.out,HR.out,e3.out,<- HR2.out,hr2,Pl.ps_fn hnsf]
 rw[decide_eq_true hc,if_pos hc] at k52
 rw[h3] at hq0 h2'
 have HR3:=zH hr3
 clear HY0 HR HR2 e3 hs h2 h3 K54 K52 hc hr2 hr3
 go_wp2_with fail
 refine k52.out.mono ?_
 rintro e w4 ⟨rfl,hP4,hg4⟩
 have B4:=B3.step hg4 hP4
 have T4:=T3.go (p:=p) oM hg4
 have hq1:=T4.c1
 have k56:=zH (K56.out w4 (a+1+1+1) be t0.tx B4 ha3)
 rw[HR3.out] at k56
 have hlw4:=B4.lt
 clear K56 k52 B3 T3 hP4 hg4 hq0
 go_wp2_with fail
 refine k56.out.mono ?_
 intro e w5 hp5
 cases hX:Pl.pbody N N (Pl.seps r2) with
 |none =>
  rw[hX] at hp5
  have HYN:Hid (Y=none):=by show _=_;rw[HY.out,hX];rfl
  obtain⟨k5,nm5,cc5,gg5,a5,be5,rfl,⟨o1,n1,c1,rfl⟩,⟨o2,n2,c2,rfl⟩,hI5⟩:=hp5
  have B5:=B4.step hI5.g hI5.ps
  obtain⟨_,_,_,_,_,z0,z1,z2,z3,zf⟩:=id B5
  have HE:=zH (B5.end_x hI5.le (.int .i64 k5) (.string nm5) (.slice o1 n1 c1) (.slice o2 n2 c2))
  clear hX HY B5 B4 T4 hI5 k56 HR3
  simp only[StV]
  go_wp2_with fail
  refine bodyPost_ret (v:=.tuple #[StV k5 nm5 (.slice o1 n1 c1) (.slice o2 n2 c2),.bool false]) uSmt1 rfl (PoS.none_ HYN.out HE.out)
 |some qq =>
  obtain⟨gs,x,r⟩:=qq
  rw[hX] at hp5
  have HYS:Hid (Y=some (.fn t0.tx.data.toList gs x,r)):=by show _=_;rw[HY.out,hX];rfl
  obtain⟨cc5,gg5,F1,F2,a5,rfl,hO5,hG5,hI5,hJ5,hD5,hX5,hle5,hlt5,hr5⟩:=hp5
  obtain⟨o1,c1,rfl⟩:=hO5.slice
  obtain⟨o2,c2,rfl⟩:=hG5.slice
  have B5:=B4.step hX5.g hX5.ps
  obtain⟨_,_,_,_,_,z0,z1,z2,z3,zf⟩:=id B5
  generalize hn1:x.code.length=n1 at hO5 ⊢
  generalize hn2:(gs.map Pl.gv).length=n2 at hG5 ⊢
  have G6:=own_set Qg.lives hG5 (hJ5.up (B':=w.heap.size+1) oM (Nat.le_refl _)) (q:=w.heap.size) (Nat.lt_succ_self _) [.int .i64 3,.string t0.tx,.slice o1 n1 c1,.slice o2 n2 c2]
  have S6:=own_set Qs.lives hO5 (hI5.up (B':=w.heap.size+1) oM (Nat.le_refl _)) (q:=w.heap.size) (Nat.lt_succ_self _) [.int .i64 3,.string t0.tx,.slice o1 n1 c1,.slice o2 n2 c2]
  have E6:=B5.end_x oM (.int .i64 3) (.string t0.tx) (.slice o1 n1 c1) (.slice o2 n2 c2)
  have HP:Hid (PoS l p cap a ao be w Y (.returned (.tuple #[StV 3 t0.tx (.slice o1 n1 c1) (.slice o2 n2 c2),.bool true])) (w5.setCells w.heap.size 0 [.int .i64 3,.string t0.tx,.slice o1 n1 c1,.slice o2 n2 c2])):=by
   show PoS _ _ _ _ _ _ _ _ _ _
   rw[HYS.out]
   refine⟨_,_,F1,F2,a5,rfl,S6.1,G6.1,S6.2.up (Nat.le_succ _) (Nat.le_refl _),G6.2.up (Nat.le_succ _) (Nat.le_refl _),hD5,?_,hle5,by omega,hr5⟩
   have hbe:(be || Pl.S.bey (.fn t0.tx.data.toList gs x))=(be || Pl.gsB gs || x.bey 0):=by rw[Pl.S.bey,Bool.or_assoc]
   rw[hbe]
   exact E6
  clear hX HY B5 B4 T4 hO5 hG5 hI5 hJ5 hX5 k56 HR3 G6 S6 E6 hr5 hn1 hn2
  simp only[StV]
  go_wp2_with fail
  refine bodyPost_ret (v:=.tuple #[StV 3 t0.tx (.slice o1 n1 c1) (.slice o2 n2 c2),.bool true]) uSmt1 rfl HP.out
end Go.Proofs.YtbiiicbfpcfgdaaGreatDoor
