import Derived.Test.YtbiiicbfpcfgdaaGreatDoorPgr
import Derived.RegionTactic
import Derived.ChangeAlike
namespace Go.Proofs.YtbiiicbfpcfgdaaGreatDoor
open Go.RowKit
set_option maxRecDepth 100000
set_option maxHeartbeats 16000000
set_option linter.unusedVariables false
def PoR (l:List Pl.Itk) (p cap:Nat) (ao:Option Addr) (be:Bool) (w:World) (X:Option (List Pl.S)) (e:Ending) (w':World):Prop:=match X with
 |none=>∃a' be',e=.returned (.tuple #[.slice none 0 0,.bool false])/\IxP l p cap ao 0 be' w a' w'
 |some ss=>∃v F a',e=.returned (.tuple #[v,.bool true])/\OwP w' v (ss.map Pl.S.tv) F/\Inb w.heap.size w' F/\IxP l p cap ao 0 (be || ss.any Pl.S.bey) w a' w'
theorem PoR.none_ {l:List Pl.Itk}{p cap:Nat}{ao:Option Addr}{be:Bool}{w w':World}{Y:Option (List Pl.S)}{a':Nat}{be':Bool}(hY:Y=none) (h:IxP l p cap ao 0 be' w a' w'):PoR l p cap ao be w Y (.returned (.tuple #[.slice none 0 0,.bool false])) w':=by
 subst hY
 exact⟨a',be',rfl,h⟩
structure Pg (w X:World) (l:List Pl.Itk) (p cap:Nat) (ao:Option Addr) (mb mo cp a:Nat) (be:Bool):Prop where
 e:Ej X l p ao mb mo cp
 ps:Ps X p ao l.length cap a 0 be
 g:w.grownBy X (some p)
 pw:p<w.heap.size
section
variable {w X X':World} {l:List Pl.Itk} {p cap:Nat} {ao:Option Addr} {mb mo cp a a':Nat} {be be':Bool}
theorem Pg.step (h:Pg w X l p cap ao mb mo cp a be) (hg:X.grownBy X' (some p)) (hP:Ps X' p ao l.length cap a' 0 be'):Pg w X' l p cap ao mb mo cp a' be' :=
 ⟨h.e.grown (Nat.le_of_lt h.ps.lt) hg,hP,h.g.trans hg,h.pw⟩
theorem Pg.keep (h:Pg w X l p cap ao mb mo cp a be) (hb:Below X.heap.size X X'):Pg w X' l p cap ao mb mo cp a be:=h.step (grown_none hb _) (h.ps.keep hb)
theorem Pg.ofown (h:Pg w X l p cap ao mb mo cp a be) {o:Option Nat}(hg:X.grownBy X' o) (ho:∀q,o=some q->w.heap.size<=q):Pg w X' l p cap ao mb mo cp a be:=by
 have hz:=h.g.size
 have hb:Below w.heap.size X X':=⟨hg.os,hg.tape,hg.output,hg.size,fun k hk=>hg.block k oM (fun e=>by have:=ho k e.symm;omega)⟩
 have hpw:=h.pw
 have ep:X'.heap[p]? = X.heap[p]?:=hb.block _ hpw
 have gp (j:Nat):X'.cell? ⟨p,j,none⟩=X.cell? ⟨p,j,none⟩:=World.cell?_of_block ep
 have hP:=h.ps
 exact⟨h.e.low (hb.mono oM),⟨Nat.lt_of_lt_of_le hP.lt hb.size,(gp 0).trans hP.c0,(gp 1).trans hP.c1,(gp 2).trans hP.c2,(gp 3).trans hP.c3,fun j=>(World.frozen?_of_block (a:=⟨p,j,none⟩) ep).trans (hP.fz j)⟩,grown_then h.g hb (Nat.le_refl _),h.pw⟩
theorem Pg.ix (h:Pg w X l p cap ao mb mo cp a be) (ha:a<=1048590):IxP l p cap ao 0 be w a X:=⟨h.ps,h.g,ha⟩
theorem Pg.start (hE:Ej w l p ao mb mo cp) (hP:Ps w p ao l.length cap a 0 be):Pg w w l p cap ao mb mo cp a be:=⟨hE,hP,World.grownBy.refl _ _,hP.lt⟩
end
def Pl.ppA (ss:List Pl.S) (X:Option (List Pl.S)):Option (List Pl.S):=X.map fun q=>ss++q
theorem Pl.ppA_nil (X:Option (List Pl.S)):Pl.ppA [] X=X:=by cases X <;> rfl
theorem Pl.ppA_cons (ss:List Pl.S) (s:Pl.S) (X:Option (List Pl.S)):Pl.ppA ss (X.map (s::·))=Pl.ppA (ss++[s]) X:=by cases X <;> simp[Pl.ppA]
structure Sb (q:Nat) (X:World) (k:Int) (nm:ByteArray) (o1:Option Addr) (n1 c1:Nat) (o2:Option Addr) (n2 c2:Nat):Prop where
 lt:q<X.heap.size
 d0:X.cell? ⟨q,0,none⟩=some (.int .i64 k)
 d1:X.cell? ⟨q,1,none⟩=some (.string nm)
 d2:X.cell? ⟨q,2,none⟩=some (.slice o1 n1 c1)
 d3:X.cell? ⟨q,3,none⟩=some (.slice o2 n2 c2)
theorem Sb.same {q:Nat}{X X':World}{k:Int}{nm:ByteArray}{o1:Option Addr}{n1 c1:Nat}{o2:Option Addr}{n2 c2:Nat}(h:Sb q X k nm o1 n1 c1 o2 n2 c2) (e:X'.heap[q]? = X.heap[q]?) (hz:X.heap.size<=X'.heap.size):Sb q X' k nm o1 n1 c1 o2 n2 c2:=by
 have g (j:Nat):X'.cell? ⟨q,j,none⟩=X.cell? ⟨q,j,none⟩:=World.cell?_of_block e
 exact⟨Nat.lt_of_lt_of_le h.lt hz,(g 0).trans h.d0,(g 1).trans h.d1,(g 2).trans h.d2,(g 3).trans h.d3⟩
theorem Sb.go {q p:Nat}{X X':World}{k:Int}{nm:ByteArray}{o1:Option Addr}{n1 c1:Nat}{o2:Option Addr}{n2 c2:Nat}(h:Sb q X k nm o1 n1 c1 o2 n2 c2) (hp:p ≠ q) (hg:X.grownBy X' (some p)):Sb q X' k nm o1 n1 c1 o2 n2 c2:=h.same (hg.block q h.lt (fun e=>by cases e;exact hp rfl)) hg.size
theorem Sb.keep {q:Nat}{X X':World}{k:Int}{nm:ByteArray}{o1:Option Addr}{n1 c1:Nat}{o2:Option Addr}{n2 c2:Nat}(h:Sb q X k nm o1 n1 c1 o2 n2 c2) (hb:Below X.heap.size X X'):Sb q X' k nm o1 n1 c1 o2 n2 c2:=h.same (hb.block q h.lt) hb.size
theorem Sb.new (X:World) (k:Int) (nm:ByteArray) (o1:Option Addr) (n1 c1:Nat) (o2:Option Addr) (n2 c2:Nat):Sb X.heap.size (X.alloc (.cells #[.int .i64 k,.string nm,.slice o1 n1 c1,.slice o2 n2 c2] 43)) k nm o1 n1 c1 o2 n2 c2:=⟨by simp,by simp[go_sem],by simp[go_sem],by simp[go_sem],by simp[go_sem]⟩
theorem bdrew (X:World):Below X.heap.size X X.drew:=(Below.refl _ _).drew
theorem tPgm1 {P:Prop}(h:P:=by
 have hbox:=SB3.out
 obtain⟨hbl,d0,d1,d2,d3⟩:=id hbox
 have BA:Below w3.heap.size w3 (w3.alloc (.cells #[.int .i64 s.tv.k,.string (Pl.ba s.tv.nm),.slice o1 n1 c1,.slice o2 n2 c2] 43)):=(Below.refl _ _).alloc (Nat.le_refl _) _
 have hzz:=PG3.out.g.size
 clear hbox
 go_wp2_with (at_builtin;refine wpList_append_o el22 Qt.lives _ rfl _ _ rfl _ _ _ _ _ rfl rfl (ss.map Pl.S.tv) [s.tv] F (F1++F2) [.int .i64 s.tv.k,.string (Pl.ba s.tv.nm),.slice o1 n1 c1,.slice o2 n2 c2] w.heap.size ?ho ?hi ?hy ?hG ?hn ?hd ?hm ?hl ?hc ?h1 ?hbd ?hB ?_)
 case ho=>exact O4.out.below Qt.lives I4.out BA (Nat.le_refl _)
 case hi=>exact I4.out.up (Nat.le_refl _) BA.size
 case hy=>exact RowQ.one ⟨_,_,F1,F2,rfl,rfl,OS4.out.below Qs.lives IS4.out BA (Nat.le_refl _),OQ4.out.below Qg.lives IQ4.out BA (Nat.le_refl _)⟩
 case hG=>exact(IS4.out.up (Nat.le_refl _) BA.size).app (IQ4.out.up (Nat.le_refl _) BA.size)
 case hn =>
  obtain⟨_,_,_,_,_,n1⟩:=OS4.out
  obtain⟨_,_,_,_,_,n2⟩:=OQ4.out
  rw[List.nodup_append]
  exact⟨n1,n2,fun x hx y hy e=>HD.out x hx (e ▸ hy)⟩
 case hd=>exact D1.out
 case hm=>rfl
 case hl=>rfl
 case hc=>exact cells_new sI
 case h1=>intro u hu;simp only[List.mem_cons,List.not_mem_nil,or_false] at hu;rcases hu with rfl | rfl | rfl | rfl <;> rfl
 case hbd=>rw[List.length_map,HNG.out];simp;omega
 case hB=>simp;omega
 intro v9 w9 F9 ho9 hi9 hg9 _ hf9
 obtain⟨ag9,cg9,rfl⟩:=ho9.slice
 have P9:=zH ((PG3.out.keep BA).ofown hg9 (fun q e=>(I4.out q (O4.out.lt q e).1).1))
 have hm9:=P9.out.ps.c1
 have HM9:Hid ((ss++[s]).length=ng+1):=by show _=_;rw[List.length_append,HNG.out];rfl
 have hl9:(ss.map Pl.S.tv++[s.tv]).length=ng+1:=by simp[HNG.out]
 rw[hl9] at ho9
 have O9:Hid (OwP w9 (.slice ag9 (ng+1) cg9) ((ss++[s]).map Pl.S.tv) F9):=by show Own _ _ _ _ _ _ _;rw[List.map_append];exact ho9
 have I9:=zH hi9
 have HB9:Hid ((bb || s.bey)=(be || (ss++[s]).any Pl.S.bey)):=by show _=_;rw[HBB.out];simp[Bool.or_assoc]
 rw[hl9]
 clear ho9 hi9 hg9 hf9 hl9 O4 I4 OS4 IS4 OQ4 IQ4 PG3 BA D1 SB3
 go_wp2_with fail
 go_roundw
 case rel=>exact⟨b3,ss++[s],F9,kk,ag9,ng+1,cg9,bb || s.bey,rfl,by omega,by omega,by omega,HM9.out,by omega,P9,O9,I9,HY2,HB9⟩
 case measure=>simp[hm1,hm9,intOf];omega
 ):P:=h
theorem program_any (N k:Nat) (l:List Pl.Itk) (p cap a mb mo cp:Nat) (ao:Option Addr) (be:Bool) (w:World) (hl:l.length<=1000000) (ha:a<=l.length) (hn:2 * l.length+1<=N) (hkl:l.length<k) (hk:∀t∈l,Pl.iOk t) (hE:Ej w l p ao mb mo cp) (hP:Ps w p ao l.length cap a 0 be) :
  Calls Tryz.prog 16 #[.pointer (some ⟨p,0,none⟩)] w (PoR l p cap ao be w (Pl.pprog N k (Pl.seps (Pl.rI l a)))):=by
 have K34:Hid (∀(X:World) (b:Nat) (bb:Bool),Pg w X l p cap ao mb mo cp b bb->b<=l.length->Calls Tryz.prog 39 #[.pointer (some ⟨p,0,none⟩)] X (PoS l p cap b ao bb X (Pl.pstmt N N (Pl.rI l b)))):=fun X b bb h hb=>stmt_any N l p cap b mb mo cp ao bb X hl hb hn hk h.e h.ps
 have K33:Hid (∀(X:World) (b:Nat) (bb:Bool),Pg w X l p cap ao mb mo cp b bb->b<=l.length->Calls Tryz.prog 38 #[.pointer (some ⟨p,0,none⟩)] X fun e w'=>e=.returned (.bool (decide (b<Pl.sepA l b)))/\Ps w' p ao l.length cap (Pl.sepA l b) 0 bb/\X.grownBy w' (some p)):=fun X b bb h hb=>separators_any l p cap b 0 mb mo cp ao bb X oM oM h.e h.ps
 have PG0:=zH (Pg.start hE hP)
 have HK:=zH hk
 have hsa:=Pl.sepA_le ha
 have HSa:Hid (Pl.seps (Pl.rI l a)=Pl.rI l (Pl.sepA l a)):=Pl.seps_T hk _ a (Nat.le_refl _)
 rw[HSa.out]
 generalize hY:Pl.pprog N k (Pl.rI l (Pl.sepA l a))=Y at *
 have HY0:=zH hY
 have k33:=zH (K33.out _ a be PG0.out ha)
 have hpw:p<w.heap.size:=hP.lt
 clear hE hP hk hY HSa
 go_enter Tryz.func16,Tryz.ntmps16
 go_wp2_with fail
 refine k33.out.mono ?_
 rintro e w1 ⟨rfl,hP1,hg1⟩
 have G1:=zH (PG0.out.step hg1 hP1)
 clear hP1 hg1 k33 PG0
 generalize decide (a<Pl.sepA l a)=bz at *
 generalize hb1:Pl.sepA l a=a1 at *
 clear hb1
 go_wp2_with fail
 go_loopw [4] (fun u wr=>∃(b:Nat) (ss:List Pl.S) (F:List Nat) (kk:Nat) (ag:Option Addr) (ng cg:Nat) (bb:Bool),u=.slice ag ng cg/\a1<=b/\b<=l.length/\ng<=b/\ss.length=ng/\l.length-b<kk/\Hid (Pg w wr l p cap ao mb mo cp b bb)/\Hid (OwP wr (.slice ag ng cg) (ss.map Pl.S.tv) F)/\Hid (Inb w.heap.size wr F)/\Hid (Y=Pl.ppA ss (Pl.pprog N kk (Pl.rI l b)))/\Hid (bb=(be || ss.any Pl.S.bey))) (fun _ wr=>l.length-(intOf ((wr.cell? ⟨p,1,none⟩).getD undef)).toNat)
 case atStart=>exact⟨a1,[],[],k,none,0,0,be,rfl,Nat.le_refl _,hsa.2,Nat.zero_le _,rfl,by omega,G1,Own.nil _,Inb.nil _ _,by show _=_;rw[Pl.ppA_nil];exact HY0.out.symm,by show _=_;simp⟩
 obtain⟨b,ss,F,kk,ag,ng,cg,bb,rfl,hab,hb,hngb,hng,hfu,PG,OG,IG,HY,HBB⟩:=hrel
 have HNG:=zH hng
 clear hng HY0 G1
 obtain⟨kk,rfl⟩:∃m,kk=m+1:=⟨kk-1,by omega⟩
 have hm0:wr.cell? ⟨p,0,none⟩=some (.slice ao l.length cap):=PG.out.ps.c0
 have hm1:wr.cell? ⟨p,1,none⟩=some (.int .i64 b):=PG.out.ps.c1
 have hbd:=bdrew wr
 have PGd:=zH (PG.out.keep hbd)
 have OGd:=zH (OG.out.below Qt.lives IG.out hbd (Nat.le_refl _))
 have IGd:=zH (IG.out.up (Nat.le_refl _) hbd.size)
 clear PG OG IG hbd
 by_cases hlt:b<l.length
 rotate_left 1
 ·have HYS:Hid (Y=some ss):=by
   show _=_
   rw[HY.out,Pl.rI_past oM,Pl.pp_nil]
   simp[Pl.ppA]
  clear HY K33 K34
  have HE:=zH (PGd.out.ix oM)
  go_wp2_with fail
  go_region
  generalize wr.drew=wd at *
  have HP:Hid (PoR l p cap ao be w Y (.returned (.tuple #[.slice ag ng cg,.bool true])) wd):=by
   show PoR _ _ _ _ _ _ _ _ _
   rw[HYS.out]
   exact⟨_,F,b,rfl,OGd.out,IGd.out,by rw[<- HBB.out];exact HE.out⟩
  clear PGd OGd IGd HE HYS
  go_wp2_with fail
  refine bodyPost_ret (v:=.tuple #[.slice ag ng cg,.bool true]) (by simp[results,Tryz.results16,go_sem]) rfl HP.out
 have k34:=zH (K34.out wr.drew b bb PGd.out hb)
 go_wp2_with fail
 go_region
 generalize wr.drew=wd at *
 cases hX:Pl.pstmt N N (Pl.rI l b) with
 |none =>
  rw[hX] at k34
  have HYN:Hid (Y=none):=by show _=_;rw[HY.out,Pl.rI_cons hlt,Pl.pp_none (by rw[<- Pl.rI_cons hlt];exact hX)];rfl
  clear hX HY K33 K34
  go_wp2_with fail
  refine k34.out.mono ?_
  rintro e w2 ⟨k5,nm5,cc5,gg5,a5,be5,rfl,⟨o1,n1,c1,rfl⟩,⟨o2,n2,c2,rfl⟩,hI5⟩
  have P5:=zH (PGd.out.step hI5.g hI5.ps)
  have HE:=zH ((P5.out.keep ((Below.refl _ _).alloc (Nat.le_refl _) (.cells #[.int .i64 k5,.string nm5,.slice o1 n1 c1,.slice o2 n2 c2] 43)).drew).ix hI5.le)
  clear hI5 P5 PGd OGd IGd k34
  simp only[StV]
  go_wp2_with fail
  go_region
  go_wp2_with fail
  refine bodyPost_ret (v:=.tuple #[.slice none 0 0,.bool false]) (by simp[results,Tryz.results16,go_sem]) rfl (PoR.none_ HYN.out HE.out)
 |some q =>
  obtain⟨s,r⟩:=q
  rw[hX] at k34
  have HX:=zH hX
  clear hX
  go_wp2_with fail
  refine k34.out.mono ?_
  rintro e w2 ⟨cc,gg,F1,F2,b2,rfl,hO,hG,hI,hJ,hD,hX2,hle2,hlt2,hr2⟩
  obtain⟨o1,c1,rfl⟩:=hO.slice
  obtain⟨o2,c2,rfl⟩:=hG.slice
  generalize hn1:s.tv.code.length=n1 at hO ⊢
  generalize hn2:s.tv.gs.length=n2 at hG ⊢
  have P2:=PGd.out.step hX2.g hX2.ps
  obtain⟨g1,g2⟩:=own_go Qt.lives OGd.out IGd.out hpw hX2.g
  have hzd:=PGd.out.g.size
  have D1:Hid (∀x∈F1++F2,x ∉ F):=fun x hx hm=>by
   have h2:=(IGd.out x hm).2
   rcases List.mem_append.1 hx with h|h
   ·have:=(hI x h).1;omega
   have:=(hJ x h).1;omega
  have BB:Below w2.heap.size w2 (w2.alloc (.cells #[.int .i64 s.tv.k,.string (Pl.ba s.tv.nm),.slice o1 n1 c1,.slice o2 n2 c2] 43)).drew:=((Below.refl _ _).alloc (Nat.le_refl _) _).drew
  have P3:=zH (P2.keep BB)
  have O3:=zH (g1.below Qt.lives g2 BB (Nat.le_refl _))
  have I3:=zH (g2.up (Nat.le_refl _) BB.size)
  have OS:=zH (hO.below Qs.lives hI BB (Nat.le_refl _))
  have IS:=zH (hI.up (B':=w.heap.size) oM BB.size)
  have OQ:=zH (hG.below Qg.lives hJ BB (Nat.le_refl _))
  have IQ:=zH (hJ.up (B':=w.heap.size) oM BB.size)
  have SB:=zH ((Sb.new w2 s.tv.k (Pl.ba s.tv.nm) o1 n1 c1 o2 n2 c2).keep (bdrew _))
  have hz2:w.heap.size<=w2.heap.size:=by have:=hX2.g.size;omega
  have k33:=zH (K33.out _ b2 _ P3.out hle2)
  have HD:=zH hD
  have HR2:=zH hr2
  clear hO hG hI hJ hX2 P2 g1 g2 BB k34 PGd OGd IGd K33 K34 hD hr2 hn1 hn2
  have hsb:=Pl.sepA_le hle2
  simp only[StV]
  by_cases hs:b2<Pl.sepA l b2
  ·rw[decide_eq_true hs] at k33
   obtain⟨r5,hr5⟩:=(Pl.sep_lt HK.out b2).1 hs
   have HST:Hid (Pl.rI l (Pl.sepA l b2)=Pl.seps r5):=by
    show _=_
    rw[<- Pl.seps_T HK.out _ b2 (Nat.le_refl _),hr5]
    rfl
   have HY2:Hid (Y=Pl.ppA (ss++[s]) (Pl.pprog N kk (Pl.rI l (Pl.sepA l b2)))):=by
    show _=_
    rw[HY.out,Pl.rI_cons hlt,Pl.pp_sep (s:=s) (r:=r5) (by rw[<- Pl.rI_cons hlt,HX.out,<- HR2.out,hr5]),Pl.ppA_cons,HST.out]
   clear HY HST hr5 HX HR2
   generalize hb3:Pl.sepA l b2=b3 at *
   clear hb3
   go_wp2_with fail
   refine wp_region_held (S:=fun W=>True) kR ?_
   change wpAnyH _ _ _ _ _ _ _ _ (World.drew _)
   generalize (w2.alloc (.cells #[.int .i64 s.tv.k,.string (Pl.ba s.tv.nm),.slice o1 n1 c1,.slice o2 n2 c2] 43)).drew=W0 at *
   refine wpAnyH_take (i:=0) (v:=.bool true) rfl kR kR kR (fun _ _ _ h=>h) (Or.inl ⟨by kernel_rfl,fun W hW=>exec_moveq (.tmp 6) (.bool true) rfl kR W⟩) trivial ?_
   refine wpAnyH_take (i:=1) (v:=.bool false) rfl kR kR kR (fun _ _ _ h=>h) (Or.inl ⟨by kernel_rfl,fun W hW=>exec_not (.tmp 24) true false rfl kR rfl W⟩) trivial ?_
   refine wpAnyH_take (i:=2) (v:=.bool false) rfl kR kR kR (fun _ _ _ h=>h) (Or.inl ⟨by kernel_rfl,fun W hW=>exec_moveq (.tmp 25) (.bool false) rfl kR W⟩) trivial ?_
   refine wpAnyH_take (i:=3) (v:=.pointer (some ⟨p,0,none⟩)) rfl kR kR kR (fun _ _ _ h=>h) (Or.inl ⟨by kernel_rfl,fun W hW=>exec_moveq (.tmp 0) (.pointer (some ⟨p,0,none⟩)) rfl kR W⟩) trivial ?_
   refine step_callw (i:=4) kR rfl kR 38 #[.pointer (some ⟨p,0,none⟩)] (exec_call1 38 enter33 (.tmp 27) (.pointer (some ⟨p,0,none⟩)) _ rfl kR W0) ?_
   refine k33.out.mono ?_
   rintro e w3 ⟨rfl,hP3,hg3⟩
   refine⟨_,rfl,trivial,?_⟩
   refine wpAnyH_take (i:=5) (v:=.bool false) rfl kR kR kR (fun _ _ _ h=>h) (Or.inl ⟨by kernel_rfl,fun W hW=>exec_not (.tmp 28) true false rfl kR rfl W⟩) trivial ?_
   refine wpAnyH_take (i:=6) (v:=.bool false) rfl kR kR kR (fun _ _ _ h=>h) (Or.inl ⟨by kernel_rfl,fun W hW=>exec_moveq (.tmp 29) (.bool false) rfl kR W⟩) trivial ?_
   refine wpAnyH_take (i:=7) (v:=undef) rfl kR kR kR (fun _ _ _ h=>h) (Or.inr ⟨by kernel_rfl,rfl⟩) trivial ?_
   refine wpAnyH_take (i:=8) (v:=undef) rfl kR kR kR (fun _ _ _ h=>h) (Or.inr ⟨by kernel_rfl,rfl⟩) trivial ?_
   refine wpAnyH_take (i:=9) (v:=undef) rfl kR kR kR (fun _ _ _ h=>h) (Or.inr ⟨by kernel_rfl,rfl⟩) trivial ?_
   refine wpAnyH_take (i:=10) (v:=undef) rfl kR kR kR (fun _ _ _ h=>h) (Or.inr ⟨by kernel_rfl,rfl⟩) trivial ?_
   refine wpAnyH_take (i:=11) (v:=undef) rfl kR kR kR (fun _ _ _ h=>h) (Or.inr ⟨by kernel_rfl,rfl⟩) trivial ?_
   refine wpAnyH_take (i:=12) (v:=undef) rfl kR kR kR (fun _ _ _ h=>h) (Or.inr ⟨by kernel_rfl,rfl⟩) trivial ?_
   refine wpAnyH_take (i:=13) (v:=undef) rfl kR kR kR (fun _ _ _ h=>h) (Or.inr ⟨by kernel_rfl,rfl⟩) trivial ?_
   refine wpAnyH_take (i:=14) (v:=undef) rfl kR kR kR (fun _ _ _ h=>h) (Or.inr ⟨by kernel_rfl,rfl⟩) trivial ?_
   refine wpAnyH_take (i:=15) (v:=undef) rfl kR kR kR (fun _ _ _ h=>h) (Or.inr ⟨by kernel_rfl,rfl⟩) trivial ?_
   refine wpAnyH_take (i:=16) (v:=undef) rfl kR kR kR (fun _ _ _ h=>h) (Or.inr ⟨by kernel_rfl,rfl⟩) trivial ?_
   refine wpAnyH_take (i:=17) (v:=.bool false) rfl kR kR kR (fun _ _ _ h=>h) (Or.inl ⟨by kernel_rfl,fun W hW=>exec_pick (.tmp 30) (.tmp 40) (.const (.bool false)) false (.bool false) rfl kR rfl W⟩) trivial ?_
   refine wpAnyH_take (i:=18) (v:=.bool false) rfl kR kR kR (fun _ _ _ h=>h) (Or.inl ⟨by kernel_rfl,fun W hW=>exec_pick (.tmp 26) (.const (.bool true)) (.tmp 41) false (.bool false) rfl kR kR W⟩) trivial ?_
   refine wpAnyH_done kR ?_ _
   go_simp
   have hpq:p ≠ w2.heap.size:=by omega
   have PG3:=zH (P3.out.step hg3 hP3)
   obtain⟨x1,x2⟩:=own_go Qt.lives O3.out I3.out hpw hg3
   obtain⟨x3,x4⟩:=own_go Qs.lives OS.out IS.out hpw hg3
   obtain⟨x5,x6⟩:=own_go Qg.lives OQ.out IQ.out hpw hg3
   have O4:=zH x1
   have I4:=zH x2
   have OS4:=zH x3
   have IS4:=zH x4
   have OQ4:=zH x5
   have IQ4:=zH x6
   have SB3:=zH (SB.out.go hpq hg3)
   clear x1 x2 x3 x4 x5 x6 P3 O3 I3 OS IS OQ IQ SB hg3 hP3
   exact tPgm1
  rw[decide_eq_false hs] at k33
  have hb3:Pl.sepA l b2=b2:=by omega
  rw[hb3] at k33
  have hS0:Hid (((w2.alloc (.cells #[.int .i64 s.tv.k,.string (Pl.ba s.tv.nm),.slice o1 n1 c1,.slice o2 n2 c2] 43)).drew).cell? ⟨p,0,none⟩=some (.slice ao l.length cap)/\((w2.alloc (.cells #[.int .i64 s.tv.k,.string (Pl.ba s.tv.nm),.slice o1 n1 c1,.slice o2 n2 c2] 43)).drew).cell? ⟨p,1,none⟩=some (.int .i64 b2)):=⟨P3.out.ps.c0,P3.out.ps.c1⟩
  clear hb3
  go_wp2_with fail
  refine wp_region_held (S:=fun W=>W.cell? ⟨p,0,none⟩=some (.slice ao l.length cap)/\W.cell? ⟨p,1,none⟩=some (.int .i64 b2)) kR ?_
  change wpAnyH _ _ _ _ _ _ _ _ (World.drew _)
  generalize (w2.alloc (.cells #[.int .i64 s.tv.k,.string (Pl.ba s.tv.nm),.slice o1 n1 c1,.slice o2 n2 c2] 43)).drew=W0 at *
  refine wpAnyH_take (i:=0) (v:=.bool true) rfl kR kR kR (fun _ _ _ h=>h) (Or.inl ⟨by kernel_rfl,fun W hW=>exec_moveq (.tmp 6) (.bool true) rfl kR W⟩) hS0.out ?_
  refine wpAnyH_take (i:=1) (v:=.bool false) rfl kR kR kR (fun _ _ _ h=>h) (Or.inl ⟨by kernel_rfl,fun W hW=>exec_not (.tmp 24) true false rfl kR rfl W⟩) hS0.out ?_
  refine wpAnyH_take (i:=2) (v:=.bool false) rfl kR kR kR (fun _ _ _ h=>h) (Or.inl ⟨by kernel_rfl,fun W hW=>exec_moveq (.tmp 25) (.bool false) rfl kR W⟩) hS0.out ?_
  refine wpAnyH_take (i:=3) (v:=.pointer (some ⟨p,0,none⟩)) rfl kR kR kR (fun _ _ _ h=>h) (Or.inl ⟨by kernel_rfl,fun W hW=>exec_moveq (.tmp 0) (.pointer (some ⟨p,0,none⟩)) rfl kR W⟩) hS0.out ?_
  refine step_callw (i:=4) kR rfl kR 38 #[.pointer (some ⟨p,0,none⟩)] (exec_call1 38 enter33 (.tmp 27) (.pointer (some ⟨p,0,none⟩)) _ rfl kR W0) ?_
  refine k33.out.mono ?_
  rintro e w3 ⟨rfl,hP3,hg3⟩
  have hS3:Hid (w3.cell? ⟨p,0,none⟩=some (.slice ao l.length cap)/\w3.cell? ⟨p,1,none⟩=some (.int .i64 b2)):=⟨hP3.c0,hP3.c1⟩
  refine⟨_,rfl,hS3.out,?_⟩
  refine wpAnyH_take (i:=5) (v:=.bool true) rfl kR kR kR (fun _ _ _ h=>h) (Or.inl ⟨by kernel_rfl,fun W hW=>exec_not (.tmp 28) false true rfl kR rfl W⟩) hS3.out ?_
  refine wpAnyH_take (i:=6) (v:=.bool true) rfl kR kR kR (fun _ _ _ h=>h) (Or.inl ⟨by kernel_rfl,fun W hW=>exec_moveq (.tmp 29) (.bool true) rfl kR W⟩) hS3.out ?_
  refine wpAnyH_take (i:=7) (v:=.pointer (some ⟨p,0,none⟩)) rfl kR kR kR (fun _ _ _ h=>h) (Or.inl ⟨by kernel_rfl,fun W hW=>exec_moveq (.tmp 0) (.pointer (some ⟨p,0,none⟩)) rfl kR W⟩) hS3.out ?_
  refine wpAnyH_take (i:=8) (v:=.pointer (some ⟨p,0,none⟩)) rfl kR kR kR (fun _ _ _ h=>h) (Or.inl ⟨by kernel_rfl,fun W hW=>exec_nilp (.tmp 31) p 0 rfl kR W⟩) hS3.out ?_
  refine wpAnyH_take (i:=9) (v:=.pointer (some ⟨p,1,none⟩)) rfl kR kR kR (fun _ _ _ h=>h) (Or.inl ⟨by kernel_rfl,fun W hW=>exec_f46_1 (.tmp 32) p rfl kR W⟩) hS3.out ?_
  refine wpAnyH_take (i:=10) (v:=.int .i64 b2) rfl kR kR kR (fun _ _ _ h=>h) (Or.inl ⟨by kernel_rfl,fun W hW=>exec_load3b (.tmp 33) p 1 b2 W rfl kR hW.2⟩) hS3.out ?_
  refine wpAnyH_take (i:=11) (v:=.pointer (some ⟨p,0,none⟩)) rfl kR kR kR (fun _ _ _ h=>h) (Or.inl ⟨by kernel_rfl,fun W hW=>exec_moveq (.tmp 0) (.pointer (some ⟨p,0,none⟩)) rfl kR W⟩) hS3.out ?_
  refine wpAnyH_take (i:=12) (v:=.pointer (some ⟨p,0,none⟩)) rfl kR kR kR (fun _ _ _ h=>h) (Or.inl ⟨by kernel_rfl,fun W hW=>exec_nilp (.tmp 35) p 0 rfl kR W⟩) hS3.out ?_
  refine wpAnyH_take (i:=13) (v:=.pointer (some ⟨p,0,none⟩)) rfl kR kR kR (fun _ _ _ h=>h) (Or.inl ⟨by kernel_rfl,fun W hW=>exec_f46_0 (.tmp 36) p rfl kR W⟩) hS3.out ?_
  refine wpAnyH_take (i:=14) (v:=.slice ao l.length cap) rfl kR kR kR (fun _ _ _ h=>h) (Or.inl ⟨by kernel_rfl,fun W hW=>exec_load41 (.tmp 37) p 0 ao l.length cap W rfl kR hW.1⟩) hS3.out ?_
  refine wpAnyH_take (i:=15) (v:=.int .i64 l.length) rfl kR kR kR (fun _ _ _ h=>h) (Or.inl ⟨by kernel_rfl,fun W hW=>exec_len41 (.tmp 38) ao l.length cap rfl kR W⟩) hS3.out ?_
  by_cases hl2:b2<l.length
  ·have HYN:Hid (Y=none):=by
    show _=_
    have hr:r=Pl.itT (Pl.tkAt l b2)::Pl.rI l (b2+1):=by rw[<- HR2.out,Pl.rI_cons hl2]
    have hne:Pl.itT (Pl.tkAt l b2) ≠ .sep:=fun e=>hs ((Pl.sep_lt HK.out b2).2 ⟨Pl.rI l (b2+1),by rw[HR2.out,hr,e]⟩)
    rw[HY.out,Pl.rI_cons hlt,Pl.pp_no hne (by rw[<- Pl.rI_cons hlt,HX.out,<- hr])]
    rfl
   have HLL:=zH (show decide ((b2:Int)<(l.length:Int))=true from decide_eq_true oM)
   clear HY HX HR2
   refine wpAnyH_take (i:=16) (v:=.bool true) rfl kR kR kR (fun _ _ _ h=>h) (Or.inl ⟨by kernel_rfl,fun W hW=>exec_lss3 (.tmp 34) (.tmp 39) b2 l.length true rfl kR kR HLL.out W⟩) hS3.out ?_
   refine wpAnyH_take (i:=17) (v:=.bool true) rfl kR kR kR (fun _ _ _ h=>h) (Or.inl ⟨by kernel_rfl,fun W hW=>exec_pick (.tmp 30) (.tmp 40) (.const (.bool false)) true (.bool true) rfl kR kR W⟩) hS3.out ?_
   refine wpAnyH_take (i:=18) (v:=.bool true) rfl kR kR kR (fun _ _ _ h=>h) (Or.inl ⟨by kernel_rfl,fun W hW=>exec_pick (.tmp 26) (.const (.bool true)) (.tmp 41) false (.bool true) rfl kR kR W⟩) hS3.out ?_
   refine wpAnyH_done kR ?_ _
   go_simp
   have HE:=zH ((P3.out.step hg3 hP3).ix oM)
   clear P3 O3 I3 OS IS OQ IQ SB hg3 hP3
   go_wp2_with fail
   refine bodyPost_ret (v:=.tuple #[.slice none 0 0,.bool false]) (by simp[results,Tryz.results16,go_sem]) rfl (PoR.none_ HYN.out HE.out)
  have hr:r=[]:=by rw[<- HR2.out,Pl.rI_past oM]
  have HY2:Hid (Y=Pl.ppA (ss++[s]) (Pl.pprog N kk (Pl.rI l b2))):=by
   show _=_
   rw[HY.out,Pl.rI_cons hlt,Pl.pp_last (s:=s) (by rw[<- Pl.rI_cons hlt,HX.out,hr]),Pl.rI_past oM,Pl.pp_nil]
   simp[Pl.ppA]
  have HLL:=zH (show decide ((b2:Int)<(l.length:Int))=false from decide_eq_false oM)
  clear HY HX HR2 hr
  refine wpAnyH_take (i:=16) (v:=.bool false) rfl kR kR kR (fun _ _ _ h=>h) (Or.inl ⟨by kernel_rfl,fun W hW=>exec_lss3 (.tmp 34) (.tmp 39) b2 l.length false rfl kR kR HLL.out W⟩) hS3.out ?_
  refine wpAnyH_take (i:=17) (v:=.bool false) rfl kR kR kR (fun _ _ _ h=>h) (Or.inl ⟨by kernel_rfl,fun W hW=>exec_pick (.tmp 30) (.tmp 40) (.const (.bool false)) true (.bool false) rfl kR kR W⟩) hS3.out ?_
  refine wpAnyH_take (i:=18) (v:=.bool false) rfl kR kR kR (fun _ _ _ h=>h) (Or.inl ⟨by kernel_rfl,fun W hW=>exec_pick (.tmp 26) (.const (.bool true)) (.tmp 41) false (.bool false) rfl kR kR W⟩) hS3.out ?_
  refine wpAnyH_done kR ?_ _
  go_simp
  have hpq:p ≠ w2.heap.size:=by omega
  have PG3:=zH (P3.out.step hg3 hP3)
  obtain⟨x1,x2⟩:=own_go Qt.lives O3.out I3.out hpw hg3
  obtain⟨x3,x4⟩:=own_go Qs.lives OS.out IS.out hpw hg3
  obtain⟨x5,x6⟩:=own_go Qg.lives OQ.out IQ.out hpw hg3
  have O4:=zH x1
  have I4:=zH x2
  have OS4:=zH x3
  have IS4:=zH x4
  have OQ4:=zH x5
  have IQ4:=zH x6
  have SB3:=zH (SB.out.go hpq hg3)
  clear x1 x2 x3 x4 x5 x6 P3 O3 I3 OS IS OQ IQ SB hg3 hP3
  obtain⟨b3,rfl⟩:∃b3,b3=b2:=⟨b2,rfl⟩
  exact tPgm1
namespace Pl
theorem asg_is {l:List Tok}(hl:∀t∈l,kOk t.k) {k:Nat}(h:k<l.length):isV l k ⟨#[58,61]⟩=true ↔ tkT (tq l k)=.asg:=by
 have a0:isV l k ⟨#[58,61]⟩=decide (sgTx (tkT (tq l k))=[58,61]):=isV_in hl (c:=[58,61]) (by decide) h
 rw[a0]
 cases tkT (tq l k) <;> simp[sgTx]
theorem lb_is {l:List Tok}(hl:∀t∈l,kOk t.k) {k:Nat}(h:k<l.length):isV l k ⟨#[123]⟩=true ↔ tkT (tq l k)=.lb:=by
 have a0:isV l k ⟨#[123]⟩=decide (sgTx (tkT (tq l k))=[123]):=isV_in hl (c:=[123]) (by decide) h
 rw[a0]
 cases tkT (tq l k) <;> simp[sgTx]
theorem rb_is {l:List Tok}(hl:∀t∈l,kOk t.k) {k:Nat}(h:k<l.length):isV l k ⟨#[125]⟩=true ↔ tkT (tq l k)=.rb:=by
 have a0:isV l k ⟨#[125]⟩=decide (sgTx (tkT (tq l k))=[125]):=isV_in hl (c:=[125]) (by decide) h
 rw[a0]
 cases tkT (tq l k) <;> simp[sgTx]
theorem isV_past {l:List Tok}{k:Nat}(h:l.length<=k) (c:ByteArray):isV l k c=false:=by
 unfold isV
 rw[if_pos oM,List.getElem?_eq_none oM]
theorem map_cons {l:List Tok}(h:0<l.length):l.map tkT=tkT (tq l 0)::(l.drop 1).map tkT:=by
 cases l with
 |nil=>simp at h
 |cons a l=>rfl
theorem map_two {l:List Tok}(h:1<l.length):l.map tkT=tkT (tq l 0)::tkT (tq l 1)::(l.drop 2).map tkT:=by
 match l,h with
 |a::b::l,_=>rfl
theorem map_three {l:List Tok}(h:2<l.length):l.map tkT=tkT (tq l 0)::tkT (tq l 1)::tkT (tq l 2)::(l.drop 3).map tkT:=by
 match l,h with
 |a::b::c::l,_=>rfl
theorem kind_fn {t:Tok}(h:kOk t.k):(t.k=70 ↔ tkT t=.fn t.tx.data.toList):=by
 obtain⟨k,tx,v,p⟩:=t
 simp only at h
 unfold tkT
 simp only
 rcases h with rfl|rfl|rfl|rfl|rfl
 ·simp
 ·simp
 ·simp
 ·simp
 rw[if_neg (by decide),if_neg (by decide),if_neg (by decide),if_neg (by decide)]
 constructor
 ·intro h;exact absurd h (by decide)
 intro h
 exfalso
 unfold sgT at h
 repeat (split at h <;> first | cases h | skip)
theorem no_arr {t:Tok}(h:kOk t.k) (h1:¬t.k=119) (nm:List UInt8):tkT t ≠ .arr nm:=fun e=>by
 obtain⟨k,tx,v,p⟩:=t
 simp only at h h1
 unfold tkT at e
 simp only at e
 rcases h with rfl|rfl|rfl|rfl|rfl
 ·simp at e
 ·exact h1 rfl
 ·simp at e
 ·simp at e
 rw[if_neg (by decide),if_neg (by decide),if_neg (by decide),if_neg (by decide)] at e
 unfold sgT at e
 repeat (split at e <;> first | cases e | skip)
theorem no_fn {t:Tok}(h:kOk t.k) (h1:¬t.k=70) (nm:List UInt8):tkT t ≠ .fn nm:=fun e=>by
 obtain⟨k,tx,v,p⟩:=t
 simp only at h h1
 unfold tkT at e
 simp only at e
 rcases h with rfl|rfl|rfl|rfl|rfl
 ·simp at e
 ·simp at e
 ·exact h1 rfl
 ·simp at e
 rw[if_neg (by decide),if_neg (by decide),if_neg (by decide),if_neg (by decide)] at e
 unfold sgT at e
 repeat (split at e <;> first | cases e | skip)
theorem rstmt_val {n:Nat}{l:List Tok}(h:¬isV l 1 ⟨#[58,61]⟩=true) (hk:∀t∈l,kOk t.k):rstmt n (l.map tkT)=(rexpr n (l.map tkT)).map .val:=by
 have hd:rstmt n (l.map tkT)=match rexpr n (l.map tkT) with | some e=>some (.val e) | none=>none:=by
  refine rstmt_default ?_
  by_cases h2:1<l.length
  ·rw[map_two h2]
   have:tkT (tq l 1) ≠ .asg:=fun e=>h ((asg_is hk h2).2 e)
   intro t r e
   exact this (List.cons.inj (List.cons.inj e).2).1
  match l,h2 with
  |[],_=>intro t r e;cases e
  |[a],_=>intro t r e;cases e
  |a::b::l,h2=>simp at h2
 rw[hd]
 cases rexpr n (l.map tkT) <;> rfl
theorem rstmt_other {n:Nat}{l:List Tok}(hk:∀t∈l,kOk t.k) (h2:1<l.length) (ha:isV l 1 ⟨#[58,61]⟩=true) (h1:¬(tq l 0).k=119) (h3:¬(tq l 0).k=70):rstmt n (l.map tkT)=(rexpr n (l.map tkT)).map .val:=by
 rw[map_two h2,(asg_is hk h2).1 ha]
 have e1:=no_arr (hk _ (tq_mem (show 0<l.length by omega))) h1
 have e2:=no_fn (hk _ (tq_mem (show 0<l.length by omega))) h3
 generalize tkT (tq l 0)=t at *
 cases t <;> first
  |exact absurd rfl (e1 _)
  |exact absurd rfl (e2 _)
  |(simp only[rstmt];generalize rexpr n _=q;cases q <;> rfl)
theorem rstmt_asg {n:Nat}{l:List Tok}(hk:∀t∈l,kOk t.k) (h2:1<l.length) (ha:isV l 1 ⟨#[58,61]⟩=true) (h1:(tq l 0).k=119):rstmt n (l.map tkT)=(rexpr n ((l.drop 2).map tkT)).map (.asg (tq l 0).tx.data.toList):=by
 rw[map_two h2,(asg_is hk h2).1 ha,(kind_arr (hk _ (tq_mem (show 0<l.length by omega)))).1 h1,rstmt]
 cases rexpr n ((l.drop 2).map tkT) <;> rfl
theorem rexpr_asg {n:Nat}{l:List Tok}(hk:∀t∈l,kOk t.k) (h2:1<l.length) (ha:isV l 1 ⟨#[58,61]⟩=true):rexpr n (l.map tkT)=none:=by
 cases h:rexpr n (l.map tkT) with
 |none=>rfl
 |some e =>
  have h1:=((rsound n).1 _ _ h).1
  have h3:=E.ein e .asg (by rw[<- h1,map_two h2,(asg_is hk h2).1 ha];simp)
  simp[ein] at h3
theorem rstmt_fn_eq (n:Nat) (nm:List UInt8) (r:List T):rstmt n (.fn nm::.asg::r)=if nm=selfW then none else match r with | .lb::r2=>(match r2.reverse with | .rb::r3=>(match rbd n (rsp 0 [] r3.reverse) with | some (gs,e)=>some (.fn nm gs e) | none=>none) | _=>none) | _=>none:=by
 cases r with
 |nil=>rfl
 |cons t r=>cases t <;> rfl
theorem rstmt_self {n:Nat}{l:List Tok}(hk:∀t∈l,kOk t.k) (h2:1<l.length) (ha:isV l 1 ⟨#[58,61]⟩=true) (h1:(tq l 0).k=70) (hs:(tq l 0).tx.data.toList=selfW):rstmt n (l.map tkT)=(rexpr n (l.map tkT)).map .val:=by
 rw[rexpr_asg hk h2 ha,map_two h2,(asg_is hk h2).1 ha,(kind_fn (hk _ (tq_mem (show 0<l.length by omega)))).1 h1,rstmt_fn_eq,if_pos hs]
 rfl
theorem rstmt_fn {n:Nat}{l:List Tok}(hk:∀t∈l,kOk t.k) (h2:1<l.length) (ha:isV l 1 ⟨#[58,61]⟩=true) (h1:(tq l 0).k=70) (hs:¬(tq l 0).tx.data.toList=selfW):rstmt n (l.map tkT)=if l.length<4\/¬isV l 2 ⟨#[123]⟩=true\/¬isV l ((l.length:Int)-1) ⟨#[125]⟩=true then none else (rbd n (rsp 0 [] (((l.take (l.length-1)).drop 3).map tkT))).map fun q=>.fn (tq l 0).tx.data.toList q.1 q.2:=by
 have e0:rstmt n (l.map tkT)=match (l.drop 2).map tkT with | .lb::r2=>(match r2.reverse with | .rb::r3=>(match rbd n (rsp 0 [] r3.reverse) with | some (gs,e)=>some (.fn (tq l 0).tx.data.toList gs e) | none=>none) | _=>none) | _=>none:=by
  rw[map_two h2,(asg_is hk h2).1 ha,(kind_fn (hk _ (tq_mem (show 0<l.length by omega)))).1 h1,rstmt_fn_eq,if_neg hs]
 rw[e0]
 by_cases h3:2<l.length
 rotate_left 1
 ·rw[if_pos (.inl oM),List.drop_eq_nil_of_le oM]
  rfl
 have hd2:(l.drop 2).map tkT=tkT (tq l 2)::(l.drop 3).map tkT:=by
  have:=map_three h3
  rw[map_two (show 1<l.length by omega)] at this
  exact(List.cons.inj (List.cons.inj this).2).2
 rw[hd2]
 by_cases hlb:isV l 2 ⟨#[123]⟩=true
 rotate_left 1
 ·rw[if_pos (.inr (.inl hlb))]
  have hne:tkT (tq l 2) ≠ .lb:=fun e=>hlb ((lb_is (k:=2) hk h3).2 e)
  generalize tkT (tq l 2)=t at *
  cases t <;> first | exact absurd rfl hne | rfl
 have hlb':tkT (tq l 2)=.lb:=(lb_is (k:=2) hk h3).1 hlb
 rw[hlb']
 simp only
 by_cases h4:3<l.length
 rotate_left 1
 ·rw[if_pos (.inl oM),List.drop_eq_nil_of_le oM]
  rfl
 have hlast:(l.drop 3).map tkT=((l.take (l.length-1)).drop 3).map tkT++[tkT (tq l (l.length-1))]:=by
  have h5:l=l.take (l.length-1)++[tq l (l.length-1)]:=by
   have:=List.take_add_one (l:=l) (i:=l.length-1)
   rw[show l.length-1+1=l.length by omega,List.take_length,List.getElem?_eq_getElem oM] at this
   unfold tq
   rw[List.getElem?_eq_getElem oM]
   exact this
  have h6:=congrArg (fun x=>(x.drop 3).map tkT) h5
  rw[List.drop_append_of_le_length (by simp;omega),List.map_append] at h6
  exact h6
 rw[hlast,List.reverse_append,List.reverse_singleton,List.singleton_append]
 have hrbi:=rb_is hk (show l.length-1<l.length by omega)
 rw[show ((l.length-1:Nat):Int)=(l.length:Int)-1 by omega] at hrbi
 by_cases hrb:isV l ((l.length:Int)-1) ⟨#[125]⟩=true
 ·rw[hrbi.1 hrb,if_neg (by rintro (h | h | h);omega;exact h hlb;exact h hrb)]
  change (match rbd n (rsp 0 [] (List.reverse (List.reverse (((l.take (l.length-1)).drop 3).map tkT)))) with | some (gs,e)=>some (S.fn (tq l 0).tx.data.toList gs e) | none=>none)=_
  rw[List.reverse_reverse]
  cases rbd n (rsp 0 [] (((l.take (l.length-1)).drop 3).map tkT)) with
  |none=>rfl
  |some q=>rfl
 rw[if_pos (.inr (.inr hrb))]
 have hne:tkT (tq l (l.length-1)) ≠ .rb:=fun e=>hrb (hrbi.2 e)
 generalize tkT (tq l (l.length-1))=t at *
 cases t <;> first | exact absurd rfl hne | rfl
end Pl
end Go.Proofs.YtbiiicbfpcfgdaaGreatDoor
