import Derived.Test.YtbiiicbfpcfgdaaGreatDoorExp
import Derived.Test.YtbiiicbfpcfgdaaGreatDoorSu2a
import Derived.Test.YtbiiicbfpcfgdaaGreatDoorSu3a
import Derived.Test.YtbiiicbfpcfgdaaGreatDoorSm3
import Derived.Test.YtbiiicbfpcfgdaaGreatDoorSpr
namespace Go.Proofs.YtbiiicbfpcfgdaaGreatDoor
open Go.RowKit
set_option maxRecDepth 100000
set_option maxHeartbeats 16000000
set_option linter.unusedVariables false
namespace Pl
theorem gtx_len {l:List Gv}{P:List UInt8}(h:gtx nt l=some P):P.length<=40 * gsum l l.length+5 * l.length:=by
 have:=gx_len (gtx_get h) l.length (Nat.le_refl _)
 rw[gx_all h] at this
 exact this
theorem gtx_step {l:List Gv}{k:Nat}{g:Gv}(h:l[k]? = some g) {P a b:List UInt8}(hp:gtx nt (l.take k)=some P) (ha:xt nt g.test=some a) (hb:xt nt g.thn=some b):gtx nt (l.take (k+1))=some (P++(a++[32,58,32]++b++[59,32])):=by
 rw[List.take_add_one,h]
 show gtx nt (l.take k++[g])=_
 rw[gtx_snoc,hp,ha,hb]
theorem gsum_take (l:List Gv) (k:Nat) (hk:k<=l.length):gsum (l.take k) (l.take k).length<=gsum l l.length:=by
 have h1:=gsum_le l k
 have h2:(l.take k).length=k:=by rw[List.length_take];omega
 rw[h2]
 unfold gsum at *
 rw[List.take_take,Nat.min_self]
 exact h1
end Pl
theorem tGtx1 {P:Prop}(h:P:=by
 go_wp2_with fail
 refine(K1.out _ (BA.out _)).mono ?_
 rintro e w2 ⟨rfl,hb2⟩
 have d1:=CC.out _ _ 1 _ hb2 sI (by simp[go_sem];rfl)
 have H2:=zH ((BA.out _).trans (hb2.mono sI))
 clear hb2
 go_wp2_with (go_at_call 75;refine(K2.out _ H2.out).mono ?_;rintro e w3 ⟨rfl,hb3⟩)
 go_ret2
 exact⟨ret_x (by rw[HR.out];rfl) (by rw[HR.out];rfl),BB.out.trans ((H2.out.trans (hb3.mono H2.out.size)).mono hbs)⟩
 ):P:=h
theorem guardsText_any (gs:List Pl.Gv) (ao:Option Addr) (cap mb mo cp:Nat) (hsm:∀g∈gs,Pl.Small g.test/\Pl.Small g.thn) (hz:gs.length+Pl.gsum gs gs.length<=1048576) (w:World) (he:Ev w mb mo cp) (hR:RdG w.heap.size w ao gs) :
  Calls Tryz.prog 76 #[.slice ao gs.length cap] w fun e w'=>e=.returned (.tuple #[.string (Pl.ba ((Pl.gtx Pl.nt gs).getD [])),.bool (Pl.gtx Pl.nt gs).isSome])/\Below w.heap.size w w':=by
 have HG:Hid (∀k,k<gs.length->∃g b off,gs[k]? = some g/\g∈gs/\ao=some ⟨b,off,none⟩/\b<w.heap.size/\∃a1 a2 c1 c2,∀w',Below w.heap.size w w'->Gd w.heap.size w' b (off+k * 2) g a1 a2 c1 c2):=fun k hk=>by
  rcases hR with rfl|⟨b,off,hb,rfl,hc⟩
  ·cases hk
  obtain⟨a1,a2,c1,c2,h⟩:=hc k gs[k] (List.getElem?_eq_getElem hk)
  exact⟨gs[k],b,off,List.getElem?_eq_getElem hk,List.getElem_mem hk,rfl,hb,a1,a2,c1,c2,fun w' hw=>h.keep hb hw⟩
 have HN:Hid (∀g∈gs,(Pl.xt Pl.nt g.test=none\/Pl.xt Pl.nt g.thn=none)->Pl.gtx Pl.nt gs=none):=fun g hg h=>Pl.gtx_none hg h
 have HS:Hid (∀k g P a b,gs[k]? = some g->Pl.gtx Pl.nt (gs.take k)=some P->Pl.xt Pl.nt g.test=some a->Pl.xt Pl.nt g.thn=some b->Pl.gtx Pl.nt (gs.take (k+1))=some (P++(a++[32,58,32]++b++[59,32]))):=fun k g P a b h1 h2 h3 h4=>Pl.gtx_step h1 h2 h3 h4
 have HL:Hid (∀k P,k<=gs.length->Pl.gtx Pl.nt (gs.take k)=some P->P.length<=100000000):=fun k P hk h=>by
  have h1:=Pl.gtx_len h
  have h2:=Pl.gsum_take gs k hk
  have h3:(gs.take k).length<=gs.length:=by rw[List.length_take];omega
  omega
 have HE:Hid (∀P,Pl.gtx Pl.nt (gs.take gs.length)=some P->Pl.gtx Pl.nt gs=some P):=fun P h=>by rwa [List.take_length] at h
 have HP:Hid (∀k P,0<k->k<=gs.length->Pl.gtx Pl.nt (gs.take k)=some P->P ≠ []):=fun k P h0 hk h=>by
  obtain⟨j,rfl⟩:∃j,k=j+1:=⟨k-1,by omega⟩
  have hj:j<gs.length:=hk
  have hmem:gs[j]∈gs.take (j+1):=by
   rw[List.take_add_one,List.getElem?_eq_getElem hj]
   exact List.mem_append_right _ (List.mem_cons_self ..)
  obtain⟨a,b,ha,hb⟩:=Pl.gtx_get h _ hmem
  cases e:Pl.gtx Pl.nt (gs.take j) with
  |none =>
   have:Pl.gtx Pl.nt (gs.take (j+1))=none:=by
    rw[List.take_add_one,List.getElem?_eq_getElem hj]
    show Pl.gtx Pl.nt (gs.take j++[gs[j]])=none
    rw[Pl.gtx_snoc,e]
   rw[this] at h;cases h
  |some P0 =>
   rw[Pl.gtx_step (List.getElem?_eq_getElem hj) e ha hb] at h
   rw[<- Option.some.inj h]
   simp
 have HX:Hid (∀g∈gs,∀(ao':Option Addr) (cap':Nat) w',Below w.heap.size w w'->(RdS w.heap.size w' ao' g.test->Calls Tryz.prog 75 #[.slice ao' g.test.length cap'] w' fun e w2=>e=.returned (.tuple #[.string (Pl.ba ((Pl.xt Pl.nt g.test).getD [])),.bool (Pl.xt Pl.nt g.test).isSome])/\Below w'.heap.size w' w2)/\(RdS w.heap.size w' ao' g.thn->Calls Tryz.prog 75 #[.slice ao' g.thn.length cap'] w' fun e w2=>e=.returned (.tuple #[.string (Pl.ba ((Pl.xt Pl.nt g.thn).getD [])),.bool (Pl.xt Pl.nt g.thn).isSome])/\Below w'.heap.size w' w2)):=fun g hg ao' cap' w' h=>⟨fun hr=>exprText_any g.test ao' cap' mb mo cp (hsm g hg).1 w' (he.keep h) (hr.up h.size),fun hr=>exprText_any g.thn ao' cap' mb mo cp (hsm g hg).2 w' (he.keep h) (hr.up h.size)⟩
 have HXL:Hid (∀g∈gs,(Pl.ba ((Pl.xt Pl.nt g.test).getD [])).size<=50000000/\(Pl.ba ((Pl.xt Pl.nt g.thn).getD [])).size<=50000000):=fun g hg=>by
  have h1:=(hsm g hg).1.sz
  have h2:=(hsm g hg).2.sz
  constructor
  ·cases e:Pl.xt Pl.nt g.test with
   |none=>simp[Pl.ba_size]
   |some x=>have:=Pl.xt_len e;show x.length<=_;omega
  cases e:Pl.xt Pl.nt g.thn with
  |none=>simp[Pl.ba_size]
  |some x=>have:=Pl.xt_len e;show x.length<=_;omega
 have T0:=zH (Tx.new w)
 have B0:Hid (Below w.heap.size w (w.alloc (.cells #[.pointer none,.slice none 0 0] 98))):=(Below.refl _ _).alloc (Nat.le_refl _) _
 have C0:Hid ((w.alloc (.cells #[.pointer none,.slice none 0 0] 98)).cell? ⟨w.heap.size,1,none⟩=some (.slice none 0 0)):=by show _=_;simp[go_sem]
 have hln:gs.length<=1048576:=by omega
 clear hR he hsm hz
 generalize hx:Pl.gtx Pl.nt gs=x at *
 clear hx
 generalize hn:gs.length=n at *
 clear hn
 go_enter Tryz.func76,Tryz.ntmps76
 go_wp2_with fail
 go_loopw [13] (fun iv wr=>∃(k:Nat) (P:List UInt8),k<=n/\iv=.int .i64 k/\Hid (Pl.gtx Pl.nt (gs.take k)=some P/\Tx w.heap.size w.heap.size P wr/\(k=0->wr.cell? ⟨w.heap.size,1,none⟩=some (.slice none 0 0)))/\Hid (Below w.heap.size w wr)) (fun iv _=>n-(intOf iv).toNat)
 case atStart=>exact⟨0,[],Nat.zero_le _,rfl,⟨rfl,T0.out,fun _=>C0.out⟩,B0⟩
 rename World=>wo
 obtain⟨k,P,hk,rfl,HH,BB⟩:=hrel
 have hbs:=BB.out.size
 have hpl:=HL.out k P hk HH.out.1
 by_cases hlt:k<n
 rotate_left 1
 ·obtain rfl:k=n:=by omega
  obtain⟨h1,h2,h3⟩:=HH.out
  have HR:=zH (HE.out P h1)
  by_cases k0:k=0
  ·have hcell:=h3 k0
   have hP:P=[]:=by
    rw[k0] at h1
    exact(Option.some.inj h1).symm
   have K:=zH (tx_nil w.heap.size wo hcell)
   have HPN:=zH hP
   clear HG HN HS HL HE HP HX HXL HH h1 h2 h3 hcell hP k0
   go_wp2_with (go_at_call 49;refine K.out.mono ?_;rintro e w' ⟨rfl,hb⟩)
   go_ret2
   exact⟨ret_x (by rw[HR.out,HPN.out];rfl) (by rw[HR.out];rfl),BB.out.trans (hb.mono hbs)⟩
  have hP:=HP.out k P oM hk h1
  have K:Hid (Calls Tryz.prog 49 #[.pointer (some ⟨w.heap.size,0,none⟩)] wo fun e w'=>e=.returned (.string (Pl.ba P))/\Below w.heap.size wo w'):=string_any w.heap.size w.heap.size P wo h2 hP
  clear HG HN HS HL HE HP HX HXL HH h1 h2 h3 hP k0
  go_wp2_with (go_at_call 49;refine K.out.mono ?_;rintro e w' ⟨rfl,hb⟩)
  go_ret2
  exact⟨ret_x (by rw[HR.out];rfl) (by rw[HR.out];rfl),BB.out.trans hb⟩
 obtain⟨g,b,off,hg,hgm,rfl,hb,a1,a2,c1,c2,hgd⟩:=HG.out k hlt
 obtain⟨g0,g1,r0,r1⟩:=hgd _ BB.out
 have N:=zH (HN.out g hgm)
 have S:=zH (fun a b=>HS.out k g P a b hg HH.out.1)
 have BA:Hid (∀o',Below wo.heap.size wo (wo.alloc o')):=fun o'=>(Below.refl _ _).alloc (Nat.le_refl _) _
 have K1:Hid (∀w',Below wo.heap.size wo w'->Calls Tryz.prog 75 #[.slice a1 g.test.length c1] w' fun e w2=>e=.returned (.tuple #[.string (Pl.ba ((Pl.xt Pl.nt g.test).getD [])),.bool (Pl.xt Pl.nt g.test).isSome])/\Below w'.heap.size w' w2):=fun w' h=>(HX.out g hgm a1 c1 w' (BB.out.trans (h.mono hbs))).1 (r0.keep (h.mono hbs))
 have K2:Hid (∀w',Below wo.heap.size wo w'->Calls Tryz.prog 75 #[.slice a2 g.thn.length c2] w' fun e w2=>e=.returned (.tuple #[.string (Pl.ba ((Pl.xt Pl.nt g.thn).getD [])),.bool (Pl.xt Pl.nt g.thn).isSome])/\Below w'.heap.size w' w2):=fun w' h=>(HX.out g hgm a2 c2 w' (BB.out.trans (h.mono hbs))).2 (r1.keep (h.mono hbs))
 have CC:Hid (∀(w1 w':World) (j:Nat) (v:Value),Below w1.heap.size w1 w'->wo.heap.size<w1.heap.size->w1.cell? ⟨wo.heap.size,j,none⟩=some v->w'.cell? ⟨wo.heap.size,j,none⟩=some v):=fun w1 w' j v hb h1 h=>(hb.cell (p:=⟨wo.heap.size,j,none⟩) h1).trans h
 obtain⟨hl1,hl2⟩:=HXL.out g hgm
 have HTX:Hid (∀w',Below wo.heap.size wo w'->Tx w.heap.size w.heap.size P w'):=fun w' h=>HH.out.2.1.keep h
 clear HG HN HS HL HE HP HX HXL hg hgm hgd r0 r1 HH
 generalize hxt:Pl.xt Pl.nt g.test=xt1 at *
 generalize hxh:Pl.xt Pl.nt g.thn=xt2 at *
 clear hxt hxh
 generalize g.test.length=l1 at *
 generalize g.thn.length=l2 at *
 cases xt1 with
 |none =>
  have HR:=zH (N.out (.inl rfl))
  simp only[Option.getD_none,Option.isSome_none] at K1
  generalize xt2.isSome=ok2 at *
  generalize Pl.ba (xt2.getD [])=s2 at *
  exact tGtx1
 |some sa =>
  simp only[Option.getD_some,Option.isSome_some] at K1 hl1
  cases xt2 with
  |none =>
   have HR:=zH (N.out (.inr rfl))
   simp only[Option.getD_none,Option.isSome_none] at K2
   generalize Pl.ba sa=s1 at *
   exact tGtx1
  |some sb =>
   simp only[Option.getD_some,Option.isSome_some] at K2 hl2
   have HR:=zH (S.out sa sb rfl rfl)
   have HD:Hid ((Pl.ba sa++⟨#[32,58,32]⟩++Pl.ba sb++⟨#[59,32]⟩:ByteArray).data.toList=sa++[32,58,32]++sb++[59,32]):=by show _=_;simp[Pl.ba]
   have HDS:Hid ((Pl.ba sa++⟨#[32,58,32]⟩++Pl.ba sb++⟨#[59,32]⟩:ByteArray).size<=1000000000):=by
    show _<=_
    rw[Pl.sz_eq,HD.out]
    rw[Pl.ba_size] at hl1 hl2
    simp
    omega
   have m1:¬(9223372036854775807<(Pl.ba sa).size+3):=by omega
   have m2:¬(9223372036854775807<(Pl.ba sa).size+3+(Pl.ba sb).size):=by omega
   have m3:¬(9223372036854775807<(Pl.ba sa).size+3+(Pl.ba sb).size+2):=by omega
   generalize Pl.ba sa=s1 at *
   generalize Pl.ba sb=s2 at *
   go_wp2_with fail
   refine(K1.out _ (BA.out _)).mono ?_
   rintro e w2 ⟨rfl,hb2⟩
   have d1:=CC.out _ _ 1 _ hb2 sI (by simp[go_sem];rfl)
   have H2:=zH ((BA.out _).trans (hb2.mono sI))
   clear hb2
   go_wp2_with fail
   refine(K2.out _ H2.out).mono ?_
   rintro e w3 ⟨rfl,hb3⟩
   have H3:=zH (H2.out.trans (hb3.mono H2.out.size))
   have X3:=zH (HTX.out _ H3.out)
   have B3:=zH (BB.out.trans (H3.out.mono hbs))
   clear hb3 K1 K2
   go_wp2_with fail
   refine(tx_str w.heap.size w.heap.size P _ _ X3.out oM HDS.out B3.out.size).mono ?_
   rintro e w4 ⟨rfl,h1,h2⟩
   rw[HD.out] at h1
   have X4:=zH h1
   have B4:=zH (B3.out.trans h2)
   clear h1 h2
   go_wp2_with fail
   go_roundw
   case rel=>exact⟨k+1,_,by omega,by go_num,⟨HR.out,X4.out,fun h=>by omega⟩,B4⟩
   simp[intOf];omega
theorem uStt1 {P:Prop}(h:P:=by simp[go_sem];rfl):P:=h
theorem Pl.wk_vals (l:List UInt8):Pl.wk l=0\/Pl.wk l=2\/Pl.wk l=3\/Pl.wk l=4:=by
 unfold Pl.wk
 split
 ·exact .inl rfl
 split
 ·exact .inl rfl
 split
 ·exact .inl rfl
 split
 ·exact .inl rfl
 split
 ·exact .inr (.inr (.inl rfl))
 split
 ·exact .inr (.inr (.inr rfl))
 exact .inr (.inl rfl)
def StxPost (s:Pl.Tv) (w:World) (e:Ending) (w':World):Prop :=
 ∃str,e=.returned (.tuple #[.string str,.bool (Pl.stx Pl.nt s).isSome])/\(∀x,Pl.stx Pl.nt s=some x->str=Pl.ba x)/\Below w.heap.size w w'
theorem stx_no {s:Pl.Tv}{w w':World}{str:ByteArray}(h:Pl.stx Pl.nt s=none) (hb:Below w.heap.size w w'):StxPost s w (.returned (.tuple #[.string str,.bool false])) w':=⟨str,by rw[h];rfl,fun x hx=>(by rw[h] at hx;cases hx),hb⟩
theorem stx_yes {s:Pl.Tv}{w w':World}{str:ByteArray}{x:List UInt8}(h:Pl.stx Pl.nt s=some x) (hs:str=Pl.ba x) (hb:Below w.heap.size w w'):StxPost s w (.returned (.tuple #[.string str,.bool true])) w':=⟨str,by rw[h];rfl,fun y hy=>(by rw[h] at hy;rw[hs,Option.some.inj hy]),hb⟩
theorem tStt1 {P:Prop}(h:P:=by
 go_enter Tryz.func46,Tryz.ntmps46
 go_wp2_with fail
 refine(K1.out _ (HB.out _)).mono ?_
 rintro e' w2 ⟨rfl,hb2⟩
 have d0:=C.out _ _ 0 _ hb2 sI uStt1
 have d1:=C.out _ _ 1 _ hb2 sI uStt1
 have d3:=C.out _ _ 3 _ hb2 sI uStt1
 have B2:=zH ((HB.out _).trans (hb2.mono sI))
 have z2:w.heap.size<w2.heap.size:=Nat.lt_of_lt_of_le sI hb2.size
 clear hb2
 go_wp2_with fail
 refine(K2.out _ B2.out).mono ?_
 rintro e' w3 ⟨rfl,hb3⟩
 have e0:=C.out _ _ 0 _ hb3 z2 d0
 have e1:=C.out _ _ 1 _ hb3 z2 d1
 have e3:=C.out _ _ 3 _ hb3 z2 d3
 have B3:=zH (B2.out.trans (hb3.mono B2.out.size))
 have z3:w.heap.size<w3.heap.size:=Nat.lt_of_lt_of_le z2 hb3.size
 clear hb3 d0 d1 d3
 go_wp2_with fail
 go_ret2
 exact FN.out _ _ HR.out B3.out
 ):P:=h
theorem tStt2 {P:Prop}(h:P:=by
 generalize Pl.ba xgg=sg at *
 generalize Pl.ba xe=se at *
 generalize Pl.ba nml=nm at *
 go_enter Tryz.func46,Tryz.ntmps46
 go_wp2_with fail
 refine(K1.out _ (HB.out _)).mono ?_
 rintro e' w2 ⟨rfl,hb2⟩
 have d0:=C.out _ _ 0 _ hb2 sI uStt1
 have d1:=C.out _ _ 1 _ hb2 sI uStt1
 have d3:=C.out _ _ 3 _ hb2 sI uStt1
 have B2:=zH ((HB.out _).trans (hb2.mono sI))
 have z2:w.heap.size<w2.heap.size:=Nat.lt_of_lt_of_le sI hb2.size
 clear hb2
 go_wp2_with fail
 refine(K2.out _ B2.out).mono ?_
 rintro e' w3 ⟨rfl,hb3⟩
 have e0:=C.out _ _ 0 _ hb3 z2 d0
 have e1:=C.out _ _ 1 _ hb3 z2 d1
 have e3:=C.out _ _ 3 _ hb3 z2 d3
 have B3:=zH (B2.out.trans (hb3.mono B2.out.size))
 have z3:w.heap.size<w3.heap.size:=Nat.lt_of_lt_of_le z2 hb3.size
 clear hb3 d0 d1 d3
 go_wp2_with fail
 go_quiet (fail)
 go_wp2
 go_ret2
 exact FN.out _ _ HR.out (below_drewN B3.out _)
 ):P:=h
theorem stmtText_any (s:Pl.Tv) (a1 a2:Option Addr) (c1 c2 mb mo cp:Nat) (hsm:Pl.SmallT s) (hz:s.gs.length+Pl.gsum s.gs s.gs.length<=1048576) (w:World) (he:Ev w mb mo cp) (hc:RdS w.heap.size w a1 s.code) (hg:RdG w.heap.size w a2 s.gs) :
  Calls Tryz.prog 46 #[.agg #[.int .i64 s.k,.string (Pl.ba s.nm),.slice a1 s.code.length c1,.slice a2 s.gs.length c2]] w (StxPost s w):=by
 have HB:Hid (∀o,Below w.heap.size w (w.alloc o)):=fun o=>(Below.refl _ _).alloc (Nat.le_refl _) _
 have K1:Hid (∀w',Below w.heap.size w w'->Calls Tryz.prog 75 #[.slice a1 s.code.length c1] w' fun e w2=>e=.returned (.tuple #[.string (Pl.ba ((Pl.xt Pl.nt s.code).getD [])),.bool (Pl.xt Pl.nt s.code).isSome])/\Below w'.heap.size w' w2):=fun w' h=>exprText_any s.code a1 c1 mb mo cp hsm.code w' (he.keep h) ((hc.keep h).up h.size)
 have K2:Hid (∀w',Below w.heap.size w w'->Calls Tryz.prog 76 #[.slice a2 s.gs.length c2] w' fun e w2=>e=.returned (.tuple #[.string (Pl.ba ((Pl.gtx Pl.nt s.gs).getD [])),.bool (Pl.gtx Pl.nt s.gs).isSome])/\Below w'.heap.size w' w2):=fun w' h=>guardsText_any s.gs a2 c2 mb mo cp hsm.gs hz w' (he.keep h) ((hg.keep h).up h.size)
 have KW:Hid (∀w',Below w.heap.size w w'->Calls Tryz.prog 62 #[.string (Pl.ba s.nm)] w' fun e w2=>e=.returned (.int .i64 (Pl.wk s.nm))/\Below w'.heap.size w' w2):=fun w' h=>wordKind_any (Pl.ba s.nm) mb mo cp w' (he.keep h).mt (by rw[Pl.ba_size];have:=hsm.nm;omega)
 have hqn:=ba_beq s.nm
 have hqs:=self_beq s.nm
 have HL1:Hid (∀x,Pl.xt Pl.nt s.code=some x->x.length<=50000000):=fun x hx=>by have:=Pl.xt_len hx;have:=hsm.code.sz;omega
 have HL2:Hid (∀x,Pl.gtx Pl.nt s.gs=some x->x.length<=50000000):=fun x hx=>by have:=Pl.gtx_len hx;omega
 have hnl:=hsm.nm
 have HF:Hid (∀e g,Pl.xt Pl.nt s.code=some e->Pl.gtx Pl.nt s.gs=some g->Pl.stx Pl.nt s=if s.k=1 then (if s.nm=[]/\s.gs.length=0 then some e else none) else if s.k=2 then (if Pl.wk s.nm=2/\s.gs.length=0 then some (s.nm++[32,58,61,32]++e) else none) else if s.k=3 then (if Pl.wk s.nm=3/\s.nm ≠ Pl.selfW then some (s.nm++[32,58,61,32,123]++g++e++[125]) else none) else none):=fun e g h1 h2=>by
  unfold Pl.stx
  rw[h1,h2]
  have e1:(s.gs=[])=(s.gs.length=0):=by rw[List.length_eq_zero_iff]
  simp only[e1]
 have HF1:Hid (Pl.xt Pl.nt s.code=none->Pl.stx Pl.nt s=none):=fun h=>by unfold Pl.stx;rw[h]
 have HF2:Hid (Pl.gtx Pl.nt s.gs=none->Pl.stx Pl.nt s=none):=fun h=>by unfold Pl.stx;rw[h];cases Pl.xt Pl.nt s.code <;> rfl
 have C:Hid (∀(w1 w':World) (j:Nat) (v:Value),Below w1.heap.size w1 w'->w.heap.size<w1.heap.size->w1.cell? ⟨w.heap.size,j,none⟩=some v->w'.cell? ⟨w.heap.size,j,none⟩=some v):=fun w1 w' j v hb h1 h=>(hb.cell (p:=⟨w.heap.size,j,none⟩) h1).trans h
 have FN:=zH (fun (w':World) (str:ByteArray) (h:Pl.stx Pl.nt s=none) (hb:Below w.heap.size w w')=>stx_no (str:=str) h hb)
 have FY:=zH (fun (w':World) (str:ByteArray) (x:List UInt8) (h:Pl.stx Pl.nt s=some x) (hs:str=Pl.ba x) (hb:Below w.heap.size w w')=>stx_yes h hs hb)
 have hgl:s.gs.length<=1048576:=by omega
 clear he hc hg hsm hz
 generalize hxc:Pl.xt Pl.nt s.code=xc at *
 generalize hxg:Pl.gtx Pl.nt s.gs=xg at *
 clear hxc hxg
 have HWV:=zH (Pl.wk_vals s.nm)
 generalize Pl.wk s.nm=z at *
 generalize hG:s.gs.length=G at *
 clear hG
 generalize s.code.length=cl at *
 generalize s.k=kk at *
 generalize hnn:s.nm=nml at *
 clear hnn
 have hba:(Pl.ba nml).size=nml.length:=rfl
 generalize hdn:decide (nml=[])=n0 at *
 generalize hds:decide (nml=Pl.selfW)=ns at *
 have HDN:=zH hdn
 have HDS:=zH hds
 clear hdn hds
 have HEX:Hid (∀(x:ByteArray) (l:List UInt8),x.data.toList=l->x=Pl.ba l):=fun x l h=>by rw[Pl.ba_iff];exact h
 cases xc with
 |none =>
  have HR:=zH (HF1.out rfl)
  simp only[Option.getD_none,Option.isSome_none] at K1
  generalize Pl.ba (xg.getD [])=sg at *
  generalize xg.isSome=og at *
  generalize Pl.ba nml=nm at *
  clear HF HF1 HF2 HL1 HL2
  exact tStt1
 |some xe =>
  have hle:=HL1.out xe rfl
  simp only[Option.getD_some,Option.isSome_some] at K1
  cases xg with
  |none =>
   have HR:=zH (HF2.out rfl)
   simp only[Option.getD_none,Option.isSome_none] at K2
   generalize Pl.ba xe=se at *
   generalize Pl.ba nml=nm at *
   clear HF HF1 HF2 HL1 HL2
   exact tStt1
  |some xgg =>
   have hlg:=HL2.out xgg rfl
   simp only[Option.getD_some,Option.isSome_some] at K2
   have HS:=zH (HF.out xe xgg rfl rfl)
   clear HF HF1 HF2 HL1 HL2
   have hbe:(Pl.ba xe).size=xe.length:=rfl
   have hbg:(Pl.ba xgg).size=xgg.length:=rfl
   have m1:¬(9223372036854775807<(Pl.ba nml).size+4):=by omega
   have m2:¬(9223372036854775807<(Pl.ba nml).size+4+(Pl.ba xe).size):=by omega
   have m3:¬(9223372036854775807<(Pl.ba nml).size+5):=by omega
   have m4:¬(9223372036854775807<(Pl.ba nml).size+5+(Pl.ba xgg).size):=by omega
   have m5:¬(9223372036854775807<(Pl.ba nml).size+5+(Pl.ba xgg).size+(Pl.ba xe).size):=by omega
   have m6:¬(9223372036854775807<(Pl.ba nml).size+5+(Pl.ba xgg).size+(Pl.ba xe).size+1):=by omega
   have X2:Hid (Pl.ba nml++⟨#[32,58,61,32]⟩++Pl.ba xe=Pl.ba (nml++[32,58,61,32]++xe)):=HEX.out _ _ (by simp[Pl.ba])
   have X3:Hid (Pl.ba nml++⟨#[32,58,61,32,123]⟩++Pl.ba xgg++Pl.ba xe++⟨#[125]⟩=Pl.ba (nml++[32,58,61,32,123]++xgg++xe++[125])):=HEX.out _ _ (by simp[Pl.ba])
   have X1:Hid (Pl.ba xe=Pl.ba xe):=rfl
   have HLL:Hid ((Pl.ba nml).size<=100000000/\(Pl.ba xe).size<=100000000/\(Pl.ba xgg).size<=100000000):=⟨by omega,by omega,by omega⟩
   clear hbe hbg hba hle hlg hnl HEX
   by_cases k1:kk=1
   ·subst k1
    have HS1:=zH (show Pl.stx Pl.nt s=if nml=[]/\G=0 then some xe else none by rw[HS.out,if_pos rfl])
    clear HS X2 X3 KW
    cases n0
    ·have HR:=zH (show Pl.stx Pl.nt s=none by rw[HS1.out,if_neg (fun h=>of_decide_eq_false HDN.out h.1)])
     clear HS1 HDN HDS
     exact tStt2
    by_cases hG0:G=0
    rotate_left 1
    ·have hG1:((G:Int) == 0)=false:=by simp[hG0]
     have HR:=zH (show Pl.stx Pl.nt s=none by rw[HS1.out,if_neg (fun h=>hG0 h.2)])
     clear HS1 HDN HDS hG0
     exact tStt2
    subst hG0
    have HR:=zH (show Pl.stx Pl.nt s=some xe by rw[HS1.out,if_pos ⟨of_decide_eq_true HDN.out,rfl⟩])
    have FYY:=zH (fun w' hb=>FY.out w' (Pl.ba xe) xe HR.out rfl hb)
    clear HS1 HDN HDS FY
    generalize Pl.ba xgg=sg at *
    generalize Pl.ba xe=se at *
    generalize Pl.ba nml=nm at *
    go_enter Tryz.func46,Tryz.ntmps46
    go_wp2_with fail
    refine(K1.out _ (HB.out _)).mono ?_
    rintro e' w2 ⟨rfl,hb2⟩
    have d0:=C.out _ _ 0 _ hb2 sI uStt1
    have d1:=C.out _ _ 1 _ hb2 sI uStt1
    have d3:=C.out _ _ 3 _ hb2 sI uStt1
    have B2:=zH ((HB.out _).trans (hb2.mono sI))
    have z2:w.heap.size<w2.heap.size:=Nat.lt_of_lt_of_le sI hb2.size
    clear hb2
    go_wp2_with fail
    refine(K2.out _ B2.out).mono ?_
    rintro e' w3 ⟨rfl,hb3⟩
    have e0:=C.out _ _ 0 _ hb3 z2 d0
    have e1:=C.out _ _ 1 _ hb3 z2 d1
    have e3:=C.out _ _ 3 _ hb3 z2 d3
    have B3:=zH (B2.out.trans (hb3.mono B2.out.size))
    have z3:w.heap.size<w3.heap.size:=Nat.lt_of_lt_of_le z2 hb3.size
    clear hb3 d0 d1 d3
    go_wp2_with fail
    go_quiet (fail)
    go_wp2
    go_ret2
    exact FYY.out _ (below_drewN B3.out _)
   have f1:(kk == 1)=false:=by simp[k1]
   by_cases k2:kk=2
   ·subst k2
    clear f1 k1
    have HS1:=zH (show Pl.stx Pl.nt s=if z=2/\G=0 then some (nml++[32,58,61,32]++xe) else none by rw[HS.out,if_neg (by decide),if_pos rfl])
    clear HS
    by_cases hz:z=2
    ·refine(stt_2a (Pl.ba nml) (Pl.ba xe) (Pl.ba xgg) a1 a2 cl c1 G c2 z w hz HLL.out.1 HLL.out.2.1 HLL.out.2.2 hgl K1.out K2.out KW.out).mono ?_
     rintro e' w' ⟨rfl,hb⟩
     by_cases hG0:G=0
     ·rw[show ((G:Int) == 0)=true by simp[hG0]]
      exact FY.out w' _ _ (by rw[HS1.out,if_pos ⟨hz,hG0⟩]) X2.out hb
     rw[show ((G:Int) == 0)=false by simp[hG0]]
     exact FN.out w' _ (by rw[HS1.out,if_neg (fun h=>hG0 h.2)]) hb
    refine(stt_2b (Pl.ba nml) (Pl.ba xe) (Pl.ba xgg) a1 a2 cl c1 G c2 z w hz HLL.out.1 HLL.out.2.1 HLL.out.2.2 hgl K1.out K2.out KW.out).mono ?_
    rintro e' w' ⟨rfl,hb⟩
    exact FN.out w' _ (by rw[HS1.out,if_neg (fun h=>hz h.1)]) hb
   have f2:(kk == 2)=false:=by simp[k2]
   by_cases k3:kk=3
   ·subst k3
    clear f1 k1 f2 k2
    have HS1:=zH (show Pl.stx Pl.nt s=if z=3/\nml ≠ Pl.selfW then some (nml++[32,58,61,32,123]++xgg++xe++[125]) else none by rw[HS.out,if_neg (by decide),if_neg (by decide),if_pos rfl])
    clear HS
    by_cases hz:z=3
    ·refine(stt_3a (Pl.ba nml) (Pl.ba xe) (Pl.ba xgg) a1 a2 cl c1 G c2 z ns w hz hqs HLL.out.1 HLL.out.2.1 HLL.out.2.2 hgl K1.out K2.out KW.out).mono ?_
     rintro e' w' ⟨rfl,hb⟩
     cases ns
     ·exact FY.out w' _ _ (by rw[HS1.out,if_pos ⟨hz,of_decide_eq_false HDS.out⟩]) X3.out hb
     exact FN.out w' _ (by rw[HS1.out,if_neg (fun h=>h.2 (of_decide_eq_true HDS.out))]) hb
    refine(stt_3b (Pl.ba nml) (Pl.ba xe) (Pl.ba xgg) a1 a2 cl c1 G c2 z w hz HLL.out.1 HLL.out.2.1 HLL.out.2.2 hgl K1.out K2.out KW.out).mono ?_
    rintro e' w' ⟨rfl,hb⟩
    exact FN.out w' _ (by rw[HS1.out,if_neg (fun h=>hz h.1)]) hb
   have f3:(kk == 3)=false:=by simp[k3]
   have HR:=zH (show Pl.stx Pl.nt s=none by rw[HS.out,if_neg k1,if_neg k2,if_neg k3])
   clear HS k1 k2 k3 HDN HDS X2 X3
   generalize Pl.ba xgg=sg at *
   generalize Pl.ba xe=se at *
   generalize Pl.ba nml=nm at *
   exact tStt1
namespace Pl
def lbs (y:Int) (c:List Sv):Nat->Int
 |0=>y
 |k+1=>if 0<=lbs y c k then lbs y c k-((c.getD k ⟨0,[],[],f0⟩).nums.length:Nat) else lbs y c k
def lbF (x:Int) (c:List Sv):Int:=lbs (x-c.length) c c.length
theorem lbs_stop {y:Int}{c:List Sv}{k:Nat}(h:lbs y c k<0):∀d,lbs y c (k+d)=lbs y c k:=by
 intro d
 induction d with
 |zero=>rfl
 |succ d ih =>
  show (if 0<=lbs y c (k+d) then lbs y c (k+d)-((c.getD (k+d) ⟨0,[],[],f0⟩).nums.length:Nat) else lbs y c (k+d))=_
  rw[ih,if_neg oM]
theorem lbs_spec {y:Int}{c:List Sv}:∀k,k<=c.length->y-(nsum c k:Nat)<=lbs y c k/\(0<=y-(nsum c k:Nat)->lbs y c k=y-(nsum c k:Nat))/\(y-(nsum c k:Nat)<0->lbs y c k<0\/(k=0))/\lbs y c k<=y:=by
 intro k
 induction k with
 |zero=>intro _;simp[lbs,nsum]
 |succ k ih =>
  intro hk
  have hlt:k<c.length:=hk
  obtain⟨h1,h2,h3,h4⟩:=ih oM
  have hs:=nsum_succ (List.getElem?_eq_getElem hlt)
  have hd:c.getD k ⟨0,[],[],f0⟩=c[k]:=by rw[List.getD_eq_getElem?_getD,List.getElem?_eq_getElem hlt];rfl
  unfold lbs
  rw[hd,hs]
  split
  ·rename_i h0
   refine⟨by omega,fun h=>?_,fun h=>?_,by omega⟩
   ·have:=h2 oM;omega
   left
   by_cases hp:0<=y-(nsum c k:Nat)
   ·have:=h2 hp;omega
   rcases h3 oM with h|h
   ·omega
   subst h
   have e:lbs y c 0=y:=rfl
   have e2:nsum c 0=0:=rfl
   omega
  rename_i h0
  refine⟨by omega,fun h=>?_,fun h=>by left;omega,by omega⟩
  have:=h2 oM
  omega
theorem lbF_spec {x:Int}{c:List Sv}:x-(csz c:Nat)<=lbF x c/\(0<=x-(csz c:Nat)->lbF x c=x-(csz c:Nat))/\(x-(csz c:Nat)<0->lbF x c<0)/\lbF x c<=x:=by
 obtain⟨h1,h2,h3,h4⟩:=lbs_spec (y:=x-c.length) (c:=c) c.length (Nat.le_refl _)
 have e:=csz_eq c
 unfold lbF
 refine⟨by omega,fun h=>by have:=h2 oM;omega,fun h=>?_,by omega⟩
 rcases h3 oM with h|h
 ·exact h
 have:lbs (x-c.length) c c.length=x-c.length:=by rw[h];rfl
 have e2:nsum c c.length=0:=by rw[h];rfl
 omega
end Pl
theorem leftBehind_fx (x:Int) (c:List Pl.Sv) (ao:Option Addr) (cap B:Nat) (hx0:-1000000000<=x) (hx1:x<=1000000000) (hl:Pl.csz c<=1048576) (w:World) (hR:RdS B w ao c) :
  Calls Tryz.prog 74 #[.int .i64 x,.slice ao c.length cap] w fun e w'=>e=.returned (.int .i64 (Pl.lbF x c))/\w'=w:=by
 have HG:Hid (∀k,k<c.length->∃b off a cp,ao=some ⟨b,off,none⟩/\w.cell? ⟨b,off+k * 7+1,none⟩=some (.slice a (c.getD k ⟨0,[],[],Pl.f0⟩).nums.length cp)):=fun k hk=>by
  rcases hR with rfl|⟨b,off,hb,rfl,hc⟩
  ·cases hk
  obtain⟨an,cn,h⟩:=hc k c[k] (List.getElem?_eq_getElem hk)
  refine⟨b,off,an,cn,rfl,?_⟩
  have hd:c.getD k ⟨0,[],[],Pl.f0⟩=c[k]:=by rw[List.getD_eq_getElem?_getD,List.getElem?_eq_getElem hk];rfl
  rw[hd]
  exact h.n
 have HB:Hid (∀k,k<=c.length->-10000000000<=Pl.lbs (x-c.length) c k/\Pl.lbs (x-c.length) c k<=10000000000):=fun k hk=>by
  have h:=Pl.lbs_spec (y:=x-c.length) (c:=c) k hk
  have h2:=Pl.nsum_le c k
  have h3:=Pl.csz_eq c
  omega
 have HS:Hid (∀k,Pl.lbs (x-c.length) c k<0->k<=c.length->Pl.lbF x c=Pl.lbs (x-c.length) c k):=fun k h hk=>by
  have:=Pl.lbs_stop h (c.length-k)
  rw[show k+(c.length-k)=c.length by omega] at this
  exact this
 have HN:Hid (∀k,0<=Pl.lbs (x-c.length) c k->Pl.lbs (x-c.length) c (k+1)=Pl.lbs (x-c.length) c k-((c.getD k ⟨0,[],[],Pl.f0⟩).nums.length:Nat)):=fun k h=>by
  show (if 0<=Pl.lbs (x-c.length) c k then _ else _)=_
  rw[if_pos h]
 have HE:Hid (Pl.lbF x c=Pl.lbs (x-c.length) c c.length):=rfl
 have H0:Hid (Pl.lbs (x-c.length) c 0=x-c.length):=rfl
 have hln:c.length<=1048576:=by have:=Pl.csz_eq c;omega
 clear hR hl
 generalize Pl.lbF x c=r at *
 generalize hL:c.length=L at *
 clear hL
 go_enter Tryz.func74,Tryz.ntmps74
 go_wp2
 go_loop [0,5] (fun u v=>∃k:Nat,k<=L/\v=.int .i64 k/\u=.int .i64 (Pl.lbs (x-L) c k)) (fun u v=>L-(intOf v).toNat)
 case atStart=>exact⟨0,Nat.zero_le _,rfl,by rw[H0.out]⟩
 obtain⟨k,hk,rfl,rfl⟩:=hrel
 obtain⟨b1,b2⟩:=HB.out k hk
 by_cases hlt:k<L
 rotate_left 1
 ·obtain rfl:k=L:=by omega
  clear HG HB HS HN H0
  go_wp2
  go_ret
  exact⟨ret_int HE.out.symm,rfl⟩
 by_cases h0:0<=Pl.lbs (x-L) c k
 ·obtain⟨b,off,a,cp,rfl,hcell⟩:=HG.out k hlt
  have N:=zH (HN.out k h0)
  have bb:=HB.out (k+1) oM
  rw[N.out] at bb
  clear HG HB HS HN HE H0
  generalize (c.getD k ⟨0,[],[],Pl.f0⟩).nums.length=q at *
  generalize Pl.lbs (x-L) c k=y at *
  go_wp2
  go_round
  case rel=>exact⟨k+1,by omega,by go_num,by rw[N.out]⟩
  simp[intOf];omega
 have HR:=zH (HS.out k oM hk)
 clear HG HB HS HN HE H0
 generalize Pl.lbs (x-L) c k=y at *
 go_wp2
 go_ret
 exact⟨ret_int HR.out.symm,rfl⟩
theorem itemsFit_any (p:List Pl.Tv) (ao:Option Addr) (cap:Nat) (hsm:Pl.SmallP p) (w:World) (hR:RdP w.heap.size w ao p) :
  Calls Tryz.prog 45 #[.slice ao p.length cap] w fun e w'=>e=.returned (.bool (decide (Pl.psz p<=16000)))/\Below w.heap.size w w':=by
 have HG:Hid (∀k,k<p.length->∃s b off,p[k]? = some s/\s∈p/\ao=some ⟨b,off,none⟩/\b<w.heap.size/\∃a1 a2 c1 c2,∀w',Below w.heap.size w w'->Sm w.heap.size w' b (off+k * 4) s a1 a2 c1 c2):=fun k hk=>by
  rcases hR with rfl|⟨b,off,hb,rfl,hc⟩
  ·cases hk
  obtain⟨a1,a2,c1,c2,h⟩:=hc k p[k] (List.getElem?_eq_getElem hk)
  exact⟨p[k],b,off,List.getElem?_eq_getElem hk,List.getElem_mem hk,rfl,hb,a1,a2,c1,c2,fun w' hw=>h.keep hb hw⟩
 have HS:Hid (∀k s,p[k]? = some s->Pl.psum p (k+1)=Pl.psum p k+Pl.ssz s):=fun k s=>Pl.psum_succ
 have HM:Hid (∀k,Pl.psum p k<=Pl.psum p p.length):=Pl.psum_le p
 have HZ:Hid (∀s∈p,Pl.ssz s<=1048576/\Pl.csz s.code<=1048576/\∀g∈s.gs,Pl.csz g.test<=1048576/\Pl.csz g.thn<=1048576):=fun s hs=>by
  have h1:Pl.ssz s<=Pl.psz p:=by
   have:Pl.ssz s<=(p.map Pl.ssz).sum:=by
    clear HG HS HM hR hsm
    induction p with
    |nil=>cases hs
    |cons x p ih =>
     rw[List.map_cons,List.sum_cons]
     rcases List.mem_cons.1 hs with rfl|h
     ·omega
     have:=ih h;omega
   unfold Pl.psz
   omega
  have h2:=hsm.sz
  exact⟨by omega,(hsm.st s hs).code.sz,fun g hg=>⟨((hsm.st s hs).gs g hg).1.sz,((hsm.st s hs).gs g hg).2.sz⟩⟩
 have E0:=zH (Pl.psz_eq p)
 have hl:=hsm.sz
 rw[E0.out] at hl
 rw[E0.out]
 clear E0 hR hsm
 have H0:Hid (Pl.psum p 0=0):=rfl
 generalize hL:p.length=L at *
 clear hL
 generalize hT:Pl.psum p L=T at *
 have HT:=zH hT
 clear hT
 go_enter Tryz.func45,Tryz.ntmps45
 go_wp2
 go_loopw [3,4] (fun u v wr=>∃(k:Nat) (r:Int),k<=L/\v=.int .i64 k/\u=.int .i64 r/\(-5000000<=r/\r<=16000)/\Hid ((0<=(16000:Int)-L-(Pl.psum p k:Nat)->r=16000-L-(Pl.psum p k:Nat))/\((16000:Int)-L-(Pl.psum p k:Nat)<0->r<0))/\Hid (Below w.heap.size w wr)) (fun _ v _=>L-(intOf v).toNat)
 case atStart=>exact⟨0,_,Nat.zero_le _,rfl,rfl,by omega,⟨fun _=>by rw[H0.out];simp,fun h=>by rw[H0.out] at h;simp at h;omega⟩,Below.refl _ _⟩
 rename World=>wo
 obtain⟨k,r,hk,rfl,rfl,⟨hr1,hr2⟩,HV,BB⟩:=hrel
 have M0:=HM.out k
 by_cases hr0:0<=r
 rotate_left 1
 ·obtain⟨v1,v2⟩:=HV.out
  have HR:Hid (decide (L+T<=16000)=false):=by
   show _=_
   rw[decide_eq_false_iff_not]
   intro h
   have:=v1 oM
   omega
  have hrd:decide (0<=r)=false:=decide_eq_false hr0
  clear HG HS HM HZ v1 v2 HV
  by_cases hlt:k<L
  ·go_wp2_with fail
   go_ret
   exact ret_below HR.out BB.out
  go_wp2_with fail
  go_ret
  exact ret_below HR.out BB.out
 by_cases hlt:k<L
 rotate_left 1
 ·obtain rfl:k=L:=by omega
  obtain⟨v1,v2⟩:=HV.out
  rw[HT.out] at v1 v2
  have HR:Hid (decide (k+T<=16000)=true):=by
   show _=_
   rw[decide_eq_true_eq]
   by_cases hp:0<=(16000:Int)-k-(T:Nat)
   ·omega
   have:=v2 oM;omega
  clear HG HS HM HZ v1 v2 HV
  go_wp2_with fail
  go_ret
  exact ret_below HR.out BB.out
 obtain⟨s,b,off,hs,hm,rfl,hb,a1,a2,c1,c2,hsm⟩:=HG.out k hlt
 obtain⟨d0,d1,d2,d3,rc,rg⟩:=hsm _ BB.out
 obtain⟨z1,z2,z3⟩:=HZ.out s hm
 have N:=zH (HS.out k s hs)
 have M1:=HM.out (k+1)
 have ESZ:=Pl.ssz_eq s
 have SP:=zH (@Pl.lbF_spec r s.code)
 have K:Hid (∀m,Calls Tryz.prog 74 #[.int .i64 r,.slice a1 s.code.length c1] (wo.drewN m) fun e w'=>e=.returned (.int .i64 (Pl.lbF r s.code))/\w'=wo.drewN m):=fun m=>leftBehind_fx r s.code a1 c1 w.heap.size oM oM z2 (wo.drewN m) (rc.keep (below_drewN (Below.refl _ _) m))
 have HRG:Hid (∀w',Below w.heap.size wo w'->RdG w.heap.size w' a2 s.gs):=fun w' h=>rg.keep h
 have HD3:Hid (∀w',Below w.heap.size wo w'->w'.cell? ⟨b,off+k * 4+3,none⟩=some (.slice a2 s.gs.length c2)):=fun w' h=>(h.cell (p:=⟨b,off+k * 4+3,none⟩) hb).trans d3
 have HGG:Hid (∀j,j<s.gs.length->∃g,s.gs[j]? = some g/\g∈s.gs/\s.gs ≠ []):=fun j hj=>⟨s.gs[j],List.getElem?_eq_getElem hj,List.getElem_mem hj,fun e=>by rw[e] at hj;cases hj⟩
 have HGS:Hid (∀j g,s.gs[j]? = some g->Pl.gsum s.gs (j+1)=Pl.gsum s.gs j+Pl.gsz g):=fun j g=>Pl.gsum_succ
 have HGM:Hid (∀j,Pl.gsum s.gs j<=Pl.gsum s.gs s.gs.length):=Pl.gsum_le s.gs
 have HG0:Hid (Pl.gsum s.gs 0=0):=rfl
 have HZ3:=zH z3
 have BR:Hid (∀m,Below w.heap.size wo (wo.drewN m)):=fun m=>below_drewN (Below.refl _ _) m
 rw[N.out] at M1
 clear rc rg HG HS HM HZ hs hm hsm z3 d0 d1
 generalize hcs:Pl.csz s.code=cs at *
 generalize s.code.length=cl at *
 generalize hgl:s.gs.length=G at *
 clear hcs hgl
 generalize hgt:Pl.gsum s.gs G=GT at *
 have HGT:=zH hgt
 clear hgt
 generalize hlb:Pl.lbF r s.code=r1 at *
 clear hlb
 obtain⟨s1,s2,s3,s4⟩:=SP.out
 obtain⟨v1,v2⟩:=HV.out
 have v3:r=(16000:Int)-L-(Pl.psum p k:Nat):=by
  by_cases hp:0<=(16000:Int)-L-(Pl.psum p k:Nat)
  ·exact v1 hp
  have:=v2 oM;omega
 have HV1:Hid ((0<=(16000:Int)-L-(Pl.psum p k:Nat)-cs-G-(0:Nat)->r1-G=(16000:Int)-L-(Pl.psum p k:Nat)-cs-G-(0:Nat))/\((16000:Int)-L-(Pl.psum p k:Nat)-cs-G-(0:Nat)<0->r1-G<0)):=by
  refine⟨fun h=>?_,fun h=>?_⟩
  ·have:=s2 oM;omega
  by_cases hp:0<=r-(cs:Int)
  ·have:=s2 hp;omega
  have:=s3 oM;omega
 have hr3:-5000000<=r1-G/\r1-G<=16000:=by omega
 clear v1 v2 v3 s1 s2 s3 s4 HV SP
 have hdm:∀m,(wo.drewN m).cell? ⟨b,off+k * 4+2,none⟩=some (.slice a1 cl c1):=fun m=>d2
 go_wp2
 go_quiet ((go_at_call 74;exact Calls.quiet_of_same (K.out _)))
 go_wp2
 go_loopw [3,5] (fun u v wr=>∃(j:Nat) (q:Int),j<=G/\v=.int .i64 j/\u=.int .i64 q/\(-5000000<=q/\q<=16000)/\Hid ((0<=(16000:Int)-L-(Pl.psum p k:Nat)-cs-G-(Pl.gsum s.gs j:Nat)->q=(16000:Int)-L-(Pl.psum p k:Nat)-cs-G-(Pl.gsum s.gs j:Nat))/\((16000:Int)-L-(Pl.psum p k:Nat)-cs-G-(Pl.gsum s.gs j:Nat)<0->q<0))/\Hid (Below w.heap.size wo wr)) (fun _ v _=>G-(intOf v).toNat)
 case atStart=>exact⟨0,_,Nat.zero_le _,rfl,rfl,hr3,by rw[HG0.out];exact HV1,BR.out _⟩
 obtain⟨j,q,hj,rfl,rfl,⟨hq1,hq2⟩,HW,BX⟩:=hrel
 have e3:=HD3.out _ BX.out
 have MG:=HGM.out j
 by_cases hlj:j<G
 rotate_left 1
 ·obtain rfl:j=G:=by omega
  have HB2:Hid (Below w.heap.size w wr):=BB.out.trans BX.out
  have HV2:Hid ((0<=(16000:Int)-L-(Pl.psum p (k+1):Nat)->q=16000-L-(Pl.psum p (k+1):Nat))/\((16000:Int)-L-(Pl.psum p (k+1):Nat)<0->q<0)):=by
   rw[N.out,ESZ]
   obtain⟨w1,w2⟩:=HW.out
   rw[HGT.out] at w1 w2
   refine⟨fun h=>?_,fun h=>w2 oM⟩
   have:=w1 oM
   omega
  clear HRG HD3 HGG HGS HGM K HZ3 BR
  go_wp2_with fail
  go_roundw
  case rel=>exact⟨k+1,_,by omega,by go_num,rfl,⟨hq1,hq2⟩,HV2,HB2⟩
  simp[intOf];omega
 by_cases hq0:0<=q
 rotate_left 1
 ·have HB2:Hid (Below w.heap.size w wr):=BB.out.trans BX.out
  have HV2:Hid ((0<=(16000:Int)-L-(Pl.psum p (k+1):Nat)->q=16000-L-(Pl.psum p (k+1):Nat))/\((16000:Int)-L-(Pl.psum p (k+1):Nat)<0->q<0)):=by
   rw[N.out,ESZ]
   obtain⟨w1,w2⟩:=HW.out
   refine⟨fun h=>?_,fun h=>by omega⟩
   have:=w1 oM
   omega
  have hqd:decide (0<=q)=false:=decide_eq_false hq0
  clear HRG HD3 HGG HGS HGM K HZ3 BR
  go_wp2_with fail
  go_roundw
  case rel=>exact⟨k+1,_,by omega,by go_num,rfl,⟨hq1,hq2⟩,HV2,HB2⟩
  simp[intOf];omega
 obtain⟨g,hg,hgm,hgne⟩:=HGG.out j hlj
 obtain⟨b2,o2,hb2,rfl,hcg⟩:=(HRG.out _ BX.out).resolve_left hgne
 obtain⟨t1,t2,u1,u2,hgd⟩:=hcg j g hg
 have NG:=zH (HGS.out j g hg)
 obtain⟨g0,g1,r0,rr1⟩:=hgd
 obtain⟨y1,y2⟩:=HZ3.out g hgm
 have P1:=@Pl.lbF_spec q g.test
 have P2:=@Pl.lbF_spec (Pl.lbF q g.test) g.thn
 have EG:Pl.gsz g=Pl.csz g.test+Pl.csz g.thn:=rfl
 have K1:Hid (Calls Tryz.prog 74 #[.int .i64 q,.slice t1 g.test.length u1] wr fun e w'=>e=.returned (.int .i64 (Pl.lbF q g.test))/\w'=wr):=leftBehind_fx q g.test t1 u1 w.heap.size oM oM y1 wr r0
 have K2:Hid (Calls Tryz.prog 74 #[.int .i64 (Pl.lbF q g.test),.slice t2 g.thn.length u2] wr fun e w'=>e=.returned (.int .i64 (Pl.lbF (Pl.lbF q g.test) g.thn))/\w'=wr):=leftBehind_fx _ g.thn t2 u2 w.heap.size oM oM y2 wr rr1
 clear HRG HD3 HGG HGS HGM hg hgm hgne hcg r0 rr1 K HZ3 BR
 generalize hl1:Pl.lbF q g.test=q1 at *
 clear hl1
 generalize hl2:Pl.lbF q1 g.thn=q2 at *
 clear hl2
 rw[EG] at NG
 generalize Pl.csz g.test=x1 at *
 generalize Pl.csz g.thn=x2 at *
 generalize g.test.length=l1 at *
 generalize g.thn.length=l2 at *
 obtain⟨w1,w2⟩:=HW.out
 obtain⟨p1,p2,p3,p4⟩:=P1
 obtain⟨p5,p6,p7,p8⟩:=P2
 have w3:q=(16000:Int)-L-(Pl.psum p k:Nat)-cs-G-(Pl.gsum s.gs j:Nat):=by
  by_cases hp:0<=(16000:Int)-L-(Pl.psum p k:Nat)-cs-G-(Pl.gsum s.gs j:Nat)
  ·exact w1 hp
  have:=w2 oM;omega
 have HW2:Hid ((0<=(16000:Int)-L-(Pl.psum p k:Nat)-cs-G-(Pl.gsum s.gs j+(x1+x2):Nat)->q2=(16000:Int)-L-(Pl.psum p k:Nat)-cs-G-(Pl.gsum s.gs j+(x1+x2):Nat))/\((16000:Int)-L-(Pl.psum p k:Nat)-cs-G-(Pl.gsum s.gs j+(x1+x2):Nat)<0->q2<0)):=by
  refine⟨fun h=>?_,fun h=>?_⟩
  ·have h1:=p2 oM
   have h2:=p6 oM
   omega
  by_cases hp:0<=q-(x1:Int)
  ·have h1:=p2 hp
   have h2:=p7 oM
   exact h2
  have h1:=p3 oM
  omega
 have hq3:-5000000<=q2/\q2<=16000:=by omega
 clear w1 w2 w3 p1 p2 p3 p4 p5 p6 p7 p8 HW
 go_wp2_with fail
 refine K1.out.mono ?_
 rintro e w' ⟨rfl,rfl⟩
 go_wp2_with fail
 refine K2.out.mono ?_
 rintro e w' ⟨rfl,rfl⟩
 go_wp2_with fail
 go_roundw
 case rel=>exact⟨j+1,_,by omega,by go_num,rfl,hq3,by rw[NG.out];exact HW2,BX⟩
 simp[intOf];omega
namespace Pl
def prg (p:List Tv):Option (List UInt8):=if psz p<=16000 then ltx nt p else none
theorem stx_len {s:Tv}{x:List UInt8}(hc:Small s.code) (hz:s.gs.length+gsum s.gs s.gs.length<=1048576) (h:stx nt s=some x):x.length<=200000000:=by
 obtain⟨e,g,he,hg,hcase⟩:=stx_get h
 have h1:=xt_len he
 have h2:=gtx_len hg
 have h3:=hc.sz
 rcases hcase with ⟨_,rfl⟩|⟨_,rfl,h4⟩|⟨_,rfl,h4⟩
 ·omega
 ·simp only[List.length_append,List.length_cons,List.length_nil];omega
 simp only[List.length_append,List.length_cons,List.length_nil];omega
theorem ltx_step {l:List Tv}{k:Nat}{s:Tv}(h:l[k]? = some s) {P x:List UInt8}(hp:ltx nt (l.take k)=some P) (hx:stx nt s=some x):ltx nt (l.take (k+1))=some (P++(x++[10])):=by
 rw[List.take_add_one,h]
 show ltx nt (l.take k++[s])=_
 rw[ltx_snoc,hp,hx]
theorem stx_w {s:Tv}{x:List UInt8}(h:stx nt s=some x):x.length<=45 * ssz s+30:=by
 obtain⟨e,g,he,hg,hcase⟩:=stx_get h
 have h1:=xt_len he
 have h2:=gtx_len hg
 have h3:=ssz_eq s
 rcases hcase with ⟨_,rfl⟩|⟨_,rfl,h4⟩|⟨_,rfl,h4⟩
 ·omega
 ·simp only[List.length_append,List.length_cons,List.length_nil];omega
 simp only[List.length_append,List.length_cons,List.length_nil];omega
theorem ltx_len {l:List Tv}{P:List UInt8}(h:ltx nt l=some P):P.length<=45 * (l.map ssz).sum+31 * l.length:=by
 induction l generalizing P with
 |nil=>simp[ltx] at h;simp[<- h]
 |cons s l ih =>
  unfold ltx at h
  cases e1:stx nt s with
  |none=>rw[e1] at h;cases h
  |some a =>
   cases e2:ltx nt l with
   |none=>rw[e1,e2] at h;cases h
   |some t =>
    rw[e1,e2] at h
    have:=ih e2
    have:=stx_w e1
    rw[<- Option.some.inj h]
    simp only[List.length_append,List.length_cons,List.length_nil,List.map_cons,List.sum_cons]
    omega
end Pl
theorem programText_any (p:List Pl.Tv) (ao:Option Addr) (cap mb mo cp:Nat) (hsm:Pl.SmallP p) (w:World) (he:Ev w mb mo cp) (hR:RdP w.heap.size w ao p) :
  Calls Tryz.prog 20 #[.slice ao p.length cap] w fun e w'=>e=.returned (.tuple #[.string (Pl.ba ((Pl.prg p).getD [])),.bool (Pl.prg p).isSome])/\Below w.heap.size w w':=by
 have K0:=zH (itemsFit_any p ao cap hsm w hR)
 have hln:=hsm.len
 by_cases hz:Pl.psz p<=16000
 rotate_left 1
 ·rw[decide_eq_false hz] at K0
  have HR:=zH (show Pl.prg p=none by unfold Pl.prg;rw[if_neg hz])
  clear hz hR he hsm
  generalize Pl.prg p=x at *
  generalize p.length=n at *
  go_enter Tryz.func20,Tryz.ntmps20
  go_wp2_with (go_at_call 45;refine K0.out.mono ?_;rintro e w1 ⟨rfl,hb1⟩)
  go_ret2
  exact⟨ret_x (by rw[HR.out];rfl) (by rw[HR.out];rfl),hb1⟩
 rw[decide_eq_true hz] at K0
 have EP:Hid (Pl.prg p=Pl.ltx Pl.nt p):=by show _=_;unfold Pl.prg;rw[if_pos hz]
 rw[EP.out]
 have HG:Hid (∀k,k<p.length->∃s b off,p[k]? = some s/\s∈p/\ao=some ⟨b,off,none⟩/\b<w.heap.size/\∃a1 a2 c1 c2,∀w',Below w.heap.size w w'->Sm w.heap.size w' b (off+k * 4) s a1 a2 c1 c2):=fun k hk=>by
  rcases hR with rfl|⟨b,off,hb,rfl,hc⟩
  ·cases hk
  obtain⟨a1,a2,c1,c2,h⟩:=hc k p[k] (List.getElem?_eq_getElem hk)
  exact⟨p[k],b,off,List.getElem?_eq_getElem hk,List.getElem_mem hk,rfl,hb,a1,a2,c1,c2,fun w' hw=>h.keep hb hw⟩
 have HN:Hid (∀s∈p,Pl.stx Pl.nt s=none->Pl.ltx Pl.nt p=none):=fun s hs h=>Pl.ltx_none hs h
 have HS:Hid (∀k s P x,p[k]? = some s->Pl.ltx Pl.nt (p.take k)=some P->Pl.stx Pl.nt s=some x->Pl.ltx Pl.nt (p.take (k+1))=some (P++(x++[10]))):=fun k s P x h1 h2 h3=>Pl.ltx_step h1 h2 h3
 have HL:Hid (∀k P,k<=p.length->Pl.ltx Pl.nt (p.take k)=some P->P.length<=100000000):=fun k P hk h=>by
  have h1:=Pl.ltx_len h
  have h2:=Pl.psum_le p k
  have h3:=Pl.psz_eq p
  have h4:((p.take k).map Pl.ssz).sum=Pl.psum p k:=rfl
  have h5:(p.take k).length<=p.length:=by rw[List.length_take];omega
  omega
 have HE:Hid (∀P,Pl.ltx Pl.nt (p.take p.length)=some P->Pl.ltx Pl.nt p=some P):=fun P h=>by rwa [List.take_length] at h
 have HP:Hid (∀k P,0<k->k<=p.length->Pl.ltx Pl.nt (p.take k)=some P->P ≠ []):=fun k P h0 hk h=>by
  obtain⟨j,rfl⟩:∃j,k=j+1:=⟨k-1,by omega⟩
  have hj:j<p.length:=hk
  rw[List.take_add_one,List.getElem?_eq_getElem hj] at h
  have h':Pl.ltx Pl.nt (p.take j++[p[j]])=some P:=h
  rw[Pl.ltx_snoc] at h'
  cases e1:Pl.ltx Pl.nt (p.take j) with
  |none=>rw[e1] at h';cases h'
  |some P0 =>
   cases e2:Pl.stx Pl.nt p[j] with
   |none=>rw[e1,e2] at h';cases h'
   |some x =>
    rw[e1,e2] at h'
    rw[<- Option.some.inj h']
    simp
 have HX:Hid (∀s∈p,(∀x,Pl.stx Pl.nt s=some x->x.length<=200000000)/\∀(a1 a2:Option Addr) (c1 c2:Nat) w',Below w.heap.size w w'->RdS w.heap.size w' a1 s.code->RdG w.heap.size w' a2 s.gs->Calls Tryz.prog 46 #[.agg #[.int .i64 s.k,.string (Pl.ba s.nm),.slice a1 s.code.length c1,.slice a2 s.gs.length c2]] w' (StxPost s w')):=fun s hs=>by
  have h1:=Pl.ssz_mem hs
  have h2:=Pl.ssz_eq s
  have h3:s.gs.length+Pl.gsum s.gs s.gs.length<=1048576:=by omega
  exact⟨fun x hx=>Pl.stx_len (hsm.st s hs).code h3 hx,fun a1 a2 c1 c2 w' h r1 r2=>stmtText_any s a1 a2 c1 c2 mb mo cp (hsm.st s hs) h3 w' (he.keep h) (r1.up h.size) (r2.up h.size)⟩
 have NEW:Hid (∀w1,Below w.heap.size w w1->Tx w1.heap.size w1.heap.size [] (w1.alloc (.cells #[.pointer none,.slice none 0 0] 98))/\Below w1.heap.size w1 (w1.alloc (.cells #[.pointer none,.slice none 0 0] 98))/\(w1.alloc (.cells #[.pointer none,.slice none 0 0] 98)).cell? ⟨w1.heap.size,1,none⟩=some (.slice none 0 0)):=fun w1 _=>⟨Tx.new w1,(Below.refl _ _).alloc (Nat.le_refl _) _,by simp[go_sem]⟩
 clear hR he hsm hz EP
 generalize hx:Pl.ltx Pl.nt p=x at *
 clear hx
 generalize hn:p.length=n at *
 clear hn
 go_enter Tryz.func20,Tryz.ntmps20
 go_wp2_with fail
 refine K0.out.mono ?_
 rintro e w1 ⟨rfl,hb1⟩
 have H1:=zH hb1
 obtain⟨n1,n2,n3⟩:=NEW.out _ hb1
 have T0:=zH n1
 have B0:=zH n2
 have C0:=zH n3
 have hz1:=hb1.size
 clear hb1 n1 n2 n3 NEW K0
 go_wp2_with fail
 go_loopw [14] (fun iv wr=>∃(k:Nat) (P:List UInt8),k<=n/\iv=.int .i64 k/\Hid (Pl.ltx Pl.nt (p.take k)=some P/\Tx w1.heap.size w1.heap.size P wr/\(k=0->wr.cell? ⟨w1.heap.size,1,none⟩=some (.slice none 0 0)))/\Hid (Below w1.heap.size w1 wr)) (fun iv _=>n-(intOf iv).toNat)
 case atStart=>exact⟨0,[],Nat.zero_le _,rfl,⟨rfl,T0.out,fun _=>C0.out⟩,B0⟩
 rename World=>wo
 obtain⟨k,P,hk,rfl,HH,BB⟩:=hrel
 have hbs:=BB.out.size
 have BW:Hid (Below w.heap.size w wo):=H1.out.trans (BB.out.mono hz1)
 have hpl:=HL.out k P hk HH.out.1
 by_cases hlt:k<n
 rotate_left 1
 ·obtain rfl:k=n:=by omega
  obtain⟨h1,h2,h3⟩:=HH.out
  have HR:=zH (HE.out P h1)
  by_cases k0:k=0
  ·have hcell:=h3 k0
   have hP:P=[]:=by
    rw[k0] at h1
    exact(Option.some.inj h1).symm
   have K:=zH (tx_nil w1.heap.size wo hcell)
   have HPN:=zH hP
   clear HG HN HS HL HE HP HX HH h1 h2 h3 hcell hP k0
   go_wp2_with (go_at_call 49;refine K.out.mono ?_;rintro e w' ⟨rfl,hb⟩)
   go_ret2
   exact⟨ret_x (by rw[HR.out,HPN.out];rfl) (by rw[HR.out];rfl),BW.out.trans (hb.mono BW.out.size)⟩
  have hP:=HP.out k P oM hk h1
  have K:Hid (Calls Tryz.prog 49 #[.pointer (some ⟨w1.heap.size,0,none⟩)] wo fun e w'=>e=.returned (.string (Pl.ba P))/\Below w1.heap.size wo w'):=string_any w1.heap.size w1.heap.size P wo h2 hP
  clear HG HN HS HL HE HP HX HH h1 h2 h3 hP k0
  go_wp2_with (go_at_call 49;refine K.out.mono ?_;rintro e w' ⟨rfl,hb⟩)
  go_ret2
  exact⟨ret_x (by rw[HR.out];rfl) (by rw[HR.out];rfl),BW.out.trans (hb.mono hz1)⟩
 obtain⟨s,b,off,hs,hsm,rfl,hb,a1,a2,c1,c2,hgd⟩:=HG.out k hlt
 obtain⟨g0,g1,g2,g3,r0,r1⟩:=hgd _ BW.out
 have N:=zH (HN.out s hsm)
 have S:=zH (fun x=>HS.out k s P x hs HH.out.1)
 obtain⟨xl,kx⟩:=HX.out s hsm
 have XL:=zH xl
 have BA:Hid (∀o',Below wo.heap.size wo (wo.alloc o')):=fun o'=>(Below.refl _ _).alloc (Nat.le_refl _) _
 have KS:Hid (∀o',Calls Tryz.prog 46 #[.agg #[.int .i64 s.k,.string (Pl.ba s.nm),.slice a1 s.code.length c1,.slice a2 s.gs.length c2]] (wo.alloc o') (StxPost s (wo.alloc o'))):=fun o'=>kx a1 a2 c1 c2 (wo.alloc o') (BW.out.trans ((BA.out o').mono BW.out.size)) (r0.keep ((BA.out o').mono BW.out.size)) (r1.keep ((BA.out o').mono BW.out.size))
 have HTX:Hid (∀w',Below wo.heap.size wo w'->Tx w1.heap.size w1.heap.size P w'):=fun w' h=>HH.out.2.1.keep h
 clear HG HN HS HL HE HP HX hs hsm hgd r0 r1 HH xl kx
 generalize Pl.ba s.nm=nm at *
 generalize s.code.length=cl at *
 generalize s.gs.length=gl at *
 generalize s.k=kk at *
 go_wp2_with fail
 refine(KS.out _).mono ?_
 rintro e w2 ⟨str,rfl,hstr,hb2⟩
 have HST:=zH hstr
 have H2:=zH ((BA.out _).trans (hb2.mono sI))
 have B2:Hid (Below w.heap.size w w2):=BW.out.trans (H2.out.mono BW.out.size)
 have B12:Hid (Below w1.heap.size w1 w2):=BB.out.trans (H2.out.mono hbs)
 have X2:=zH (HTX.out _ H2.out)
 clear hb2 hstr KS
 cases hst:Pl.stx Pl.nt s with
 |none =>
  have HR:=zH (N.out hst)
  clear hst
  go_wp2_with fail
  go_ret2
  exact⟨ret_x (by rw[HR.out];rfl) (by rw[HR.out];rfl),B2.out⟩
 |some xx =>
  have HR:=zH (S.out xx hst)
  have hxl:=XL.out xx hst
  have hse:=HST.out xx hst
  clear hst
  subst hse
  have hsz:(Pl.ba xx).size<=1000000000:=by rw[Pl.ba_size];omega
  go_wp2_with fail
  refine(tx_str w1.heap.size w1.heap.size P _ _ X2.out oM hsz B12.out.size).mono ?_
  rintro e w3 ⟨rfl,h1,h2⟩
  have X3:Hid (Tx w1.heap.size w1.heap.size (P++xx) w3):=h1
  have B3:=zH (B12.out.trans h2)
  clear h1 h2
  go_wp2_with fail
  refine(tx_byte w1.heap.size w1.heap.size _ 10 10 rfl _ X3.out (by rw[List.length_append];omega) B3.out.size).mono ?_
  rintro e w4 ⟨rfl,h1,h2⟩
  have X4:Hid (Tx w1.heap.size w1.heap.size (P++(xx++[10])) w4):=by rw[<- List.append_assoc];exact h1
  have B4:=zH (B3.out.trans h2)
  clear h1 h2
  go_wp2_with fail
  go_roundw
  case rel=>exact⟨k+1,_,by omega,by go_num,⟨HR.out,X4.out,fun h=>by omega⟩,B4⟩
  simp[intOf];omega
theorem implPrint_any (p:List Pl.Tv) (ao:Option Addr) (cap mb mo cp:Nat) (hsm:Pl.SmallP p) (w:World) (he:Ev w mb mo cp) (hR:RdP w.heap.size w ao p) :
  Calls Tryz.prog 9 #[.slice ao p.length cap] w fun e w'=>e=.returned (.tuple #[.string (Pl.ba (Pl.prt Pl.nt p).1),.bool (Pl.prt Pl.nt p).2])/\Below w.heap.size w w':=by
 have K:=zH (programText_any p ao cap mb mo cp hsm w he hR)
 have HF:Hid (Pl.prt Pl.nt p=match Pl.prg p with | some t=>if t.length<=4000 then (t,true) else ([],false) | none=>([],false)):=by
  show _=_
  unfold Pl.prt Pl.prg
  split <;> rfl
 clear he hR hsm
 generalize Pl.prt Pl.nt p=r at *
 generalize p.length=n at *
 cases h:Pl.prg p with
 |none =>
  rw[h] at K HF
  have HR:=zH (show r=([],false) from HF.out)
  simp only[Option.getD_none,Option.isSome_none] at K
  clear h HF
  go_enter Tryz.func9,Tryz.ntmps9
  go_wp2_with (go_at_call 20;refine K.out.mono ?_;rintro e w1 ⟨rfl,hb1⟩)
  go_ret2
  exact⟨ret_x (by rw[HR.out];rfl) (by rw[HR.out]),hb1⟩
 |some t =>
  rw[h] at K HF
  simp only[Option.getD_some,Option.isSome_some] at K
  have hs:(Pl.ba t).size=t.length:=rfl
  have HS:Hid ((Pl.ba t).size=t.length):=hs
  clear h
  by_cases h4:t.length<=4000
  ·have HR:=zH (show r=(t,true) from HF.out.trans (if_pos h4))
   have hq:¬(((Pl.ba t).size:Int) > 4000):=by omega
   have HRR:Hid (Pl.ba r.1=Pl.ba t/\r.2=true):=by rw[HR.out];exact⟨rfl,rfl⟩
   clear HF hs HS h4 HR
   generalize Pl.ba t=tt at *
   go_enter Tryz.func9,Tryz.ntmps9
   go_wp2_with (go_at_call 20;refine K.out.mono ?_;rintro e w1 ⟨rfl,hb1⟩)
   go_ret2
   exact⟨ret_x HRR.out.1.symm HRR.out.2.symm,hb1⟩
  have HR:=zH (show r=([],false) from HF.out.trans (if_neg h4))
  have hq:((Pl.ba t).size:Int) > 4000:=by omega
  clear HF hs HS h4
  generalize Pl.ba t=tt at *
  go_enter Tryz.func9,Tryz.ntmps9
  go_wp2_with (go_at_call 20;refine K.out.mono ?_;rintro e w1 ⟨rfl,hb1⟩)
  go_ret2
  exact⟨ret_x (by rw[HR.out];rfl) (by rw[HR.out]),hb1⟩
namespace Pl
def cm (c:List Sv):Nat:=(c.map fun s=>6+s.nums.length).sum
def gmv (c:List Gv):Nat:=(c.map fun g=>cm g.test+cm g.thn).sum
def tm (t:Tv):Nat:=2+cm t.code+gmv t.gs
def ptm (p:List Tv):Nat:=(p.map tm).sum
theorem cm_app (c d:List Sv):cm (c++d)=cm c+cm d:=by simp[cm]
theorem cm_len:∀(c:List Sv),c.length<=cm c/\∀s∈c,s.nums.length<=cm c
 |[]=>⟨Nat.le_refl _,fun s h=>by cases h⟩
 |a::c=>by
  have h:=cm_len c
  have e:cm (a::c)=6+a.nums.length+cm c:=by simp[cm]
  rw[e]
  refine⟨by rw[List.length_cons];omega,fun s hs=>?_⟩
  rcases List.mem_cons.1 hs with rfl|hs
  ·omega
  have:=h.2 s hs;omega
theorem gmv_mem:∀(c:List Gv) (g:Gv),g∈c->cm g.test<=gmv c/\cm g.thn<=gmv c
 |[],g,h=>by cases h
 |a::c,g,h=>by
  have e:gmv (a::c)=cm a.test+cm a.thn+gmv c:=by simp[gmv]
  rw[e]
  rcases List.mem_cons.1 h with rfl|h
  ·omega
  have:=gmv_mem c g h;omega
theorem pm_mem:∀(p:List Tv) (t:Tv),t∈p->tm t<=ptm p
 |[],t,h=>by cases h
 |a::p,t,h=>by
  have e:ptm (a::p)=tm a+ptm p:=by simp[ptm]
  rw[e]
  rcases List.mem_cons.1 h with rfl|h
  ·omega
  have:=pm_mem p t h;omega
theorem pm_len:∀(p:List Tv),p.length<=ptm p
 |[]=>Nat.le_refl _
 |a::p=>by
  have:=pm_len p
  have e:ptm (a::p)=tm a+ptm p:=by simp[ptm]
  rw[e,List.length_cons]
  unfold tm
  omega
theorem szt_of {p:List Tv}(h:ptm p<=36000) (hg:∀t∈p,t.gs.length<=4000):p.length<=1048576/\∀s∈p,Sz s.code/\SzG s.gs:=by
 have hl:=pm_len p
 refine⟨by omega,fun s hs=>?_⟩
 have h1:=pm_mem p s hs
 have h2:=hg s hs
 unfold tm at h1
 have sz:∀c:List Sv,cm c<=36000->Sz c:=fun c hc=>by
  have:=cm_len c
  exact⟨by omega,fun s hs=>by have:=this.2 s hs;omega⟩
 refine⟨sz _ oM,by omega,fun g hg=>?_⟩
 have:=gmv_mem s.gs g hg
 exact⟨sz _ oM,sz _ oM⟩
mutual
theorem E.cm_le:∀e:E,e.wf->cm e.code<=7 * e.toks.length
 |.opd o,h=>O.cm_le o h
 |.one f e,h=>by
  have h1:=E.cm_le e h.2.2
  have h2:=F.toks_len h.1
  rw[E.code,cm_app,E.toks,List.length_append]
  have e:cm [(⟨3,[],[],f.one⟩:Sv)]=6:=rfl
  omega
 |.two o f e,h=>by
  have h1:=E.cm_le e h.2.2.2
  have h2:=O.cm_le o h.1
  have h3:=F.toks_len h.2.1
  rw[E.code,cm_app,cm_app,E.toks]
  have e:cm [(⟨4,[],[],f.two⟩:Sv)]=6:=rfl
  simp only[List.length_append]
  omega
theorem O.cm_le:∀o:O,o.wf->cm o.code<=7 * o.toks.length
 |.nums v vs,_=>by simp[O.code,O.toks,cm];omega
 |.name nm,_=>by simp[O.code,O.toks,cm]
 |.br e,h=>by
  have h1:=E.cm_le e h
  simp[O.code,O.toks]
  omega
end
theorem px_sz {n:Nat}{ts r:List T}{e:E}(h:pexpr n ts=some (e,r)):cm e.code+7 * r.length<=7 * ts.length/\r.length+1<=ts.length:=by
 obtain⟨h1,h2⟩:=(psound n).1 _ _ _ h
 have h3:=E.cm_le e h2
 have h4:=List.length_pos_iff.2 (E.ne h2)
 have h5:=congrArg List.length h1
 rw[List.length_append] at h5
 omega
theorem seps_len:∀r:List T,(seps r).length<=r.length
 |[]=>Nat.le_refl _
 |t::r=>by
  have:=seps_len r
  cases t <;> first | exact Nat.le_refl _ | (show (seps r).length<=_;rw[List.length_cons];omega)
theorem pb_sz (n:Nat):∀(k:Nat) (ts:List T) (gs:List (E × E)) (e:E) (r:List T),pbody n k ts=some (gs,e,r)->gmv (gs.map gv)+cm e.code+7 * r.length<=7 * ts.length/\gs.length+r.length+1<=ts.length
 |0,ts,gs,e,r,h=>by cases h
 |k+1,ts,gs,e,r,h=>by
  cases hx:pexpr n ts with
  |none=>rw[pb_none hx] at h;cases h
  |some q =>
   obtain⟨x,r1⟩:=q
   have s1:=px_sz hx
   by_cases hc:∃r',r1=.col::r'
   rotate_left 1
   ·rw[pb_end hx (fun r' e=>hc ⟨r',e⟩)] at h
    split at h
    ·rename_i r2 hsp
     cases h
     have s2:=seps_len r1
     rw[hsp,List.length_cons] at s2
     have e1:gmv (([]:List (E × E)).map gv)=0:=rfl
     rw[e1,List.length_nil]
     omega
    cases h
   obtain⟨r',rfl⟩:=hc
   cases hy:pexpr n r' with
   |none=>rw[pb_col_none hx hy] at h;cases h
   |some q =>
    obtain⟨y,r2⟩:=q
    have s2:=px_sz hy
    by_cases hs:∃r3,r2=.sep::r3
    rotate_left 1
    ·rw[pb_col_no hx hy (fun r' e=>hs ⟨r',e⟩)] at h;cases h
    obtain⟨r3,rfl⟩:=hs
    rw[pb_col hx hy] at h
    cases hb:pbody n k (seps r3) with
    |none=>rw[hb] at h;cases h
    |some q =>
     obtain⟨gs',e',r'⟩:=q
     rw[hb] at h
     simp only[Option.map_some,Option.some.injEq,Prod.mk.injEq] at h
     obtain⟨rfl,rfl,rfl⟩:=h
     have s3:=pb_sz n k _ _ _ _ hb
     have s4:=seps_len r3
     rw[List.length_cons] at s1 s2
     have e1:gmv (((x,y)::gs').map gv)=cm x.code+cm y.code+gmv (gs'.map gv):=by simp[gmv,gv]
     rw[e1,List.length_cons]
     omega
theorem ps_sz {n k:Nat}{ts r:List T}{s:S}(h:pstmt n k ts=some (s,r)):tm s.tv+9 * r.length<=9 * ts.length/\s.tv.gs.length<=ts.length/\r.length+1<=ts.length:=by
 unfold pstmt at h
 split at h
 ·rename_i nm r0
  cases hx:pexpr n r0 with
  |none=>rw[hx] at h;cases h
  |some q =>
   obtain⟨e,r1⟩:=q
   rw[hx] at h
   cases h
   have s1:=px_sz hx
   simp only[List.length_cons]
   refine⟨?_,Nat.zero_le _,by omega⟩
   show 2+cm e.code+0+_<=_
   omega
 ·rename_i nm r0
  split at h
  ·cases h
  cases hb:pbody n k (seps r0) with
  |none=>rw[hb] at h;cases h
  |some q =>
   obtain⟨gs,e,r1⟩:=q
   rw[hb] at h
   cases h
   have s1:=pb_sz n k _ _ _ _ hb
   have s2:=seps_len r0
   simp only[List.length_cons]
   refine⟨?_,?_,by omega⟩
   ·show 2+cm e.code+gmv (gs.map gv)+_<=_
    omega
   show (gs.map _).length<=_
   rw[List.length_map]
   omega
 ·cases h
 cases hx:pexpr n ts with
 |none=>rw[hx] at h;cases h
 |some q =>
  obtain⟨e,r1⟩:=q
  rw[hx] at h
  cases h
  have s1:=px_sz hx
  refine⟨?_,Nat.zero_le _,by omega⟩
  show 2+cm e.code+0+_<=_
  omega
theorem pp_sz (n:Nat):∀(k:Nat) (ts:List T) (ss:List S),pprog n k ts=some ss->ptm (ss.map S.tv)<=9 * ts.length/\∀s∈ss,s.tv.gs.length<=ts.length
 |k,[],ss,h=>by
  rw[pp_nil] at h
  cases h
  exact⟨Nat.le_refl _,fun s hs=>by cases hs⟩
 |0,t::ts,ss,h=>by cases h
 |k+1,t::ts,ss,h=>by
  cases hs:pstmt n n (t::ts) with
  |none=>rw[pp_none hs] at h;cases h
  |some q =>
   obtain⟨s,r⟩:=q
   have s1:=ps_sz hs
   cases r with
   |nil =>
    rw[pp_last hs] at h
    cases h
    refine⟨?_,fun x hx=>by rw[List.mem_singleton.1 hx];exact s1.2.1⟩
    show tm s.tv+0<=_
    omega
   |cons u r =>
    by_cases hu:u=.sep
    rotate_left 1
    ·rw[pp_no hu hs] at h;cases h
    subst hu
    rw[pp_sep hs] at h
    cases hp:pprog n k (seps r) with
    |none=>rw[hp] at h;cases h
    |some l =>
     rw[hp] at h
     cases h
     have s2:=pp_sz n k _ _ hp
     have s3:=seps_len r
     rw[List.length_cons] at s1
     refine⟨?_,fun x hx=>?_⟩
     ·have e:ptm ((s::l).map S.tv)=tm s.tv+ptm (l.map S.tv):=by simp[ptm]
      rw[e]
      omega
     rcases List.mem_cons.1 hx with rfl|hx
     ·exact s1.2.1
     have:=s2.2 x hx;omega
theorem prs_sz (s:ByteArray):ptm (prsS s).1<=36000/\∀t∈(prsS s).1,t.gs.length<=4000:=by
 have nil:ptm ([]:List Tv)<=36000/\∀t∈([]:List Tv),t.gs.length<=4000:=⟨by decide,fun t ht=>by cases ht⟩
 by_cases h4:4000<s.size
 ·rw[prs_long h4];exact nil
 have hl:=len_le s.size s 0 oM
 cases hf:fb (lxT s 0) with
 |some p=>rw[prs_bad h4 hf];exact nil
 |none =>
  rw[prs_pp h4 hf]
  cases hp:pprog (2 * (lxT s 0).length+1) ((lxT s 0).length+1) (seps ((lxT s 0).map tkT)) with
  |none=>exact nil
  |some ss =>
   simp only
   split
   ·exact nil
   have h1:=pp_sz _ _ _ _ hp
   have h2:=seps_len ((lxT s 0).map tkT)
   rw[List.length_map] at h2
   refine⟨show ptm (ss.map S.tv)<=36000 by omega,fun t ht=>?_⟩
   obtain⟨x,hx,rfl⟩:=List.mem_map.1 ht
   have:=h1.2 x hx
   omega
end Pl
namespace Pl
def tn:T->Nat
 |.arr nm=>nm.length
 |.fn nm=>nm.length
 |_=>0
def nb (B:Nat) (ts:List T):Prop:=∀t∈ts,tn t<=B
def Fi (B:Nat) (c:List Sv):Prop:=c ≠ []/\∀s∈c,s.nm.length<=B/\s.fn.nm.length<=B
theorem nb.app {B:Nat}{a b:List T}(h:nb B (a++b)):nb B a/\nb B b:=⟨fun t ht=>h t (List.mem_append_left _ ht),fun t ht=>h t (List.mem_append_right _ ht)⟩
theorem nb.tl {B:Nat}{t:T}{b:List T}(h:nb B (t::b)):nb B b:=fun u hu=>h u (List.mem_cons_of_mem _ hu)
theorem nb.seps {B:Nat}:∀{r:List T},nb B r->nb B (seps r)
 |[],h=>h
 |t::r,h=>by
  have:=nb.seps (nb.tl h)
  cases t <;> first | exact h | exact this
theorem F.one_nm {B:Nat}{f:F}(h:nb B f.toks):f.one.nm.length<=B:=by
 cases f <;> first | exact h _ (List.mem_singleton.2 rfl) | exact Nat.zero_le _
theorem F.two_nm {B:Nat}{f:F}(h:nb B f.toks):f.two.nm.length<=B:=by
 cases f <;> first | exact h _ (List.mem_singleton.2 rfl) | exact Nat.zero_le _
mutual
theorem E.fi {B:Nat}:∀e:E,nb B e.toks->Fi B e.code
 |.opd o,h=>O.fi o h
 |.one f e,h=>by
  rw[E.toks] at h
  have h1:=E.fi e h.app.2
  refine⟨by rw[E.code];simp,fun s hs=>?_⟩
  rw[E.code] at hs
  rcases List.mem_append.1 hs with r|r
  ·exact h1.2 s r
  ·rw[List.mem_singleton.1 r];exact⟨Nat.zero_le _,F.one_nm h.app.1⟩
 |.two o f e,h=>by
  rw[E.toks] at h
  have h1:=O.fi o h.app.1
  have h2:=E.fi e h.app.2.app.2
  refine⟨by rw[E.code];simp,fun s hs=>?_⟩
  rw[E.code] at hs
  rcases List.mem_append.1 hs with r|r
  ·exact h2.2 s r
  rcases List.mem_append.1 r with r|r
  ·exact h1.2 s r
  rw[List.mem_singleton.1 r];exact⟨Nat.zero_le _,F.two_nm h.app.2.app.1⟩
theorem O.fi {B:Nat}:∀o:O,nb B o.toks->Fi B o.code
 |.nums v vs,_=>⟨by rw[O.code];simp,fun s hs=>by rw[O.code] at hs;rw[List.mem_singleton.1 hs];exact⟨Nat.zero_le _,Nat.zero_le _⟩⟩
 |.name nm,h=>⟨by rw[O.code];simp,fun s hs=>by rw[O.code] at hs;rw[List.mem_singleton.1 hs];exact⟨h (.arr nm) (by rw[O.toks];simp),Nat.zero_le _⟩⟩
 |.br e,h=>by
  rw[O.toks] at h
  rw[O.code]
  exact E.fi e (nb.tl h).app.1
end
theorem px_fi {B n:Nat}{ts r:List T}{e:E}(h:pexpr n ts=some (e,r)) (hb:nb B ts):Fi B e.code/\nb B r:=by
 obtain⟨h1,h2⟩:=(psound n).1 _ _ _ h
 rw[h1] at hb
 exact⟨E.fi e hb.app.1,hb.app.2⟩
theorem pb_fi {B:Nat}(n:Nat):∀(k:Nat) (ts:List T) (gs:List (E × E)) (e:E) (r:List T),pbody n k ts=some (gs,e,r)->nb B ts->(∀g∈gs,Fi B g.1.code/\Fi B g.2.code)/\Fi B e.code/\nb B r
 |0,ts,gs,e,r,h,_=>by cases h
 |k+1,ts,gs,e,r,h,hB=>by
  cases hx:pexpr n ts with
  |none=>rw[pb_none hx] at h;cases h
  |some q =>
   obtain⟨x,r1⟩:=q
   have s1:=px_fi hx hB
   by_cases hc:∃r',r1=.col::r'
   ·obtain⟨r',rfl⟩:=hc
    cases hy:pexpr n r' with
    |none=>rw[pb_col_none hx hy] at h;cases h
    |some q =>
     obtain⟨y,r2⟩:=q
     have s2:=px_fi hy (nb.tl s1.2)
     by_cases hs:∃r3,r2=.sep::r3
     ·obtain⟨r3,rfl⟩:=hs
      rw[pb_col hx hy] at h
      cases hb:pbody n k (seps r3) with
      |none=>rw[hb] at h;cases h
      |some q =>
       obtain⟨gs',e',r'⟩:=q
       rw[hb] at h
       simp only[Option.map_some,Option.some.injEq,Prod.mk.injEq] at h
       obtain⟨rfl,rfl,rfl⟩:=h
       have s3:=pb_fi n k _ _ _ _ hb (nb.seps (nb.tl s2.2))
       exact⟨fun g hg=>by rcases List.mem_cons.1 hg with rfl | hg;exact⟨s1.1,s2.1⟩;exact s3.1 g hg,s3.2⟩
     rw[pb_col_no hx hy (fun r' e=>hs ⟨r',e⟩)] at h;cases h
   rw[pb_end hx (fun r' e=>hc ⟨r',e⟩)] at h
   split at h
   ·rename_i r2 hsp
    cases h
    have s2:=nb.seps s1.2
    rw[hsp] at s2
    exact⟨(fun g hg=>by cases hg),s1.1,nb.tl s2⟩
   cases h
def FiT (B:Nat) (t:Tv):Prop:=Fi B t.code/\t.nm.length<=B/\∀g∈t.gs,Fi B g.test/\Fi B g.thn
theorem ps_fi {B n k:Nat}{ts r:List T}{s:S}(h:pstmt n k ts=some (s,r)) (hB:nb B ts):FiT B s.tv/\nb B r:=by
 unfold pstmt at h
 split at h
 ·rename_i nm r0
  cases hx:pexpr n r0 with
  |none=>rw[hx] at h;cases h
  |some q =>
   obtain⟨e,r1⟩:=q
   rw[hx] at h
   cases h
   have s1:=px_fi hx (nb.tl (nb.tl hB))
   exact⟨⟨s1.1,hB (.arr nm) sI,(fun g hg=>by cases hg)⟩,s1.2⟩
 ·rename_i nm r0
  split at h
  ·cases h
  cases hb:pbody n k (seps r0) with
  |none=>rw[hb] at h;cases h
  |some q =>
   obtain⟨gs,e,r1⟩:=q
   rw[hb] at h
   cases h
   have s1:=pb_fi n k _ _ _ _ hb (nb.seps (nb.tl (nb.tl (nb.tl hB))))
   refine⟨⟨s1.2.1,hB (.fn nm) sI,fun g hg=>?_⟩,s1.2.2⟩
   obtain⟨x,hx,rfl⟩:=List.mem_map.1 hg
   exact s1.1 x hx
 ·cases h
 cases hx:pexpr n ts with
 |none=>rw[hx] at h;cases h
 |some q =>
  obtain⟨e,r1⟩:=q
  rw[hx] at h
  cases h
  have s1:=px_fi hx hB
  exact⟨⟨s1.1,Nat.zero_le _,fun g hg=>by cases hg⟩,s1.2⟩
theorem pp_fi {B:Nat}(n:Nat):∀(k:Nat) (ts:List T) (ss:List S),pprog n k ts=some ss->nb B ts->∀s∈ss,FiT B s.tv
 |k,[],ss,h,_=>by
  rw[pp_nil] at h
  cases h
  exact fun s hs=>by cases hs
 |0,t::ts,ss,h,_=>by cases h
 |k+1,t::ts,ss,h,hB=>by
  cases hs:pstmt n n (t::ts) with
  |none=>rw[pp_none hs] at h;cases h
  |some q =>
   obtain⟨s,r⟩:=q
   have s1:=ps_fi hs hB
   cases r with
   |nil =>
    rw[pp_last hs] at h
    cases h
    exact fun x hx=>by rw[List.mem_singleton.1 hx];exact s1.1
   |cons u r =>
    by_cases hu:u=.sep
    ·subst hu
     rw[pp_sep hs] at h
     cases hp:pprog n k (seps r) with
     |none=>rw[hp] at h;cases h
     |some l =>
      rw[hp] at h
      cases h
      have s2:=pp_fi n k _ _ hp (nb.seps (nb.tl s1.2))
      exact fun x hx=>by rcases List.mem_cons.1 hx with rfl | hx;exact s1.1;exact s2 x hx
    rw[pp_no hu hs] at h;cases h
theorem tok_sz (s:ByteArray) (j:Nat) (hs:s.size<=4000):(tokAt s j).tx.size<=4000:=by
 have ex:∀a b,(s.extract a b).size<=4000:=fun a b=>by rw[ByteArray.size_extract];omega
 unfold tokAt st1 st0
 split
 ·exact ex _ _
 split
 ·exact ex _ _
 split
 ·exact ex _ _
 split
 ·show (2:Nat)<=4000
  omega
 exact ex _ _
theorem sgT_tn (l:List UInt8):tn (sgT l)=0:=by
 unfold sgT
 repeat' split
 all_goals rfl
theorem lx_nb (s:ByteArray) (hs:s.size<=4000):nb 4000 ((lxT s 0).map tkT):=fun t ht=>by
 obtain⟨u,hu,rfl⟩:=List.mem_map.1 ht
 obtain⟨j,hj,rfl⟩:=lex_memi s _ _ u hu
 have h:=tok_sz s j hs
 generalize tokAt s j=k at *
 have h':k.tx.data.toList.length<=4000:=by rw[Array.length_toList];exact h
 unfold tkT
 split
 ·exact Nat.zero_le _
 split
 ·exact h'
 split
 ·exact h'
 split
 ·exact Nat.zero_le _
 rw[sgT_tn];exact Nat.zero_le _
theorem prs_fi (s:ByteArray):∀t∈(prsS s).1,FiT 4000 t:=by
 have nil:∀t∈([]:List Tv),FiT 4000 t:=fun t ht=>by cases ht
 by_cases h4:4000<s.size
 ·rw[prs_long h4];exact nil
 cases hf:fb (lxT s 0) with
 |some p=>rw[prs_bad h4 hf];exact nil
 |none =>
  rw[prs_pp h4 hf]
  cases hp:pprog (2 * (lxT s 0).length+1) ((lxT s 0).length+1) (seps ((lxT s 0).map tkT)) with
  |none=>exact nil
  |some ss =>
   simp only
   split
   ·exact nil
   intro t ht
   obtain⟨x,hx,rfl⟩:=List.mem_map.1 ht
   exact pp_fi _ _ _ _ hp (nb.seps (lx_nb s oM)) x hx
theorem csz_cm (c:List Sv):csz c<=cm c:=by
 unfold csz cm
 induction c with
 |nil=>exact Nat.le_refl _
 |cons s c ih =>
  simp only[List.length_cons,List.map_cons,List.sum_cons] at ih ⊢
  omega
theorem cm_pos {c:List Sv}(h:c ≠ []):6<=cm c:=by
 cases c with
 |nil=>exact absurd rfl h
 |cons s c=>simp[cm];omega
theorem gsz_gmv {B:Nat}:∀(c:List Gv),(∀g∈c,Fi B g.test/\Fi B g.thn)->c.length+(c.map gsz).sum<=2 * gmv c
 |[],_=>Nat.le_refl _
 |g::c,h=>by
  have h1:=gsz_gmv c (fun x hx=>h x (by simp[hx]))
  have h2:=cm_pos (h g sI).1.1
  have h3:=csz_cm g.test
  have h4:=csz_cm g.thn
  have e:gmv (g::c)=cm g.test+cm g.thn+gmv c:=by simp[gmv]
  rw[e,List.length_cons,List.map_cons,List.sum_cons]
  unfold gsz at h1 ⊢
  omega
theorem psz_ptm {B:Nat}:∀(p:List Tv),(∀t∈p,FiT B t)->psz p<=2 * ptm p
 |[],_=>Nat.le_refl _
 |t::p,h=>by
  have h1:=psz_ptm p (fun x hx=>h x (by simp[hx]))
  have h2:=gsz_gmv t.gs (h t sI).2.2
  have h3:=csz_cm t.code
  have e:ptm (t::p)=tm t+ptm p:=by simp[ptm]
  unfold psz at h1 ⊢
  rw[e,List.length_cons,List.map_cons,List.sum_cons]
  unfold tm ssz at *
  omega
theorem prs_small (s:ByteArray):SmallP (prsS s).1:=by
 obtain⟨h1,h2⟩:=prs_sz s
 have h3:=prs_fi s
 generalize (prsS s).1=p at *
 have h4:=psz_ptm p h3
 have sm:∀c:List Sv,cm c<=36000->Fi 4000 c->Small c:=fun c hc hf=>⟨by have:=csz_cm c;omega,fun s hs=>⟨by have:=(hf.2 s hs).1;omega,by have:=(hf.2 s hs).2;omega⟩⟩
 refine⟨by omega,fun t ht=>?_⟩
 have h5:=pm_mem p t ht
 have h6:=h3 t ht
 unfold tm at h5
 exact⟨sm _ oM h6.1,by have:=h6.2.1;omega,fun g hg=>by have:=gmv_mem t.gs g hg;exact⟨sm _ oM (h6.2.2 g hg).1,sm _ oM (h6.2.2 g hg).2⟩⟩
theorem prs_szt (s:ByteArray):SzT (prsS s).1:=szt_of (prs_sz s).1 (prs_sz s).2
theorem prs_code (s:ByteArray) (h:(prsS s).2.1 ≠ 0):(prsS s).1=[]:=by
 by_cases h4:4000<s.size
 ·rw[prs_long h4]
 cases hf:fb (lxT s 0) with
 |some p=>rw[prs_bad h4 hf]
 |none =>
  rw[prs_pp h4 hf] at h ⊢
  cases hp:pprog (2 * (lxT s 0).length+1) ((lxT s 0).length+1) (seps ((lxT s 0).map tkT)) with
  |none=>rfl
  |some ss =>
   rw[hp] at h
   simp only at h ⊢
   split
   ·rfl
   rename_i hb
   rw[if_neg hb] at h
   exact absurd rfl h
end Pl
end Go.Proofs.YtbiiicbfpcfgdaaGreatDoor
