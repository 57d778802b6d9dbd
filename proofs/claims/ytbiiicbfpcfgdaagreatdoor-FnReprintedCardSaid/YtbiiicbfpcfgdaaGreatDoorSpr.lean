import Derived.Test.YtbiiicbfpcfgdaaGreatDoorPrP
namespace Go.Proofs.YtbiiicbfpcfgdaaGreatDoor
open Go.RowKit
set_option maxRecDepth 100000
set_option maxHeartbeats 16000000
set_option linter.unusedVariables false
theorem uSpr1 {P:Prop}(h:P:=by simp[go_sem];rfl):P:=h
theorem ret_print {a b:ByteArray}{x y:Bool}(h:a=b) (h2:x=y):Ending.returned (.tuple #[.string a,.bool x])=.returned (.tuple #[.string b,.bool y]):=by rw[h,h2]
theorem beq_of_size {a b:Nat}(h:a=b):a=b:=h
theorem tSpr1 {P:Prop}(h:P:=by
 intro v' w5 ho5 hg5
 have B5:Hid (Below w.heap.size w w5):=B4.out.grown hg5 hs4 (fun k hk=>(O4.out.lt k hk).1)
 have O5:Hid (w5.ownsRow w.heap.size 5 1 v' (Pl.lx p (k+1)).length (Lib.byteCells (Pl.lx p (k+1)))):=by
  show World.ownsRow _ _ _ _ _ _ _
  rw[LX.out,List.length_append]
  exact ho5
 clear ho5 hg5 kc
 go_wp2_with fail
 go_roundw
 case rel=>exact⟨k+1,by omega,by go_num,O5,B5⟩
 case measure=>simp[intOf];omega
 ):P:=h
theorem tSpr2 {P:Prop}(h:P:=by
 have O4:=zH (owns8_keep O2.out BC.out)
 have B4:=zH (B2.out.trans (BC.out.mono B2.out.size))
 have hs4:=B4.out.size
 clear ecp
 go_wp2_with (at_builtin;refine wpList_append8 (base:=w.heap.size) w4 rfl (.tmp 76) (.tmp 79) rfl (.slice xo Q.length yo) (.slice (some ⟨w2.heap.size,0,none⟩) D.length cp) rfl rfl Q.length Q D w2.heap.size cp rfl O4.out CV.out HPOS.out HBD.out hs4 ?_)
 exact tSpr1
 ):P:=h
theorem tSpr3 {P:Prop}(h:P:=by
 generalize Pl.lx p k=Q at *
 go_wp2_with fail
 go_ret2
 exact⟨ret_print (by rw[HR.out];rfl) (by rw[HR.out]),BB.out⟩
 ):P:=h
theorem specPrint_any (p:List Pl.Tv) (ao:Option Addr) (cap:Nat) (hsm:Pl.SmallP p) (w:World) (hR:RdP w.heap.size w ao p) :
  Calls Tryz.prog 8 #[.slice ao p.length cap] w fun e w'=>e=.returned (.tuple #[.string (Pl.ba (Pl.prt Pl.nt p).1),.bool (Pl.prt Pl.nt p).2])/\Below w.heap.size w w':=by
 have K0:=zH (l3Ok_any p ao cap hsm w hR)
 have hlen:=hsm.len
 cases hok:Pl.okP p
 ·rw[hok] at K0
  have HP:=zH (Pl.prt_no hok)
  generalize Pl.prt Pl.nt p=r at *
  clear hR hsm hok
  generalize p.length=L at *
  go_enter Tryz.func8,Tryz.ntmps8
  go_wp2_with (go_at_call 18;refine K0.out.mono ?_;rintro e w' ⟨rfl,hb2⟩)
  go_ret2
  exact⟨ret_print (by rw[HP.out];rfl) (by rw[HP.out]),hb2⟩
 rw[hok] at K0
 have HP:=zH (Pl.prt_yes hok)
 obtain⟨hz,hst⟩:=Pl.okP_get hok
 have HL0:Hid (Pl.lx p 0=[]):=rfl
 have HRR:=zH hR
 have HC:Hid (∀k s,p[k]? = some s->∃b off,ao=some ⟨b,off,none⟩/\b<w.heap.size/\∃a1 a2 c1 c2,∀w',Below w.heap.size w w'->Sm w.heap.size w' b (off+k * 4) s a1 a2 c1 c2):=fun k s hs=>by
  rcases hR with rfl|⟨b,off,hb,rfl,hc⟩
  ·cases hs
  obtain⟨a1,a2,c1,c2,h⟩:=hc k s hs
  exact⟨b,off,rfl,hb,a1,a2,c1,c2,fun w' hw=>h.keep hb hw⟩
 have HG:Hid (∀k,k<p.length->∃s x,p[k]? = some s/\s∈p/\Pl.stx Pl.nt s=some x/\Pl.ssz s<=16000/\Pl.lx p (k+1)=Pl.lx p k++(x++[10])):=fun k hk=>by
  obtain⟨x,hx⟩:=hst _ (List.getElem_mem hk)
  exact⟨p[k],x,List.getElem?_eq_getElem hk,List.getElem_mem hk,hx,Nat.le_trans (Pl.ssz_mem (List.getElem_mem hk)) hz,Pl.lx_succ hst (List.getElem?_eq_getElem hk) hx⟩
 have HMO:Hid (∀k,k<=p.length->(Pl.lx p k).length<=(Pl.lx p p.length).length):=fun k hk=>by
  have:=Pl.lx_mono hst k (p.length-k) oM
  rwa [show k+(p.length-k)=p.length by omega] at this
 have HM:Hid (∀s∈p,Pl.SmallT s):=hsm.st
 clear hR hsm hok hz hst HRR
 generalize Pl.prt Pl.nt p=r at *
 generalize hL:p.length=L at *
 clear hL
 go_enter Tryz.func8,Tryz.ntmps8
 go_wp2_with (go_at_call 18;refine K0.out.mono ?_;rintro e w1 ⟨rfl,hb1⟩)
 have OE:Hid ((w1.alloc (.cells #[] 5)).ownsRow w.heap.size 5 1 (.slice (some ⟨w1.heap.size,0,none⟩) 0 0) 0 (Lib.byteCells [])):=World.ownsRow_lit w1 #[] 0 hb1.size (by unfold maxLen;omega) rfl
 have BE:Hid (Below w.heap.size w (w1.alloc (.cells #[] 5))):=hb1.alloc hb1.size _
 clear hb1 K0
 go_loopw [4,5] (fun ov iv wr=>∃k:Nat,k<=L/\iv=.int .i64 k/\Hid (wr.ownsRow w.heap.size 5 1 ov (Pl.lx p k).length (Lib.byteCells (Pl.lx p k)))/\Hid (Below w.heap.size w wr)) (fun _ iv _=>L-(intOf iv).toNat)
 case atStart=>exact⟨0,Nat.zero_le _,rfl,by rw[HL0.out];exact OE,BE⟩
 rename World=>wo
 obtain⟨k,hk,rfl,hO,BB⟩:=hrel
 obtain⟨xo,yo,eo⟩:=owns8_form hO.out
 subst eo
 by_cases hlt:k<L
 rotate_left 1
 ·obtain rfl:k=L:=by omega
  have kc:=conv_row (Pl.lx p k) _ wo hO.out
  by_cases h4:(Pl.lx p k).length<=4000
  ·have HR:=zH (show r=(Pl.lx p k,true) by rw[HP.out,if_pos h4])
   clear HC HG HM HMO HP
   exact tSpr3
  have HR:=zH (show r=([],false) by rw[HP.out,if_neg h4])
  clear HC HG HM HMO HP kc
  exact tSpr3
 by_cases h4:(Pl.lx p k).length<=4000
 rotate_left 1
 ·have hmo:=HMO.out k hk
  have HR:=zH (show r=([],false) by rw[HP.out,if_neg oM])
  have hb4:¬(((Pl.lx p k).length:Int)<=4000):=by omega
  clear HC HG HM HMO HP hmo
  exact tSpr3
 obtain⟨s,x,hs,hm,hx,hsz,hlx⟩:=HG.out k hlt
 obtain⟨b,off,rfl,hb,a1,a2,c1,c2,hsm⟩:=HC.out k s hs
 obtain⟨d0,d1,d2,d3,rc,rg⟩:=hsm _ BB.out
 obtain⟨e,g,he,hg,hcase⟩:=Pl.stx_get hx
 have T:=zH (HM.out s hm)
 have hel:=Pl.xt_len he
 have hss:=Pl.ssz_eq s
 have LX:=zH hlx
 have KW:Hid (∀w',Below w.heap.size wo w'->Calls Tryz.prog 19 #[.slice a1 s.code.length c1] w' fun e' w2=>e'=.returned (.string (Pl.ba e))/\Below w'.heap.size w' w2):=fun w' hw=>l3Whole_any s.code a1 c1 T.out.code e he w' ((rc.keep hw).up (Nat.le_trans BB.out.size hw.size))
 have hbs:=BB.out.size
 have BA:Hid (∀o',Below w.heap.size wo (wo.alloc o')):=fun o'=>(Below.refl _ _).alloc hbs _
 have BAF:Hid (∀o',Below wo.heap.size wo (wo.alloc o')):=fun o'=>(Below.refl _ _).alloc (Nat.le_refl _) _
 have CC:Hid (∀(w1 w':World) (j:Nat) (v:Value),Below w1.heap.size w1 w'->wo.heap.size<w1.heap.size->w1.cell? ⟨wo.heap.size,j,none⟩=some v->w'.cell? ⟨wo.heap.size,j,none⟩=some v):=fun w1 w' j v hb h1 h=>(hb.cell (p:=⟨wo.heap.size,j,none⟩) h1).trans h
 have HRG:Hid (∀w',Below w.heap.size wo w'->RdG w.heap.size w' a2 s.gs):=fun w' h=>rg.keep h
 have HTG:Hid (∀g∈s.gs,Pl.Small g.test/\Pl.Small g.thn):=T.out.gs
 have HGET:=zH (Pl.gtx_get hg)
 have HGA:=zH (Pl.gx_all hg)
 have HGL:=zH (Pl.gx_len (Pl.gtx_get hg))
 have HGM:Hid (∀j,Pl.gsum s.gs j<=Pl.gsum s.gs s.gs.length):=Pl.gsum_le s.gs
 clear HC HG HM HMO hs hm hx hlx hsm rc rg T he hg
 rw[<- Pl.ba_size] at hel
 generalize hP:Pl.lx p k=Q at *
 have HQ:=zH hP
 clear hP
 generalize s.code.length=cl at *
 generalize hG:s.gs.length=G at *
 rcases hcase with ⟨hk1,hxe⟩|⟨hk2,hxe,hnl⟩|⟨hk3,hxe,hnl⟩
 ·rw[hk1] at d0
  have hpl:(Pl.ba e).size<=40 * 16000:=by omega
  have hxl:x.length<=40 * 16000:=by rw[hxe];exact hpl
  have EDD:Hid ((Pl.ba e++⟨#[10]⟩:ByteArray).data.toList=x++[10]):=by show _=_;rw[hxe];simp[Pl.ba]
  have ESS:Hid ((Pl.ba e++⟨#[10]⟩:ByteArray).size=(x++[10]).length):=by show _=_;rw[Pl.sz_eq,EDD.out]
  have HPOS:Hid (0<(x++[10]).length):=by show _<_;simp
  have HBD:Hid (Q.length+(x++[10]).length<=16777216):=by show _<=_;simp;omega
  have lim1:¬(9223372036854775807<(Pl.ba e).size+1):=by omega
  generalize hD:x++[10]=D at *
  clear hD hk1 hxe hel hss hsz hG HRG HTG HGET HGA HGL HGM
  generalize Pl.ba e=ln at *
  generalize Pl.ba s.nm=nm at *
  go_wp2_with fail
  refine(KW.out _ (BA.out _)).mono ?_
  rintro e' w2 ⟨rfl,hb2⟩
  have e0:=CC.out _ _ 0 _ hb2 sI uSpr1
  have e1:=CC.out _ _ 1 _ hb2 sI uSpr1
  have e2:=CC.out _ _ 2 _ hb2 sI uSpr1
  have e3:=CC.out _ _ 3 _ hb2 sI uSpr1
  have B2:=zH (BB.out.trans ((BA.out _).trans (hb2.mono (by simp;omega))))
  have BX2:=zH ((BA.out _).trans (hb2.mono (by simp;omega)))
  have O2:=zH (owns8_keep (owns8_keep hO.out (BAF.out _)) hb2)
  have hs2:wo.heap.size<w2.heap.size:=Nat.lt_of_lt_of_le sI hb2.size
  clear hb2 d0 d1 d2 d3
  have kc:=conv8 (ln++⟨#[10]⟩) w2
  have CV:=zH (conv8_cells (ln++⟨#[10]⟩) w2)
  have BC:=zH (conv8_below (ln++⟨#[10]⟩) w2)
  obtain⟨cp,ecp⟩:∃cp,grownCap w2 (ln++⟨#[10]⟩:ByteArray).size 0 5=cp:=⟨_,rfl⟩
  rw[ecp] at kc CV BC
  rw[EDD.out] at CV
  rw[ESS.out] at kc
  generalize (w2.drew.alloc (.cells (bytesRow (ln++⟨#[10]⟩) cp) 5 ((bytesRow (ln++⟨#[10]⟩) cp).size,(bytesRow (ln++⟨#[10]⟩) cp).size+1)))=w4 at kc CV BC
  exact tSpr2
 ·rw[hk2] at d0
  have hpl:(Pl.ba e).size<=40 * 16000:=by omega
  have hnn:(Pl.ba s.nm).size<=20:=hnl
  have hxl:x.length<=40 * 16000+24:=by
   have:e.length<=40 * 16000:=hpl
   rw[hxe];simp;omega
  have EDD:Hid ((Pl.ba s.nm++⟨#[32,58,61,32]⟩++Pl.ba e++⟨#[10]⟩:ByteArray).data.toList=x++[10]):=by show _=_;rw[hxe];simp[Pl.ba]
  have ESS:Hid ((Pl.ba s.nm++⟨#[32,58,61,32]⟩++Pl.ba e++⟨#[10]⟩:ByteArray).size=(x++[10]).length):=by show _=_;rw[Pl.sz_eq,EDD.out]
  have HPOS:Hid (0<(x++[10]).length):=by show _<_;simp
  have HBD:Hid (Q.length+(x++[10]).length<=16777216):=by show _<=_;simp;omega
  generalize hD:x++[10]=D at *
  clear hD hk2 hxe hel hss hsz hnl hG HRG HTG HGET HGA HGL HGM
  generalize Pl.ba e=le at *
  generalize Pl.ba s.nm=nm at *
  have lim1:¬(9223372036854775807<nm.size+4):=by omega
  have lim2:¬(9223372036854775807<nm.size+4+le.size):=by omega
  have lim3:¬(9223372036854775807<nm.size+4+le.size+1):=by omega
  go_wp2_with fail
  refine(KW.out _ (BA.out _)).mono ?_
  rintro e' w2 ⟨rfl,hb2⟩
  have e0:=CC.out _ _ 0 _ hb2 sI uSpr1
  have e1:=CC.out _ _ 1 _ hb2 sI uSpr1
  have e2:=CC.out _ _ 2 _ hb2 sI uSpr1
  have e3:=CC.out _ _ 3 _ hb2 sI uSpr1
  have B2:=zH (BB.out.trans ((BA.out _).trans (hb2.mono (by simp;omega))))
  have BX2:=zH ((BA.out _).trans (hb2.mono (by simp;omega)))
  have O2:=zH (owns8_keep (owns8_keep hO.out (BAF.out _)) hb2)
  have hs2:wo.heap.size<w2.heap.size:=Nat.lt_of_lt_of_le sI hb2.size
  clear hb2 d0 d1 d2 d3
  have kc:=conv8 (nm++⟨#[32,58,61,32]⟩++le++⟨#[10]⟩) w2
  have CV:=zH (conv8_cells (nm++⟨#[32,58,61,32]⟩++le++⟨#[10]⟩) w2)
  have BC:=zH (conv8_below (nm++⟨#[32,58,61,32]⟩++le++⟨#[10]⟩) w2)
  obtain⟨cp,ecp⟩:∃cp,grownCap w2 (nm++⟨#[32,58,61,32]⟩++le++⟨#[10]⟩:ByteArray).size 0 5=cp:=⟨_,rfl⟩
  rw[ecp] at kc CV BC
  rw[EDD.out] at CV
  rw[ESS.out] at kc
  generalize (w2.drew.alloc (.cells (bytesRow (nm++⟨#[32,58,61,32]⟩++le++⟨#[10]⟩) cp) 5 ((bytesRow (nm++⟨#[32,58,61,32]⟩++le++⟨#[10]⟩) cp).size,(bytesRow (nm++⟨#[32,58,61,32]⟩++le++⟨#[10]⟩) cp).size+1)))=w4 at kc CV BC
  exact tSpr2
 rw[hk3] at d0
 have hpl:(Pl.ba e).size<=40 * 16000:=by omega
 have hnn:(Pl.ba s.nm).size<=20:=hnl
 have hgl:g.length<=45 * 16000:=by
  have h1:=HGL.out G oM
  rw[HGA.out] at h1
  omega
 have hxl:x.length<=85 * 16000+26:=by
  have:e.length<=40 * 16000:=hpl
  rw[hxe];simp;omega
 have EDD:Hid ((Pl.ba s.nm++⟨#[32,58,61,32,123]⟩++Pl.ba g++Pl.ba e++⟨#[125]⟩++⟨#[10]⟩:ByteArray).data.toList=x++[10]):=by show _=_;rw[hxe];simp[Pl.ba]
 have ESS:Hid ((Pl.ba s.nm++⟨#[32,58,61,32,123]⟩++Pl.ba g++Pl.ba e++⟨#[125]⟩++⟨#[10]⟩:ByteArray).size=(x++[10]).length):=by show _=_;rw[Pl.sz_eq,EDD.out]
 have HPOS:Hid (0<(x++[10]).length):=by show _<_;simp
 have HBD:Hid (Q.length+(x++[10]).length<=16777216):=by show _<=_;simp;omega
 have hgb:∀j,j<=G->(Pl.ba (Pl.gx s.gs j)).size<=45 * 16000:=fun j hj=>by
  have h1:=HGL.out j oM
  have h2:=HGM.out j
  show (Pl.gx s.gs j).length<=_
  omega
 have HGBD:=zH hgb
 have HGG:Hid (∀j,j<G->∃g a b,s.gs[j]? = some g/\g∈s.gs/\Pl.xt Pl.nt g.test=some a/\Pl.xt Pl.nt g.thn=some b/\Pl.ba (Pl.gx s.gs (j+1))=Pl.ba (Pl.gx s.gs j)++Pl.ba a++⟨#[32,58,32]⟩++Pl.ba b++⟨#[59,32]⟩):=fun j hj=>by
  have hj':j<s.gs.length:=by omega
  obtain⟨a,b,h1,h2⟩:=HGET.out _ (List.getElem_mem hj')
  refine⟨s.gs[j],a,b,List.getElem?_eq_getElem hj',List.getElem_mem hj',h1,h2,?_⟩
  rw[Pl.gx_succ HGET.out (List.getElem?_eq_getElem hj') h1 h2]
  apply ByteArray.ext
  simp[Pl.ba]
 have HNE:Hid (∀j,j<G->s.gs ≠ []):=fun j hj e=>by rw[e] at hG;simp at hG;omega
 have HGX0:Hid (Pl.ba (Pl.gx s.gs 0)=⟨#[]⟩):=rfl
 have hG2:G<=16000:=by omega
 generalize hD:x++[10]=D at *
 clear hD hk3 hxe hel hss hsz hnl hG HGET HGL HGM hgb hgl hxl
 generalize Pl.ba e=le at *
 generalize Pl.ba s.nm=nm at *
 have lim1:¬(9223372036854775807<nm.size+5):=by omega
 go_wp2_with fail
 refine(KW.out _ (BA.out _)).mono ?_
 rintro e' w2 ⟨rfl,hb2⟩
 have e0:=CC.out _ _ 0 _ hb2 sI uSpr1
 have e1:=CC.out _ _ 1 _ hb2 sI uSpr1
 have e2:=CC.out _ _ 2 _ hb2 sI uSpr1
 have e3:=CC.out _ _ 3 _ hb2 sI uSpr1
 have B2:=zH (BB.out.trans ((BA.out _).trans (hb2.mono (by simp;omega))))
 have BX2:=zH ((BA.out _).trans (hb2.mono (by simp;omega)))
 have O2:=zH (owns8_keep (owns8_keep hO.out (BAF.out _)) hb2)
 have hs2:wo.heap.size<w2.heap.size:=Nat.lt_of_lt_of_le sI hb2.size
 clear hb2 d0 d1 d2 d3
 have U2:Hid (∀w',Below w2.heap.size w2 w'->Below w.heap.size wo w'):=fun w' h=>BX2.out.trans (h.mono oM)
 have UW:Hid (∀w',Below w2.heap.size w2 w'->Below w.heap.size w w'):=fun w' h=>B2.out.trans (h.mono oM)
 have UO:Hid (∀w',Below w2.heap.size w2 w'->w'.ownsRow w.heap.size 5 1 (.slice xo Q.length yo) Q.length (Lib.byteCells Q)):=fun w' h=>owns8_keep O2.out h
 have F3:Hid (∀w',Below w2.heap.size w2 w'->w'.cell? ⟨wo.heap.size,3,none⟩=some (.slice a2 G c2)):=fun w' h=>(h.cell (p:=⟨wo.heap.size,3,none⟩) hs2).trans e3
 have R2:Hid (Below w2.heap.size w2 w2):=Below.refl _ _
 have HW2:Hid (w.heap.size<=w2.heap.size/\wo.heap.size<w2.heap.size):=⟨by omega,hs2⟩
 clear B2 BX2 O2
 have EH0:Hid (nm++⟨#[32,58,61,32,123]⟩=nm++⟨#[32,58,61,32,123]⟩++Pl.ba (Pl.gx s.gs 0)):=by
  show _=_
  rw[HGX0.out]
  apply ByteArray.ext
  simp
 go_wp2_with fail
 go_loopw [8,9] (fun hv jv wr=>∃j:Nat,j<=G/\jv=.int .i64 j/\hv=.string (nm++⟨#[32,58,61,32,123]⟩++Pl.ba (Pl.gx s.gs j))/\Hid (Below w2.heap.size w2 wr)) (fun _ jv _=>G-(intOf jv).toNat)
 case atStart=>exact⟨0,Nat.zero_le _,rfl,congrArg Value.string EH0.out,R2⟩
 obtain⟨j,hj,rfl,rfl,hbx⟩:=hrel
 have f3:=F3.out _ hbx.out
 by_cases hlj:j<G
 ·obtain⟨g',a,b',hg,hgm,hxa,hxb,hgx⟩:=HGG.out j hlj
  obtain⟨b2,o2,hb2,rfl,hcg⟩:=(HRG.out _ (U2.out _ hbx.out)).resolve_left (HNE.out j hlj)
  obtain⟨t1,t2,u1,u2,hgd⟩:=hcg j g' hg
  obtain⟨g0,g1,r0,r1⟩:=hgd
  have hwz:w.heap.size<=wr.heap.size/\wo.heap.size<wr.heap.size:=⟨Nat.le_trans HW2.out.1 hbx.out.size,Nat.lt_of_lt_of_le HW2.out.2 hbx.out.size⟩
  have hal:=Pl.xt_len hxa
  have hbl:=Pl.xt_len hxb
  have hga:=(HTG.out g' hgm).1.sz
  have hgb:=(HTG.out g' hgm).2.sz
  have K1:Hid (Calls Tryz.prog 19 #[.slice t1 g'.test.length u1] wr.drew fun e w2=>e=.returned (.string (Pl.ba a))/\Below wr.drew.heap.size wr.drew w2):=l3Whole_any g'.test t1 u1 (HTG.out g' hgm).1 a hxa wr.drew ((r0.keep (Below.refl _ _).drew).up hwz.1)
  have K2:Hid (∀w',Below wr.heap.size wr w'->Calls Tryz.prog 19 #[.slice t2 g'.thn.length u2] w' fun e w2=>e=.returned (.string (Pl.ba b'))/\Below w'.heap.size w' w2):=fun w' hw=>l3Whole_any g'.thn t2 u2 (HTG.out g' hgm).2 b' hxb w' ((r1.keep (hw.mono hwz.1)).up (Nat.le_trans hwz.1 hw.size))
  have CG:Hid (∀w',Below wr.heap.size wr w'->w'.cell? ⟨wo.heap.size,3,none⟩=some (.slice (some ⟨b2,o2,none⟩) G c2)/\w'.cell? ⟨b2,o2+j * 2+1,none⟩=some (.slice t2 g'.thn.length u2)):=fun w' hw=>⟨(hw.cell (p:=⟨wo.heap.size,3,none⟩) hwz.2).trans f3,(hw.cell (p:=⟨b2,o2+j * 2+1,none⟩) (show b2<wr.heap.size from Nat.lt_of_lt_of_le hb2 hwz.1)).trans g1⟩
  have UD:Hid (∀w',Below wr.drew.heap.size wr.drew w'->Below wr.heap.size wr w'):=fun w' h=>(Below.refl _ _).drew.trans h
  have UX:Hid (∀w',Below wr.heap.size wr w'->Below w2.heap.size w2 w'):=fun w' h=>hbx.out.trans (h.mono hbx.out.size)
  have HGX:=zH hgx
  have hgj:=HGBD.out j hj
  rw[<- Pl.ba_size] at hal hbl
  have HWZ:=zH hwz
  clear HGG HNE HRG HTG hg hgm hcg r0 r1 hxa hxb hgx hwz
  generalize Pl.ba (Pl.gx s.gs j)=gj at *
  generalize Pl.ba a=sa at *
  generalize Pl.ba b'=sb at *
  generalize g'.test.length=l1 at *
  generalize g'.thn.length=l2 at *
  generalize Pl.csz g'.test=z1 at *
  generalize Pl.csz g'.thn=z2 at *
  have m1:¬(9223372036854775807<nm.size+5+gj.size+sa.size):=by omega
  have m2:¬(9223372036854775807<nm.size+5+gj.size+sa.size+3):=by omega
  have m3:¬(9223372036854775807<nm.size+5+gj.size+sa.size+3+sb.size):=by omega
  have m4:¬(9223372036854775807<nm.size+5+gj.size+sa.size+3+sb.size+2):=by omega
  clear hal hbl hga hgb hgj
  go_wp2_with fail
  go_region_with (first | (go_at_call 19;with_reducible refine K1.out.mono ?_;rintro e' w3 ⟨rfl,hb3⟩;obtain⟨y1,y2⟩:=CG.out _ (UD.out _ hb3);have H3:=zH (UD.out _ hb3);clear hb3) | (go_at_call 19;with_reducible refine(K2.out _ H3.out).mono ?_;rintro e' w4 ⟨rfl,hb4⟩;have H4:=zH (UX.out _ (H3.out.trans (hb4.mono H3.out.size)));clear hb4))
  all_goals
   go_wp2_with fail
   go_roundw
   case rel=>exact⟨j+1,by omega,by go_num,congrArg Value.string (by rw[HGX.out];apply ByteArray.ext;simp),H4.out⟩
   simp[intOf];omega
 obtain rfl:j=G:=by omega
 have B2:=zH (UW.out _ hbx.out)
 have O2:=zH (UO.out _ hbx.out)
 have hgj:=HGBD.out j (Nat.le_refl _)
 have EGA:Hid (Pl.ba (Pl.gx s.gs j)=Pl.ba g):=by show _=_;rw[HGA.out]
 rw[EGA.out] at hgj
 rw[EGA.out]
 clear HGG HNE HRG HTG F3 U2 UW UO R2 HGBD
 generalize Pl.ba g=gg at *
 have m1:¬(9223372036854775807<nm.size+5+gg.size+le.size):=by omega
 have m2:¬(9223372036854775807<nm.size+5+gg.size+le.size+1):=by omega
 have m3:¬(9223372036854775807<nm.size+5+gg.size+le.size+1+1):=by omega
 have kc:=conv8 (nm++⟨#[32,58,61,32,123]⟩++gg++le++⟨#[125]⟩++⟨#[10]⟩) wr
 have CV:=zH (conv8_cells (nm++⟨#[32,58,61,32,123]⟩++gg++le++⟨#[125]⟩++⟨#[10]⟩) wr)
 have BC:=zH (conv8_below (nm++⟨#[32,58,61,32,123]⟩++gg++le++⟨#[125]⟩++⟨#[10]⟩) wr)
 obtain⟨cp,ecp⟩:∃cp,grownCap wr (nm++⟨#[32,58,61,32,123]⟩++gg++le++⟨#[125]⟩++⟨#[10]⟩:ByteArray).size 0 5=cp:=⟨_,rfl⟩
 rw[ecp] at kc CV BC
 rw[EDD.out] at CV
 rw[ESS.out] at kc
 generalize (wr.drew.alloc (.cells (bytesRow (nm++⟨#[32,58,61,32,123]⟩++gg++le++⟨#[125]⟩++⟨#[10]⟩) cp) 5 ((bytesRow (nm++⟨#[32,58,61,32,123]⟩++gg++le++⟨#[125]⟩++⟨#[10]⟩) cp).size,(bytesRow (nm++⟨#[32,58,61,32,123]⟩++gg++le++⟨#[125]⟩++⟨#[10]⟩) cp).size+1)))=w4 at kc CV BC
 have O4:=zH (owns8_keep O2.out BC.out)
 have B4:=zH (B2.out.trans (BC.out.mono B2.out.size))
 have hs4:=B4.out.size
 clear ecp
 go_wp2_with (at_builtin;refine wpList_append8 (base:=w.heap.size) w4 rfl (.tmp 76) (.tmp 79) rfl (.slice xo Q.length yo) (.slice (some ⟨wr.heap.size,0,none⟩) D.length cp) rfl rfl Q.length Q D wr.heap.size cp rfl O4.out CV.out HPOS.out HBD.out hs4 ?_)
 exact tSpr1
end Go.Proofs.YtbiiicbfpcfgdaaGreatDoor
