import Derived.Test.YtbiiicbfpcfgdaaGreatDoorSzk
namespace Go.Proofs.YtbiiicbfpcfgdaaGreatDoor
open Go.RowKit
set_option maxRecDepth 100000
set_option maxHeartbeats 16000000
set_option linter.unusedVariables false
theorem uLok1 {P:Prop}(h:P:=by simp[go_sem];rfl):P:=h
namespace Pl
structure SmallT (s:Tv):Prop where
 code:Small s.code
 nm:s.nm.length<=1048576
 gs:∀g∈s.gs,Small g.test/\Small g.thn
structure SmallP (p:List Tv):Prop where
 sz:psz p<=1048576
 st:∀s∈p,SmallT s
theorem SmallP.len {p:List Tv}(h:SmallP p):p.length<=1048576:=by have:=psz_eq p;have:=h.sz;omega
def okP (p:List Tv):Bool:=decide (psz p<=16000) && p.all (stB nt)
theorem okP_bad {p:List Tv}{s:Tv}(hs:s∈p) (h:stB nt s=false):okP p=false:=by
 have:p.all (stB nt)=false:=by
  cases e:p.all (stB nt) with
  |false=>rfl
  |true=>have:=List.all_eq_true.1 e s hs;rw[h] at this;cases this
 unfold okP
 rw[this,Bool.and_false]
theorem okP_succ {p:List Tv}{k:Nat}{s:Tv}(h:p[k]? = some s):(p.take (k+1)).all (stB nt)=((p.take k).all (stB nt) && stB nt s):=by
 rw[List.take_add_one,h,List.all_append]
 simp
theorem okP_all {p:List Tv}{k:Nat}(hz:psz p<=16000) (hk:k=p.length) (h:(p.take k).all (stB nt)=true):okP p=true:=by
 rw[hk,List.take_length] at h
 unfold okP
 rw[h,decide_eq_true hz]
 rfl
def gB (g:Gv):Bool:=(xt nt g.test).isSome && (xt nt g.thn).isSome
theorem gB_succ {p:List Gv}{k:Nat}{g:Gv}(h:p[k]? = some g):(p.take (k+1)).all gB=((p.take k).all gB && gB g):=by
 rw[List.take_add_one,h,List.all_append]
 simp
theorem gB_bad {p:List Gv}{g:Gv}(hs:g∈p) (h:gB g=false):p.all gB=false:=by
 cases e:p.all gB with
 |false=>rfl
 |true=>have:=List.all_eq_true.1 e g hs;rw[h] at this;cases this
theorem len_csz {p:List Tv}{s:Tv}(hs:s∈p) (h:psz p<=1048576):s.gs.length<=1048576:=by
 have:ssz s<=(p.map ssz).sum:=by
  clear h
  induction p with
  |nil=>cases hs
  |cons x p ih =>
   rw[List.map_cons,List.sum_cons]
   rcases List.mem_cons.1 hs with rfl|h
   ·omega
   have:=ih h;omega
 unfold psz at h
 have:=ssz_eq s
 omega
end Pl
theorem self_beq (l:List UInt8):((Pl.ba l).toList == [115,101,108,102])=decide (l=Pl.selfW):=by
 rw[ByteArray.toList_eq]
 show (l == Pl.selfW)=_
 by_cases h:l=Pl.selfW
 ·rw[h];rfl
 rw[decide_eq_false h];exact beq_eq_false_iff_ne.2 h
theorem tLok1 {P:Prop}(h:P:=by
 go_wp2_with fail
 refine(KC.out _ (BA.out _)).mono ?_
 rintro e w2 ⟨rfl,hb2⟩
 have e0:=CC.out _ _ 0 _ hb2 sI uLok1
 have e1:=CC.out _ _ 1 _ hb2 sI uLok1
 have e2:=CC.out _ _ 2 _ hb2 sI uLok1
 have e3:=CC.out _ _ 3 _ hb2 sI uLok1
 have H2:=zH ((BA.out _).trans (hb2.mono (by simp;omega)))
 have hs2:wo.heap.size<w2.heap.size:=Nat.lt_of_lt_of_le sI hb2.size
 clear hb2 d0 d1 d2 d3
 go_wp2_with fail
 go_ret
 exact ret_below HR.out (hbel.out.trans H2.out)
 ):P:=h
theorem tLok2 {P:Prop}(h:P:=by
 rw[hq] at KN
 have HR:=zH (X.out (by rw[HST.out];simp[hq]))
 go_wp2_with fail
 refine(KC.out _ (BA.out _)).mono ?_
 rintro e w2 ⟨rfl,hb2⟩
 have e0:=CC.out _ _ 0 _ hb2 sI uLok1
 have e1:=CC.out _ _ 1 _ hb2 sI uLok1
 have e2:=CC.out _ _ 2 _ hb2 sI uLok1
 have e3:=CC.out _ _ 3 _ hb2 sI uLok1
 have H2:=zH ((BA.out _).trans (hb2.mono (by simp;omega)))
 have hs2:wo.heap.size<w2.heap.size:=Nat.lt_of_lt_of_le sI hb2.size
 clear hb2 d0 d1 d2 d3
 go_wp2_with (go_at_call 43;refine(KN.out _).mono ?_;rintro e w3 ⟨rfl,hb3⟩)
 go_ret
 exact ret_below HR.out (hbel.out.trans (H2.out.trans (hb3.mono (by have:=H2.out.size;omega))))
 ):P:=h
theorem tLok3 {P:Prop}(h:P:=by
 have HR:=zH (X.out (by rw[HST.out];simp[]))
 go_wp2_with fail
 refine(KC.out _ (BA.out _)).mono ?_
 rintro e w2 ⟨rfl,hb2⟩
 have e0:=CC.out _ _ 0 _ hb2 sI uLok1
 have e1:=CC.out _ _ 1 _ hb2 sI uLok1
 have e2:=CC.out _ _ 2 _ hb2 sI uLok1
 have e3:=CC.out _ _ 3 _ hb2 sI uLok1
 have H2:=zH ((BA.out _).trans (hb2.mono (by simp;omega)))
 have hs2:wo.heap.size<w2.heap.size:=Nat.lt_of_lt_of_le sI hb2.size
 clear hb2 d0 d1 d2 d3
 go_wp2_with fail
 go_ret
 exact ret_below HR.out (hbel.out.trans (H2.out))
 ):P:=h
theorem l3Ok_any (p:List Pl.Tv) (ao:Option Addr) (cap:Nat) (hsm:Pl.SmallP p) (w:World) (hR:RdP w.heap.size w ao p) :
  Calls Tryz.prog 18 #[.slice ao p.length cap] w fun e w'=>e=.returned (.bool (Pl.okP p))/\Below w.heap.size w w':=by
 have K0:=zH (l3SizeOk_any p ao cap hsm.sz w hR)
 by_cases hz:Pl.psz p<=16000
 rotate_left 1
 ·rw[decide_eq_false hz] at K0
  have HR:=zH (show Pl.okP p=false by unfold Pl.okP;rw[decide_eq_false hz];rfl)
  have hlen:=hsm.len
  clear hz hR hsm
  generalize Pl.okP p=r at *
  generalize p.length=L at *
  go_enter Tryz.func18,Tryz.ntmps18
  go_wp2_with (go_at_call 41;refine K0.out.mono ?_;rintro e w' ⟨rfl,hb2⟩)
  go_ret
  exact ret_below HR.out hb2
 rw[decide_eq_true hz] at K0
 rcases hR with rfl|⟨b,off,hb,rfl,hc⟩
 ·go_enter Tryz.func18,Tryz.ntmps18
  go_wp2_with (go_at_call 41;refine K0.out.mono ?_;rintro e w' ⟨rfl,hb2⟩)
  go_loop [3] (fun v=>v=.int .i64 0) (fun v=>0)
  case atStart=>rfl
  obtain rfl:=hrel
  go_wp2
  go_ret
  exact⟨rfl,hb2⟩
 have HC:=zH hc
 have HG:Hid (∀k,k<p.length->∃s,p[k]? = some s/\s∈p):=fun k hk=>⟨p[k],List.getElem?_eq_getElem hk,List.getElem_mem hk⟩
 have HX:Hid (∀s∈p,Pl.stB Pl.nt s=false->Pl.okP p=false):=fun s hs h=>Pl.okP_bad hs h
 have HS:Hid (∀k s,p[k]? = some s->(p.take (k+1)).all (Pl.stB Pl.nt)=((p.take k).all (Pl.stB Pl.nt) && Pl.stB Pl.nt s)):=fun k s=>Pl.okP_succ
 have HE:Hid (∀k,k=p.length->(p.take k).all (Pl.stB Pl.nt)=true->Pl.okP p=true):=fun k hk h=>Pl.okP_all hz hk h
 have HM:=zH hsm
 have hlen:=hsm.len
 clear hc hsm hz
 generalize Pl.okP p=r at *
 generalize hL:p.length=L at *
 go_enter Tryz.func18,Tryz.ntmps18
 go_wp2_with (go_at_call 41;refine K0.out.mono ?_;rintro e w1 ⟨rfl,hb1⟩)
 have HB1:=zH hb1
 clear hb1
 go_loopw [3] (fun v wr=>∃k:Nat,k<=L/\v=.int .i64 k/\Hid ((p.take k).all (Pl.stB Pl.nt)=true)/\Hid (Below w.heap.size w wr)) (fun v _=>L-(intOf v).toNat)
 case atStart=>exact⟨0,Nat.zero_le _,rfl,rfl,HB1.out⟩
 rename World=>wo
 obtain⟨k,hk,rfl,hall,hbel⟩:=hrel
 by_cases hlt:k<L
 rotate_left 1
 ·obtain rfl:k=L:=by omega
  have HR:=zH (HE.out k rfl hall.out)
  clear HC HG HX HS HE HM
  go_wp2_with fail
  go_ret
  exact ret_below HR.out hbel.out
 obtain⟨s,hs,hm⟩:=HG.out k hlt
 obtain⟨a1,a2,c1,c2,hsm⟩:=HC.out k s hs
 obtain⟨d0,d1,d2,d3,rc,rg⟩:=hsm.keep hb hbel.out
 have X:=zH (HX.out s hm)
 have A:=zH (HS.out k s hs)
 have T:=zH (HM.out.st s hm)
 have hgl:=Pl.len_csz hm HM.out.sz
 have HST:Hid (Pl.stB Pl.nt s=((Pl.xt Pl.nt s.code).isSome && (decide (s.k=3) || decide (s.gs.length=0)) && (!(decide (s.k=1)) || decide (s.nm=[])) && (!(decide (s.k=2)) || Pl.nameS (Pl.ba s.nm) 119) && (!(decide (s.k=3)) || (Pl.nameS (Pl.ba s.nm) 70 && !(decide (s.nm=Pl.selfW)))) && decide (1<=s.k) && decide (s.k<=3) && s.gs.all Pl.gB)):=by
  show _=_
  rw[Pl.nameS_w,Pl.nameS_F]
  have e:decide (s.gs=[])=decide (s.gs.length=0):=by
   rw[Bool.eq_iff_iff];simp
  unfold Pl.stB
  rw[e]
  rfl
 have KC:Hid (∀w',Below w.heap.size wo w'->Calls Tryz.prog 42 #[.slice a1 s.code.length c1] w' fun e w2=>e=.returned (.bool (Pl.xt Pl.nt s.code).isSome)/\Below w'.heap.size w' w2):=fun w' hw=>l3CodeOk_any s.code a1 c1 T.out.code w' ((rc.keep hw).up (Nat.le_trans hbel.out.size hw.size))
 have KN:Hid (∀kd w',Calls Tryz.prog 43 #[.string (Pl.ba s.nm),.int .u8 kd] w' fun e w2=>e=.returned (.bool (Pl.nameS (Pl.ba s.nm) kd))/\Below w'.heap.size w' w2):=fun kd w'=>l3NameOk_any (Pl.ba s.nm) kd w' (by rw[Pl.ba_size];have:=T.out.nm;omega)
 have hnq:=ba_beq s.nm
 have hsq:=self_beq s.nm
 have HRG:Hid (∀w',Below w.heap.size wo w'->RdG w.heap.size w' a2 s.gs):=fun w' h=>rg.keep h
 have HTG:Hid (∀g∈s.gs,Pl.Small g.test/\Pl.Small g.thn):=T.out.gs
 have hbs:=hbel.out.size
 have BA:Hid (∀o',Below w.heap.size wo (wo.alloc o')):=fun o'=>(Below.refl _ _).alloc hbs _
 have CC:Hid (∀(w1 w':World) (j:Nat) (v:Value),Below w1.heap.size w1 w'->wo.heap.size<w1.heap.size->w1.cell? ⟨wo.heap.size,j,none⟩=some v->w'.cell? ⟨wo.heap.size,j,none⟩=some v):=fun w1 w' j v hb h1 h=>(hb.cell (p:=⟨wo.heap.size,j,none⟩) h1).trans h
 clear HC HG HX HS HE HM hs hm hsm rc rg T
 generalize Pl.stB Pl.nt s=st at *
 generalize (Pl.xt Pl.nt s.code).isSome=xc at *
 generalize s.code.length=cl at *
 generalize decide (s.nm=[])=n0 at *
 generalize decide (s.nm=Pl.selfW)=ns at *
 generalize Pl.ba s.nm=nm at *
 generalize s.k=kk at *
 generalize hG:s.gs.length=G at *
 cases xc
 ·skip
  exact tLok3
 by_cases k3:kk=3
 ·subst k3
  cases hq:Pl.nameS nm 70
  ·have KN:=zH (KN.out 70)
   exact tLok2
  have KN:=zH (KN.out 70)
  rw[hq] at KN
  cases ns
  rotate_left 1
  ·skip
   have HR:=zH (X.out (by rw[HST.out];simp))
   go_wp2_with fail
   refine(KC.out _ (BA.out _)).mono ?_
   rintro e w2 ⟨rfl,hb2⟩
   have e0:=CC.out _ _ 0 _ hb2 sI uLok1
   have e1:=CC.out _ _ 1 _ hb2 sI uLok1
   have e2:=CC.out _ _ 2 _ hb2 sI uLok1
   have e3:=CC.out _ _ 3 _ hb2 sI uLok1
   have H2:=zH ((BA.out _).trans (hb2.mono (by simp;omega)))
   have hs2:wo.heap.size<w2.heap.size:=Nat.lt_of_lt_of_le sI hb2.size
   clear hb2 d0 d1 d2 d3
   go_wp2_with fail
   refine(KN.out _).mono ?_
   rintro e w3 ⟨rfl,hb3⟩
   have f0:=CC.out _ _ 0 _ hb3 hs2 e0
   have f1:=CC.out _ _ 1 _ hb3 hs2 e1
   have H3:=zH (H2.out.trans (hb3.mono (by have:=H2.out.size;omega)))
   clear hb3
   go_wp2_with fail
   go_ret
   exact ret_below HR.out (hbel.out.trans H3.out)
  have HN:=zH (show st=s.gs.all Pl.gB by rw[HST.out];simp[hq])
  clear HST hq
  have HGG:Hid (∀j,j<G->∃g,s.gs[j]? = some g/\g∈s.gs):=fun j hj=>⟨s.gs[j]'oM,List.getElem?_eq_getElem _,List.getElem_mem _⟩
  have HGS:Hid (∀j g,s.gs[j]? = some g->(s.gs.take (j+1)).all Pl.gB=((s.gs.take j).all Pl.gB && Pl.gB g)):=fun j g=>Pl.gB_succ
  have HGB:Hid (∀g∈s.gs,Pl.gB g=false->s.gs.all Pl.gB=false):=fun g hg h=>Pl.gB_bad hg h
  have HNE:Hid (∀j,j<G->s.gs ≠ []):=fun j hj e=>by rw[e] at hG;simp at hG;omega
  have HGE:Hid (∀j,j=G->s.gs.take j=s.gs):=fun j hj=>by rw[hj,<- hG,List.take_length]
  clear hG
  go_wp2_with fail
  refine(KC.out _ (BA.out _)).mono ?_
  rintro e w2 ⟨rfl,hb2⟩
  have e0:=CC.out _ _ 0 _ hb2 sI uLok1
  have e1:=CC.out _ _ 1 _ hb2 sI uLok1
  have e2:=CC.out _ _ 2 _ hb2 sI uLok1
  have e3:=CC.out _ _ 3 _ hb2 sI uLok1
  have H2:=zH ((BA.out _).trans (hb2.mono (by simp;omega)))
  have hs2:wo.heap.size<w2.heap.size:=Nat.lt_of_lt_of_le sI hb2.size
  clear hb2 d0 d1 d2 d3
  go_wp2_with fail
  refine(KN.out _).mono ?_
  rintro e w3 ⟨rfl,hb3⟩
  have f0:=CC.out _ _ 0 _ hb3 hs2 e0
  have f1:=CC.out _ _ 1 _ hb3 hs2 e1
  have f3:=CC.out _ _ 3 _ hb3 hs2 e3
  have H3:=zH (H2.out.trans (hb3.mono (by have:=H2.out.size;omega)))
  have hs3:wo.heap.size<w3.heap.size:=Nat.lt_of_lt_of_le hs2 hb3.size
  clear hb3 e0 e1 e2 e3 H2 hs2 KC KN
  go_wp2_with fail
  have B3:Hid (Below (wo.heap.size+1) w3 w3):=Below.refl _ _
  have F3:Hid (∀w',Below (wo.heap.size+1) w3 w'->w'.cell? ⟨wo.heap.size,3,none⟩=some (.slice a2 G c2)):=fun w' h=>(h.cell (p:=⟨wo.heap.size,3,none⟩) (Nat.lt_succ_self _)).trans f3
  have U3:Hid (∀w',Below (wo.heap.size+1) w3 w'->Below w.heap.size wo w'):=fun w' h=>H3.out.trans (h.mono oM)
  clear f0 f1 f3
  go_loopw [5] (fun v wr=>∃j:Nat,j<=G/\v=.int .i64 j/\Hid ((s.gs.take j).all Pl.gB=true)/\Hid (Below (wo.heap.size+1) w3 wr)) (fun v _=>G-(intOf v).toNat)
  case atStart=>exact⟨0,Nat.zero_le _,rfl,rfl,B3⟩
  obtain⟨j,hj,rfl,hga,hbx⟩:=hrel
  have f3:=F3.out _ hbx.out
  by_cases hlj:j<G
  rotate_left 1
  ·obtain rfl:j=G:=by omega
   have HR:=zH (show (p.take (k+1)).all (Pl.stB Pl.nt)=true by rw[A.out,hall.out,HN.out];have:=hga.out;rw[HGE.out j rfl] at this;rw[this];rfl)
   have HW:=zH (hbel.out.trans (U3.out _ hbx.out))
   clear HGG HGS HGB HNE HGE HRG HTG
   go_wp2_with fail
   go_roundw
   case rel=>exact⟨k+1,by omega,by go_num,HR.out,HW.out⟩
   simp[intOf];omega
  obtain⟨g,hg,hgm⟩:=HGG.out j hlj
  obtain⟨b2,o2,hb2,rfl,hcg⟩:=(HRG.out _ (U3.out _ hbx.out)).resolve_left (HNE.out j hlj)
  obtain⟨t1,t2,u1,u2,hgd⟩:=hcg j g hg
  have NG:=zH (HGS.out j g hg)
  have NB:=zH (HGB.out g hgm)
  obtain⟨g0,g1,r0,r1⟩:=hgd
  have hsz:w3.heap.size<=wr.heap.size:=hbx.out.size
  have K1:Hid (Calls Tryz.prog 42 #[.slice t1 g.test.length u1] wr fun e w2=>e=.returned (.bool (Pl.xt Pl.nt g.test).isSome)/\Below wr.heap.size wr w2):=l3CodeOk_any g.test t1 u1 (HTG.out g hgm).1 wr (r0.up oM)
  have K2:Hid (∀w',Below wr.heap.size wr w'->Calls Tryz.prog 42 #[.slice t2 g.thn.length u2] w' fun e w2=>e=.returned (.bool (Pl.xt Pl.nt g.thn).isSome)/\Below w'.heap.size w' w2):=fun w' hw=>l3CodeOk_any g.thn t2 u2 (HTG.out g hgm).2 w' ((r1.keep (hw.mono oM)).up (by have:=hw.size;omega))
  have CG:Hid (∀w',Below wr.heap.size wr w'->w'.cell? ⟨wo.heap.size,3,none⟩=some (.slice (some ⟨b2,o2,none⟩) G c2)/\w'.cell? ⟨b2,o2+j * 2+1,none⟩=some (.slice t2 g.thn.length u2)):=fun w' hw=>⟨(hw.cell (p:=⟨wo.heap.size,3,none⟩) (Nat.lt_of_lt_of_le hs3 hsz)).trans f3,(hw.cell (p:=⟨b2,o2+j * 2+1,none⟩) (show b2<wr.heap.size by omega)).trans g1⟩
  have EGB:Hid (Pl.gB g=((Pl.xt Pl.nt g.test).isSome && (Pl.xt Pl.nt g.thn).isSome)):=rfl
  have UF:Hid (∀w',Below wr.heap.size wr w'->Below (wo.heap.size+1) w3 w'):=fun w' h=>hbx.out.trans (h.mono oM)
  clear HGG HGS HGB HNE HGE HRG HTG hg hgm hcg r0 r1
  generalize (Pl.xt Pl.nt g.test).isSome=x1 at *
  generalize (Pl.xt Pl.nt g.thn).isSome=x2 at *
  generalize g.test.length=l1 at *
  generalize g.thn.length=l2 at *
  cases x1
  ·have HR:=zH (X.out (by rw[HN.out];exact NB.out (by rw[EGB.out];rfl)))
   go_wp2_with (go_at_call 42;refine K1.out.mono ?_;rintro e w4 ⟨rfl,hb4⟩)
   go_ret
   exact ret_below HR.out (hbel.out.trans (U3.out _ (UF.out _ hb4)))
  cases x2
  ·have HR:=zH (X.out (by rw[HN.out];exact NB.out (by rw[EGB.out];rfl)))
   go_wp2_with fail
   refine K1.out.mono ?_
   rintro e w4 ⟨rfl,hb4⟩
   obtain⟨y1,y2⟩:=CG.out _ hb4
   have H4:=zH hb4
   clear hb4
   go_wp2_with (go_at_call 42;refine(K2.out _ H4.out).mono ?_;rintro e w5 ⟨rfl,hb5⟩)
   go_ret
   exact ret_below HR.out (hbel.out.trans (U3.out _ (UF.out _ (H4.out.trans (hb5.mono H4.out.size)))))
  have HR:=zH (show (s.gs.take (j+1)).all Pl.gB=true by rw[NG.out,hga.out,EGB.out];rfl)
  go_wp2_with fail
  refine K1.out.mono ?_
  rintro e w4 ⟨rfl,hb4⟩
  obtain⟨y1,y2⟩:=CG.out _ hb4
  have H4:=zH hb4
  clear hb4
  go_wp2_with (go_at_call 42;refine(K2.out _ H4.out).mono ?_;rintro e w5 ⟨rfl,hb5⟩)
  go_roundw
  case rel=>exact⟨j+1,by omega,by go_num,HR.out,UF.out _ (H4.out.trans (hb5.mono H4.out.size))⟩
  simp[intOf];omega
 have n3:(kk != 3)=true:=by simp[k3]
 have q3:(kk == 3)=false:=by simp[k3]
 by_cases g0:G=0
 rotate_left 1
 ·have hgp:0<G:=by omega
  have HR:=zH (X.out (by rw[HST.out];simp[k3,g0]))
  clear k3 g0 hG
  exact tLok1
 subst g0
 have hge:s.gs=[]:=List.length_eq_zero_iff.1 hG
 clear hG
 by_cases k1:kk=1
 ·subst k1
  cases n0
  ·skip
   exact tLok3
  skip
  have HR:=zH (show (p.take (k+1)).all (Pl.stB Pl.nt)=true by rw[A.out,hall.out,HST.out];simp[hge])
  go_wp2_with fail
  refine(KC.out _ (BA.out _)).mono ?_
  rintro e w2 ⟨rfl,hb2⟩
  have e0:=CC.out _ _ 0 _ hb2 sI uLok1
  have e1:=CC.out _ _ 1 _ hb2 sI uLok1
  have e2:=CC.out _ _ 2 _ hb2 sI uLok1
  have e3:=CC.out _ _ 3 _ hb2 sI uLok1
  have H2:=zH ((BA.out _).trans (hb2.mono (by simp;omega)))
  have hs2:wo.heap.size<w2.heap.size:=Nat.lt_of_lt_of_le sI hb2.size
  clear hb2 d0 d1 d2 d3
  go_wp2_with fail
  go_loopw [5] (fun v wr=>v=.int .i64 0/\wr=w2) (fun _ _=>0)
  case atStart=>exact⟨rfl,rfl⟩
  obtain⟨rfl,rfl⟩:=hrel
  go_wp2_with fail
  go_roundw
  case rel=>exact⟨k+1,by omega,by go_num,HR.out,hbel.out.trans H2.out⟩
  simp[intOf];omega
 have q1:(kk == 1)=false:=by simp[k1]
 by_cases k2:kk=2
 ·subst k2
  cases hq:Pl.nameS nm 119
  ·have KN:=zH (KN.out 119)
   exact tLok2
  have KN:=zH (KN.out 119)
  rw[hq] at KN
  have HR:=zH (show (p.take (k+1)).all (Pl.stB Pl.nt)=true by rw[A.out,hall.out,HST.out];simp[hge,hq])
  clear hq
  go_wp2_with fail
  refine(KC.out _ (BA.out _)).mono ?_
  rintro e w2 ⟨rfl,hb2⟩
  have e0:=CC.out _ _ 0 _ hb2 sI uLok1
  have e1:=CC.out _ _ 1 _ hb2 sI uLok1
  have e2:=CC.out _ _ 2 _ hb2 sI uLok1
  have e3:=CC.out _ _ 3 _ hb2 sI uLok1
  have H2:=zH ((BA.out _).trans (hb2.mono (by simp;omega)))
  have hs2:wo.heap.size<w2.heap.size:=Nat.lt_of_lt_of_le sI hb2.size
  clear hb2 d0 d1 d2 d3
  go_wp2_with fail
  refine(KN.out _).mono ?_
  rintro e w3 ⟨rfl,hb3⟩
  have f0:=CC.out _ _ 0 _ hb3 hs2 e0
  have f1:=CC.out _ _ 1 _ hb3 hs2 e1
  have f3:=CC.out _ _ 3 _ hb3 hs2 e3
  have H3:=zH (H2.out.trans (hb3.mono (by have:=H2.out.size;omega)))
  clear hb3 e0 e1 e2 e3
  go_wp2_with fail
  go_loopw [5] (fun v wr=>v=.int .i64 0/\wr=w3) (fun _ _=>0)
  case atStart=>exact⟨rfl,rfl⟩
  obtain⟨rfl,rfl⟩:=hrel
  go_wp2_with fail
  go_roundw
  case rel=>exact⟨k+1,by omega,by go_num,HR.out,hbel.out.trans H3.out⟩
  simp[intOf];omega
 have q2:(kk == 2)=false:=by simp[k2]
 have hb13:kk<1\/3<kk:=by omega
 rcases hb13 with hb13|hb13
 ·have KX:=zH k3
  clear k1 k2
  have HR:=zH (X.out (by rw[HST.out];simp;omega))
  clear k3
  exact tLok1
 have KX:=zH k3
 clear k1 k2
 have HR:=zH (X.out (by rw[HST.out];simp;omega))
 clear k3
 exact tLok1
namespace Pl
theorem xt_len {c:List Sv}{e:List UInt8}(h:xt nt c=some e):e.length<=40 * csz c:=by
 obtain⟨t,h1,h2,rfl⟩:=xt_get h
 exact(nd_all h2 h1).2
def lx (p:List Tv) (k:Nat):List UInt8:=(ltx nt (p.take k)).getD []
def gx (p:List Gv) (k:Nat):List UInt8:=(gtx nt (p.take k)).getD []
theorem gtx_get {l:List Gv}{x:List UInt8}(h:gtx nt l=some x):∀g∈l,∃a b,xt nt g.test=some a/\xt nt g.thn=some b:=by
 intro g hg
 cases e1:xt nt g.test with
 |none=>rw[gtx_none hg (.inl e1)] at h;cases h
 |some a =>
  cases e2:xt nt g.thn with
  |none=>rw[gtx_none hg (.inr e2)] at h;cases h
  |some b=>exact⟨a,b,rfl,rfl⟩
theorem gx_succ {l:List Gv}(hl:∀g∈l,∃a b,xt nt g.test=some a/\xt nt g.thn=some b) {k:Nat}{g:Gv}(h:l[k]? = some g) {a b:List UInt8}(ha:xt nt g.test=some a) (hb:xt nt g.thn=some b):gx l (k+1)=gx l k++(a++[32,58,32]++b++[59,32]):=by
 have h1:(gtx nt (l.take k)).isSome=true:=gtx_some (fun g hg=>by
  obtain⟨a,b,e1,e2⟩:=hl g (List.mem_of_mem_take hg)
  rw[e1,e2];exact⟨rfl,rfl⟩)
 obtain⟨t,ht⟩:=Option.isSome_iff_exists.1 h1
 unfold gx
 rw[List.take_add_one,h]
 show (gtx nt (l.take k++[g])).getD []=_
 rw[gtx_snoc,ht,ha,hb]
 rfl
theorem gx_all {l:List Gv}{x:List UInt8}(h:gtx nt l=some x):gx l l.length=x:=by unfold gx;rw[List.take_length,h];rfl
theorem gx_len {l:List Gv}(hl:∀g∈l,∃a b,xt nt g.test=some a/\xt nt g.thn=some b):∀k,k<=l.length->(gx l k).length<=40 * gsum l k+5 * k:=by
 intro k
 induction k with
 |zero=>intro _;simp[gx,gtx]
 |succ k ih =>
  intro hk
  have hk':k<l.length:=hk
  have hg:l[k]? = some l[k]:=List.getElem?_eq_getElem hk'
  obtain⟨a,b,e1,e2⟩:=hl _ (List.getElem_mem hk')
  rw[gx_succ hl hg e1 e2,gsum_succ hg]
  have:=ih oM
  have h1:=xt_len e1
  have h2:=xt_len e2
  simp only[List.length_append,List.length_cons,List.length_nil,gsz]
  omega
theorem stx_get {s:Tv}{x:List UInt8}(h:stx nt s=some x):∃e g,xt nt s.code=some e/\gtx nt s.gs=some g/\((s.k=1/\x=e)\/(s.k=2/\x=s.nm++[32,58,61,32]++e/\s.nm.length<=20)\/(s.k=3/\x=s.nm++[32,58,61,32,123]++g++e++[125]/\s.nm.length<=20)):=by
 unfold stx at h
 cases e1:xt nt s.code with
 |none=>rw[e1] at h;cases h
 |some e =>
  cases e2:gtx nt s.gs with
  |none=>rw[e1,e2] at h;cases h
  |some g =>
   rw[e1,e2] at h
   simp only[] at h
   refine⟨e,g,rfl,rfl,?_⟩
   split at h
   ·rename_i k1
    split at h
    ·exact .inl ⟨k1,(Option.some.inj h).symm⟩
    cases h
   split at h
   ·rename_i k2
    split at h
    ·rename_i hn
     exact .inr (.inl ⟨k2,(Option.some.inj h).symm,wk_len (by rw[hn.1];decide)⟩)
    cases h
   split at h
   ·rename_i k3
    split at h
    ·rename_i hn
     exact .inr (.inr ⟨k3,(Option.some.inj h).symm,wk_len (by rw[hn.1];decide)⟩)
    cases h
   cases h
theorem ssz_mem {p:List Tv}{s:Tv}(hs:s∈p):ssz s<=psz p:=by
 have:ssz s<=(p.map ssz).sum:=by
  induction p with
  |nil=>cases hs
  |cons x p ih =>
   rw[List.map_cons,List.sum_cons]
   rcases List.mem_cons.1 hs with rfl|h
   ·omega
   have:=ih h;omega
 unfold psz
 omega
theorem okP_get {p:List Tv}(h:okP p=true):psz p<=16000/\∀s∈p,∃x,stx nt s=some x:=by
 unfold okP at h
 rw[Bool.and_eq_true,decide_eq_true_eq,List.all_eq_true] at h
 refine⟨h.1,fun s hs=>?_⟩
 have:=h.2 s hs
 rw[stB_eq] at this
 exact Option.isSome_iff_exists.1 this
theorem prt_no {p:List Tv}(h:okP p=false):prt nt p=([],false):=by
 unfold prt
 split
 rotate_left 1
 ·rfl
 rename_i hz
 unfold okP at h
 rw[decide_eq_true hz,Bool.true_and] at h
 have:∃s∈p,stx nt s=none:=by
  apply Classical.byContradiction
  intro hn
  have:p.all (stB nt)=true:=by
   rw[List.all_eq_true]
   intro s hs
   rw[stB_eq]
   cases e:stx nt s with
   |none=>exact absurd ⟨s,hs,e⟩ hn
   |some x=>rfl
  rw[this] at h;cases h
 obtain⟨s,hs,e⟩:=this
 rw[ltx_none hs e]
theorem lx_succ {p:List Tv}(hp:∀s∈p,∃x,stx nt s=some x) {k:Nat}{s:Tv}(h:p[k]? = some s) {x:List UInt8}(hx:stx nt s=some x):lx p (k+1)=lx p k++(x++[10]):=by
 have h1:(ltx nt (p.take k)).isSome=true:=ltx_some (fun s hs=>by
  obtain⟨x,e⟩:=hp s (List.mem_of_mem_take hs)
  rw[e];rfl)
 obtain⟨t,ht⟩:=Option.isSome_iff_exists.1 h1
 unfold lx
 rw[List.take_add_one,h]
 show (ltx nt (p.take k++[s])).getD []=_
 rw[ltx_snoc,ht,hx]
 rfl
theorem lx_mono {p:List Tv}(hp:∀s∈p,∃x,stx nt s=some x) (k:Nat):∀d,k+d<=p.length->(lx p k).length<=(lx p (k+d)).length:=by
 intro d
 induction d with
 |zero=>intro _;exact Nat.le_refl _
 |succ d ih =>
  intro h
  have hk:k+d<p.length:=by omega
  obtain⟨x,hx⟩:=hp _ (List.getElem_mem hk)
  have:=lx_succ hp (List.getElem?_eq_getElem hk) hx
  rw[show k+(d+1)=k+d+1 by omega,this,List.length_append]
  have:=ih oM
  omega
theorem prt_yes {p:List Tv}(h:okP p=true):prt nt p=if (lx p p.length).length<=4000 then (lx p p.length,true) else ([],false):=by
 obtain⟨hz,hp⟩:=okP_get h
 have h1:(ltx nt p).isSome=true:=ltx_some (fun s hs=>by
  obtain⟨x,e⟩:=hp s hs
  rw[e];rfl)
 obtain⟨t,ht⟩:=Option.isSome_iff_exists.1 h1
 unfold prt lx
 rw[if_pos hz,List.take_length,ht]
 rfl
end Pl
end Go.Proofs.YtbiiicbfpcfgdaaGreatDoor
