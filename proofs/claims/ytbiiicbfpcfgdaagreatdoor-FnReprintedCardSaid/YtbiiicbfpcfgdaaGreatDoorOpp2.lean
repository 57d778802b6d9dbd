import Derived.Test.YtbiiicbfpcfgdaaGreatDoorItq
import Derived.Test.YtbiiicbfpcfgdaaGreatDoorFui
namespace Go.Proofs.YtbiiicbfpcfgdaaGreatDoor
open Go.RowKit
set_option maxRecDepth 100000
set_option maxHeartbeats 16000000
set_option linter.unusedVariables false
mutual
def NdE (w:World):Pl.E->Value->List Nat->Prop
 |.opd o,v,F=>NdO w o v F
 |.one f e,v,F=>∃vr,v=.iface 153 (.agg #[.int .i64 f.one.k,.int .i64 f.one.a,.int .i64 f.one.b,.string (Pl.ba f.one.nm),vr])/\NdE w e vr F
 |.two o f e,v,F=>∃vl vr F1 F2,v=.iface 155 (.agg #[vl,.int .i64 f.two.k,.int .i64 f.two.a,.int .i64 f.two.b,.string (Pl.ba f.two.nm),vr])/\F=F2++F1/\NdO w o vl F1/\NdE w e vr F2/\∀x∈F2,x ∉ F1
def NdO (w:World):Pl.O->Value->List Nat->Prop
 |.nums n ns,v,F=>∃sv,v=.iface 160 (.agg #[sv])/\Own 3 1 Qi w sv (n::ns) F
 |.name nm,v,F=>v=.iface 162 (.agg #[.string (Pl.ba nm)])/\F=[]
 |.br e,v,F=>NdE w e v F
end
mutual
theorem NdE.keep {w w':World}:∀(e:Pl.E) (v:Value) (F:List Nat),NdE w e v F->(∀b∈F,w'.heap[b]? = w.heap[b]?)->NdE w' e v F
 |.opd o,v,F,h,k=>by rw[NdE] at h ⊢;exact NdO.keep o v F h k
 |.one f e,v,F,h,k=>by
  rw[NdE] at h ⊢
  obtain⟨vr,h1,h2⟩:=h
  exact⟨vr,h1,NdE.keep e vr F h2 k⟩
 |.two o f e,v,F,h,k=>by
  rw[NdE] at h ⊢
  obtain⟨vl,vr,F1,F2,h1,h2,h3,h4,h5⟩:=h
  subst h2
  exact⟨vl,vr,F1,F2,h1,rfl,NdO.keep o vl F1 h3 (fun b hb=>k b (List.mem_append_right _ hb)),NdE.keep e vr F2 h4 (fun b hb=>k b (List.mem_append_left _ hb)),h5⟩
theorem NdO.keep {w w':World}:∀(o:Pl.O) (v:Value) (F:List Nat),NdO w o v F->(∀b∈F,w'.heap[b]? = w.heap[b]?)->NdO w' o v F
 |.nums n ns,v,F,h,k=>by
  rw[NdO] at h ⊢
  obtain⟨sv,h1,h2⟩:=h
  exact⟨sv,h1,h2.keep Qi.lives k⟩
 |.name nm,v,F,h,k=>by rw[NdO] at h ⊢;exact h
 |.br e,v,F,h,k=>by rw[NdO] at h ⊢;exact NdE.keep e v F h k
end
mutual
theorem NdE.nodup {w:World}:∀(e:Pl.E) (v:Value) (F:List Nat),NdE w e v F->F.Nodup
 |.opd o,v,F,h=>by rw[NdE] at h;exact NdO.nodup o v F h
 |.one f e,v,F,h=>by
  rw[NdE] at h
  obtain⟨vr,_,h2⟩:=h
  exact NdE.nodup e vr F h2
 |.two o f e,v,F,h=>by
  rw[NdE] at h
  obtain⟨vl,vr,F1,F2,_,rfl,h3,h4,h5⟩:=h
  rw[List.nodup_append]
  exact⟨NdE.nodup e vr F2 h4,NdO.nodup o vl F1 h3,fun x hx y hy e=>h5 x hx (e ▸ hy)⟩
theorem NdO.nodup {w:World}:∀(o:Pl.O) (v:Value) (F:List Nat),NdO w o v F->F.Nodup
 |.nums n ns,v,F,h=>by
  rw[NdO] at h
  obtain⟨sv,_,_,_,_,_,_,h2⟩:=h
  exact h2
 |.name nm,v,F,h=>by rw[NdO] at h;rw[h.2];exact List.nodup_nil
 |.br e,v,F,h=>by rw[NdO] at h;exact NdE.nodup e v F h
end
mutual
theorem NdE.form {w:World}:∀(e:Pl.E) (v:Value) (F:List Nat),NdE w e v F->∃T p,v=.iface T p
 |.opd o,v,F,h=>by rw[NdE] at h;exact NdO.form o v F h
 |.one f e,v,F,h=>by
  rw[NdE] at h
  obtain⟨vr,h1,_⟩:=h
  exact⟨_,_,h1⟩
 |.two o f e,v,F,h=>by
  rw[NdE] at h
  obtain⟨vl,vr,F1,F2,h1,_⟩:=h
  exact⟨_,_,h1⟩
theorem NdO.form {w:World}:∀(o:Pl.O) (v:Value) (F:List Nat),NdO w o v F->∃T p,v=.iface T p
 |.nums n ns,v,F,h=>by
  rw[NdO] at h
  obtain⟨sv,h1,_⟩:=h
  exact⟨_,_,h1⟩
 |.name nm,v,F,h=>by rw[NdO] at h;exact⟨_,_,h.1⟩
 |.br e,v,F,h=>by rw[NdO] at h;exact NdE.form e v F h
end
structure IxP (l:List Pl.Itk) (p cap:Nat) (ao:Option Addr) (o:Nat) (be:Bool) (w:World) (a':Nat) (w':World):Prop where
 ps:Ps w' p ao l.length cap a' o be
 g:w.grownBy w' (some p)
 le:a'<=1048590
def IsN (v:Value):Prop:=v=.nilIface\/∃T q,v=.iface T q
def PoX (bf:Pl.E->Bool) (l:List Pl.Itk) (p cap a:Nat) (ao:Option Addr) (o:Nat) (w:World) (X:Option (Pl.E × List Pl.T)) (e:Ending) (w':World):Prop:=match X with
 |none=>∃v a' be',e=.returned (.tuple #[v,.bool false])/\IsN v/\IxP l p cap ao o be' w a' w'
 |some (x,r)=>∃v F a',e=.returned (.tuple #[v,.bool true])/\NdE w' x v F/\Inb w.heap.size w' F/\IxP l p cap ao o (bf x) w a' w'/\a'<=l.length/\a<a'/\Pl.rI l a'=r
def HXe (n:Nat):Prop:=∀(l:List Pl.Itk) (p cap a o mb mo cp:Nat) (ao:Option Addr) (be:Bool) (w:World),l.length<=1048576->a<=l.length->o+(l.length-a)<=1048570->2 * (l.length-a)+1<=n->(∀t∈l,Pl.iOk t)->Ej w l p ao mb mo cp->Ps w p ao l.length cap a o be ->
 Calls Tryz.prog 89 #[.pointer (some ⟨p,0,none⟩)] w (PoX (fun x=>be || x.bey o) l p cap a ao o w (Pl.pexpr n (Pl.rI l a)))
theorem Ps.op2 {w:World}{p n cap a o:Nat}{ao:Option Addr}{be:Bool}(h:Ps w p ao n cap a o be) (o2:Nat):Ps (w.setCell ⟨p,2,none⟩ (.int .i64 o2)) p ao n cap a o2 be :=
 ⟨by simpa using h.lt,(World.cell?_setCell_other _ _ _ _ sI).trans h.c0,(World.cell?_setCell_other _ _ _ _ sI).trans h.c1,World.cell?_setCell_same _ _ _ h.c2,(World.cell?_setCell_other _ _ _ _ sI).trans h.c3,fun j=>by rw[World.frozen?_setCell];exact h.fz j⟩
namespace Pl
def pinb (n:Nat) (ts:List T):Option (E × List T):=match pexpr n ts with
 |some (e,.rp::r)=>some (e,r)
 |_=>none
theorem pinb_none {n:Nat}{ts:List T}(h:pexpr n ts=none):pinb n ts=none:=by unfold pinb;rw[h]
theorem pinb_rp {n:Nat}{ts r:List T}{x:E}(h:pexpr n ts=some (x,.rp::r)):pinb n ts=some (x,r):=by unfold pinb;rw[h]
theorem pinb_no {n:Nat}{ts r:List T}{x:E}(h:pexpr n ts=some (x,r)) (hr:¬∃r',r=.rp::r'):pinb n ts=none:=by
 unfold pinb
 rw[h]
 cases r with
 |nil=>rfl
 |cons t r'=>cases t <;> first | rfl | exact absurd ⟨_,rfl⟩ hr
end Pl
theorem Inb.grown {B:Nat}{w w':World}{F:List Nat}(h:Inb B w F) (hs:w.heap.size<=w'.heap.size):Inb B w' F:=h.up (Nat.le_refl _) hs
theorem tInb1 {P:Prop}(h:P:=by
 obtain rfl:=Y1 rfl
 clear Y1 Y2 Y3
 go_enter Tryz.func119,Tryz.ntmps119
 go_wp2_with fail
 refine HK1.out.mono ?_
 intro e' w2 hpo
 obtain⟨v,a',be',rfl,hiv0,hx⟩:=hpo
 have hiv:=zH hiv0
 clear hiv0
 have q2:=hx.ps.c2
 have qf:=hx.ps.fz
 have P2:=zH (hx.ps.op2 o)
 have G2:=zH (grown_one p 2 (.int .i64 (o:Int)) (G1.out.trans hx.g))
 have hle:=hx.le
 clear hx HK1
 go_wp2_with fail
 refine bodyPost_ret (v:=.tuple #[v,.bool false]) (by simp[results,Tryz.results119,go_sem]) rfl ⟨v,a',be',rfl,hiv.out,⟨P2.out,G2.out,hle⟩⟩
 ):P:=h
theorem tInb2 {P:Prop}(h:P:=by
 clear hP3 hg3 K2 N3
 go_wp2_with fail
 refine bodyPost_ret (v:=.tuple #[v,.bool true]) (by simp[results,Tryz.results119,go_sem]) rfl ⟨v,F,a'+1,rfl,FIN.out.1,FIN.out.2.1,FIN.out.2.2,by omega,by omega,htl.symm⟩
 ):P:=h
theorem inBrackets_of (n:Nat) (H:HXe n) (l:List Pl.Itk) (p cap a o mb mo cp:Nat) (ao:Option Addr) (be:Bool) (w:World) (hl:l.length<=1048576) (ha:a<=l.length) (ho:o+1+(l.length-a)<=1048570) (hn:2 * (l.length-a)+1<=n) (hk:∀t∈l,Pl.iOk t) (hE:Ej w l p ao mb mo cp) (hP:Ps w p ao l.length cap a o be) :
  Calls Tryz.prog 119 #[.pointer (some ⟨p,0,none⟩)] w (PoX (fun x=>be || (Pl.O.br x).bey o) l p cap a ao o w (Pl.pinb n (Pl.rI l a))):=by
 have hpl:=hP.lt
 have KX:Hid (∀b1,Calls Tryz.prog 89 #[.pointer (some ⟨p,0,none⟩)] ((w.setCell ⟨p,2,none⟩ (.int .i64 ((o+1:Nat):Int))).setCell ⟨p,3,none⟩ (.bool b1)) (PoX (fun x=>b1 || x.bey (o+1)) l p cap a ao (o+1) ((w.setCell ⟨p,2,none⟩ (.int .i64 ((o+1:Nat):Int))).setCell ⟨p,3,none⟩ (.bool b1)) (Pl.pexpr n (Pl.rI l a)))):=fun b1 =>
  H l p cap a (o+1) mb mo cp ao b1 _ hl ha ho hn hk (hE.grown (Nat.le_of_lt hpl) (grown_one p 3 _ (grown_one p 2 _ (World.grownBy.refl w _)))) ((hP.op2 (o+1)).be3 b1)
 have GW:Hid (∀b1,w.grownBy ((w.setCell ⟨p,2,none⟩ (.int .i64 ((o+1:Nat):Int))).setCell ⟨p,3,none⟩ (.bool b1)) (some p)):=fun b1=>grown_one p 3 _ (grown_one p 2 _ (World.grownBy.refl w _))
 have HEJ:=zH hE
 have HSG:Hid (∀a',decide ((Pl.tkAt l a').tx=⟨#[41]⟩)=match Pl.rI l a' with | t::_=>decide (Pl.sgTx t=[41]) | []=>false):=fun a'=>Pl.sign_T hk a' (c:=[41]) (by decide)
 have KS:Hid (∀(X:World) (a':Nat) (b2:Bool),Ej X l p ao mb mo cp->Ps X p ao l.length cap a' o b2->a'<=1048590->Calls Tryz.prog 64 #[.pointer (some ⟨p,0,none⟩),.string ⟨#[41]⟩] X fun e w'=>e=.returned (.bool (decide ((Pl.tkAt l a').tx=⟨#[41]⟩)))/\Ps w' p ao l.length cap (if (Pl.tkAt l a').tx=⟨#[41]⟩ then a'+1 else a') o b2/\X.grownBy w' (some p)):=fun X a' b2 hE hP h=>sign_any l p cap a' o ao b2 ⟨#[41]⟩ X hl h hP (hE.r.up (Nat.le_of_lt hP.lt))
 have HTL:Hid (∀a',(Pl.rI l a').tail=Pl.rI l (a'+1)):=fun a'=>Pl.tail_rI l a'
 have HNL:Hid (∀a' t r,Pl.rI l a'=t::r->a'<l.length):=fun a' t r h=>by
  by_cases h2:a'<l.length
  ·exact h2
  rw[Pl.rI_past oM] at h;cases h
 have c2:=hP.c2
 have c3:=hP.c3
 have cf:=hP.fz
 have HPW:=zH hP
 clear hE hP H hk
 have KXb:=KX
 have Y1:Pl.pexpr n (Pl.rI l a)=none->Pl.pinb n (Pl.rI l a)=none:=Pl.pinb_none
 have Y2:∀x r,Pl.pexpr n (Pl.rI l a)=some (x,.rp::r)->Pl.pinb n (Pl.rI l a)=some (x,r):=fun x r=>Pl.pinb_rp
 have Y3:∀x r,Pl.pexpr n (Pl.rI l a)=some (x,r)->(¬∃r',r=.rp::r')->Pl.pinb n (Pl.rI l a)=none:=fun x r=>Pl.pinb_no
 generalize Pl.pexpr n (Pl.rI l a)=X at *
 generalize Pl.pinb n (Pl.rI l a)=Y at *
 cases be
 ·have K1:=KX.out (decide (40<(o:Int)+1))
  have G1:=zH (GW.out (decide (40<(o:Int)+1)))
  have hz1:((w.setCell ⟨p,2,none⟩ (.int .i64 ((o+1:Nat):Int))).setCell ⟨p,3,none⟩ (.bool (decide (40<(o:Int)+1)))).heap.size=w.heap.size:=by simp
  rw[show ((o+1:Nat):Int)=(o:Int)+1 by omega] at K1 G1 hz1
  have HK1:=zH K1
  clear K1 KX KXb GW
  cases X with
  |none =>
   exact tInb1
  |some xr =>
   obtain⟨x,r⟩:=xr
   by_cases hrp:∃r',r=.rp::r'
   ·obtain⟨r',rfl⟩:=hrp
    obtain rfl:=Y2 _ _ rfl
    clear Y1 Y2 Y3
    go_enter Tryz.func119,Tryz.ntmps119
    go_wp2_with fail
    refine HK1.out.mono ?_
    intro e' w2 hpo
    obtain⟨v,F,a',rfl,hN,hI,hx,hal,haa,hr⟩:=hpo
    have HIV:Hid (IsN v):=.inr (NdE.form x v F hN)
    have q2:=hx.ps.c2
    have qf:=hx.ps.fz
    have P2:=zH (hx.ps.op2 o)
    have G2:=zH (grown_one p 2 (.int .i64 (o:Int)) (G1.out.trans hx.g))
    rw[hz1] at hI
    have hpF:p ∉ F:=fun hm=>by have:=(hI _ hm).1;omega
    have N2:=zH (NdE.keep (w':=w2.setCell ⟨p,2,none⟩ (.int .i64 (o:Int))) x v F hN (fun b hb=>Below.heap_setCell _ _ _ _ (fun e=>by have e2:b=p:=e;subst e2;exact hpF hb)))
    have I2:=zH (hI.up (Nat.le_refl _) (by simp:w2.heap.size<=(w2.setCell ⟨p,2,none⟩ (.int .i64 (o:Int))).heap.size))
    have E2:=zH (HEJ.out.grown (Nat.le_of_lt hpl) G2.out)
    have hle:=hx.le
    have K2:=zH (KS.out _ a' _ E2.out P2.out hle)
    have hsg:=HSG.out a'
    have htl:=HTL.out a'
    have hnl:=HNL.out a'
    rw[hr] at hsg htl hnl
    have HBE:Hid (((decide (40<(o:Int)+1)) || x.bey (o+1))=(false || (Pl.O.br x).bey o)):=by show _=_;rw[Pl.O.bey];rw[show decide (40<(o:Int)+1)=decide (40<o+1) by by_cases h:40<o+1 <;> simp[h] <;> omega];simp
    clear hx HK1 hN hI KS HSG HTL HNL
    have hlt:=hnl _ _ rfl
    simp only[Pl.sgTx,decide_true] at hsg
    rw[hsg,if_pos (of_decide_eq_true hsg)] at K2
    go_wp2_with fail
    refine K2.out.mono ?_
    rintro e' w3 ⟨rfl,hP3,hg3⟩
    have N3:=zH (NdE.keep (w':=w3) x v F N2.out (fun b hb=>hg3.block b (I2.out b hb).2 (fun e=>by cases e;exact hpF hb)))
    have FIN:Hid (NdE w3 x v F/\Inb w.heap.size w3 F/\IxP l p cap ao o (false || (Pl.O.br x).bey o) w (a'+1) w3):=⟨N3.out,I2.out.up (Nat.le_refl _) hg3.size,⟨by rw[<- HBE.out];exact hP3,G2.out.trans hg3,by omega⟩⟩
    exact tInb2
   obtain rfl:=Y3 _ _ rfl hrp
   clear Y1 Y2 Y3
   go_enter Tryz.func119,Tryz.ntmps119
   go_wp2_with fail
   refine HK1.out.mono ?_
   intro e' w2 hpo
   obtain⟨v,F,a',rfl,hN,hI,hx,hal,haa,hr⟩:=hpo
   have HIV:Hid (IsN v):=.inr (NdE.form x v F hN)
   have q2:=hx.ps.c2
   have qf:=hx.ps.fz
   have P2:=zH (hx.ps.op2 o)
   have G2:=zH (grown_one p 2 (.int .i64 (o:Int)) (G1.out.trans hx.g))
   rw[hz1] at hI
   have hpF:p ∉ F:=fun hm=>by have:=(hI _ hm).1;omega
   have N2:=zH (NdE.keep (w':=w2.setCell ⟨p,2,none⟩ (.int .i64 (o:Int))) x v F hN (fun b hb=>Below.heap_setCell _ _ _ _ (fun e=>by have e2:b=p:=e;subst e2;exact hpF hb)))
   have I2:=zH (hI.up (Nat.le_refl _) (by simp:w2.heap.size<=(w2.setCell ⟨p,2,none⟩ (.int .i64 (o:Int))).heap.size))
   have E2:=zH (HEJ.out.grown (Nat.le_of_lt hpl) G2.out)
   have hle:=hx.le
   have K2:=zH (KS.out _ a' _ E2.out P2.out hle)
   have hsg:=HSG.out a'
   have htl:=HTL.out a'
   have hnl:=HNL.out a'
   rw[hr] at hsg htl hnl
   have HBE:Hid (((decide (40<(o:Int)+1)) || x.bey (o+1))=(false || (Pl.O.br x).bey o)):=by show _=_;rw[Pl.O.bey];rw[show decide (40<(o:Int)+1)=decide (40<o+1) by by_cases h:40<o+1 <;> simp[h] <;> omega];simp
   clear hx HK1 hN hI KS HSG HTL HNL
   have hsf:decide ((Pl.tkAt l a').tx=⟨#[41]⟩)=false:=by
    rw[hsg]
    cases r with
    |nil=>rfl
    |cons t r'=>cases t <;> first | rfl | exact absurd ⟨_,rfl⟩ hrp
   rw[hsf,if_neg (of_decide_eq_false hsf)] at K2
   go_wp2_with fail
   refine K2.out.mono ?_
   rintro e' w3 ⟨rfl,hP3,hg3⟩
   have FIN:Hid (IxP l p cap ao o ((decide (40<(o:Int)+1)) || x.bey (o+1)) w a' w3):=⟨hP3,G2.out.trans hg3,hle⟩
   clear hP3 hg3 K2
   go_wp2_with fail
   refine bodyPost_ret (v:=.tuple #[v,.bool false]) (by simp[results,Tryz.results119,go_sem]) rfl ⟨v,a',_,rfl,HIV.out,FIN.out⟩
 have K1:=KX.out (true)
 have G1:=zH (GW.out (true))
 have hz1:((w.setCell ⟨p,2,none⟩ (.int .i64 ((o+1:Nat):Int))).setCell ⟨p,3,none⟩ (.bool (true))).heap.size=w.heap.size:=by simp
 rw[show ((o+1:Nat):Int)=(o:Int)+1 by omega] at K1 G1 hz1
 have HK1:=zH K1
 clear K1 KX KXb GW
 cases X with
 |none =>
  exact tInb1
 |some xr =>
  obtain⟨x,r⟩:=xr
  by_cases hrp:∃r',r=.rp::r'
  ·obtain⟨r',rfl⟩:=hrp
   obtain rfl:=Y2 _ _ rfl
   clear Y1 Y2 Y3
   go_enter Tryz.func119,Tryz.ntmps119
   go_wp2_with fail
   refine HK1.out.mono ?_
   intro e' w2 hpo
   obtain⟨v,F,a',rfl,hN,hI,hx,hal,haa,hr⟩:=hpo
   have HIV:Hid (IsN v):=.inr (NdE.form x v F hN)
   have q2:=hx.ps.c2
   have qf:=hx.ps.fz
   have P2:=zH (hx.ps.op2 o)
   have G2:=zH (grown_one p 2 (.int .i64 (o:Int)) (G1.out.trans hx.g))
   rw[hz1] at hI
   have hpF:p ∉ F:=fun hm=>by have:=(hI _ hm).1;omega
   have N2:=zH (NdE.keep (w':=w2.setCell ⟨p,2,none⟩ (.int .i64 (o:Int))) x v F hN (fun b hb=>Below.heap_setCell _ _ _ _ (fun e=>by have e2:b=p:=e;subst e2;exact hpF hb)))
   have I2:=zH (hI.up (Nat.le_refl _) (by simp:w2.heap.size<=(w2.setCell ⟨p,2,none⟩ (.int .i64 (o:Int))).heap.size))
   have E2:=zH (HEJ.out.grown (Nat.le_of_lt hpl) G2.out)
   have hle:=hx.le
   have K2:=zH (KS.out _ a' _ E2.out P2.out hle)
   have hsg:=HSG.out a'
   have htl:=HTL.out a'
   have hnl:=HNL.out a'
   rw[hr] at hsg htl hnl
   have HBE:Hid (((true) || x.bey (o+1))=(true || (Pl.O.br x).bey o)):=by show _=_;rw[Pl.O.bey];simp
   clear hx HK1 hN hI KS HSG HTL HNL
   have hlt:=hnl _ _ rfl
   simp only[Pl.sgTx,decide_true] at hsg
   rw[hsg,if_pos (of_decide_eq_true hsg)] at K2
   go_wp2_with fail
   refine K2.out.mono ?_
   rintro e' w3 ⟨rfl,hP3,hg3⟩
   have N3:=zH (NdE.keep (w':=w3) x v F N2.out (fun b hb=>hg3.block b (I2.out b hb).2 (fun e=>by cases e;exact hpF hb)))
   have FIN:Hid (NdE w3 x v F/\Inb w.heap.size w3 F/\IxP l p cap ao o (true || (Pl.O.br x).bey o) w (a'+1) w3):=⟨N3.out,I2.out.up (Nat.le_refl _) hg3.size,⟨by rw[<- HBE.out];exact hP3,G2.out.trans hg3,by omega⟩⟩
   exact tInb2
  obtain rfl:=Y3 _ _ rfl hrp
  clear Y1 Y2 Y3
  go_enter Tryz.func119,Tryz.ntmps119
  go_wp2_with fail
  refine HK1.out.mono ?_
  intro e' w2 hpo
  obtain⟨v,F,a',rfl,hN,hI,hx,hal,haa,hr⟩:=hpo
  have HIV:Hid (IsN v):=.inr (NdE.form x v F hN)
  have q2:=hx.ps.c2
  have qf:=hx.ps.fz
  have P2:=zH (hx.ps.op2 o)
  have G2:=zH (grown_one p 2 (.int .i64 (o:Int)) (G1.out.trans hx.g))
  rw[hz1] at hI
  have hpF:p ∉ F:=fun hm=>by have:=(hI _ hm).1;omega
  have N2:=zH (NdE.keep (w':=w2.setCell ⟨p,2,none⟩ (.int .i64 (o:Int))) x v F hN (fun b hb=>Below.heap_setCell _ _ _ _ (fun e=>by have e2:b=p:=e;subst e2;exact hpF hb)))
  have I2:=zH (hI.up (Nat.le_refl _) (by simp:w2.heap.size<=(w2.setCell ⟨p,2,none⟩ (.int .i64 (o:Int))).heap.size))
  have E2:=zH (HEJ.out.grown (Nat.le_of_lt hpl) G2.out)
  have hle:=hx.le
  have K2:=zH (KS.out _ a' _ E2.out P2.out hle)
  have hsg:=HSG.out a'
  have htl:=HTL.out a'
  have hnl:=HNL.out a'
  rw[hr] at hsg htl hnl
  have HBE:Hid (((true) || x.bey (o+1))=(true || (Pl.O.br x).bey o)):=by show _=_;rw[Pl.O.bey];simp
  clear hx HK1 hN hI KS HSG HTL HNL
  have hsf:decide ((Pl.tkAt l a').tx=⟨#[41]⟩)=false:=by
   rw[hsg]
   cases r with
   |nil=>rfl
   |cons t r'=>cases t <;> first | rfl | exact absurd ⟨_,rfl⟩ hrp
  rw[hsf,if_neg (of_decide_eq_false hsf)] at K2
  go_wp2_with fail
  refine K2.out.mono ?_
  rintro e' w3 ⟨rfl,hP3,hg3⟩
  have FIN:Hid (IxP l p cap ao o ((true) || x.bey (o+1)) w a' w3):=⟨hP3,G2.out.trans hg3,hle⟩
  clear hP3 hg3 K2
  go_wp2_with fail
  refine bodyPost_ret (v:=.tuple #[v,.bool false]) (by simp[results,Tryz.results119,go_sem]) rfl ⟨v,a',_,rfl,HIV.out,FIN.out⟩
namespace Pl
theorem num_spn {l:List Itk}(hl:∀t∈l,iOk t):∀(n a:Nat),l.length-a<=n->numI l a=(spn (rI l a)).1/\rI l (a+(numI l a).length)=(spn (rI l a)).2:=by
 intro n
 induction n with
 |zero =>
  intro a h
  have hk:¬(tkAt l a).k=1:=by rw[tkAt_past oM];decide
  rw[numI_no hk,rI_past oM]
  exact⟨rfl,rI_past (by simp;omega)⟩
 |succ n ih =>
  intro a h
  by_cases ha:a<l.length
  rotate_left 1
  ·have hk:¬(tkAt l a).k=1:=by rw[tkAt_past oM];decide
   rw[numI_no hk,rI_past oM]
   exact⟨rfl,rI_past (by simp;omega)⟩
  have hk:=hl _ (tkAt_mem ha)
  by_cases h1:(tkAt l a).k=1
  ·obtain⟨i1,i2⟩:=ih (a+1) oM
   have e:itT (tkAt l a)=.num (tkAt l a).v:=by unfold itT;rw[if_pos h1]
   rw[(numI_yes h1).2,rI_cons ha,e]
   refine⟨by rw[i1];rfl,?_⟩
   rw[List.length_cons,show a+((numI l (a+1)).length+1)=a+1+(numI l (a+1)).length by omega,i2]
   rfl
  rw[numI_no h1]
  have hn:isNum (rI l a)=false:=by
   rw[rI_cons ha]
   unfold itT
   rw[if_neg h1]
   split
   ·rfl
   split
   ·rfl
   unfold sgT
   repeat (split <;> first | rfl | skip)
  rw[spn_none hn]
  exact⟨rfl,rfl⟩
theorem pop_num {l:List Itk}(hl:∀t∈l,iOk t) (n:Nat) {a:Nat}(h:(tkAt l a).k=1):∃v vs,numI l a=v::vs/\popnd (n+1) (rI l a)=some (.nums v vs,rI l (a+(numI l a).length)):=by
 obtain⟨ha,e⟩:=numI_yes h
 obtain⟨i1,i2⟩:=num_spn hl (l.length-a) a (Nat.le_refl _)
 have et:itT (tkAt l a)=.num (tkAt l a).v:=by unfold itT;rw[if_pos h]
 refine⟨_,_,e,?_⟩
 rw[i2,rI_cons ha,et,popnd]
 obtain⟨j1,_⟩:=num_spn hl (l.length-(a+1)) (a+1) (Nat.le_refl _)
 rw[j1]
 rfl
theorem pop_arr {l:List Itk}(n:Nat) {a:Nat}(h:(tkAt l a).k=2):a<l.length/\popnd (n+1) (rI l a)=some (.name (tkAt l a).tx.data.toList,rI l (a+1)):=by
 have ha:a<l.length:=by
  by_cases ha:a<l.length
  ·exact ha
  rw[tkAt_past oM] at h;exact absurd h (by decide)
 have et:itT (tkAt l a)=.arr (tkAt l a).tx.data.toList:=by unfold itT;rw[h];rfl
 exact⟨ha,by rw[rI_cons ha,et,popnd]⟩
theorem pop_br {l:List Itk}(hl:∀t∈l,iOk t) (n:Nat) {a:Nat}(h:(tkAt l a).tx=⟨#[40]⟩):a<l.length/\popnd (n+1) (rI l a)=(pinb n (rI l (a+1))).map fun q=>(.br q.1,q.2):=by
 have ha:a<l.length:=by
  by_cases ha:a<l.length
  ·exact ha
  rw[tkAt_past oM] at h;exact absurd (congrArg ByteArray.size h) (by decide)
 have s:=it_sg (hl _ (tkAt_mem ha)) (c:=[40]) (by decide)
 rw[show ba [40]=⟨#[40]⟩ from rfl,decide_eq_true h] at s
 have et:itT (tkAt l a)=.lp:=by
  have:=of_decide_eq_true s.symm
  revert this
  cases itT (tkAt l a) <;> simp[sgTx]
 refine⟨ha,?_⟩
 rw[rI_cons ha,et,popnd]
 unfold pinb
 cases pexpr n (rI l (a+1)) with
 |none=>rfl
 |some q =>
  obtain⟨e,r⟩:=q
  cases r with
  |nil=>rfl
  |cons t r=>cases t <;> rfl
theorem pop_no {l:List Itk}(hl:∀t∈l,iOk t) (n:Nat) {a:Nat}(h1:¬(tkAt l a).k=1) (h2:¬(tkAt l a).k=2) (h:¬(tkAt l a).tx=⟨#[40]⟩):popnd (n+1) (rI l a)=none:=by
 by_cases ha:a<l.length
 rotate_left 1
 ·rw[rI_past oM]
  rfl
 have hk:=hl _ (tkAt_mem ha)
 have s:=it_sg hk (c:=[40]) (by decide)
 rw[show ba [40]=⟨#[40]⟩ from rfl,decide_eq_false h] at s
 have hs:=of_decide_eq_false s.symm
 rw[rI_cons ha]
 have e1:∀v,itT (tkAt l a) ≠ .num v:=fun v e=>by
  unfold itT at e
  rw[if_neg h1,if_neg h2] at e
  split at e
  ·cases e
  unfold sgT at e
  repeat (split at e <;> first | cases e | skip)
 have e2:∀v,itT (tkAt l a) ≠ .arr v:=fun v e=>by
  unfold itT at e
  rw[if_neg h1,if_neg h2] at e
  split at e
  ·cases e
  unfold sgT at e
  repeat (split at e <;> first | cases e | skip)
 generalize itT (tkAt l a)=t at *
 cases t <;> first
  |exact absurd rfl (e1 _)
  |exact absurd rfl (e2 _)
  |exact absurd rfl hs
  |rfl
end Pl
def PoO (bf:Pl.O->Bool) (l:List Pl.Itk) (p cap a:Nat) (ao:Option Addr) (o:Nat) (w:World) (X:Option (Pl.O × List Pl.T)) (e:Ending) (w':World):Prop:=match X with
 |none=>∃v a' be',e=.returned (.tuple #[v,.bool false])/\IsN v/\IxP l p cap ao o be' w a' w'
 |some (x,r)=>∃v F a',e=.returned (.tuple #[v,.bool true])/\NdO w' x v F/\Inb w.heap.size w' F/\IxP l p cap ao o (bf x) w a' w'/\a'<=l.length/\a<a'/\Pl.rI l a'=r
end Go.Proofs.YtbiiicbfpcfgdaaGreatDoor
