import Derived.Test.YtbiiicbfpcfgdaaGreatDoorBra
namespace Go.Proofs.YtbiiicbfpcfgdaaGreatDoor
open Go.RowKit
set_option maxRecDepth 100000
set_option maxHeartbeats 16000000
set_option linter.unusedVariables false
theorem uOpe21 {P:Prop}(h:P:=by simp[go_sem];rfl):P:=h
abbrev box0:Obj:=.cells #[.slice none 0 0,.int .i64 0,.bool false,.int .i64 0,.bool false] 75
theorem Pl.not_num {t:Pl.Tok}(h:Pl.kOk t.k) (hn:¬t.k=110) (r:List Pl.T):Pl.isNum (Pl.tkT t::r)=false:=by
 obtain⟨k,tx,v,p⟩:=t
 simp only at h hn
 unfold Pl.tkT
 simp only
 rcases h with rfl|rfl|rfl|rfl|rfl
 ·exact absurd rfl hn
 ·rfl
 ·rfl
 ·rfl
 rw[if_neg (by decide),if_neg (by decide),if_neg (by decide),if_neg (by decide)]
 unfold Pl.sgT
 repeat (split <;> first | rfl | skip)
theorem Pl.ropnd_vals {l:List Pl.Tok}(hl:∀t∈l,Pl.kOk t.k) (n:Nat) {m i:Nat}(hm:m<l.length) (hi:i<=m) (hk:(Pl.tq l m).k=110) (hs:(Pl.spn (Pl.rv l m)).2=Pl.rv l i):(Pl.ropnd (n+1) (Pl.rv l (m+1))).map ofO=some ([⟨1,Pl.vals l i (m+1),[],Pl.f0⟩],i,0,decide (1000<m+1-i)):=by
 have hv:=Pl.num_vals hl hi oM hs
 have hd:=Pl.drop_take_succ hm hi
 rw[show Pl.vals l i m=(Pl.spn (Pl.rv l m)).1.reverse from hv] at hd
 rw[Pl.rv_succ hm,(Pl.kind_num (hl _ (Pl.tq_mem hm))).1 hk,Pl.ropnd,hs]
 have hr:((Pl.tq l m).v::(Pl.spn (Pl.rv l m)).1).reverse=Pl.vals l i (m+1):=by rw[hd];simp
 have hlen:(Pl.vals l i (m+1)).length=m+1-i:=by simp[Pl.vals];omega
 rw[hr]
 generalize Pl.vals l i (m+1)=q at hlen ⊢
 cases q with
 |nil=>simp at hlen;omega
 |cons a q =>
  simp at hlen
  simp[ofO,Pl.O.code,Pl.O.nest,Pl.O.long,Pl.rv_len (show i<=l.length by omega)]
  omega
theorem Pl.spn_num {l:List Pl.Tok}(hl:∀t∈l,Pl.kOk t.k) {j:Nat}(hj:j<l.length):(Pl.spn (Pl.rv l (j+1))).2=if (Pl.tq l j).k=110 then (Pl.spn (Pl.rv l j)).2 else Pl.rv l (j+1):=by
 have hk:=hl _ (Pl.tq_mem hj)
 split
 ·rename_i h
  rw[Pl.rv_succ hj,(Pl.kind_num hk).1 h]
  rfl
 rename_i h
 rw[Pl.spn_none]
 rw[Pl.rv_succ hj]
 exact Pl.not_num hk h _
theorem tOpe21 {P:Prop}(h:P:=by
 refine⟨_,_,_,by first | rfl | (simp;done),step1 wr.heap.size sI hO hI,fun x hx=>?_⟩
 rcases List.mem_cons.1 hx with rfl|hx
 ·simp;omega
 ·have:=hI x hx
  simp at this ⊢
  omega
 ):P:=h
theorem l3Operand_of (n:Nat) (H:HE n) (l:List Pl.Tok) (ao:Option Addr) (cap hi:Nat) (w:World) (hl:l.length<=1048576) (hcap:l.length<=cap) (hcp:cap<=9223372036854775807) (h2:hi<=l.length) (hn:2 * hi<=n+1) (hk:∀t∈l,Pl.kOk t.k) (hR:RdK w.heap.size w ao l) :
  Calls Tryz.prog 52 #[.slice ao l.length cap,.int .i64 hi] w fun e w'=>∃v,e=.returned v/\Below w.heap.size w w'/\CodeR w.heap.size w' v ((Pl.ropnd (n+1) (Pl.rv l hi)).map ofO):=by
 have B0:Hid (∀o,Below w.heap.size w (w.alloc o)):=fun o=>(Below.refl _ _).alloc (Nat.le_refl _) _
 have B1:Hid (∀o o2,Below w.heap.size w ((w.alloc o).alloc o2)):=fun o o2=>((Below.refl _ _).alloc (Nat.le_refl _) _).alloc sI _
 by_cases h0:hi=0
 ·subst h0
  rw[Pl.rv_zero]
  have HX:Hid ((Pl.ropnd (n+1) []).map ofO=none):=rfl
  clear hR H
  generalize (Pl.ropnd (n+1) []).map ofO=Q at *
  generalize l.length=L at *
  go_enter Tryz.func52,Tryz.ntmps52
  go_wp2_with fail
  refine bodyPost_ret (v:=.agg #[.slice none 0 0,.int .i64 0,.bool false,.int .i64 0,.bool false]) (by simp[results,Tryz.results52,go_sem]) rfl ⟨_,rfl,B0.out _,by rw[HX.out];exact CodeR.no _ _⟩
 obtain⟨m,rfl⟩:∃m,hi=m+1:=⟨hi-1,by omega⟩
 obtain⟨b,off,hbw,rfl,hc⟩:∃b off,b<w.heap.size/\ao=some ⟨b,off,none⟩/\∀(i:Nat) (t:Pl.Tok),l[i]? = some t->w.cell? ⟨b,off+i * 4,none⟩=some (.int .u8 t.k)/\w.cell? ⟨b,off+i * 4+1,none⟩=some (.string t.tx)/\w.cell? ⟨b,off+i * 4+2,none⟩=some (.int .i64 t.v)/\w.cell? ⟨b,off+i * 4+3,none⟩=some (.int .i64 t.pos):=by
  rcases hR with rfl|h
  ·simp at h2
  exact h
 have HT:Hid (∀k,k<l.length->∀W,Below w.heap.size w W->W.cell? ⟨b,off+k * 4,none⟩=some (.int .u8 (Pl.tq l k).k)/\W.cell? ⟨b,off+k * 4+1,none⟩=some (.string (Pl.tq l k).tx)/\W.cell? ⟨b,off+k * 4+2,none⟩=some (.int .i64 (Pl.tq l k).v)/\W.cell? ⟨b,off+k * 4+3,none⟩=some (.int .i64 (Pl.tq l k).pos)):=fun k hk W hW=>by
  have:=hc k (Pl.tq l k) (by unfold Pl.tq;rw[List.getElem?_eq_getElem hk];rfl)
  exact⟨bcell hW hbw this.1,bcell hW hbw this.2.1,bcell hW hbw this.2.2.1,bcell hW hbw this.2.2.2⟩
 have hkm:=hk _ (Pl.tq_mem (show m<l.length by omega))
 have hu:Pl.rv l (m+1)=Pl.tkT (Pl.tq l m)::Pl.rv l m:=Pl.rv_succ oM
 have hml:=Pl.rv_len (show m<=l.length by omega)
 clear hc
 by_cases hw:(Pl.tq l m).k=119
 ·have HX:=zH (show (Pl.ropnd (n+1) (Pl.rv l (m+1))).map ofO=some ([⟨2,[],(Pl.tq l m).tx.data.toList,Pl.f0⟩],m,0,false) by
   rw[hu,(Pl.kind_arr hkm).1 hw,Pl.ropnd]
   simp[ofO,Pl.O.code,Pl.O.nest,Pl.O.long,hml])
  obtain⟨c0,c1,c2,c3⟩:=HT.out m oM _ (B0.out box0)
  clear hR H HT hkm hu hml
  generalize (Pl.ropnd (n+1) (Pl.rv l (m+1))).map ofO=Q at *
  generalize Pl.tq l m=t at *
  generalize l.length=L at *
  rw[hw] at c0
  clear hw
  go_enter Tryz.func52,Tryz.ntmps52
  go_wp2_with fail
  refine bodyPost_ret (v:=.agg #[.slice (some ⟨w.heap.size+1+1+1,0,none⟩) 1 1,.int .i64 m,.bool true,.int .i64 0,.bool false]) (by simp[results,Tryz.results52,go_sem]) rfl ⟨_,rfl,(((B1.out _ _).alloc (by simp;omega) _).alloc (by simp;omega) _),?_⟩
  rw[HX.out]
  refine⟨_,_,_,rfl,step0 _ (w.heap.size+1+1) sI 2 t.tx.data.toList Pl.f0,fun x hx=>?_⟩
  simp at hx ⊢
  omega
 have hwb:((Pl.tq l m).k == 119)=false:=by simpa using hw
 by_cases hnum:(Pl.tq l m).k=110
 rotate_left 1
 ·have hnb:((Pl.tq l m).k == 110)=false:=by simpa using hnum
  obtain⟨c0,c1,c2,c3⟩:=HT.out m oM _ (B0.out box0)
  have hV:Pl.isV l (m:Int) ⟨#[41]⟩=decide (Pl.sgTx (Pl.tkT (Pl.tq l m))=[41]):=Pl.isV_in hk (c:=[41]) (by decide) oM
  have KI:Hid (∀W:World,Below w.heap.size w W->Calls Tryz.prog 31 #[.slice (some ⟨b,off,none⟩) l.length cap,.int .i64 m,.string ⟨#[41]⟩] W fun e w'=>e=.returned (.bool (Pl.isV l m ⟨#[41]⟩))/\w'=W):=fun W hW=>l3Is_any l _ cap m ⟨#[41]⟩ W hl ⟨by omega,by omega⟩ ((hR.keep hW).up hW.size)
  have HA:∀nm,Pl.tkT (Pl.tq l m)=.arr nm->False:=fun nm h=>by
   rcases hkm with e|e|e|e|e
   ·exact hnum e
   ·exact hw e
   ·unfold Pl.tkT at h;rw[e] at h;simp at h
   ·unfold Pl.tkT at h;rw[e] at h;simp at h
   unfold Pl.tkT at h
   rw[e,if_neg (by decide),if_neg (by decide),if_neg (by decide),if_neg (by decide)] at h
   unfold Pl.sgT at h
   repeat (split at h <;> first | cases h | skip)
  have HNU:∀v,Pl.tkT (Pl.tq l m)=.num v->False:=fun v h=>by
   have:=Pl.not_num hkm hnum []
   rw[h] at this
   cases this
  by_cases hrp:Pl.tkT (Pl.tq l m)=.rp
  ·rw[hrp] at hV
   have hV':Pl.isV l (m:Int) ⟨#[41]⟩=true:=hV
   rw[hV'] at KI
   have KB:Hid (∀W:World,Below w.heap.size w W->Calls Tryz.prog 79 #[.slice (some ⟨b,off,none⟩) l.length cap,.int .i64 ((m:Int)+1)] W fun e w'=>∃v,e=.returned v/\Below W.heap.size W w'/\CodeR W.heap.size w' v ((Pl.ropnd (n+1) (Pl.rv l (m+1))).map ofO)):=fun W hW=>l3Bracket_of n H l _ cap (m+1) W hl hcap hcp oM h2 hn hk ((hR.keep hW).up hW.size) hrp
   clear hR H HT hkm hu hml HA HNU hV hV' hrp hw hnum
   generalize (Pl.ropnd (n+1) (Pl.rv l (m+1))).map ofO=Q at *
   generalize Pl.tq l m=t at *
   generalize l.length=L at *
   rw[show ((m+1:Nat):Int)=(m:Int)+1 by omega]
   go_enter Tryz.func52,Tryz.ntmps52
   go_wp2_with (go_at_call 31;with_reducible refine(KI.out _ (B1.out _ _)).mono ?_;rintro e w2 ⟨rfl,rfl⟩)
   refine(KB.out _ (B1.out _ _)).mono ?_
   rintro e w2 ⟨v,rfl,hb2,hcr⟩
   obtain⟨ao2,n2,cap2,fr2,ok2,ne2,lo2,rfl⟩:=hcr.form
   have CR:=zH hcr
   have BW:=zH ((B1.out _ _).trans (hb2.mono (B1.out _ _).size))
   have r0:=bcell hb2 (b:=w.heap.size) (j:=0) (by simp;omega) uOpe21
   have r1:=bcell hb2 (b:=w.heap.size) (j:=1) (by simp;omega) uOpe21
   have r2:=bcell hb2 (b:=w.heap.size) (j:=2) (by simp;omega) uOpe21
   have r3:=bcell hb2 (b:=w.heap.size) (j:=3) (by simp;omega) uOpe21
   have r4:=bcell hb2 (b:=w.heap.size) (j:=4) (by simp;omega) uOpe21
   have rf:∀j,w2.frozen? ⟨w.heap.size,j,none⟩=false:=fun j=>bfroz hb2 (by simp;omega) (by simp[go_sem])
   have hs2:w.heap.size<w2.heap.size:=by have:=hb2.size;simp at this;omega
   clear hb2 hcr KI KB
   go_wp2_with fail
   refine bodyPost_ret (v:=.agg #[.slice ao2 n2 cap2,.int .i64 fr2,.bool ok2,.int .i64 ne2,.bool lo2]) (by simp[results,Tryz.results52,go_sem,r0,r1,r2,r3,r4]) rfl ⟨_,rfl,below_far BW.out (grown_box _ _ _ _ _ _ _) oM (Nat.le_refl _),?_⟩
   exact(CR.out.far (grown_box w2 w.heap.size _ _ _ _ _) (by simp;omega)).low (by simp;omega)
  have hV':Pl.isV l (m:Int) ⟨#[41]⟩=false:=by
   rw[hV,decide_eq_false_iff_not]
   intro h
   exact hrp (by revert h;cases Pl.tkT (Pl.tq l m) <;> simp[Pl.sgTx])
  rw[hV'] at KI
  have HX:Hid ((Pl.ropnd (n+1) (Pl.rv l (m+1))).map ofO=none):=by
   show _=_
   rw[hu]
   revert HA HNU hrp
   cases Pl.tkT (Pl.tq l m) <;> intro HA HNU hrp <;> first | rfl | exact absurd rfl hrp | exact(HA _ rfl).elim | exact(HNU _ rfl).elim
  clear hR H HT hkm hu hml HA HNU hV hV' hrp hw hnum
  generalize (Pl.ropnd (n+1) (Pl.rv l (m+1))).map ofO=Q at *
  generalize Pl.tq l m=t at *
  generalize l.length=L at *
  rw[show ((m+1:Nat):Int)=(m:Int)+1 by omega]
  go_enter Tryz.func52,Tryz.ntmps52
  go_wp2_with (go_at_call 31;with_reducible refine(KI.out _ (B1.out _ _)).mono ?_;rintro e w2 ⟨rfl,rfl⟩)
  refine bodyPost_ret (v:=.agg #[.slice none 0 0,.int .i64 0,.bool false,.int .i64 0,.bool false]) (by simp[results,Tryz.results52,go_sem]) rfl ⟨_,rfl,B1.out _ _,by rw[HX.out];exact CodeR.no _ _⟩
 have HX:Hid (∀i,i<=m->(Pl.spn (Pl.rv l m)).2=Pl.rv l i->(Pl.ropnd (n+1) (Pl.rv l (m+1))).map ofO=some ([⟨1,Pl.vals l i (m+1),[],Pl.f0⟩],i,0,decide (1000<m+1-i))):=fun i hi hs=>Pl.ropnd_vals hk n oM hi hnum hs
 have HN:Hid (∀j,j<l.length->(Pl.spn (Pl.rv l (j+1))).2=if (Pl.tq l j).k=110 then (Pl.spn (Pl.rv l j)).2 else Pl.rv l (j+1)):=fun j hj=>Pl.spn_num hk hj
 have HD:Hid (∀i k,k<l.length->i<=k->Pl.vals l i (k+1)=Pl.vals l i k++[(Pl.tq l k).v]):=fun i k h1 h2=>Pl.drop_take_succ h1 h2
 have HLN:Hid (∀i k,k<=l.length->(Pl.vals l i k).length=k-i):=fun i k h=>by simp[Pl.vals];omega
 have HDR:Hid (∀i:Nat,Pl.vals l i i=[]):=fun i=>by unfold Pl.vals;rw[List.drop_eq_nil_of_le (by simp;omega)];rfl
 obtain⟨c0,c1,c2,c3⟩:=HT.out m oM _ (B0.out box0)
 have HTT:=HT
 clear hR H hkm hu hml hw
 generalize (Pl.ropnd (n+1) (Pl.rv l (m+1))).map ofO=Q at *
 generalize htm:Pl.tq l m=t at *
 have HV:Hid (∀k,Pl.tq l k=Pl.tq l k):=fun _=>rfl
 generalize hL:l.length=L at *
 rw[hnum] at c0 hwb
 have B2:=zH (B1.out box0 (.cells #[.int .u8 110,.string t.tx,.int .i64 t.v,.int .i64 t.pos] 37))
 rw[show ((m+1:Nat):Int)=(m:Int)+1 by omega]
 go_enter Tryz.func52,Tryz.ntmps52
 go_wp2_with fail
 go_loop [6] (fun v6=>∃i:Nat,i<=m/\v6=.int .i64 i/\Hid ((Pl.spn (Pl.rv l m)).2=(Pl.spn (Pl.rv l i)).2)) (fun v6=>(intOf v6).toNat)
 case atStart=>exact⟨m,Nat.le_refl _,rfl,rfl⟩
 obtain⟨i,him,rfl,hst⟩:=hrel
 by_cases h0:i=0
 ·subst h0
  have HXI:=zH (HX.out 0 (Nat.zero_le _) hst.out)
  clear HX HN c0 c1 c2 c3
  go_wp2_with fail
  go_loopw [7,8] (fun v7 v8 wr=>∃(k:Nat) (F:List Nat),0<=k/\k<=m+1/\v8=.int .i64 k/\Hid (Own 3 1 Qi wr v7 (Pl.vals l 0 k) F/\Inb (w.heap.size+2) wr F/\Below (w.heap.size+2) ((w.alloc box0).alloc (.cells #[.int .u8 110,.string t.tx,.int .i64 t.v,.int .i64 t.pos] 37)) wr)) (fun _ v8 _=>m+1-(intOf v8).toNat)
  case atStart =>
   refine⟨0,[w.heap.size+1+1],Nat.le_refl _,by omega,by go_num,?_,?_,?_⟩
   ·rw[HDR.out]
    exact Own.emp _ _ sI
   ·exact fun x hx=>by simp at hx ⊢;omega
   exact(Below.refl _ _).alloc sI _
  rename World=>wr
  obtain⟨k,F,hk1,hk2,rfl,HH⟩:=hrel
  obtain⟨ao7,cap7,e7⟩:=HH.out.1.slice
  rw[HLN.out _ _ oM] at e7
  subst e7
  have BX:=zH (B2.out.trans (HH.out.2.2.mono oM))
  have hsz:=HH.out.2.2.size
  simp at hsz
  by_cases hlt:k<m+1
  ·have hd:=HD.out 0 k oM hk1
   obtain⟨g0,g1,g2,g3⟩:=HTT.out k oM _ BX.out
   have hcl:=HLN.out 0 k oM
   generalize (Pl.tq l k).v=vk at *
   go_wp2_with (at_builtin;refine wpList_append_o el77 Qi.lives _ rfl _ _ rfl _ _ _ _ _ rfl rfl (Pl.vals l 0 k) [vk] F [] [.int .i64 vk] (w.heap.size+2) ?ho ?hi ?hy ?hG ?hn ?hd rfl rfl ?hc ?h1 ?hbd ?hB ?_)
   case ho=>exact HH.out.1.below Qi.lives HH.out.2.1 ((Below.refl _ _).alloc (Nat.le_refl _) _) (Nat.le_refl _)
   case hi=>exact HH.out.2.1.up (Nat.le_refl _) sI
   case hy=>exact Qi.row _ _
   case hG=>exact Inb.nil _ _
   case hn=>exact List.nodup_nil
   case hd=>simp
   case hc=>exact cells_new (l:=[.int .i64 vk]) rfl
   case h1=>simp[Value.oneCell']
   case hbd=>rw[hcl];simp;omega
   case hB=>simp;omega
   intro v9 w9 F9 ho9 hi9 hg9 _ _
   have H9:Hid (Own 3 1 Qi w9 v9 (Pl.vals l 0 (k+1)) F9/\Inb (w.heap.size+2) w9 F9/\Below (w.heap.size+2) ((w.alloc box0).alloc (.cells #[.int .u8 110,.string t.tx,.int .i64 t.v,.int .i64 t.pos] 37)) w9):=⟨by rw[hd];exact ho9,hi9,(HH.out.2.2.alloc oM _).grown hg9 (by simp;omega) (fun q hq=>(HH.out.2.1 q (HH.out.1.lt q hq).1).1)⟩
   clear ho9 hi9 hg9 HH BX
   go_wp2_with fail
   go_roundw
   case rel=>exact⟨k+1,F9,by omega,by omega,by go_num,H9⟩
   simp[intOf];omega
  obtain rfl:k=m+1:=by omega
  have hcl:=HLN.out 0 (m+1) oM
  have r0:=bcell HH.out.2.2 (b:=w.heap.size) (j:=0) oM uOpe21
  have r1:=bcell HH.out.2.2 (b:=w.heap.size) (j:=1) oM uOpe21
  have r2:=bcell HH.out.2.2 (b:=w.heap.size) (j:=2) oM uOpe21
  have r3:=bcell HH.out.2.2 (b:=w.heap.size) (j:=3) oM uOpe21
  have r4:=bcell HH.out.2.2 (b:=w.heap.size) (j:=4) oM uOpe21
  have rf:∀j,wr.frozen? ⟨w.heap.size,j,none⟩=false:=fun j=>bfroz HH.out.2.2 oM (by simp[go_sem])
  have hs2:w.heap.size<wr.heap.size:=by omega
  have hs3:¬w.heap.size=wr.heap.size:=by omega
  generalize hcn:m+1-0=cn at *
  have hcn2:cn<=1048576:=by omega
  go_wp2_with fail
  refine bodyPost_ret (v:=.agg #[.slice (some ⟨wr.heap.size,0,none⟩) 1 1,.int .i64 (0:Nat),.bool true,.int .i64 0,.bool (decide (1000<cn))]) (by simp[results,Tryz.results52,go_sem,r0,r1,r2,r3,r4,hs2];omega) rfl ⟨_,rfl,?_,?_⟩
  ·exact below_far BX.out (grown_alloc (grown_box _ _ _ _ _ _ _) _) oM (Nat.le_refl _)
  rw[HXI.out]
  have hO:=HH.out.1.grown Qi.lives HH.out.2.1 (grown_box wr w.heap.size (.slice (some ⟨wr.heap.size,0,none⟩) 1 1) (.int .i64 (0:Nat)) (.bool true) (.int .i64 0) (.bool (decide (1000<(cn:Int))))) (fun b hb hm=>by cases hb;have:=(HH.out.2.1 _ hm).1;omega)
  have hI:=HH.out.2.1.up (Nat.le_refl _) (grown_box wr w.heap.size (.slice (some ⟨wr.heap.size,0,none⟩) 1 1) (.int .i64 (0:Nat)) (.bool true) (.int .i64 0) (.bool (decide (1000<(cn:Int))))).size
  exact tOpe21
 obtain⟨j,rfl⟩:∃j,i=j+1:=⟨i-1,by omega⟩
 have hnj:=HN.out j oM
 obtain⟨d0,d1,d2,d3⟩:=HTT.out j oM _ B2.out
 by_cases hkj:(Pl.tq l j).k=110
 ·rw[hkj] at d0
  have HS:=zH (show (Pl.spn (Pl.rv l m)).2=(Pl.spn (Pl.rv l j)).2 by rw[hst.out,hnj,if_pos hkj])
  clear hnj hst HX HN c0 c1 c2 c3
  go_wp2_with fail
  go_round
  case rel=>exact⟨j,by omega,by go_num,HS⟩
  simp[intOf] <;> omega
 have hkb:((Pl.tq l j).k == 110)=false:=by simpa using hkj
 have HXI:=zH (HX.out (j+1) him (by rw[hst.out,hnj,if_neg hkj]))
 clear hnj hst HX HN c0 c1 c2 c3
 generalize (Pl.tq l j).k=kj at *
 go_wp2_with fail
 go_loopw [7,8] (fun v7 v8 wr=>∃(k:Nat) (F:List Nat),(j+1)<=k/\k<=m+1/\v8=.int .i64 k/\Hid (Own 3 1 Qi wr v7 (Pl.vals l (j+1) k) F/\Inb (w.heap.size+2) wr F/\Below (w.heap.size+2) ((w.alloc box0).alloc (.cells #[.int .u8 110,.string t.tx,.int .i64 t.v,.int .i64 t.pos] 37)) wr)) (fun _ v8 _=>m+1-(intOf v8).toNat)
 case atStart =>
  refine⟨(j+1),[w.heap.size+1+1],Nat.le_refl _,by omega,by go_num,?_,?_,?_⟩
  ·rw[HDR.out]
   exact Own.emp _ _ sI
  ·exact fun x hx=>by simp at hx ⊢;omega
  exact(Below.refl _ _).alloc sI _
 rename World=>wr
 obtain⟨k,F,hk1,hk2,rfl,HH⟩:=hrel
 obtain⟨ao7,cap7,e7⟩:=HH.out.1.slice
 rw[HLN.out _ _ oM] at e7
 subst e7
 have BX:=zH (B2.out.trans (HH.out.2.2.mono oM))
 have hsz:=HH.out.2.2.size
 simp at hsz
 by_cases hlt:k<m+1
 ·have hd:=HD.out (j+1) k oM hk1
  obtain⟨g0,g1,g2,g3⟩:=HTT.out k oM _ BX.out
  have hcl:=HLN.out (j+1) k oM
  generalize (Pl.tq l k).v=vk at *
  go_wp2_with (at_builtin;refine wpList_append_o el77 Qi.lives _ rfl _ _ rfl _ _ _ _ _ rfl rfl (Pl.vals l (j+1) k) [vk] F [] [.int .i64 vk] (w.heap.size+2) ?ho ?hi ?hy ?hG ?hn ?hd rfl rfl ?hc ?h1 ?hbd ?hB ?_)
  case ho=>exact HH.out.1.below Qi.lives HH.out.2.1 ((Below.refl _ _).alloc (Nat.le_refl _) _) (Nat.le_refl _)
  case hi=>exact HH.out.2.1.up (Nat.le_refl _) sI
  case hy=>exact Qi.row _ _
  case hG=>exact Inb.nil _ _
  case hn=>exact List.nodup_nil
  case hd=>simp
  case hc=>exact cells_new (l:=[.int .i64 vk]) rfl
  case h1=>simp[Value.oneCell']
  case hbd=>rw[hcl];simp;omega
  case hB=>simp;omega
  intro v9 w9 F9 ho9 hi9 hg9 _ _
  have H9:Hid (Own 3 1 Qi w9 v9 (Pl.vals l (j+1) (k+1)) F9/\Inb (w.heap.size+2) w9 F9/\Below (w.heap.size+2) ((w.alloc box0).alloc (.cells #[.int .u8 110,.string t.tx,.int .i64 t.v,.int .i64 t.pos] 37)) w9):=⟨by rw[hd];exact ho9,hi9,(HH.out.2.2.alloc oM _).grown hg9 (by simp;omega) (fun q hq=>(HH.out.2.1 q (HH.out.1.lt q hq).1).1)⟩
  clear ho9 hi9 hg9 HH BX
  go_wp2_with fail
  go_roundw
  case rel=>exact⟨k+1,F9,by omega,by omega,by go_num,H9⟩
  simp[intOf];omega
 obtain rfl:k=m+1:=by omega
 have hcl:=HLN.out (j+1) (m+1) oM
 have r0:=bcell HH.out.2.2 (b:=w.heap.size) (j:=0) oM uOpe21
 have r1:=bcell HH.out.2.2 (b:=w.heap.size) (j:=1) oM uOpe21
 have r2:=bcell HH.out.2.2 (b:=w.heap.size) (j:=2) oM uOpe21
 have r3:=bcell HH.out.2.2 (b:=w.heap.size) (j:=3) oM uOpe21
 have r4:=bcell HH.out.2.2 (b:=w.heap.size) (j:=4) oM uOpe21
 have rf:∀j,wr.frozen? ⟨w.heap.size,j,none⟩=false:=fun j=>bfroz HH.out.2.2 oM (by simp[go_sem])
 have hs2:w.heap.size<wr.heap.size:=by omega
 have hs3:¬w.heap.size=wr.heap.size:=by omega
 generalize hcn:m+1-(j+1)=cn at *
 have hcn2:cn<=1048576:=by omega
 go_wp2_with fail
 refine bodyPost_ret (v:=.agg #[.slice (some ⟨wr.heap.size,0,none⟩) 1 1,.int .i64 (j+1:Nat),.bool true,.int .i64 0,.bool (decide (1000<cn))]) (by simp[results,Tryz.results52,go_sem,r0,r1,r2,r3,r4,hs2];omega) rfl ⟨_,rfl,?_,?_⟩
 ·exact below_far BX.out (grown_alloc (grown_box _ _ _ _ _ _ _) _) oM (Nat.le_refl _)
 rw[HXI.out]
 have hO:=HH.out.1.grown Qi.lives HH.out.2.1 (grown_box wr w.heap.size (.slice (some ⟨wr.heap.size,0,none⟩) 1 1) (.int .i64 (j+1:Nat)) (.bool true) (.int .i64 0) (.bool (decide (1000<(cn:Int))))) (fun b hb hm=>by cases hb;have:=(HH.out.2.1 _ hm).1;omega)
 have hI:=HH.out.2.1.up (Nat.le_refl _) (grown_box wr w.heap.size (.slice (some ⟨wr.heap.size,0,none⟩) 1 1) (.int .i64 (j+1:Nat)) (.bool true) (.int .i64 0) (.bool (decide (1000<(cn:Int))))).size
 exact tOpe21
end Go.Proofs.YtbiiicbfpcfgdaaGreatDoor
