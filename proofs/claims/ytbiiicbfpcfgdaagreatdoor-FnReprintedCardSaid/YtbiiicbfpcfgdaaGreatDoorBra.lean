import Derived.Test.YtbiiicbfpcfgdaaGreatDoorFnb
namespace Go.Proofs.YtbiiicbfpcfgdaaGreatDoor
open Go.RowKit
set_option maxRecDepth 100000
set_option maxHeartbeats 16000000
set_option linter.unusedVariables false
theorem tBra1 {P:Prop}(h:P:=by
 clear hs' hst
 go_wp2_with (first | (go_at_call 31;with_reducible refine K1.out.mono ?_;rintro e w2 ⟨rfl,rfl⟩) | (go_at_call 31;with_reducible refine K2.out.mono ?_;rintro e w2 ⟨rfl,rfl⟩))
 refine(K3.out _ him (B0.out _)).mono ?_
 rintro e w2 ⟨v,rfl,hb2,hcr⟩
 obtain⟨ao2,n2,cap2,fr2,ok2,ne2,lo2,rfl⟩:=hcr.form
 have CR:=zH hcr
 have BW:=zH ((B0.out _).trans (hb2.mono (B0.out _).size))
 have r0:=bcell hb2 (b:=w.heap.size) (j:=0) sI (by simp[go_sem];rfl)
 have r1:=bcell hb2 (b:=w.heap.size) (j:=1) sI (by simp[go_sem];rfl)
 have r2:=bcell hb2 (b:=w.heap.size) (j:=2) sI (by simp[go_sem];rfl)
 have r3:=bcell hb2 (b:=w.heap.size) (j:=3) sI (by simp[go_sem];rfl)
 have r4:=bcell hb2 (b:=w.heap.size) (j:=4) sI (by simp[go_sem];rfl)
 have rf:∀j,w2.frozen? ⟨w.heap.size,j,none⟩=false:=fun j=>bfroz hb2 sI (by simp[go_sem])
 have hs2:w.heap.size<w2.heap.size:=by have:=hb2.size;simp at this;omega
 clear hb2 hcr K1 K2 K3
 go_wp2_with fail
 refine bodyPost_ret (v:=.agg #[.slice ao2 n2 cap2,.int .i64 i,.bool ok2,.int .i64 (wrap64 (ne2+1)),.bool lo2]) (by simp[results,Tryz.results79,go_sem,r0,r1,r2,r3,r4,hs2]) rfl ⟨_,rfl,below_far BW.out (grown_alloc (grown_box _ _ _ _ _ _ _) _) oM (Nat.le_refl _),?_⟩
 rw[HPX.out]
 have hz:=(CR.out.brk (HZ'.out him) i).far (p:=w.heap.size) (grown_alloc (grown_box w2 w.heap.size (.slice ao2 n2 cap2) (.int .i64 i) (.bool ok2) (.int .i64 (wrap64 (ne2+1))) (.bool lo2)) (.cells #[.slice ao2 n2 cap2,.int .i64 fr2,.bool ok2,.int .i64 ne2,.bool lo2] 75)) sI
 rw[show IntKind.i64.wrap (ne2+1)=wrap64 (ne2+1) from IntWalk.i64_left _] at hz
 exact hz.low (B':=w.heap.size) sI
 ):P:=h
theorem l3Bracket_of (n:Nat) (H:HE n) (l:List Pl.Tok) (ao:Option Addr) (cap hi:Nat) (w:World) (hl:l.length<=1048576) (hcap:l.length<=cap) (hcp:cap<=9223372036854775807) (h1:1<=hi) (h2:hi<=l.length) (hn:2 * hi<=n+1) (hk:∀t∈l,Pl.kOk t.k) (hR:RdK w.heap.size w ao l) (hrp:Pl.tkT (Pl.tq l (hi-1))=.rp) :
  Calls Tryz.prog 79 #[.slice ao l.length cap,.int .i64 hi] w fun e w'=>∃v,e=.returned v/\Below w.heap.size w w'/\CodeR w.heap.size w' v ((Pl.ropnd (n+1) (Pl.rv l hi)).map ofO):=by
 obtain⟨b,off,hbw,rfl,hc⟩:∃b off,b<w.heap.size/\ao=some ⟨b,off,none⟩/\True:=by
  rcases hR with rfl|⟨b,off,hb,e,_⟩
  ·simp at h2;omega
  exact⟨b,off,hb,e,trivial⟩
 clear hc
 obtain⟨m,rfl⟩:∃m,hi=m+1:=⟨hi-1,by omega⟩
 rw[Nat.add_sub_cancel] at hrp
 have HP:Hid (∀i,i<m->Pl.brk l (m+1) 0=some i->(Pl.ropnd (n+1) (Pl.rv l (m+1))).map ofO=((Pl.rexpr n (((l.take m).drop (i+1)).map Pl.tkT)).map ofE).map fun q=>(q.1,i,q.2.2.1+1,q.2.2.2)):=fun i him hb=>by
  have e:Pl.brk l (m+1) 0=Pl.brk l m (((0:Nat):Int)+1):=by rw[Pl.brk,hrp];rfl
  rw[e] at hb
  have hcut:=Pl.brk_cut l m 0 [] oM
  rw[hb] at hcut
  simp only[List.append_nil] at hcut
  rw[Pl.rv_succ oM,hrp,Pl.ropnd,hcut]
  simp only
  cases Pl.rexpr n (((l.take m).drop (i+1)).map Pl.tkT) with
  |none=>rfl
  |some e=>simp[ofO,ofE,Pl.O.code,Pl.O.nest,Pl.O.long,Pl.rv_len (show i<=l.length by omega)]
 have HN:Hid (Pl.brk l (m+1) 0=none->(Pl.ropnd (n+1) (Pl.rv l (m+1))).map ofO=none):=fun hb=>by
  have e:Pl.brk l (m+1) 0=Pl.brk l m (((0:Nat):Int)+1):=by rw[Pl.brk,hrp];rfl
  rw[e] at hb
  have hcut:=Pl.brk_cut l m 0 [] oM
  rw[hb] at hcut
  rw[Pl.rv_succ oM,hrp,Pl.ropnd,hcut]
  rfl
 have HM:Hid (∀i,Pl.brk l (m+1) 0=some i->i<m):=fun i hb=>by
  have e:Pl.brk l (m+1) 0=Pl.brk l m (((0:Nat):Int)+1):=by rw[Pl.brk,hrp];rfl
  rw[e] at hb
  exact Pl.brk_lt l m _ i hb
 have HS:Hid (∀j o,j<l.length->Pl.brk l (j+1) o=if o+((if Pl.isV l j ⟨#[41]⟩=true then 1 else 0)-(if Pl.isV l j ⟨#[40]⟩=true then 1 else 0))=0 then some j else Pl.brk l j (o+((if Pl.isV l j ⟨#[41]⟩=true then 1 else 0)-(if Pl.isV l j ⟨#[40]⟩=true then 1 else 0)))):=fun j o hj=>by
  rw[Pl.brk,(Pl.pm_is hk hj).1]
 have HX0:Hid (∀j,j<l.length->¬(Pl.isV l j ⟨#[41]⟩=true/\Pl.isV l j ⟨#[40]⟩=true)):=fun j hj=>(Pl.pm_is hk hj).2
 have HZ:Hid (∀i,i<m->∀q,(Pl.rexpr n (((l.take m).drop (i+1)).map Pl.tkT)).map ofE=some q->q.2.2.1<=1048576):=fun i hi q hq=>by
  cases he:Pl.rexpr n (((l.take m).drop (i+1)).map Pl.tkT) with
  |none=>rw[he] at hq;cases hq
  |some e =>
   rw[he] at hq
   cases hq
   have h1:=((Pl.rsound n).1 _ _ he).1
   have h2:=e.nest_len
   rw[<- h1] at h2
   simp at h2
   show e.nest<=_
   omega
 have KI:Hid (∀(j:Nat) (text:ByteArray) (W:World),Below w.heap.size w W->j<=1048576->Calls Tryz.prog 31 #[.slice (some ⟨b,off,none⟩) l.length cap,.int .i64 j,.string text] W fun e w'=>e=.returned (.bool (Pl.isV l j text))/\w'=W):=fun j text W hW h1 =>
  l3Is_any l _ cap j text W hl ⟨by omega,by omega⟩ ((hR.keep hW).up hW.size)
 have KE:Hid (∀(i:Nat) (W:World),i<m->Below w.heap.size w W->Calls Tryz.prog 33 #[.slice (some ⟨b,off+(i+1) * 4,none⟩) (m-(i+1)) (cap-(i+1))] W fun e w'=>∃v,e=.returned v/\Below W.heap.size W w'/\CodeR W.heap.size w' v ((Pl.rexpr n (((l.take m).drop (i+1)).map Pl.tkT)).map ofE)):=fun i W hi hW=>by
  have hlen:((l.take m).drop (i+1)).length=m-(i+1):=by simp;omega
  have:=H ((l.take m).drop (i+1)) (some ⟨b,off+(i+1) * 4,none⟩) (cap-(i+1)) W oM oM oM oM (fun t ht=>hk t (List.mem_of_mem_take (List.mem_of_mem_drop ht))) (((hR.keep hW).up hW.size).part (i+1) m)
  rw[hlen] at this
  exact this
 have B0:Hid (∀o,Below w.heap.size w (w.alloc o)):=fun o=>(Below.refl _ _).alloc (Nat.le_refl _) _
 clear hR H hrp
 generalize hQ:(Pl.ropnd (n+1) (Pl.rv l (m+1))).map ofO=Q at *
 clear hQ
 generalize hL:l.length=L at *
 rw[show ((m+1:Nat):Int)=(m:Int)+1 by omega]
 go_enter Tryz.func79,Tryz.ntmps79
 go_wp2_with fail
 go_loopw [5,6] (fun v5 v6 wr=>∃(j:Nat) (o:Int),wr=w.alloc (.cells #[.slice none 0 0,.int .i64 0,.bool false,.int .i64 0,.bool false] 75)/\j<=m+1/\v6=.int .i64 ((j:Int)-1)/\v5=.int .i64 o/\-1048577+(j:Int)<=o/\o<=1048577-j/\Hid (Pl.brk l (m+1) 0=Pl.brk l j o)) (fun _ v6 _=>((intOf v6)+1).toNat)
 case atStart=>exact⟨m+1,0,rfl,Nat.le_refl _,by go_num,rfl,by omega,by omega,rfl⟩
 obtain⟨j,o,rfl,hj,rfl,rfl,ho1,ho2,hst⟩:=hrel
 by_cases h0:j=0
 ·subst h0
  have HX:=zH (HN.out (by rw[hst.out];rfl))
  go_wp2_with fail
  refine bodyPost_ret (v:=.agg #[.slice none 0 0,.int .i64 0,.bool false,.int .i64 0,.bool false]) (by simp[results,Tryz.results79,go_sem]) rfl ⟨_,rfl,B0.out _,by rw[HX.out];exact CodeR.no _ _⟩
 obtain⟨i,rfl⟩:∃i,j=i+1:=⟨j-1,by omega⟩
 have hs:=HS.out i o oM
 have hx:=HX0.out i oM
 have K1:=zH (KI.out i ⟨#[41]⟩ _ (B0.out (.cells #[.slice none 0 0,.int .i64 0,.bool false,.int .i64 0,.bool false] 75)) oM)
 have K2:=zH (KI.out i ⟨#[40]⟩ _ (B0.out (.cells #[.slice none 0 0,.int .i64 0,.bool false,.int .i64 0,.bool false] 75)) oM)
 have K3:=zH (KE.out i)
 have HM':=zH (HM.out i)
 have HP':=zH (HP.out i)
 have HZ':=zH (HZ.out i)
 clear HS HX0 KI KE HM HP HN HZ
 generalize Pl.isV l i ⟨#[41]⟩=c1 at *
 generalize Pl.isV l i ⟨#[40]⟩=c2 at *
 cases c1
 rotate_left 1
 ·cases c2
  rotate_left 1
  ·exact absurd ⟨rfl,rfl⟩ hx
  have hs':Pl.brk l (i+1) o=if o+1=0 then some i else Pl.brk l i (o+1):=by rw[hs,show o+((if true=true then 1 else 0)-(if false=true then 1 else 0):Int)=o+1 by simp <;> omega]
  clear hs
  by_cases hz:o+1=0
  ·have hb:=zH (show Pl.brk l (m+1) 0=some i by rw[hst.out,hs',if_pos hz])
   have him:=HM'.out hb.out
   have HPX:=zH (HP'.out him hb.out)
   have hzb:((o+1) == (0:Int))=true:=by simpa using hz
   exact tBra1
  have hb:=zH (show Pl.brk l (m+1) 0=Pl.brk l i (o+1) by rw[hst.out,hs',if_neg hz])
  have hzb:((o+1) == (0:Int))=false:=by simpa using hz
  clear hs' hst
  go_wp2_with (first | (go_at_call 31;with_reducible refine K1.out.mono ?_;rintro e w2 ⟨rfl,rfl⟩) | (go_at_call 31;with_reducible refine K2.out.mono ?_;rintro e w2 ⟨rfl,rfl⟩))
  go_roundw
  case rel=>exact⟨i,o+1,by first | trivial | rfl,by omega,by go_num,by go_num,by omega,by omega,hb⟩
  simp[intOf] <;> omega
 cases c2
 ·have hs':Pl.brk l (i+1) o=if o=0 then some i else Pl.brk l i (o):=by rw[hs,show o+((if false=true then 1 else 0)-(if false=true then 1 else 0):Int)=o by simp <;> omega]
  clear hs
  by_cases hz:o=0
  ·have hb:=zH (show Pl.brk l (m+1) 0=some i by rw[hst.out,hs',if_pos hz])
   have him:=HM'.out hb.out
   have HPX:=zH (HP'.out him hb.out)
   have hzb:((o) == (0:Int))=true:=by simpa using hz
   exact tBra1
  have hb:=zH (show Pl.brk l (m+1) 0=Pl.brk l i (o) by rw[hst.out,hs',if_neg hz])
  have hzb:((o) == (0:Int))=false:=by simpa using hz
  clear hs' hst
  go_wp2_with (first | (go_at_call 31;with_reducible refine K1.out.mono ?_;rintro e w2 ⟨rfl,rfl⟩) | (go_at_call 31;with_reducible refine K2.out.mono ?_;rintro e w2 ⟨rfl,rfl⟩))
  go_roundw
  case rel=>exact⟨i,o,by first | trivial | rfl,by omega,by go_num,by go_num,by omega,by omega,hb⟩
  simp[intOf] <;> omega
 have hs':Pl.brk l (i+1) o=if o-1=0 then some i else Pl.brk l i (o-1):=by rw[hs,show o+((if false=true then 1 else 0)-(if true=true then 1 else 0):Int)=o-1 by simp <;> omega]
 clear hs
 by_cases hz:o-1=0
 ·have hb:=zH (show Pl.brk l (m+1) 0=some i by rw[hst.out,hs',if_pos hz])
  have him:=HM'.out hb.out
  have HPX:=zH (HP'.out him hb.out)
  have hzb:((o-1) == (0:Int))=true:=by simpa using hz
  exact tBra1
 have hb:=zH (show Pl.brk l (m+1) 0=Pl.brk l i (o-1) by rw[hst.out,hs',if_neg hz])
 have hzb:((o-1) == (0:Int))=false:=by simpa using hz
 clear hs' hst
 go_wp2_with (first | (go_at_call 31;with_reducible refine K1.out.mono ?_;rintro e w2 ⟨rfl,rfl⟩) | (go_at_call 31;with_reducible refine K2.out.mono ?_;rintro e w2 ⟨rfl,rfl⟩))
 go_roundw
 case rel=>exact⟨i,o-1,by first | trivial | rfl,by omega,by go_num,by go_num,by omega,by omega,hb⟩
 simp[intOf] <;> omega
end Go.Proofs.YtbiiicbfpcfgdaaGreatDoor
