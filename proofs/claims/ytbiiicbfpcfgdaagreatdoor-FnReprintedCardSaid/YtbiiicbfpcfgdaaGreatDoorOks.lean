import Derived.Test.YtbiiicbfpcfgdaaGreatDoorSzk
namespace Go.Proofs.YtbiiicbfpcfgdaaGreatDoor
open Go.RowKit
set_option maxRecDepth 100000
set_option maxHeartbeats 16000000
set_option linter.unusedVariables false
namespace Pl
def hitB (f:Fnv) (m:Mg):Bool:=decide (f=m.one) || decide (f=m.two)
theorem sgn_hit {f:Fnv}{k:Nat}{m:Mg}(hk:mgs[k]? = some m) (hb:∀x∈mgs.take k,hitB f x=false) (hm:hitB f m=true):sgn f=m.t:=by
 unfold sgn
 have hlt:=(List.getElem?_eq_some_iff.1 hk).1
 have e:mgs=mgs.take k++m::mgs.drop (k+1):=by
  have:=(List.take_append_drop k mgs).symm
  rw[List.drop_eq_getElem_cons hlt] at this
  rw[(List.getElem?_eq_some_iff.1 hk).2] at this
  exact this
 have:mgs.find? (fun m=>decide (f=m.one) || decide (f=m.two))=some m:=by
  rw[e,List.find?_append]
  have h0:(mgs.take k).find? (fun m=>decide (f=m.one) || decide (f=m.two))=none:=by
   rw[List.find?_eq_none]
   intro x hx
   have:=hb x hx
   unfold hitB at this
   rw[this];decide
  rw[h0]
  unfold hitB at hm
  simp[hm]
 rw[this]
theorem sgn_miss {f:Fnv}(hb:∀x∈mgs.take 25,hitB f x=false):sgn f=[]:=by
 have h0:mgs.find? (fun m=>decide (f=m.one) || decide (f=m.two))=none:=by
  rw[List.find?_eq_none]
  intro x hx
  have:mgs.take 25=mgs:=rfl
  rw[this] at hb
  have:=hb x hx
  unfold hitB at this
  rw[this];decide
 unfold sgn
 rw[h0]
theorem hit_next {f:Fnv}{k:Nat}{m:Mg}(hk:mgs[k]? = some m) (hb:∀x∈mgs.take k,hitB f x=false) (hm:hitB f m=false):∀x∈mgs.take (k+1),hitB f x=false:=by
 intro x hx
 rw[List.take_add_one,hk] at hx
 rcases List.mem_append.1 hx with h|h
 ·exact hb x h
 have:x=m:=by simpa using h
 rw[this];exact hm
theorem one_iff (f:Fnv) (m:Mg):decide (f=m.one)=(decide (f.k=m.ok) && decide (f.a=m.ow) && decide (f.b=0) && decide (ba f.nm=⟨#[]⟩)):=by
 obtain⟨k,a,b,nm⟩:=f
 rw[Bool.eq_iff_iff]
 have:ba nm=⟨#[]⟩ ↔ nm=[]:=by rw[ba_iff];exact Iff.rfl
 simp only[Mg.one,Fnv.mk.injEq,decide_eq_true_eq,Bool.and_eq_true,this]
 exact⟨fun ⟨a,b,c,d⟩=>⟨⟨⟨a,b⟩,c⟩,d⟩,fun ⟨⟨⟨a,b⟩,c⟩,d⟩=>⟨a,b,c,d⟩⟩
theorem two_iff (f:Fnv) (m:Mg):decide (f=m.two)=(decide (f.k=m.tk) && decide (f.a=m.tw) && decide (f.b=0) && decide (ba f.nm=⟨#[]⟩)):=by
 obtain⟨k,a,b,nm⟩:=f
 rw[Bool.eq_iff_iff]
 have:ba nm=⟨#[]⟩ ↔ nm=[]:=by rw[ba_iff];exact Iff.rfl
 simp only[Mg.two,Fnv.mk.injEq,decide_eq_true_eq,Bool.and_eq_true,this]
 exact⟨fun ⟨a,b,c,d⟩=>⟨⟨⟨a,b⟩,c⟩,d⟩,fun ⟨⟨⟨a,b⟩,c⟩,d⟩=>⟨a,b,c,d⟩⟩
end Pl
theorem signOf_any (f:Pl.Fnv) (mb mo cp:Nat) (w:World) (hm:Mt w mb mo cp) :
  Calls Tryz.prog 127 #[.agg #[.int .i64 f.k,.int .i64 f.a,.int .i64 f.b,.string (Pl.ba f.nm)]] w fun e w'=>e=.returned (.string (Pl.ba (Pl.sgn f)))/\Below w.heap.size w w':=by
 obtain⟨h1,h2,h3,h4,h5⟩:=hm
 have HT:=zH h4
 clear h4 h5
 have HSH:=fun k m=>@Pl.sgn_hit f k m
 have HSM:=@Pl.sgn_miss f
 have HNX:=fun k m=>@Pl.hit_next f k m
 have HE1:Hid (∀(m:Pl.Mg) (w:World),(Op.equalIn 10000 88 (.agg #[.int .i64 f.k,.int .i64 f.a,.int .i64 f.b,.string (Pl.ba f.nm)]) (.agg #[.int .i64 m.ok,.int .i64 m.ow,.int .i64 0,.string ⟨#[]⟩])).run Tryz.prog w=.ok (decide (f=m.one)) w):=fun m w=>by rw[Pl.one_iff];exact eq78 _ _ _ _ _ _ _ _ w
 have HE2:Hid (∀(m:Pl.Mg) (w:World),(Op.equalIn 10000 88 (.agg #[.int .i64 f.k,.int .i64 f.a,.int .i64 f.b,.string (Pl.ba f.nm)]) (.agg #[.int .i64 m.tk,.int .i64 m.tw,.int .i64 0,.string ⟨#[]⟩])).run Tryz.prog w=.ok (decide (f=m.two)) w):=fun m w=>by rw[Pl.two_iff];exact eq78 _ _ _ _ _ _ _ _ w
 have HSH:=zH HSH
 have HSM:=zH HSM
 have HNX:=zH HNX
 generalize Pl.sgn f=sg at *
 generalize Pl.ba f.nm=nm at *
 generalize f.k=fk at *
 generalize f.a=fa at *
 generalize f.b=fb at *
 obtain⟨W0,hW0⟩:∃W0,w.alloc (.cells #[.int .i64 fk,.int .i64 fa,.int .i64 fb,.string nm] 88)=W0:=⟨_,rfl⟩
 have HS0:Hid (W0.heap.size=w.heap.size+1):=by show _=_;rw[<- hW0];simp
 have HB0:Hid (Below w.heap.size w W0):=by show Below _ _ _;rw[<- hW0];exact(Below.refl _ _).alloc (Nat.le_refl _) _
 have HK0:Hid (W0.heap[w.heap.size]? = some (.cells #[.int .i64 fk,.int .i64 fa,.int .i64 fb,.string nm] 88)):=by show _=_;rw[<- hW0];exact heap_alloc_new w _
 have g0:∀o,(w.alloc o).cell? ⟨1,0,none⟩=some (.slice (some ⟨mb,mo,none⟩) 25 cp):=fun o=>(((Below.refl w.heap.size w).alloc (Nat.le_refl _) o).cell (p:=⟨1,0,none⟩) (show 1<w.heap.size by omega)).trans h1
 have HW0:=zH hW0
 have HR0:Hid (Below (w.heap.size+1) W0 W0):=Below.refl _ _
 clear hW0
 have HC:Hid (∀k m wr,Pl.mgs[k]? = some m->Below (w.heap.size+1) W0 wr->wr.cell? ⟨mb,mo+k * 5,none⟩=some (.string (Pl.ba m.t))/\wr.cell? ⟨mb,mo+k * 5+1,none⟩=some (.int .i64 m.ok)/\wr.cell? ⟨mb,mo+k * 5+2,none⟩=some (.int .i64 m.ow)/\wr.cell? ⟨mb,mo+k * 5+3,none⟩=some (.int .i64 m.tk)/\wr.cell? ⟨mb,mo+k * 5+4,none⟩=some (.int .i64 m.tw)):=fun k m wr hk hb=>by
  obtain⟨a,b,c,d,e⟩:=HT.out k m hk
  have hb':Below w.heap.size w wr:=HB0.out.trans (hb.mono (Nat.le_succ _))
  exact⟨(hb'.cell (p:=⟨mb,mo+k * 5,none⟩) h2).trans a,(hb'.cell (p:=⟨mb,mo+k * 5+1,none⟩) h2).trans b,(hb'.cell (p:=⟨mb,mo+k * 5+2,none⟩) h2).trans c,(hb'.cell (p:=⟨mb,mo+k * 5+3,none⟩) h2).trans d,(hb'.cell (p:=⟨mb,mo+k * 5+4,none⟩) h2).trans e⟩
 clear HT h1 h2 h3
 go_enter Tryz.func127,Tryz.ntmps127
 go_wp2_with fail
 rw[HW0.out]
 go_loopw [8] (fun v wr=>∃k:Nat,k<=25/\v=.int .i64 k/\Hid (∀x∈Pl.mgs.take k,Pl.hitB f x=false)/\Hid (Below (w.heap.size+1) W0 wr)) (fun v _=>25-(intOf v).toNat)
 case atStart=>exact⟨0,by omega,rfl,fun x hx=>by simp at hx,HR0⟩
 obtain⟨k,hk,rfl,hno,hbx⟩:=hrel
 have hsz:w.heap.size+1<=wr.heap.size:=by have:=hbx.out.size;have:=HS0.out;omega
 by_cases hlt:k<25
 rotate_left 1
 ·obtain rfl:k=25:=by omega
  have HN:=zH (HSM.out hno.out)
  have HBW:=zH (HB0.out.trans (hbx.out.mono (Nat.le_succ _)))
  clear HC HE1 HE2 HSH HNX HSM hno
  go_wp2_with fail
  go_ret
  exact⟨ret_str (by rw[HN.out];rfl),HBW.out⟩
 obtain⟨m,hm⟩:=Pl.mgs_some k hlt
 obtain⟨c0,c1,c2,c3,c4⟩:=HC.out k m wr hm hbx.out
 have K:=zH (uses_any (Pl.ba m.t) m.ok m.ow m.tk m.tw)
 have hq1:=HE1.out m
 have hq2:=HE2.out m
 have HIT:=zH (HSH.out k m hm hno.out)
 have MISS:=zH (HNX.out k m hm hno.out)
 have HDF:Hid (Pl.hitB f m=(decide (f=m.one) || decide (f=m.two))):=rfl
 have HBX:Hid (∀o w',Below (wr.alloc o).heap.size (wr.alloc o) w'->w'.heap[w.heap.size]? = some (.cells #[.int .i64 fk,.int .i64 fa,.int .i64 fb,.string nm] 88)/\Below (w.heap.size+1) W0 w'/\wr.heap.size<w'.heap.size/\∀j v,(wr.alloc o).cell? ⟨wr.heap.size,j,none⟩=some v->w'.cell? ⟨wr.heap.size,j,none⟩=some v):=fun o w' hb=>by
  have hb2:Below (w.heap.size+1) W0 w':=(hbx.out.alloc hsz o).trans (hb.mono (by simp;omega))
  exact⟨(hb2.block w.heap.size (Nat.lt_succ_self _)).trans HK0.out,hb2,Nat.lt_of_lt_of_le sI hb.size,fun j v h=>(hb.cell (p:=⟨wr.heap.size,j,none⟩) sI).trans h⟩
 clear HC HE1 HE2 HSH HNX HSM hm
 generalize hmt:Pl.ba m.t=t at *
 have HMT:=zH hmt
 clear hmt
 generalize decide (f=m.one)=d1 at *
 generalize decide (f=m.two)=d2 at *
 go_wp2_with fail
 refine(K.out _).mono ?_
 rintro e w2 ⟨rfl,hb2⟩
 obtain⟨hblk,hbw,hlt2,hcc⟩:=HBX.out _ _ hb2
 have y0:=hcc 0 _ (by simp[go_sem];rfl)
 have z0:=cell_blk hblk 0
 have z1:=cell_blk hblk 1
 have z2:=cell_blk hblk 2
 have z3:=cell_blk hblk 3
 simp at z0 z1 z2 z3
 have HBW:=zH hbw
 have y0':∀o,(w2.alloc o).cell? ⟨wr.heap.size,0,none⟩=some (.string t):=fun o=>(((Below.refl w2.heap.size w2).alloc (Nat.le_refl _) o).cell (p:=⟨wr.heap.size,0,none⟩) hlt2).trans y0
 have hws:w.heap.size<w2.heap.size:=by omega
 have AL:Hid (∀o j v,w2.cell? ⟨w.heap.size,j,none⟩=some v->(w2.alloc o).cell? ⟨w.heap.size,j,none⟩=some v):=fun o j v h=>(((Below.refl w2.heap.size w2).alloc (Nat.le_refl _) o).cell (p:=⟨w.heap.size,j,none⟩) hws).trans h
 have z0':=fun o=>AL.out o 0 _ z0
 have z1':=fun o=>AL.out o 1 _ z1
 have z2':=fun o=>AL.out o 2 _ z2
 have z3':=fun o=>AL.out o 3 _ z3
 have HBA:Hid (∀o,Below (w.heap.size+1) W0 (w2.alloc o)):=fun o=>HBW.out.alloc oM o
 clear hb2 hblk hbw hcc y0 z0 z1 z2 z3
 cases d1
 ·cases d2
  ·have HN:=zH (MISS.out (by rw[HDF.out];rfl))
   go_wp2_with fail
   go_roundw
   case rel=>exact⟨k+1,by omega,by go_num,HN.out,HBA.out _⟩
   simp[intOf];omega
  have HN:=zH (HIT.out (by rw[HDF.out];rfl))
  go_wp2_with fail
  go_ret
  exact⟨ret_str (by rw[HN.out,HMT.out]),HB0.out.trans ((HBA.out _).mono (Nat.le_succ _))⟩
 have HN:=zH (HIT.out (by rw[HDF.out];rfl))
 go_wp2_with fail
 go_ret
 exact⟨ret_str (by rw[HN.out,HMT.out]),HB0.out.trans ((HBA.out _).mono (Nat.le_succ _))⟩
theorem operationSign_any (n:Int) (mb mo cp:Nat) (w:World) (hm:Mt w mb mo cp) :
  Calls Tryz.prog 126 #[.int .i64 n] w fun e w'=>e=.returned (.string (Pl.ba (Pl.osg n)))/\Below w.heap.size w w':=by
 have K:Hid (Calls Tryz.prog 127 #[.agg #[.int .i64 5,.int .i64 n,.int .i64 0,.string ⟨#[]⟩]] w fun e w'=>e=.returned (.string (Pl.ba (Pl.osg n)))/\Below w.heap.size w w'):=signOf_any ⟨5,n,0,[]⟩ mb mo cp w hm
 clear hm
 generalize Pl.ba (Pl.osg n)=r at *
 go_enter Tryz.func126,Tryz.ntmps126
 go_wp2_with (go_at_call 127;refine K.out.mono ?_;rintro e w' ⟨rfl,hb⟩)
 go_ret
 exact⟨rfl,hb⟩
theorem uOks1 {P:Prop}(h:P:=by simp[go_sem];rfl):P:=h
namespace Pl
theorem call_iff (f:Fnv):decide (f=⟨10,0,0,f.nm⟩)=(decide (f.k=10) && decide (f.a=0) && decide (f.b=0) && decide (ba f.nm=ba f.nm)):=by
 obtain⟨k,a,b,nm⟩:=f
 rw[Bool.eq_iff_iff]
 simp only[Fnv.mk.injEq,decide_eq_true_eq,Bool.and_eq_true]
 exact⟨fun ⟨a,b,c,d⟩=>⟨⟨⟨a,b⟩,c⟩,trivial⟩,fun ⟨⟨⟨a,b⟩,c⟩,d⟩=>⟨a,b,c,trivial⟩⟩
theorem der_iff (f:Fnv):decide (f=⟨f.k,f.a,0,[]⟩)=(decide (f.k=f.k) && decide (f.a=f.a) && decide (f.b=0) && decide (ba f.nm=⟨#[]⟩)):=by
 obtain⟨k,a,b,nm⟩:=f
 rw[Bool.eq_iff_iff]
 have:ba nm=⟨#[]⟩ ↔ nm=[]:=by rw[ba_iff];exact Iff.rfl
 simp only[Fnv.mk.injEq,decide_eq_true_eq,Bool.and_eq_true,this]
 exact⟨fun ⟨a,b,c,d⟩=>⟨⟨⟨a,b⟩,c⟩,d⟩,fun ⟨⟨⟨a,b⟩,c⟩,d⟩=>⟨a,b,c,d⟩⟩
end Pl
theorem numsOk_any (l:List Int) (ao:Option Addr) (cap B:Nat) (w:World) (hr:RdI B w ao l) (hl:l.length<=1048576) :
  Calls Tryz.prog 120 #[.slice ao l.length cap] w fun e w'=>e=.returned (.bool (Pl.numsB l))/\w'=w:=by
 have HP:Hid (∀k x,l[k]? = some x->Pl.pre l (k+1)=(Pl.pre l k && Pl.inB x)):=fun k x=>Pl.pre_succ
 have HQ:Hid (∀k x,l[k]? = some x->Pl.inB x=false->Pl.numsB l=false):=fun k x=>Pl.pre_bad
 have HA:Hid (∀k,k=l.length->Pl.pre l k=true->Pl.numsB l=(decide (1<=l.length) && decide (l.length<=1000))):=fun k=>Pl.pre_all
 have HI:Hid (∀k,k<l.length->∃x,l[k]? = some x/\l ≠ []):=fun k hk=>⟨l[k],List.getElem?_eq_getElem hk,fun e=>by rw[e] at hk;cases hk⟩
 have HRd:=zH hr
 clear hr
 generalize Pl.numsB l=r at *
 generalize hL:l.length=L at *
 clear hL
 go_enter Tryz.func120,Tryz.ntmps120
 go_wp2
 go_loop [7] (fun v=>∃k:Nat,k<=L/\v=.int .i64 k/\Hid (Pl.pre l k=true)) (fun v=>L-(intOf v).toNat)
 case atStart=>exact⟨0,Nat.zero_le _,rfl,rfl⟩
 obtain⟨j,hj,rfl,hst⟩:=hrel
 by_cases hlt:j<L
 ·obtain⟨x,hx,hne⟩:=HI.out j hlt
  have S:=zH (HP.out j x hx)
  have Q:=zH (HQ.out j x hx)
  obtain⟨b,off,hb,rfl,hc⟩:=HRd.out.resolve_left hne
  have hcell:=hc j x hx
  have K:Hid (∀w,Calls Tryz.prog 85 #[.int .i64 x] w fun e w'=>e=.returned (.bool (Pl.inB x))/\w'=w):=valueFits_any x
  clear hc HRd HI HP HQ HA hx hne
  cases hq:Pl.inB x
  ·rw[hq] at K
   have HR:=zH (Q.out hq)
   clear hq
   go_wp2_with (go_at_call 85;refine(K.out _).mono ?_;rintro e w' ⟨rfl,rfl⟩)
   go_ret
   exact⟨ret_bool HR.out.symm,rfl⟩
  rw[hq] at K S
  have HR:=zH (show Pl.pre l (j+1)=true by rw[S.out,hst.out];rfl)
  clear hq
  go_wp2_with (go_at_call 85;refine(K.out _).mono ?_;rintro e w' ⟨rfl,rfl⟩)
  go_round
  case rel=>exact⟨j+1,by omega,by go_num,HR.out⟩
  simp[intOf];omega
 obtain rfl:j=L:=by omega
 have HF:=zH (show r=(decide (1<=j) && decide (j<=1000)) by rw[HA.out j rfl hst.out])
 clear HRd HI HP HQ HA
 by_cases g1:1<=j
 ·have HR:=zH (show r=decide (j<=1000) by rw[HF.out];simp[g1])
  go_wp2
  go_ret
  exact⟨ret_bool (by rw[HR.out,Bool.eq_iff_iff];simp only[decide_eq_true_eq];omega),rfl⟩
 have HR:=zH (show r=false by rw[HF.out];simp[g1])
 go_wp2
 go_ret
 exact⟨ret_bool HR.out.symm,rfl⟩
theorem tOks2 {P:Prop}(h:P:=by
 go_ret
 exact ret_below HR.out ((HB.out _).trans (hb2.mono sI))
 ):P:=h
theorem callOk_any (f:Pl.Fnv) (mb mo cp:Nat) (w:World) (hm:Mt w mb mo cp) (hl:f.nm.length<=1048576) :
  Calls Tryz.prog 128 #[.agg #[.int .i64 f.k,.int .i64 f.a,.int .i64 f.b,.string (Pl.ba f.nm)]] w fun e w'=>e=.returned (.bool (Pl.callB f))/\Below w.heap.size w w':=by
 have HB:Hid (∀o,Below w.heap.size w (w.alloc o)):=fun o=>(Below.refl _ _).alloc (Nat.le_refl _) _
 have K:Hid (∀o,Calls Tryz.prog 62 #[.string (Pl.ba f.nm)] (w.alloc o) fun e w'=>e=.returned (.int .i64 (Pl.wk f.nm))/\Below (w.alloc o).heap.size (w.alloc o) w'):=fun o=>wordKind_any (Pl.ba f.nm) mb mo cp (w.alloc o) (hm.keep (HB.out o)) (by rw[Pl.ba_size];omega)
 have heq:=eq78 f.k f.a f.b 10 0 0 (Pl.ba f.nm) (Pl.ba f.nm)
 rw[<- Pl.call_iff] at heq
 have HF:Hid (Pl.callB f=(decide (Pl.wk f.nm=3) && decide (f=⟨10,0,0,f.nm⟩))):=rfl
 have C:Hid (∀(w1 w':World) (j:Nat) (v:Value),Below w1.heap.size w1 w'->w.heap.size<w1.heap.size->w1.cell? ⟨w.heap.size,j,none⟩=some v->w'.cell? ⟨w.heap.size,j,none⟩=some v):=fun w1 w' j v hb h1 h=>(hb.cell (p:=⟨w.heap.size,j,none⟩) h1).trans h
 clear hm
 generalize decide (f=⟨10,0,0,f.nm⟩)=q at *
 generalize Pl.callB f=r at *
 generalize Pl.wk f.nm=z at *
 generalize Pl.ba f.nm=nm at *
 generalize f.k=fk at *
 generalize f.a=fa at *
 generalize f.b=fb at *
 by_cases hz:z=3
 ·subst hz
  have HR:=zH (show r=q by rw[HF.out];simp)
  go_enter Tryz.func128,Tryz.ntmps128
  go_wp2_with fail
  refine(K.out _).mono ?_
  rintro e w2 ⟨rfl,hb2⟩
  have d0:=C.out _ _ 0 _ hb2 sI uOks1
  have d1:=C.out _ _ 1 _ hb2 sI uOks1
  have d2:=C.out _ _ 2 _ hb2 sI uOks1
  have d3:=C.out _ _ 3 _ hb2 sI uOks1
  have HBB:=zH ((HB.out _).trans (hb2.mono sI))
  clear hb2
  go_wp2_with fail
  go_ret
  exact ret_below HR.out HBB.out
 have hzb:(z == 3)=false:=by simp[hz]
 have HR:=zH (show r=false by rw[HF.out];simp[hz])
 clear hz
 go_enter Tryz.func128,Tryz.ntmps128
 go_wp2_with (go_at_call 62;refine(K.out _).mono ?_;rintro e w2 ⟨rfl,hb2⟩)
 exact tOks2
theorem tOks1 {P:Prop}(h:P:=by
 go_wp2_with fail
 refine(KO.out _).mono ?_
 rintro e w2 ⟨rfl,hb2⟩
 have d0:=C.out _ _ 0 _ hb2 sI uOks1
 have d1:=C.out _ _ 1 _ hb2 sI uOks1
 have d2:=C.out _ _ 2 _ hb2 sI uOks1
 have d3:=C.out _ _ 3 _ hb2 sI uOks1
 have HBB:=zH ((HB.out _).trans (hb2.mono sI))
 clear hb2
 go_wp2_with fail
 go_ret
 exact ret_below (HR.out.trans sI) HBB.out
 ):P:=h
theorem tOks3 {P:Prop}(h:P:=by
 have HR:=zH (show r=!ns by rw[HF.out];simp)
 cases ns
 all_goals
  go_enter Tryz.func121,Tryz.ntmps121
  go_wp2_with (go_at_call 127;refine(KS.out _).mono ?_;rintro e w2 ⟨rfl,hb2⟩)
  exact tOks2
 ):P:=h
theorem tOks4 {P:Prop}(h:P:=by
 have HR:=zH (show r=(!no && q) by rw[HF.out];simp)
 cases no
 ·go_enter Tryz.func121,Tryz.ntmps121
  exact tOks1
 ·go_enter Tryz.func121,Tryz.ntmps121
  go_wp2_with (go_at_call 126;refine(KO.out _).mono ?_;rintro e w2 ⟨rfl,hb2⟩)
  exact tOks2
 ):P:=h
theorem oneOk_any (f:Pl.Fnv) (mb mo cp:Nat) (w:World) (hm:Mt w mb mo cp) (hl:f.nm.length<=1048576) :
  Calls Tryz.prog 121 #[.agg #[.int .i64 f.k,.int .i64 f.a,.int .i64 f.b,.string (Pl.ba f.nm)]] w fun e w'=>e=.returned (.bool (Pl.oneB f))/\Below w.heap.size w w':=by
 have HB:Hid (∀o,Below w.heap.size w (w.alloc o)):=fun o=>(Below.refl _ _).alloc (Nat.le_refl _) _
 have KC:Hid (∀o,Calls Tryz.prog 128 #[.agg #[.int .i64 f.k,.int .i64 f.a,.int .i64 f.b,.string (Pl.ba f.nm)]] (w.alloc o) fun e w'=>e=.returned (.bool (Pl.callB f))/\Below (w.alloc o).heap.size (w.alloc o) w'):=fun o=>callOk_any f mb mo cp (w.alloc o) (hm.keep (HB.out o)) hl
 have KS:Hid (∀o,Calls Tryz.prog 127 #[.agg #[.int .i64 f.k,.int .i64 f.a,.int .i64 f.b,.string (Pl.ba f.nm)]] (w.alloc o) fun e w'=>e=.returned (.string (Pl.ba (Pl.sgn f)))/\Below (w.alloc o).heap.size (w.alloc o) w'):=fun o=>signOf_any f mb mo cp (w.alloc o) (hm.keep (HB.out o))
 have KO:Hid (∀o,Calls Tryz.prog 126 #[.int .i64 f.a] (w.alloc o) fun e w'=>e=.returned (.string (Pl.ba (Pl.osg f.a)))/\Below (w.alloc o).heap.size (w.alloc o) w'):=fun o=>operationSign_any f.a mb mo cp (w.alloc o) (hm.keep (HB.out o))
 have KO2:Hid (∀w',Below w.heap.size w w'->Calls Tryz.prog 126 #[.int .i64 f.b] w' fun e w2=>e=.returned (.string (Pl.ba (Pl.osg f.b)))/\Below w'.heap.size w' w2):=fun w' h=>operationSign_any f.b mb mo cp w' (hm.keep h)
 have hqs:=ba_beq (Pl.sgn f)
 have hqo:=ba_beq (Pl.osg f.a)
 have hqo2:=ba_beq (Pl.osg f.b)
 have hqn:=ba_beq f.nm
 have heq:=eq78 f.k f.a f.b f.k f.a 0 (Pl.ba f.nm) ⟨#[]⟩
 rw[<- Pl.der_iff] at heq
 have C:Hid (∀(w1 w':World) (j:Nat) (v:Value),Below w1.heap.size w1 w'->w.heap.size<w1.heap.size->w1.cell? ⟨w.heap.size,j,none⟩=some v->w'.cell? ⟨w.heap.size,j,none⟩=some v):=fun w1 w' j v hb h1 h=>(hb.cell (p:=⟨w.heap.size,j,none⟩) h1).trans h
 have HF:Hid (Pl.oneB f=if f.k=1\/f.k=2\/f.k=9 then !(decide (Pl.sgn f=[])) else if f.k=3\/f.k=4 then !(decide (Pl.osg f.a=[])) && decide (f=⟨f.k,f.a,0,[]⟩) else Pl.callB f):=by
  show _=_
  unfold Pl.oneB
  simp
 clear hm
 generalize Pl.oneB f=r at *
 generalize Pl.callB f=cb at *
 generalize decide (f=⟨f.k,f.a,0,[]⟩)=q at *
 generalize decide (Pl.sgn f=[])=ns at *
 generalize decide (Pl.osg f.a=[])=no at *
 generalize decide (Pl.osg f.b=[])=no2 at *
 generalize decide (f.nm=[])=nn at *
 generalize Pl.ba (Pl.sgn f)=ss at *
 generalize Pl.ba (Pl.osg f.a)=so at *
 generalize Pl.ba (Pl.osg f.b)=so2 at *
 generalize Pl.ba f.nm=nm at *
 generalize f.k=fk at *
 generalize f.a=fa at *
 generalize f.b=fb at *
 by_cases k1:fk=1
 ·subst k1
  exact tOks3
 have f1:(fk == 1)=false:=by simp[k1]
 by_cases k2:fk=2
 ·subst k2
  clear f1 k1
  exact tOks3
 have f2:(fk == 2)=false:=by simp[k2]
 by_cases k9:fk=9
 ·subst k9
  clear f1 k1 f2 k2
  exact tOks3
 have f9:(fk == 9)=false:=by simp[k9]
 by_cases k3:fk=3
 ·subst k3
  clear f1 k1 f2 k2 f9 k9
  exact tOks4
 have f3:(fk == 3)=false:=by simp[k3]
 by_cases k4:fk=4
 ·subst k4
  clear f1 k1 f2 k2 f9 k9 f3 k3
  exact tOks4
 have f4:(fk == 4)=false:=by simp[k4]
 have HR:=zH (show r=cb by rw[HF.out];simp[k1,k2,k9,k3,k4])
 clear k1 k2 k9 k3 k4
 go_enter Tryz.func121,Tryz.ntmps121
 go_wp2_with (go_at_call 128;refine(KC.out _).mono ?_;rintro e w2 ⟨rfl,hb2⟩)
 exact tOks2
theorem twoOk_any (f:Pl.Fnv) (mb mo cp:Nat) (w:World) (hm:Mt w mb mo cp) (hl:f.nm.length<=1048576) :
  Calls Tryz.prog 122 #[.agg #[.int .i64 f.k,.int .i64 f.a,.int .i64 f.b,.string (Pl.ba f.nm)]] w fun e w'=>e=.returned (.bool (Pl.twoB f))/\Below w.heap.size w w':=by
 have HB:Hid (∀o,Below w.heap.size w (w.alloc o)):=fun o=>(Below.refl _ _).alloc (Nat.le_refl _) _
 have KC:Hid (∀o,Calls Tryz.prog 128 #[.agg #[.int .i64 f.k,.int .i64 f.a,.int .i64 f.b,.string (Pl.ba f.nm)]] (w.alloc o) fun e w'=>e=.returned (.bool (Pl.callB f))/\Below (w.alloc o).heap.size (w.alloc o) w'):=fun o=>callOk_any f mb mo cp (w.alloc o) (hm.keep (HB.out o)) hl
 have KS:Hid (∀o,Calls Tryz.prog 127 #[.agg #[.int .i64 f.k,.int .i64 f.a,.int .i64 f.b,.string (Pl.ba f.nm)]] (w.alloc o) fun e w'=>e=.returned (.string (Pl.ba (Pl.sgn f)))/\Below (w.alloc o).heap.size (w.alloc o) w'):=fun o=>signOf_any f mb mo cp (w.alloc o) (hm.keep (HB.out o))
 have KO:Hid (∀o,Calls Tryz.prog 126 #[.int .i64 f.a] (w.alloc o) fun e w'=>e=.returned (.string (Pl.ba (Pl.osg f.a)))/\Below (w.alloc o).heap.size (w.alloc o) w'):=fun o=>operationSign_any f.a mb mo cp (w.alloc o) (hm.keep (HB.out o))
 have KO2:Hid (∀w',Below w.heap.size w w'->Calls Tryz.prog 126 #[.int .i64 f.b] w' fun e w2=>e=.returned (.string (Pl.ba (Pl.osg f.b)))/\Below w'.heap.size w' w2):=fun w' h=>operationSign_any f.b mb mo cp w' (hm.keep h)
 have hqs:=ba_beq (Pl.sgn f)
 have hqo:=ba_beq (Pl.osg f.a)
 have hqo2:=ba_beq (Pl.osg f.b)
 have hqn:=ba_beq f.nm
 have heq:=eq78 f.k f.a f.b f.k f.a 0 (Pl.ba f.nm) ⟨#[]⟩
 rw[<- Pl.der_iff] at heq
 have C:Hid (∀(w1 w':World) (j:Nat) (v:Value),Below w1.heap.size w1 w'->w.heap.size<w1.heap.size->w1.cell? ⟨w.heap.size,j,none⟩=some v->w'.cell? ⟨w.heap.size,j,none⟩=some v):=fun w1 w' j v hb h1 h=>(hb.cell (p:=⟨w.heap.size,j,none⟩) h1).trans h
 have HF:Hid (Pl.twoB f=if f.k=5\/f.k=6 then !(decide (Pl.sgn f=[])) else if f.k=7 then !(decide (Pl.osg f.a=[])) && decide (f=⟨f.k,f.a,0,[]⟩) else if f.k=8 then !(decide (Pl.osg f.a=[])) && !(decide (Pl.osg f.b=[])) && decide (f.nm=[]) else Pl.callB f):=by
  show _=_
  unfold Pl.twoB
  simp
 clear hm
 generalize Pl.twoB f=r at *
 generalize Pl.callB f=cb at *
 generalize decide (f=⟨f.k,f.a,0,[]⟩)=q at *
 generalize decide (Pl.sgn f=[])=ns at *
 generalize decide (Pl.osg f.a=[])=no at *
 generalize decide (Pl.osg f.b=[])=no2 at *
 generalize decide (f.nm=[])=nn at *
 generalize Pl.ba (Pl.sgn f)=ss at *
 generalize Pl.ba (Pl.osg f.a)=so at *
 generalize Pl.ba (Pl.osg f.b)=so2 at *
 generalize Pl.ba f.nm=nm at *
 generalize f.k=fk at *
 generalize f.a=fa at *
 generalize f.b=fb at *
 by_cases k5:fk=5
 ·subst k5
  have HR:=zH (show r=!ns by rw[HF.out];simp)
  cases ns
  all_goals
   go_enter Tryz.func122,Tryz.ntmps122
   go_wp2_with (go_at_call 127;refine(KS.out _).mono ?_;rintro e w2 ⟨rfl,hb2⟩)
   exact tOks2
 have f5:(fk == 5)=false:=by simp[k5]
 by_cases k6:fk=6
 ·subst k6
  clear f5 k5
  have HR:=zH (show r=!ns by rw[HF.out];simp)
  cases ns
  all_goals
   go_enter Tryz.func122,Tryz.ntmps122
   go_wp2_with (go_at_call 127;refine(KS.out _).mono ?_;rintro e w2 ⟨rfl,hb2⟩)
   exact tOks2
 have f6:(fk == 6)=false:=by simp[k6]
 by_cases k7:fk=7
 ·subst k7
  clear f5 k5 f6 k6
  have HR:=zH (show r=(!no && q) by rw[HF.out];simp)
  cases no
  ·go_enter Tryz.func122,Tryz.ntmps122
   exact tOks1
  go_enter Tryz.func122,Tryz.ntmps122
  go_wp2_with (go_at_call 126;refine(KO.out _).mono ?_;rintro e w2 ⟨rfl,hb2⟩)
  exact tOks2
 have f7:(fk == 7)=false:=by simp[k7]
 by_cases k8:fk=8
 ·subst k8
  clear f5 k5 f6 k6 f7 k7
  have HR:=zH (show r=(!no && !no2 && nn) by rw[HF.out];simp)
  cases no
  rotate_left 1
  ·go_enter Tryz.func122,Tryz.ntmps122
   go_wp2_with (go_at_call 126;refine(KO.out _).mono ?_;rintro e w2 ⟨rfl,hb2⟩)
   go_ret
   exact ret_below (HR.out.trans sI) ((HB.out _).trans (hb2.mono sI))
  cases no2
  ·go_enter Tryz.func122,Tryz.ntmps122
   go_wp2_with fail
   refine(KO.out _).mono ?_
   rintro e w2 ⟨rfl,hb2⟩
   have d2:=C.out _ _ 2 _ hb2 sI uOks1
   have d3:=C.out _ _ 3 _ hb2 sI uOks1
   have hs2:w.heap.size<w2.heap.size:=Nat.lt_of_lt_of_le sI hb2.size
   have HBB:=zH ((HB.out _).trans (hb2.mono sI))
   clear hb2
   go_wp2_with fail
   refine(KO2.out _ HBB.out).mono ?_
   rintro e w3 ⟨rfl,hb3⟩
   have e3:=C.out _ _ 3 _ hb3 hs2 d3
   have HBC:=zH (HBB.out.trans (hb3.mono HBB.out.size))
   clear hb3
   go_wp2_with fail
   go_ret
   exact ret_below (HR.out.trans sI) HBC.out
  go_enter Tryz.func122,Tryz.ntmps122
  go_wp2_with fail
  refine(KO.out _).mono ?_
  rintro e w2 ⟨rfl,hb2⟩
  have d2:=C.out _ _ 2 _ hb2 sI uOks1
  have HBB:=zH ((HB.out _).trans (hb2.mono sI))
  clear hb2
  go_wp2_with (go_at_call 126;refine(KO2.out _ HBB.out).mono ?_;rintro e w3 ⟨rfl,hb3⟩)
  go_ret
  exact ret_below (HR.out.trans sI) (HBB.out.trans (hb3.mono HBB.out.size))
 have f8:(fk == 8)=false:=by simp[k8]
 have HR:=zH (show r=cb by rw[HF.out];simp[k5,k6,k7,k8])
 clear k5 k6 k7 k8
 go_enter Tryz.func122,Tryz.ntmps122
 go_wp2_with (go_at_call 128;refine(KC.out _).mono ?_;rintro e w2 ⟨rfl,hb2⟩)
 exact tOks2
end Go.Proofs.YtbiiicbfpcfgdaaGreatDoor
