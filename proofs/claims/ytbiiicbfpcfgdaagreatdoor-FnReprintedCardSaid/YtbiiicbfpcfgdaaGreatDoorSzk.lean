import Derived.Test.YtbiiicbfpcfgdaaGreatDoorTxm
namespace Go.Proofs.YtbiiicbfpcfgdaaGreatDoor
open Go.RowKit
set_option maxRecDepth 100000
set_option maxHeartbeats 16000000
set_option linter.unusedVariables false
theorem uTxt1 {P:Prop}(h:P:=by simp[go_sem];rfl):P:=h
namespace Pl
theorem wts_app (a b:List Sv):wts (a++b)=wts a+wts b:=by unfold wts;rw[List.map_append,List.sum_append]
theorem wts_take (c:List Sv) (n:Nat):wts (c.take n)<=wts c:=by
 have:=wts_app (c.take n) (c.drop n)
 rw[List.take_append_drop] at this
 omega
theorem nd_all {c:List Sv}(hok:∀s∈c,sok s=true) {n:Nat}{t:Nd Sv}{m:Nat}(h:nd c n=some (t,m)):AllN (fun s=>sok s=true/\ar s=0) (fun s=>sok s=true/\ar s ≠ 0) t/\(txt (ta nt) tf t).length<=40 * csz c:=by
 obtain⟨h1,h2,h3,h4⟩:=nd_le h
 have ha:=all_post h4 (fun s hs=>hok s (List.mem_of_mem_take (i:=n) (by rw[h3];exact List.mem_append_right _ hs)))
 refine⟨ha,?_⟩
 have:=txt_len (nt:=nt) (fun n h1 h2=>nt_len n oM oM) t ha
 have e:=wts_app (c.take m) t.post
 rw[<- h3] at e
 have:=wts_take c n
 have:=wts_csz c
 omega
theorem nd_bare {c:List Sv}{j:Nat}{s:Sv}(hs:c[j]? = some s) {t:Nd Sv}{m:Nat}(h:nd c (j+1)=some (t,m)):bareN t=decide (ar s=0):=by
 rw[nd_succ c j s hs] at h
 by_cases h0:ar s=0
 ·rw[if_pos h0] at h
  simp only[Option.some.injEq,Prod.mk.injEq] at h
  rw[<- h.1]
  simp[bareN,h0]
 rw[if_neg h0] at h
 rw[decide_eq_false h0]
 cases e:nd c j with
 |none=>rw[e] at h;cases h
 |some r =>
  obtain⟨t1,m1⟩:=r
  rw[e] at h
  simp only[] at h
  split at h
  ·simp only[Option.some.injEq,Prod.mk.injEq] at h
   rw[<- h.1];rfl
  cases e2:nd c m1 with
  |none=>rw[e2] at h;cases h
  |some r2 =>
   rw[e2] at h
   simp only[Option.some.injEq,Prod.mk.injEq] at h
   rw[<- h.1];rfl
theorem nest_le:∀t:Nd Sv,nest t+1<=t.post.length:=by
 intro t
 induction t with
 |«at» s=>simp[nest,Nd.post]
 |one s r ih=>simp only[nest,Nd.post,List.length_append,List.length_cons,List.length_nil];omega
 |two s l r il ir =>
  simp only[nest,Nd.post,List.length_append,List.length_cons,List.length_nil]
  cases bareN l <;> simp only[] <;> omega
theorem nd_nest {c:List Sv}{n:Nat}{t:Nd Sv}{m:Nat}(h:nd c n=some (t,m)):nest t<c.length:=by
 obtain⟨h1,h2,h3,h4⟩:=nd_le h
 have e:=congrArg List.length h3
 rw[List.length_append,List.length_take] at e
 have:=nest_le t
 omega
theorem fn_ok {s:Sv}(h:sok s=true):(s.k=3->fok s.fn false=true)/\(s.k=4->fok s.fn true=true):=by
 rw[sok_eq] at h
 unfold sokS at h
 refine⟨fun k=>?_,fun k=>?_⟩
 all_goals
  rw[k] at h
  rw[if_neg (by decide)] at h
  split at h
  ·cases h
  rw[if_neg (by decide)] at h
  simp only[Bool.and_eq_true] at h
  exact h.2
theorem sok_nums {s:Sv}(h:sok s=true) (hk:s.k=1):(∀x∈s.nums,-3000000000<=x/\x<=3000000000)/\s.nums.length<=1000:=by
 unfold sok at h
 rw[if_pos hk] at h
 simp only[numsB,Bool.and_eq_true,decide_eq_true_eq,List.all_eq_true] at h
 exact⟨fun x hx=>h.1.1.1.1 x hx,h.1.1.2⟩
end Pl
def bareN' (s:Pl.Sv):Bool:=decide (Pl.ar s=0)
theorem ret_text {a b:ByteArray}{x y:Int}(h:a=b) (h2:x=y):Ending.returned (.tuple #[.string a,.int .i64 x])=.returned (.tuple #[.string b,.int .i64 y]):=by rw[h,h2]
theorem tTxt1 {P:Prop}(h:P:=by
 go_enter Tryz.func44,Tryz.ntmps44
 go_wp2_with fail
 refine(K.out _ (HB0.out _)).mono ?_
 rintro e' w2 ⟨rfl,hb2⟩
 have d0:=C.out _ _ 0 _ hb2 sI uTxt1
 have d3:=C.out _ _ 3 _ hb2 sI uTxt1
 have d4:=C.out _ _ 4 _ hb2 sI uTxt1
 have d5:=C.out _ _ 5 _ hb2 sI uTxt1
 have d6:=C.out _ _ 6 _ hb2 sI uTxt1
 have HBB:=zH ((HB0.out _).trans (hb2.mono sI))
 have hsz:w.heap.size<w2.heap.size:=Nat.lt_of_lt_of_le sI hb2.size
 have cj:=HC1.out _ HBB.out
 clear hb2
 go_wp2_with fail
 refine(KS.out _ HBB.out).mono ?_
 rintro e' w3 ⟨rfl,rfl⟩
 go_wp2_with fail
 refine(K2.out _ HBB.out).mono ?_
 rintro e' w4 ⟨rfl,hb4⟩
 have f3:=C.out _ _ 3 _ hb4 hsz d3
 have f4:=C.out _ _ 4 _ hb4 hsz d4
 have f5:=C.out _ _ 5 _ hb4 hsz d5
 have f6:=C.out _ _ 6 _ hb4 hsz d6
 have HBC:=zH (HBB.out.trans (hb4.mono HBB.out.size))
 clear hb4 d0 d3 d4 d5 d6 cj HBB hsz
 go_wp2_with (go_at_call 73;refine(KF.out _).mono ?_;rintro e' w5 ⟨rfl,hb5⟩)
 go_ret2
 exact⟨ret_text E.out.symm (by rw[HN.out]),HBC.out.trans (hb5.mono HBC.out.size)⟩
 ):P:=h
theorem tTxt2 {P:Prop}(h:P:=by
 have E:=zH (show r=⟨#[40]⟩++r1++⟨#[41]⟩++⟨#[32]⟩++r2++⟨#[32]⟩++r3 by rw[E.out,HA.out];simp)
 have HN:=zH (show q=max (q1+1) q2 by rw[HN.out,HA.out];simp)
 clear HA
 by_cases hd:(q1+1)<q2
 ·have HN:=zH (show q=q2 by rw[HN.out];omega)
  exact tTxt1
 ·have HN:=zH (show q=(q1+1) by rw[HN.out];omega)
  go_enter Tryz.func44,Tryz.ntmps44
  go_wp2_with fail
  refine(K.out _ (HB0.out _)).mono ?_
  rintro e' w2 ⟨rfl,hb2⟩
  have d0:=C.out _ _ 0 _ hb2 sI uTxt1
  have d3:=C.out _ _ 3 _ hb2 sI uTxt1
  have d4:=C.out _ _ 4 _ hb2 sI uTxt1
  have d5:=C.out _ _ 5 _ hb2 sI uTxt1
  have d6:=C.out _ _ 6 _ hb2 sI uTxt1
  have HBB:=zH ((HB0.out _).trans (hb2.mono sI))
  have hsz:w.heap.size<w2.heap.size:=Nat.lt_of_lt_of_le sI hb2.size
  have cj:=HC1.out _ HBB.out
  clear hb2
  go_wp2_with fail
  refine(KS.out _ HBB.out).mono ?_
  rintro e' w3 ⟨rfl,rfl⟩
  go_wp2_with fail
  refine(K2.out _ HBB.out).mono ?_
  rintro e' w4 ⟨rfl,hb4⟩
  have f3:=C.out _ _ 3 _ hb4 hsz d3
  have f4:=C.out _ _ 4 _ hb4 hsz d4
  have f5:=C.out _ _ 5 _ hb4 hsz d5
  have f6:=C.out _ _ 6 _ hb4 hsz d6
  have HBC:=zH (HBB.out.trans (hb4.mono HBB.out.size))
  clear hb4 d0 d3 d4 d5 d6 cj HBB hsz
  go_wp2_with (go_at_call 73;refine(KF.out _).mono ?_;rintro e' w5 ⟨rfl,hb5⟩)
  go_ret2
  exact⟨ret_text E.out.symm (by rw[HN.out];go_num),HBC.out.trans (hb5.mono HBC.out.size)⟩
 ):P:=h
theorem tTxt3 {P:Prop}(h:P:=by
 have E:=zH (show r=r1++⟨#[32]⟩++r2++⟨#[32]⟩++r3 by rw[E.out,HA.out];simp)
 have HN:=zH (show q=max q1 q2 by rw[HN.out,HA.out];simp)
 clear HA
 by_cases hd:q1<q2
 ·have HN:=zH (show q=q2 by rw[HN.out];omega)
  exact tTxt1
 ·have HN:=zH (show q=q1 by rw[HN.out];omega)
  exact tTxt1
 ):P:=h
theorem l3Text_any (c:List Pl.Sv) (B b o cap:Nat) (hl:Pl.csz c<=1048576) (hok:∀s∈c,Pl.sok s=true) (hb:b<B) :
  ∀n t m,Pl.nd c n=some (t,m)->n<=c.length->∀w:World,B<=w.heap.size->(∀(i:Nat) (s:Pl.Sv),c[i]? = some s->∃an cn,Stp B w b (o+i * 7) s an cn) ->
   Calls Tryz.prog 44 #[.slice (some ⟨b,o,none⟩) c.length cap,.int .i64 ((n:Int)-1)] w fun e w'=>e=.returned (.tuple #[.string (Pl.ba (Pl.txt (Pl.ta Pl.nt) Pl.tf t)),.int .i64 (Pl.nest t:Nat)])/\Below w.heap.size w w':=by
 intro n
 induction n using Nat.strongRecOn with
 |_ n ih =>
  intro t m hnd hn w hB hR
  have hcl:c.length<=1048576:=by have:=Pl.csz_eq c;omega
  cases n with
  |zero=>cases hnd
  |succ i =>
   have hi:i<c.length:=hn
   obtain⟨s,hs⟩:∃s,c[i]? = some s:=⟨c[i],List.getElem?_eq_getElem hi⟩
   have hsok:=hok s (List.mem_of_getElem? hs)
   obtain⟨an,cn,hst⟩:=hR i s hs
   have hx:(((i+1:Nat):Int)-1)=(i:Int):=by omega
   rw[hx]
   clear hx
   have hnd':=hnd
   rw[Pl.nd_succ c i s hs] at hnd
   rcases Pl.sok_kind hsok with hk|hk|hk|hk
   ·rw[if_pos (by simp[Pl.ar,hk])] at hnd
    simp only[Option.some.injEq,Prod.mk.injEq] at hnd
    obtain⟨rfl,rfl⟩:=hnd
    have:=l3Text_nums b o cap c.length i s an cn w hi hcl hk oM (hst.up hB) (Pl.sok_nums hsok hk).1 (Pl.sok_nums hsok hk).2
    have e:Pl.txt (Pl.ta Pl.nt) Pl.tf (.at s)=Pl.jt s.nums s.nums.length:=by
     simp[Pl.txt,Pl.ta,Pl.fa,hk,Pl.jt]
    rw[e]
    exact this
   ·rw[if_pos (by simp[Pl.ar,hk])] at hnd
    simp only[Option.some.injEq,Prod.mk.injEq] at hnd
    obtain⟨rfl,rfl⟩:=hnd
    obtain⟨c0,c1,c2,c3,c4,c5,c6,crd⟩:=hst
    have e:Hid (Pl.ba (Pl.txt (Pl.ta Pl.nt) Pl.tf (.at s))=Pl.ba s.nm):=by
     show _=_
     simp[Pl.txt,Pl.ta,Pl.fa,hk,Pl.sp,Pl.spt]
    have HB0:Hid (∀o,Below w.heap.size w (w.alloc o)):=fun o=>(Below.refl _ _).alloc (Nat.le_refl _) _
    rw[hk] at c0
    clear ih hok hR crd hsok hs hk
    generalize Pl.ba (Pl.txt (Pl.ta Pl.nt) Pl.tf (.at s))=r at *
    generalize Pl.ba s.nm=nm at *
    generalize Pl.ba s.fn.nm=fnm at *
    generalize s.fn.k=fk at *
    generalize s.fn.a=fa at *
    generalize s.fn.b=fb at *
    generalize s.nums.length=sn at *
    generalize c.length=L at *
    go_enter Tryz.func44,Tryz.ntmps44
    go_wp2_with fail
    go_ret2
    exact⟨ret_text e.out.symm rfl,HB0.out _⟩
   ·rw[if_neg (by simp[Pl.ar,hk])] at hnd
    cases e1:Pl.nd c i with
    |none=>rw[e1] at hnd;cases hnd
    |some r1 =>
     obtain⟨t1,m1⟩:=r1
     rw[e1] at hnd
     simp only[] at hnd
     rw[if_pos (by simp[Pl.ar,hk])] at hnd
     simp only[Option.some.injEq,Prod.mk.injEq] at hnd
     obtain⟨rfl,rfl⟩:=hnd
     obtain⟨c0,c1,c2,c3,c4,c5,c6,crd⟩:=hst
     have HB0:Hid (∀o,Below w.heap.size w (w.alloc o)):=fun o=>(Below.refl _ _).alloc (Nat.le_refl _) _
     have K:Hid (∀o',Calls Tryz.prog 44 #[.slice (some ⟨b,o,none⟩) c.length cap,.int .i64 ((i:Int)-1)] (w.alloc o') fun e w'=>e=.returned (.tuple #[.string (Pl.ba (Pl.txt (Pl.ta Pl.nt) Pl.tf t1)),.int .i64 (Pl.nest t1:Nat)])/\Below (w.alloc o').heap.size (w.alloc o') w'):=fun o'=>ih i (Nat.lt_succ_self _) t1 m1 e1 oM (w.alloc o') (by simp;omega) (fun i s hi=>by
      obtain⟨an,cn,h⟩:=hR i s hi
      exact⟨an,cn,h.keep hb ((HB0.out o').mono hB)⟩)
     have KF:Hid (∀w,Calls Tryz.prog 73 #[.agg #[.int .i64 s.fn.k,.int .i64 s.fn.a,.int .i64 s.fn.b,.string (Pl.ba s.fn.nm)]] w fun e w'=>e=.returned (.string (Pl.ba (Pl.ftx s.fn)))/\Below w.heap.size w w'):=fun w=>l3FnText_any s.fn.k s.fn.a s.fn.b s.fn.nm false ((Pl.fn_ok hsok).1 hk) w
     have hle1:=(Pl.nd_all hok e1).2
     have hle2:=Pl.ftx_len (Pl.fn_call hsok (by simp[Pl.ar,hk]))
     have e:Hid (Pl.ba (Pl.txt (Pl.ta Pl.nt) Pl.tf (.one s t1))=Pl.ba (Pl.ftx s.fn)++⟨#[32]⟩++Pl.ba (Pl.txt (Pl.ta Pl.nt) Pl.tf t1)):=by
      show Pl.ba (Pl.tf s++[32]++Pl.txt (Pl.ta Pl.nt) Pl.tf t1)=_
      rw[Pl.ba_app,Pl.ba_app]
      rfl
     rw[<- Pl.ba_size] at hle1 hle2
     rw[hk] at c0
     have HN:Hid (Pl.nest (.one s t1)=Pl.nest t1):=rfl
     clear ih hok hR crd hsok hs hk e1 hnd'
     generalize Pl.ba (Pl.txt (Pl.ta Pl.nt) Pl.tf (.one s t1))=r at *
     generalize Pl.ba (Pl.txt (Pl.ta Pl.nt) Pl.tf t1)=r1 at *
     generalize Pl.nest (.one s t1)=q at *
     generalize Pl.nest t1=q1 at *
     generalize Pl.ba (Pl.ftx s.fn)=r2 at *
     generalize Pl.ba s.nm=nm at *
     generalize Pl.ba s.fn.nm=fnm at *
     generalize s.fn.k=fk at *
     generalize s.fn.a=fa at *
     generalize s.fn.b=fb at *
     generalize s.nums.length=sn at *
     generalize c.length=L at *
     have lim1:¬(9223372036854775807<r2.size+1):=by omega
     have lim2:¬(9223372036854775807<r2.size+1+r1.size):=by omega
     have C:Hid (∀(w1 w':World) (j:Nat) (v:Value),Below w1.heap.size w1 w'->w.heap.size<w1.heap.size->w1.cell? ⟨w.heap.size,j,none⟩=some v->w'.cell? ⟨w.heap.size,j,none⟩=some v):=fun w1 w' j v hb h1 h=>(hb.cell (p:=⟨w.heap.size,j,none⟩) h1).trans h
     go_enter Tryz.func44,Tryz.ntmps44
     go_wp2_with fail
     refine(K.out _).mono ?_
     rintro e' w2 ⟨rfl,hb2⟩
     have d0:=C.out _ _ 0 _ hb2 sI uTxt1
     have d3:=C.out _ _ 3 _ hb2 sI uTxt1
     have d4:=C.out _ _ 4 _ hb2 sI uTxt1
     have d5:=C.out _ _ 5 _ hb2 sI uTxt1
     have d6:=C.out _ _ 6 _ hb2 sI uTxt1
     have HBB:=zH ((HB0.out _).trans (hb2.mono sI))
     clear hb2
     go_wp2_with (go_at_call 73;refine(KF.out _).mono ?_;rintro e' w3 ⟨rfl,hb3⟩)
     go_ret2
     exact⟨ret_text e.out.symm (by rw[HN.out]),HBB.out.trans (hb3.mono HBB.out.size)⟩
   rw[if_neg (by simp[Pl.ar,hk])] at hnd --two
   cases e1:Pl.nd c i with
   |none=>rw[e1] at hnd;cases hnd
   |some r1 =>
    obtain⟨t1,m1⟩:=r1
    rw[e1] at hnd
    simp only[] at hnd
    rw[if_neg (by simp[Pl.ar,hk])] at hnd
    cases e2:Pl.nd c m1 with
    |none=>rw[e2] at hnd;cases hnd
    |some r2 =>
     obtain⟨t2,m2⟩:=r2
     rw[e2] at hnd
     simp only[Option.some.injEq,Prod.mk.injEq] at hnd
     obtain⟨rfl,rfl⟩:=hnd
     obtain⟨j,rfl⟩:∃j,i=j+1:=⟨i-1,by have:=(Pl.nd_le e1).1;omega⟩
     have hm1:=(Pl.nd_le e1).1
     obtain⟨s1,hs1⟩:∃s1,c[j]? = some s1:=⟨c[j],List.getElem?_eq_getElem oM⟩
     have hbare:=Pl.nd_bare hs1 e1
     have hk1:=Pl.sok_kind (hok s1 (List.mem_of_getElem? hs1))
     obtain⟨c0,c1,c2,c3,c4,c5,c6,crd⟩:=hst
     obtain⟨an1,cn1,hst1⟩:=hR j s1 hs1
     have HB0:Hid (∀o,Below w.heap.size w (w.alloc o)):=fun o=>(Below.refl _ _).alloc (Nat.le_refl _) _
     have HC1:Hid (∀w',Below w.heap.size w w'->w'.cell? ⟨b,o+j * 7,none⟩=some (.int .i64 s1.k)):=fun w' h=>(h.cell (p:=⟨b,o+j * 7,none⟩) (Nat.lt_of_lt_of_le hb hB)).trans hst1.k
     have K:Hid (∀w',Below w.heap.size w w'->Calls Tryz.prog 44 #[.slice (some ⟨b,o,none⟩) c.length cap,.int .i64 (j:Int)] w' fun e w2=>e=.returned (.tuple #[.string (Pl.ba (Pl.txt (Pl.ta Pl.nt) Pl.tf t1)),.int .i64 (Pl.nest t1:Nat)])/\Below w'.heap.size w' w2):=fun w' hw=>by
      have:=ih (j+1) (Nat.lt_succ_self _) t1 m1 e1 oM w' (by have:=hw.size;omega) (fun i s hi=>by
       obtain⟨an,cn,h⟩:=hR i s hi
       exact⟨an,cn,h.keep hb (hw.mono hB)⟩)
      have hx:(((j+1:Nat):Int)-1)=(j:Int):=by omega
      rw[hx] at this
      exact this
     have K2:Hid (∀w',Below w.heap.size w w'->Calls Tryz.prog 44 #[.slice (some ⟨b,o,none⟩) c.length cap,.int .i64 ((m1:Int)-1)] w' fun e w2=>e=.returned (.tuple #[.string (Pl.ba (Pl.txt (Pl.ta Pl.nt) Pl.tf t2)),.int .i64 (Pl.nest t2:Nat)])/\Below w'.heap.size w' w2):=fun w' hw=>ih m1 oM t2 m2 e2 oM w' (by have:=hw.size;omega) (fun i s hi=>by
       obtain⟨an,cn,h⟩:=hR i s hi
       exact⟨an,cn,h.keep hb (hw.mono hB)⟩)
     have KS:Hid (∀w',Below w.heap.size w w'->Calls Tryz.prog 70 #[.slice (some ⟨b,o,none⟩) c.length cap,.int .i64 (j:Int)] w' fun e w2=>e=.returned (.int .i64 (m1:Int))/\w2=w'):=fun w' hw=>by
      have:=l3Start_any c b o cap hcl w' (fun i s hi=>by
       obtain⟨an,cn,h⟩:=hR i s hi
       exact(h.keep hb (hw.mono hB)).k) (j+1) oM
      have hx:(((j+1:Nat):Int)-1)=(j:Int):=by omega
      have hsta:Pl.sta c (j+1)=m1:=by unfold Pl.sta;rw[e1]
      rw[hx,hsta] at this
      exact this
     have KF:Hid (∀w,Calls Tryz.prog 73 #[.agg #[.int .i64 s.fn.k,.int .i64 s.fn.a,.int .i64 s.fn.b,.string (Pl.ba s.fn.nm)]] w fun e w'=>e=.returned (.string (Pl.ba (Pl.ftx s.fn)))/\Below w.heap.size w w'):=fun w=>l3FnText_any s.fn.k s.fn.a s.fn.b s.fn.nm true ((Pl.fn_ok hsok).2 hk) w
     have hle1:=(Pl.nd_all hok e1).2
     have hle3:=(Pl.nd_all hok e2).2
     have hle2:=Pl.ftx_len (Pl.fn_call hsok (by simp[Pl.ar,hk]))
     have hne1:=Pl.nd_nest e1
     have hne2:=Pl.nd_nest e2
     rw[<- Pl.ba_size] at hle1 hle2 hle3
     rw[hk] at c0
     have E:Hid (Pl.ba (Pl.txt (Pl.ta Pl.nt) Pl.tf (.two s t1 t2))=(if bareN' s1=true then Pl.ba (Pl.txt (Pl.ta Pl.nt) Pl.tf t1) else ⟨#[40]⟩++Pl.ba (Pl.txt (Pl.ta Pl.nt) Pl.tf t1)++⟨#[41]⟩)++⟨#[32]⟩++Pl.ba (Pl.ftx s.fn)++⟨#[32]⟩++Pl.ba (Pl.txt (Pl.ta Pl.nt) Pl.tf t2)):=by
      show Pl.ba ((match Pl.bareN t1 with | true=>Pl.txt (Pl.ta Pl.nt) Pl.tf t1 | false=>[40]++Pl.txt (Pl.ta Pl.nt) Pl.tf t1++[41])++[32]++Pl.ftx s.fn++[32]++Pl.txt (Pl.ta Pl.nt) Pl.tf t2)=_
      rw[hbare]
      unfold bareN'
      cases decide (Pl.ar s1=0)
      ·simp only[Pl.ba_app];rfl
      simp only[Pl.ba_app];rfl
     have HN:Hid (Pl.nest (.two s t1 t2)=max (if bareN' s1=true then Pl.nest t1 else Pl.nest t1+1) (Pl.nest t2)):=by
      show max (match Pl.bareN t1 with | true=>Pl.nest t1 | false=>Pl.nest t1+1) (Pl.nest t2)=_
      rw[hbare]
      unfold bareN'
      cases decide (Pl.ar s1=0) <;> rfl
     have HA:Hid (bareN' s1=if s1.k=1\/s1.k=2 then true else if s1.k=3 then false else false):=by
      show _=_
      unfold bareN' Pl.ar
      rcases hk1 with h|h|h|h <;> simp[h]
     have C:Hid (∀(w1 w':World) (j:Nat) (v:Value),Below w1.heap.size w1 w'->w.heap.size<w1.heap.size->w1.cell? ⟨w.heap.size,j,none⟩=some v->w'.cell? ⟨w.heap.size,j,none⟩=some v):=fun w1 w' j v hb h1 h=>(hb.cell (p:=⟨w.heap.size,j,none⟩) h1).trans h
     clear ih hok hR crd hsok hs hk e1 e2 hnd' hbare hs1 hst1
     generalize Pl.ba (Pl.txt (Pl.ta Pl.nt) Pl.tf (.two s t1 t2))=r at *
     generalize Pl.ba (Pl.txt (Pl.ta Pl.nt) Pl.tf t1)=r1 at *
     generalize Pl.ba (Pl.txt (Pl.ta Pl.nt) Pl.tf t2)=r3 at *
     generalize Pl.nest (.two s t1 t2)=q at *
     generalize Pl.nest t1=q1 at *
     generalize Pl.nest t2=q2 at *
     generalize Pl.ba (Pl.ftx s.fn)=r2 at *
     generalize bareN' s1=bb at *
     generalize s1.k=kk at *
     generalize Pl.ba s.nm=nm at *
     generalize Pl.ba s.fn.nm=fnm at *
     generalize s.fn.k=fk at *
     generalize s.fn.a=fa at *
     generalize s.fn.b=fb at *
     generalize s.nums.length=sn at *
     generalize c.length=L at *
     have lim1:¬(9223372036854775807<1+r1.size):=by omega
     have lim2:¬(9223372036854775807<1+r1.size+1):=by omega
     have lim3:¬(9223372036854775807<r1.size+1):=by omega
     have lim4:¬(9223372036854775807<r1.size+1+r2.size):=by omega
     have lim5:¬(9223372036854775807<r1.size+1+r2.size+1):=by omega
     have lim6:¬(9223372036854775807<r1.size+1+r2.size+1+r3.size):=by omega
     have lim7:¬(9223372036854775807<1+r1.size+1+1):=by omega
     have lim8:¬(9223372036854775807<1+r1.size+1+1+r2.size):=by omega
     have lim9:¬(9223372036854775807<1+r1.size+1+1+r2.size+1):=by omega
     have limA:¬(9223372036854775807<1+r1.size+1+1+r2.size+1+r3.size):=by omega
     have KK:=hk1
     clear hk1 hle1 hle2 hle3 hl
     rcases KK with rfl|rfl|rfl|rfl
     ·skip
      exact tTxt3
     ·skip
      exact tTxt3
     ·skip
      exact tTxt2
     skip
     exact tTxt2
namespace Pl
structure Small (c:List Sv):Prop where
 sz:csz c<=1048576
 nm:∀s∈c,s.nm.length<=1048576/\s.fn.nm.length<=1048576
theorem Small.len {c:List Sv}(h:Small c):c.length<=1048576:=by have:=csz_eq c;have:=h.sz;omega
theorem Small.nums {c:List Sv}(h:Small c) {s:Sv}(hs:s∈c):s.nums.length<=1048576:=by
 have h2:=h.sz
 unfold csz at h2
 have:s.nums.length<=(c.map fun s=>s.nums.length).sum:=by
  clear h h2
  induction c with
  |nil=>cases hs
  |cons x c ih =>
   rw[List.map_cons,List.sum_cons]
   rcases List.mem_cons.1 hs with rfl|h
   ·omega
   have:=ih h;omega
 omega
theorem xt_nil (nt:Int->List UInt8):xt nt []=none:=rfl
theorem xt_no {nt:Int->List UInt8}{c:List Sv}(h:sta c c.length ≠ 0):(xt nt c).isSome=false:=by
 unfold xt
 unfold sta at h
 cases e:nd c c.length with
 |none=>rfl
 |some r =>
  obtain⟨t,m⟩:=r
  rw[e] at h
  cases m with
  |zero=>exact absurd rfl h
  |succ m=>rfl
theorem sta_zero_iff {c:List Sv}{n:Nat}(h:sta c n=0):∃t,nd c n=some (t,0):=by
 unfold sta at h
 cases e:nd c n with
 |none=>rw[e] at h;exact absurd h (by decide)
 |some r =>
  obtain⟨t,m⟩:=r
  rw[e] at h
  simp only[] at h
  obtain rfl:m=0:=by omega
  exact⟨t,rfl⟩
theorem xt_bad {nt:Int->List UInt8}{c:List Sv}{s:Sv}(hs:s∈c) (h:sok s=false):(xt nt c).isSome=false:=by
 have:c.all sok ≠ true:=by
  intro e
  have:=List.all_eq_true.1 e s hs
  rw[h] at this;cases this
 unfold xt
 split
 ·rw[if_neg (fun e=>this e.1)];rfl
 rfl
theorem xt_ok {nt:Int->List UInt8}{c:List Sv}{t:Nd Sv}(h:nd c c.length=some (t,0)) (ha:∀s∈c,sok s=true):(xt nt c).isSome=decide (nest t<=40):=by
 unfold xt
 rw[h]
 simp only[List.all_eq_true.2 ha,true_and]
 split
 ·rename_i e;rw[decide_eq_true e];rfl
 rename_i e;rw[decide_eq_false e];rfl
theorem xt_get {nt:Int->List UInt8}{c:List Sv}{x:List UInt8}(h:xt nt c=some x):∃t,nd c c.length=some (t,0)/\(∀s∈c,sok s=true)/\x=txt (ta nt) tf t:=by
 unfold xt at h
 split at h
 ·rename_i t e
  split at h
  ·rename_i e2
   exact⟨t,e,List.all_eq_true.1 e2.1,(Option.some.inj h).symm⟩
  cases h
 cases h
theorem all_take {c:List Sv}{k:Nat}(h:(c.take k).all sok=true) (hk:k=c.length):∀s∈c,sok s=true:=by
 rw[hk,List.take_length] at h
 exact List.all_eq_true.1 h
theorem all_succ {c:List Sv}{k:Nat}{s:Sv}(h:c[k]? = some s):(c.take (k+1)).all sok=((c.take k).all sok && sok s):=by
 rw[List.take_add_one,h,List.all_append]
 simp
end Pl
theorem l3CodeOk_any (c:List Pl.Sv) (ao:Option Addr) (cap:Nat) (hsm:Pl.Small c) (w:World) (hR:RdS w.heap.size w ao c) :
  Calls Tryz.prog 42 #[.slice ao c.length cap] w fun e w'=>e=.returned (.bool (Pl.xt Pl.nt c).isSome)/\Below w.heap.size w w':=by
 have hlen:=hsm.len
 rcases hR with rfl|⟨b,off,hb,rfl,hc⟩
 ·go_enter Tryz.func42,Tryz.ntmps42
  go_wp2
  go_ret
  exact⟨rfl,Below.refl _ _⟩
 by_cases h0:c=[]
 ·subst h0
  go_enter Tryz.func42,Tryz.ntmps42
  go_wp2
  go_ret
  exact⟨rfl,Below.refl _ _⟩
 have hpos:0<c.length:=List.length_pos_iff.2 h0
 have K:Hid (Calls Tryz.prog 70 #[.slice (some ⟨b,off,none⟩) c.length cap,.int .i64 ((c.length:Int)-1)] w fun e w'=>e=.returned (.int .i64 (Pl.sta c c.length))/\w'=w):=l3Start_any c b off cap hlen w (fun i s hi=>(hc i s hi).choose_spec.choose_spec.k) c.length (Nat.le_refl _)
 by_cases hst:Pl.sta c c.length=0
 rotate_left 1
 ·have HR:=zH (Pl.xt_no (nt:=Pl.nt) hst)
  have hne:(Pl.sta c c.length != 0)=true:=by simp[hst]
  clear hc hst h0 hsm
  generalize (Pl.xt Pl.nt c).isSome=r at *
  generalize Pl.sta c c.length=z at *
  generalize c.length=L at *
  go_enter Tryz.func42,Tryz.ntmps42
  go_wp2_with (go_at_call 70;refine K.out.mono ?_;rintro e w' ⟨rfl,rfl⟩)
  go_ret
  exact ret_below HR.out (Below.refl _ _)
 obtain⟨t,ht⟩:=Pl.sta_zero_iff hst
 rw[hst] at K
 have HC:Hid (∀i s,c[i]? = some s->∃an cn,Stp w.heap.size w b (off+i * 7) s an cn):=hc
 have HG:Hid (∀i,i<c.length->∃s,c[i]? = some s/\s∈c):=fun i hi=>⟨c[i],List.getElem?_eq_getElem hi,List.getElem_mem hi⟩
 have HX:Hid (∀s∈c,Pl.sok s=false->(Pl.xt Pl.nt c).isSome=false):=fun s hs h=>Pl.xt_bad hs h
 have HA:Hid (∀k s,c[k]? = some s->(c.take (k+1)).all Pl.sok=((c.take k).all Pl.sok && Pl.sok s)):=fun k s=>Pl.all_succ
 have HE:Hid (∀k,k=c.length->(c.take k).all Pl.sok=true->∀s∈c,Pl.sok s=true):=fun k hk h=>Pl.all_take h hk
 have HY:Hid ((∀s∈c,Pl.sok s=true)->(Pl.xt Pl.nt c).isSome=decide (Pl.nest t<=40)):=Pl.xt_ok ht
 have HK:Hid (∀s∈c,∀(an:Option Addr) (cn:Nat) (w':World),RdI w'.heap.size w' an s.nums->Calls Tryz.prog 71 #[.agg #[.int .i64 s.k,.slice an s.nums.length cn,.string (Pl.ba s.nm),.int .i64 s.fn.k,.int .i64 s.fn.a,.int .i64 s.fn.b,.string (Pl.ba s.fn.nm)]] w' fun e w2=>e=.returned (.bool (Pl.sok s))/\Below w'.heap.size w' w2):=fun s hs an cn w' hr=>by
  rw[Pl.sok_eq]
  exact l3StepOk_any s an cn w' hr (hsm.nums hs) (hsm.nm s hs).1 (hsm.nm s hs).2
 have HT:Hid ((∀s∈c,Pl.sok s=true)->∀w',Below w.heap.size w w'->Calls Tryz.prog 44 #[.slice (some ⟨b,off,none⟩) c.length cap,.int .i64 ((c.length:Int)-1)] w' fun e w2=>e=.returned (.tuple #[.string (Pl.ba (Pl.txt (Pl.ta Pl.nt) Pl.tf t)),.int .i64 (Pl.nest t:Nat)])/\Below w'.heap.size w' w2):=fun hok w' hw=>l3Text_any c w.heap.size b off cap hsm.sz hok hb c.length t 0 ht (Nat.le_refl _) w' hw.size (fun i s hi=>by
  obtain⟨an,cn,h⟩:=hc i s hi
  exact⟨an,cn,h.keep hb hw⟩)
 generalize Pl.ba (Pl.txt (Pl.ta Pl.nt) Pl.tf t)=tx at *
 generalize Pl.nest t=q at *
 clear hc ht hst h0 hsm
 generalize (Pl.xt Pl.nt c).isSome=r at *
 generalize hL:c.length=L at *
 go_enter Tryz.func42,Tryz.ntmps42
 go_wp2_with (go_at_call 70;refine K.out.mono ?_;rintro e w' ⟨rfl,rfl⟩)
 go_loopw [4] (fun v wr=>∃k:Nat,k<=L/\v=.int .i64 k/\Hid ((c.take k).all Pl.sok=true)/\Hid (Below w'.heap.size w' wr)) (fun v _=>L-(intOf v).toNat)
 case atStart=>exact⟨0,Nat.zero_le _,rfl,rfl,Below.refl _ _⟩
 obtain⟨k,hk,rfl,hall,hbel⟩:=hrel
 by_cases hlt:k<L
 rotate_left 1
 ·obtain rfl:k=L:=by omega
  have HO:=zH (HE.out k rfl hall.out)
  have KK:=zH (HT.out HO.out wr hbel.out)
  have HR:=zH (HY.out HO.out)
  clear HC HG HX HA HE HY HK HT
  go_wp2_with (go_at_call 44;refine KK.out.mono ?_;rintro e w2 ⟨rfl,hb2⟩)
  go_ret
  exact ret_below (HR.out.trans (by rw[Bool.eq_iff_iff];simp only[decide_eq_true_eq];omega)) (hbel.out.trans (hb2.mono hbel.out.size))
 obtain⟨s,hs,hm⟩:=HG.out k hlt
 obtain⟨an,cn,hst⟩:=HC.out k s hs
 obtain⟨c0,c1,c2,c3,c4,c5,c6,crd⟩:=hst.keep hb hbel.out
 have A:=zH (HA.out k s hs)
 have X:=zH (HX.out s hm)
 have KK:=zH (HK.out s hm an cn wr (crd.up hbel.out.size))
 clear HC HG HX HA HE HY HK HT hs hm hst crd
 generalize Pl.ba s.nm=nm at *
 generalize Pl.ba s.fn.nm=fnm at *
 generalize s.fn.k=fk at *
 generalize s.fn.a=fa at *
 generalize s.fn.b=fb at *
 generalize s.k=kk at *
 generalize s.nums.length=sn at *
 cases hq:Pl.sok s
 ·rw[hq] at KK X
  have HR:=zH (X.out rfl)
  clear hq
  go_wp2_with (go_at_call 71;refine KK.out.mono ?_;rintro e w2 ⟨rfl,hb2⟩)
  go_ret
  exact ret_below HR.out (hbel.out.trans (hb2.mono hbel.out.size))
 rw[hq] at KK A
 have HR:=zH (show (c.take (k+1)).all Pl.sok=true by rw[A.out,hall.out];rfl)
 clear hq
 go_wp2_with (go_at_call 71;refine KK.out.mono ?_;rintro e w2 ⟨rfl,hb2⟩)
 go_roundw
 case rel=>exact⟨k+1,by omega,by go_num,HR.out,hbel.out.trans (hb2.mono hbel.out.size)⟩
 simp[intOf];omega
theorem l3Whole_any (c:List Pl.Sv) (ao:Option Addr) (cap:Nat) (hsm:Pl.Small c) (x:List UInt8) (hx:Pl.xt Pl.nt c=some x) (w:World) (hR:RdS w.heap.size w ao c) :
  Calls Tryz.prog 19 #[.slice ao c.length cap] w fun e w'=>e=.returned (.string (Pl.ba x))/\Below w.heap.size w w':=by
 have hlen:=hsm.len
 rcases hR with rfl|⟨b,off,hb,rfl,hc⟩
 ·cases hx
 obtain⟨t,ht,hok,rfl⟩:=Pl.xt_get hx
 have K:=zH (l3Text_any c w.heap.size b off cap hsm.sz hok hb c.length t 0 ht (Nat.le_refl _) w (Nat.le_refl _) hc)
 clear hc ht hx hsm hok
 generalize Pl.ba (Pl.txt (Pl.ta Pl.nt) Pl.tf t)=tx at *
 generalize Pl.nest t=q at *
 generalize c.length=L at *
 go_enter Tryz.func19,Tryz.ntmps19
 go_wp2_with (go_at_call 44;refine K.out.mono ?_;rintro e w' ⟨rfl,hb2⟩)
 go_ret
 exact⟨rfl,hb2⟩
theorem l3Size_rd (c:List Pl.Sv) (ao:Option Addr) (cap B:Nat) (hl:Pl.csz c<=4611686018427387904) (w:World) (hR:RdS B w ao c) :
  Calls Tryz.prog 69 #[.slice ao c.length cap] w fun e w'=>e=.returned (.int .i64 (Pl.csz c:Nat))/\w'=w:=by
 rcases hR with rfl|⟨b,off,hb,rfl,hc⟩
 ·go_enter Tryz.func69,Tryz.ntmps69
  go_wp2
  go_loop [3,4] (fun u v=>v=.int .i64 0/\u=.int .i64 0) (fun u v=>0)
  case atStart=>exact⟨rfl,rfl⟩
  obtain⟨rfl,rfl⟩:=hrel
  go_wp2
  go_ret
  exact⟨rfl,rfl⟩
 exact l3Size_any c b off cap hl w (fun i s hi=>by
  obtain⟨an,cn,h⟩:=hc i s hi
  exact⟨an,cn,h.n⟩)
namespace Pl
def psum (p:List Tv) (i:Nat):Nat:=((p.take i).map ssz).sum
theorem psum_succ {p:List Tv}{i:Nat}{s:Tv}(h:p[i]? = some s):psum p (i+1)=psum p i+ssz s:=by
 unfold psum
 rw[List.take_add_one,h]
 simp
theorem psum_le (p:List Tv) (i:Nat):psum p i<=psum p p.length:=by
 unfold psum
 rw[List.take_length]
 have e:p=p.take i++p.drop i:=(List.take_append_drop i p).symm
 have:=congrArg (fun l=>(l.map ssz).sum) e
 simp only[List.map_append,List.sum_append] at this
 omega
theorem psz_eq (p:List Tv):psz p=p.length+psum p p.length:=by unfold psz psum;rw[List.take_length]
def gsum (p:List Gv) (i:Nat):Nat:=((p.take i).map gsz).sum
theorem gsum_succ {p:List Gv}{i:Nat}{s:Gv}(h:p[i]? = some s):gsum p (i+1)=gsum p i+gsz s:=by
 unfold gsum
 rw[List.take_add_one,h]
 simp
theorem gsum_le (p:List Gv) (i:Nat):gsum p i<=gsum p p.length:=by
 unfold gsum
 rw[List.take_length]
 have e:p=p.take i++p.drop i:=(List.take_append_drop i p).symm
 have:=congrArg (fun l=>(l.map gsz).sum) e
 simp only[List.map_append,List.sum_append] at this
 omega
theorem ssz_eq (s:Tv):ssz s=csz s.code+s.gs.length+gsum s.gs s.gs.length:=by unfold ssz gsum;rw[List.take_length]
end Pl
theorem l3SizeOk_any (p:List Pl.Tv) (ao:Option Addr) (cap:Nat) (hl:Pl.psz p<=1048576) (w:World) (hR:RdP w.heap.size w ao p) :
  Calls Tryz.prog 41 #[.slice ao p.length cap] w fun e w'=>e=.returned (.bool (decide (Pl.psz p<=16000)))/\Below w.heap.size w w':=by
 rcases hR with rfl|⟨b,off,hb,rfl,hc⟩
 ·go_enter Tryz.func41,Tryz.ntmps41
  go_wp2
  go_loop [3,4] (fun u v=>v=.int .i64 0/\u=.int .i64 0) (fun u v=>0)
  case atStart=>exact⟨rfl,rfl⟩
  obtain⟨rfl,rfl⟩:=hrel
  go_wp2
  go_ret
  exact⟨rfl,Below.refl _ _⟩
 have HS:Hid (∀k s,p[k]? = some s->Pl.psum p (k+1)=Pl.psum p k+Pl.ssz s):=fun k s=>Pl.psum_succ
 have HM:Hid (∀k,Pl.psum p k<=Pl.psum p p.length):=Pl.psum_le p
 have HG:Hid (∀k,k<p.length->∃s,p[k]? = some s):=fun k hk=>⟨p[k],List.getElem?_eq_getElem hk⟩
 have HC:=zH hc
 clear hc
 have E0:=zH (Pl.psz_eq p)
 rw[E0.out] at hl
 rw[E0.out]
 clear E0
 generalize hL:p.length=L at *
 have hL2:L<=1048576:=by omega
 go_enter Tryz.func41,Tryz.ntmps41
 go_wp2
 go_loopw [3,4] (fun u v wr=>∃k:Nat,k<=L/\v=.int .i64 k/\u=.int .i64 (L+Pl.psum p k:Nat)/\Hid (Below w.heap.size w wr)) (fun _ v _=>L-(intOf v).toNat)
 case atStart=>exact⟨0,Nat.zero_le _,rfl,by simp[Pl.psum],Below.refl _ _⟩
 rename World=>wo
 obtain⟨k,hk,rfl,rfl,hbel⟩:=hrel
 by_cases hlt:k<L
 rotate_left 1
 ·obtain rfl:k=L:=by omega
  clear HS HM HG HC
  go_wp2
  go_ret
  exact⟨ret_bool (by rw[Bool.eq_iff_iff];simp only[decide_eq_true_eq];omega),hbel.out⟩
 obtain⟨s,hs⟩:=HG.out k hlt
 obtain⟨a1,a2,c1,c2,hsm⟩:=HC.out k s hs
 have N:=zH (HS.out k s hs)
 have M1:=HM.out (k+1)
 rw[N.out,Pl.ssz_eq] at M1
 have hsm:=hsm.keep hb hbel.out
 obtain⟨d0,d1,d2,d3,rc,rg⟩:=hsm
 clear HS HM HG HC hs d0 d1
 have ESZ:=zH (Pl.ssz_eq s)
 have K:Hid (∀m,Calls Tryz.prog 69 #[.slice a1 s.code.length c1] (wo.drewN m) fun e w'=>e=.returned (.int .i64 (Pl.csz s.code:Nat))/\w'=wo.drewN m):=fun m=>l3Size_rd s.code a1 c1 w.heap.size oM (wo.drewN m) (rc.keep (below_drewN (Below.refl _ _) m))
 have HRG:Hid (∀w',Below w.heap.size wo w'->RdG w.heap.size w' a2 s.gs):=fun w' h=>rg.keep h
 have HD3:Hid (∀w',Below w.heap.size wo w'->w'.cell? ⟨b,off+k * 4+3,none⟩=some (.slice a2 s.gs.length c2)):=fun w' h=>(h.cell (p:=⟨b,off+k * 4+3,none⟩) hb).trans d3
 have HGG:Hid (∀j,j<s.gs.length->∃g,s.gs[j]? = some g):=fun j hj=>⟨s.gs[j],List.getElem?_eq_getElem hj⟩
 have HGS:Hid (∀j g,s.gs[j]? = some g->Pl.gsum s.gs (j+1)=Pl.gsum s.gs j+Pl.gsz g):=fun j g=>Pl.gsum_succ
 have HGM:Hid (∀j,Pl.gsum s.gs j<=Pl.gsum s.gs s.gs.length):=Pl.gsum_le s.gs
 have HNE:Hid (∀j,j<s.gs.length->s.gs ≠ []):=fun j hj e=>by rw[e] at hj;cases hj
 have BR:Hid (∀m,Below w.heap.size wo (wo.drewN m)):=fun m=>below_drewN (Below.refl _ _) m
 clear rc rg
 generalize Pl.csz s.code=cs at *
 generalize s.code.length=cl at *
 generalize hgl:s.gs.length=G at *
 generalize hgt:Pl.gsum s.gs G=T at *
 generalize Pl.psum p k=y at *
 have HGT:=zH hgt
 clear hgt hgl
 go_wp2
 go_quiet ((go_at_call 69;exact Calls.quiet_of_same (K.out _)))
 go_wp2
 go_loopw [3,5] (fun u v wr=>∃j:Nat,j<=G/\v=.int .i64 j/\u=.int .i64 (L+y+cs+G+Pl.gsum s.gs j:Nat)/\Hid (Below w.heap.size wo wr)) (fun _ v _=>G-(intOf v).toNat)
 case atStart=>exact⟨0,Nat.zero_le _,rfl,by simp[Pl.gsum];omega,BR.out _⟩
 obtain⟨j,hj,rfl,rfl,hbx⟩:=hrel
 have e3:=HD3.out _ hbx.out
 by_cases hlj:j<G
 rotate_left 1
 ·obtain rfl:j=G:=by omega
  have HF:Hid (Below w.heap.size w wr):=hbel.out.trans hbx.out
  clear HRG HD3 HGG HGS HGM HNE BR K
  have EY:Hid (L+Pl.psum p (k+1)=L+y+cs+j+Pl.gsum s.gs j):=by show _=_;rw[N.out,ESZ.out,HGT.out];omega
  go_wp2
  go_roundw
  case rel=>exact⟨k+1,by omega,by go_num,by rw[EY.out],HF.out⟩
  simp[intOf];omega
 obtain⟨g,hg⟩:=HGG.out j hlj
 obtain⟨b2,o2,hb2,rfl,hcg⟩:=(HRG.out _ hbx.out).resolve_left (HNE.out j hlj)
 obtain⟨t1,t2,u1,u2,hgd⟩:=hcg j g hg
 have NG:=zH (HGS.out j g hg)
 have MG:=HGM.out (j+1)
 rw[NG.out] at MG
 obtain⟨g0,g1,r0,r1⟩:=hgd
 have EG:Pl.gsz g=Pl.csz g.test+Pl.csz g.thn:=rfl
 rw[EG] at NG MG
 have K1:Hid (∀m,Calls Tryz.prog 69 #[.slice t1 g.test.length u1] (wr.drewN m) fun e w'=>e=.returned (.int .i64 (Pl.csz g.test:Nat))/\w'=wr.drewN m):=fun m=>l3Size_rd g.test t1 u1 w.heap.size oM (wr.drewN m) (r0.keep (below_drewN (Below.refl _ _) m))
 have K2:Hid (∀m,Calls Tryz.prog 69 #[.slice t2 g.thn.length u2] (wr.drewN m) fun e w'=>e=.returned (.int .i64 (Pl.csz g.thn:Nat))/\w'=wr.drewN m):=fun m=>l3Size_rd g.thn t2 u2 w.heap.size oM (wr.drewN m) (r1.keep (below_drewN (Below.refl _ _) m))
 have BX:Hid (∀m,Below w.heap.size wo (wr.drewN m)):=fun m=>below_drewN hbx.out m
 clear HRG HD3 HGG HGS HGM HNE BR hg hcg r0 r1 EG K
 generalize Pl.csz g.test=x1 at *
 generalize Pl.csz g.thn=x2 at *
 generalize g.test.length=l1 at *
 generalize g.thn.length=l2 at *
 generalize Pl.gsum s.gs j=z at *
 go_wp2
 go_quiet (first | (go_at_call 69;with_reducible exact Calls.quiet_of_same (K1.out _)) | (go_at_call 69;with_reducible exact Calls.quiet_of_same (K2.out _)))
 go_wp2
 go_roundw
 case rel=>exact⟨j+1,by omega,by go_num,by rw[NG.out];go_num,BX.out _⟩
 simp[intOf];omega
end Go.Proofs.YtbiiicbfpcfgdaaGreatDoor
