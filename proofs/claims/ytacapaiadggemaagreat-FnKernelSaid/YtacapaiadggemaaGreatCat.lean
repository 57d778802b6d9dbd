import Derived.Test.YtacapaiadggemaaGreatOk
import Derived.Deep.RegionWith
import Derived.Defers
import Derived.Recover
import Derived.Laws.Pointers
namespace Go.Proofs.YtacapaiadggemaaGreat
open Go.RowKit
set_option linter.unusedVariables false
theorem cellCount_fits (B:Nat) (v:Value) (zs:List Int) (w:World) (hf:Pl.fitsB zs=true) (h:Rd B w v zs) :
  Calls Tryz.prog 81 #[v] w fun e w'=>e=.returned (.int .i64 (Pl.prodC zs))/\w'=w:=by
 rw [Pl.prod_eq hf]
 refine cellCount_any B v zs w ?_ h
 simp only [Pl.fitsB,Bool.and_eq_true] at hf
 exact hf.1
theorem implOk_no (v0 v1:Value) (sh:List Int) (w:World) (hl0:sh.length<=1048576) (h0:Rd w.heap.size w v0 sh) (hf:Pl.fitsB sh=false) :
  Calls Tryz.prog 35 #[.agg #[v0,v1]] w fun e w'=>e=.returned (.bool false)/\Below w.heap.size w w':=by
 have K:Hid (∀n,Calls Tryz.prog 80 #[v0] ((w.alloc (.cells #[v0,v1] 25)).drewN n) fun e w'=>e=.returned (.bool false)/\w'=(w.alloc (.cells #[v0,v1] 25)).drewN n):=fun n=>by
  have:=shapeFits_any w.heap.size v0 sh _ hl0 ((h0.alloc (.cells #[v0,v1] 25)).drewN n)
  rw [hf] at this; exact this
 clear h0 hf
 go_enter Tryz.func35,Tryz.ntmps35
 go_wp2
 go_quiet ((go_at_call 80; exact Calls.quiet_of_same (K.out _)))
 go_wp2
 go_ret
 exact ⟨rfl,below_drewN ((Below.refl _ _).alloc (Nat.le_refl _) _) _⟩
theorem implOk_len (v0:Value) (a1:Option Addr) (n1 c1:Nat) (sh:List Int) (w:World) (hl0:sh.length<=1048576) (hl1:n1<=1048576) (h0:Rd w.heap.size w v0 sh) (hf:Pl.fitsB sh=true) (hn:¬(n1:Int)=Pl.prodC sh) :
  Calls Tryz.prog 35 #[.agg #[v0,.slice a1 n1 c1]] w fun e w'=>e=.returned (.bool false)/\Below w.heap.size w w':=by
 have K:Hid (∀n,Calls Tryz.prog 80 #[v0] ((w.alloc (.cells #[v0,.slice a1 n1 c1] 25)).drewN n) fun e w'=>e=.returned (.bool true)/\w'=(w.alloc (.cells #[v0,.slice a1 n1 c1] 25)).drewN n):=fun n=>by
  have:=shapeFits_any w.heap.size v0 sh _ hl0 ((h0.alloc (.cells #[v0,.slice a1 n1 c1] 25)).drewN n)
  rw [hf] at this; exact this
 have K2:Hid (∀n,Calls Tryz.prog 81 #[v0] ((w.alloc (.cells #[v0,.slice a1 n1 c1] 25)).drewN n) fun e w'=>e=.returned (.int .i64 (Pl.prodC sh))/\w'=(w.alloc (.cells #[v0,.slice a1 n1 c1] 25)).drewN n):=fun n =>
  cellCount_fits w.heap.size v0 sh _ hf ((h0.alloc (.cells #[v0,.slice a1 n1 c1] 25)).drewN n)
 clear h0 hf
 generalize Pl.prodC sh=p at *
 have hne:((n1:Int) != p)=true:=by rw [bne_iff_ne]; exact hn
 clear hn
 go_enter Tryz.func35,Tryz.ntmps35
 go_wp2
 go_quiet ((first | (go_at_call 80; exact Calls.quiet_of_same (K.out _)) | (go_at_call 81; exact Calls.quiet_of_same (K2.out _))))
 go_wp2
 go_ret
 exact ⟨rfl,below_drewN ((Below.refl _ _).alloc (Nat.le_refl _) _) _⟩
theorem implOk_core (v0:Value) (b off c1:Nat) (sh da:List Int) (w:World) (hl0:sh.length<=1048576) (hl1:da.length<=1048576) (h0:Rd w.heap.size w v0 sh) (hf:Pl.fitsB sh=true) (hn:(da.length:Int)=Pl.prodC sh)
  (hb:b<w.heap.size) (hc:∀i,i<da.length->w.cell? ⟨b,off+i,none⟩=some (.int .i64 (da.getD i 0))) :
  Calls Tryz.prog 35 #[.agg #[v0,.slice (some ⟨b,off,none⟩) da.length c1]] w fun e w'=>e=.returned (.bool (da.all Pl.valB))/\Below w.heap.size w w':=by
 generalize hm:da.length=n1 at *
 have Hm:Hid (da.length=n1):=hm
 clear hm
 generalize hV:Value.slice (some ⟨b,off,none⟩) n1 c1=V
 have HV:Hid (Value.slice (some ⟨b,off,none⟩) n1 c1=V):=hV
 have K:Hid (∀n,Calls Tryz.prog 80 #[v0] ((w.alloc (.cells #[v0,V] 25)).drewN n) fun e w'=>e=.returned (.bool true)/\w'=(w.alloc (.cells #[v0,V] 25)).drewN n):=fun n=>by
  have:=shapeFits_any w.heap.size v0 sh _ hl0 ((h0.alloc (.cells #[v0,V] 25)).drewN n)
  rw [hf] at this; exact this
 have K2:Hid (∀n,Calls Tryz.prog 81 #[v0] ((w.alloc (.cells #[v0,V] 25)).drewN n) fun e w'=>e=.returned (.int .i64 (Pl.prodC sh))/\w'=(w.alloc (.cells #[v0,V] 25)).drewN n):=fun n =>
  cellCount_fits w.heap.size v0 sh _ hf ((h0.alloc (.cells #[v0,V] 25)).drewN n)
 clear h0 hf
 subst hV
 clear HV
 generalize Pl.prodC sh=p at *
 have hne:((n1:Int) != p)=false:=by simp [hn]
 clear hn
 have Hc:Hid (∀o m,∀i,i<n1->((w.alloc o).drewN m).cell? ⟨b,off+i,none⟩=some (.int .i64 (da.getD i 0))):=fun o m i hi =>
  ((below_drewN ((Below.refl w.heap.size w).alloc (Nat.le_refl _) o) m).cell (p:=⟨b,off+i,none⟩) hb).trans (hc i hi)
 clear hc
 go_enter Tryz.func35,Tryz.ntmps35
 go_wp2
 go_quiet ((first | (go_at_call 80; exact Calls.quiet_of_same (K.out _)) | (go_at_call 81; exact Calls.quiet_of_same (K2.out _))))
 go_wp2
 go_loopw [4,21] (fun _ i wr=>∃k:Nat,k<=n1/\i=.int .i64 k/\Hid ((da.take k).all Pl.valB=true)/\Hid (∀i,i<n1->wr.cell? ⟨b,off+i,none⟩=some (.int .i64 (da.getD i 0)))/\Hid (Below w.heap.size w wr)) (fun _ i _=>n1-(intOf i).toNat)
 case atStart=>exact ⟨0,Nat.zero_le _,rfl,rfl,Hc.out _ _,below_drewN ((Below.refl _ _).alloc (Nat.le_refl _) _) _⟩
 obtain ⟨k,hk,rfl,hall,hcs,hbel⟩:=hrel
 clear Hc K K2 hne
 by_cases hlt:k<n1
 rotate_left 1
 ·have HA:Hid (da.all Pl.valB=true):=by
   have:=hall.out
   rw [List.take_of_length_le (by rw [Hm.out]; omega)] at this
   exact this
  go_wp2
  go_ret
  exact ⟨ret_bool HA.out.symm,hbel.out⟩
 have hck:=hcs.out k hlt
 have HS:Hid ((da.take (k+1)).all Pl.valB=((da.take k).all Pl.valB && Pl.valB (da.getD k 0))):=Pl.all_snoc da Pl.valB k (by rw [Hm.out]; exact hlt)
 have HF:Hid (Pl.valB (da.getD k 0)=false->da.all Pl.valB=false):=Pl.all_false (by rw [Hm.out]; exact hlt)
 generalize da.getD k 0=x at *
 by_cases hx:Pl.valB x=true
 ·have V:Hid (∀w,Calls Tryz.prog 82 #[.int .i64 x] w fun e w'=>e=.returned (.bool true)/\w'=w):=fun w=>by
   have:=valueFits_any x w
   rw [hx] at this; exact this
  have HX:Hid (Pl.valB x=true):=hx
  clear hx
  go_wp2_with (go_at_call 82; refine (V.out _).mono ?_; rintro e w' ⟨rfl,rfl⟩)
  go_roundw
  case rel=>exact ⟨k+1,by omega,by go_num,by show _=_; rw [HS.out,hall.out,HX.out]; rfl,hcs,hbel⟩
  simp [intOf]; omega
 have hx':Pl.valB x=false:=by simpa using hx
 have V:Hid (∀w,Calls Tryz.prog 82 #[.int .i64 x] w fun e w'=>e=.returned (.bool false)/\w'=w):=fun w=>by
  have:=valueFits_any x w
  rw [hx'] at this; exact this
 have HX:Hid (Pl.valB x=false):=hx'
 clear hx hx'
 go_wp2_with (go_at_call 82; refine (V.out _).mono ?_; rintro e w' ⟨rfl,rfl⟩)
 go_ret
 exact ⟨ret_bool (HF.out HX.out).symm,hbel.out⟩
theorem implOk_nil (v0:Value) (a1:Option Addr) (c1:Nat) (sh:List Int) (w:World) (hl0:sh.length<=1048576) (h0:Rd w.heap.size w v0 sh) (hf:Pl.fitsB sh=true) (hn:(0:Int)=Pl.prodC sh) :
  Calls Tryz.prog 35 #[.agg #[v0,.slice a1 0 c1]] w fun e w'=>e=.returned (.bool true)/\Below w.heap.size w w':=by
 have K:Hid (∀n,Calls Tryz.prog 80 #[v0] ((w.alloc (.cells #[v0,.slice a1 0 c1] 25)).drewN n) fun e w'=>e=.returned (.bool true)/\w'=(w.alloc (.cells #[v0,.slice a1 0 c1] 25)).drewN n):=fun n=>by
  have:=shapeFits_any w.heap.size v0 sh _ hl0 ((h0.alloc (.cells #[v0,.slice a1 0 c1] 25)).drewN n)
  rw [hf] at this; exact this
 have K2:Hid (∀n,Calls Tryz.prog 81 #[v0] ((w.alloc (.cells #[v0,.slice a1 0 c1] 25)).drewN n) fun e w'=>e=.returned (.int .i64 0)/\w'=(w.alloc (.cells #[v0,.slice a1 0 c1] 25)).drewN n):=fun n=>by
  have:=cellCount_fits w.heap.size v0 sh _ hf ((h0.alloc (.cells #[v0,.slice a1 0 c1] 25)).drewN n)
  rw [<- hn] at this; exact this
 clear h0 hf hn
 go_enter Tryz.func35,Tryz.ntmps35
 go_wp2
 go_quiet ((first | (go_at_call 80; exact Calls.quiet_of_same (K.out _)) | (go_at_call 81; exact Calls.quiet_of_same (K2.out _))))
 go_wp2
 go_loopw [4,21] (fun _ i wr=>i=.int .i64 0/\Hid (Below w.heap.size w wr)) (fun _ _ _=>0)
 case atStart=>exact ⟨rfl,below_drewN ((Below.refl _ _).alloc (Nat.le_refl _) _) _⟩
 obtain ⟨rfl,hbel⟩:=hrel
 clear K K2
 go_wp2
 go_ret
 exact ⟨rfl,hbel.out⟩
theorem implOk_any (v0 v1:Value) (sh da:List Int) (w:World) (hl0:sh.length<=1048576) (hl1:da.length<=1048576) (h0:Rd w.heap.size w v0 sh) (h1:Rd w.heap.size w v1 da) :
  Calls Tryz.prog 35 #[.agg #[v0,v1]] w fun e w'=>e=.returned (.bool (Pl.okB sh da))/\Below w.heap.size w w':=by
 unfold Pl.okB
 by_cases hf:Pl.fitsB sh=true
 ·by_cases hn:(da.length:Int)=Pl.prodC sh
  ·have hd:decide ((da.length:Int)=Pl.prodC sh)=true:=decide_eq_true hn
   rw [hf,hd,Bool.true_and,Bool.true_and]
   obtain ⟨a1,c1,rfl,h1⟩:=h1
   rcases h1 with h1 | ⟨b,off,hb,rfl,hc⟩
   ·obtain rfl:=List.length_eq_zero_iff.1 h1
    exact implOk_nil v0 a1 c1 sh w hl0 h0 hf (by simpa using hn)
   exact implOk_core v0 b off c1 sh da w hl0 hl1 h0 hf hn hb hc
  have hd:decide ((da.length:Int)=Pl.prodC sh)=false:=decide_eq_false hn
  rw [hf,hd,Bool.true_and,Bool.false_and]
  obtain ⟨a1,c1,rfl,h1⟩:=h1
  exact implOk_len v0 a1 da.length c1 sh w hl0 hl1 h0 hf hn
 have hf':Pl.fitsB sh=false:=by simpa using hf
 rw [hf',Bool.false_and,Bool.false_and]
 exact implOk_no v0 v1 sh w hl0 h0 hf'
theorem hideP {p:Prop} (h:p):Hid p:=h
set_option maxRecDepth 100000
set_option maxHeartbeats 16000000
abbrev thrown (c:Int):PanicEntry:={ v:=.iface 83 (.int .i64 c),recovered:=false }
theorem refuse_no (c:Int) (w:World):Calls Tryz.prog 73 #[.bool false,.int .i64 c] w fun e w'=>e=.returned (.tuple #[])/\w'=w:=by
 go_enter Tryz.func73,Tryz.ntmps73
 go_wp2
 go_end0
 exact ⟨rfl,rfl⟩
theorem refuse_yes (c:Int) (w:World):Calls Tryz.prog 73 #[.bool true,.int .i64 c] w fun e w'=>e=.panicked [thrown c]/\w'=w:=by
 go_enter Tryz.func73,Tryz.ntmps73
 go_wp2
 exact ⟨rfl,rfl,rfl⟩
theorem as71 (v:Value) (w:World):(Instr.typeAssert (.iface 83 v) 20 83 true).run Tryz.prog w=.ok (.tuple #[v,.bool true]) w:=by kernel_rfl
theorem asNil (w:World):(Instr.typeAssert .nilIface 20 83 true).run Tryz.prog w=.ok (.tuple #[.int .i64 0,.bool false]) w:=by kernel_rfl
theorem undef15:(Array.replicate 15 undef:Array Value)=#[undef,undef,undef,undef,undef,undef,undef,undef,undef,undef,undef,undef,undef,undef,undef]:=rfl
theorem catch_panicking (p q:Nat) (c:Int) (v0 v1 v2:Value) (older:List PanicEntry) (w:World) (hp0:w.cell? ⟨p,0,none⟩=some v0) (hp1:w.cell? ⟨p,1,none⟩=some v1) (hq:w.cell? ⟨q,0,none⟩=some v2)
  (fp:∀o,w.frozen? ⟨p,o,none⟩=false) (fq:∀o,w.frozen? ⟨q,o,none⟩=false) (hpq:¬p=q) :
  CallsD Tryz.prog 72 #[.pointer (some ⟨p,0,none⟩),.pointer (some ⟨q,0,none⟩)] (.panicking (thrown c::older)) w fun e u' w' =>
   e=.returned (.tuple #[])/\u'=.panicking ({ v:=.iface 83 (.int .i64 c),recovered:=true }::older)/\w'=((w.setCell ⟨p,0,none⟩ (.slice none 0 0)).setCell ⟨p,1,none⟩ (.slice none 0 0)).setCell ⟨q,0,none⟩ (.int .i64 c):=by
 refine callsD_of_wpS Tryz.func72 rfl fun c₀ cs hu=>?_
 apply wpS_seq
 apply wpS_region
 simp [wpOpsS,go_sem,recoverD,hu,Tryz.ntmps72,Exit.thenS]
 refine wpS_of_wp ?_
 have h71:=as71
 have hnil:=asNil
 rw [undef15]
 simp
 go_wp2
 simp [bodyPostS,results,Tryz.results72]
theorem catch_idle (p q:Addr) (w:World) :
  CallsD Tryz.prog 72 #[.pointer (some p),.pointer (some q)] .returning w fun e u' w'=>e=.returned (.tuple #[])/\u'=.returning/\w'=w:=by
 refine callsD_of_wpS Tryz.func72 rfl fun c₀ cs hu=>?_
 apply wpS_seq
 apply wpS_region
 simp [wpOpsS,go_sem,recoverD,hu,Tryz.ntmps72,Exit.thenS]
 refine wpS_of_wp ?_
 have h71:=as71
 have hnil:=asNil
 rw [undef15]
 simp
 go_wp2
 cases c₀
 simp_all [bodyPostS,results,Tryz.results72]
def Own (B:Nat) (w:World) (u:Value) (zs:List Int):Prop :=
 ∃ao cap,u=.slice ao zs.length cap/\(zs.length=0\/∃g off,(B<=g/\zs.length<=cap/\cap<=9223372036854775807/\off=0)/\g<w.heap.size/\ao=some ⟨g,off,none⟩/\∀i,i<zs.length->w.cell? ⟨g,off+i,none⟩=some (.int .i64 (zs.getD i 0))/\w.frozen? ⟨g,off+i,none⟩=false)
def Apart (u0 u1:Value) (sh da:List Int):Prop:=sh.length=0\/da.length=0\/∀b,u0.ownBlock=some b->u1.ownBlock=some b->False
def Res (B:Nat) (w:World) (u0 u1:Value) (sh da:List Int):Prop:=Own B w u0 sh/\Own B w u1 da/\Apart u0 u1 sh da
def KPost (W:World) (c:Int) (sh da:List Int) (e:Ending) (w':World):Prop :=
 Below W.heap.size W w'/\((c=0/\∃u0 u1,e=.returned (.agg #[u0,u1])/\Res W.heap.size w' u0 u1 sh da)\/(¬c=0/\sh=[]/\da=[]/\e=.panicked [thrown c]))
def FPost (W:World) (c:Int) (sh da:List Int) (e:Ending) (w':World):Prop :=
 Below W.heap.size W w'/\∃u0 u1,e=.returned (.tuple #[.agg #[u0,u1],.int .i64 c])/\Res W.heap.size w' u0 u1 sh da
theorem Own.base {B B':Nat} {w:World} {u:Value} {zs:List Int} (h:Own B w u zs) (hb:B'<=B):Own B' w u zs:=by
 obtain ⟨ao,cap,rfl,h⟩:=h
 refine ⟨ao,cap,rfl,?_⟩
 rcases h with h | ⟨g,off,h1,h2,h3,h4⟩
 ·exact .inl h
 exact .inr ⟨g,off,by omega,h2,h3,h4⟩
theorem Own.form {B:Nat} {w:World} {u:Value} {zs:List Int} (h:Own B w u zs):∃ao cap,u=.slice ao zs.length cap:=by
 obtain ⟨ao,cap,e,_⟩:=h
 exact ⟨ao,cap,e⟩
theorem Own.nil (B:Nat) (w:World):Own B w (.slice none 0 0) []:=⟨none,0,rfl,.inl rfl⟩
theorem Own.store {B:Nat} {w:World} {u:Value} {zs:List Int} (h:Own B w u zs) {b o:Nat} (hb:b<B) (v:Value):Own B (w.setCell ⟨b,o,none⟩ v) u zs:=by
 obtain ⟨ao,cap,rfl,h⟩:=h
 refine ⟨ao,cap,rfl,?_⟩
 rcases h with h | ⟨g,off,h1,h2,h3,h4⟩
 ·exact .inl h
 refine .inr ⟨g,off,h1,by simpa using h2,h3,fun i hi=>?_⟩
 have e:=Below.heap_setCell w ⟨b,o,none⟩ v g (by simp; omega)
 exact ⟨(World.cell?_of_block (w:=w) (a:=⟨g,off+i,none⟩) e).trans (h4 i hi).1,(World.frozen?_of_block (w:=w) (a:=⟨g,off+i,none⟩) e).trans (h4 i hi).2⟩
theorem Own.keep {B:Nat} {w w':World} {u:Value} {zs:List Int} (h:Own B w u zs) (hb:Below w.heap.size w w'):Own B w' u zs:=by
 obtain ⟨ao,cap,rfl,h⟩:=h
 refine ⟨ao,cap,rfl,?_⟩
 rcases h with h | ⟨g,off,h1,h2,h3,h4⟩
 ·exact .inl h
 exact .inr ⟨g,off,h1,Nat.lt_of_lt_of_le h2 hb.size,h3,fun i hi=>⟨(hb.cell (p:=⟨g,off+i,none⟩) h2).trans (h4 i hi).1,(hb.frozen (p:=⟨g,off+i,none⟩) h2).trans (h4 i hi).2⟩⟩
theorem Own.rd {B:Nat} {w:World} {u:Value} {zs:List Int} (h:Own B w u zs):Rd w.heap.size w u zs:=by
 obtain ⟨ao,cap,rfl,h⟩:=h
 refine ⟨ao,cap,rfl,?_⟩
 rcases h with h | ⟨g,off,h1,h2,h3,h4⟩
 ·exact .inl h
 exact .inr ⟨g,off,h2,h3,fun i hi=>(h4 i hi).1⟩
theorem own_of_owns {base g n cap:Nat} {w:World} {zs:List Int} (h:w.ownsRow base 3 1 (.slice (some ⟨g,0,none⟩) n cap) n (zs.map (Value.int .i64))) (hn:zs.length=n):Own base w (.slice (some ⟨g,0,none⟩) n cap) zs:=by
 have hcap:n<=cap/\cap<=9223372036854775807:=by
  rcases h.2 with ⟨e,_⟩ | ⟨g',cap',cur,e,_,_,h1,h2,_⟩
  ·simp at e
  simp only [Value.slice.injEq] at e
  obtain ⟨_,_,rfl⟩:=e
  unfold maxLen at h2
  omega
 refine ⟨_,_,by rw [hn],.inr ⟨g,0,⟨(h.lt g rfl).1,by omega⟩,(h.lt g rfl).2,rfl,fun i hi=>⟨?_,by rw [Nat.zero_add]; exact h.frozenAt i⟩⟩⟩
 rw [Nat.zero_add,h.cellAt i (by omega)]
 simp [List.getD,hi]
theorem answer_any (f:Nat) (cap:Array Value) (c:Int) (sh da:List Int) (w:World) (hcf:∀w,(callFunc f cap).run Tryz.prog w=.ok (.enter f cap) w)
  (hk:Calls Tryz.prog f cap ((w.alloc (.cells #[.slice none 0 0,.slice none 0 0] 25)).alloc (.cells #[.int .i64 0] 3)) (KPost ((w.alloc (.cells #[.slice none 0 0,.slice none 0 0] 25)).alloc (.cells #[.int .i64 0] 3)) c sh da)) :
  Calls Tryz.prog 29 #[.func (.func f) #[] cap] w (FPost w c sh da):=by
 have hmf:∀(fn:Fn) (first cap:Array Value) (w:World),(Instr.makeFunc fn first cap).run Tryz.prog w=.ok (.func fn first cap) w:=fun _ _ _ _=>rfl
 have HK:=hideP hk
 clear hk
 go_enter_defers Tryz.func29,Tryz.ntmps29
 go_wp2_with fail
 refine HK.out.mono ?_
 clear hcf HK
 rintro e w1 ⟨hb,hor⟩
 have HB:Hid (Below w.heap.size w w1):=(((Below.refl _ _).alloc (Nat.le_refl _) _).alloc (by simp) _).trans (hb.mono (by simp; omega))
 have sz1:w.heap.size+1<w1.heap.size:=by have:=hb.size; simp at this; omega
 obtain ⟨hc,hf⟩:=bcell hb
 have c0:w1.cell? ⟨w.heap.size,0,none⟩=some (.slice none 0 0):=by rw [hc w.heap.size 0 (by simp; omega)]; simp [go_sem]
 have c1:w1.cell? ⟨w.heap.size,1,none⟩=some (.slice none 0 0):=by rw [hc w.heap.size 1 (by simp; omega)]; simp [go_sem]
 have c2:w1.cell? ⟨w.heap.size+1,0,none⟩=some (.int .i64 0):=by rw [hc (w.heap.size+1) 0 (by simp)]; simp [go_sem]
 have f0:∀o,w1.frozen? ⟨w.heap.size,o,none⟩=false:=fun o=>by rw [hf w.heap.size o (by simp; omega)]; simp [go_sem]
 have f1:∀o,w1.frozen? ⟨w.heap.size+1,o,none⟩=false:=fun o=>by rw [hf (w.heap.size+1) o (by simp)]; simp [go_sem]
 clear hc hf hb
 rcases hor with ⟨rfl,u0,u1,rfl,hres⟩ | ⟨hc,rfl,rfl,rfl⟩
 rotate_left 1
 ·refine leaves_cons (f:=72) (args:=#[.pointer (some ⟨w.heap.size,0,none⟩),.pointer (some ⟨w.heap.size+1,0,none⟩)]) (by simp) (by simp [go_sem]) ?_
  refine (catch_panicking w.heap.size (w.heap.size+1) c _ _ _ [] _ c0 c1 c2 f0 f1 (by omega)).mono ?_
  rintro e u' w'' ⟨rfl,rfl,rfl⟩
  refine ⟨.tuple #[.agg #[.slice none 0 0,.slice none 0 0],.int .i64 c],by simp [results,Tryz.results29,go_sem,c0,c1,c2],?_,_,_,rfl,Own.nil _ _,Own.nil _ _,.inl rfl⟩
  exact ((HB.out.setCell (by simp) _).setCell (by simp) _).setCell (by simp) _
 have HR:=hideP hres
 obtain ⟨a0,d0,e0⟩:=hres.1.form
 obtain ⟨a1,d1,e1⟩:=hres.2.1.form
 clear hres
 subst e0 e1
 go_wp2_with fail
 refine leaves_cons (f:=72) (args:=#[.pointer (some ⟨w.heap.size,0,none⟩),.pointer (some ⟨w.heap.size+1,0,none⟩)]) (by simp) (by simp [go_sem]) ?_
 refine (catch_idle _ _ _).mono ?_
 rintro e u' w'' ⟨rfl,rfl,rfl⟩
 refine ⟨.tuple #[.agg #[.slice a0 sh.length d0,.slice a1 da.length d1],.int .i64 0],by simp [results,Tryz.results29,go_sem,c0,c1,c2],?_,_,_,rfl,?_⟩
 ·exact ((HB.out.setCell (by simp) _).setCell (by simp) _).setCell (by simp) _
 have hB:w.heap.size<=w.heap.size+1+1:=by omega
 obtain ⟨r0,r1,r2⟩:=HR.out
 refine ⟨?_,?_,r2⟩
 ·refine Own.base (B:=w.heap.size+1+1) ?_ hB
  refine Own.store (Own.store (Own.store ?_ (by omega) _) (by omega) _) (by omega) _
  simpa using r0
 refine Own.base (B:=w.heap.size+1+1) ?_ hB
 refine Own.store (Own.store (Own.store ?_ (by omega) _) (by omega) _) (by omega) _
 simpa using r1
theorem Rd.form {B:Nat} {w:World} {u:Value} {zs:List Int} (h:Rd B w u zs):∃ao cap,u=.slice ao zs.length cap:=by
 obtain ⟨ao,cap,e,_⟩:=h
 exact ⟨ao,cap,e⟩
theorem ok_new (v0 v1:Value) (sh da:List Int) (wr:World) (hl0:sh.length<=1048576) (hl1:da.length<=1048576) (h0:Rd wr.heap.size wr v0 sh) (h1:Rd wr.heap.size wr v1 da) (o:Obj) :
  Calls Tryz.prog 35 #[.agg #[v0,v1]] (wr.alloc o) fun e w'=>e=.returned (.bool (Pl.okB sh da))/\Below wr.heap.size wr w':=by
 have A:Below wr.heap.size wr (wr.alloc o):=(Below.refl _ _).alloc (Nat.le_refl _) _
 refine (implOk_any v0 v1 sh da (wr.alloc o) hl0 hl1 ((h0.keep A).up (by simp)) ((h1.keep A).up (by simp))).mono ?_
 rintro e w' ⟨rfl,hb⟩
 exact ⟨rfl,A.trans (hb.mono (by simp))⟩
theorem needValid1 (b:Nat) (v0 v1:Value) (sh da:List Int) (w:World) (hl0:sh.length<=1048576) (hl1:da.length<=1048576) (hb:b<w.heap.size) (c0:w.cell? ⟨b,0,none⟩=some v0) (c1:w.cell? ⟨b,1,none⟩=some v1)
  (h0:Rd w.heap.size w v0 sh) (h1:Rd w.heap.size w v1 da) :
  Calls Tryz.prog 31 #[.slice (some ⟨b,0,none⟩) 1 1] w fun e w'=>Below w.heap.size w w'/\((Pl.okB sh da=true/\e=.returned (.tuple #[]))\/(Pl.okB sh da=false/\e=.panicked [thrown 9])):=by
 obtain ⟨a0,d0,e0⟩:=h0.form
 obtain ⟨a1,d1,e1⟩:=h1.form
 have H0:=hideP h0
 have H1:=hideP h1
 have HC0:=hideP c0
 have HC1:=hideP c1
 clear h0 h1 c0 c1
 go_enter Tryz.func31,Tryz.ntmps31
 go_wp2_with fail
 go_loopw [3,6] (fun _ i wr=>(i=.int .i64 0\/(i=.int .i64 1/\Hid (Pl.okB sh da=true)))/\Hid (Below w.heap.size w wr)) (fun _ i _=>1-(intOf i).toNat)
 case atStart=>exact ⟨.inl rfl,Below.refl _ _⟩
 obtain ⟨rfl | ⟨rfl,hok⟩,hbel⟩:=hrel
 rotate_left 1
 ·clear H0 H1 HC0 HC1 e0 e1
  go_wp2_with fail
  go_end0
  exact ⟨hbel.out,.inl ⟨hok.out,rfl⟩⟩
 have c0:wr.cell? ⟨b,0,none⟩=some (.slice a0 sh.length d0):=by rw [<- e0]; exact (hbel.out.cell (p:=⟨b,0,none⟩) hb).trans HC0.out
 have c1:wr.cell? ⟨b,1,none⟩=some (.slice a1 da.length d1):=by rw [<- e1]; exact (hbel.out.cell (p:=⟨b,1,none⟩) hb).trans HC1.out
 have K:Hid (∀o,Calls Tryz.prog 35 #[.agg #[.slice a0 sh.length d0,.slice a1 da.length d1]] (wr.alloc o) fun e w'=>e=.returned (.bool (Pl.okB sh da))/\Below wr.heap.size wr w'):=fun o=>by
  rw [<- e0,<- e1]
  exact ok_new v0 v1 sh da wr hl0 hl1 ((H0.out.keep hbel.out).up hbel.out.size) ((H1.out.keep hbel.out).up hbel.out.size) o
 have S:Hid (w.heap.size<=wr.heap.size):=hbel.out.size
 clear H0 H1 HC0 HC1 e0 e1
 go_wp2_with fail
 refine (K.out _).mono ?_
 rintro e w1 ⟨rfl,hb1⟩
 have B1:=hideP (hbel.out.trans (hb1.mono S.out))
 clear hb1 c0 c1
 by_cases hq:Pl.okB sh da=true
 ·have Hq:=hideP hq
  rw [hq]
  clear hq
  go_wp2_with (go_at_call 73; refine (refuse_no _ _).mono ?_; rintro e w' ⟨rfl,rfl⟩)
  go_roundw
  case rel=>exact ⟨.inr ⟨rfl,Hq⟩,B1⟩
  simp [intOf]
 have hq':Pl.okB sh da=false:=by simpa using hq
 have Hq:=hideP hq'
 rw [hq']
 clear hq hq'
 go_wp2_with (go_at_call 73; refine (refuse_yes _ _).mono ?_; rintro e w' ⟨rfl,rfl⟩)
 exact ⟨rfl,B1.out,.inr ⟨Hq.out,rfl⟩⟩
theorem run_append_make_nil {P:Program} (w:World) (t it ty e:TypeId) (i:TypeInfo) (z:Value) (ht:P.underlying t=some (.slice e)) (hit:P.underlying it=some (.int .i64)) (hi:P.info? e=some i) (hz:i.zero=some z) (hs:i.size=1)
  (n:Nat) (h0:0<n) (h63:(n:Int)<=9223372036854775807) (h48:n * i.bytes<=281474976710656) :
  (Builtin.append_ #[t,it] ty #[.slice none 0 0,.int .i64 (n:Int)]).run P w =
   .ok (.slice (some ⟨w.heap.size,0,none⟩) n (grownCap w n 0 e)) (w.drew.alloc (.cells (Builtin.zeroCells z.cells n++Builtin.zeroCells z.cells (grownCap w n 0 e-n)) e)):=by
 have hn:n ≠ 0:=by omega
 have h63':¬(9223372036854775807<(n:Int)):=by omega
 have h48':¬(281474976710656<Builtin.nextslicecap n 0 * i.bytes):=by rw [nextslicecap_zero h0]; omega
 have hw:IntKind.i64.wrap (n:Int)=(n:Int):=by
  rw [IntKind.wrap_i64]; omega
 have hb:¬(281474976710656<(n:Int) * (i.bytes:Int)):=by
  have:((n * i.bytes:Nat):Int)<=281474976710656:=by omega
  rw [Int.natCast_mul] at this; omega
 have hneg:¬((n:Int)<0):=by omega
 simp [Builtin.append_,run_underlying ht,run_underlying hit,sizeOf,typeInfo,zeroValue,hi,hz,hs,hn,h63',h48',hw,hb,hneg,asInt,asIntOf,Question.forced,run_firstCells_none,newRow,grownCap]
theorem wpList_append_eq {P:Program} (w w':World) {ops:Array Oper} {rest:List Oper} {o:Oper} {a:Act} {Q:Exit->Act->World->Prop} (hg:o.guard=none) (s x:Operand) (ts:Array TypeId)
  (hop:o.op=Op.call { callee:=Callee.builtin Builtin.append,args:=#[s,x],argTypes:=ts }) (vs vx v:Value) (hs:a.eval s=vs) (hx:a.eval x=vx) (hrun:(Builtin.append_ ts o.type #[vs,vx]).run P w=.ok v w')
  (hK:wpList P ops Q rest (a.put o.dst v) w'):wpList P ops Q (o::rest) a w:=by
 refine wpList_plain hg fun K hK'=>?_
 unfold Oper.wp
 simp [execOp,hop,resolve,invoke,builtin,hs,hx,hrun,Result.andThen]
 exact hK' _ _ hK
theorem grow_zero (w:World):Calls Tryz.prog 147 #[.slice none 0 0,.int .i64 0] w fun e w'=>e=.returned (.slice none 0 0)/\w'=w:=by
 go_enter Tryz.func147,Tryz.ntmps147
 go_wp2
 go_ret
 exact ⟨rfl,rfl⟩
theorem grow_pos (n:Nat) (w:World) (h0:0<n) (h1:n<=4194304):Calls Tryz.prog 147 #[.slice none 0 0,.int .i64 (n:Int)] w fun e w'=>∃cap,e=.returned (.slice (some ⟨w.heap.size,0,none⟩) 0 cap)/\n<=cap /\
  w'.ownsRow w.heap.size 3 1 (.slice (some ⟨w.heap.size,0,none⟩) 0 cap) 0 []/\Below w.heap.size w w':=by
 obtain ⟨i0,hi,hz0,hz1,hz2⟩:=info_parts Tryz.info3
 have hrun:=run_append_make_nil (P:=Tryz.prog) w 23 3 23 3 i0 (.int .i64 0) Tryz.underlying23 Tryz.underlying3 hi hz0 hz1 n h0 (by omega) (by rw [hz2]; omega)
 have hge:=grownCap_ge w n 0 3
 have hle:=grownCap_le_maxLen w n 0 3 (by unfold maxLen; omega)
 have R:Hid ((w.drew.alloc (.cells (Builtin.zeroCells (Value.int .i64 0).cells n++Builtin.zeroCells (Value.int .i64 0).cells (grownCap w n 0 3-n)) 3)).ownsRow w.heap.size 3 1 (.slice (some ⟨w.heap.size,0,none⟩) 0 (grownCap w n 0 3)) 0 []):=by
  refine World.ownsRow_made (base:=w.heap.size) (e:=3) (size:=1) w.drew _ _ (Nat.le_refl _) hle ?_
  have e:(Value.int .i64 0).cells.size=1:=rfl
  simp [size_zeroCells,e]
  omega
 have Hge:=hideP hge
 clear hi hz0 hz1 hz2 hge hle
 generalize Builtin.zeroCells (Value.int .i64 0).cells n++Builtin.zeroCells (Value.int .i64 0).cells (grownCap w n 0 3-n)=cs at *
 generalize grownCap w n 0 3=cap at *
 have HR:=hideP hrun
 clear hrun
 go_enter Tryz.func147,Tryz.ntmps147
 go_wp2_with (at_builtin; refine wpList_append_eq _ _ rfl _ _ _ rfl _ _ _ rfl rfl HR.out ?_)
 go_ret
 exact ⟨cap,rfl,Hge.out,R.out,(Below.refl _ _).drew.alloc (Nat.le_refl _) _⟩
theorem append_rd {base B:Nat} (w:World) (v:Value) (n:Nat) (ys:List Int) (hown:w.ownsRow base 3 1 v n (ys.map (Value.int .i64))) (u:Value) (xs:List Int) (hrd:Rd B w u xs) (hbd:n+xs.length<=16777216) (hbase:base<=w.heap.size) (ty:TypeId) :
  ∃v' w',(Builtin.append_ #[23,23] ty #[v,u]).run Tryz.prog w=.ok v' w'/\w'.ownsRow base 3 1 v' (n+xs.length) ((ys++xs).map (Value.int .i64))/\Below base w w':=by
 obtain ⟨i0,hi,hz0,hz1,hz2⟩:=info_parts Tryz.info3
 obtain ⟨ao,cap,rfl,h⟩:=hrd
 rcases h with h | ⟨b,off,hB,rfl,hc⟩
 ·obtain rfl:=List.length_eq_zero_iff.1 h
  refine ⟨v,w,?_,by simpa using hown,Below.refl _ _⟩
  rcases hown.2 with ⟨rfl,rfl⟩ | ⟨g,cp,cur,rfl,_,_,hnc,_⟩
  ·cases ao <;> simp [Builtin.append_,run_underlying Tryz.underlying23,sizeOf,typeInfo,hi,Builtin.lenOf,Builtin.firstCells,loadCells,loadCellsFrom]
  cases ao <;> simp [Builtin.append_,run_underlying Tryz.underlying23,sizeOf,typeInfo,hi,Builtin.lenOf,Builtin.firstCells,loadCells,loadCellsFrom,hnc,storeCells]
 obtain ⟨v',w',hr,ho,hg,_⟩:=run_append_own (P:=Tryz.prog) w base 23 ty 3 i0 (.int .i64 0) 1 8 Tryz.underlying23 hi hz0 hz1 hz2 rfl (by decide) v n _ hown ⟨b,off,none⟩ xs.length cap (xs.map (Value.int .i64)) (by simp)
  (by
   intro j x hj
   rw [List.getElem?_map] at hj
   obtain ⟨y,hy,rfl⟩:=Option.map_eq_some_iff.1 hj
   have hlt:j<xs.length:=(List.getElem?_eq_some_iff.1 hy).1
   rw [Addr.add_lit,hc j hlt]
   simp [List.getD,hy])
  (ints_oneCell _ _) (by unfold maxLen; omega) (by omega) hbase
 refine ⟨v',w',hr,by simpa using ho,?_⟩
 exact (Below.refl base w).grown hg hbase (fun k hk=>(hown.lt k hk).1)
theorem wpList_append_rd {base B:Nat} (w:World) {ops:Array Oper} {rest:List Oper} {o:Oper} {a:Act} {Q:Exit->Act->World->Prop} (hg:o.guard=none) (s x:Operand)
  (hop:o.op=Op.call { callee:=Callee.builtin Builtin.append,args:=#[s,x],argTypes:=#[23,23] }) (v u:Value) (hs:a.eval s=v) (hx:a.eval x=u) (n:Nat) (ys xs:List Int)
  (hown:w.ownsRow base 3 1 v n (ys.map (Value.int .i64))) (hrd:Rd B w u xs) (hbd:n+xs.length<=16777216) (hbase:base<=w.heap.size)
  (hK:∀v' w',w'.ownsRow base 3 1 v' (n+xs.length) ((ys++xs).map (Value.int .i64))->Below base w w'->wpList Tryz.prog ops Q rest (a.put o.dst v') w'):wpList Tryz.prog ops Q (o::rest) a w:=by
 obtain ⟨v',w',hr,ho,hb⟩:=append_rd w v n ys hown u xs hrd hbd hbase o.type
 exact wpList_append_eq w w' hg s x _ hop v u v' hs hx hr (hK v' w' ho hb)
theorem own_of_any {base n:Nat} {w:World} {v:Value} {zs:List Int} (h:w.ownsRow base 3 1 v n (zs.map (Value.int .i64))):Own base w v zs:=by
 have hn:zs.length=n:=by have:=h.1; simpa using this
 rcases h.2 with ⟨rfl,rfl⟩ | ⟨g,cap,cur,rfl,r⟩
 ·obtain rfl:=List.length_eq_zero_iff.1 hn
  exact Own.nil _ _
 exact own_of_owns h hn
theorem grow_any (n:Nat) (w:World) (h1:n<=4194304):Calls Tryz.prog 147 #[.slice none 0 0,.int .i64 (n:Int)] w fun e w'=>∃v,e=.returned v/\w'.ownsRow w.heap.size 3 1 v 0 (([]:List Int).map (Value.int .i64))/\Below w.heap.size w w':=by
 by_cases h0:n=0
 ·subst h0
  refine (grow_zero w).mono ?_
  rintro e w' ⟨rfl,rfl⟩
  exact ⟨_,rfl,World.ownsRow_nil _ _ _ _,Below.refl _ _⟩
 refine (grow_pos n w (by omega) h1).mono ?_
 rintro e w' ⟨cap,rfl,_,ho,hb⟩
 exact ⟨_,rfl,ho,hb⟩
theorem concat1 (b:Nat) (u:Value) (xs:List Int) (w:World) (hl:xs.length<=1048576) (hb:b<w.heap.size) (c0:w.cell? ⟨b,0,none⟩=some u) (h0:Rd w.heap.size w u xs) :
  Calls Tryz.prog 130 #[.slice (some ⟨b,0,none⟩) 1 1] w fun e w'=>∃v,e=.returned v/\w'.ownsRow w.heap.size 3 1 v xs.length (xs.map (Value.int .i64))/\Below w.heap.size w w':=by
 obtain ⟨a0,d0,e0⟩:=h0.form
 have H0:=hideP h0
 have HC0:=hideP c0
 have HE:=hideP e0
 rw [e0] at c0
 clear h0 e0
 go_enter Tryz.func130,Tryz.ntmps130
 go_wp2_with fail
 go_loop [3,5,11] (fun s _ i=>(i=.int .i64 0/\s=.int .i64 0)\/(i=.int .i64 1/\s=.int .i64 xs.length)) (fun _ _ i=>1-(intOf i).toNat)
 case atStart=>exact .inl ⟨rfl,rfl⟩
 rcases hrel with ⟨rfl,rfl⟩ | ⟨rfl,rfl⟩
 ·go_wp2_with fail
  go_round
  case rel=>exact .inr ⟨rfl,by go_num⟩
  simp [intOf]
 go_wp2_with fail
 refine (grow_any xs.length _ (by omega)).mono ?_
 rintro e w1 ⟨v1,rfl,ho1,hb1⟩
 have HO:=hideP ho1
 have HB:=hideP hb1
 clear ho1 hb1 c0
 go_wp2_with fail
 go_loopw [6,8,27] (fun nv _ i wr=>((i=.int .i64 0/\Hid (wr.ownsRow w.heap.size 3 1 nv 0 (([]:List Int).map (Value.int .i64))))\/(i=.int .i64 1/\Hid (wr.ownsRow w.heap.size 3 1 nv xs.length (xs.map (Value.int .i64)))))/\Hid (Below w.heap.size w wr)) (fun _ _ i _=>1-(intOf i).toNat)
 case atStart=>exact ⟨.inl ⟨rfl,HO⟩,HB⟩
 obtain ⟨⟨rfl,ho⟩ | ⟨rfl,ho⟩,hbel⟩:=hrel
 ·have c0:wr.cell? ⟨b,0,none⟩=some (.slice a0 xs.length d0):=by rw [<- HE.out]; exact (hbel.out.cell (p:=⟨b,0,none⟩) hb).trans HC0.out
  have RD:Hid (Rd w.heap.size wr (.slice a0 xs.length d0) xs):=by
   have:=H0.out.keep hbel.out
   rw [HE.out] at this
   exact this
  have SZ:Hid (w.heap.size<=wr.heap.size):=hbel.out.size
  go_wp2_with (at_builtin; refine wpList_append_rd _ rfl _ _ rfl _ _ rfl rfl 0 [] xs ho.out RD.out (by omega) SZ.out ?_)
  intro v' w' ho' hb'
  have HO':Hid (w'.ownsRow w.heap.size 3 1 v' xs.length (xs.map (Value.int .i64))):=ho'
  have HB':=hideP (hbel.out.trans hb')
  clear ho' hb' c0
  go_wp2_with fail
  go_roundw
  case rel=>exact ⟨.inr ⟨rfl,HO'⟩,HB'⟩
  simp [intOf]
 go_wp2_with fail
 go_ret
 exact ⟨_,rfl,ho.out,hbel.out⟩
theorem concat2 (b:Nat) (u t:Value) (xs ys:List Int) (w:World) (hl:xs.length<=1048576) (hl':ys.length<=1048576) (hb:b<w.heap.size) (c0:w.cell? ⟨b,0,none⟩=some u) (c1:w.cell? ⟨b,1,none⟩=some t)
  (h0:Rd w.heap.size w u xs) (h1:Rd w.heap.size w t ys) :
  Calls Tryz.prog 130 #[.slice (some ⟨b,0,none⟩) 2 2] w fun e w'=>∃v,e=.returned v/\w'.ownsRow w.heap.size 3 1 v (xs++ys).length ((xs++ys).map (Value.int .i64))/\Below w.heap.size w w':=by
 obtain ⟨a0,d0,e0⟩:=h0.form
 obtain ⟨a1,d1,e1⟩:=h1.form
 have H0:=hideP h0
 have H1:=hideP h1
 have HC0:=hideP c0
 have HC1:=hideP c1
 have HE:=hideP e0
 have HE1:=hideP e1
 rw [e0] at c0
 rw [e1] at c1
 clear h0 h1 e0 e1
 have HS:Hid ((xs++ys).length=xs.length+ys.length):=by show _=_; simp
 go_enter Tryz.func130,Tryz.ntmps130
 go_wp2_with fail
 go_loop [3,5,11] (fun s _ i=>(i=.int .i64 0/\s=.int .i64 0)\/(i=.int .i64 1/\s=.int .i64 xs.length)\/(i=.int .i64 2/\s=.int .i64 (xs.length+ys.length:Nat))) (fun _ _ i=>2-(intOf i).toNat)
 case atStart=>exact .inl ⟨rfl,rfl⟩
 rcases hrel with ⟨rfl,rfl⟩ | ⟨rfl,rfl⟩ | ⟨rfl,rfl⟩
 ·go_wp2_with fail
  go_round
  case rel=>exact .inr (.inl ⟨rfl,by go_num⟩)
  simp [intOf]
 ·go_wp2_with fail
  go_round
  case rel=>exact .inr (.inr ⟨rfl,by go_num⟩)
  simp [intOf]
 go_wp2_with fail
 refine (grow_any (xs.length+ys.length) _ (by omega)).mono ?_
 rintro e w1 ⟨v1,rfl,ho1,hb1⟩
 have HO:=hideP ho1
 have HB:=hideP hb1
 clear ho1 hb1 c0 c1
 go_wp2_with fail
 go_loopw [6,8,27] (fun nv _ i wr=>((i=.int .i64 0/\Hid (wr.ownsRow w.heap.size 3 1 nv 0 (([]:List Int).map (Value.int .i64))))\/(i=.int .i64 1/\Hid (wr.ownsRow w.heap.size 3 1 nv xs.length (xs.map (Value.int .i64))))\/(i=.int .i64 2/\Hid (wr.ownsRow w.heap.size 3 1 nv (xs.length+ys.length) ((xs++ys).map (Value.int .i64)))))/\Hid (Below w.heap.size w wr)) (fun _ _ i _=>2-(intOf i).toNat)
 case atStart=>exact ⟨.inl ⟨rfl,HO⟩,HB⟩
 obtain ⟨⟨rfl,ho⟩ | ⟨rfl,ho⟩ | ⟨rfl,ho⟩,hbel⟩:=hrel
 rotate_left 2
 ·go_wp2_with fail
  go_ret
  exact ⟨_,rfl,by rw [HS.out]; exact ho.out,hbel.out⟩
 ·have c0:wr.cell? ⟨b,0,none⟩=some (.slice a0 xs.length d0):=by rw [<- HE.out]; exact (hbel.out.cell (p:=⟨b,0,none⟩) hb).trans HC0.out
  have RD:Hid (Rd w.heap.size wr (.slice a0 xs.length d0) xs):=by
   have:=H0.out.keep hbel.out
   rw [HE.out] at this
   exact this
  have SZ:Hid (w.heap.size<=wr.heap.size):=hbel.out.size
  go_wp2_with (at_builtin; refine wpList_append_rd _ rfl _ _ rfl _ _ rfl rfl 0 [] xs ho.out RD.out (by omega) SZ.out ?_)
  intro v' w' ho' hb'
  have HO':Hid (w'.ownsRow w.heap.size 3 1 v' xs.length (xs.map (Value.int .i64))):=ho'
  have HB':=hideP (hbel.out.trans hb')
  clear ho' hb' c0
  go_wp2_with fail
  go_roundw
  case rel=>exact ⟨.inr (.inl ⟨rfl,HO'⟩),HB'⟩
  simp [intOf]
 have c0:wr.cell? ⟨b,1,none⟩=some (.slice a1 ys.length d1):=by rw [<- HE1.out]; exact (hbel.out.cell (p:=⟨b,1,none⟩) hb).trans HC1.out
 have RD:Hid (Rd w.heap.size wr (.slice a1 ys.length d1) ys):=by
  have:=H1.out.keep hbel.out
  rw [HE1.out] at this
  exact this
 have SZ:Hid (w.heap.size<=wr.heap.size):=hbel.out.size
 go_wp2_with (at_builtin; refine wpList_append_rd _ rfl _ _ rfl _ _ rfl rfl xs.length xs ys ho.out RD.out (by omega) SZ.out ?_)
 intro v' w' ho' hb'
 have HO':Hid (w'.ownsRow w.heap.size 3 1 v' (xs.length+ys.length) ((xs++ys).map (Value.int .i64))):=by
  show _
  first | exact ho' | (rw [List.map_append]; exact ho')
 have HB':=hideP (hbel.out.trans hb')
 clear ho' hb' c0
 go_wp2_with fail
 go_roundw
 case rel=>exact ⟨.inr (.inr ⟨rfl,HO'⟩),HB'⟩
 simp [intOf]
theorem joined1 (b:Nat) (u:Value) (xs:List Int) (w:World) (hl:xs.length<=1048576) (hb:b<w.heap.size) (c0:w.cell? ⟨b,0,none⟩=some u) (h0:Rd w.heap.size w u xs) :
  Calls Tryz.prog 74 #[.slice (some ⟨b,0,none⟩) 1 1] w fun e w'=>∃v,e=.returned v/\Own w.heap.size w' v xs/\Below w.heap.size w w':=by
 have K:=hideP (concat1 b u xs w hl hb c0 h0)
 clear c0 h0
 go_enter Tryz.func74,Tryz.ntmps74
 go_wp2_with (go_at_call 130; refine K.out.mono ?_; rintro e w' ⟨v,rfl,ho,hb'⟩)
 go_ret
 exact ⟨_,rfl,own_of_any ho,hb'⟩
theorem joined2 (b:Nat) (u t:Value) (xs ys:List Int) (w:World) (hl:xs.length<=1048576) (hl':ys.length<=1048576) (hb:b<w.heap.size) (c0:w.cell? ⟨b,0,none⟩=some u) (c1:w.cell? ⟨b,1,none⟩=some t)
  (h0:Rd w.heap.size w u xs) (h1:Rd w.heap.size w t ys) :
  Calls Tryz.prog 74 #[.slice (some ⟨b,0,none⟩) 2 2] w fun e w'=>∃v,e=.returned v/\Own w.heap.size w' v (xs++ys)/\Below w.heap.size w w':=by
 have K:=hideP (concat2 b u t xs ys w hl hl' hb c0 c1 h0 h1)
 clear c0 c1 h0 h1
 go_enter Tryz.func74,Tryz.ntmps74
 go_wp2_with (go_at_call 130; refine K.out.mono ?_; rintro e w' ⟨v,rfl,ho,hb'⟩)
 go_ret
 exact ⟨_,rfl,own_of_any ho,hb'⟩
end Go.Proofs.YtacapaiadggemaaGreat
