import Derived.Test.YtbiiicbfpcfgdaaGreatDoorTog
namespace Go.Proofs.YtbiiicbfpcfgdaaGreatDoor
open Go.RowKit
set_option maxRecDepth 100000
set_option maxHeartbeats 16000000
set_option linter.unusedVariables false
theorem uPln1 {P:Prop}(h:P:=by first | omega | (simp;omega)):P:=h
theorem uPln2 {P:Prop}(h:P:=by simp[go_sem] <;> rfl):P:=h
theorem uPln3 {P:Prop}(h:P:=by simp[results,Tryz.results81,go_sem]):P:=h
namespace Pl
def dya7:List ByteArray:=[⟨#[114,104,111]⟩,⟨#[116,97,107,101]⟩,⟨#[100,114,111,112]⟩,⟨#[99,97,116]⟩,⟨#[102,114,111,109]⟩,⟨#[105,111,116,97]⟩,⟨#[109,97,116,99,104]⟩]
def one4:List ByteArray:=[⟨#[45]⟩,⟨#[97,98,115]⟩,⟨#[115,105,103,110]⟩,⟨#[126]⟩]
def mon7:List ByteArray:=[⟨#[105,111,116,97]⟩,⟨#[114,104,111]⟩,⟨#[99,97,116]⟩,⟨#[114,101,118]⟩,⟨#[102,108,105,112]⟩,⟨#[103,114,97,100,101]⟩,⟨#[99,111,117,110,116]⟩]
def pl1 (t:Tok):Int × Int × ByteArray :=
 if t.k=70 then (10,0,t.tx) else if t.k=115 then
  (if t.tx=⟨#[114,111,108,108]⟩ then (9,0,⟨#[]⟩) else if 0<plc one4 t.tx 0 then (1,plc one4 t.tx 0,⟨#[]⟩) else if 0<plc mon7 t.tx 0 then (2,plc mon7 t.tx 0,⟨#[]⟩) else (0,0,⟨#[]⟩))
 else (0,0,⟨#[]⟩)
def pl2 (t:Tok):Int × Int × ByteArray :=
 if t.k=70 then (10,0,t.tx) else if t.k=115 then
  (if 0<e2 t then (5,e2 t,⟨#[]⟩) else if 0<plc dya7 t.tx 0 then (6,plc dya7 t.tx 0,⟨#[]⟩) else (0,0,⟨#[]⟩))
 else (0,0,⟨#[]⟩)
end Pl
theorem roll_eq (tx:ByteArray):(tx.toList == [114,111,108,108])=decide (tx=⟨#[114,111,108,108]⟩):=by
 have:=@ba_eq tx ⟨#[114,111,108,108]⟩
 rw[show (⟨#[114,111,108,108]⟩:ByteArray).toList=[114,111,108,108] from by rw[ByteArray.toList_eq]] at this
 exact this
theorem l3Plain1_any (t:Pl.Tok) (w:World) :
  Calls Tryz.prog 81 #[.agg #[.int .u8 t.k,.string t.tx,.int .i64 t.v,.int .i64 t.pos],.bool false] w fun e w'=>e=.returned (.agg #[.int .i64 (Pl.pl1 t).1,.int .i64 (Pl.pl1 t).2.1,.int .i64 0,.string (Pl.pl1 t).2.2])/\Below w.heap.size w w':=by
 have HB2:Hid (∀o o2,Below w.heap.size w ((w.alloc o).alloc o2)):=fun o o2=>((Below.refl _ _).alloc (Nat.le_refl _) _).alloc sI _
 have HB3:Hid (∀o o2 o3,Below w.heap.size w (((w.alloc o).alloc o2).alloc o3)):=fun o o2 o3=>(HB2.out o o2).alloc (by simp;omega) _
 have HB4:Hid (∀o o2 o3 o4,Below w.heap.size w ((((w.alloc o).alloc o2).alloc o3).alloc o4)):=fun o o2 o3 o4=>(HB3.out o o2 o3).alloc (by simp;omega) _
 obtain⟨k,tx,v,pos⟩:=t
 have HV:Hid (Pl.pl1 ⟨k,tx,v,pos⟩=if k=70 then (10,0,tx) else if k=115 then (if tx=⟨#[114,111,108,108]⟩ then (9,0,⟨#[]⟩) else if 0<Pl.plc Pl.one4 tx 0 then (1,Pl.plc Pl.one4 tx 0,⟨#[]⟩) else if 0<Pl.plc Pl.mon7 tx 0 then (2,Pl.plc Pl.mon7 tx 0,⟨#[]⟩) else (0,0,⟨#[]⟩)) else (0,0,⟨#[]⟩)):=rfl
 have KA:Hid (∀(W:World) (b:Nat),b=W.heap.size->Calls Tryz.prog 99 #[.slice (some ⟨b,0,none⟩) 4 4,.string tx] (W.alloc (.cells #[.string ⟨#[45]⟩,.string ⟨#[97,98,115]⟩,.string ⟨#[115,105,103,110]⟩,.string ⟨#[126]⟩] 9)) fun e w'=>e=.returned (.int .i64 (Pl.plc Pl.one4 tx 0))/\w'=W.alloc (.cells #[.string ⟨#[45]⟩,.string ⟨#[97,98,115]⟩,.string ⟨#[115,105,103,110]⟩,.string ⟨#[126]⟩] 9)):=fun W b hb=>l3Place_lit Pl.one4 (by decide) W b tx hb
 have KB:Hid (∀(W:World) (b:Nat),b=W.heap.size->Calls Tryz.prog 99 #[.slice (some ⟨b,0,none⟩) 7 7,.string tx] (W.alloc (.cells #[.string ⟨#[105,111,116,97]⟩,.string ⟨#[114,104,111]⟩,.string ⟨#[99,97,116]⟩,.string ⟨#[114,101,118]⟩,.string ⟨#[102,108,105,112]⟩,.string ⟨#[103,114,97,100,101]⟩,.string ⟨#[99,111,117,110,116]⟩] 9)) fun e w'=>e=.returned (.int .i64 (Pl.plc Pl.mon7 tx 0))/\w'=W.alloc (.cells #[.string ⟨#[105,111,116,97]⟩,.string ⟨#[114,104,111]⟩,.string ⟨#[99,97,116]⟩,.string ⟨#[114,101,118]⟩,.string ⟨#[102,108,105,112]⟩,.string ⟨#[103,114,97,100,101]⟩,.string ⟨#[99,111,117,110,116]⟩] 9)):=fun W b hb=>l3Place_lit Pl.mon7 (by decide) W b tx hb
 generalize Pl.pl1 ⟨k,tx,v,pos⟩=R at *
 generalize Pl.plc Pl.one4 tx 0=p at *
 generalize Pl.plc Pl.mon7 tx 0=q at *
 simp only
 have hro:=roll_eq tx
 by_cases h7:k=70
 ·subst h7
  have HR:=zH (show R=(10,0,tx) by rw[HV.out];rfl)
  clear HV hro
  go_enter Tryz.func81,Tryz.ntmps81
  go_wp2
  refine bodyPost_ret (v:=.agg #[.int .i64 10,.int .i64 0,.int .i64 0,.string tx]) uPln3 rfl ⟨by rw[HR.out],HB2.out _ _⟩
 have d7:(k == 70)=false:=by simpa using h7
 by_cases h5:k=115
 rotate_left 1
 ·have d5:(k != 115)=true:=by simpa using h5
  have HR:=zH (show R=(0,0,⟨#[]⟩) by rw[HV.out,if_neg h7,if_neg h5])
  clear HV hro h7 h5
  go_enter Tryz.func81,Tryz.ntmps81
  go_wp2
  refine bodyPost_ret (v:=.agg #[.int .i64 0,.int .i64 0,.int .i64 0,.string ⟨#[]⟩]) uPln3 rfl ⟨by rw[HR.out],HB2.out _ _⟩
 subst h5
 by_cases hr:tx=⟨#[114,111,108,108]⟩
 ·have HR:=zH (show R=(9,0,⟨#[]⟩) by rw[HV.out,if_neg (by decide),if_pos rfl,if_pos hr])
  rw[decide_eq_true hr] at hro
  clear HV hr h7
  go_enter Tryz.func81,Tryz.ntmps81
  go_wp2
  refine bodyPost_ret (v:=.agg #[.int .i64 9,.int .i64 0,.int .i64 0,.string ⟨#[]⟩]) uPln3 rfl ⟨by rw[HR.out],HB2.out _ _⟩
 rw[decide_eq_false hr] at hro
 by_cases hp:0<p
 ·have HR:=zH (show R=(1,p,⟨#[]⟩) by rw[HV.out,if_neg (by decide),if_pos rfl,if_neg hr,if_pos hp])
  clear HV hr h7
  go_enter Tryz.func81,Tryz.ntmps81
  go_wp2_with (first | (go_at_call 99;with_reducible refine(KA.out _ _ sI).mono ?_;rintro e w2 ⟨rfl,rfl⟩) | (go_at_call 99;with_reducible refine(KB.out _ _ sI).mono ?_;rintro e w2 ⟨rfl,rfl⟩))
  refine bodyPost_ret (v:=.agg #[.int .i64 1,.int .i64 p,.int .i64 0,.string ⟨#[]⟩]) uPln3 rfl ⟨by rw[HR.out],HB4.out _ _ _ _⟩
 by_cases hq:0<q
 ·have HR:=zH (show R=(2,q,⟨#[]⟩) by rw[HV.out,if_neg (by decide),if_pos rfl,if_neg hr,if_neg hp,if_pos hq])
  clear HV hr h7
  go_enter Tryz.func81,Tryz.ntmps81
  go_wp2_with (first | (go_at_call 99;with_reducible refine(KA.out _ _ sI).mono ?_;rintro e w2 ⟨rfl,rfl⟩) | (go_at_call 99;with_reducible refine(KB.out _ _ sI).mono ?_;rintro e w2 ⟨rfl,rfl⟩))
  refine bodyPost_ret (v:=.agg #[.int .i64 2,.int .i64 q,.int .i64 0,.string ⟨#[]⟩]) uPln3 rfl ⟨by rw[HR.out],HB4.out _ _ _ _⟩
 have HR:=zH (show R=(0,0,⟨#[]⟩) by rw[HV.out,if_neg (by decide),if_pos rfl,if_neg hr,if_neg hp,if_neg hq])
 clear HV hr h7
 go_enter Tryz.func81,Tryz.ntmps81
 go_wp2_with (first | (go_at_call 99;with_reducible refine(KA.out _ _ sI).mono ?_;rintro e w2 ⟨rfl,rfl⟩) | (go_at_call 99;with_reducible refine(KB.out _ _ sI).mono ?_;rintro e w2 ⟨rfl,rfl⟩))
 refine bodyPost_ret (v:=.agg #[.int .i64 0,.int .i64 0,.int .i64 0,.string ⟨#[]⟩]) uPln3 rfl ⟨by rw[HR.out],HB4.out _ _ _ _⟩
theorem l3Plain2_any (t:Pl.Tok) (w:World) :
  Calls Tryz.prog 81 #[.agg #[.int .u8 t.k,.string t.tx,.int .i64 t.v,.int .i64 t.pos],.bool true] w fun e w'=>e=.returned (.agg #[.int .i64 (Pl.pl2 t).1,.int .i64 (Pl.pl2 t).2.1,.int .i64 0,.string (Pl.pl2 t).2.2])/\Below w.heap.size w w':=by
 have HB2:Hid (∀o o2,Below w.heap.size w ((w.alloc o).alloc o2)):=fun o o2=>((Below.refl _ _).alloc (Nat.le_refl _) _).alloc sI _
 have HB3:Hid (∀o o2 o3,Below w.heap.size w (((w.alloc o).alloc o2).alloc o3)):=fun o o2 o3=>(HB2.out o o2).alloc (by simp;omega) _
 have HB4:Hid (∀o o2 o3 o4,Below w.heap.size w ((((w.alloc o).alloc o2).alloc o3).alloc o4)):=fun o o2 o3 o4=>(HB3.out o o2 o3).alloc (by simp;omega) _
 have K60:Hid (∀W,Calls Tryz.prog 80 #[.agg #[.int .u8 t.k,.string t.tx,.int .i64 t.v,.int .i64 t.pos]] W fun e w'=>e=.returned (.int .i64 (Pl.e2 t))/\Below W.heap.size W w'):=fun W=>l3Each2_any t W
 obtain⟨k,tx,v,pos⟩:=t
 have HV:Hid (Pl.pl2 ⟨k,tx,v,pos⟩=if k=70 then (10,0,tx) else if k=115 then (if 0<Pl.e2 ⟨k,tx,v,pos⟩ then (5,Pl.e2 ⟨k,tx,v,pos⟩,⟨#[]⟩) else if 0<Pl.plc Pl.dya7 tx 0 then (6,Pl.plc Pl.dya7 tx 0,⟨#[]⟩) else (0,0,⟨#[]⟩)) else (0,0,⟨#[]⟩)):=rfl
 have KA:Hid (∀(W:World) (b:Nat),b=W.heap.size->Calls Tryz.prog 99 #[.slice (some ⟨b,0,none⟩) 7 7,.string tx] (W.alloc (.cells #[.string ⟨#[114,104,111]⟩,.string ⟨#[116,97,107,101]⟩,.string ⟨#[100,114,111,112]⟩,.string ⟨#[99,97,116]⟩,.string ⟨#[102,114,111,109]⟩,.string ⟨#[105,111,116,97]⟩,.string ⟨#[109,97,116,99,104]⟩] 9)) fun e w'=>e=.returned (.int .i64 (Pl.plc Pl.dya7 tx 0))/\w'=W.alloc (.cells #[.string ⟨#[114,104,111]⟩,.string ⟨#[116,97,107,101]⟩,.string ⟨#[100,114,111,112]⟩,.string ⟨#[99,97,116]⟩,.string ⟨#[102,114,111,109]⟩,.string ⟨#[105,111,116,97]⟩,.string ⟨#[109,97,116,99,104]⟩] 9)):=fun W b hb=>l3Place_lit Pl.dya7 (by decide) W b tx hb
 generalize Pl.pl2 ⟨k,tx,v,pos⟩=R at *
 generalize Pl.plc Pl.dya7 tx 0=p at *
 generalize Pl.e2 ⟨k,tx,v,pos⟩=q at *
 simp only at K60
 simp only
 by_cases h7:k=70
 ·subst h7
  have HR:=zH (show R=(10,0,tx) by rw[HV.out];rfl)
  clear HV
  go_enter Tryz.func81,Tryz.ntmps81
  go_wp2
  refine bodyPost_ret (v:=.agg #[.int .i64 10,.int .i64 0,.int .i64 0,.string tx]) uPln3 rfl ⟨by rw[HR.out],HB2.out _ _⟩
 have d7:(k == 70)=false:=by simpa using h7
 by_cases h5:k=115
 rotate_left 1
 ·have d5:(k != 115)=true:=by simpa using h5
  have HR:=zH (show R=(0,0,⟨#[]⟩) by rw[HV.out,if_neg h7,if_neg h5])
  clear HV h7 h5
  go_enter Tryz.func81,Tryz.ntmps81
  go_wp2
  refine bodyPost_ret (v:=.agg #[.int .i64 0,.int .i64 0,.int .i64 0,.string ⟨#[]⟩]) uPln3 rfl ⟨by rw[HR.out],HB2.out _ _⟩
 subst h5
 have BX:Hid (∀(o o2 o3:Obj) (w2:World),Below (w.heap.size+1+1+1) (((w.alloc o).alloc o2).alloc o3) w2->Below w.heap.size w w2):=fun o o2 o3 w2 h=>(HB3.out o o2 o3).trans (h.mono oM)
 by_cases hq:0<q
 ·have HR:=zH (show R=(5,q,⟨#[]⟩) by rw[HV.out,if_neg (by decide),if_pos rfl,if_pos hq])
  clear HV h7
  go_enter Tryz.func81,Tryz.ntmps81
  go_wp2_with (go_at_call 99;with_reducible refine(KA.out _ _ sI).mono ?_;rintro e w2 ⟨rfl,rfl⟩)
  refine(K60.out _).mono ?_
  rintro e w2 ⟨rfl,hb2⟩
  simp only[World.size_alloc] at hb2
  have b20:=bcell hb2 (b:=w.heap.size) (j:=0) uPln1 uPln2
  have r20:=bcell hb2 (b:=w.heap.size+1) (j:=0) uPln1 uPln2
  have b21:=bcell hb2 (b:=w.heap.size) (j:=1) uPln1 uPln2
  have r21:=bcell hb2 (b:=w.heap.size+1) (j:=1) uPln1 uPln2
  have b22:=bcell hb2 (b:=w.heap.size) (j:=2) uPln1 uPln2
  have r22:=bcell hb2 (b:=w.heap.size+1) (j:=2) uPln1 uPln2
  have b23:=bcell hb2 (b:=w.heap.size) (j:=3) uPln1 uPln2
  have r23:=bcell hb2 (b:=w.heap.size+1) (j:=3) uPln1 uPln2
  have f2:∀j,w2.frozen? ⟨w.heap.size+1,j,none⟩=false:=fun j=>bfroz hb2 uPln1 (by simp[go_sem])
  have B2:=zH (BX.out _ _ _ _ hb2)
  clear hb2
  go_wp2_with fail
  refine(K60.out _).mono ?_
  rintro e w3 ⟨rfl,hb3⟩
  have hs2:w.heap.size+1<w2.heap.size:=by have:=World.block_lt_of_cell? _ _ r20;exact this
  have b30:=bcell hb3 (b:=w.heap.size) (j:=0) uPln1 (by simp[go_sem,b20] <;> rfl)
  have r30:=bcell hb3 (b:=w.heap.size+1) (j:=0) uPln1 (by simp[go_sem,r20] <;> rfl)
  have b31:=bcell hb3 (b:=w.heap.size) (j:=1) uPln1 (by simp[go_sem,b21] <;> rfl)
  have r31:=bcell hb3 (b:=w.heap.size+1) (j:=1) uPln1 (by simp[go_sem,r21] <;> rfl)
  have b32:=bcell hb3 (b:=w.heap.size) (j:=2) uPln1 (by simp[go_sem,b22] <;> rfl)
  have r32:=bcell hb3 (b:=w.heap.size+1) (j:=2) uPln1 (by simp[go_sem,r22] <;> rfl)
  have b33:=bcell hb3 (b:=w.heap.size) (j:=3) uPln1 (by simp[go_sem,b23] <;> rfl)
  have r33:=bcell hb3 (b:=w.heap.size+1) (j:=3) uPln1 (by simp[go_sem,r23] <;> rfl)
  have f3:∀j,w3.frozen? ⟨w.heap.size+1,j,none⟩=false:=fun j=>bfroz hb3 uPln1 (by simp[go_sem,f2])
  have B3:=zH (B2.out.trans (hb3.mono B2.out.size))
  clear hb3
  go_wp2_with fail
  refine bodyPost_ret (v:=.agg #[.int .i64 5,.int .i64 q,.int .i64 0,.string ⟨#[]⟩]) (by simp[results,Tryz.results81,go_sem,r30,r31,r32,r33]) rfl ⟨by rw[HR.out],?_⟩
  exact(((B3.out.setCell sI _).setCell sI _).setCell sI _).setCell sI _
 by_cases hp:0<p
 ·have HR:=zH (show R=(6,p,⟨#[]⟩) by rw[HV.out,if_neg (by decide),if_pos rfl,if_neg hq,if_pos hp])
  clear HV h7
  go_enter Tryz.func81,Tryz.ntmps81
  go_wp2_with (go_at_call 99;with_reducible refine(KA.out _ _ sI).mono ?_;rintro e w2 ⟨rfl,rfl⟩)
  refine(K60.out _).mono ?_
  rintro e w2 ⟨rfl,hb2⟩
  simp only[World.size_alloc] at hb2
  have b20:=bcell hb2 (b:=w.heap.size) (j:=0) uPln1 uPln2
  have r20:=bcell hb2 (b:=w.heap.size+1) (j:=0) uPln1 uPln2
  have b21:=bcell hb2 (b:=w.heap.size) (j:=1) uPln1 uPln2
  have r21:=bcell hb2 (b:=w.heap.size+1) (j:=1) uPln1 uPln2
  have b22:=bcell hb2 (b:=w.heap.size) (j:=2) uPln1 uPln2
  have r22:=bcell hb2 (b:=w.heap.size+1) (j:=2) uPln1 uPln2
  have b23:=bcell hb2 (b:=w.heap.size) (j:=3) uPln1 uPln2
  have r23:=bcell hb2 (b:=w.heap.size+1) (j:=3) uPln1 uPln2
  have f2:∀j,w2.frozen? ⟨w.heap.size+1,j,none⟩=false:=fun j=>bfroz hb2 uPln1 (by simp[go_sem])
  have B2:=zH (BX.out _ _ _ _ hb2)
  clear hb2
  go_wp2_with fail
  refine bodyPost_ret (v:=.agg #[.int .i64 6,.int .i64 p,.int .i64 0,.string ⟨#[]⟩]) (by simp[results,Tryz.results81,go_sem,r20,r21,r22,r23]) rfl ⟨by rw[HR.out],?_⟩
  exact(((B2.out.setCell sI _).setCell sI _).setCell sI _).setCell sI _
 have HR:=zH (show R=(0,0,⟨#[]⟩) by rw[HV.out,if_neg (by decide),if_pos rfl,if_neg hq,if_neg hp])
 clear HV h7
 go_enter Tryz.func81,Tryz.ntmps81
 go_wp2_with (go_at_call 99;with_reducible refine(KA.out _ _ sI).mono ?_;rintro e w2 ⟨rfl,rfl⟩)
 refine(K60.out _).mono ?_
 rintro e w2 ⟨rfl,hb2⟩
 simp only[World.size_alloc] at hb2
 have b20:=bcell hb2 (b:=w.heap.size) (j:=0) uPln1 uPln2
 have r20:=bcell hb2 (b:=w.heap.size+1) (j:=0) uPln1 uPln2
 have b21:=bcell hb2 (b:=w.heap.size) (j:=1) uPln1 uPln2
 have r21:=bcell hb2 (b:=w.heap.size+1) (j:=1) uPln1 uPln2
 have b22:=bcell hb2 (b:=w.heap.size) (j:=2) uPln1 uPln2
 have r22:=bcell hb2 (b:=w.heap.size+1) (j:=2) uPln1 uPln2
 have b23:=bcell hb2 (b:=w.heap.size) (j:=3) uPln1 uPln2
 have r23:=bcell hb2 (b:=w.heap.size+1) (j:=3) uPln1 uPln2
 have f2:∀j,w2.frozen? ⟨w.heap.size+1,j,none⟩=false:=fun j=>bfroz hb2 uPln1 (by simp[go_sem])
 have B2:=zH (BX.out _ _ _ _ hb2)
 clear hb2
 go_wp2_with fail
 refine bodyPost_ret (v:=.agg #[.int .i64 0,.int .i64 0,.int .i64 0,.string ⟨#[]⟩]) (by simp[results,Tryz.results81,go_sem,r20,r21,r22,r23]) rfl ⟨by rw[HR.out],?_⟩
 exact(((B2.out.setCell sI _).setCell sI _).setCell sI _).setCell sI _
end Go.Proofs.YtbiiicbfpcfgdaaGreatDoor
