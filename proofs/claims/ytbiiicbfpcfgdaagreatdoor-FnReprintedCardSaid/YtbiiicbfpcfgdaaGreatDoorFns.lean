import Derived.Test.YtbiiicbfpcfgdaaGreatDoorMem
import Derived.Lib.ItoaMem
import Derived.Laws.BytesArg
import Derived.Deep.RegionHeld3
import Derived.Deep.Cut
import Derived.Test.YtbiiicbfpcfgdaaGreatDoorWh
import Derived.BigQuiet
import Derived.Deep.QuietTactic
import Derived.Deep.RegionWith
namespace Go.Proofs.YtbiiicbfpcfgdaaGreatDoor
open Go.RowKit
set_option maxRecDepth 100000
set_option maxHeartbeats 16000000
set_option linter.unusedVariables false
theorem conv_one (p:Nat) (x:Int) (b:UInt8) (W:World) (hb:UInt8.ofNat x.toNat=b) (h:W.cell? ⟨p,0,none⟩=some (.int .u8 x)):(convert 22 9 (.slice (some ⟨p,0,none⟩) 1 1)).run Tryz.prog W=.ok (.string ⟨#[b]⟩) W:=by
 have:=run_convert_bytes_arg (P:=Tryz.prog) W 22 5 kR kR p 0 1 1 [x] rfl (fun i hi=>by
  have:i=0:=by omega
  subst this
  simpa using h) 9 kR
 rw[this,<- hb]
 simp[strOfNums]
theorem l1Dec_small (u:Nat) (w:World) (h:u<10):Calls Tryz.prog 72 #[.int .i64 (u:Int)] w fun e w'=>e=.returned (.string ⟨(Lib.decDigits u).toArray⟩)/\Below w.heap.size w w':=by
 have h1:¬((u:Int)<0):=by omega
 have h2:(u:Int)<10:=by omega
 obtain⟨bu,hbu⟩:∃bu,UInt8.ofNat (48+u)=bu:=⟨_,rfl⟩
 have kc:(convert 22 9 (.slice (some ⟨w.heap.size,0,none⟩) 1 1)).run Tryz.prog (w.alloc (.cells #[.int .u8 (48+(u:Int))] 5))=.ok (.string ⟨#[bu]⟩) (w.alloc (.cells #[.int .u8 (48+(u:Int))] 5)):=conv_one w.heap.size (48+(u:Int)) bu _ (by rw[<- hbu];congr 1) (by simp[go_sem])
 have ED:Hid ((Lib.decDigits u).toArray=#[bu]):=by show _=_;rw[Lib.decDigits_one h,hbu]
 clear hbu
 have B:Hid (Below w.heap.size w (w.alloc (.cells #[.int .u8 (48+(u:Int))] 5))):=(Below.refl _ _).alloc (Nat.le_refl _) _
 go_enter Tryz.func72,Tryz.ntmps72
 go_wp2_with fail
 go_ret
 exact⟨by rw[ED.out];rfl,B.out⟩
theorem l1Dec_step (u q r:Nat) (w:World) (hu:u<=9223372036854775807) (h:¬u<10) (hq:u / 10=q) (hr:u % 10=r)
  (ih:∀w,Calls Tryz.prog 72 #[.int .i64 (q:Int)] w fun e w'=>e=.returned (.string ⟨(Lib.decDigits q).toArray⟩)/\Below w.heap.size w w') :
  Calls Tryz.prog 72 #[.int .i64 (u:Int)] w fun e w'=>e=.returned (.string ⟨(Lib.decDigits u).toArray⟩)/\Below w.heap.size w w':=by
 have h1:¬((u:Int)<0):=by omega
 have h2:decide ((u:Int)<10)=false:=by rw[decide_eq_false_iff_not];omega
 have hr9:r<10:=by omega
 obtain⟨bu,hbu⟩:∃bu,UInt8.ofNat (48+r)=bu:=⟨_,rfl⟩
 have HBU:Hid (UInt8.ofNat (48+(r:Int)).toNat=bu):=by show _=_;rw[<- hbu];congr 1
 obtain⟨sq,hsq⟩:∃sq:ByteArray,(⟨(Lib.decDigits q).toArray⟩:ByteArray)=sq:=⟨_,rfl⟩
 have hsz:sq.size<=20:=by
  rw[<- hsq]
  show (Lib.decDigits q).toArray.size<=20
  rw[List.size_toArray,Lib.decDigits_length]
  exact Lib.nDigits_le20 q oM
 have ES:Hid ((⟨(Lib.decDigits u).toArray⟩:ByteArray)=sq++⟨#[bu]⟩):=by
  show _=_
  rw[Lib.decDigits,dif_neg h,hq,hr,hbu,<- hsq]
  apply ByteArray.ext
  simp
 rw[hsq] at ih
 have hlen:¬(9223372036854775807<sq.size+1):=by omega
 clear hsq
 have KD:=zH ih
 have eq1:Int.tdiv (u:Int) 10=(q:Int):=by rw[Int.tdiv_eq_ediv_of_nonneg oM];omega
 have er1:Int.tmod (u:Int) 10=(r:Int):=by rw[Int.tmod_eq_emod_of_nonneg oM];omega
 clear hbu
 have DW:Hid (Below w.heap.size w w.drew):=(Below.refl _ _).drew
 clear ih
 go_enter Tryz.func72,Tryz.ntmps72
 go_upto_region 5 with fail
 refine wp_region_held (S:=fun w'=>True) kR ?_
 change wpAnyH _ _ _ _ _ _ _ _ (World.drew _)
 generalize World.drew w=wd at DW ⊢
 refine tz 0 (.int .i64 (u:Int)) rfl trivial (fun w' hS=>by clear hS;go_simp) ?_
 refine tz 1 (.int .i64 (q:Int)) rfl trivial (fun w' hS=>by clear hS;go_simp;rw[IntKind.wrap_i64];omega) ?_
 refine tz 3 (.int .i64 (u:Int)) rfl trivial (fun w' hS=>by clear hS;go_simp) ?_
 refine tz 4 (.int .i64 (r:Int)) rfl trivial (fun w' hS=>by clear hS;go_simp) ?_
 refine tz 5 (.int .i64 (48+(r:Int))) rfl trivial (fun w' hS=>by clear hS;go_simp;rw[IntKind.wrap_i64];omega) ?_
 refine tz 6 (.int .u8 (48+(r:Int))) rfl trivial (fun w' hS=>by clear hS;go_simp;rw[IntKind.wrap_u8];omega) ?_
 refine ry2 2 7 rfl rfl (fun K hK=>?_) (fun K hK=>?_)
 ·go_simp
  refine(KD.out wd).mono ?_
  rintro e w1 ⟨rfl,hb⟩
  have B1:=zH (DW.out.trans (hb.mono DW.out.size))
  clear hb
  refine hK.out _ _ trivial (fun _=>?_)
  clear hK
  refine ry1 7 rfl (fun K hK=>?_)
  have C2:Hid ((w1.alloc (.cells #[.int .u8 (48+(r:Int))] 5)).cell? ⟨w1.heap.size,0,none⟩=some (.int .u8 (48+(r:Int)))/\w1.heap.size<(w1.alloc (.cells #[.int .u8 (48+(r:Int))] 5)).heap.size):=⟨by simp[go_sem],by simp⟩
  have B2:Hid (Below w.heap.size w (w1.alloc (.cells #[.int .u8 (48+(r:Int))] 5))):=B1.out.alloc B1.out.size _
  go_simp
  refine hK.out _ _ trivial (fun _=>?_)
  clear hK
  generalize hp2:w1.heap.size=p2 at C2 ⊢
  clear hp2
  generalize (w1.alloc (.cells #[.int .u8 (48+(r:Int))] 5))=w2 at C2 B2 ⊢
  refine ry1 8 rfl (fun K hK=>?_)
  have kc:=conv_one p2 (48+(r:Int)) bu w2 HBU.out C2.out.1
  go_simp
  refine hK.out _ _ trivial (fun _=>?_)
  clear hK kc
  refine ry1 9 rfl (fun K hK=>?_)
  go_simp
  refine hK.out _ _ trivial (fun _=>?_)
  clear hK
  refine ry1 10 rfl (fun K hK=>?_)
  go_simp
  refine hK.out _ _ trivial (fun _=>?_)
  clear hK
  refine wpAnyH_done kR ?_ _
  go_wp2_with fail
  go_ret
  exact⟨by rw[ES.out];rfl,B2.out⟩
 have C6:Hid ((wd.alloc (.cells #[.int .u8 (48+(r:Int))] 5)).cell? ⟨wd.heap.size,0,none⟩=some (.int .u8 (48+(r:Int)))/\wd.heap.size<(wd.alloc (.cells #[.int .u8 (48+(r:Int))] 5)).heap.size):=⟨by simp[go_sem],by simp⟩
 have B6:Hid (Below w.heap.size w (wd.alloc (.cells #[.int .u8 (48+(r:Int))] 5))):=DW.out.alloc DW.out.size _
 go_simp
 refine hK.out _ _ trivial (fun _=>?_)
 clear hK
 generalize hp6:wd.heap.size=p6 at C6 ⊢
 clear hp6
 generalize (wd.alloc (.cells #[.int .u8 (48+(r:Int))] 5))=w6 at C6 B6 ⊢
 refine ry2 2 8 rfl rfl (fun K hK=>?_) (fun K hK=>?_)
 ·go_simp
  refine(KD.out w6).mono ?_
  rintro e w7 ⟨rfl,hb⟩
  have B7:=zH (B6.out.trans (hb.mono B6.out.size))
  have C7:Hid (w7.cell? ⟨p6,0,none⟩=some (.int .u8 (48+(r:Int)))/\p6<w7.heap.size):=⟨(hb.cell (p:=⟨p6,0,none⟩) C6.out.2).trans C6.out.1,Nat.lt_of_lt_of_le C6.out.2 hb.size⟩
  clear hb
  refine hK.out _ _ trivial (fun _=>?_)
  clear hK
  refine ry1 8 rfl (fun K hK=>?_)
  have kc:=conv_one p6 (48+(r:Int)) bu w7 HBU.out C7.out.1
  go_simp
  refine hK.out _ _ trivial (fun _=>?_)
  clear hK kc
  refine ry1 9 rfl (fun K hK=>?_)
  go_simp
  refine hK.out _ _ trivial (fun _=>?_)
  clear hK
  refine ry1 10 rfl (fun K hK=>?_)
  go_simp
  refine hK.out _ _ trivial (fun _=>?_)
  clear hK
  refine wpAnyH_done kR ?_ _
  go_wp2_with fail
  go_ret
  exact⟨by rw[ES.out];rfl,B7.out⟩
 have kc:=conv_one p6 (48+(r:Int)) bu w6 HBU.out C6.out.1
 go_simp
 refine hK.out _ _ trivial (fun _=>?_)
 clear hK kc
 refine ry1 2 rfl (fun K hK=>?_)
 go_simp
 refine(KD.out w6).mono ?_
 rintro e w12 ⟨rfl,hb⟩
 have B12:=zH (B6.out.trans (hb.mono B6.out.size))
 have C12:Hid (w12.cell? ⟨p6,0,none⟩=some (.int .u8 (48+(r:Int)))/\p6<w12.heap.size):=⟨(hb.cell (p:=⟨p6,0,none⟩) C6.out.2).trans C6.out.1,Nat.lt_of_lt_of_le C6.out.2 hb.size⟩
 clear hb
 refine hK.out _ _ trivial (fun _=>?_)
 clear hK
 refine ry1 9 rfl (fun K hK=>?_)
 go_simp
 refine hK.out _ _ trivial (fun _=>?_)
 clear hK
 refine ry1 10 rfl (fun K hK=>?_)
 go_simp
 refine hK.out _ _ trivial (fun _=>?_)
 clear hK
 refine wpAnyH_done kR ?_ _
 go_wp2_with fail
 go_ret
 exact⟨by rw[ES.out];rfl,B12.out⟩
theorem l1Dec_nat (u:Nat):u<=9223372036854775807->∀w,Calls Tryz.prog 72 #[.int .i64 (u:Int)] w fun e w'=>e=.returned (.string ⟨(Lib.decDigits u).toArray⟩)/\Below w.heap.size w w':=by
 induction u using Nat.strongRecOn with
 |_ u ih =>
  intro hu w
  by_cases h:u<10
  ·exact l1Dec_small u w h
  exact l1Dec_step u (u / 10) (u % 10) w hu h rfl rfl (fun w=>ih (u / 10) oM oM w)
theorem l1Dec_any (n:Int) (w:World) (h0:-9223372036854775807<=n) (h1:n<=9223372036854775807):Calls Tryz.prog 72 #[.int .i64 n] w fun e w'=>e=.returned (.string ⟨(Lib.itoa n).toArray⟩)/\Below w.heap.size w w':=by
 by_cases hneg:n<0
 rotate_left 1
 ·obtain⟨u,rfl⟩:∃u:Nat,n=(u:Int):=⟨n.toNat,by omega⟩
  rw[Lib.itoa_nonneg]
  exact l1Dec_nat u oM w
 obtain⟨u,rfl⟩:∃u:Nat,n=-(u:Int):=⟨n.natAbs,by omega⟩
 obtain⟨sq,hsq⟩:∃sq:ByteArray,(⟨(Lib.decDigits u).toArray⟩:ByteArray)=sq:=⟨_,rfl⟩
 have hsz:sq.size<=20:=by
  rw[<- hsq]
  show (Lib.decDigits u).toArray.size<=20
  rw[List.size_toArray,Lib.decDigits_length]
  exact Lib.nDigits_le20 u oM
 have EI:Hid ((⟨(Lib.itoa (-(u:Int))).toArray⟩:ByteArray)=⟨#[45]⟩++sq):=by
  show _=_
  rw[Lib.itoa_neg u oM,<- hsq]
  apply ByteArray.ext
  simp
 have KD:Hid (∀w,Calls Tryz.prog 72 #[.int .i64 (u:Int)] w fun e w'=>e=.returned (.string sq)/\Below w.heap.size w w'):=fun w=>by
  have:=l1Dec_nat u oM w
  rw[hsq] at this
  exact this
 have hlen:¬(9223372036854775807<1+sq.size):=by omega
 have hneg':-(u:Int)<0:=hneg
 clear hsq
 go_enter Tryz.func72,Tryz.ntmps72
 go_wp2_with fail
 refine(KD.out _).mono ?_
 rintro e w1 ⟨rfl,hb⟩
 have B1:=zH hb
 clear hb
 go_wp2_with fail
 go_ret
 exact⟨by rw[EI.out];rfl,B1.out⟩
theorem ret_str {a b:ByteArray}(h:a=b):Ending.returned (.string a)=.returned (.string b):=by rw[h]
theorem opk_iff {n:Int}(h:Pl.opk n=true):n=1\/n=2\/n=3\/n=4\/n=5\/n=6\/n=7\/n=8\/n=9\/n=10:=by
 simp[Pl.opk] at h
 omega
theorem l3Sign_any (n:Int) (h:Pl.opk n=true) (w:World) :
  Calls Tryz.prog 91 #[.int .i64 n] w fun e w'=>e=.returned (.string (Pl.ba (Pl.osg n)))/\Below w.heap.size w w':=by
 have HB:Hid (∀o,Below w.heap.size w (w.alloc o)):=fun o=>(Below.refl _ _).alloc (Nat.le_refl _) _
 rcases opk_iff h with rfl|rfl|rfl|rfl|rfl|rfl|rfl|rfl|rfl|rfl <;>
 ·clear h
  generalize hr:Pl.ba (Pl.osg _)=r
  have HR:=zH hr.symm
  clear hr
  go_enter Tryz.func91,Tryz.ntmps91
  go_wp2
  go_ret
  exact⟨ret_str (HR.out.trans (by decide)).symm,HB.out _⟩
theorem Pl.fok_cases {k a b:Int}{nm:List UInt8}{two:Bool}(h:Pl.fok ⟨k,a,b,nm⟩ two=true):k=10\/(nm=[]/\((k=9/\a=0/\b=0)\/(k=1/\(1<=a/\a<=4)/\b=0)\/(k=2/\(1<=a/\a<=7)/\b=0)\/(k=6/\(1<=a/\a<=7)/\b=0)\/(k=3/\Pl.opk a=true/\b=0)\/(k=4/\Pl.opk a=true/\b=0)\/(k=5/\Pl.opk a=true/\b=0)\/(k=7/\Pl.opk a=true/\b=0)\/(k=8/\Pl.opk a=true/\Pl.opk b=true))):=by
 unfold Pl.fok at h
 split at h
 ·exact .inl ‹_›
 refine .inr ?_
 split at h
 ·cases h
 rename_i h1
 simp only[ne_eq,not_or,Classical.not_not,not_and] at h1
 refine⟨h1.1,?_⟩
 split at h
 ·rename_i e
  simp only[Bool.and_eq_true,decide_eq_true_eq] at h
  exact .inl ⟨e,h.2,h1.2 (by simp only[] at e;omega)⟩
 refine .inr ?_
 split at h
 ·rename_i e
  simp only[Bool.and_eq_true,decide_eq_true_eq] at h
  exact .inl ⟨e,⟨h.1.2,h.2⟩,h1.2 (by simp only[] at e;omega)⟩
 refine .inr ?_
 split at h
 ·rename_i e
  simp only[Bool.and_eq_true,decide_eq_true_eq] at h
  rcases e with e|e
  ·exact .inl ⟨e,⟨h.1.2,h.2⟩,h1.2 (by simp only[] at e;omega)⟩
  ·exact .inr (.inl ⟨e,⟨h.1.2,h.2⟩,h1.2 (by simp only[] at e;omega)⟩)
 refine .inr (.inr ?_)
 split at h
 ·rename_i e
  simp only[Bool.and_eq_true] at h
  rcases e with e|e
  ·exact .inl ⟨e,h.2,h1.2 (by simp only[] at e;omega)⟩
  ·exact .inr (.inl ⟨e,h.2,h1.2 (by simp only[] at e;omega)⟩)
 refine .inr (.inr ?_)
 split at h
 ·rename_i e
  simp only[Bool.and_eq_true] at h
  exact .inr (.inr ⟨e,h.1.2,h.2⟩)
 ·simp only[Bool.and_eq_true,Bool.or_eq_true,decide_eq_true_eq] at h
  rcases h.1.2 with e|e
  ·exact .inl ⟨e,h.2,h1.2 oM⟩
  ·exact .inr (.inl ⟨e,h.2,h1.2 oM⟩)
theorem Pl.osg_len (n:Int):(Pl.ba (Pl.osg n)).size<=5:=Pl.sgn_len _
end Go.Proofs.YtbiiicbfpcfgdaaGreatDoor
