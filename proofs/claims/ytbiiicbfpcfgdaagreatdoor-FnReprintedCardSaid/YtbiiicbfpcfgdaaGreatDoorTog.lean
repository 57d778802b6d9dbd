import Derived.Test.YtbiiicbfpcfgdaaGreatDoorMem
import Derived.Laws.StructEq
import Derived.Test.YtbiiicbfpcfgdaaGreatDoorWh
import Derived.Maps.AppendAt
import Derived.OwnWalk
import Derived.Laws.BytesArg
import Derived.Laws.Concat
import Derived.Deep.RegionWith
import Derived.Deep.RegionHeld3
namespace Go.Proofs.YtbiiicbfpcfgdaaGreatDoor
open Go.RowKit
set_option maxRecDepth 100000
set_option maxHeartbeats 16000000
set_option linter.unusedVariables false
structure Mt (w:World) (mb mo cp:Nat):Prop where
 g:w.cell? ⟨1,0,none⟩=some (.slice (some ⟨mb,mo,none⟩) 25 cp)
 b:mb<w.heap.size
 z:1<w.heap.size
 c:∀(k:Nat) (m:Pl.Mg),Pl.mgs[k]? = some m->w.cell? ⟨mb,mo+k * 5,none⟩=some (.string (Pl.ba m.t))/\w.cell? ⟨mb,mo+k * 5+1,none⟩=some (.int .i64 m.ok)/\w.cell? ⟨mb,mo+k * 5+2,none⟩=some (.int .i64 m.ow)/\w.cell? ⟨mb,mo+k * 5+3,none⟩=some (.int .i64 m.tk)/\w.cell? ⟨mb,mo+k * 5+4,none⟩=some (.int .i64 m.tw)
 ml:∃x,w.cell? ⟨0,0,none⟩=some (.int .i64 x)
theorem Mt.keep {w w':World}{mb mo cp:Nat}(h:Mt w mb mo cp) (hb:Below w.heap.size w w'):Mt w' mb mo cp:=by
 obtain⟨h1,h2,h3,h4,x,h5⟩:=h
 refine⟨(hb.cell (p:=⟨1,0,none⟩) (show 1<w.heap.size by omega)).trans h1,Nat.lt_of_lt_of_le h2 hb.size,Nat.lt_of_lt_of_le h3 hb.size,fun k m hm=>?_,x,(hb.cell (p:=⟨0,0,none⟩) (show 0<w.heap.size by omega)).trans h5⟩
 obtain⟨a,b,c,d,e⟩:=h4 k m hm
 exact⟨(hb.cell (p:=⟨mb,mo+k * 5,none⟩) h2).trans a,(hb.cell (p:=⟨mb,mo+k * 5+1,none⟩) h2).trans b,(hb.cell (p:=⟨mb,mo+k * 5+2,none⟩) h2).trans c,(hb.cell (p:=⟨mb,mo+k * 5+3,none⟩) h2).trans d,(hb.cell (p:=⟨mb,mo+k * 5+4,none⟩) h2).trans e⟩
theorem uses_any (t:ByteArray) (a b c d:Int) (w:World) :
  Calls Tryz.prog 114 #[.agg #[.string t,.int .i64 a,.int .i64 b,.int .i64 c,.int .i64 d]] w fun e w'=>e=.returned (.agg #[.int .i64 a,.int .i64 b,.int .i64 0,.string ⟨#[]⟩,.int .i64 c,.int .i64 d,.int .i64 0,.string ⟨#[]⟩])/\Below w.heap.size w w':=by
 have HB:Hid (∀o o2,Below w.heap.size w ((w.alloc o).alloc o2)):=fun o o2=>((Below.refl _ _).alloc (Nat.le_refl _) _).alloc sI _
 go_enter Tryz.func114,Tryz.ntmps114
 go_wp2
 refine bodyPost_ret (v:=.agg #[.int .i64 a,.int .i64 b,.int .i64 0,.string ⟨#[]⟩,.int .i64 c,.int .i64 d,.int .i64 0,.string ⟨#[]⟩]) (by simp[results,Tryz.results114,go_sem]) rfl ⟨rfl,HB.out _ _⟩
theorem frozen_blk {w:World}{b:Nat}{cs:Array Value}{t:TypeId}(h:w.heap[b]? = some (.cells cs t)) (j:Nat):w.frozen? ⟨b,j,none⟩=false:=by
 simp[World.frozen?,h]
theorem cell_blk {w:World}{b:Nat}{cs:Array Value}{t:TypeId}{f:Nat × Nat}(h:w.heap[b]? = some (.cells cs t f)) (j:Nat):w.cell? ⟨b,j,none⟩=cs[j]?:=by
 simp[World.cell?,h]
namespace Pl
def rowOf (l:List UInt8):Option Mg:=mgs.find? (fun m=>decide (m.t=l))
theorem rowOf_hit {l:List UInt8}{k:Nat}{m:Mg}(hk:mgs[k]? = some m) (hb:∀x∈mgs.take k,x.t ≠ l) (hm:m.t=l):rowOf l=some m:=by
 unfold rowOf
 have hlt:=(List.getElem?_eq_some_iff.1 hk).1
 have e:mgs=mgs.take k++m::mgs.drop (k+1):=by
  have:=(List.take_append_drop k mgs).symm
  rw[List.drop_eq_getElem_cons hlt] at this
  rw[(List.getElem?_eq_some_iff.1 hk).2] at this
  exact this
 rw[e,List.find?_append]
 have:(mgs.take k).find? (fun m=>decide (m.t=l))=none:=by
  rw[List.find?_eq_none]
  intro x hx
  simpa using hb x hx
 rw[this]
 simp[hm]
theorem rowOf_none {l:List UInt8}(hb:∀x∈mgs.take 25,x.t ≠ l):rowOf l=none:=by
 unfold rowOf
 rw[List.find?_eq_none]
 intro x hx
 have:mgs.take 25=mgs:=rfl
 rw[this] at hb
 simpa using hb x hx
theorem take_next {l:List UInt8}{k:Nat}{m:Mg}(hk:mgs[k]? = some m) (hb:∀x∈mgs.take k,x.t ≠ l) (hm:m.t ≠ l):∀x∈mgs.take (k+1),x.t ≠ l:=by
 intro x hx
 rw[List.take_add_one,hk] at hx
 rcases List.mem_append.1 hx with h|h
 ·exact hb x h
 have:x=m:=by simpa using h
 rw[this];exact hm
theorem mgs_some (k:Nat) (h:k<25):∃m,mgs[k]? = some m:=⟨mgs[k]'h,List.getElem?_eq_getElem (show k<mgs.length from h)⟩
end Pl
theorem ba_beq2 (l:List UInt8) (s:ByteArray):((Pl.ba l).toList == s.toList)=decide (l=s.data.toList):=by
 rw[ba_eq,Bool.eq_iff_iff]
 simp only[decide_eq_true_eq]
 rw[Pl.ba_iff]
 exact Iff.rfl
def usV (l:List UInt8):Value:=match Pl.rowOf l with
 |some m=>.agg #[.int .i64 m.ok,.int .i64 m.ow,.int .i64 0,.string ⟨#[]⟩,.int .i64 m.tk,.int .i64 m.tw,.int .i64 0,.string ⟨#[]⟩]
 |none=>.agg #[.int .i64 0,.int .i64 0,.int .i64 0,.string ⟨#[]⟩,.int .i64 0,.int .i64 0,.int .i64 0,.string ⟨#[]⟩]
theorem usV_some {l:List UInt8}{m:Pl.Mg}(h:Pl.rowOf l=some m):usV l=.agg #[.int .i64 m.ok,.int .i64 m.ow,.int .i64 0,.string ⟨#[]⟩,.int .i64 m.tk,.int .i64 m.tw,.int .i64 0,.string ⟨#[]⟩]:=by unfold usV;rw[h]
theorem usV_none {l:List UInt8}(h:Pl.rowOf l=none):usV l=.agg #[.int .i64 0,.int .i64 0,.int .i64 0,.string ⟨#[]⟩,.int .i64 0,.int .i64 0,.int .i64 0,.string ⟨#[]⟩]:=by unfold usV;rw[h]
theorem usesOf_any (s:ByteArray) (mb mo cp:Nat) (w:World) (hm:Mt w mb mo cp) :
  Calls Tryz.prog 101 #[.string s] w fun e w'=>e=.returned (usV s.data.toList)/\Below w.heap.size w w':=by
 obtain⟨h1,h2,h3,h4,h5⟩:=hm
 have HT:=zH h4
 clear h4 h5
 obtain⟨W0,hW0⟩:∃W0,w.alloc (.cells #[.int .i64 0,.int .i64 0,.int .i64 0,.string ⟨#[]⟩,.int .i64 0,.int .i64 0,.int .i64 0,.string ⟨#[]⟩] 149)=W0:=⟨_,rfl⟩
 have HS0:Hid (W0.heap.size=w.heap.size+1):=by show _=_;rw[<- hW0];simp
 have HB0:Hid (Below w.heap.size w W0):=by show Below _ _ _;rw[<- hW0];exact(Below.refl _ _).alloc (Nat.le_refl _) _
 have HK0:Hid (W0.heap[w.heap.size]? = some (.cells #[.int .i64 0,.int .i64 0,.int .i64 0,.string ⟨#[]⟩,.int .i64 0,.int .i64 0,.int .i64 0,.string ⟨#[]⟩] 149)):=by show _=_;rw[<- hW0];exact heap_alloc_new w _
 have g0:∀o,(w.alloc o).cell? ⟨1,0,none⟩=some (.slice (some ⟨mb,mo,none⟩) 25 cp):=fun o=>(((Below.refl w.heap.size w).alloc (Nat.le_refl _) o).cell (p:=⟨1,0,none⟩) (show 1<w.heap.size by omega)).trans h1
 have HW0:=zH hW0
 have HR0:Hid (Below (w.heap.size+1) W0 W0):=Below.refl _ _
 clear hW0
 have HC:Hid (∀k m wr,Pl.mgs[k]? = some m->Below (w.heap.size+1) W0 wr->wr.cell? ⟨mb,mo+k * 5,none⟩=some (.string (Pl.ba m.t))/\wr.cell? ⟨mb,mo+k * 5+1,none⟩=some (.int .i64 m.ok)/\wr.cell? ⟨mb,mo+k * 5+2,none⟩=some (.int .i64 m.ow)/\wr.cell? ⟨mb,mo+k * 5+3,none⟩=some (.int .i64 m.tk)/\wr.cell? ⟨mb,mo+k * 5+4,none⟩=some (.int .i64 m.tw)):=fun k m wr hk hb=>by
  obtain⟨a,b,c,d,e⟩:=HT.out k m hk
  have hb':Below w.heap.size w wr:=HB0.out.trans (hb.mono (Nat.le_succ _))
  exact⟨(hb'.cell (p:=⟨mb,mo+k * 5,none⟩) h2).trans a,(hb'.cell (p:=⟨mb,mo+k * 5+1,none⟩) h2).trans b,(hb'.cell (p:=⟨mb,mo+k * 5+2,none⟩) h2).trans c,(hb'.cell (p:=⟨mb,mo+k * 5+3,none⟩) h2).trans d,(hb'.cell (p:=⟨mb,mo+k * 5+4,none⟩) h2).trans e⟩
 clear HT h1 h2 h3
 go_enter Tryz.func101,Tryz.ntmps101
 go_wp2_with fail
 rw[HW0.out]
 go_loopw [7] (fun v wr=>∃k:Nat,k<=25/\v=.int .i64 k/\Hid (∀x∈Pl.mgs.take k,x.t ≠ s.data.toList)/\Hid (Below (w.heap.size+1) W0 wr)) (fun v _=>25-(intOf v).toNat)
 case atStart=>exact⟨0,by omega,rfl,fun x hx=>by simp at hx,HR0⟩
 obtain⟨k,hk,rfl,hno,hbx⟩:=hrel
 have hsz:w.heap.size+1<=wr.heap.size:=by have:=hbx.out.size;have:=HS0.out;omega
 by_cases hlt:k<25
 rotate_left 1
 ·obtain rfl:k=25:=by omega
  have HRW:=zH (Pl.rowOf_none hno.out)
  have hblk:wr.heap[w.heap.size]? = some (.cells #[.int .i64 0,.int .i64 0,.int .i64 0,.string ⟨#[]⟩,.int .i64 0,.int .i64 0,.int .i64 0,.string ⟨#[]⟩] 149):=(hbx.out.block w.heap.size (Nat.lt_succ_self _)).trans HK0.out
  have fz:=frozen_blk hblk
  have HBW:=zH (HB0.out.trans (hbx.out.mono (Nat.le_succ _)))
  have z0:=cell_blk hblk 0
  have z1:=cell_blk hblk 1
  have z2:=cell_blk hblk 2
  have z3:=cell_blk hblk 3
  have z4:=cell_blk hblk 4
  have z5:=cell_blk hblk 5
  have z6:=cell_blk hblk 6
  have z7:=cell_blk hblk 7
  simp at z0 z1 z2 z3 z4 z5 z6 z7
  clear hblk hno HC
  go_wp2_with fail
  refine bodyPost_ret (v:=.agg #[.int .i64 0,.int .i64 0,.int .i64 0,.string ⟨#[]⟩,.int .i64 0,.int .i64 0,.int .i64 0,.string ⟨#[]⟩]) (by simp[results,Tryz.results101,go_sem,z0,z1,z2,z3,z4,z5,z6,z7]) rfl ⟨by rw[usV_none HRW.out],((((((((HBW.out.setCell sI _).setCell sI _).setCell sI _).setCell sI _).setCell sI _).setCell sI _).setCell sI _).setCell sI _)⟩
 obtain⟨m,hm⟩:=Pl.mgs_some k hlt
 obtain⟨c0,c1,c2,c3,c4⟩:=HC.out k m wr hm hbx.out
 have hq:=ba_beq2 m.t s
 by_cases he:m.t=s.data.toList
 rotate_left 1
 ·rw[decide_eq_false he] at hq
  have HNX:=zH (Pl.take_next hm hno.out he)
  clear hno hm HC he
  generalize Pl.ba m.t=t at *
  have HBX:Hid (∀o,Below (w.heap.size+1) W0 (wr.alloc o)):=fun o=>hbx.out.alloc hsz o
  go_wp2_with fail
  go_roundw
  case rel=>exact⟨k+1,by omega,by go_num,HNX.out,HBX.out _⟩
  simp[intOf];omega
 have HRW:=zH (Pl.rowOf_hit hm hno.out he)
 rw[decide_eq_true he] at hq
 have K:=zH (uses_any (Pl.ba m.t) m.ok m.ow m.tk m.tw)
 clear hno hm HC he
 generalize Pl.ba m.t=t at *
 have HBX:Hid (∀o w',Below (wr.alloc o).heap.size (wr.alloc o) w'->w'.heap[w.heap.size]? = some (.cells #[.int .i64 0,.int .i64 0,.int .i64 0,.string ⟨#[]⟩,.int .i64 0,.int .i64 0,.int .i64 0,.string ⟨#[]⟩] 149)/\Below (w.heap.size) w w'):=fun o w' hb=>by
  have hb2:Below (w.heap.size+1) W0 w':=(hbx.out.alloc hsz o).trans (hb.mono (by simp;omega))
  exact⟨(hb2.block w.heap.size (Nat.lt_succ_self _)).trans HK0.out,HB0.out.trans (hb2.mono (Nat.le_succ _))⟩
 go_wp2_with fail
 refine(K.out _).mono ?_
 rintro e w2 ⟨rfl,hb2⟩
 obtain⟨hblk,hbw⟩:=HBX.out _ _ hb2
 have fz:=frozen_blk hblk
 have HBW:=zH hbw
 have z0:=cell_blk hblk 0
 have z1:=cell_blk hblk 1
 have z2:=cell_blk hblk 2
 have z3:=cell_blk hblk 3
 have z4:=cell_blk hblk 4
 have z5:=cell_blk hblk 5
 have z6:=cell_blk hblk 6
 have z7:=cell_blk hblk 7
 simp at z0 z1 z2 z3 z4 z5 z6 z7
 clear hb2 hblk hbw
 go_wp2_with fail
 refine bodyPost_ret (v:=.agg #[.int .i64 m.ok,.int .i64 m.ow,.int .i64 0,.string ⟨#[]⟩,.int .i64 m.tk,.int .i64 m.tw,.int .i64 0,.string ⟨#[]⟩]) (by simp[results,Tryz.results101,go_sem,z0,z1,z2,z3,z4,z5,z6,z7]) rfl ⟨by rw[usV_some HRW.out],((((((((HBW.out.setCell sI _).setCell sI _).setCell sI _).setCell sI _).setCell sI _).setCell sI _).setCell sI _).setCell sI _)⟩
theorem eq130 (a b c d:Int) (w:World):(Op.equalIn 10000 149 (.agg #[.int .i64 a,.int .i64 b,.int .i64 0,.string ⟨#[]⟩,.int .i64 c,.int .i64 d,.int .i64 0,.string ⟨#[]⟩]) (.agg #[.int .i64 0,.int .i64 0,.int .i64 0,.string ⟨#[]⟩,.int .i64 0,.int .i64 0,.int .i64 0,.string ⟨#[]⟩])).run Tryz.prog w=.ok (decide (a=0) && decide (b=0) && decide (c=0) && decide (d=0)) w:=by
 have u3:=Tryz.underlying3
 have a3:=Tryz.isAgg3
 have z3:=Tryz.sizeOf3
 have u9:=Tryz.underlying9
 have a9:=Tryz.isAgg9
 have z9:=Tryz.sizeOf9
 have a78:=Tryz.isAgg88
 have z78:=Tryz.sizeOf88
 have hS:Tryz.prog.underlying 149=some (.struct (Tryz.prog.fieldsOf 149)):=by kernel_rfl
 have hp:Tryz.prog.stoodInHeld 149=false:=by kernel_rfl
 have hS2:Tryz.prog.underlying 88=some (.struct (Tryz.prog.fieldsOf 88)):=by kernel_rfl
 have hp2:Tryz.prog.stoodInHeld 88=false:=by kernel_rfl
 have e2:∀(x y:Int) (w:World),(Op.equalIn 9999 88 (.agg #[.int .i64 x,.int .i64 y,.int .i64 0,.string ⟨#[]⟩]) (.agg #[.int .i64 0,.int .i64 0,.int .i64 0,.string ⟨#[]⟩])).run Tryz.prog w=.ok (decide (x=0) && decide (y=0)) w:=by
  intro x y w
  rw[show (9999:Nat)=9998+1 from rfl,run_equalIn_agg w 9998 88 _ _ hS2 hp2]
  simp only[Program.fieldsOf,Tryz.underlying88]
  go_simp
  by_cases h1:x=0 <;> by_cases h2:y=0 <;> simp[h1,h2]
 rw[show (10000:Nat)=9999+1 from rfl,run_equalIn_agg w 9999 149 _ _ hS hp]
 simp only[Program.fieldsOf,Tryz.underlying149]
 clear hS2
 go_simp
 by_cases h1:a=0 <;> by_cases h2:b=0 <;> by_cases h3:c=0 <;> by_cases h4:d=0 <;> simp[h1,h2,h3,h4]
namespace Pl
theorem rowOf_any (l:List UInt8):(rowOf l).isSome=mgs.any (fun m=>decide (m.t=l)):=by
 unfold rowOf
 rw[Bool.eq_iff_iff,List.find?_isSome,List.any_eq_true]
theorem row_nz {l:List UInt8}{m:Mg}(h:rowOf l=some m):(decide (m.ok=0) && decide (m.ow=0) && decide (m.tk=0) && decide (m.tw=0))=false:=by
 have hm:=List.mem_of_find?_eq_some h
 have:∀m∈mgs,(decide (m.ok=0) && decide (m.ow=0) && decide (m.tk=0) && decide (m.tw=0))=false:=by decide
 exact this m hm
end Pl
theorem hasMeaning_any (s:ByteArray) (mb mo cp:Nat) (w:World) (hm:Mt w mb mo cp) :
  Calls Tryz.prog 87 #[.string s] w fun e w'=>e=.returned (.bool (Pl.mgs.any (fun m=>decide (m.t=s.data.toList))))/\Below w.heap.size w w':=by
 have K:=zH (usesOf_any s mb mo cp w hm)
 rw[<- Pl.rowOf_any]
 cases h:Pl.rowOf s.data.toList with
 |none =>
  rw[usV_none h] at K
  have heq:=eq130 0 0 0 0
  clear h hm
  go_enter Tryz.func87,Tryz.ntmps87
  go_wp2_with (go_at_call 101;refine K.out.mono ?_;rintro e w' ⟨rfl,hb⟩)
  go_ret
  exact⟨rfl,hb⟩
 |some m =>
  rw[usV_some h] at K
  have heq:=eq130 m.ok m.ow m.tk m.tw
  rw[Pl.row_nz h] at heq
  clear h hm
  go_enter Tryz.func87,Tryz.ntmps87
  go_wp2_with (go_at_call 101;refine K.out.mono ?_;rintro e w' ⟨rfl,hb⟩)
  go_ret
  exact⟨rfl,hb⟩
theorem tWki1 {P:Prop}(h:P:=by
 go_enter Tryz.func62,Tryz.ntmps62
 go_wp2_with (first | (go_at_call 61;refine(K.out _).mono ?_;rintro e w' ⟨rfl,rfl⟩) | (go_at_call 57;refine(K2.out _).mono ?_;rintro e w' ⟨rfl,rfl⟩) | (go_at_call 86;refine(K3.out _).mono ?_;rintro e w' ⟨rfl,rfl⟩) | (go_at_call 87;refine K4.out.mono ?_;rintro e w' ⟨rfl,hb⟩))
 go_ret
 exact⟨ret_int HR.out.symm,hb⟩
 ):P:=h
theorem tWki2 {P:Prop}(h:P:=by
 go_enter Tryz.func62,Tryz.ntmps62
 go_wp2_with (first | (go_at_call 61;refine(K.out _).mono ?_;rintro e w' ⟨rfl,rfl⟩) | (go_at_call 57;refine(K2.out _).mono ?_;rintro e w' ⟨rfl,rfl⟩))
 go_ret
 exact⟨ret_int HR.out.symm,Below.refl _ _⟩
 ):P:=h
theorem wordKind_any (s:ByteArray) (mb mo cp:Nat) (w:World) (hm:Mt w mb mo cp) (hl:s.size<=9223372036854775807) :
  Calls Tryz.prog 62 #[.string s] w fun e w'=>e=.returned (.int .i64 (Pl.wk s.data.toList))/\Below w.heap.size w w':=by
 by_cases h0:s.size=0
 ·have hq:(s.toList == [])=true:=by rw[ba_nil];exact decide_eq_true h0
  have HR:Hid (Pl.wk s.data.toList=0):=by
   show _=_
   rw[Pl.sz_eq] at h0
   rw[List.eq_nil_of_length_eq_zero h0]
   rfl
  clear h0
  generalize Pl.wk s.data.toList=r at *
  go_enter Tryz.func62,Tryz.ntmps62
  go_wp2
  go_ret
  exact⟨ret_int HR.out.symm,Below.refl _ _⟩
 have hq:(s.toList == [])=false:=by rw[ba_nil];exact decide_eq_false h0
 have hix:∀w,(Instr.index 9 (.string s) (.int .i64 0)).run Tryz.prog w=.ok (.int .u8 (Pl.bt s 0)) w:=idx_str s 0 oM
 have HW:=zH (Pl.wk_I s h0)
 have K:Hid (∀w,Calls Tryz.prog 61 #[.int .u8 (Pl.bt s 0)] w fun e w'=>e=.returned (.bool (Pl.lttI (Pl.bt s 0)))/\w'=w):=isLetter_any _
 have K2:Hid (∀w,Calls Tryz.prog 57 #[.string s,.int .i64 0] w fun e w'=>e=.returned (.int .i64 (Pl.stre s (s.size-1) 1:Nat))/\w'=w):=fun w=>stretchEnd_any s 0 w oM hl
 have K3:Hid (∀w,Calls Tryz.prog 86 #[.int .u8 (Pl.bt s 0)] w fun e w'=>e=.returned (.bool (decide (65<=Pl.bt s 0/\Pl.bt s 0<=90)))/\w'=w):=isCapital_any _
 have K4:=zH (hasMeaning_any s mb mo cp w hm)
 clear hm
 generalize Pl.wk s.data.toList=r at *
 generalize Pl.mgs.any (fun m=>decide (m.t=s.data.toList))=q at *
 generalize Pl.stre s (s.size-1) 1=z at *
 generalize hcx:decide (65<=Pl.bt s 0/\Pl.bt s 0<=90)=cx at *
 have HCX:=zH hcx
 clear hcx
 generalize Pl.bt s 0=x at *
 generalize hlx:Pl.lttI x=lx at *
 clear hlx
 have Hs:Hid (∀n,s.size=n->s.size=n):=fun _ h=>h
 generalize hn:s.size=n at *
 by_cases g1:(20:Int)<n
 ·have HR:=zH (show r=0 by rw[HW.out,if_pos oM])
  go_enter Tryz.func62,Tryz.ntmps62
  go_wp2
  go_ret
  exact⟨ret_int HR.out.symm,Below.refl _ _⟩
 have HW1:=zH (show r=if lx=false then 0 else if z<n then 0 else if s=⟨#[115,101,108,102]⟩\/(65<=x/\x<=90) then 3 else if q=true then 4 else 2 by rw[HW.out,if_neg oM])
 clear HW
 cases lx
 ·have HR:=zH (show r=0 by rw[HW1.out,if_pos rfl])
  go_enter Tryz.func62,Tryz.ntmps62
  go_wp2_with (first | (go_at_call 61;refine(K.out _).mono ?_;rintro e w' ⟨rfl,rfl⟩))
  go_ret
  exact⟨ret_int HR.out.symm,Below.refl _ _⟩
 have HW2:=zH (show r=if z<n then 0 else if s=⟨#[115,101,108,102]⟩\/(65<=x/\x<=90) then 3 else if q=true then 4 else 2 by rw[HW1.out,if_neg (by decide)])
 clear HW1
 by_cases g2:(z:Int)<n
 ·have HR:=zH (show r=0 by rw[HW2.out,if_pos oM])
  exact tWki2
 have HW3:=zH (show r=if s=⟨#[115,101,108,102]⟩\/(65<=x/\x<=90) then 3 else if q=true then 4 else 2 by rw[HW2.out,if_neg oM])
 clear HW2
 by_cases g3:s=⟨#[115,101,108,102]⟩
 ·have HR:=zH (show r=3 by rw[HW3.out,if_pos (.inl g3)])
  have hqs:(s.toList == [115,101,108,102])=true:=by rw[<- self_list,ba_eq];exact decide_eq_true g3
  clear g3
  exact tWki2
 have hqs:(s.toList == [115,101,108,102])=false:=by rw[<- self_list,ba_eq];exact decide_eq_false g3
 cases cx
 ·have hnc:=of_decide_eq_false HCX.out
  have HW4:=zH (show r=if q=true then 4 else 2 by rw[HW3.out,if_neg (by rintro (h | h);exact g3 h;exact hnc h)])
  clear g3 hnc HW3 HCX
  cases q
  ·have HR:=zH (show r=2 by rw[HW4.out];rfl)
   exact tWki1
  have HR:=zH (show r=4 by rw[HW4.out];rfl)
  exact tWki1
 have hc:=of_decide_eq_true HCX.out
 have HR:=zH (show r=3 by rw[HW3.out,if_pos (.inr hc)])
 clear g3 hc HCX HW3
 go_enter Tryz.func62,Tryz.ntmps62
 go_wp2_with (first | (go_at_call 61;refine(K.out _).mono ?_;rintro e w' ⟨rfl,rfl⟩) | (go_at_call 57;refine(K2.out _).mono ?_;rintro e w' ⟨rfl,rfl⟩) | (go_at_call 86;refine(K3.out _).mono ?_;rintro e w' ⟨rfl,rfl⟩))
 go_ret
 exact⟨ret_int HR.out.symm,Below.refl _ _⟩
theorem ba_iffL {s t:ByteArray}:s.toList=t.toList ↔ s=t:=by rw[ByteArray.toList_eq,ByteArray.toList_eq];exact(Pl.ba_iff s t).symm
theorem eq78 (k1 k2 k3 k4 k5 k6:Int) (s t:ByteArray) (w:World):(Op.equalIn 10000 88 (.agg #[.int .i64 k1,.int .i64 k2,.int .i64 k3,.string s]) (.agg #[.int .i64 k4,.int .i64 k5,.int .i64 k6,.string t])).run Tryz.prog w=.ok (decide (k1=k4) && decide (k2=k5) && decide (k3=k6) && decide (s=t)) w:=by
 have u3:=Tryz.underlying3
 have a3:=Tryz.isAgg3
 have z3:=Tryz.sizeOf3
 have u9:=Tryz.underlying9
 have a9:=Tryz.isAgg9
 have z9:=Tryz.sizeOf9
 have hS:Tryz.prog.underlying 88=some (.struct (Tryz.prog.fieldsOf 88)):=by kernel_rfl
 have hp:Tryz.prog.stoodInHeld 88=false:=by kernel_rfl
 rw[show (10000:Nat)=9999+1 from rfl,run_equalIn_agg w 9999 88 _ _ hS hp]
 simp only[Program.fieldsOf,Tryz.underlying88]
 go_simp
 by_cases h1:k1=k4 <;> by_cases h2:k2=k5 <;> by_cases h3:k3=k6 <;> by_cases h4:s=t <;> simp[h1,h2,h3,h4,ba_iffL]
theorem uLxp01 {P:Prop}(h:P:=by simp[results,Tryz.results27,go_sem]):P:=h
namespace Pl
def dv (s:ByteArray):Nat->Int
 |0=>0
 |k+1=>dv s k * 10+(bt s k-48)
def digs (s:ByteArray) (n:Nat):Prop:=∀j,j<n->digI (bt s j)=true
instance (s:ByteArray) (n:Nat):Decidable (digs s n):=inferInstanceAs (Decidable (∀j,j<n->digI (bt s j)=true))
theorem digI_iff {x:Int}:digI x=true ↔ 48<=x/\x<=57:=by simp[digI]
def p10:Nat->Int
 |0=>1
 |n+1=>10 * p10 n
theorem p10_le:∀k,k<=10->1<=p10 k/\p10 k<=10000000000:=by decide
theorem dv_lt {s:ByteArray}:∀k,digs s k->0<=dv s k/\dv s k<p10 k
 |0,_=>by simp[dv,p10]
 |k+1,h=>by
  have:=dv_lt k (fun j hj=>h j oM)
  have h2:=digI_iff.1 (h k oM)
  simp only[dv,p10]
  omega
def numR (s:ByteArray):Int × Bool:=if digs s s.size/\s.size<=10 then (dv s s.size,decide (0<s.size) && decide (dv s s.size<=3000000000)) else (0,false)
def numS (s:ByteArray):Int × Bool:=if bt s 0=95 then (-(numR (s.extract 1 s.size)).1,(numR (s.extract 1 s.size)).2) else numR s
end Pl
theorem tLxp01 {P:Prop}(h:P:=by
 have h10':¬(10<(n:Int)):=by omega
 go_wp2_with (go_at_call 25;refine(K.out _).mono ?_;rintro e w' ⟨rfl,rfl⟩)
 go_roundw
 case rel=>exact⟨k+1,by omega,by go_num,fun _=>h10,HG,by rw[HS.out]⟩
 case measure=>simp[intOf];omega
 ):P:=h
theorem l3Number_any (s:ByteArray) (w:World) (h0:0<s.size) (hl:s.size<=9223372036854775807) :
  Calls Tryz.prog 27 #[.string s] w fun e w'=>e=.returned (.tuple #[.int .i64 (Pl.numS s).1,.bool (Pl.numS s).2])/\w'=w:=by
 have hix0:∀w,(Instr.index 9 (.string s) (.int .i64 0)).run Tryz.prog w=.ok (.int .u8 (Pl.bt s 0)) w:=idx_str s 0 h0
 by_cases h95:Pl.bt s 0=95
 rotate_left 1
 ·have HS:Hid (Pl.numS s=Pl.numR s):=by show _=_;unfold Pl.numS;rw[if_neg h95]
  have h95':(Pl.bt s 0 == 95)=false:=by simpa using h95
  rw[HS.out]
  clear HS h95
  generalize Pl.bt s 0=x0 at *
  have HV:Hid (Pl.numR s=if Pl.digs s s.size/\s.size<=10 then (Pl.dv s s.size,decide (0<s.size) && decide (Pl.dv s s.size<=3000000000)) else (0,false)):=rfl
  have HX:Hid (∀k,k<s.size->∀w,(Instr.index 9 (.string s) (.int .i64 k)).run Tryz.prog w=.ok (.int .u8 (Pl.bt s k)) w):=fun k hk w=>idx_str s k hk w
  have HD:Hid (∀k,Pl.digs s k->k<=10->0<=Pl.dv s k/\Pl.dv s k<=10000000000):=fun k h hk=>by
   have h1:=Pl.dv_lt k h
   have h2:=Pl.p10_le k hk
   omega
  generalize hN:Pl.numR s=R at *
  clear hN
  generalize hn:s.size=n at *
  go_enter Tryz.func27,Tryz.ntmps27
  go_wp2
  go_loop [5,6] (fun v i=>∃k:Nat,k<=n/\i=.int .i64 k/\(0<k->n<=10)/\Hid (Pl.digs s k)/\v=.int .i64 (Pl.dv s k)) (fun _ i=>n-(intOf i).toNat)
  case atStart=>exact⟨0,Nat.zero_le _,rfl,fun h=>absurd h oM,fun j hj=>absurd hj oM,rfl⟩
  obtain⟨k,hk,rfl,hk10,hdg,rfl⟩:=hrel
  by_cases hlt:k<n
  rotate_left 1
  ·obtain rfl:k=n:=by omega
   have h10:k<=10\/k=0:=by
    rcases Nat.eq_zero_or_pos k with h|h
    ·exact .inr h
    exact .inl (hk10 h)
   have HR:=zH (show R=(Pl.dv s k,decide (0<k) && decide (Pl.dv s k<=3000000000)) by rw[HV.out,if_pos ⟨hdg.out,by omega⟩])
   have hdb:=HD.out k hdg.out oM
   clear HV HX HD
   generalize Pl.dv s k=d at *
   by_cases hp:0<k
   ·have hp':(0:Int)<(k:Int):=by omega
    by_cases hm:d<=3000000000
    ·go_wp2
     refine bodyPost_ret (v:=.tuple #[.int .i64 (d),.bool true]) uLxp01 rfl ⟨by rw[HR.out];simp[hp,hm],rfl⟩
    go_wp2
    refine bodyPost_ret (v:=.tuple #[.int .i64 (d),.bool false]) uLxp01 rfl ⟨by rw[HR.out];simp[hp,hm],rfl⟩
   exact absurd h0 hp
  have hix:=HX.out k hlt
  have hlt':(k:Int)<(n:Int):=by omega
  have K:Hid (∀w,Calls Tryz.prog 25 #[.int .u8 (Pl.bt s k)] w fun e w'=>e=.returned (.bool (Pl.digI (Pl.bt s k)))/\w'=w):=l3Digit_any _
  cases hd:Pl.digI (Pl.bt s k)
  ·rw[hd] at K
   have HR:Hid (R=(0,false)):=by
    show _=_
    rw[HV.out,if_neg]
    rintro ⟨h1,_⟩
    rw[h1 k hlt] at hd
    cases hd
   clear HV HX HD hd
   generalize Pl.bt s k=x at *
   generalize Pl.dv s k=d at *
   go_wp2_with (go_at_call 25;refine(K.out _).mono ?_;rintro e w' ⟨rfl,rfl⟩)
   refine bodyPost_ret (v:=.tuple #[.int .i64 0,.bool false]) uLxp01 rfl ⟨by rw[HR.out],rfl⟩
  rw[hd] at K
  by_cases h10:n<=10
  ·have HG:=zH (show Pl.digs s (k+1) from fun j hj=>by
    rcases Nat.lt_or_ge j k with h|h
    ·exact hdg.out j h
    obtain rfl:j=k:=by omega
    exact hd)
   have hb:=Pl.digI_iff.1 hd
   have hdb:=HD.out k hdg.out oM
   have HS:=zH (show Pl.dv s (k+1)=Pl.dv s k * 10+(Pl.bt s k-48) from rfl)
   clear HV HX HD hd
   generalize Pl.bt s k=x at *
   generalize Pl.dv s k=d at *
   exact tLxp01
  have HR:Hid (R=(0,false)):=by
   show _=_
   rw[HV.out,if_neg]
   rintro ⟨_,h1⟩
   omega
  clear HV HX HD hd
  generalize Pl.bt s k=x at *
  generalize Pl.dv s k=d at *
  have h10':10<(n:Int):=by omega
  go_wp2_with (go_at_call 25;refine(K.out _).mono ?_;rintro e w' ⟨rfl,rfl⟩)
  refine bodyPost_ret (v:=.tuple #[.int .i64 0,.bool false]) uLxp01 rfl ⟨by rw[HR.out],rfl⟩
 have HS:Hid (Pl.numS s=(-(Pl.numR (s.extract 1 s.size)).1,(Pl.numR (s.extract 1 s.size)).2)):=by show _=_;unfold Pl.numS;rw[if_pos h95]
 rw[h95] at hix0
 rw[HS.out]
 clear HS h95
 have hlu:(s.extract 1 s.size).size<=9223372036854775807:=by simp;omega
 generalize hN0:Pl.numR (s.extract 1 s.size)=R at *
 have HN:Hid (Pl.numR (s.extract 1 s.size)=R):=hN0
 clear hN0
 have HLU:=zH hlu
 clear hlu
 go_enter Tryz.func27,Tryz.ntmps27
 go_wp2
 clear h0 hl hix0
 generalize s.extract 1 s.size=u at *
 have hl:=HLU.out
 clear HLU
 have HV:Hid (R=if Pl.digs u u.size/\u.size<=10 then (Pl.dv u u.size,decide (0<u.size) && decide (Pl.dv u u.size<=3000000000)) else (0,false)):=by show _=_;rw[<- HN.out];rfl
 have HX:Hid (∀k,k<u.size->∀w,(Instr.index 9 (.string u) (.int .i64 k)).run Tryz.prog w=.ok (.int .u8 (Pl.bt u k)) w):=fun k hk w=>idx_str u k hk w
 have HD:Hid (∀k,Pl.digs u k->k<=10->0<=Pl.dv u k/\Pl.dv u k<=10000000000):=fun k h hk=>by
  have h1:=Pl.dv_lt k h
  have h2:=Pl.p10_le k hk
  omega
 clear HN
 generalize hn:u.size=n at *
 go_loop [5,6] (fun v i=>∃k:Nat,k<=n/\i=.int .i64 k/\(0<k->n<=10)/\Hid (Pl.digs u k)/\v=.int .i64 (Pl.dv u k)) (fun _ i=>n-(intOf i).toNat)
 case atStart=>exact⟨0,Nat.zero_le _,rfl,fun h=>absurd h oM,fun j hj=>absurd hj oM,rfl⟩
 obtain⟨k,hk,rfl,hk10,hdg,rfl⟩:=hrel
 by_cases hlt:k<n
 rotate_left 1
 ·obtain rfl:k=n:=by omega
  have h10:k<=10\/k=0:=by
   rcases Nat.eq_zero_or_pos k with h|h
   ·exact .inr h
   exact .inl (hk10 h)
  have HR:=zH (show R=(Pl.dv u k,decide (0<k) && decide (Pl.dv u k<=3000000000)) by rw[HV.out,if_pos ⟨hdg.out,by omega⟩])
  have hdb:=HD.out k hdg.out oM
  clear HV HX HD
  generalize Pl.dv u k=d at *
  by_cases hp:0<k
  ·have hp':(0:Int)<(k:Int):=by omega
   by_cases hm:d<=3000000000
   ·go_wp2
    refine bodyPost_ret (v:=.tuple #[.int .i64 (-d),.bool true]) uLxp01 rfl ⟨by rw[HR.out];simp[hp,hm],rfl⟩
   go_wp2
   refine bodyPost_ret (v:=.tuple #[.int .i64 (-d),.bool false]) uLxp01 rfl ⟨by rw[HR.out];simp[hp,hm],rfl⟩
  obtain rfl:k=0:=by omega
  simp only[Int.natCast_zero] at *
  go_wp2
  refine bodyPost_ret (v:=.tuple #[.int .i64 (-d),.bool false]) uLxp01 rfl ⟨by rw[HR.out];simp,rfl⟩
 have hix:=HX.out k hlt
 have hlt':(k:Int)<(n:Int):=by omega
 have K:Hid (∀w,Calls Tryz.prog 25 #[.int .u8 (Pl.bt u k)] w fun e w'=>e=.returned (.bool (Pl.digI (Pl.bt u k)))/\w'=w):=l3Digit_any _
 cases hd:Pl.digI (Pl.bt u k)
 ·rw[hd] at K
  have HR:Hid (R=(0,false)):=by
   show _=_
   rw[HV.out,if_neg]
   rintro ⟨h1,_⟩
   rw[h1 k hlt] at hd
   cases hd
  clear HV HX HD hd
  generalize Pl.bt u k=x at *
  generalize Pl.dv u k=d at *
  go_wp2_with (go_at_call 25;refine(K.out _).mono ?_;rintro e w' ⟨rfl,rfl⟩)
  refine bodyPost_ret (v:=.tuple #[.int .i64 0,.bool false]) uLxp01 rfl ⟨by rw[HR.out];rfl,rfl⟩
 rw[hd] at K
 by_cases h10:n<=10
 ·have HG:=zH (show Pl.digs u (k+1) from fun j hj=>by
   rcases Nat.lt_or_ge j k with h|h
   ·exact hdg.out j h
   obtain rfl:j=k:=by omega
   exact hd)
  have hb:=Pl.digI_iff.1 hd
  have hdb:=HD.out k hdg.out oM
  have HS:=zH (show Pl.dv u (k+1)=Pl.dv u k * 10+(Pl.bt u k-48) from rfl)
  clear HV HX HD hd
  generalize Pl.bt u k=x at *
  generalize Pl.dv u k=d at *
  exact tLxp01
 have HR:Hid (R=(0,false)):=by
  show _=_
  rw[HV.out,if_neg]
  rintro ⟨_,h1⟩
  omega
 clear HV HX HD hd
 generalize Pl.bt u k=x at *
 generalize Pl.dv u k=d at *
 have h10':10<(n:Int):=by omega
 go_wp2_with (go_at_call 25;refine(K.out _).mono ?_;rintro e w' ⟨rfl,rfl⟩)
 refine bodyPost_ret (v:=.tuple #[.int .i64 0,.bool false]) uLxp01 rfl ⟨by rw[HR.out];rfl,rfl⟩
theorem setCells_size (b:Nat):∀(vs:List Value) (o:Nat) (w:World),(w.setCells b o vs).heap.size=w.heap.size
 |[],_,_=>rfl
 |v::r,o,w=>by rw[World.setCells,setCells_size b r];simp
theorem setCells_below {B:Nat}{a:World}(b:Nat) (hb:B<=b):∀(vs:List Value) (o:Nat) (w:World),Below B a w->Below B a (w.setCells b o vs)
 |[],_,_,h=>h
 |v::r,o,w,h=>by rw[World.setCells];exact setCells_below b hb r _ _ (h.setCell hb v)
structure El (st et z:Nat):Prop where
 und:Tryz.prog.underlying st=some (.slice et)
 ex:∃i zr bs,Tryz.prog.info? et=some i/\i.zero=some zr/\i.size=z/\i.bytes=bs/\zr.cells.size=z/\bs<=1000/\0<z
theorem El.mk' {st et z bs:Nat}{zr:Value}(hu:Tryz.prog.underlying st=some (.slice et)) (hi:(Tryz.prog.info? et).map (fun i=>(i.zero,i.size,i.bytes))=some (some zr,z,bs)) (hz:zr.cells.size=z) (hb:bs<=1000) (h0:0<z):El st et z:=by
 obtain⟨i0,h1,h2,h3,h4⟩:=info_parts hi
 exact⟨hu,i0,zr,bs,h1,h2,h3,h4,hz,hb,h0⟩
theorem append_g {st et z:Nat}(E:El st et z) {base:Nat}(w:World) (v:Value) (n:Nat) (xs:List Value) (hown:w.ownsRow base et z v n xs) (b off m cap:Nat) (news:List Value) (hl:news.length=m * z)
  (hc:∀j u,news[j]? = some u->w.cell? ⟨b,off+j,none⟩=some u) (h1:∀u∈news,u.oneCell'=true) (hbd:n+m<=16777216) (hbase:base<=w.heap.size) (ty:TypeId) :
  ∃v' w',(Builtin.append_ #[st,st] ty #[v,.slice (some ⟨b,off,none⟩) m cap]).run Tryz.prog w=.ok v' w'/\w'.ownsRow base et z v' (n+m) (xs++news)/\w.grownBy w' v.ownBlock/\(v'.ownBlock=v.ownBlock\/v'.ownBlock=some w.heap.size):=by
 obtain⟨und,i0,zr,bs,hi,hz0,hz1,hz2,hzs,hbs,h0z⟩:=E
 obtain⟨v',w',hr,ho,hg,_,hat⟩:=run_append_own_at (P:=Tryz.prog) w base st ty et i0 zr z bs und hi hz0 hz1 hz2 hzs h0z v n xs hown ⟨b,off,none⟩ m cap news hl
  (by
   intro j x hj
   rw[Addr.add_lit]
   exact hc j x hj)
  h1 (by unfold maxLen;omega) (by have:=Nat.mul_le_mul hbd hbs;omega) hbase
 exact⟨v',w',hr,ho,hg,hat⟩
theorem wpList_append_eq {P:Program}(w w':World) {ops:Array Oper}{rest:List Oper}{o:Oper}{a:Act}{Q:Exit->Act->World->Prop}(hg:o.guard=none) (s x:Operand) (ts:Array TypeId)
  (hop:o.op=Op.call { callee:=Callee.builtin Builtin.append,args:=#[s,x],argTypes:=ts }) (vs vx v:Value) (hs:a.eval s=vs) (hx:a.eval x=vx) (hrun:(Builtin.append_ ts o.type #[vs,vx]).run P w=.ok v w')
  (hK:wpList P ops Q rest (a.put o.dst v) w'):wpList P ops Q (o::rest) a w:=by
 refine wpList_plain hg fun K hK'=>?_
 unfold Oper.wp
 simp[execOp,hop,resolve,invoke,builtin,hs,hx,hrun,Result.andThen]
 exact hK' _ _ hK
theorem wpList_append_g {st et z:Nat}(E:El st et z) {base:Nat}(w:World) {ops:Array Oper}{rest:List Oper}{o:Oper}{a:Act}{Q:Exit->Act->World->Prop}(hg:o.guard=none) (s x:Operand)
  (hop:o.op=Op.call { callee:=Callee.builtin Builtin.append,args:=#[s,x],argTypes:=#[st,st] }) (v:Value) (b off m cap:Nat) (hs:a.eval s=v) (hx:a.eval x=.slice (some ⟨b,off,none⟩) m cap) (n:Nat) (xs news:List Value)
  (hown:w.ownsRow base et z v n xs) (hl:news.length=m * z) (hc:∀j u,news[j]? = some u->w.cell? ⟨b,off+j,none⟩=some u) (h1:∀u∈news,u.oneCell'=true) (hbd:n+m<=16777216) (hbase:base<=w.heap.size)
  (hK:∀v' w',w'.ownsRow base et z v' (n+m) (xs++news)->w.grownBy w' v.ownBlock->(v'.ownBlock=v.ownBlock\/v'.ownBlock=some w.heap.size)->wpList Tryz.prog ops Q rest (a.put o.dst v') w'):wpList Tryz.prog ops Q (o::rest) a w:=by
 obtain⟨v',w',hr,ho,hb,hat⟩:=append_g E w v n xs hown b off m cap news hl hc h1 hbd hbase o.type
 exact wpList_append_eq w w' hg s x _ hop v _ v' hs hx hr (hK v' w' ho hb hat)
theorem own_form {w:World}{base et z n:Nat}{v:Value}{xs:List Value}(h:w.ownsRow base et z v n xs):∃ao cap,v=.slice ao n cap:=by
 rcases h.2 with ⟨rfl,rfl⟩|⟨g,cap,_,rfl,_⟩
 ·exact⟨none,0,rfl⟩
 exact⟨_,cap,rfl⟩
theorem grown_of_below {w w':World}(hb:Below w.heap.size w w'):w.grownBy w' none:=⟨hb.os,hb.tape,hb.output,hb.size,fun k hk _=>hb.block k hk⟩
theorem owns_keepg {w w':World}{base:Nat}{e:TypeId}{size:Nat}{v:Value}{n:Nat}{xs:List Value}(h:w.ownsRow base e size v n xs) (hb:Below w.heap.size w w'):w'.ownsRow base e size v n xs :=
 h.kept (grown_of_below hb) (by cases v.ownBlock <;> simp)
theorem owns_block {w:World}{base:Nat}{e:TypeId}{size:Nat}{v:Value}{n:Nat}{xs:List Value}(h:w.ownsRow base e size v n xs):∀k,v.ownBlock=some k->base<=k/\k<w.heap.size:=h.lt
theorem grown_below {w w':World}{base:Nat}{e:TypeId}{size:Nat}{v:Value}{n:Nat}{xs:List Value}(h:w.ownsRow base e size v n xs) (hg:w.grownBy w' v.ownBlock) (hB:base<=w.heap.size):Below base w w' :=
 (Below.refl _ _).grown hg hB (fun k hk=>(h.lt k hk).1)
theorem owns_cell {w:World}{base et z n:Nat}{ao:Option Addr}{cap:Nat}{xs:List Value}(h:w.ownsRow base et z (.slice ao n cap) n xs) (hn:0<n):∃g,ao=some ⟨g,0,none⟩/\base<=g/\g<w.heap.size/\∀j,j<n * z->w.cell? ⟨g,j,none⟩=xs[j]?:=by
 rcases h.2 with ⟨_,rfl⟩|⟨g,cp,cur,e,hb,hg,_⟩
 ·omega
 cases e
 exact⟨g,rfl,hb,(h.lt g rfl).2,fun j hj=>h.cellAt j hj⟩
namespace Pl
structure Tok where
 k:Int
 tx:ByteArray
 v:Int
 pos:Nat
def sg18:List ByteArray:=[⟨#[43]⟩,⟨#[45]⟩,⟨#[42]⟩,⟨#[37]⟩,⟨#[124]⟩,⟨#[60]⟩,⟨#[61]⟩,⟨#[62]⟩,⟨#[126]⟩,⟨#[40]⟩,⟨#[41]⟩,⟨#[123]⟩,⟨#[125]⟩,⟨#[58]⟩,⟨#[47]⟩,⟨#[92]⟩,⟨#[64]⟩,⟨#[46]⟩]
def st1 (s:ByteArray) (i:Nat):ByteArray:=s.extract i (stre s (s.size-(i+1)) (i+1))
def st0 (s:ByteArray) (i:Nat):ByteArray:=s.extract i (stre s (s.size-i) i)
def tokAt (s:ByteArray) (i:Nat):Tok :=
 if bt s i=95\/digI (bt s i)=true then ⟨if (numS (st1 s i)).2=true then 110 else 120,st1 s i,(numS (st1 s i)).1,i⟩
 else if lttI (bt s i)=true then ⟨wkS (st0 s i),st0 s i,0,i⟩
 else if bt s i=10\/bt s i=59 then ⟨59,s.extract i (i+1),0,i⟩
 else if bt s i=58/\i+1<s.size/\bt s (i+1)=61 then ⟨115,⟨#[58,61]⟩,0,i⟩
 else ⟨if hasB sg18 (s.extract i (i+1)) 18=true then 115 else 120,s.extract i (i+1),0,i⟩
def eol (s:ByteArray):Nat->Nat->Nat
 |0,k=>k
 |n+1,k=>if bt s k=10 then k else eol s n (k+1)
def blank (c:Int):Prop:=c=32\/c=9\/c=13
instance (c:Int):Decidable (blank c):=inferInstanceAs (Decidable (c=32\/c=9\/c=13))
def lexS (s:ByteArray):Nat->Nat->List Tok
 |0,_=>[]
 |n+1,i =>
  if s.size<=i then []
  else if blank (bt s i) then lexS s n (i+1)
  else if bt s i=35 then lexS s n (eol s (s.size-i) i)
  else tokAt s i::lexS s n (i+(tokAt s i).tx.size)
theorem stre_ge (s:ByteArray):∀n k,k<=stre s n k/\stre s n k<=k+n:=stre_le s
theorem eol_le (s:ByteArray):∀n k,k<=eol s n k/\eol s n k<=k+n
 |0,k=>⟨Nat.le_refl _,Nat.le_refl _⟩
 |n+1,k=>by
  have:=eol_le s n (k+1)
  rw[eol]
  split <;> omega
theorem ext_size (s:ByteArray) (i j:Nat) (h:j<=s.size):(s.extract i j).size=j-i:=by
 rw[ByteArray.size_extract]
 omega
theorem st1_size (s:ByteArray) (i:Nat) (h:i<s.size):i+(st1 s i).size=stre s (s.size-(i+1)) (i+1)/\1<=(st1 s i).size/\i+(st1 s i).size<=s.size:=by
 have h1:=stre_ge s (s.size-(i+1)) (i+1)
 unfold st1
 rw[ext_size s i _ oM]
 omega
theorem st0_size (s:ByteArray) (i:Nat) (h:i<s.size) (hl:lttI (bt s i)=true):i+(st0 s i).size=stre s (s.size-i) i/\1<=(st0 s i).size/\i+(st0 s i).size<=s.size:=by
 have h2:stre s (s.size-i) i=stre s (s.size-(i+1)) (i+1):=stre_yes h (by simp[ldI,hl])
 have h1:=stre_ge s (s.size-(i+1)) (i+1)
 unfold st0
 rw[ext_size s i _ oM]
 omega
theorem tok_size (s:ByteArray) (i:Nat) (h:i<s.size):1<=(tokAt s i).tx.size/\i+(tokAt s i).tx.size<=s.size:=by
 unfold tokAt
 split
 ·have:=st1_size s i h
  simp only
  omega
 split
 ·rename_i hl
  have:=st0_size s i h hl
  simp only
  omega
 split
 ·simp only
  rw[ext_size s i _ oM]
  omega
 split
 ·rename_i h5
  have:(⟨#[58,61]⟩:ByteArray).size=2:=rfl
  simp only
  omega
 simp only
 rw[ext_size s i _ oM]
 omega
theorem eol_lt {s:ByteArray}{i:Nat}(h:i<s.size) (hc:bt s i=35):i+1<=eol s (s.size-i) i/\eol s (s.size-i) i<=s.size:=by
 obtain⟨m,hm⟩:∃m,s.size-i=m+1:=⟨s.size-i-1,by omega⟩
 have:=eol_le s m (i+1)
 rw[hm,eol,if_neg (by rw[hc];decide)]
 omega
theorem lexS_fuel (s:ByteArray):∀n m i,s.size-i<=n->s.size-i<=m->lexS s n i=lexS s m i
 |0,0,_,_,_=>rfl
 |0,m+1,i,h,_=>by rw[lexS,lexS,if_pos oM]
 |n+1,0,i,_,h=>by rw[lexS,lexS,if_pos oM]
 |n+1,m+1,i,h1,h2=>by
  rw[lexS,lexS]
  by_cases h:s.size<=i
  ·rw[if_pos h,if_pos h]
  rw[if_neg h,if_neg h]
  have ht:=tok_size s i oM
  split
  ·exact lexS_fuel s n m _ oM oM
  split
  ·rename_i hc
   have:=eol_lt oM hc
   exact lexS_fuel s n m _ oM oM
  rw[lexS_fuel s n m _ oM oM]
def lxT (s:ByteArray) (i:Nat):List Tok:=lexS s (s.size-i) i
theorem lx_end {s:ByteArray}{i:Nat}(h:s.size<=i):lxT s i=[]:=by
 unfold lxT
 rw[show s.size-i=0 by omega]
 rfl
theorem lx_un {s:ByteArray}{i:Nat}(h:i<s.size):lxT s i=if blank (bt s i) then lxT s (i+1) else if bt s i=35 then lxT s (eol s (s.size-i) i) else tokAt s i::lxT s (i+(tokAt s i).tx.size):=by
 unfold lxT
 obtain⟨m,hm⟩:∃m,s.size-i=m+1:=⟨s.size-i-1,by omega⟩
 have ht:=tok_size s i h
 rw[hm,lexS,if_neg oM,<- hm]
 split
 ·exact lexS_fuel s _ _ _ oM oM
 split
 ·rename_i hc
  have:=eol_lt h hc
  exact lexS_fuel s _ _ _ oM oM
 exact congrArg _ (lexS_fuel s _ _ _ oM oM)
def Tok.cells (t:Tok):List Value:=[.int .u8 t.k,.string t.tx,.int .i64 t.v,.int .i64 t.pos]
def cellsT (l:List Tok):List Value:=l.flatMap Tok.cells
theorem cellsT_len (l:List Tok):(cellsT l).length=l.length * 4:=by
 induction l with
 |nil=>rfl
 |cons t l ih =>
  have e:cellsT (t::l)=t.cells++cellsT l:=rfl
  rw[e,List.length_append,ih,List.length_cons]
  simp[Tok.cells]
  omega
theorem cellsT_app (l:List Tok) (t:Tok):cellsT (l++[t])=cellsT l++t.cells:=by simp[cellsT]
theorem eol_yes {s:ByteArray}{k:Nat}(h:k<s.size) (hx:¬bt s k=10):eol s (s.size-k) k=eol s (s.size-(k+1)) (k+1):=by
 obtain⟨m,hm⟩:∃m,s.size-k=m+1:=⟨s.size-k-1,by omega⟩
 rw[hm,eol,if_neg hx]
 congr 1
 omega
theorem eol_no {s:ByteArray}{k:Nat}(h:k<s.size) (hx:bt s k=10):eol s (s.size-k) k=k:=by
 obtain⟨m,hm⟩:∃m,s.size-k=m+1:=⟨s.size-k-1,by omega⟩
 rw[hm,eol,if_pos hx]
theorem eol_end {s:ByteArray}{k:Nat}(h:s.size<=k):eol s (s.size-k) k=k:=by
 have hm:s.size-k=0:=by omega
 rw[hm,eol]
theorem len_le:∀(n:Nat) (s:ByteArray) (i:Nat),s.size-i<=n->(lxT s i).length<=s.size-i
 |0,s,i,h=>by rw[lx_end oM];simp
 |n+1,s,i,h=>by
  by_cases h0:s.size<=i
  ·rw[lx_end h0];simp
  have ht:=tok_size s i oM
  rw[lx_un oM]
  split
  ·have:=len_le n s (i+1) oM;omega
  split
  ·rename_i hc
   have h1:=eol_lt oM hc
   have:=len_le n s (eol s (s.size-i) i) oM
   omega
  have:=len_le n s (i+(tokAt s i).tx.size) oM
  rw[List.length_cons]
  omega
end Pl
theorem el28:El 34 37 4:=El.mk' (zr:=.agg #[.int .u8 0,.string ByteArray.empty,.int .i64 0,.int .i64 0]) (bs:=40) Tryz.underlying34 kR rfl (by decide) (by decide)
namespace Pl
def plc:List ByteArray->ByteArray->Nat->Int
 |[],_,_=>0
 |x::L,s,k=>if x=s then (k:Int)+1 else plc L s (k+1)
def ops10:List ByteArray:=[⟨#[43]⟩,⟨#[45]⟩,⟨#[42]⟩,⟨#[37]⟩,⟨#[124]⟩,⟨#[109,105,110]⟩,⟨#[109,97,120]⟩,⟨#[60]⟩,⟨#[61]⟩,⟨#[62]⟩]
def e2 (t:Tok):Int:=if t.k=115 then plc ops10 t.tx 0 else 0
def isV (l:List Tok) (i:Int) (text:ByteArray):Bool:=if 0<=i then (match l[i.toNat]? with | some t=>decide (t.k=115) && decide (t.tx=text) | none=>false) else false
def endV (t:Tok):Bool:=decide (t.k=110) || decide (t.k=119) || (decide (t.k=115) && decide (t.tx=⟨#[41]⟩))
end Pl
def RdK (B:Nat) (w:World) (ao:Option Addr) (l:List Pl.Tok):Prop :=
 l=[]\/∃b off,b<B/\ao=some ⟨b,off,none⟩/\∀(i:Nat) (t:Pl.Tok),l[i]? = some t->w.cell? ⟨b,off+i * 4,none⟩=some (.int .u8 t.k)/\w.cell? ⟨b,off+i * 4+1,none⟩=some (.string t.tx)/\w.cell? ⟨b,off+i * 4+2,none⟩=some (.int .i64 t.v)/\w.cell? ⟨b,off+i * 4+3,none⟩=some (.int .i64 t.pos)
theorem RdK.keep {B:Nat}{w w':World}{ao:Option Addr}{l:List Pl.Tok}(h:RdK B w ao l) (hb:Below B w w'):RdK B w' ao l:=by
 rcases h with h|⟨b,off,hB,rfl,hc⟩
 ·exact .inl h
 refine .inr ⟨b,off,hB,rfl,fun i t hi=>?_⟩
 obtain⟨h0,h1,h2,h3⟩:=hc i t hi
 exact⟨(hb.cell (p:=⟨b,_,none⟩) hB).trans h0,(hb.cell (p:=⟨b,_,none⟩) hB).trans h1,(hb.cell (p:=⟨b,_,none⟩) hB).trans h2,(hb.cell (p:=⟨b,_,none⟩) hB).trans h3⟩
theorem RdK.up {B B':Nat}{w:World}{ao:Option Addr}{l:List Pl.Tok}(h:RdK B w ao l) (hb:B<=B'):RdK B' w ao l:=by
 rcases h with h|⟨b,off,hB,rfl,hc⟩
 ·exact .inl h
 exact .inr ⟨b,off,by omega,rfl,hc⟩
theorem bcell {B:Nat}{W w1:World}(hb:Below B W w1) {b j:Nat}{v:Value}(h:b<B) (hc:W.cell? ⟨b,j,none⟩=some v):w1.cell? ⟨b,j,none⟩=some v:=(hb.cell (p:=⟨b,j,none⟩) h).trans hc
theorem bfroz {B:Nat}{W w1:World}(hb:Below B W w1) {b j:Nat}(h:b<B) (hc:W.frozen? ⟨b,j,none⟩=false):w1.frozen? ⟨b,j,none⟩=false:=(hb.frozen (p:=⟨b,j,none⟩) h).trans hc
theorem cells_new {w:World}{l:List Value}{t:TypeId}{b:Nat}(hb:b=w.heap.size):∀j u,l[j]? = some u->(w.alloc (.cells l.toArray t)).cell? ⟨b,0+j,none⟩=some u:=fun j u h=>by
 rw[World.cell?_alloc_at _ _ _ _ hb]
 simpa using h
theorem l3Place_any (L:List ByteArray) (b o cap:Nat) (s:ByteArray) (w:World) (hl:L.length<=1000000) (hc:∀j,j<L.length->w.cell? ⟨b,o+j,none⟩=some (.string (L.getD j default))) :
  Calls Tryz.prog 99 #[.slice (some ⟨b,o,none⟩) L.length cap,.string s] w fun e w'=>e=.returned (.int .i64 (Pl.plc L s 0))/\w'=w:=by
 have HS:Hid (∀k,k<L.length->Pl.plc (L.drop k) s k=if L.getD k default=s then (k:Int)+1 else Pl.plc (L.drop (k+1)) s (k+1)):=fun k h=>by
  rw[List.drop_eq_getElem_cons h,Pl.plc,List.getD_eq_getElem?_getD,List.getElem?_eq_getElem h]
  rfl
 have HE:Hid (∀k,L.length<=k->Pl.plc (L.drop k) s k=0):=fun k h=>by rw[List.drop_eq_nil_of_le h];rfl
 have H0:Hid (Pl.plc L s 0=Pl.plc (L.drop 0) s 0):=rfl
 generalize Pl.plc L s 0=R at *
 have HC:=zH hc
 clear hc
 generalize hn:L.length=n at *
 go_enter Tryz.func99,Tryz.ntmps99
 go_wp2
 go_loop [5] (fun v=>∃k:Nat,k<=n/\v=.int .i64 k/\Hid (R=Pl.plc (L.drop k) s k)) (fun v=>n-(intOf v).toNat)
 case atStart=>exact⟨0,Nat.zero_le _,rfl,H0⟩
 obtain⟨k,hk,rfl,hst⟩:=hrel
 by_cases hlt:k<n
 rotate_left 1
 ·obtain rfl:k=n:=by omega
  have HX:=zH (show R=0 by rw[hst.out,HE.out k (Nat.le_refl _)])
  clear HS HC HE H0
  go_wp2
  go_ret
  exact⟨by rw[HX.out];rfl,rfl⟩
 have hcell:=HC.out k hlt
 have N:=zH (HS.out k hlt)
 clear HS HC HE H0
 generalize L.getD k default=x at *
 by_cases hx:x=s
 ·have HX:=zH (show R=(k:Int)+1 by rw[hst.out,N.out,if_pos hx])
  have hq:(x.toList == s.toList)=true:=by rw[ba_eq];exact decide_eq_true hx
  clear hx N
  go_wp2
  go_ret
  exact⟨by rw[HX.out];rfl,rfl⟩
 have HX:=zH (show R=Pl.plc (L.drop (k+1)) s (k+1) by rw[hst.out,N.out,if_neg hx])
 have hq:(x.toList == s.toList)=false:=by rw[ba_eq];exact decide_eq_false hx
 clear hx N
 go_wp2
 go_round
 case rel=>exact⟨k+1,by omega,by go_num,HX⟩
 simp[intOf];omega
theorem l3Place_lit (L:List ByteArray) (hl:L.length<=1000000) (W:World) (b:Nat) (q:ByteArray) (hb:b=W.heap.size) :
  Calls Tryz.prog 99 #[.slice (some ⟨b,0,none⟩) L.length L.length,.string q] (W.alloc (.cells (L.map Value.string).toArray 9)) fun e w'=>e=.returned (.int .i64 (Pl.plc L q 0))/\w'=W.alloc (.cells (L.map Value.string).toArray 9) :=
 l3Place_any L b 0 L.length q _ hl (fun j hj=>cells_new hb j _ (by
  rw[List.getElem?_map,List.getElem?_eq_getElem hj,List.getD_eq_getElem?_getD,List.getElem?_eq_getElem hj];rfl))
theorem tPlc1 {P:Prop}(h:P:=by
 go_enter Tryz.func31,Tryz.ntmps31
 go_wp2
 go_ret
 exact⟨by rw[HR.out];rfl,rfl⟩
 ):P:=h
theorem l3Is_any (l:List Pl.Tok) (ao:Option Addr) (cap:Nat) (i:Int) (text:ByteArray) (w:World) (hl:l.length<=1048576) (hi:-10<=i/\i<=1048577) (hR:RdK w.heap.size w ao l) :
  Calls Tryz.prog 31 #[.slice ao l.length cap,.int .i64 i,.string text] w fun e w'=>e=.returned (.bool (Pl.isV l i text))/\w'=w:=by
 by_cases h0:0<=i
 rotate_left 1
 ·have HR:Hid (Pl.isV l i text=false):=by
   show _=_
   unfold Pl.isV
   rw[if_neg h0]
  generalize Pl.isV l i text=R at *
  clear hR
  generalize l.length=n at *
  exact tPlc1
 obtain⟨k,rfl⟩:∃k:Nat,i=k:=⟨i.toNat,by omega⟩
 by_cases hlt:k<l.length
 rotate_left 1
 ·have HR:Hid (Pl.isV l k text=false):=by
   show _=_
   unfold Pl.isV
   rw[if_pos h0]
   simp[hlt]
  generalize Pl.isV l k text=R at *
  clear hR
  generalize l.length=n at *
  have hlt':¬(k:Int)<(n:Int):=by omega
  exact tPlc1
 have HV:Hid (Pl.isV l k text=(decide (l[k].k=115) && decide (l[k].tx=text))):=by
  show _=_
  unfold Pl.isV
  rw[if_pos h0]
  simp[hlt]
 obtain⟨b,off,hb,rfl,hc⟩:∃b off,b<w.heap.size/\ao=some ⟨b,off,none⟩/\∀(i:Nat) (t:Pl.Tok),l[i]? = some t->w.cell? ⟨b,off+i * 4,none⟩=some (.int .u8 t.k)/\w.cell? ⟨b,off+i * 4+1,none⟩=some (.string t.tx)/\w.cell? ⟨b,off+i * 4+2,none⟩=some (.int .i64 t.v)/\w.cell? ⟨b,off+i * 4+3,none⟩=some (.int .i64 t.pos):=by
  rcases hR with rfl|h
  ·simp at hlt
  exact h
 have c0:=(hc k l[k] (List.getElem?_eq_getElem hlt)).1
 have c1:=(hc k l[k] (List.getElem?_eq_getElem hlt)).2.1
 clear hc hR
 generalize Pl.isV l k text=R at *
 generalize l[k].k=tk at *
 generalize l[k].tx=tt at *
 generalize l.length=n at *
 have hlt':(k:Int)<(n:Int):=by omega
 by_cases hk:tk=115
 ·subst hk
  have hq:(tt.toList == text.toList)=decide (tt=text):=ba_eq
  generalize hd:decide (tt=text)=d at *
  have HR:=zH (show R=d by rw[HV.out];simp)
  clear HV hd
  exact tPlc1
 have hk':(tk == 115)=false:=by simpa using hk
 have HR:=zH (show R=false by rw[HV.out];simp[hk])
 clear HV hk
 exact tPlc1
theorem tPlc2 {P:Prop}(h:P:=by
 go_enter Tryz.func54,Tryz.ntmps54
 go_wp2
 go_ret
 exact⟨by rw[HR.out];rfl,HB.out _⟩
 ):P:=h
theorem l3Ends_any (t:Pl.Tok) (w:World) :
  Calls Tryz.prog 54 #[.agg #[.int .u8 t.k,.string t.tx,.int .i64 t.v,.int .i64 t.pos]] w fun e w'=>e=.returned (.bool (Pl.endV t))/\Below w.heap.size w w':=by
 have HB:Hid (∀o,Below w.heap.size w (w.alloc o)):=fun o=>(Below.refl _ _).alloc (Nat.le_refl _) _
 obtain⟨k,tx,v,pos⟩:=t
 have HV:Hid (Pl.endV ⟨k,tx,v,pos⟩=(decide (k=110) || decide (k=119) || (decide (k=115) && decide (tx=⟨#[41]⟩)))):=rfl
 generalize Pl.endV ⟨k,tx,v,pos⟩=R at *
 simp only
 by_cases h1:k=110
 ·subst h1
  have HR:=zH (show R=true by rw[HV.out];rfl)
  clear HV
  exact tPlc2
 have d1:(k == 110)=false:=by simpa using h1
 by_cases h2:k=119
 ·subst h2
  have HR:=zH (show R=true by rw[HV.out];rfl)
  clear HV
  exact tPlc2
 have d2:(k == 119)=false:=by simpa using h2
 by_cases h3:k=115
 ·subst h3
  have hq:(tx.toList == [41])=decide (tx=⟨#[41]⟩):=by
   have:=@ba_eq tx ⟨#[41]⟩
   rw[show (⟨#[41]⟩:ByteArray).toList=[41] from by rw[ByteArray.toList_eq]] at this
   exact this
  have HR:=zH (show R=decide (tx=⟨#[41]⟩) by rw[HV.out];simp)
  generalize hd:decide (tx=⟨#[41]⟩)=d at *
  clear HV hd
  exact tPlc2
 have d3:(k == 115)=false:=by simpa using h3
 have HR:=zH (show R=false by rw[HV.out];simp[h1,h2,h3])
 clear HV h1 h2 h3
 exact tPlc2
theorem l3Each2_any (t:Pl.Tok) (w:World) :
  Calls Tryz.prog 80 #[.agg #[.int .u8 t.k,.string t.tx,.int .i64 t.v,.int .i64 t.pos]] w fun e w'=>e=.returned (.int .i64 (Pl.e2 t))/\Below w.heap.size w w':=by
 have HB:Hid (∀o,Below w.heap.size w (w.alloc o)):=fun o=>(Below.refl _ _).alloc (Nat.le_refl _) _
 have HB2:Hid (∀o o2,Below w.heap.size w ((w.alloc o).alloc o2)):=fun o o2=>((Below.refl _ _).alloc (Nat.le_refl _) _).alloc sI _
 obtain⟨k,tx,v,pos⟩:=t
 have HV:Hid (Pl.e2 ⟨k,tx,v,pos⟩=if k=115 then Pl.plc Pl.ops10 tx 0 else 0):=rfl
 have K72:Hid (∀(W:World) (b:Nat),b=W.heap.size->Calls Tryz.prog 99 #[.slice (some ⟨b,0,none⟩) 10 10,.string tx] (W.alloc (.cells (Pl.ops10.map Value.string).toArray 9)) fun e w'=>e=.returned (.int .i64 (Pl.plc Pl.ops10 tx 0))/\w'=W.alloc (.cells (Pl.ops10.map Value.string).toArray 9)):=fun W b hb=>l3Place_lit Pl.ops10 (by decide) W b tx hb
 generalize Pl.e2 ⟨k,tx,v,pos⟩=R at *
 generalize Pl.plc Pl.ops10 tx 0=p at *
 simp only
 by_cases h3:k=115
 ·subst h3
  have HR:=zH (show R=p by rw[HV.out];simp)
  clear HV
  go_enter Tryz.func80,Tryz.ntmps80
  go_wp2_with (go_at_call 99;refine(K72.out _ _ sI).mono ?_;rintro e w2 ⟨rfl,rfl⟩)
  go_ret
  exact⟨by rw[HR.out];rfl,HB2.out _ _⟩
 have d3:(k != 115)=true:=by simpa using h3
 have HR:=zH (show R=0 by rw[HV.out];simp[h3])
 clear HV h3 K72
 go_enter Tryz.func80,Tryz.ntmps80
 go_wp2
 go_ret
 exact⟨by rw[HR.out];rfl,HB.out _⟩
def RowQ {α:Type}(Q:World->List Value->α->List Nat->Prop) (w:World):List Value->List α->List Nat->Prop
 |xs,[],F=>xs=[]/\F=[]
 |xs,a::c,F=>∃x xs' f F',xs=x++xs'/\F=f++F'/\Q w x a f/\RowQ Q w xs' c F'
theorem RowQ.app {α:Type}{Q:World->List Value->α->List Nat->Prop}{w:World}:∀{xs ys:List Value}{c d:List α}{F G:List Nat},RowQ Q w xs c F->RowQ Q w ys d G->RowQ Q w (xs++ys) (c++d) (F++G)
 |xs,ys,[],d,F,G,h,k=>by
  obtain⟨rfl,rfl⟩:=h
  exact k
 |xs,ys,a::c,d,F,G,h,k=>by
  obtain⟨x,xs',f,F',rfl,rfl,h1,h2⟩:=h
  exact⟨x,xs'++ys,f,F'++G,by simp,by simp,h1,h2.app k⟩
theorem RowQ.one {α:Type}{Q:World->List Value->α->List Nat->Prop}{w:World}{x:List Value}{a:α}{f:List Nat}(h:Q w x a f):RowQ Q w x [a] f:=⟨x,[],f,[],by simp,by simp,h,rfl,rfl⟩
structure Lives {α:Type}(Q:World->List Value->α->List Nat->Prop):Prop where
 go:∀(w w':World) (x:List Value) (a:α) (f:List Nat),Q w x a f->(∀b∈f,w'.heap[b]? = w.heap[b]?)->Q w' x a f
theorem RowQ.keep {α:Type}{Q:World->List Value->α->List Nat->Prop}(L:Lives Q) {w w':World}:∀{xs:List Value}{c:List α}{F:List Nat},RowQ Q w xs c F->(∀b∈F,w'.heap[b]? = w.heap[b]?)->RowQ Q w' xs c F
 |xs,[],F,h,k=>h
 |xs,a::c,F,h,k=>by
  obtain⟨x,xs',f,F',rfl,rfl,h1,h2⟩:=h
  exact⟨x,xs',f,F',rfl,rfl,L.go _ _ _ _ _ h1 (fun b hb=>k b (List.mem_append_left _ hb)),h2.keep L (fun b hb=>k b (List.mem_append_right _ hb))⟩
def Own {α:Type}(et z:Nat) (Q:World->List Value->α->List Nat->Prop) (w:World) (v:Value) (c:List α) (F:List Nat):Prop :=
 ∃xs fp,F=v.ownBlock.toList++fp/\w.ownsRow 0 et z v c.length xs/\RowQ Q w xs c fp/\F.Nodup
theorem Own.keep {α:Type}{et z:Nat}{Q:World->List Value->α->List Nat->Prop}(L:Lives Q) {w w':World}{v:Value}{c:List α}{F:List Nat}(h:Own et z Q w v c F) (k:∀b∈F,w'.heap[b]? = w.heap[b]?):Own et z Q w' v c F:=by
 obtain⟨xs,fp,rfl,h1,h2,h3⟩:=h
 refine⟨xs,fp,rfl,⟨h1.1,?_⟩,h2.keep L (fun b hb=>k b (List.mem_append_right _ hb)),h3⟩
 rcases h1.2 with h|⟨g,cap,cur,rfl,hb,hg,rest⟩
 ·exact .inl h
 exact .inr ⟨g,cap,cur,rfl,hb,(k g (by simp[Value.ownBlock])).trans hg,rest⟩
theorem Own.nil {α:Type}{et z:Nat}{Q:World->List Value->α->List Nat->Prop}(w:World):Own et z Q w (.slice none 0 0) ([]:List α) [] :=
 ⟨[],[],rfl,World.ownsRow_nil _ _ _ _,⟨rfl,rfl⟩,List.nodup_nil⟩
theorem Own.empty {α:Type}{et z:Nat}{Q:World->List Value->α->List Nat->Prop}(w:World):Own et z Q (w.alloc (.cells #[] et)) (.slice (some ⟨w.heap.size,0,none⟩) 0 0) ([]:List α) [w.heap.size] :=
 ⟨[],[],rfl,World.ownsRow_made w #[] 0 (Nat.zero_le _) (by simp[maxLen]) sI,⟨rfl,rfl⟩,by simp⟩
theorem Own.slice {α:Type}{et z:Nat}{Q:World->List Value->α->List Nat->Prop}{w:World}{v:Value}{c:List α}{F:List Nat}(h:Own et z Q w v c F):∃ao cap,v=.slice ao c.length cap:=by
 obtain⟨xs,fp,_,h1,_⟩:=h
 exact own_form h1
theorem Own.lt {α:Type}{et z:Nat}{Q:World->List Value->α->List Nat->Prop}{w:World}{v:Value}{c:List α}{F:List Nat}(h:Own et z Q w v c F):∀b,v.ownBlock=some b->b∈F/\b<w.heap.size:=by
 obtain⟨xs,fp,rfl,h1,_⟩:=h
 intro b hb
 exact⟨by simp[hb],(h1.lt b hb).2⟩
def Inb (B:Nat) (w:World) (F:List Nat):Prop:=∀b∈F,B<=b/\b<w.heap.size
theorem Inb.nil (B:Nat) (w:World):Inb B w []:=fun b hb=>absurd hb sI
theorem Inb.up {B B':Nat}{w w':World}{F:List Nat}(h:Inb B w F) (hB:B'<=B) (hw:w.heap.size<=w'.heap.size):Inb B' w' F:=fun b hb=>⟨Nat.le_trans hB (h b hb).1,Nat.lt_of_lt_of_le (h b hb).2 hw⟩
theorem Inb.app {B:Nat}{w:World}{F G:List Nat}(h:Inb B w F) (k:Inb B w G):Inb B w (F++G):=fun b hb=>by
 rcases List.mem_append.1 hb with x|x
 ·exact h b x
 exact k b x
theorem Own.grown {α:Type}{et z:Nat}{Q:World->List Value->α->List Nat->Prop}(L:Lives Q) {w w':World}{v:Value}{c:List α}{F:List Nat}{r:Option Nat}{B:Nat}(h:Own et z Q w v c F) (hi:Inb B w F) (hg:w.grownBy w' r) (hr:∀b,r=some b->b ∉ F):Own et z Q w' v c F :=
 h.keep L (fun b hb=>hg.block b (hi b hb).2 (fun e=>hr b e.symm hb))
theorem Own.below {α:Type}{et z:Nat}{Q:World->List Value->α->List Nat->Prop}(L:Lives Q) {w w':World}{v:Value}{c:List α}{F:List Nat}{B C:Nat}(h:Own et z Q w v c F) (hi:Inb B w F) (hb:Below C w w') (hC:w.heap.size<=C):Own et z Q w' v c F :=
 h.keep L (fun b hb'=>hb.block b (by have:=(hi b hb').2;omega))
theorem Own.append {α:Type}{st et z:Nat}(E:El st et z) {Q:World->List Value->α->List Nat->Prop}(L:Lives Q) {w:World}{v:Value}{c d:List α}{F G:List Nat}{ys:List Value}{b off cap B:Nat}(h:Own et z Q w v c F) (hi:Inb B w F)
  (hy:RowQ Q w ys d G) (hG:Inb B w G) (hn:G.Nodup) (hd:∀x∈G,x ∉ F) (hl:ys.length=d.length * z) (hc:∀j u,ys[j]? = some u->w.cell? ⟨b,off+j,none⟩=some u) (h1:∀u∈ys,u.oneCell'=true) (hbd:c.length+d.length<=16777216) (hB:B<=w.heap.size) (ty:TypeId) :
  ∃v' w' F',(Builtin.append_ #[st,st] ty #[v,.slice (some ⟨b,off,none⟩) d.length cap]).run Tryz.prog w=.ok v' w'/\Own et z Q w' v' (c++d) F'/\Inb B w' F'/\w.grownBy w' v.ownBlock/\(v'.ownBlock=v.ownBlock\/v'.ownBlock=some w.heap.size)/\∀x∈F',x∈F\/x∈G\/x=w.heap.size:=by
 obtain⟨xs,fp,rfl,ho,hq,hnd⟩:=h
 obtain⟨v',w',hr,ho',hg,hat⟩:=append_g E w v c.length xs ho b off d.length cap ys hl hc h1 hbd (Nat.zero_le _) ty
 have hop:∀x∈fp,v.ownBlock ≠ some x:=fun x hx e=>by
  rw[e] at hnd
  simp at hnd
  exact hnd.1 hx
 have hoG:∀x∈G,v.ownBlock ≠ some x:=fun x hx e=>hd x hx (by simp[e])
 have kf:∀x∈fp,w'.heap[x]? = w.heap[x]?:=fun x hx=>hg.block x (hi x (by simp[hx])).2 (fun e=>hop x hx e.symm)
 have kG:∀x∈G,w'.heap[x]? = w.heap[x]?:=fun x hx=>hg.block x (hG x hx).2 (fun e=>hoG x hx e.symm)
 have hs:∀x∈fp++G,x<w.heap.size:=fun x hx=>by
  rcases List.mem_append.1 hx with y|y
  ·exact(hi x (by simp[y])).2
  exact(hG x y).2
 have hlt':=ho'.lt
 refine⟨v',w',v'.ownBlock.toList++(fp++G),hr,⟨xs++ys,fp++G,rfl,by rw[List.length_append];exact ho',(hq.keep L kf).app (hy.keep L kG),?_⟩,?_,hg,hat,?_⟩
 ·have hfG:(fp++G).Nodup:=by
   rw[List.nodup_append]
   refine⟨(List.nodup_append.1 hnd).2.1,hn,fun x hx y hy e=>hd y hy (by subst e;simp[hx])⟩
  rw[List.nodup_append]
  refine⟨by cases v'.ownBlock <;> simp,hfG,fun x hx y hy e=>?_⟩
  subst e
  have hx':v'.ownBlock=some x:=by simpa using hx
  rcases hat with e|e
  ·rw[e] at hx'
   rcases List.mem_append.1 hy with q|q
   ·exact hop x q hx'
   exact hoG x q hx'
  have:=hs x hy
  rw[e] at hx'
  simp at hx'
  omega
 ·intro x hx
  rcases List.mem_append.1 hx with q|q
  ·have hx':v'.ownBlock=some x:=by simpa using q
   refine⟨?_,(hlt' x hx').2⟩
   rcases hat with e|e
   ·rw[e] at hx'
    exact(hi x (by simp[hx'])).1
   rw[e] at hx'
   simp at hx'
   omega
  refine⟨?_,Nat.lt_of_lt_of_le (hs x q) hg.size⟩
  rcases List.mem_append.1 q with y|y
  ·exact(hi x (by simp[y])).1
  exact(hG x y).1
 intro x hx
 rcases List.mem_append.1 hx with q|q
 ·have hx':v'.ownBlock=some x:=by simpa using q
  rcases hat with e|e
  ·rw[e] at hx'
   exact .inl (by simp[hx'])
  rw[e] at hx'
  simp at hx'
  exact .inr (.inr hx'.symm)
 rcases List.mem_append.1 q with y|y
 ·exact .inl (by simp[y])
 exact .inr (.inl y)
theorem wpList_append_o {α:Type}{st et z:Nat}(E:El st et z) {Q:World->List Value->α->List Nat->Prop}(L:Lives Q) (w:World) {ops:Array Oper}{rest:List Oper}{o:Oper}{a:Act}{R:Exit->Act->World->Prop}(hg:o.guard=none) (s x:Operand)
  (hop:o.op=Op.call { callee:=Callee.builtin Builtin.append,args:=#[s,x],argTypes:=#[st,st] }) (v:Value) (b off m cap:Nat) (hs:a.eval s=v) (hx:a.eval x=.slice (some ⟨b,off,none⟩) m cap) (c d:List α) (F G:List Nat) (ys:List Value) (B:Nat)
  (h:Own et z Q w v c F) (hi:Inb B w F) (hy:RowQ Q w ys d G) (hG:Inb B w G) (hn:G.Nodup) (hd:∀x∈G,x ∉ F) (hm:d.length=m) (hl:ys.length=d.length * z) (hc:∀j u,ys[j]? = some u->w.cell? ⟨b,off+j,none⟩=some u) (h1:∀u∈ys,u.oneCell'=true) (hbd:c.length+d.length<=16777216) (hB:B<=w.heap.size)
  (hK:∀v' w' F',Own et z Q w' v' (c++d) F'->Inb B w' F'->w.grownBy w' v.ownBlock->(v'.ownBlock=v.ownBlock\/v'.ownBlock=some w.heap.size)->(∀x∈F',x∈F\/x∈G\/x=w.heap.size)->wpList Tryz.prog ops R rest (a.put o.dst v') w'):wpList Tryz.prog ops R (o::rest) a w:=by
 subst hm
 obtain⟨v',w',F',hr,h1,h2,h3,h4,h5⟩:=h.append E L hi hy hG hn hd hl hc h1 hbd hB (b:=b) (off:=off) (cap:=cap) o.type
 exact wpList_append_eq w w' hg s x _ hop v _ v' hs hx hr (hK v' w' F' h1 h2 h3 h4 h5)
theorem Own.lit {α:Type}{et z:Nat}{Q:World->List Value->α->List Nat->Prop}(L:Lives Q) {w:World}{a:α}{ys:List Value}{G:List Nat}{B:Nat}(hq:Q w ys a G) (hG:Inb B w G) (hn:G.Nodup) (hl:ys.length=z):Own et z Q (w.alloc (.cells ys.toArray et)) (.slice (some ⟨w.heap.size,0,none⟩) 1 1) [a] (w.heap.size::G):=by
 refine⟨ys,G,rfl,⟨by simpa using hl,.inr ⟨w.heap.size,1,ys.toArray,rfl,Nat.zero_le _,heap_alloc_new w _,Nat.le_refl _,by simp[maxLen],by simpa using hl,by simp[<- hl]⟩⟩,(RowQ.one hq).keep L (fun b hb=>Below.heap_alloc _ _ _ (hG b hb).2),?_⟩
 rw[List.nodup_cons]
 exact⟨fun hm=>by have:=(hG _ hm).2;omega,hn⟩
theorem Own.cells {α:Type}{et z:Nat}{Q:World->List Value->α->List Nat->Prop}{w:World}{v:Value}{c:List α}{F:List Nat}(h:Own et z Q w v c F) (hc:c ≠ []):∃g cap xs fp,v=.slice (some ⟨g,0,none⟩) c.length cap/\F=g::fp/\xs.length=c.length * z/\RowQ Q w xs c fp/\(g::fp).Nodup/\g<w.heap.size/\(∀j u,xs[j]? = some u->w.cell? ⟨g,j,none⟩=some u)/\∀j,w.frozen? ⟨g,j,none⟩=false:=by
 obtain⟨xs,fp,rfl,ho,hq,hnd⟩:=h
 obtain⟨ao,cap,rfl⟩:=own_form ho
 have hl:0<c.length:=List.length_pos_iff.2 hc
 obtain⟨g,rfl,_,hlt,hcell⟩:=owns_cell ho hl
 refine⟨g,cap,xs,fp,rfl,rfl,ho.1,hq,hnd,hlt,fun j u hu=>?_,fun j=>ho.frozenAt j⟩
 have hj:j<xs.length:=(List.getElem?_eq_some_iff.1 hu).1
 rw[hcell j (by rw[<- ho.1];exact hj),hu]
def Qi (w:World) (x:List Value) (n:Int) (f:List Nat):Prop:=x=[.int .i64 n]/\f=[]
theorem Qi.lives:Lives Qi:=⟨fun _ _ _ _ _ h _=>h⟩
def Qs (w:World) (x:List Value) (s:Pl.Sv) (f:List Nat):Prop:=∃v,x=[.int .i64 s.k,v,.string (Pl.ba s.nm),.int .i64 s.fn.k,.int .i64 s.fn.a,.int .i64 s.fn.b,.string (Pl.ba s.fn.nm)]/\Own 3 1 Qi w v s.nums f
theorem Qs.lives:Lives Qs:=⟨fun _ _ _ _ _ ⟨v,h1,h2⟩ k=>⟨v,h1,h2.keep Qi.lives k⟩⟩
abbrev OwS:=Own 90 7 Qs
def Qg (w:World) (x:List Value) (g:Pl.Gv) (f:List Nat):Prop:=∃v1 v2 f1 f2,x=[v1,v2]/\f=f1++f2/\OwS w v1 g.test f1/\OwS w v2 g.thn f2
theorem Qg.lives:Lives Qg:=⟨fun _ _ _ _ _ ⟨v1,v2,f1,f2,h1,h2,h3,h4⟩ k=>⟨v1,v2,f1,f2,h1,h2,h3.keep Qs.lives (fun b hb=>k b (h2 ▸ List.mem_append_left _ hb)),h4.keep Qs.lives (fun b hb=>k b (h2 ▸ List.mem_append_right _ hb))⟩⟩
abbrev OwG:=Own 57 2 Qg
def Qt (w:World) (x:List Value) (s:Pl.Tv) (f:List Nat):Prop:=∃v1 v2 f1 f2,x=[.int .i64 s.k,.string (Pl.ba s.nm),v1,v2]/\f=f1++f2/\OwS w v1 s.code f1/\OwG w v2 s.gs f2
theorem Qt.lives:Lives Qt:=⟨fun _ _ _ _ _ ⟨v1,v2,f1,f2,h1,h2,h3,h4⟩ k=>⟨v1,v2,f1,f2,h1,h2,h3.keep Qs.lives (fun b hb=>k b (h2 ▸ List.mem_append_left _ hb)),h4.keep Qg.lives (fun b hb=>k b (h2 ▸ List.mem_append_right _ hb))⟩⟩
abbrev OwP:=Own 43 4 Qt
theorem Own.one {α:Type}{et z:Nat}{Q:World->List Value->α->List Nat->Prop}{w:World}{v:Value}{c:List α}{F:List Nat}(h:Own et z Q w v c F):v.oneCell'=true:=by
 obtain⟨ao,cap,rfl⟩:=h.slice
 rfl
theorem Qs.len {w:World}{x:List Value}{s:Pl.Sv}{f:List Nat}(h:Qs w x s f):x.length=7/\∀u∈x,u.oneCell'=true:=by
 obtain⟨v,rfl,ho⟩:=h
 have:=ho.one
 refine⟨rfl,fun u hu=>?_⟩
 simp only[List.mem_cons,List.not_mem_nil,or_false] at hu
 rcases hu with rfl|rfl|rfl|rfl|rfl|rfl|rfl <;> first|rfl|exact this
theorem Qg.len {w:World}{x:List Value}{s:Pl.Gv}{f:List Nat}(h:Qg w x s f):x.length=2/\∀u∈x,u.oneCell'=true:=by
 obtain⟨v1,v2,f1,f2,rfl,_,h1,h2⟩:=h
 have:=h1.one
 have:=h2.one
 refine⟨rfl,fun u hu=>?_⟩
 simp only[List.mem_cons,List.not_mem_nil,or_false] at hu
 rcases hu with rfl|rfl <;> assumption
theorem Qt.len {w:World}{x:List Value}{s:Pl.Tv}{f:List Nat}(h:Qt w x s f):x.length=4/\∀u∈x,u.oneCell'=true:=by
 obtain⟨v1,v2,f1,f2,rfl,_,h1,h2⟩:=h
 have:=h1.one
 have:=h2.one
 refine⟨rfl,fun u hu=>?_⟩
 simp only[List.mem_cons,List.not_mem_nil,or_false] at hu
 rcases hu with rfl|rfl|rfl|rfl <;> first|rfl|assumption
theorem RowQ.len {α:Type}{Q:World->List Value->α->List Nat->Prop}{z:Nat}(hq:∀{w x a f},Q w x a f->x.length=z/\∀u∈x,u.oneCell'=true) {w:World}:∀{xs:List Value}{c:List α}{F:List Nat},RowQ Q w xs c F->xs.length=c.length * z/\∀u∈xs,u.oneCell'=true
 |xs,[],F,h=>by obtain⟨rfl,rfl⟩:=h;simp
 |xs,a::c,F,h=>by
  obtain⟨x,xs',f,F',rfl,rfl,h1,h2⟩:=h
  have k1:=hq h1
  have k2:=h2.len hq
  refine⟨by rw[List.length_append,k1.1,k2.1,List.length_cons,Nat.succ_mul];omega,fun u hu=>?_⟩
  rcases List.mem_append.1 hu with y|y
  ·exact k1.2 u y
  exact k2.2 u y
def Hd {α:Type}(z:Nat) (Q:World->List Value->α->List Nat->Prop) (w:World) (v:Value) (c:List α) (F:List Nat):Prop :=
 ∃ao cap,v=.slice ao c.length cap/\(c=[]\/∃g xs fp,ao=some ⟨g,0,none⟩/\F=g::fp/\RowQ Q w xs c fp/\F.Nodup/\(∀b∈F,b<w.heap.size)/\(∀j u,xs[j]? = some u->w.cell? ⟨g,j,none⟩=some u)/\∀j,w.frozen? ⟨g,j,none⟩=false)
theorem lt_of_same {w w':World}{b:Nat}(h:w'.heap[b]? = w.heap[b]?) (hb:b<w.heap.size):b<w'.heap.size:=by
 rw[Array.getElem?_eq_getElem hb] at h
 exact(Array.getElem?_eq_some_iff.1 h).1
theorem Hd.keep {α:Type}{z:Nat}{Q:World->List Value->α->List Nat->Prop}(L:Lives Q) {w w':World}{v:Value}{c:List α}{F:List Nat}(h:Hd z Q w v c F) (k:∀b∈F,w'.heap[b]? = w.heap[b]?):Hd z Q w' v c F:=by
 obtain⟨ao,cap,rfl,h⟩:=h
 refine⟨ao,cap,rfl,?_⟩
 rcases h with h|⟨g,xs,fp,rfl,rfl,h1,h2,h3,h4,h5⟩
 ·exact .inl h
 refine .inr ⟨g,xs,fp,rfl,rfl,h1.keep L (fun b hb=>k b (List.mem_cons_of_mem _ hb)),h2,fun b hb=>lt_of_same (k b hb) (h3 b hb),fun j u hu=>?_,fun j=>?_⟩
 ·exact(World.cell?_of_block (a:=⟨g,j,none⟩) (k g sI)).trans (h4 j u hu)
 exact(World.frozen?_of_block (a:=⟨g,j,none⟩) (k g sI)).trans (h5 j)
theorem RowQ.map {α:Type}{Q R:World->List Value->α->List Nat->Prop}(hQ:∀w x a f,Q w x a f->(∀b∈f,b<w.heap.size)->R w x a f) {w:World}:∀{xs:List Value}{c:List α}{F:List Nat},RowQ Q w xs c F->(∀b∈F,b<w.heap.size)->RowQ R w xs c F
 |xs,[],F,h,_=>h
 |xs,a::c,F,h,k=>by
  obtain⟨x,xs',f,F',rfl,rfl,h1,h2⟩:=h
  exact⟨x,xs',f,F',rfl,rfl,hQ _ _ _ _ h1 (fun b hb=>k b (List.mem_append_left _ hb)),h2.map hQ (fun b hb=>k b (List.mem_append_right _ hb))⟩
theorem Own.hd {α:Type}{et z:Nat}{Q R:World->List Value->α->List Nat->Prop}(hQ:∀w x a f,Q w x a f->(∀b∈f,b<w.heap.size)->R w x a f) {w:World}{v:Value}{c:List α}{F:List Nat}(h:Own et z Q w v c F) (hF:∀b∈F,b<w.heap.size):Hd z R w v c F:=by
 by_cases hc:c=[]
 ·obtain⟨ao,cap,rfl⟩:=h.slice
  exact⟨ao,cap,rfl,.inl hc⟩
 obtain⟨g,cap,xs,fp,rfl,rfl,h1,h2,h3,h4,h5,h6⟩:=h.cells hc
 exact⟨_,cap,rfl,.inr ⟨g,xs,fp,rfl,rfl,h2.map hQ (fun b hb=>hF b (List.mem_cons_of_mem _ hb)),h3,hF,h5,h6⟩⟩
abbrev HdI:=Hd 1 Qi
def Qs' (w:World) (x:List Value) (s:Pl.Sv) (f:List Nat):Prop:=∃v,x=[.int .i64 s.k,v,.string (Pl.ba s.nm),.int .i64 s.fn.k,.int .i64 s.fn.a,.int .i64 s.fn.b,.string (Pl.ba s.fn.nm)]/\HdI w v s.nums f
theorem Qs'.lives:Lives Qs':=⟨fun _ _ _ _ _ ⟨v,h1,h2⟩ k=>⟨v,h1,h2.keep Qi.lives k⟩⟩
abbrev HdS:=Hd 7 Qs'
def Qg' (w:World) (x:List Value) (g:Pl.Gv) (f:List Nat):Prop:=∃v1 v2 f1 f2,x=[v1,v2]/\f=f1++f2/\HdS w v1 g.test f1/\HdS w v2 g.thn f2
theorem Qg'.lives:Lives Qg':=⟨fun _ _ _ _ _ ⟨v1,v2,f1,f2,h1,h2,h3,h4⟩ k=>⟨v1,v2,f1,f2,h1,h2,h3.keep Qs'.lives (fun b hb=>k b (h2 ▸ List.mem_append_left _ hb)),h4.keep Qs'.lives (fun b hb=>k b (h2 ▸ List.mem_append_right _ hb))⟩⟩
abbrev HdG:=Hd 2 Qg'
def Qt' (w:World) (x:List Value) (s:Pl.Tv) (f:List Nat):Prop:=∃v1 v2 f1 f2,x=[.int .i64 s.k,.string (Pl.ba s.nm),v1,v2]/\f=f1++f2/\HdS w v1 s.code f1/\HdG w v2 s.gs f2
theorem Qt'.lives:Lives Qt':=⟨fun _ _ _ _ _ ⟨v1,v2,f1,f2,h1,h2,h3,h4⟩ k=>⟨v1,v2,f1,f2,h1,h2,h3.keep Qs'.lives (fun b hb=>k b (h2 ▸ List.mem_append_left _ hb)),h4.keep Qg'.lives (fun b hb=>k b (h2 ▸ List.mem_append_right _ hb))⟩⟩
abbrev HdP:=Hd 4 Qt'
theorem Qs.to (w:World) (x:List Value) (s:Pl.Sv) (f:List Nat) (h:Qs w x s f) (hf:∀b∈f,b<w.heap.size):Qs' w x s f:=by
 obtain⟨v,h1,h2⟩:=h
 exact⟨v,h1,h2.hd (fun _ _ _ _ h _=>h) hf⟩
theorem Qg.to (w:World) (x:List Value) (s:Pl.Gv) (f:List Nat) (h:Qg w x s f) (hf:∀b∈f,b<w.heap.size):Qg' w x s f:=by
 obtain⟨v1,v2,f1,f2,h1,rfl,h3,h4⟩:=h
 exact⟨v1,v2,f1,f2,h1,rfl,h3.hd Qs.to (fun b hb=>hf b (List.mem_append_left _ hb)),h4.hd Qs.to (fun b hb=>hf b (List.mem_append_right _ hb))⟩
theorem Qt.to (w:World) (x:List Value) (s:Pl.Tv) (f:List Nat) (h:Qt w x s f) (hf:∀b∈f,b<w.heap.size):Qt' w x s f:=by
 obtain⟨v1,v2,f1,f2,h1,rfl,h3,h4⟩:=h
 exact⟨v1,v2,f1,f2,h1,rfl,h3.hd Qs.to (fun b hb=>hf b (List.mem_append_left _ hb)),h4.hd Qg.to (fun b hb=>hf b (List.mem_append_right _ hb))⟩
theorem OwP.hd {w:World}{v:Value}{c:List Pl.Tv}{F:List Nat}{B:Nat}(h:OwP w v c F) (hi:Inb B w F):HdP w v c F:=Own.hd Qt.to h (fun b hb=>(hi b hb).2)
structure Sd (z:Nat) (wr W:World) (g i:Nat) (f:List Nat) (y:List Value):Prop where
 os:W.os=wr.os
 tape:W.tape=wr.tape
 output:W.output=wr.output
 sz:wr.heap.size<=W.heap.size
 blk:∀b,b<wr.heap.size->b ≠ g->b ∉ f->W.heap[b]? = wr.heap[b]?
 cel:∀j,(j<i * z\/i * z+z<=j)->W.cell? ⟨g,j,none⟩=wr.cell? ⟨g,j,none⟩
 fro:∀j,W.frozen? ⟨g,j,none⟩=false
 cur:∀j u,y[j]? = some u->W.cell? ⟨g,i * z+j,none⟩=some u
 len:y.length=z
 glt:g<wr.heap.size
 gf:g ∉ f
section
variable {z:Nat} {wr W W':World} {g i:Nat} {f:List Nat} {y:List Value}
end
theorem Hd.focus {α:Type}{z:Nat}{Q:World->List Value->α->List Nat->Prop}(L:Lives Q) (hz:∀{w:World}{x:List Value}{a:α}{f:List Nat},Q w x a f->x.length=z) {w:World}{v:Value}{c1:List α}{a:α}{c2:List α}{F:List Nat}(h:Hd z Q w v (c1++a::c2) F) :
  ∃g cap x f,v=.slice (some ⟨g,0,none⟩) (c1++a::c2).length cap/\Q w x a f/\Sd z w w g c1.length f x/\g∈F/\(∀b∈f,b∈F)/\f.Nodup/\(∀b∈f,b<w.heap.size) /\
   ∀(w':World) (x':List Value) (a':α),Sd z w w' g c1.length f x'->Q w' x' a' f->Hd z Q w' v (c1++a'::c2) F:=by
 obtain⟨ao,cap,rfl,h⟩:=h
 rcases h with h|⟨g,xs,fp,rfl,rfl,h1,h2,h3,h4,h5⟩
 ·simp at h
 have sp:∀{c1:List α} {xs:List Value} {fp:List Nat},RowQ Q w xs (c1++a::c2) fp->∃x1 x x2 f1 f f2,xs=x1++(x++x2)/\fp=f1++(f++f2)/\RowQ Q w x1 c1 f1/\Q w x a f/\RowQ Q w x2 c2 f2/\x1.length=c1.length * z:=by
  intro c1
  induction c1 with
  |nil =>
   intro xs fp h
   obtain⟨x,xs',f,F',rfl,rfl,q1,q2⟩:=h
   exact⟨[],x,xs',[],f,F',rfl,rfl,⟨rfl,rfl⟩,q1,q2,by simp⟩
  |cons b c1 ih =>
   intro xs fp h
   obtain⟨x,xs',f,F',rfl,rfl,q1,q2⟩:=h
   obtain⟨x1,y,x2,f1,f',f2,rfl,rfl,r1,r2,r3,r4⟩:=ih q2
   refine⟨x++x1,y,x2,f++f1,f',f2,by simp,by simp,⟨x,x1,f,f1,rfl,rfl,q1,r1⟩,r2,r3,?_⟩
   rw[List.length_append,r4,hz q1,List.length_cons,Nat.succ_mul]
   omega
 obtain⟨x1,x,x2,f1,f,f2,rfl,rfl,r1,r2,r3,r4⟩:=sp h1
 have hx:=hz r2
 have hnd:=h2
 rw[List.nodup_cons,List.nodup_append,List.nodup_append] at hnd
 obtain⟨hg,n1,⟨n2,n3,n23⟩,n123⟩:=hnd
 have hgf:g ∉ f:=fun hm=>hg (by simp[hm])
 refine⟨g,cap,x,f,rfl,r2,⟨rfl,rfl,rfl,Nat.le_refl _,fun _ _ _ _=>rfl,fun _ _=>rfl,h5,fun j u hu=>?_,hx,h3 g sI,hgf⟩,by simp,fun b hb=>by simp[hb],n2,fun b hb=>h3 b (by simp[hb]),fun w' x' a' hS hQ=>?_⟩
 ·refine h4 _ u ?_
  have hj:j<x.length:=(List.getElem?_eq_some_iff.1 hu).1
  rw[List.getElem?_append_right oM,List.getElem?_append_left oM]
  rw[<- hu]
  congr 1
  omega
 have k1:∀b∈f1,w'.heap[b]? = w.heap[b]?:=fun b hb=>hS.blk b (h3 b (by simp[hb])) (fun e=>hg (by rw[<- e];simp[hb])) (fun hm=>n123 b hb b (by simp[hm]) rfl)
 have k2:∀b∈f2,w'.heap[b]? = w.heap[b]?:=fun b hb=>hS.blk b (h3 b (by simp[hb])) (fun e=>hg (by rw[<- e];simp[hb])) (fun hm=>n23 b hm b hb rfl)
 have hx':=hz hQ
 refine⟨_,cap,by simp,.inr ⟨g,x1++(x'++x2),f1++(f++f2),rfl,rfl,(r1.keep L k1).app (c:=c1) (d:=a'::c2) ⟨x',x2,f,f2,rfl,rfl,hQ,r3.keep L k2⟩,h2,fun b hb=>Nat.lt_of_lt_of_le (h3 b hb) hS.sz,fun j u hu=>?_,hS.fro⟩⟩
 by_cases hj1:j<c1.length * z
 ·rw[hS.cel j (.inl hj1)]
  refine h4 j u ?_
  rw[List.getElem?_append_left oM] at hu ⊢
  exact hu
 by_cases hj2:j<c1.length * z+z
 ·have:=hS.cur (j-c1.length * z) u (by
   rw[List.getElem?_append_right oM,List.getElem?_append_left oM] at hu
   rw[<- hu]
   congr 1
   omega)
  rw[show c1.length * z+(j-c1.length * z)=j by omega] at this
  exact this
 rw[hS.cel j (.inr oM)]
 refine h4 j u ?_
 rw[List.getElem?_append_right oM,List.getElem?_append_right oM] at hu ⊢
 rw[hx'] at hu
 rw[hx]
 exact hu
theorem Hd.form {α:Type}{z:Nat}{Q:World->List Value->α->List Nat->Prop}{w:World}{v:Value}{c:List α}{F:List Nat}(h:Hd z Q w v c F):∃ao cap,v=.slice ao c.length cap:=by
 obtain⟨ao,cap,rfl,_⟩:=h
 exact⟨ao,cap,rfl⟩
theorem Qi.len' {w:World}{x:List Value}{a:Int}{f:List Nat}(h:Qi w x a f):x.length=1:=by rw[h.1];rfl
theorem Qs'.len {w:World}{x:List Value}{a:Pl.Sv}{f:List Nat}(h:Qs' w x a f):x.length=7:=by obtain⟨v,rfl,_⟩:=h;rfl
theorem Qg'.len {w:World}{x:List Value}{a:Pl.Gv}{f:List Nat}(h:Qg' w x a f):x.length=2:=by obtain⟨v1,v2,f1,f2,rfl,_⟩:=h;rfl
theorem Qt'.len {w:World}{x:List Value}{a:Pl.Tv}{f:List Nat}(h:Qt' w x a f):x.length=4:=by obtain⟨v1,v2,f1,f2,rfl,_⟩:=h;rfl
theorem index_any (L:List ByteArray) (b o cap:Nat) (s:ByteArray) (w:World) (hl:L.length<=1000000) (hc:∀j,j<L.length->w.cell? ⟨b,o+j,none⟩=some (.string (L.getD j default))) :
  Calls Tryz.prog 129 #[.slice (some ⟨b,o,none⟩) L.length cap,.string s] w fun e w'=>(∃z:Int,e=.returned (.int .i64 z)/\decide (0<=z)=Pl.hasB L s L.length)/\w'=w:=by
 have HS:Hid (∀k,k<L.length->Pl.hasB L s (k+1)=(Pl.hasB L s k || decide (L.getD k default=s))):=fun k=>Pl.hasB_snoc
 have HY:Hid (∀k,k<L.length->L.getD k default=s->Pl.hasB L s L.length=true):=fun k=>Pl.hasB_yes
 have HC:=zH hc
 clear hc
 generalize hn:L.length=n at *
 clear hn
 go_enter Tryz.func129,Tryz.ntmps129
 go_wp2
 go_loop [8] (fun v=>∃k:Nat,k<=n/\v=.int .i64 k/\Hid (Pl.hasB L s k=false)) (fun v=>n-(intOf v).toNat)
 case atStart=>exact⟨0,Nat.zero_le _,rfl,rfl⟩
 obtain⟨k,hk,rfl,hst⟩:=hrel
 by_cases hlt:k<n
 rotate_left 1
 ·obtain rfl:k=n:=by omega
  clear HY HS HC
  go_wp2
  go_ret
  exact⟨⟨_,rfl,by rw[hst.out];rfl⟩,rfl⟩
 have hcell:=HC.out k hlt
 have Y:=zH (HY.out k hlt)
 have N:=zH (HS.out k hlt)
 clear HY HS HC
 generalize L.getD k default=x at *
 by_cases hx:x=s
 ·have HX:=zH (Y.out hx)
  have hq:(s.toList == x.toList)=true:=by rw[ba_eq];exact decide_eq_true hx.symm
  clear hx Y N
  go_wp2
  go_ret
  exact⟨⟨_,rfl,by rw[HX.out,decide_eq_true oM]⟩,rfl⟩
 have HX:=zH (show Pl.hasB L s (k+1)=false by rw[N.out,hst.out];simp[hx])
 have hq:(s.toList == x.toList)=false:=by rw[ba_eq];exact decide_eq_false (fun e=>hx e.symm)
 clear hx Y N
 go_wp2
 go_round
 case rel=>exact⟨k+1,by omega,by go_num,HX.out⟩
 simp[intOf];omega
theorem contains_any (L:List ByteArray) (b o cap:Nat) (s:ByteArray) (w:World) (hl:L.length<=1000000) (hc:∀j,j<L.length->w.cell? ⟨b,o+j,none⟩=some (.string (L.getD j default))) :
  Calls Tryz.prog 123 #[.slice (some ⟨b,o,none⟩) L.length cap,.string s] w fun e w'=>e=.returned (.bool (Pl.hasB L s L.length))/\w'=w:=by
 have K:=zH (index_any L b o cap s w hl hc)
 clear hc
 generalize Pl.hasB L s L.length=r at *
 generalize L.length=n at *
 go_enter Tryz.func123,Tryz.ntmps123
 go_wp2_with (go_at_call 129;refine K.out.mono ?_;rintro e w' ⟨⟨z,rfl,hz⟩,rfl⟩)
 go_ret
 exact⟨rfl,rfl⟩
namespace Pl
def setL:List ByteArray:=[⟨#[40]⟩,⟨#[64]⟩,⟨#[46]⟩]
def setR:List ByteArray:=[⟨#[41]⟩,⟨#[47]⟩,⟨#[92]⟩,⟨#[46]⟩]
theorem lf_eq (s:ByteArray):hasB setL s 3=lfB s.data.toList:=by
 rw[Bool.eq_iff_iff]
 simp only[hasB,setL,lfB,List.take,List.any_cons,List.any_nil,Bool.or_false,Bool.or_eq_true,decide_eq_true_eq,ba_iff,or_assoc]
 constructor <;> (rintro (h | h | h) <;> simp_all)
theorem rt_eq (s:ByteArray):hasB setR s 4=rtB s.data.toList:=by
 rw[Bool.eq_iff_iff]
 simp only[hasB,setR,rtB,List.take,List.any_cons,List.any_nil,Bool.or_false,Bool.or_eq_true,decide_eq_true_eq,ba_iff,or_assoc]
 constructor <;> (rintro (h | h | h | h) <;> simp_all)
end Pl
theorem together_any (a c:ByteArray) (w:World) :
  Calls Tryz.prog 109 #[.string a,.string c] w fun e w'=>e=.returned (.bool (Pl.tg a.data.toList c.data.toList))/\Below w.heap.size w w':=by
 have HB:Hid (∀o,Below w.heap.size w (w.alloc o)):=fun o=>(Below.refl _ _).alloc (Nat.le_refl _) _
 have HB2:Hid (∀o o2,Below w.heap.size w ((w.alloc o).alloc o2)):=fun o o2=>((Below.refl _ _).alloc (Nat.le_refl _) _).alloc sI _
 have K1:Hid (Calls Tryz.prog 123 #[.slice (some ⟨w.heap.size,0,none⟩) 3 3,.string a] (w.alloc (.cells #[.string ⟨#[40]⟩,.string ⟨#[64]⟩,.string ⟨#[46]⟩] 9)) fun e w'=>e=.returned (.bool (Pl.lfB a.data.toList))/\w'=w.alloc (.cells #[.string ⟨#[40]⟩,.string ⟨#[64]⟩,.string ⟨#[46]⟩] 9)):=by
  rw[<- Pl.lf_eq]
  exact contains_any Pl.setL w.heap.size 0 3 a _ (by decide) (by
   intro j hj
   match j,hj with
   |0,_=>simp[go_sem];rfl
   |1,_=>simp[go_sem];rfl
   |2,_=>simp[go_sem];rfl
   |j+3,hj=>exact absurd hj (by simp[Pl.setL]))
 have K2:Hid (∀w:World,Calls Tryz.prog 123 #[.slice (some ⟨w.heap.size,0,none⟩) 4 4,.string c] (w.alloc (.cells #[.string ⟨#[41]⟩,.string ⟨#[47]⟩,.string ⟨#[92]⟩,.string ⟨#[46]⟩] 9)) fun e w'=>e=.returned (.bool (Pl.rtB c.data.toList))/\w'=w.alloc (.cells #[.string ⟨#[41]⟩,.string ⟨#[47]⟩,.string ⟨#[92]⟩,.string ⟨#[46]⟩] 9)):=fun w=>by
  rw[<- Pl.rt_eq]
  exact contains_any Pl.setR w.heap.size 0 4 c _ (by decide) (by
   intro j hj
   match j,hj with
   |0,_=>simp[go_sem];rfl
   |1,_=>simp[go_sem];rfl
   |2,_=>simp[go_sem];rfl
   |3,_=>simp[go_sem];rfl
   |j+4,hj=>exact absurd hj (by simp[Pl.setR]))
 have HT:Hid (Pl.tg a.data.toList c.data.toList=(Pl.lfB a.data.toList || Pl.rtB c.data.toList)):=rfl
 generalize Pl.tg a.data.toList c.data.toList=r at *
 generalize Pl.lfB a.data.toList=x at *
 generalize Pl.rtB c.data.toList=y at *
 cases x
 ·have K3:Hid (∀o,Calls Tryz.prog 123 #[.slice (some ⟨w.heap.size+1,0,none⟩) 4 4,.string c] ((w.alloc o).alloc (.cells #[.string ⟨#[41]⟩,.string ⟨#[47]⟩,.string ⟨#[92]⟩,.string ⟨#[46]⟩] 9)) fun e w'=>e=.returned (.bool y)/\w'=(w.alloc o).alloc (.cells #[.string ⟨#[41]⟩,.string ⟨#[47]⟩,.string ⟨#[92]⟩,.string ⟨#[46]⟩] 9)):=fun o=>by
   have:=K2.out (w.alloc o)
   rw[World.size_alloc] at this
   exact this
  clear K2
  go_enter Tryz.func109,Tryz.ntmps109
  go_wp2_with fail
  refine K1.out.mono ?_
  rintro e w1 ⟨rfl,rfl⟩
  go_wp2_with fail
  refine(K3.out _).mono ?_
  rintro e w2 ⟨rfl,rfl⟩
  go_wp2_with fail
  go_ret
  exact⟨ret_bool (by rw[HT.out];rfl),HB2.out _ _⟩
 go_enter Tryz.func109,Tryz.ntmps109
 go_wp2_with fail
 refine K1.out.mono ?_
 rintro e w1 ⟨rfl,rfl⟩
 go_wp2_with fail
 go_ret
 exact⟨ret_bool (by rw[HT.out];rfl),HB.out _⟩
end Go.Proofs.YtbiiicbfpcfgdaaGreatDoor
