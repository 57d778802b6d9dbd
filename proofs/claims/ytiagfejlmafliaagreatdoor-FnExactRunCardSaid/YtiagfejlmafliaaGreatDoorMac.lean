import Derived.Test.YtiagfejlmafliaaGreatDoorProg
import Derived.Below
import Derived.WalkKit
import Derived.KernelRfl
import Derived.Handy
import Derived.Deep.RegionHeld3
import Derived.Deep.Cut
import Derived.Deep.CutRange
import Derived.Deep.CutBlock
import Derived.Deep.RegionLaw
import Derived.Deep.RegionWith
import Derived.Deep.LoopGhost
import Derived.Deep.QuietTactic
import Derived.Deep.AppendLies
import Derived.BigQuiet
import Derived.BigCall
import Derived.BigGuard
import Derived.BigRegion
import Derived.CellFam
import Derived.Lib.QuietBelow
import Derived.Defers
import Derived.Recover
import Derived.WalkSmall
import Derived.WalkSpells
import Derived.OwnWalk
import Derived.WalkLawsBesides
namespace Go.Proofs.YtiagfejlmafliaaGreatDoor
set_option linter.all false
open Go Go.Proofs.Tryz Go.RowKit
abbrev gA (a b:Value):Value:=.agg #[a,b]
abbrev tP (a b:Value):Value:=.tuple #[a,b]
abbrev Wd:=World
abbrev Va:=Value
variable {ρ:Prop}
def _root_.Go.RowKit.Hid.o{p:Prop}(h:Hid p):p:=h
def _root_.Go.Shut.o{p:Prop}(h:Shut p):p:=h.out
def zH{p:Prop}(h:p):Hid p:=h
def jN{α:Type}(x:α):∃n,Hid (x=n):=⟨_,rfl⟩
def jL{a b c:Nat}(h:a<b)(k:b<=c):a<c:=Nat.lt_of_lt_of_le h k
def jT{a b c:Nat}(h:a<=b)(k:b<=c):a<=c:=Nat.le_trans h k
def jR(a:Nat):a<=a:=Nat.le_refl a
def vZ(a:Nat):0<=a:=Nat.zero_le a
def jD(B:Nat)(w:Wd):Below B w w:=Below.refl B w
def jA{a b:Prop}(h:a)(k:b):a/\b:=⟨h,k⟩
def _root_.Go.Calls.k{P:Program}{f:FuncId}{a:Array Va}{w:Wd}{v:Ending}{Q:Wd->Prop}{R:Ending->Wd->Prop}(h:Calls P f a w fun e w'=>e=v/\Q w')(k:∀w',Q w'->R v w'):Calls P f a w R:=h.mono fun _ w' ⟨e,q⟩=>e▸k w' q
def _root_.Go.Calls.l{P:Program}{f:FuncId}{a:Array Va}{w:Wd}{v:Ending}{Q:Wd->Prop}{R:Ending->Wd->Prop}(h:Calls P f a w fun e w'=>Q w'/\e=v)(k:∀w',Q w'->R v w'):Calls P f a w R:=h.mono fun _ w' ⟨q,e⟩=>e▸k w' q
def Pl.x0:True:=⟨⟩
abbrev Y(b o:Nat):Addr:=⟨b,o,none⟩
abbrev pT(b:Nat):Va:=.pointer (some ⟨b,0,none⟩)
abbrev I(x:Int):Va:=.int .i64 x
abbrev nJ:Va:=.slice none 0 0
abbrev nN:Array Va:=#[nJ,nJ]
abbrev sY(b o:Nat):Option Addr:=some ⟨b,o,none⟩
@[simp,go_sem] abbrev cL (w:Wd)(b o:Nat)(v:Va):Prop:=w.cell? ⟨b,o,none⟩=some v
abbrev sX(x:Option Addr)(n y:Nat):Va:=.slice x n y
abbrev rT(v:Va):Ending:=.returned v
abbrev rB(v:Va)(w:Wd):Ending->Wd->Prop:=fun e w'=>e=.returned v/\Below w.heap.size w w'
abbrev rC(v:Va)(w:Wd):Ending->Wd->Prop:=fun e w'=>Below w.heap.size w w'/\e=.returned v
abbrev Cp:=Calls prog
abbrev oA:=Option Addr
abbrev lI:=List Int
abbrev lJ:=List UInt8
abbrev aV:=Array Va
abbrev nK:=Nat->Prop
abbrev bA:=ByteArray
abbrev Bl(w w':Wd):Prop:=Below w.heap.size w w'
section
variable {ops:Array Oper}{Q:Exit->Act->Wd->Prop}{S:Wd->Prop}{fuel:Nat}{listed:Array Bool}{a:Act}{w:Wd}
def tq(i:Nat)(v:Va){o:Oper}(hS:S w)(h:wpAnyH prog .any ops Q S fuel (listed.setIfInBounds i true) (a.put o.dst v) w)(hi:ops[i]? =some o:=by rfl)(hy:∀w,S w->(execOp a.eval o).run prog w=.ok (.value v) w:=by exact fun _ _=>by kernel_rfl)(hQ:∀c a w,Q (.panic c) (a.put o.dst v) w->Q (.panic c) a w:=by exact fun _ _ _ h=>h)(hs:Region.noSelect ops=true:=by kernel_rfl)(hf:Region.free .any ops listed i=true:=by kernel_rfl)(hr:(Region.ready .any ops listed).contains i=true:=by kernel_rfl)(hw:Region.wanted o (yielded ops a.tmps)=true:=by kernel_rfl):wpAnyH prog .any ops Q S (fuel+1) listed a w:=wpAnyH_take hi hs hf hr hQ (Or.inl ⟨hw,hy⟩) hS h
end
def oM(h:ρ:=by omega):ρ:=h
def kF(h:ρ:=by kernel_rfl):ρ:=h
def sI(h:ρ:=by simp):ρ:=h
def kK(h:ρ:=by exact fun _ _=>by kernel_rfl):ρ:=h
def gG(h:ρ:=by go_grown):ρ:=h
def gN(h:ρ:=by go_num):ρ:=h
def dC(h:ρ:=by decide):ρ:=h
def eB:=@if_neg
def eD:=@if_pos
def eJ:=@bodyPost_ret
def fw:=@List.getElem?_eq_getElem
def fH:=@decide_eq_false
def fM:=@decide_eq_true
def fO:=@Bool.and_eq_true
def fQ:=@decide_eq_true_eq
def fT:=@wp_region_held_drew
def fW:=@List.length_cons
def ga:=@List.all_eq_true
def gv:=@Nat.mul_le_mul_right
def gx:=@below_drewN
def gR:=@beq_eq_false_iff_ne
def gQ:=@List.getElem?_eq_some_iff
def gY:=@Nat.zero_add
def hJ:=@List.length_append
def ig:=@List.getD_eq_getElem?_getD
def iu:=@Nat.succ_mul
def iA:=@List.length_nil
def iz:=@Nat.add_zero
def iH:=@bne_iff_ne
def jH:=@List.length_take
def kh:=@Option.some.injEq
def km:=@List.take_length
def kI:=@if_true
def kH:=@Prod.mk.injEq
def kl:=@Int.toNat_of_nonneg
def lj:=@IntKind.wrap_i64
def lh:=@List.getElem_mem
def ld:=@List.length_reverse
def lQ:=@congrArg
def lP:=@List.length_eq_zero_iff
def mz:=@Bool.eq_iff_iff
def my:=@List.mem_of_getElem?
def mx:=@List.mem_cons_of_mem
def mw:=@Nat.sub_zero
def mR:=@List.take_of_length_le
def mu:=@List.mem_map
def mP:=@List.map_append
def nA:=@Calls.quiet_of_same
def oJ:=@if_false
def oI:=@List.getElem?_append_right
def pB:=@List.take_add_one
def pA:=@List.getElem?_append_left
def oH:=@List.map_cons
def py:=@Nat.zero_mul
def qu:=@Below.grown
def qt:=@Nat.sub_self
def qp:=@Int.toNat_natCast
def qo:=@List.getElem?_map
def qn:=@List.nil_append
def qm:=@List.cons_append
def qX:=@List.length_drop
def qW:=@List.drop_eq_getElem_cons
def qV:=@List.mem_range
def qU:=@List.length_map
def qT:=@Option.some.inj
def qS:=@DataW.trod_int
def rV:=@ByteArray.size_append
def rU:=@List.append_nil
def rS:=@of_decide_eq_true
def qR:=@List.mem_cons
def rR:=@Nat.eq_zero_or_pos
def s7:=@Value.slice.injEq
def sZ:=@Int.eq_ofNat_of_zero_le
def uB:=@Array.getElem?_eq_some_iff
def uA:=@Nat.min_eq_left
def uz:=@ByteArray.toList_eq
def uy:=@beq_iff_eq
def ux:=@List.length_range
def uw:=@List.getElem?_range
def uv:=@List.range_succ
def vN:=@Addr.add_lit
def vM:=@List.take_append_drop
def vL:=@List.flatten_append
def vK:=@List.drop_zero
def vJ:=@List.all_cons
def vI:=@Bool.true_and
def vH:=@Option.map_some
def vG:=@List.append_assoc
def vF:=@AllReadyH.cons
def vE:=@List.length_replicate
def xG:=@Option.map_eq_some_iff
def xF:=@List.reverse_cons
def xE:=@World.frozen?_setCells
def xD:=@Nat.le_mul_of_pos_left
def zC:=@Below.heap_setCell
def zA:=@Int.tmod_eq_emod_of_nonneg
def zy:=@World.cell?_of_block
def zx:=@List.length_eq_one_iff
def zw:=@run_sliceAt_slice
def zv:=@Nat.mod_lt
def zu:=@List.length_zip
def zq:=@List.mem_append
def zp:=@List.reverse_reverse
def zo:=@World.cell?_setCells_out
def zn:=@Bool.or_eq_true
def zk:=@World.ownsRow_lit
def zj:=@Nat.add_comm
def Bp:=@List.take_take
def Bo:=@Lib.cell_of_heap
def Bn:=@run_underlying
def Bm:=@wpList_plain
def Bk:=@decide_eq_false_iff_not
def Bj:=@Int.tdiv_eq_ediv_of_nonneg
def Bi:=@wp_region_held
def Bh:=@List.any_eq_true
def Bf:=@List.reverse_append
def Be:=@List.drop_of_length_le
def Bc:=@Nat.le_of_lt
def Ba:=@leaves_cons
def A_:=@List.drop_eq_nil_of_le
def A9:=@List.map_congr_left
def A8:=@Nat.min_self
def A7:=@List.take_zero
def yZ:=@List.sum_cons
def A6:=@Nat.lt_succ_self
def A5:=@wpAnyH_ready
def A4:=@AllReadyH.nil
def AZ:=@List.getD_cons_zero
def AY:=@Below.trans
def DL:=@List.all_append
def DK:=@List.flatten_cons
def DJ:=@List.of_mem_zip
def DI:=@List.pairwise_cons
def DH:=@Nat.sub_mul
def DG:=@Nat.le_succ
def DF:=@List.find?_eq_none
def DE:=@Iff.rfl
def DC:=@Below.size
def Dz:=@Nat.mod_eq_of_lt
def Dy:=@List.mem_of_mem_drop
def Dx:=@List.getD_cons_succ
def Dw:=@Option.getD_some
def Dv:=@Nat.min_eq_right
def IF:=@Nat.mul_le_mul
def IE:=@World.ownsRow_nil
def ID:=@Below.mono
def IC:=@Int.le_trans
def IB:=@Option.isSome_some
def IA:=@Option.isSome_none
def Iz:=@List.flatten_nil
def Iy:=@List.reverse_nil
def Ix:=@List.getElem?_take_of_lt
def Iw:=@Nat.add_sub_cancel_left
def Iv:=@callsD_of_wpS
def Iu:=@wpS_region
def It:=@wpS_of_wp
def Is:=@Nat.div_le_self
def Ir:=@List.mem_flatten
def Iq:=@Int.one_mul
def Ip:=@List.mem_of_mem_take
def Io:=@List.foldl_nil
def Im:=@Int.mul_le_mul_of_nonneg_right
def Il:=@World.cell?_setCell_other
def Ik:=@Calls.quiet_of
def Ij:=@List.mem_cons_self
def Ii:=@Nat.mul_one
def Ih:=@Bool.false_eq_true
def Ig:=@DataW.trod_string
def Ie:=@DataW.trod_lt
def Ic:=@Below.trod
def Ib:=@List.sum_append
def Ia:=@wpList_make_full
def P7:=@Oper.upon_value
def P6:=@Nat.lt_or_ge
def P5:=@Lib.byteCells_length
def P4:=@run_convert_bytes_arg
def P3:=@run_equalIn_agg
def PZ:=@List.getElem?_drop
def PY:=@List.replicate_succ
def PX:=@Int.natAbs_tmod
def PW:=@Int.mul_nonneg
def PV:=@Nat.add_assoc
def PU:=@List.map_nil
def PS:=@List.drop_replicate
def PR:=@World.cell?_setCell_same
def H_:=@Bool.and_false
def PQ:=@UInt8.le_iff_toNat_le
def PO:=@heap_alloc_new
def PN:=@run_append_own
def PM:=@List.getElem?_take
def PL:=@World.block_lt_of_cell?
def PK:=@trodAll_cons_mk
def PJ:=@List.forall_mem_cons
def PI:=@List.take_append_of_le_length
def PH:=@List.mem_iff_getElem?
def PG:=@List.getElem?_reverse
def PE:=@Exit.noGoto_ret
def PD:=@Nat.mul_comm
def PA:=@IntKind.wrap_u64
def Py:=@Nat.add_sub_cancel
def Px:=@Nat.add_mul_div_right
def Pv:=@Nat.div_eq_of_lt
def Pu:=@Nat.add_mul_mod_self_right
def δ:=@Array.getElem?_eq_none
def Z':=@Lib.run_unsafeSliceData_row
def Z_:=@Classical.byContradiction
def Z9:=@Int.mul_le_mul_of_nonneg_left
def Z8:=@List.pairwise_iff_getElem
def Z7:=@List.replicate_append_replicate
def Z6:=@List.eq_nil_of_length_eq_zero
def Z5:=@List.mem_of_find?_eq_some
def Z4:=@List.setIfInBounds_toArray
def Z3:=@List.set_append_right
def Z2:=@WideMaps.keyOf_string_mk
def Z1:=@World.frozen?_setCell
def Z0:=@Int.mul_ediv_cancel_left
def ZZ:=@List.dropLast_concat_getLast
def ZY:=@World.cell?_setCell_far
def J2(h:ρ:=by simp;omega):ρ:=h
def J3(h:ρ:=by simp[go_sem];rfl):ρ:=h
def J4(h:ρ:=by repeat' (first | with_reducible exact Kp.refl _ _ | with_reducible refine Kp.set ?_ ?_ _ | exact HN.o _ (by dsimp only;omega) (by dsimp only;omega))):ρ:=h
def J5(h:ρ:=by simp[go_sem]):ρ:=h
def J6(h:ρ:=by dsimp only;omega):ρ:=h
def J7(h:ρ:=by first | (simp;done) | (simp;omega)):ρ:=h
def J8(h:ρ:=by unfold maxLen;omega):ρ:=h
def J9(h:ρ:=by simp[results,results49,go_sem,d2,d3];try rfl):ρ:=h
def JA(h:ρ:=by simpa using m2):ρ:=h
def JB(h:ρ:=by simpa using m1):ρ:=h
def JD(h:ρ:=by have:=(Pl.ok_eq OK.o).2.2.2.2;rw[<- e5,<- HL.o];simp only at this;omega):ρ:=h
def JE(h:ρ:=by simp at h ⊢;omega):ρ:=h
def JF(h:ρ:=by simp;try omega):ρ:=h
def JG(h:ρ:=by simpa using n1):ρ:=h
def JH(h:ρ:=by rw[HN.o];omega):ρ:=h
def JI(h:ρ:=by first | exact ic _ _ _ _ | exact C4 (ic _ _ _ _)):ρ:=h
def JK(h:ρ:=by simp[results,results139,go_sem, *];try rfl):ρ:=h
def JL(h:ρ:=by simp[results,results134,go_sem, *];try rfl):ρ:=h
def JO(h:ρ:=by rw[E0.o];omega):ρ:=h
def JP(h:ρ:=by simp[Region.wanted,hg]):ρ:=h
def JQ(h:ρ:=by go_simp):ρ:=h
def JR(h:ρ:=by simpa using n2):ρ:=h
def JS(h:ρ:=by simpa using hb):ρ:=h
def JT(h:ρ:=by rw[E1.o];omega):ρ:=h
def JU(h:ρ:=by simp[E1.o,E2.o] <;> omega):ρ:=h
def JV(h:ρ:=by have:=(Pl.ok_eq ha).2.2.2.1;omega):ρ:=h
def JW(h:ρ:=by have:=hE.o.1;omega):ρ:=h
def JX(h:ρ:=by simp[results,results49,go_sem,c2,c3];try rfl):ρ:=h
def JY(h:ρ:=by simp[Nd.post,hx]):ρ:=h
def JZ(h:ρ:=by simp[results,results140,go_sem, *];try rfl):ρ:=h
def Ja(h:ρ:=by simp[results,results126,go_sem, *];try rfl):ρ:=h
def Jb(h:ρ:=by simp[results,results109,go_sem, *];try rfl):ρ:=h
def Jc(h:ρ:=by simp[results,results108,go_sem, *];try rfl):ρ:=h
def Jd(h:ρ:=by simp[results,results107,go_sem, *];try rfl):ρ:=h
def Je(h:ρ:=by simp[results,results105,go_sem,c3];try rfl):ρ:=h
def Jf(h:ρ:=by simp[results,results90,go_sem,e2];try rfl):ρ:=h
def Jg(h:ρ:=by simp[results,results77,go_sem, *];try rfl):ρ:=h
def Jh(h:ρ:=by rw[<- e5];exact gv _ oM):ρ:=h
def Ji(h:ρ:=by simpa using nzz):ρ:=h
def Jj(h:ρ:=by rw[HQL.o,tX.o]):ρ:=h
def Jk(h:ρ:=by simpa using n0):ρ:=h
def Jl(h:ρ:=by simp[hx]):ρ:=h
def Jm(h:ρ:=by simp[Pl.fN];omega):ρ:=h
def Jn(h:ρ:=by simp[Pl.ar,hk]):ρ:=h
def Jo(h:ρ:=by simp[E1.o,E2.o];omega):ρ:=h
def Jp(h:ρ:=by simp[E1.o,E2.o]):ρ:=h
def Jq(h:ρ:=by simp[size_madeCells]):ρ:=h
def Jr(h:ρ:=by simpa using ht):ρ:=h
def Js(h:ρ:=by simpa using hl):ρ:=h
def Jt(h:ρ:=by rw[HN.o];exact jR _):ρ:=h
def aa3(h:ρ:=by
 have F7:=zH ((F4.o.fz (p:=⟨Z,0,none⟩) J6 (sX x6 r6.2.1.length y6)).fz (p:=⟨Z,1,none⟩) J6 (sX x7 r6.2.2.length y7));have bZ:Bx ((w6.setCell ⟨Z,0,none⟩ (sX x6 r6.2.1.length y6)).setCell ⟨Z,1,none⟩ (sX x7 r6.2.2.length y7)) Z #[sX x6 r6.2.1.length y6,sX x7 r6.2.2.length y7] 30:=(b7.set 0 _).set 1 _;have RQ:Hid (RA (w.1.size+7<=·) ((w6.setCell ⟨Z,0,none⟩ (sX x6 r6.2.1.length y6)).setCell ⟨Z,1,none⟩ (sX x7 r6.2.2.length y7)) (sX x6 r6.2.1.length y6) (sX x7 r6.2.2.length y7) r6.2/\(r6.1=0->K.ok r6.2)):=⟨(RR.o.1.kp (by repeat' (first | with_reducible exact Kp.refl _ _ | with_reducible refine Kp.set ?_ ?_ _ | (dsimp only;omega)))).mono λb h _=>oM,RR.o.2⟩;obtain⟨⟨d0,f0,z0⟩,⟨d1,f1,z1⟩,⟨d2,f2,z2⟩,⟨d3,f3,z3⟩,⟨d4,f4,z4⟩,⟨d5,f5,z5⟩,⟨d6,f6,z6⟩⟩:=F4.o.all;obtain⟨d7,f7,z7⟩:=b7.all;clear F4 RR d1 f1 z1 d2 f2 z2 d3 f3 z3 d5 f5 z5 d6 f6;go_wp2_with fail;clear d0 f0 z0 d4 f4 z4 d7 f7 z7 b7;have b7:=bZ;clear bZ;generalize World.setCell (World.setCell w6 _ _) _ _=W8 at *;by_cases hc0:r6.1=0
 ·obtain⟨rc,ra⟩:=r6
  simp only at hc0;subst hc0;have fF:=RQ.o.2 rfl;replace RQ:Hid (RO K (w.1.size+7<=·) W8 (sX x6 ra.1.length y6) (sX x7 ra.2.length y7) ra):=⟨RQ.o.1,fF⟩;obtain⟨C,Kd,KK,HP⟩:=NJ (K:=K) (P:=P) (w:=w) hL nI (a:=ra) rfl (O.len ra fF).2;replace HR:Hid (r=eG ⟨lf,lc,lr,ls⟩ ra ⟨f'+1,c',s'⟩):=HR.o.trans (eD rfl);refine(C9 (f'+1) c' s' 0 0 W8).k λw9 hb=>?_;have F8:=zH (F7.o.call hb);replace b7:=b7.below hb;replace RQ:=zH (RQ.o.kp (.of hb));obtain⟨⟨c0,f0,z0⟩,⟨c1,f1,z1⟩,⟨c2,f2,z2⟩,⟨c3,f3,z3⟩,⟨c4,f4,z4⟩,⟨c5,f5,z5⟩,⟨c6,f6,z6⟩⟩:=F8.o.all;clear hb F7 c1 f1 z1 c2 f2 z2 c3 f3 z3 c4 f4 z4 c5 f5 z5 c6 f6 z6;go_wp2_with fail;have F9:=zH (F8.o.st (f'+1) c' s' 0 0);have b9:Bx (((((w9.setCell ⟨w.1.size,0,none⟩ (I (f'+1))).setCell ⟨w.1.size,1,none⟩ (I c')).setCell ⟨w.1.size,2,none⟩ (I s')).setCell ⟨w.1.size,3,none⟩ (I 0)).setCell ⟨w.1.size,4,none⟩ (I 0)) Z _ 30:=((((b7.eC J2 _).eC J2 _).eC J2 _).eC J2 _).eC J2 _;replace RQ:=zH (RQ.o.kp (w':=(((((w9.setCell ⟨w.1.size,0,none⟩ (I (f'+1))).setCell ⟨w.1.size,1,none⟩ (I c')).setCell ⟨w.1.size,2,none⟩ (I s')).setCell ⟨w.1.size,3,none⟩ (I 0)).setCell ⟨w.1.size,4,none⟩ (I 0))) uL);clear F8 c0 f0 z0 b7;generalize World.setCell (World.setCell (World.setCell (World.setCell (World.setCell w9 _ _) _ _) _ _) _ _) _ _=W9 at *;obtain⟨c7,f7,z7⟩:=b9.all;obtain⟨⟨c0,f0,z0⟩,⟨c1,f1,z1⟩,⟨c2,f2,z2⟩,⟨c3,f3,z3⟩,⟨c4,f4,z4⟩,⟨c5,f5,z5⟩,⟨c6,f6,z6⟩⟩:=F9.o.all;clear f0 f1 c4 f4 z4 c5 f5 z5 c6 f6 z6 f7;obtain⟨i0,i1,i2,i3,i4,i5,i6,i7⟩:¬Z=w.1.size+1+1/\¬Z=w.1.size+1+1+1/\¬w.1.size+1+1=Z/\¬w.1.size+1+1+1=Z/\¬w.1.size=w.1.size+1+1/\¬w.1.size=w.1.size+1+1+1/\¬w.1.size+1+1=w.1.size/\¬w.1.size+1+1+1=w.1.size:=oM;go_region_held3 (λw'=>(w'.cell? ⟨w.1.size,0,none⟩=some (I (f'+1))/\w'.cell? ⟨w.1.size,1,none⟩=some (I c')/\w'.cell? ⟨w.1.size,2,none⟩=some (I s')/\w'.cell? ⟨w.1.size,3,none⟩=some (I 0)/\w'.cell? ⟨w.1.size,4,none⟩=some (I 0))/\(w'.cell? ⟨w.1.size+1,0,none⟩=some (I lf)/\w'.cell? ⟨w.1.size+1,1,none⟩=some (I lc)/\w'.cell? ⟨w.1.size+1,2,none⟩=some (.bool lr)/\w'.cell? ⟨w.1.size+1,3,none⟩=some (I ls))/\w'.cell? ⟨Z,0,none⟩=some (sX x6 ra.1.length y6)/\w'.cell? ⟨Z,1,none⟩=some (sX x7 ra.2.length y7)) (go_keep) (first | (go_at_call 80;refine(KK.o _ _ _ _).mono ?_;rintro e wA ⟨rfl,hb⟩;have FA:=zH (F9.o.call (iq hb));obtain⟨d0,g0,l0⟩:=FA.o.b0.all;obtain⟨d1,g1,l1⟩:=FA.o.b1.all;obtain⟨d2,g2,l2⟩:=FA.o.b2.all;obtain⟨d3,g3,l3⟩:=FA.o.b3.all;obtain⟨d7,g7,l7⟩:=(b9.below (iq hb)).all;have L':=zH (RQ.o.kp (.of (iq hb)));clear hb))
  all_goals
   clear c0 z0 c1 z1 c2 f2 z2 c3 f3 z3 c7 z7;go_wp2;refine eJ J9 rfl ?_;have:=FA.o.bl;rw[HR.o];refine HP.o _ _ _ gG ((L'.o.kp uL).mono λb h _=>.inr oM)
 ·obtain⟨rc,ra⟩:=r6
  simp only at hc0;replace HR:Hid (r=(.error (2,rc),⟨f'+1,c',s'⟩)):=HR.o.trans (eB hc0);replace RQ:=zH RQ.o.1;refine(wZ (f'+1) c' s' 0 0 rc W8 hc0).k λw9 hb=>?_;have F8:=zH (F7.o.call hb);replace b7:=b7.below hb;replace RQ:=zH (RQ.o.kp (.of hb));obtain⟨⟨c0,f0,z0⟩,⟨c1,f1,z1⟩,⟨c2,f2,z2⟩,⟨c3,f3,z3⟩,⟨c4,f4,z4⟩,⟨c5,f5,z5⟩,⟨c6,f6,z6⟩⟩:=F8.o.all;clear hb F7 c1 f1 z1 c2 f2 z2 c3 f3 z3 c4 f4 z4 c5 f5 z5 c6 f6 z6;go_wp2_with fail;have F9:=zH (F8.o.st (f'+1) c' s' 2 rc);have b9:Bx (((((w9.setCell ⟨w.1.size,0,none⟩ (I (f'+1))).setCell ⟨w.1.size,1,none⟩ (I c')).setCell ⟨w.1.size,2,none⟩ (I s')).setCell ⟨w.1.size,3,none⟩ (I 2)).setCell ⟨w.1.size,4,none⟩ (I rc)) Z _ 30:=((((b7.eC J2 _).eC J2 _).eC J2 _).eC J2 _).eC J2 _;replace RQ:=zH (RQ.o.kp (w':=(((((w9.setCell ⟨w.1.size,0,none⟩ (I (f'+1))).setCell ⟨w.1.size,1,none⟩ (I c')).setCell ⟨w.1.size,2,none⟩ (I s')).setCell ⟨w.1.size,3,none⟩ (I 2)).setCell ⟨w.1.size,4,none⟩ (I rc))) uL);clear F8 c0 f0 z0 b7;generalize World.setCell (World.setCell (World.setCell (World.setCell (World.setCell w9 _ _) _ _) _ _) _ _) _ _=W9 at *;obtain⟨c7,f7,z7⟩:=b9.all;obtain⟨⟨c0,f0,z0⟩,⟨c1,f1,z1⟩,⟨c2,f2,z2⟩,⟨c3,f3,z3⟩,⟨c4,f4,z4⟩,⟨c5,f5,z5⟩,⟨c6,f6,z6⟩⟩:=F9.o.all;clear f0 f1 c4 f4 z4 c5 f5 z5 c6 f6 z6 f7;obtain⟨i0,i1,i2,i3,i4,i5,i6,i7⟩:¬Z=w.1.size+1+1/\¬Z=w.1.size+1+1+1/\¬w.1.size+1+1=Z/\¬w.1.size+1+1+1=Z/\¬w.1.size=w.1.size+1+1/\¬w.1.size=w.1.size+1+1+1/\¬w.1.size+1+1=w.1.size/\¬w.1.size+1+1+1=w.1.size:=oM;go_region_held3 (λw'=>(w'.cell? ⟨w.1.size,0,none⟩=some (I (f'+1))/\w'.cell? ⟨w.1.size,1,none⟩=some (I c')/\w'.cell? ⟨w.1.size,2,none⟩=some (I s')/\w'.cell? ⟨w.1.size,3,none⟩=some (I 2)/\w'.cell? ⟨w.1.size,4,none⟩=some (I rc))/\(w'.cell? ⟨w.1.size+1,0,none⟩=some (I lf)/\w'.cell? ⟨w.1.size+1,1,none⟩=some (I lc)/\w'.cell? ⟨w.1.size+1,2,none⟩=some (.bool lr)/\w'.cell? ⟨w.1.size+1,3,none⟩=some (I ls))/\w'.cell? ⟨Z,0,none⟩=some (sX x6 ra.1.length y6)/\w'.cell? ⟨Z,1,none⟩=some (sX x7 ra.2.length y7)) (go_keep) (first | (go_at_call 80;refine(UY (f'+1) c' s' rc ⟨lf,lc,lr,ls⟩ _ _ _ _ _).mono ?_;rintro e wA ⟨rfl,hb⟩;have FA:=zH (F9.o.call (iq hb));obtain⟨d0,g0,l0⟩:=FA.o.b0.all;obtain⟨d1,g1,l1⟩:=FA.o.b1.all;obtain⟨d2,g2,l2⟩:=FA.o.b2.all;obtain⟨d3,g3,l3⟩:=FA.o.b3.all;obtain⟨d7,g7,l7⟩:=(b9.below (iq hb)).all;have L':=zH (RQ.o.kp (.of (iq hb)));clear hb))
  all_goals
   clear c0 z0 c1 z1 c2 f2 z2 c3 f3 z3 c7 z7;go_wp2;refine eJ J9 rfl ?_;have:=FA.o.bl;rw[HR.o];exact⟨gG,nI,sI,_,_,_,_,_,_,_,rfl⟩
 ):ρ:=h
def aa2(h:ρ:=by
 go_enter func49,ntmps49;go_wp2_with fail;refine(IH.o _ F0.o.bl).mono ?_;rintro e w1 ⟨hb1,gJ,u0,u1,rfl,ro⟩;obtain⟨f',c',s'⟩:=m';obtain⟨⟨x0,y0,rfl⟩,x1,y1,rfl⟩:=ro.1.eS;simp only at gJ;have F1:=zH (F0.o.call hb1);have zB:=F0.o.b6.lt;have Ma:RO K (λb=>P b\/w.1.size+7<=b) w1 (sX x0 a.1.length y0) (sX x1 a.2.length y1) a:=ro.mono λb h _=>h.imp id λh=>oM;have nP:∀b,w.1.size<=b->b<w.1.size+7->¬(P b\/w.1.size+7<=b):=λb h1 h2 h=>by
  rcases h with h|h
  ·have:=hP b h;omega
  omega
 have oY:Hid (RO K (λb=>P b\/w.1.size+7<=b) (((((((w1.setCell ⟨w.1.size+1+1+1+1+1,0,none⟩ (sX x0 a.1.length y0)).setCell ⟨w.1.size+1+1+1+1+1,1,none⟩ (sX x1 a.2.length y1)).setCell ⟨w.1.size,0,none⟩ (I f')).setCell ⟨w.1.size,1,none⟩ (I c')).setCell ⟨w.1.size,2,none⟩ (I s')).setCell ⟨w.1.size,3,none⟩ (I 0)).setCell ⟨w.1.size,4,none⟩ (I 0)) (sX x0 a.1.length y0) (sX x1 a.2.length y1) a):=Ma.kp (by
  repeat' (first | with_reducible exact Kp.refl _ _ | with_reducible refine Kp.set ?_ ?_ _ | exact nP _ J6 J6))
 obtain⟨⟨d0,f0,z0⟩,⟨d1,f1,z1⟩,⟨d2,f2,z2⟩,⟨d3,f3,z3⟩,⟨d4,f4,z4⟩,⟨d5,f5,z5⟩,⟨d6,f6,z6⟩⟩:=F1.o.all;have HN:=zH nP;clear hb1 F0 IH k0 k1 k2 k3 k4 k5 k6 ro Ma nP d2 f2 z2 d3 f3 z3 d6 f6;go_wp2_with fail;have F2:=zH ((F1.o.pw (sX x0 a.1.length y0) (sX x1 a.2.length y1)).st f' c' s' 0 0);clear F1 d0 f0 z0 d1 f1 z1 d4 f4 z4 d5 f5 z5;generalize World.setCell (World.setCell (World.setCell (World.setCell (World.setCell (World.setCell (World.setCell w1 _ _) _ _) _ _) _ _) _ _) _ _) _ _=W2 at *;have fY:=gJ;obtain⟨g0,g1,g2,g3,g4,g5⟩:=gJ;simp only at g0 g1 g2 g3 g4 g5;refine(Ay f' c' s' 0 0 ⟨lf,lc,lr,ls⟩ W2 g0 g1).k λw3 hb=>?_;replace oY:=zH (oY.o.kp (.of hb));have F3:=zH (F2.o.call hb);clear hb F2;exact aaA
 ):ρ:=h
def aa1(h:ρ:=by
 obtain⟨x0,n0,y0,x1,n1,y1,f5,c5,s5,k5,x5,w1,hp,rfl⟩:=hcut;obtain⟨⟨rfl,rfl,rfl,rfl,rfl,rfl,rfl⟩,hb1,gJ,RR⟩:=hp.Rx;have F2:=((F0.o.call (iq hb1)).pw (sX x0 a.1.length y0) (sX x1 a.2.length y1)).st m'.f m'.c m'.s 0 0;have ro:=(RR.o.mono (Q:=λb=>P b\/w.1.size+7<=b) λb h _=>h.imp id λh=>jT j8 h).kp (w':=((((((w1.setCell ⟨w.1.size+1+1+1+1+1,0,none⟩ (sX x0 a.1.length y0)).setCell ⟨w.1.size+1+1+1+1+1,1,none⟩ (sX x1 a.2.length y1)).setCell ⟨w.1.size,0,none⟩ (I m'.f)).setCell ⟨w.1.size,1,none⟩ (I m'.c)).setCell ⟨w.1.size,2,none⟩ (I m'.s)).setCell ⟨w.1.size,3,none⟩ (I 0)).setCell ⟨w.1.size,4,none⟩ (I 0)) J4;clear F0 Bl IH HS j8 hp RR hb1;generalize World.setCell (World.setCell (World.setCell (World.setCell (World.setCell (World.setCell (World.setCell w1 _ _) _ _) _ _) _ _) _ _) _ _) _ _=wx at *;have zB:=F2.b6.lt;have R2:=zH ro;replace F2:=zH F2;obtain⟨⟨d0,f0,z0⟩,⟨d1,f1,z1⟩,⟨d2,f2,z2⟩,⟨d3,f3,z3⟩,⟨d4,f4,z4⟩,⟨d5,f5,z5⟩,⟨d6,f6,z6⟩⟩:=F2.o.all;clear d2 f2 z2 d3 f3 z3 d5 f5 z5 d4 f4 z4 d6 f6 ro;go_wp2_with fail;refine(IL.o (λb=>(P b\/w.1.size+7<=b)/\b<wx.1.size) _ gJ F2.o.bl (λb h=>⟨.inl h,jL (hP b h) F2.o.bl.size⟩) (λb h=>h.2)).mono ?_;rintro e w2 hp;have F3:=zH (F2.o.call hp.1);replace R2:=zH (R2.o.kp (.of hp.1));clear d0 f0 z0 d1 f1 z1 F2 IL;obtain⟨f',c',s'⟩:=m2;exact aaz
 ):ρ:=h
def J_(h:ρ:=by
 go_wp2_with fail;generalize hW:World.alloc (World.alloc w _) _=W0;have V0:=jU hW;clear hW c0 z0;refine(MQ _ 1 1 _ (Lv.one V0.o.2.1 ((H.o.kp (.of V0.o.2.2.1)).mono λb h k=>k) HA.o) oM).l λB hb=>?_;have S9:Hid (∀W,Bl B W->Bx W pa #[sX x0 n0 y0,sX x1 n1 y1] 30/\Bx W po #[I n] 3/\Bl w W/\Bx W w.1.size nN 30/\w.1.size<=B.1.size):=λW kk =>
  have k2:=bv kk (bv hb V0.o.2.2.1);⟨HB.o.1.below k2,HB.o.2.below k2,k2,(V0.o.1.below hb).below kk,(bv hb V0.o.2.2.1).size⟩
 clear hb V0;go_wp2_with fail;refine fT (S:=λW=>Bx W pa #[sX x0 n0 y0,sX x1 n1 y1] 30/\Bx W po #[I n] 3) kF ⟨(S9.o B (jD _ _)).1,(S9.o B (jD _ _)).2.1⟩ (λhS=>?_);refine tk 0 _ rfl hS (λ_ h=>fh _ _ rfl kF (nh (h.2.cf.1 0))) ?_;refine tk 2 _ rfl hS (λ_ h=>fh _ _ rfl kF (oL h.1)) ?_;have KD:Bl B B.drew:=gG;clear hS;generalize B.drew=Wd at *;exact IY
 ):ρ:=h
def Q6(h:ρ:=by
 go_wp2_with fail;generalize hW:World.alloc (World.alloc w _) _=W0;have V0:=jU hW;clear hW c0 z0 c1 z1;refine(MQ _ 2 2 _ (Lv.two V0.o.2.1 ((H.o.1.kp (.of V0.o.2.2.1)).mono λb h k=>k) HA.o.1 ((H.o.2.kp (.of V0.o.2.2.1)).mono λb h k=>k) HA.o.2) oM).l λZ hb=>?_;have S9:Hid (∀W,Bl Z W->(Bx W pa #[sX x0 n0 y0,sX x1 n1 y1] 30/\Bx W pb #[sX x2 n2 y2,sX x3 n3 y3] 30/\Bx W po #[I n] 3)/\Bl w W/\Bx W w.1.size nN 30/\w.1.size<=Z.1.size):=λW kk =>
  have k2:=bv kk (bv hb V0.o.2.2.1);⟨⟨HB.o.1.below k2,HB.o.2.1.below k2,HB.o.2.2.below k2⟩,k2,(V0.o.1.below hb).below kk,(bv hb V0.o.2.2.1).size⟩
 clear hb V0;go_wp2_with fail;refine fT (S:=λW=>Bx W pa #[sX x0 n0 y0,sX x1 n1 y1] 30/\Bx W pb #[sX x2 n2 y2,sX x3 n3 y3] 30/\Bx W po #[I n] 3) kF (S9.o Z (jD _ _)).1 (λhS=>?_);refine tk 0 _ rfl hS (λ_ h=>fh _ _ rfl kF (nh (h.2.2.cf.1 0))) ?_;refine tk 2 _ rfl hS (λ_ h=>fh _ _ rfl kF (oL h.1)) ?_;refine tk 3 _ rfl hS (λ_ h=>fh _ _ rfl kF (oL h.2.1)) ?_;have KD:Bl Z Z.drew:=gG;clear hS;generalize Z.drew=Wd at *;exact QK
 ):ρ:=h
def aa0(h:ρ:=by
 obtain⟨k,hk,rfl,hA,hB⟩:=hrel;by_cases eI:k<n
 ·obtain⟨z,hz⟩:=gF HN.o eI
  obtain⟨z',gX⟩:=gF HM.o eI;obtain⟨b,o,rfl,hb,hc⟩:=(H.o.kp (.of hB.o)).at hz;obtain⟨b',o',rfl,hb',mF⟩:=(H'.o.kp (.of hB.o)).at gX;have T:=zH (Pl.vq hz);have T':=zH (Pl.vq gX);by_cases hx:z=z'
  ·subst hx
   have gu:(z != z)=false:=sI;go_wp2_with fail;go_region
   all_goals
    go_wp2_with fail;go_roundw
    case rel=>exact⟨k+1,by omega,by go_num,by show _=_;rw[T.o,T'.o,hA.o],hB.o.drew⟩
    simp[intOf];omega
  have gu:(z != z')=true:=by rw[iH];exact hx
  have hr:r=false:=by
   rw[<- HR.o];refine fH λe=>hx ?_;rw[e,gX] at hz;injection hz with hz;exact hz.symm
  subst hr;clear hx;go_wp2_with fail;go_region
  all_goals
   go_wp2_with fail;go_returns
   exact⟨rfl,hB.o.drew⟩
 ·have hr:r=true:=by
   rw[<- HR.o];have:=hA.o;rw[mR JH,mR (by rw[HM.o];omega)] at this;exact fM this
  subst hr;go_wp2;go_returns
  exact⟨rfl,hB.o⟩
 ):ρ:=h
def apd(h:ρ:=by
 go_wp2_with fail;generalize hW:World.alloc (World.alloc (World.alloc w _) _) _=W0;have V0:=mK hW;clear hW;refine(SA.o W0 V0.o.2.2.2.1).k λw1 hb=>?_;have V1:=zH (jA (V0.o.1.below hb) (jA (V0.o.2.1.below hb) (jA (V0.o.2.2.1.below hb) (jA (bv hb V0.o.2.2.2.1) (show w.1.size+1+1<w1.1.size from (V0.o.2.2.1.below hb).lt)))));obtain⟨c1,f1,z1⟩:=V1.o.2.1.all;clear hb V0 f1 SA;go_wp2_with fail;refine(iV _ _).mono ?_;rintro e w1 ⟨rfl,rfl⟩;go_wp2_with fail;refine(KX.o w1 V1.o.2.2.2.1).mono ?_;rintro e w2 ⟨hb,x4,l4,y4,x5,l5,y5,rfl,ra⟩;have e4:row.length+1=l4:=ra.1.rw.len;subst e4;have e5:db.length=l5:=ra.2.rw.len;obtain⟨b4,o4,rfl,fZ,pP⟩:=ra.1.rw.at (i:=0) rfl;rw[iz] at pP;obtain⟨gh,E2⟩:=jN (row.length);have V2:=zH (jA (V1.o.1.below hb) (jA (V1.o.2.1.below hb) (jA (V1.o.2.2.1.below hb) (jA (bv hb V1.o.2.2.2.1) (jA V1.o.2.2.2.2 hb.size)))));obtain⟨yz,Ty,D7⟩:=V2.o.2.1.all;have H5:=zH e5;rw[E2.o] at ra eN ⊢;have R2:Hid (RA (λb=>b<w.1.size\/w1.1.size+2<=b) ((w2.setCell ⟨w.1.size+1,0,none⟩ (sX (some ⟨b4,o4,none⟩) (gh+1) y4)).setCell ⟨w.1.size+1,1,none⟩ (sX x5 l5 y5)) (sX (some ⟨b4,o4,none⟩) (gh+1) y4) (sX x5 l5 y5) ((n:Int)::row,db)):=(ra.mono (Q:=λb=>b<w.1.size\/w1.1.size+2<=b) λb h _=>oM).kp (((Kp.refl _ _).set (by have:=V2.o.2.2.2.2.1;simp;omega) _).set (by have:=V2.o.2.2.2.2.1;simp;omega) _);have J0:Hid (Bx ((w2.setCell ⟨w.1.size+1,0,none⟩ (sX (some ⟨b4,o4,none⟩) (gh+1) y4)).setCell ⟨w.1.size+1,1,none⟩ (sX x5 l5 y5)) w.1.size #[sX x0 0 y0,sX (some ⟨b1,o1,none⟩) p1 y1] 30/\Bx ((w2.setCell ⟨w.1.size+1,0,none⟩ (sX (some ⟨b4,o4,none⟩) (gh+1) y4)).setCell ⟨w.1.size+1,1,none⟩ (sX x5 l5 y5)) (w.1.size+1) #[sX (some ⟨b4,o4,none⟩) (gh+1) y4,sX x5 l5 y5] 30/\Bx ((w2.setCell ⟨w.1.size+1,0,none⟩ (sX (some ⟨b4,o4,none⟩) (gh+1) y4)).setCell ⟨w.1.size+1,1,none⟩ (sX x5 l5 y5)) (w.1.size+1+1) nN 30/\Bl w ((w2.setCell ⟨w.1.size+1,0,none⟩ (sX (some ⟨b4,o4,none⟩) (gh+1) y4)).setCell ⟨w.1.size+1,1,none⟩ (sX x5 l5 y5))):=⟨(V2.o.1.eC sI _).eC sI _,(V2.o.2.1.set 0 _).set 1 _,(V2.o.2.2.1.eC sI _).eC sI _,by have:=V2.o.2.2.2.1;go_grown⟩;exact anU
 ):ρ:=h
def qv(h:ρ:=by
 go_enter func95,ntmps95;go_wp2_with fail;go_ret
 exact kj HR.o (HB.o _)
 ):ρ:=h
def QZ(h:ρ:=by
 rintro e w2 ⟨hb2,u,rfl,o2⟩;obtain⟨p2,q2,rfl⟩:=FO1.o _ _ _ o2;have Bq:Bl w1 w2:=bv hb2;have B2:Bl W w2:=bv Bq B1;refine .inl ⟨_,rfl,SB _ B2,?_⟩;obtain⟨e2,g2,l2⟩:=(R0.o.below B2).all;refine tk 8 (.agg #[sX p0 n0 q0,sX p2 n1 q2]) rfl (SB _ B2) (λ_ _=>kF) ?_;refine ts 9 ((w2.setCell ⟨w.1.size+1,0,none⟩ (sX p0 n0 q0)).setCell ⟨w.1.size+1,1,none⟩ (sX p2 n1 q2)) rfl rfl rfl JQ (SB2 _ B2 _ _) ?_;refine te ?_;go_simp;go_wp2;refine eJ (by simp[results,results60,go_sem,e2];try rfl) rfl ?_;exact kX w1 w2 _ _ (zH o1) (zH o2) (zH Bq) (zH B2) ⟨by first | (simp;done) | (simp;omega),by first | (simp;done) | (simp;omega),B1.size⟩
 ):ρ:=h
def aao(h:ρ:=by
 obtain⟨mf,mc,ms⟩:=m;obtain⟨lf,lc,lr,ls⟩:=L;obtain⟨k0,k1,k2,k3,k4,k5,k6,rn⟩:=sp;have Lx:(i:Int)<(c.length:Int):=by have:=(gQ.1 hs).1;omega
 generalize hn:c.length=n at *;clear hs hn rn;obtain⟨sk,eF,nm,fk,fa,fb,fn⟩:=s;exact ο
 ):ρ:=h
def aan(h:ρ:=by
 have HB:Hid (∀o,Bl w (w.alloc o)):=λo=>(jD _ _).alloc (jR _) _;have KC:Hid (∀o,Cp 221 #[.agg #[I f.k,I f.a,I f.b,.string (Pl.ba f.nm)]] (w.alloc o) λe w'=>e=rT (.bool (rQ f))/\Below (w.alloc o).1.size (w.alloc o) w'):=λo=>ad4 f mb mo cp (w.alloc o) (hm.eG (HB.o o)) hl;have KS:Hid (∀o,Cp 198 #[.agg #[I f.k,I f.a,I f.b,.string (Pl.ba f.nm)]] (w.alloc o) λe w'=>e=rT (.string (Pl.ba (kA f)))/\Below (w.alloc o).1.size (w.alloc o) w'):=λo=>M9 f mb mo cp (w.alloc o) (hm.eG (HB.o o));have KO:Hid (∀o,Cp 197 #[I f.a] (w.alloc o) λe w'=>e=rT (.string (Pl.ba (i_ f.a)))/\Below (w.alloc o).1.size (w.alloc o) w'):=λo=>FD f.a mb mo cp (w.alloc o) (hm.eG (HB.o o));have Ml:Hid (∀w',Bl w w'->Cp 197 #[I f.b] w' λe w2=>e=rT (.string (Pl.ba (i_ f.b)))/\Bl w' w2):=λw' h=>FD f.b mb mo cp w' (hm.eG h);have Ll:=xu (kA f);have hqo:=xu (i_ f.a);have apD:=xu (i_ f.b);have oP:=xu f.nm;have heq:=BI f.k f.a f.b f.k f.a 0 (Pl.ba f.nm) ⟨#[]⟩;rw[<- ah8] at heq;have C:Hid (∀(w1 w':Wd)(j:Nat) (v:Va),Bl w1 w'->w.1.size<w1.1.size->w1.cell? ⟨w.1.size,j,none⟩=some v->w'.cell? ⟨w.1.size,j,none⟩=some v):=λw1 w' j v hb h1 h=>(hb.cell (p:=⟨w.1.size,j,none⟩) h1).trans h;exact ξ
 ):ρ:=h
def aam(h:ρ:=by
 obtain⟨d0,f0,z0⟩:=F1.o.b0.all;obtain⟨d3,f3,z3⟩:=F1.o.b3.all;obtain⟨d4,f4,z4⟩:=F1.o.b4.all;obtain⟨d5,f5,z5⟩:=F1.o.b5.all;clear f0 f3;obtain⟨i0,i1,i2,i3,i4,i5⟩:¬w.1.size=w.1.size+1+1/\¬w.1.size+1+1=w.1.size/\¬w.1.size=w.1.size+1+1+1+1/\¬w.1.size+1+1+1+1=w.1.size/\¬w.1.size=w.1.size+1+1+1+1+1/\¬w.1.size+1+1+1+1+1=w.1.size:=oM;go_region_held3 (λw'=>(w'.cell? ⟨w.1.size,0,none⟩=some (I mf)/\w'.cell? ⟨w.1.size,1,none⟩=some (I mc)/\w'.cell? ⟨w.1.size,2,none⟩=some (I ms)/\w'.cell? ⟨w.1.size,3,none⟩=some (I 0)/\w'.cell? ⟨w.1.size,4,none⟩=some (I 0))/\w'.cell? ⟨w.1.size+1+1+1,0,none⟩=some (sX x2 n2 y2)/\w'.cell? ⟨w.1.size+1+1+1,1,none⟩=some (sX x3 n3 y3)) (go_keep) (first | (go_at_call 24;refine(KK.o _).mono ?_;rintro e wA ⟨rfl,hb⟩;have FA:=zH (F1.o.call (iq hb));obtain⟨e0,g0,l0⟩:=FA.o.b0.all;obtain⟨e3,g3,l3⟩:=FA.o.b3.all;obtain⟨e4,g4,l4⟩:=FA.o.b4.all;obtain⟨e5,g5,l5⟩:=FA.o.b5.all;clear hb))
 all_goals
  clear d0 z0 d3 z3 d4 f4 z4 d5 f5 z5;go_wp2;refine eJ (by simp[results,results75,go_sem,e4,e5];try rfl) rfl ?_;have:=FA.o.bl;exact⟨gG,hm,sI,_,_,_,_,_,_,_,rfl⟩
 ):ρ:=h
def qP(h:ρ:=by
 go_ret
 exact kj HR.o (HB.o _)
 ):ρ:=h
def QF(h:ρ:=by
 go_wp2_with fail;refine(Ay mf mc ms 0 0 ⟨lf,lc,lr,ls⟩ _ hm.f0 hm.f1).k λw1 hb1=>?_;rw[eB (show ¬lf<=mf by omega)];have F1:=zH (F0.o.call hb1);obtain⟨⟨c0,f0,z0⟩,⟨c1,f1,z1⟩,⟨c2,f2,z2⟩,⟨c3,f3,z3⟩,⟨c4,f4,z4⟩,⟨c5,f5,z5⟩,⟨c6,f6,z6⟩⟩:=F1.o.all;clear hb1 F0 k0 k1 k2 k3 k4 k5 k6;go_wp2_with fail;have F2:=zH (F1.o.st (mf+1) mc ms 0 0);clear F1 c0 f0 z0 c1 f1 z1 c2 f2 z2 c3 f3 z3 c4 f4 z4 c5 f5 z5 c6 f6 z6;generalize World.setCell (World.setCell (World.setCell (World.setCell (World.setCell w1 _ _) _ _) _ _) _ _) _ _=W2 at *;exact Qd
 ):ρ:=h
def QE(h:ρ:=by
 go_enter func109,ntmps109;go_wp2_with fail;generalize hW:World.alloc (World.alloc (World.alloc w _) _) _=W0;have V0:=mK hW;clear hW;refine(KA.o _ V0.o.2.2.2.1).l λw1 hb=>?_;have V1:=zH (jA (V0.o.1.below hb) (jA (V0.o.2.1.below hb) (jA (V0.o.2.2.1.below hb) (bv hb V0.o.2.2.2.1))));obtain⟨c1,f1,z1⟩:=V1.o.2.1.all;clear hb V0 f1 KA;go_wp2_with fail;refine(KB.o _ V1.o.2.2.2).l λw2 hb=>?_;have V2:=zH (jA (V1.o.1.below hb) (jA (V1.o.2.1.below hb) (jA (V1.o.2.2.1.below hb) (bv hb V1.o.2.2.2))));clear hb V1 c1 z1 KB;obtain⟨c0,f0,z0⟩:=V2.o.1.all;obtain⟨c1,f1,z1⟩:=V2.o.2.1.all;clear f0 f1;exact Qc
 ):ρ:=h
def IX(h:ρ:=by
 have C:Hid (∀(w1 w':Wd)(j:Nat) (v:Va),Bl w1 w'->w.1.size<w1.1.size->w1.cell? ⟨w.1.size,j,none⟩=some v->w'.cell? ⟨w.1.size,j,none⟩=some v):=λw1 w' j v hb h1 h=>(hb.cell (p:=⟨w.1.size,j,none⟩) h1).trans h;exact II
 ):ρ:=h
def QD(h:ρ:=by
 have pZ:=zH ((HB.o _).trans (hb2.mono sI));clear hb2;go_wp2_with fail;go_ret
 exact kj (HR.o.trans sI) pZ.o
 ):ρ:=h
def QC(h:ρ:=by
 have KA:Hid (∀W,Bl w W->Cp 21 #[.agg #[v0,v1]] W (rC (.bool true) W)):=λW k=>by have:=yQ v0 v1 (h.kp (.of k));rw[ha] at this;exact this
 have KB:Hid (∀W,Bl w W->Cp 21 #[.agg #[v2,v3]] W (rC (.bool true) W)):=λW k=>by have:=yQ v2 v3 (h'.kp (.of k));rw[hb] at this;exact this
 exact Qb
 ):ρ:=h
def aal(h:ρ:=by
 dsimp only;have sB:=hw.bl.size;have Ed:bp<wr.1.size:=oM;replace HK:=zH HK;replace xs:=zH xs;replace xg:=zH xg;replace hq:=λd v c a w=>hq d v c a w;have ks:Hid (∀W,Below w.1.size wr W->W.cell? ⟨bp,op+k * 4,none⟩=some (I s.k)/\W.cell? ⟨bp,op+k * 4+1,none⟩=some (.string (Pl.ba s.nm))/\W.cell? ⟨bp,op+k * 4+2,none⟩=some (sX a1 s.code.length c1)/\W.cell? ⟨bp,op+k * 4+3,none⟩=some (sX a2 s.gs.length c2)):=λW kb=>⟨(kb.cell (p:=⟨bp,_,none⟩) rk).trans hc.1,(kb.cell (p:=⟨bp,_,none⟩) rk).trans hc.2.1,(kb.cell (p:=⟨bp,_,none⟩) rk).trans hc.2.2.1,(kb.cell (p:=⟨bp,_,none⟩) rk).trans hc.2.2.2⟩;have bd:Bl wr wr.drew:=gG;replace hw:=zH hw;refine wp_region_held_drew (S:=λw'=>w'.cell? ⟨bp,op+k * 4,none⟩=some (I s.k)/\w'.cell? ⟨bp,op+k * 4+1,none⟩=some (.string (Pl.ba s.nm))/\w'.cell? ⟨bp,op+k * 4+2,none⟩=some (sX a1 s.code.length c1)/\w'.cell? ⟨bp,op+k * 4+3,none⟩=some (sX a2 s.gs.length c2)) kF (ks.o _ (bd.mono sB)) (λhS=>?_);clear hc;exact ν
 ):ρ:=h
def aak(h:ρ:=by
 have g0:∀o,(w.alloc o).cell? ⟨0,0,none⟩=some (sX (some ⟨mb,mo,none⟩) 25 cp):=λo=>(((jD w.1.size w).alloc (jR _) o).cell (p:=⟨0,0,none⟩) (show 0<w.1.size by omega)).trans h1;have Mo:=zH nO;have HR0:Hid (Below (w.1.size+1) W0 W0):=jD _ _;clear nO;have HC:Hid (∀k m wr,Pl.fX[k]? = some m->Below (w.1.size+1) W0 wr->wr.cell? ⟨mb,mo+k * 5,none⟩=some (.string (Pl.ba m.t))/\wr.cell? ⟨mb,mo+k * 5+1,none⟩=some (I m.ok)/\wr.cell? ⟨mb,mo+k * 5+2,none⟩=some (I m.ow)/\wr.cell? ⟨mb,mo+k * 5+3,none⟩=some (I m.tk)/\wr.cell? ⟨mb,mo+k * 5+4,none⟩=some (I m.tw)):=λk m wr hk hb=>by
  obtain⟨a,b,c,d,e⟩:=HT.o k m hk;have hb':Bl w wr:=tZ.o.trans (hb.mono (DG _));exact⟨(hb'.cell (p:=⟨mb,mo+k * 5,none⟩) h2).trans a,(hb'.cell (p:=⟨mb,mo+k * 5+1,none⟩) h2).trans b,(hb'.cell (p:=⟨mb,mo+k * 5+2,none⟩) h2).trans c,(hb'.cell (p:=⟨mb,mo+k * 5+3,none⟩) h2).trans d,(hb'.cell (p:=⟨mb,mo+k * 5+4,none⟩) h2).trans e⟩
 clear HT h1 h2 h3;exact μ
 ):ρ:=h
def lO(h:ρ:=by
 obtain⟨⟨x0,y0,rfl⟩,x1,y1,rfl⟩:=h.eS;obtain⟨⟨x2,y2,rfl⟩,x3,y3,rfl⟩:=h'.eS;exact lH
 ):ρ:=h
def pq(h:ρ:=by
 go_returns
 exact⟨rfl,rfl⟩
 ):ρ:=h
def aaj(h:ρ:=by
 subst e;have g (b:Nat) (hb:w.1.size+1+1+1<=b) (o:Nat):((w2.setCells b1 o1 l1).setCells b2 o2 l2).cell? ⟨b,o,none⟩=w2.cell? ⟨b,o,none⟩:=by
  rw[zo _ _ _ _ _ (λe _=>by have:b=b2:=e;omega),zo _ _ _ _ _ (λe _=>by have:b=b1:=e;omega)]
 refine⟨X1.o _ _ HX.o (λb hb=>⟨⟨by have:=hb.1;omega,by have:=hb.2.1;rw[vn,vn];omega,λo=>by rw[xE,xE,Ub.o b hb.2.1 o];exact hb.2.2 o⟩,λo=>(g b hb.1 o).trans (M2.o b hb.1 hb.2.1 o)⟩),X2.o _ _ _ HX2.o (λb hb=>⟨⟨by have:=hb.1;omega,by have:=hb.2.1;rw[vn,vn];omega,λo=>by rw[xE,xE];exact hb.2.2 o⟩,λo=>g b (by have:=hb.1;omega) o⟩),Av _ h2 _ _ _ (Av _ h1 _ _ _ B2.o)⟩
 ):ρ:=h
def QB(h:ρ:=by
 have KA:Hid (∀W,Bl w W->Cp 21 #[.agg #[v0,v1]] W (rC (.bool true) W)):=λW k=>by have:=yQ v0 v1 (h.kp (.of k));rw[ha] at this;exact this
 exact Qa
 ):ρ:=h
def sT(h:ρ:=by
 go_wp2_with fail;generalize hW:World.alloc (World.alloc (World.alloc w _) _) _=W0;have V0:=mK hW;clear hW;exact sK
 ):ρ:=h
def uu(h:ρ:=by
 generalize Pl.ba s.nm=nm at *;generalize Pl.ba s.fn.nm=pR,s.fn.k=fk,s.fn.a=fa,s.fn.b=fb at *;exact uj
 ):ρ:=h
def aai(h:ρ:=by
 clear g7 RT5;go_wp2_with fail;refine agN F5.o yB oM ?_;intro _ _ _ wy h1 b4 b5;obtain⟨k4,j4,l4⟩:=b4.all;obtain⟨k5,j5,l5⟩:=b5.all;clear d7 z7;go_wp2;refine eJ (by simp[results,results75,go_sem,k4,k5];try rfl) rfl ?_;rw[eN.o];exact⟨h1,fY,sI,_,_,_,_,_,_,_,rfl⟩
 ):ρ:=h
def QA(h:ρ:=by
 obtain⟨c3,f3,l3⟩:=S2.o.all;go_wp2;refine eJ (by simp[results,results6,go_sem,c3];try rfl) rfl ?_;have sz:=HB.o.size;have kb:=HB.o;have e0:o=⟨0,0,([],[]),0,0⟩:=by rw[HO.o];simp[Pl.oc, *]
 subst e0;exact⟨⟨sI,sI⟩,gG,nJ,nJ,rfl,Oi.nil _,Oi.nil _,λb e=>by cases e⟩
 ):ρ:=h
def Qz(h:ρ:=by
 obtain⟨c3,f3,l3⟩:=HS.o.2.2.2.all;go_wp2;refine eJ (by simp[results,results10,go_sem,c3];try rfl) rfl ?_;have sz:=HB.o.size;have kb:=HB.o;have e0:o=⟨0,0,([],[]),0,0⟩:=by rw[HO.o];simp[Pl.oc,hb1]
 subst e0;exact⟨gG,nJ,nJ,rfl,Oi.nil _,Oi.nil _,λb e=>by cases e⟩
 ):ρ:=h
def pk(h:ρ:=by
 exact SP.err gG
 ):ρ:=h
def aah(h:ρ:=by
 go_enter func72,ntmps72;go_wp2_with (first | (go_at_call 100;refine(K.o _).mono ?_;rintro e w' ⟨rfl,rfl⟩) | (go_at_call 99;refine(K2.o _).mono ?_;rintro e w' ⟨rfl,rfl⟩))
 go_ret
 exact⟨jq HR.o.symm,HB.o _⟩
 ):ρ:=h
def DT(h:ρ:=by
 generalize a.1.length=p0,a.2.length=p1,b.1.length=p2,b.2.length=p3 at *;exact DM
 ):ρ:=h
def uq(h:ρ:=by
 have HB:Hid (∀o,Bl w (w.alloc o)):=λo=>(jD _ _).alloc (jR _) _;exact ui
 ):ρ:=h
def aag(h:ρ:=by
 obtain⟨z,hz⟩:=gF HN.o eI;obtain⟨b,o,rfl,hb,hc⟩:=H.o.at hz;have HS:=zH (Pl.Db Pl.jc hz);have HX:Hid (Pl.jc z=false->r=false):=λhf=>by rw[<- HF.o];simp[Pl.fy,Pl.gV,Pl.Du hz hf]
 by_cases me:z<0
 ·go_wp2
  go_returns
  exact⟨iD (HX.o (by simp[Pl.jc];omega)).symm,rfl⟩
 ·by_cases Ei:1000<z
  ·go_wp2
   go_returns
   exact⟨iD (HX.o (by simp[Pl.jc];omega)).symm,rfl⟩
  go_wp2;go_round
  case rel=>exact⟨k+1,by omega,by go_num,by show _=_;rw[HS.o,hA.o];simp[Pl.jc];omega⟩
  simp[intOf];omega
 ):ρ:=h
def aaf(h:ρ:=by
 obtain⟨g,_,bm,u0,u1,rfl,ro⟩:=h;obtain⟨⟨p0,q0,rfl⟩,p1,q1,rfl⟩:=ro.1.eS;have k1:Bx w1 w.1.size _ 118:=b1.o.eX (g.block _ b1.o.lt J2);have k2:Bx w1 (w.1.size+1) _ 30:=b2.o.eX (g.block _ b2.o.lt J2);have kS:∀{q:Nat} {v:Va},w.cell? ⟨S,q,none⟩=some v->w1.cell? ⟨S,q,none⟩=some v:=λ{q v} h=>(zy (w:=W.drew) (a:=⟨S,q,none⟩) (g.block S (jL lS BW.o.size) (by simpa using nS))).trans (BC.o h);obtain⟨e1,g1,l1⟩:=k1.all;obtain⟨e2,g2,l2⟩:=k2.all;have l3:=b2.o.lt;have l4:S<w1.1.size:=jL lS (jT BW.o.size g.size);have n1:¬S=w.1.size+1:=oM;exact κ
 ):ρ:=h
def Qy(h:ρ:=by
 go_enter func236,ntmps236;go_wp2_with fail;generalize hW:World.alloc (World.alloc w _) _=W0;have V0:=jU hW;clear hW;refine(SA.o W0 V0.o.2.2.1).k λw1 we=>?_;have V1:=zH (jA (V0.o.2.1.below we) (bv we V0.o.2.2.1));obtain⟨c1,f1,z1⟩:=(V0.o.1.below we).all;have jS:=(V1.o.2.cell (p:=⟨b,o,none⟩) hb).trans hc;clear we V0 f1;exact P_
 ):ρ:=h
def Qx(h:ρ:=by
 clear hh;go_quiet (exact Ik (KC.o _))
 go_wp2_with fail;go_roundw
 case rel=>exact⟨h+1,j,oM,oM,Ex,gN,rfl,Up,HG,(RR.o.drewN _),(GG.o.trans (Gr.below (gx (jD _ _) _)))⟩
 case measure=>simp[intOf];omega
 ):ρ:=h
def pj(h:ρ:=by
 go_wp2_with fail;generalize hW:World.alloc (World.alloc w _) _=W0;have V0:=jU hW;clear hW;exact pe
 ):ρ:=h
def Qw(h:ρ:=by
 clear hh;go_quiet (exact Ik (KC.o _))
 go_wp2_with fail;go_roundw
 case rel=>exact⟨i,h,yg,hih,oM,rfl,gN,HL,Ur,(RR.o.drewN _),(GG.o.trans (Gr.below (gx (jD _ _) _)))⟩
 case measure=>simp[intOf];omega
 ):ρ:=h
def IW(h:ρ:=by
 go_enter func172,ntmps172;go_wp2_with (go_at_call 191;refine(KN.o _).mono ?_;rintro e w2 ⟨rfl,rfl⟩)
 go_ret
 exact kj (HR.o.trans sI) (HB.o _)
 ):ρ:=h
def aae(h:ρ:=by
 have B1:=zH ((HB.o _ _).trans (hb1.mono J2));clear hb1;go_wp2_with fail;refine(K2.o _ B1.o).k λw2 hb2=>?_;have B2:=zH (B1.o.trans (hb2.mono B1.o.size));clear hb2;go_wp2_with fail;go_ret
 exact⟨rfl,B2.o⟩
 ):ρ:=h
def Qv(h:ρ:=by
 refine tk 0 (.pointer (some ⟨f,0,none⟩)) rfl hS (λ_ _=>kF) ?_;refine tk 1 (.pointer (some ⟨f,0,none⟩)) rfl hS (λ_ _=>kF) ?_;refine tk 2 (.pointer (some ⟨f,0,none⟩)) rfl hS (λ_ _=>kF) ?_;refine tk 3 (.pointer (some ⟨M,0,none⟩)) rfl hS (λw h=>by obtain⟨h0,h1⟩:=h;go_simp) ?_;exact P9
 ):ρ:=h
def Qu(h:ρ:=by
 obtain rfl:k=L:=oM;have HR:=zH (show r=q by
  have:=hq.o;rw[HE.o] at this;rw[HV.o,eB oM];omega)
 clear HG HO HE HZ;go_wp2;go_ret
 exact⟨by rw[HR.o];rfl,BB.o⟩
 ):ρ:=h
def aad(h:ρ:=by
 rcases R1 with rfl|⟨b1,o1,h1,rfl,gE⟩
 ·cases hk
 rcases R2 with rfl|⟨b2,o2,h2,rfl,jC⟩
 ·cases hk
 ·obtain⟨ax,ex,cx,dx,g1⟩:=gE k c[k] (fw hk)
  obtain⟨ay,ey,cy,dy,g2⟩:=jC k c[k] (fw hk);exact⟨c[k],b1,o1,b2,o2,lh hk,rfl,h1,rfl,h2,⟨ax,ex,cx,dx,λw' hw=>g1.eG h1 hw⟩,⟨ay,ey,cy,dy,λw' hw=>g2.eG h2 hw⟩⟩
 ):ρ:=h
def DS(h:ρ:=by
 go_wp2_with (go_at_call 229;refine(kY _ _).mono ?_;rintro e w' ⟨rfl,rfl⟩)
 exact⟨rfl,rfl,rfl⟩
 ):ρ:=h
def Qt(h:ρ:=by
 refine ag1 oM hj F0.o HS.o IH.o ?_;intro _ _ _ _ _ _ _ _ _ _ _ _ a0 n0 e0 a1 n1 e1 f5 c5 s5 k5 x5 w1 hp;go_wp2_with fail;go_meet
 case rel=>exact⟨_,_,_,_,_,_,_,_,_,_,_,w1,hp,rfl⟩
 ):ρ:=h
def aac(h:ρ:=by
 rw[af8];by_cases h:s.data.toList=[]
 ·simp[h,wk]
 cases hL:qy (s.data.toList.headD 0)
 ·unfold wk;simp only[hL];simp
 rw[alj s h hL];unfold wk;rw[eB h,hL,show (λc=>qy c || Ef c)=al from rfl]
 cases ha:s.data.toList.all al <;> (by_cases h20:20<s.data.toList.length <;> simp only[h20,kI,oJ] <;> try simp)
 all_goals (split <;> try split) <;> simp_all
 ):ρ:=h
def aab(h:ρ:=by
 go_enter func114,ntmps114;go_wp2_with (first | (go_at_call 147;refine(K.o _).mono ?_;rintro e w' ⟨rfl,rfl⟩) | (go_at_call 148;refine(K2.o _).mono ?_;rintro e w' ⟨rfl,rfl⟩) | (go_at_call 149;refine(K3.o _).mono ?_;rintro e w' ⟨rfl,rfl⟩) | (go_at_call 150;refine K4.o.mono ?_;rintro e w' ⟨rfl,hb⟩))
 go_ret
 exact⟨jq HR.o.symm,hb⟩
 ):ρ:=h
def xz(h:ρ:=by
 go_ret
 exact⟨jq HR.o.symm,jD _ _⟩
 ):ρ:=h
def IV(h:ρ:=by
 have jS:∀t,t<n->wr.cell? ⟨g,off+t,none⟩=some (I (G t)):=λt ht=>(RR.o.2 t ht).1;have hfw:∀t,t<n->wr.frozen? ⟨g,off+t,none⟩=false:=λt ht=>(RR.o.2 t ht).2;exact IG
 ):ρ:=h
def aaa(h:ρ:=by
 rintro e w' ⟨rfl,hor⟩
 cases r with
 |error c =>
  obtain rfl:=hor;exact .inr ⟨_,rfl,rfl,(show Bl w _ from by go_grown),rfl⟩
 |ok v =>
  obtain rfl:=hor;refine .inl ⟨_,rfl,hS,?_⟩;refine tk 8 (I v) rfl hS (λw h=>kF) ?_;refine te ?_;go_simp;go_wp2;go_returns
  exact⟨gG,rfl⟩
 ):ρ:=h
def Ω(h:ρ:=by
 rcases hR with rfl|⟨b,off,hb,rfl,hc⟩
 ·cases hk
 ·obtain⟨a1,a2,c1,c2,h⟩:=hc k c[k] (fw hk)
  exact⟨c[k],b,off,fw hk,lh hk,rfl,hb,⟨a1,a2,c1,c2,λw' hw=>h.eG hb hw⟩,CY _ (fw hk),C3 _ _ _⟩
 ):ρ:=h
def Qs(h:ρ:=by
 intro i m0 hi hn P w u own eO b o m hP h hb cd hm;have hs:=fw hi;generalize c[i]=s' at hs;have fF:Pl.fj s'=true:=ga.1 hc.1 s' (my hs);obtain⟨an,cn,sp⟩:=cd i s' hs;rw[Df c i s' hs] at hn;exact P8
 ):ρ:=h
def vD(h:ρ:=by
 go_wp2;go_returns
 exact⟨rfl,gG⟩
 ):ρ:=h
def Ψ(h:ρ:=by
 go_roundw
 case rel=>exact⟨k+1,_,oM,gN,rfl,oM,oM,HQ,BB.o.trans (hb2.mono BB.o.size)⟩
 case measure=>simp[intOf];omega
 ):ρ:=h
def IU(h:ρ:=by
 exact⟨λ⟨a,b,c,d⟩=>⟨⟨⟨a,b⟩,c⟩,d⟩,λ⟨⟨⟨a,b⟩,c⟩,d⟩=>⟨a,b,c,d⟩⟩
 ):ρ:=h
def Qr(h:ρ:=by
 rw[E.o];go_enter func276,ntmps276;go_wp2_with (go_at_call 297;refine(ahI _ _).mono ?_;rintro e w ⟨rfl,rfl⟩)
 go_ret
 exact⟨rfl,rfl⟩
 ):ρ:=h
def Χ(h:ρ:=by
 go_wp2_with fail;clear t0 t1 t2 t3 d0 z0 d1 z1;generalize wr.alloc _=W at *;have bd:Bl W W.drew:=gG;have sW:=B1.o.size;have lW:w.1.size+1<W.1.size:=R1.o.lt;have lZ:=KZ.o.lt;obtain⟨df,ff,zf⟩:=F1.o.b0.all;obtain⟨db,fb,zb⟩:=F1.o.b1.all;obtain⟨dz,fz,zz⟩:=KZ.o.all;exact ι
 ):ρ:=h
def Φ(h:ρ:=by
 have d0:w2.cell? ⟨b,0,none⟩=some (.pointer (some ⟨b,0,none⟩)):=by rw[Bo hb2];rfl
 have d1:w2.cell? ⟨b,1,none⟩=some v:=by rw[Bo hb2];rfl
 have f1:w2.frozen? ⟨b,1,none⟩=false:=Lib.frozen_of_heap hb2 1;obtain⟨ao,n',cap,rfl⟩:∃ao n' cap,v'=sX ao n' cap:=by
  rcases IM.2 with ⟨hv,_⟩|⟨g,cap,cur,fz,hv,_⟩
  ·exact⟨_,_,_,hv⟩
  exact⟨_,_,_,hv⟩
 go_wp2;exact θ
 ):ρ:=h
def Qq(h:ρ:=by
 have jn:j=n:=oM;subst jn;go_wp2_with fail;go_ret
 have rm:q=m+Rg:=by rw[hq.o,TE.o j rfl]
 exact⟨by rw[rm];rfl,hK.o⟩
 ):ρ:=h
def Υ(h:ρ:=by
 go_wp2_with (first | (go_at_call 98;refine(K.o _).mono ?_;rintro e w' ⟨rfl,rfl⟩) | (go_at_call 70;refine(K2.o _).mono ?_;rintro e w' ⟨rfl,rfl⟩))
 go_round
 case rel=>exact⟨k+1,by omega,by go_num,by show _=_;rw[<- eL.o,Y.o HX.o]⟩
 case measure=>simp[intOf];omega
 ):ρ:=h
def Τ(h:ρ:=by
 rw[this,gy];have e:madeCells (Value.int .i64 0).cells ((n:Int).toNat * 1)=Zr [] n:=by
  apply Array.ext
  ·rw[size_madeCells,GU sI];simp
  intro i h1 h2;rw[GU sI] at h2;simp[madeCells,Zr,Value.cells,Nat.mod_one]
 rw[e];simp
 ):ρ:=h
def Qp(h:ρ:=by
 obtain⟨ok,a1,c1,a2,c2,e0,e1,e2,e3,r1,r2⟩:=h3 i f hf;exact⟨ok,a1,c1,a2,c2,e0,e1,e2,e3,r1.eG kb,r2.eG kb⟩
 ):ρ:=h
def IT(h:ρ:=by
 go_wp2;go_returns
 exact⟨gx ((jD _ _).alloc (jR _) _) _,rfl⟩
 ):ρ:=h
def Ρ(h:ρ:=by
 rcases hR with rfl|⟨b,off,hb,rfl,hc⟩
 ·cases hk
 ·obtain⟨a1,a2,c1,c2,h⟩:=hc k c[k] (fw hk)
  exact⟨c[k],b,off,fw hk,lh hk,rfl,hb,a1,a2,c1,c2,λw' hw=>h.eG hb hw⟩
 ):ρ:=h
def Ο(h:ρ:=by
 go_wp2_with fail;refine K.o.mono ?_;rintro e w4 ⟨x4,m4,y4,rfl,nI,T4,B4,Q4⟩;have R4:=zH (jA T4 (jA (RR.o.1.trans B4) (RR.o.2.trans Q4)));clear T4 B4 Q4 RR K;go_wp2_with fail;go_ret
 exact⟨_,_,_,rfl,oM,R4.o⟩
 ):ρ:=h
def Ξ(h:ρ:=by
 go_enter func46,ntmps46;go_wp2_with (first | (go_at_call 70;refine(K.o _).mono ?_;rintro e w' ⟨rfl,rfl⟩) | (go_at_call 71;refine(K2.o _).mono ?_;rintro e w' ⟨rfl,rfl⟩))
 go_ret
 exact⟨iD HR.o.symm,jD _ _⟩
 ):ρ:=h
def Ν(h:ρ:=by
 clear eL fK;go_wp2_with fail;exact HX.o k G vo ⟨mf,mc,ms⟩ s5 kk xx ns vs fs x0 x1 p0 q0 p1 q1 wr _ _ _ _ _ _ _ _ _ _ _ _ _ _ _ _ _ _ _ _ _ _ _ _ _ _ _ _ _ _ _ _ _ _ _ _ _ _ _ _ _ _ _ _ _ _ _ _ _ _ _ _ _ _ _ _ _ _ _ _ _ _ _ hk aoO.o hl.o hw.o
 ):ρ:=h
def Μ(h:ρ:=by
 generalize iZ c i=y,iZ c (i+1)=z at *;go_enter func67,ntmps67;go_wp2_with fail;refine K.o.mono ?_;rintro e w' ⟨rfl,rfl⟩;go_wp2_with fail;go_ret
 exact⟨jq E.o.symm,rfl⟩
 ):ρ:=h
def Λ(h:ρ:=by
 go_enter func178,ntmps178;go_wp2_with (first | (go_at_call 147;refine(K.o _).mono ?_;rintro e w' ⟨rfl,rfl⟩) | (go_at_call 199;refine(K2.o _).mono ?_;rintro e w' ⟨rfl,rfl⟩))
 go_ret
 exact⟨iD sI,rfl⟩
 ):ρ:=h
def Qo(h:ρ:=by
 go_ret
 exact kj (HR.o.trans sI) ((HB.o _).trans (hb2.mono sI))
 ):ρ:=h
def Qn(h:ρ:=by
 go_wp2_with fail;go_meet
 case rel=>exact⟨lQ Value.bool (fH (λh=>jC h.2)).symm,rfl⟩
 ):ρ:=h
def Κ(h:ρ:=by
 rcases h with h|h
 ·have:=hP b h;omega
 ·omega
 ):ρ:=h
def Qm(h:ρ:=by
 go_wp2_with fail;go_meet
 case rel=>exact⟨lQ Value.bool (fH (λh=>gE h.1)).symm,rfl⟩
 ):ρ:=h
def Ql(h:ρ:=by
 go_wp2_with fail;go_meet
 case rel=>exact⟨lQ Value.bool (fM ⟨gE,jC⟩).symm,rfl⟩
 ):ρ:=h
def Ι(h:ρ:=by
 generalize Pl.sb 1048576 (wP p)=r,p.length=n,a.1.length=n0,a.2.length=n1 at *;go_enter func3,ntmps3;go_wp2_with fail;generalize hW:World.alloc (World.alloc w _) _=W0;have V:=jU hW;clear hW;refine(K0.o W0 V.o.2.2.1).k λw1 hb=>?_;have B:=zH (bv hb V.o.2.2.1);exact η
 ):ρ:=h
def Bs(h:ρ:=by
 unfold fE;rw[eB oM,eB oM]
 ):ρ:=h
def IS(h:ρ:=by
 by_cases h:p<x
 ·have:=Di u7.o hx h;omega
 ·omega
 ):ρ:=h
def Θ(h:ρ:=by
 obtain⟨w1,s1,o1,t1⟩:=(Om.new prog 9 w).store underlying9 underlying102 dC [119] dC (.agg #[sX x0 a.1.length y0,sX x1 a.2.length y1]);have g1:(Instr.mapUpdate 102 (.map (some w.1.size)) (.string ⟨#[119]⟩) (.agg #[sX x0 a.1.length y0,sX x1 a.2.length y1])).run prog (w.alloc (.map #[] 0))=.ok () w1:=s1;exact ζ
 ):ρ:=h
def Η(h:ρ:=by
 refine tk 0 (sX ao n cap) rfl hS (λ_ _=>kF) ?_;refine tk 2 _ rfl hS (λ_ h=>fh _ _ rfl kF (aaL h.1)) ?_;refine tk 4 _ rfl hS (λ_ h=>fh _ _ rfl kF (aaK h.2)) ?_;clear hS;exact ε
 ):ρ:=h
def Qk(h:ρ:=by
 go_wp2_with (go_at_call 59;refine(KY.o _).mono ?_;rintro e w' ⟨rfl,rfl⟩)
 exact⟨rfl,gG,rfl⟩
 ):ρ:=h
def Qj(h:ρ:=by
 rw[qW iT];rw[fw iT] at iF;injection iF with iF;rw[iF]
 ):ρ:=h
def Ζ(h:ρ:=by
 go_enter func5,ntmps5;go_wp2_with (go_at_call 19;(first | with_reducible refine(K0.o _).mono ?_ | with_reducible refine(K2.o _).mono ?_);rintro e w' ⟨rfl,rfl⟩)
 go_ret
 exact⟨rfl,gG⟩
 ):ρ:=h
def Ε(h:ρ:=by
 rw[oH,yZ];rcases qR.1 hs with rfl|h
 ·omega
 ·have:=ih h;omega
 ):ρ:=h
def Δ(h:ρ:=by
 go_wp2
 all_goals
  go_returns
  refine⟨gG,?_⟩;rw[HB.o];clear HB
  first | (simp[mA, *];done) | (simp[mA] at *;omega) | (simp at *;simp[mA, *];done) | (simp at *;simp[mA, *];omega)
 ):ρ:=h
def IQ(h:ρ:=by
 go_wp2;go_returns
 exact⟨gG,rfl⟩
 ):ρ:=h
def Γ(h:ρ:=by
 rw[show (acc++[y]).length=acc.length+1 by simp] at R9 B9;go_wp2_with fail;go_roundw
 case rel=>exact⟨k+1,_,_,gN,oM,j_,B9,R9⟩
 case measure=>simp[intOf];omega
 ):ρ:=h
def Β(h:ρ:=by
 rcases h with h|⟨b,off,hB,rfl,hc⟩
 ·exact .inl h
 ·refine .inr ⟨b,off,oM,rfl,λi x hi=>?_⟩
  obtain⟨a1,a2,c1,c2,h⟩:=hc i x hi;exact⟨a1,a2,c1,c2,h.up hb⟩
 ):ρ:=h
def Α(h:ρ:=by
 clear Fj Fw Ft wQ Fs K Ug BR;go_wp2_with fail;go_roundw
 case rel=>exact⟨k+1,_,oM,gN,rfl,⟨oB,rm⟩,HV2,p9⟩
 case measure=>simp[intOf];omega
 ):ρ:=h
def ω(h:ρ:=by
 rcases h with h|⟨b,off,hB,rfl,hc⟩
 ·exact .inl h
 ·refine .inr ⟨b,off,hB,rfl,λi x hi=>?_⟩
  obtain⟨a1,a2,c1,c2,h⟩:=hc i x hi;exact⟨a1,a2,c1,c2,h.eG hB hb⟩
 ):ρ:=h
def Qi(h:ρ:=by
 go_ret
 exact kj HR.o ((HB.o _).trans (hb.mono sI))
 ):ρ:=h
def ψ(h:ρ:=by
 have HA:Hid (r=true):=by
  show _=_;rw[HO.o,<- hA.o,mR JH]
 go_wp2;go_returns
 exact⟨hB.o,iD HA.o.symm⟩
 ):ρ:=h
def uo(h:ρ:=by
 show ¬(6:Int)=0;decide
 ):ρ:=h
def ze(h:ρ:=by
 obtain⟨c,f,z⟩:=h.all;go_simp
 ):ρ:=h
def χ(h:ρ:=by
 have hk:k=1\/k=2\/k=3\/k=4\/k=5\/k=6\/k=7:=oM;rcases hk with rfl|rfl|rfl|rfl|rfl|rfl|rfl <;> (show _=_;kernel_rfl)
 ):ρ:=h
def IP(h:ρ:=by
 injection h with h;subst h;exact rN oM oM
 ):ρ:=h
def anQ(h:ρ:=by
 have:=Nr x HV.o 2 oM oM W;rw[show Pl.one (2:Nat) x=.ok (max x (-x)) from rfl,show max x (-x)=(k:Int) by omega] at this;exact this
 ):ρ:=h
def Qh(h:ρ:=by
 rw[<- HR.o];exact fH λe=>qz (by rw[<- HN.o,<- HM.o,e])
 ):ρ:=h
def ZI(h:ρ:=by
 refine Bm hg λK tS=>?_;unfold Oper.wp;simp[execOp,gO,resolve,invoke,builtin,hs,hx,hr,Result.andThen]
 exact tS _ _ (hK v' w' ho fR ha)
 ):ρ:=h
def ZH(h:ρ:=by
 intro x hx;rw[pB,hk] at hx;rcases zq.1 hx with h|h
 ·exact hb x h
 ·have:x=m:=by simpa using h
  rw[this];exact hm
 ):ρ:=h
def ZG(h:ρ:=by
 have:=ahW ho.1 ho.2 (Gu (lU h) m.toNat (i / eQ row)) (Oe (lU h') (eQ row) m.toNat (i % eQ row)) (ya _);rw[hz] at this;exact this
 ):ρ:=h
def ZF(h:ρ:=by
 clear h hm;go_enter func150,ntmps150;go_wp2_with (go_at_call 179;refine K.o.mono ?_;rintro e w' ⟨rfl,hb⟩)
 go_ret
 exact⟨rfl,hb⟩
 ):ρ:=h
def ZE(h:ρ:=by
 clear R K hx hy hI I2 hb2 hle;go_wp2_with fail;go_roundw
 case rel=>exact⟨k+1,oM,gN,R2⟩
 case measure=>simp[intOf];omega
 ):ρ:=h
def ZD(h:ρ:=by
 have:=(vM k fX).symm;rw[qW eI] at this;rw[(gQ.1 hk).2] at this;exact this
 ):ρ:=h
def xp(h:ρ:=by
 show ¬(9:Int)=0;decide
 ):ρ:=h
def xn(h:ρ:=by
 show ¬(2:Int)=0;decide
 ):ρ:=h
def ZC(h:ρ:=by
 obtain rfl|rfl|rfl|rfl|rfl|rfl|rfl:a=1\/a=2\/a=3\/a=4\/a=5\/a=6\/a=7:=oM
 all_goals exact Tx
 ):ρ:=h
def ZB(h:ρ:=by
 refine eJ (by simp[results,results117,go_sem];try rfl) rfl ?_;exact⟨gG,_,_,rfl,R.o.kp (.of gG)⟩
 ):ρ:=h
def ZA(h:ρ:=by
 go_wp2_with (go_at_call 59;refine(KN.o _ _).mono ?_;rintro e w' ⟨rfl,rfl⟩)
 go_returns
 exact⟨HG.o,HM.o,BM.o,hE.symm⟩
 ):ρ:=h
def Zz(h:ρ:=by
 funext t
 unfold fE lv;simp only[e1,e2,e3,e4,e5,e6];repeat' split
 all_goals first | rfl | (congr 1;omega) | (exfalso;omega)
 ):ρ:=h
def Zy(h:ρ:=by
 obtain⟨hb,u0,u1,rfl,ra⟩:=h;obtain⟨⟨x,y,rfl⟩,x',y',rfl⟩:=ra.eS;exact⟨_,_,_,_,_,_,rfl,ra,hb⟩
 ):ρ:=h
def Po(h:ρ:=by
 clear h;have HN:Hid (∀b,w.1.size<=b->b<w.1.size+7->¬(P b\/w.1.size+7<=b)):=λb h1 h2 h=>by
  exact Κ
 have F0:=zH (Fe.new (w:=w) (fA mf mc ms 0 0) (uC ⟨lf,lc,lr,ls⟩ u) (tE ⟨4,[],nm,⟨fk,fa,fb,fn⟩⟩ an cn) nN nN);go_enter func49,ntmps49;go_upto_region 7 with fail
 have j8:w.1.size+7<=(((((((w.alloc (.cells (fA mf mc ms 0 0) 64)).alloc (.cells (uC ⟨lf,lc,lr,ls⟩ u) 62)).alloc (.cells nN 30)).alloc (.cells (fA 0 0 0 0 0) 64)).alloc (.cells (tE ⟨4,[],nm,⟨fk,fa,fb,fn⟩⟩ an cn) 118)).alloc (.cells nN 30)).alloc (.cells nN 30)).1.size:=sI;have Bl:=zH F0.o.bl;clear k0 k1 k2 k3 k4 k5 k6;generalize World.alloc (World.alloc (World.alloc (World.alloc (World.alloc (World.alloc (World.alloc w _) _) _) _) _) _) _=W0 at *;obtain⟨⟨d0,f0,z0⟩,⟨d1,f1,z1⟩,⟨d2,f2,z2⟩,⟨d3,f3,z3⟩,⟨d4,f4,z4⟩,⟨d5,f5,z5⟩,⟨d6,f6,z6⟩⟩:=F0.o.all;clear d0 f0 z0 d1 f1 z1 d5 f5 z5 d2 f2 z2 d3 f3 z3 d6 f6 d4 f4 z4;exact Ow
 ):ρ:=h
def Ht(h:ρ:=by
 obtain⟨x4,l4,y4,x5,l5,y5,rfl,gP,fZ⟩:=hK.open;have T:=S9.o _ (bv fZ K3);have sz:=K3.size;have nz:¬pa=w.1.size/\¬po=w.1.size:=by have:=HB.o.1.lt;have:=HB.o.2.lt;omega
 have kX:=zH (KP.pass (w:=w) (w0:=W3) gP.o T.2.2.1 (jR _) (by have:=(S9.o _ K3).2.2.2.1.lt;omega) (sX x4 l4 y4) (sX x5 l5 y5));refine .inl ⟨_,rfl,⟨T.1,T.2.1⟩,?_⟩;refine ts 4 _ rfl rfl rfl (jf (.pointer (some ⟨w.1.size,0,none⟩)) (.agg #[sX x4 l4 y4,sX x5 l5 y5]) rfl kF kF (mU T.2.2.2.1)) ⟨(T.1.eC (by simpa using nz.1) _).eC (by simpa using nz.1) _,(T.2.1.eC (by simpa using nz.2) _).eC (by simpa using nz.2) _⟩ ?_;refine te ?_;obtain⟨c5,f5,z5⟩:=T.2.2.2.1.all;clear T fZ hb K3 HK gP hK;go_simp;go_wp2_with fail;exact GS
 ):ρ:=h
def Hq(h:ρ:=by
 refine tk 2 (I (sz:Int)) rfl hS (λ_ _=>by rw[<- pL];go_simp;first | rfl | (rw[lj];omega)) ?_;refine tk 4 (.pointer (some ⟨w.1.size+1,0,none⟩)) rfl hS (λ_ _=>kF) ?_;refine tk 5 _ rfl hS (λ_ h=>fh _ _ rfl kF (kC h)) ?_;refine tk 6 (sX xl gh yl) rfl hS (λW _=>ie rfl kF kF (CL.o W)) ?_;refine tk 9 (.pointer (some ⟨w.1.size+1,1,none⟩)) rfl hS (λ_ _=>kF) ?_;refine tk 10 _ rfl hS (λ_ h=>fh _ _ rfl kF (jY h)) ?_;refine tk 11 (I (s:Int)) rfl hS (λ_ _=>kF) ?_;exact GQ
 ):ρ:=h
def Pn(h:ρ:=by
 obtain⟨x4,l4,y4,x5,l5,y5,rfl,gP,fZ⟩:=hK.open;have T:=S9.o _ (bv fZ K3);have nz:¬pa=w.1.size/\¬pb=w.1.size/\¬po=w.1.size:=by have:=HB.o.1.lt;have:=HB.o.2.1.lt;have:=HB.o.2.2.lt;omega
 have kX:=zH (KP.pass (w:=w) (w0:=W3) gP.o T.2.1 (jR _) (by have:=(S9.o _ K3).2.2.1.lt;omega) (sX x4 l4 y4) (sX x5 l5 y5));refine .inl ⟨_,rfl,T.1,?_⟩;refine ts 5 _ rfl rfl rfl (jf (.pointer (some ⟨w.1.size,0,none⟩)) (.agg #[sX x4 l4 y4,sX x5 l5 y5]) rfl kF kF (mU T.2.2.1)) ⟨(T.1.1.eC (by simpa using nz.1) _).eC (by simpa using nz.1) _,(T.1.2.1.eC (by simpa using nz.2.1) _).eC (by simpa using nz.2.1) _,(T.1.2.2.eC (by simpa using nz.2.2) _).eC (by simpa using nz.2.2) _⟩ ?_;refine te ?_;obtain⟨c5,f5,z5⟩:=T.2.2.1.all;clear T fZ hb K3 HK gP hK;go_simp;go_wp2_with fail;exact Ov
 ):ρ:=h
def Pm(h:ρ:=by
 have F4:=zH (F3.o.st (f'+1) c' s' 0 0);have pX:Hid (RO K (λb=>P b\/w.1.size+7<=b) (((((w3.setCell ⟨w.1.size,0,none⟩ (I (f'+1))).setCell ⟨w.1.size,1,none⟩ (I c')).setCell ⟨w.1.size,2,none⟩ (I s')).setCell ⟨w.1.size,3,none⟩ (I 0)).setCell ⟨w.1.size,4,none⟩ (I 0)) (sX x0 a.1.length y0) (sX x1 a.2.length y1) a):=oY.o.kp (by
  repeat' (first | with_reducible exact Kp.refl _ _ | with_reducible refine Kp.set ?_ ?_ _ | exact HN.o _ J6 J6))
 exact Ot
 ):ρ:=h
def Zx(h:ρ:=by
 rw[eD hf];replace HR:Hid (r=(.error (3,0),⟨f',c',s'⟩)):=HR.o.trans (eD hf);obtain⟨⟨d0,f0,z0⟩,⟨d1,f1,z1⟩,⟨d2,f2,z2⟩,⟨d3,f3,z3⟩,⟨d4,f4,z4⟩,⟨d5,f5,z5⟩,⟨d6,f6,z6⟩⟩:=F3.o.all;clear d1 f1 z1 d2 f2 z2 d3 f3 z3 d4 f4 z4 d6 f6 z6 HC;go_wp2_with fail;have F4:=zH (F3.o.st f' c' s' 3 0);clear F3 d0 f0 z0 d5 f5 z5;generalize World.setCell (World.setCell (World.setCell (World.setCell (World.setCell w3 _ _) _ _) _ _) _ _) _ _=W4 at *;obtain⟨⟨d0,f0,z0⟩,⟨d1,f1,z1⟩,⟨d2,f2,z2⟩,⟨d3,f3,z3⟩,⟨d4,f4,z4⟩,⟨d5,f5,z5⟩,⟨d6,f6,z6⟩⟩:=F4.o.all;clear d1 f1 z1 d4 f4 z4 d6 f6 z6;go_region
 all_goals
  clear d0 f0 z0 f2 z2 f3 z3 d5 f5 z5;go_wp2;refine eJ J9 rfl ?_;have:=F4.o.bl;rw[HR.o];exact⟨gG,fY,sI,_,_,_,_,_,_,_,rfl⟩
 ):ρ:=h
def Zw(h:ρ:=by
 obtain⟨mf,mc,ms⟩:=m;obtain⟨lf,lc,lr,ls⟩:=L;obtain⟨k0,k1,k2,k3,k4,k5,k6,rn⟩:=sp;have Lx:(i:Int)<(c.length:Int):=by have:=(gQ.1 hs).1;omega
 generalize hn:c.length=n at *;clear hs hn rn;obtain⟨sk,eF,nm,fk,fa,fb,fn⟩:=s;exact Yp
 ):ρ:=h
def Zv(h:ρ:=by
 go_wp2_with fail;refine(KO.o _).k λw2 hb2=>?_;have d0:=C.o _ _ 0 _ hb2 sI J3;have d1:=C.o _ _ 1 _ hb2 sI J3;have d2:=C.o _ _ 2 _ hb2 sI J3;have d3:=C.o _ _ 3 _ hb2 sI J3;have pZ:=zH ((HB.o _).trans (hb2.mono sI));clear hb2;go_wp2_with fail;go_ret
 exact kj (HR.o.trans sI) pZ.o
 ):ρ:=h
def vA(h:ρ:=by
 have HR:Hid (r=false):=by show _=_;rw[HF.o];simp[hn]
 clear HF hn;exact qv
 ):ρ:=h
def alW(h:ρ:=by
 obtain⟨x,hx,si,hv⟩:=Pl.ok_one ha h0;rw[eB (by simp[h0]),si] at HR;rw[fM h0] at SA;obtain⟨sa,da⟩:=a;obtain rfl:sa=[]:=h0;have xZ:=Pl.qh hv;have HV:=zH hv;obtain⟨q,HQ⟩:=jN (Pl.iw b);rw[HQ.o] at HR OB KX;obtain⟨sh,db⟩:=q;obtain⟨OK,m,row,e⟩:=OB.o;obtain rfl:sh=m::row:=e;have OK:=zH OK;obtain⟨n,rfl,hn,qD,-,hp,hl,eN⟩:=Pl.ke OK.o;obtain⟨s,HS⟩:=jN (Pl.eQ row);have es:Pl.eR row=(s:Int):=by rw[<- HS.o];simp[Pl.eQ,kl hp]
 have Li:=Pl.Wg qD eN;rw[es] at Li;rw[HS.o] at hl;have HL:=zH hl;obtain⟨k,hk⟩:∃k:Nat,x=k\/(x<0/\x=-(k:Int)):=⟨x.natAbs,oM⟩;exact air
 ):ρ:=h
def Zu(h:ρ:=by
 have fr':∀j,w2.frozen? ⟨w.1.size+1,j,none⟩=false:=λj=>xA hb2 oM (by simp[go_sem,fr]);have fo':∀j,w2.frozen? ⟨w.1.size+1+1,j,none⟩=false:=λj=>xA hb2 oM (by simp[go_sem,fo]);have B2:Hid (Bl w w2):=(B1.o.setCell (by simp only;omega) _).trans (hb2.mono oM);have M2:Hid (∀b,w.1.size+1+1+1<=b->b<w1.1.size->∀o,w2.cell? ⟨b,o,none⟩=w1.cell? ⟨b,o,none⟩):=λb h1 h2 o=>by
  rw[hb2.cell (p:=⟨b,o,none⟩) h2,eC (by simp only[ne_eq];omega)]
 have Ub:Hid (∀b,b<w1.1.size->∀o,w2.frozen? ⟨b,o,none⟩=w1.frozen? ⟨b,o,none⟩):=λb h2 o=>by
  rw[hb2.frozen (p:=⟨b,o,none⟩) h2];simp[go_sem]
 have HX2:=zH si;exact Yo
 ):ρ:=h
def Hp(h:ρ:=by
 have HR:Hid (r=pa):=by show _=_;rw[HF.o];simp[hn]
 clear HF hn;go_enter func95,ntmps95;go_wp2_with (go_at_call 123;refine(KA.o _).mono ?_;rintro e w' ⟨rfl,rfl⟩)
 exact qP
 ):ρ:=h
def Pk(h:ρ:=by
 have h:=h.mono (Q:=λb=>b<w.1.size) λb _ k=>k;have h':=h'.mono (Q:=λb=>b<w.1.size) λb _ k=>k;obtain⟨⟨x0,y0,rfl⟩,x1,y1,rfl⟩:=h.eS;obtain⟨⟨x2,y2,rfl⟩,x3,y3,rfl⟩:=h'.eS;have H:=zH (jA h h');have HA:=zH (jA ha hb);have HB:=zH (jA ba (jA bb bo));obtain⟨c0,f0,z0⟩:=ba.all;obtain⟨c1,f1,z1⟩:=bb.all;exact Oq
 ):ρ:=h
def Zt(h:ρ:=by
 have EX:=E0;obtain⟨p4,EA⟩:=jN ((sa++sb).length);have UB:Hid (sa.length+sb.length<=16777216):=by show _<=_;rw[E0.o,E2.o];omega
 have KM:Hid (∀W ax ay (b6:Nat),Rw (λ_=>True) W (sX ax p4 ay) (sa++sb)->Cp 135 #[sX ax p4 ay,sX (some ⟨b6,0,none⟩) 0 0] W (rC (.tuple #[if Pl.fy (sa++sb)=true then .agg #[sX ax p4 ay,sX (some ⟨b6,0,none⟩) 0 0] else .agg nN,I (if Pl.fy (sa++sb)=true then 0 else 6)]) W)):=λW ax ay b6 hr=>Ax _ _ _ [] hr rfl;obtain⟨ft,Fu⟩:=jN (Pl.fy (sa++sb));rw[Fu.o] at KM HR;exact Yn
 ):ρ:=h
def Ho(h:ρ:=by
 generalize hW:World.alloc (World.alloc w _) _=W0;have V0:=jU hW;clear hW;refine(KA.o _ V0.o.2.2.1).l λw1 hb=>?_;have V1:=zH (jA (V0.o.1.below hb) (jA (V0.o.2.1.below hb) (bv hb V0.o.2.2.1)));obtain⟨c0,f0,z0⟩:=V1.o.1.all;exact GP
 ):ρ:=h
def Pj(h:ρ:=by
 have HR:=zH (show r=!ns by rw[HF.o];simp)
 cases ns
 all_goals
  go_enter func192,ntmps192;go_wp2_with (go_at_call 198;refine(KS.o _).mono ?_;rintro e w2 ⟨rfl,hb2⟩)
  go_ret
  exact kj HR.o ((HB.o _).trans (hb2.mono sI))
 ):ρ:=h
def Ph(h:ρ:=by
 obtain⟨n,HN⟩:=jN (xs.length);obtain⟨m,HM⟩:=jN (ys.length);have H:=zH h;have H':=zH h';obtain⟨x,y,rfl,_⟩:=h;obtain⟨x',y',rfl,_⟩:=h';obtain⟨r,HR⟩:∃r,Hid (decide (xs=ys)=r):=⟨_,rfl⟩;rw[HR.o];rw[HN.o] at hl H ⊢;rw[HM.o] at uS H' ⊢;exact Oo
 ):ρ:=h
def Pe(h:ρ:=by
 obtain⟨i0,i1,i2,i3,i4,i5,i6,i7⟩:¬Z=w.1.size+1+1/\¬Z=w.1.size+1+1+1/\¬w.1.size+1+1=Z/\¬w.1.size+1+1+1=Z/\¬w.1.size=w.1.size+1+1/\¬w.1.size=w.1.size+1+1+1/\¬w.1.size+1+1=w.1.size/\¬w.1.size+1+1+1=w.1.size:=oM;exact On
 ):ρ:=h
def Zs(h:ρ:=by
 by_cases a1:1<=a
 ·by_cases a4:a<=7
  ·skip
   have HR:Hid (r=true):=by show _=_;rw[HF.o];simp[hn,a1,a4]
   clear HF hn;exact qv
  skip
  have HR:Hid (r=false):=by show _=_;rw[HF.o];simp[hn,a1,a4]
  clear HF hn;exact qv
 ·skip
  have HR:Hid (r=false):=by show _=_;rw[HF.o];simp[hn,a1]
  clear HF hn;exact qv
 ):ρ:=h
def ny(h:ρ:=by
 exact SP.err gG
 ):ρ:=h
def Zq(h:ρ:=by
 go_enter func65,ntmps65;go_wp2_with fail;refine(K1.o _).k λw2 hb2=>?_;have d1:=C.o _ _ 1 _ hb2 sI J3;have B2:=zH ((HB.o _).trans (hb2.mono sI));clear hb2;go_wp2_with (go_at_call 42;refine(K3.o _ B2.o).mono ?_;rintro e w3 ⟨rfl,eV⟩)
 go_ret
 exact⟨by rw[HR.o];rfl,B2.o.trans (eV.mono B2.o.size)⟩
 ):ρ:=h
def Zp(h:ρ:=by
 go_enter func18,ntmps18;go_wp2_with fail;refine(K1.o _).k λw2 hb2=>?_;have d3:=C.o _ _ 3 _ hb2 sI J3;have B2:=zH ((HB.o _).trans (hb2.mono sI));clear hb2;go_wp2_with (go_at_call 43;refine(K3.o _ B2.o).mono ?_;rintro e w3 ⟨rfl,eV⟩)
 go_ret
 exact⟨by rw[HR.o];rfl,B2.o.trans (eV.mono B2.o.size)⟩
 ):ρ:=h
def Dr(h:ρ:=by
 obtain⟨⟨x0,y0,rfl⟩,x1,y1,rfl⟩:=h.eS;have SA:=zH λW (kb:Bl w W)=>wV _ _ a.1 (h.1.rw.kp (.of kb)) (rfl:Value.slice x1 a.2.length y1=_);exact Dk
 ):ρ:=h
def Pd(h:ρ:=by
 have nC:(i:Int)<(j:Int):=oM;obtain⟨h,hh⟩:∃h:Nat,((i:Int)+(j:Int)) / 2=(h:Int):=⟨(i+j) / 2,oM⟩;have hih:i<=h:=oM;have hhj:h<j:=oM;have hhn:h<n:=oM;have BW:=zH (GG.o.eG HB.o HX.o.g yH.o);exact Ol
 ):ρ:=h
def Hl(h:ρ:=by
 have h:=h.mono (Q:=λb=>b<w.1.size) λb _ k=>k;obtain⟨⟨x0,y0,rfl⟩,x1,y1,rfl⟩:=h.eS;have H:=zH h;have HA:=zH ha;have HB:=zH (jA ba bo);obtain⟨c0,f0,z0⟩:=ba.all;exact GO
 ):ρ:=h
def Zo(h:ρ:=by
 have T3:Bx w3 w.1.size #[sX (some ⟨b,o,none⟩) (p0+1) y0,sX x1 p1 y1] 30/\Bx w3 Z #[sX q0 p0 t0,sX q1 m1 t1] 30:=⟨S0.below k3,wI.below k3⟩;refine .inl ⟨_,rfl,T3,?_⟩;refine tk 6 (.tuple #[.agg #[v2,v3],I (f_ (Pl.wS row q)).1]) rfl T3 (λ_ _=>kF) ?_;refine tk 7 (.agg #[v2,v3]) rfl T3 (λ_ _=>kF) ?_;refine tk 8 (I (f_ (Pl.wS row q)).1) rfl T3 (λ_ _=>kF) ?_;have tB:=eV.size;try simp at tB
 exact Ym
 ):ρ:=h
def Dq(h:ρ:=by
 go_wp2_with (go_at_call 229;refine(iV _ _).mono ?_;rintro e w' ⟨rfl,rfl⟩)
 exact pq
 ):ρ:=h
def Zn(h:ρ:=by
 have V1:Hid (Bx w1 w.1.size _ 30/\Bx w1 (w.1.size+1) _ 30/\Bx w1 (w.1.size+1+1) _ 30/\Bl w w1):=⟨V0.o.1.below hb,V0.o.2.1.below hb,V0.o.2.2.1.below hb,bv hb V0.o.2.2.2⟩;have sW:=V0.o.2.2.1.lt;have RAw:=zH (ra.mono (Q:=λb=>w.1.size+2<b) λb h _=>oM);obtain⟨c0,f0,z0⟩:=V1.o.1.all;obtain⟨c1,f1,z1⟩:=V1.o.2.1.all;clear hb ra V0 KW sW;go_upto_region 5 with fail
 clear c0 c1 f0 f1 z0 z1;exact Yl
 ):ρ:=h
def Pc(h:ρ:=by
 refine tc 7 _ _ rfl rfl kF ((KC.o Wz KZ).mono ?_);rintro e w' ⟨rfl,rfl⟩;refine .inl ⟨_,rfl,SS.o _ KZ,?_⟩;exact τ
 ):ρ:=h
def Zm(h:ρ:=by
 go_wp2_with fail;refine fT (S:=λw=>w.cell? ⟨bo,0,none⟩=some (.func (.func f) #[] #[])/\w.cell? ⟨ba,1,none⟩=some (sX (some ⟨b,o,none⟩) (n+1) y)/\w.cell? ⟨b,o,none⟩=some (I z)) kF ⟨h0,h1,h2⟩ (λhS=>?_);refine tk 0 (.pointer (some ⟨bo,0,none⟩)) rfl hS (λw h=>kF) ?_;refine tk 1 (.func (.func f) #[] #[]) rfl hS (λw h=>by obtain⟨h0,h1,h2⟩:=h;go_simp) ?_;exact Yk
 ):ρ:=h
def Pb(h:ρ:=by
 rw[hft,eB dC] at eP;have hr:=eP.o;subst hr;rw[hft] at NF;go_wp2_with fail;refine NF.o.mono ?_;rintro e w' ⟨rfl,he⟩;obtain rfl:e=.panicked [lR 6]:=he;exact Ok
 ):ρ:=h
def Zk(h:ρ:=by
 have OA:=zH ((Oi.one (w:=W1) (jR _) 1).kp (w':=(W1.alloc (.cells #[I 1] 3)).drew) eY);have TK:=zH (T4.o.below (W':=(W1.alloc (.cells #[I 1] 3)).drew) gG);have UB:Hid (([1]:lI).length+t3.length<=16777216):=by show _<=_;rw[E3.o];simp;omega
 have HZ:Hid (W1.1.size<=((W1.alloc (.cells #[I 1] 3)).drew).1.size):=by show _<=_;simp
 go_wp2_with fail;exact Yj
 ):ρ:=h
def Zj(h:ρ:=by
 go_wp2_with (go_at_call 197;refine(KO.o _).mono ?_;rintro e w2 ⟨rfl,hb2⟩)
 go_ret
 exact kj HR.o ((HB.o _).trans (hb2.mono sI))
 ):ρ:=h
def Pa(h:ρ:=by
 go_enter func129,ntmps129;go_wp2_with fail;refine eJ (by simp[results,results129,go_sem];try rfl) rfl ?_;exact pk
 ):ρ:=h
def Zi(h:ρ:=by
 go_enter func64,ntmps64;go_wp2_with (first | (go_at_call 19;refine(K.o _).mono ?_;rintro e w2 ⟨rfl,rfl⟩) | (go_at_call 94;refine(K3.o _).mono ?_;rintro e w3 ⟨rfl,eV⟩))
 go_ret
 exact⟨by rw[HR.o];rfl,(HB.o _).trans (eV.mono sI)⟩
 ):ρ:=h
def ug(h:ρ:=by
 have HB:Hid (∀o,Bl w (w.alloc o)):=λo=>(jD _ _).alloc (jR _) _;exact ud
 ):ρ:=h
def Zh(h:ρ:=by
 have HR:=zH (show r=!ns by rw[HF.o];simp)
 cases ns
 all_goals
  go_enter func193,ntmps193;go_wp2_with (go_at_call 198;refine(KS.o _).mono ?_;rintro e w2 ⟨rfl,hb2⟩)
  go_ret
  exact kj HR.o ((HB.o _).trans (hb2.mono sI))
 ):ρ:=h
def Dp(h:ρ:=by
 subst this;go_enter func125,ntmps125;go_wp2;exact pq
 ):ρ:=h
def mM(h:ρ:=by
 go_wp2;exact pq
 ):ρ:=h
def Hk(h:ρ:=by
 obtain⟨fZ,rfl⟩:=hK;exact .inr ⟨_,rfl,rfl,KP.err (S9.o _ (bv fZ K3)).2.2.1⟩
 ):ρ:=h
def Hj(h:ρ:=by
 obtain⟨fZ,rfl⟩:=hK;exact .inr ⟨_,rfl,rfl,KP.err (S9.o _ (bv fZ K3)).2.1⟩
 ):ρ:=h
def Zg(h:ρ:=by
 have HY:Hid (∀k,k<s.size->pJ (Pl.bt s k)=true->ij s (s.size-k) k=ij s (s.size-(k+1)) (k+1)):=λk=>afr;have HN:Hid (∀k,k<s.size->pJ (Pl.bt s k)=false->ij s (s.size-k) k=k):=λk=>ag6;have HE:Hid (∀k,s.size<=k->ij s (s.size-k) k=k):=λk=>afs;generalize hn:s.size=n at *;exact Yi
 ):ρ:=h
def Zf(h:ρ:=by
 obtain⟨c0,f0,z0⟩:=T4.o.a.all;obtain⟨c1,f1,z1⟩:=T4.o.b.all;go_wp2_with fail;go_meet
 case rel=>exact⟨m1,t1,m2,t2,q1,q2,x4,y4,x6,y6,T4,E1,E2,hr,oM,oM,oM,oM,oM,oM⟩
 ):ρ:=h
def O'(h:ρ:=by
 go_wp2_with (go_at_call 229;refine(kY _ _).mono ?_;rintro e w' ⟨rfl,rfl⟩)
 exact⟨rfl,KP.err gG⟩
 ):ρ:=h
def Ze(h:ρ:=by
 have H:=zH h;obtain⟨⟨x0,y0,rfl⟩,x1,y1,rfl⟩:=h.eS;clear h;obtain⟨n0,Uo⟩:=jN (a.1.length);obtain⟨n,HN⟩:=jN (a.2.length);obtain⟨r,HF⟩:=jN (Pl.okB a);obtain⟨f,HG⟩:=jN (Pl.fy a.1);rw[HF.o];rw[Uo.o,HN.o] at H ⊢;exact Yh
 ):ρ:=h
def O_(h:ρ:=by
 go_wp2_with (go_at_call 229;refine(kY _ _).mono ?_;rintro e w' ⟨rfl,rfl⟩)
 exact⟨rfl,KP.err BW.o⟩
 ):ρ:=h
def Zd(h:ρ:=by
 refine tc 1 _ _ rfl rfl kF ((KA.o Wd TD.o.bl).mono ?_);rintro e w1 ⟨hb1,x4,l4,y4,x5,l5,y5,rfl,ra⟩;refine .inl ⟨_,rfl,trivial,?_⟩;exact ZT
 ):ρ:=h
def Zc(h:ρ:=by
 go_enter func114,ntmps114;go_wp2_with (first | (go_at_call 147;refine(K.o _).mono ?_;rintro e w' ⟨rfl,rfl⟩) | (go_at_call 148;refine(K2.o _).mono ?_;rintro e w' ⟨rfl,rfl⟩))
 exact xz
 ):ρ:=h
def Zb(h:ρ:=by
 obtain⟨d7,g7,z7⟩:=yB.all;replace eN:Hid (r=(.error (2,1),⟨f',c',s'⟩)):=eN.o.trans ((eB (by rw[hv];simp;omega)).trans (eB (by rw[hv];simp;omega)));exact aai
 ):ρ:=h
def Hi(h:ρ:=by
 subst hr;exact .inr ⟨_,rfl,rfl,KP.err (S9.o _ (bv hb KD)).2.2.1⟩
 ):ρ:=h
def Hg(h:ρ:=by
 subst hr;exact .inr ⟨_,rfl,rfl,KP.err (S9.o _ (bv hb KD)).2.1⟩
 ):ρ:=h
def Hf(h:ρ:=by
 obtain⟨i0,hi,iC,gy,iS⟩:∃i,prog.info? 3=some i/\i.zero=some (I 0)/\i.size=1/\i.bytes=8:=info_parts kF;exact GN
 ):ρ:=h
def Za(h:ρ:=by
 go_wp2_with (go_at_call 115;refine(agG B b bs _ h).mono ?_)
 rintro e w1 ⟨rfl,h1,hb1,hk1⟩;obtain⟨hB,v,sA,lu,gu⟩:=h1;have c0:w1.cell? ⟨b,0,none⟩=some (.pointer (some ⟨b,0,none⟩)):=by rw[Bo sA];rfl
 have c1:w1.cell? ⟨b,1,none⟩=some v:=by rw[Bo sA];rfl
 exact Yg
 ):ρ:=h
def Y'(h:ρ:=by
 have V:=mK hW;exact⟨V.o.1,V.o.2.1,V.o.2.2.1,V.o.2.2.2.1,(H.o.1.kp (.of V.o.2.2.2.1)).mono λb h _=>.inl h,(H.o.2.kp (.of V.o.2.2.2.1)).mono λb h _=>.inl h⟩
 ):ρ:=h
def Y_(h:ρ:=by
 obtain⟨mf,mc,ms⟩:=m;obtain⟨lf,lc,lr,ls⟩:=L;have F0:=zH (Fc.new (w:=w) (fA mf mc ms 0 0) (uC ⟨lf,lc,lr,ls⟩ u) #[sX x0 n0 y0,sX x1 n1 y1] #[sX x2 n2 y2,sX x3 n3 y3]);replace KF:=zH KF;go_enter func75,ntmps75;go_wp2_with fail;refine(KF.o _ gG).mono ?_;exact Yf
 ):ρ:=h
def Y9(h:ρ:=by
 have HN:=zH (HIT.o (by rw[HDF.o];rfl));go_wp2_with fail;go_ret
 exact⟨WX (by rw[HN.o,HMT.o]),tZ.o.trans ((HBA.o _).mono (DG _))⟩
 ):ρ:=h
def He(h:ρ:=by
 go_ret
 exact⟨by rw[HR.o];rfl,HB.o _⟩
 ):ρ:=h
def Y8(h:ρ:=by
 rintro e w5 ⟨hb,x5,y5,rfl,o5⟩;have K5:Bl wr w5:=bv hb;have V5:=zH (jA (HS.o.1.below K5) (jA (bv K5 HS.o.2) (jA (oD.o.kp (.of K5)) (o5.base (B':=w.1.size) (by have:=HS.o.2.size;simp;omega)))));obtain⟨c5,f5,z5⟩:=V5.o.1.all;exact Ye
 ):ρ:=h
def Y7(h:ρ:=by
 have b2:Hid (Bx W.drew (w.1.size+1) nN 30):=by subst hW;exact Bx.eK sI
 have BC:Hid (∀{q:Nat} {v:Va},w.cell? ⟨S,q,none⟩=some v->W.drew.cell? ⟨S,q,none⟩=some v):=λ{q v} h=>(BW.o.cell (p:=⟨S,q,none⟩) lS).trans h;clear hW;exact Yd
 ):ρ:=h
def Hd(h:ρ:=by
 have HB:Hid (∀o1 o2:Obj,Bl w ((w.alloc o1).alloc o2)):=λo1 o2=>((jD _ _).alloc (jR _) _).alloc sI _;exact GK
 ):ρ:=h
def Y6(h:ρ:=by
 have HR:Hid (r=false):=by show _=_;rw[HF.o];simp[hn,om,k9,k1,k2,k6,k3,k4,k8,k5,k7]
 clear HF hn om k9 k1 k2 k6 k3 k4 k8 k5 k7;exact qv
 ):ρ:=h
def Y5(h:ρ:=by
 go_wp2_with (go_at_call 42;refine(K1.o _).mono ?_;rintro e w2 ⟨rfl,hb2⟩)
 go_ret
 exact⟨by rw[HR.o];rfl,(HB.o _).trans (hb2.mono sI)⟩
 ):ρ:=h
def Y4(h:ρ:=by
 show _=_;rw[HR.o,Pl.mC];simp only[Bf,xF,Iy,qn,qm,zp]
 ):ρ:=h
def Y3(h:ρ:=by
 go_enter func109,ntmps109;go_wp2_with fail;refine eJ (by simp[results,results109,go_sem];try rfl) rfl ?_;exact pk
 ):ρ:=h
def O8(h:ρ:=by
 go_ret
 exact⟨by rw[HR.o];rfl,BB.o.trans (hb2.mono BB.o.size)⟩
 ):ρ:=h
def Y2(h:ρ:=by
 go_wp2_with fail;go_roundw
 case rel=>exact⟨j+1,_,oM,gN,E9,B9,O9⟩
 case measure=>simp[intOf];omega
 ):ρ:=h
def Y1(h:ρ:=by
 refine⟨?_,(GG.o.trans ((Gr.set _ _ _ _).trans (Gr.set _ _ _ _))).drew⟩;rw[<- SX.o];exact((RR.o.set _ kQ).set _ aaW).drew
 ):ρ:=h
def Y0(h:ρ:=by
 go_wp2_with fail;go_roundg g
 case rel=>exact⟨k+1,oM,gN,NY.o.1,NY.o.2⟩
 case measure=>omega
 ):ρ:=h
def O7(h:ρ:=by
 go_enter func136,ntmps136;go_wp2_with fail;exact pq
 ):ρ:=h
def YZ(h:ρ:=by
 obtain⟨y,hy⟩:=gF E3.o hi;exact⟨y,by rw[HY.o];simp[Pl.rP,hj,ig,hy],hy,hi⟩
 ):ρ:=h
def Hc(h:ρ:=by
 go_wp2_with (first | (refine iW rfl (ie rfl rfl rfl (CL.o _)) ?_) | (go_at_call 54;refine KT.o.mono ?_;rintro e w9 ⟨rfl,rfl⟩))
 have S9:Hid (∀W,Bl w9 W->Bx W (w.1.size+1) #[sX (some ⟨b4,o4,none⟩) (gh+1) y4,sX x5 l5 y5] 30):=λW kk=>(J1.o W kk).2.1;refine fT (S:=λW=>Bx W (w.1.size+1) #[sX (some ⟨b4,o4,none⟩) (gh+1) y4,sX x5 l5 y5] 30) kF (S9.o w9 (jD _ _)) (λhS=>?_);refine tk 0 (I (n:Int)) rfl hS (λ_ _=>kF) ?_;exact GJ
 ):ρ:=h
def Hb(h:ρ:=by
 obtain⟨mf,mc,ms⟩:=m;obtain⟨lf,lc,lr,ls⟩:=L;obtain⟨k0,k1,k2,k3,k4,k5,k6,rn⟩:=sp;have Lx:(i:Int)<(c.length:Int):=by have:=(gQ.1 hs).1;omega
 generalize hn:c.length=n at *;clear hs hn rn;obtain⟨sk,eF,nm,fk,fa,fb,fn⟩:=s;exact GI
 ):ρ:=h
def YY(h:ρ:=by
 go_wp2;refine eJ J9 rfl ?_;have:=F5.o.bl;have n7:∀b,w.1.size<=b->b<w.1.size+7->¬(((P b\/w.1.size+7<=b)/\b<W4.1.size)\/W4.1.size<=b):=λb h1 h2 h=>h.elim (λh=>HN.o b h1 h2 h.1) (λh=>oM);rw[HR.o];exact HQ.o.move (by repeat' (first | with_reducible exact Kp.refl _ _ | with_reducible refine Kp.set ?_ ?_ _ | exact n7 _ J6 J6)) gG (λb h=>h.elim (λh=>h.1.imp id λh=>oM) (λh=>.inr oM))
 ):ρ:=h
def YX(h:ρ:=by
 have fr:∀j,w1.frozen? ⟨w.1.size+1,j,none⟩=false:=λj=>xA hb1 oM J5;have fo:∀j,w1.frozen? ⟨w.1.size+1+1,j,none⟩=false:=λj=>xA hb1 oM J5;have B1:=zH ((HB.o _ _ _).trans (hb1.mono oM));have HX:=zH hx;clear hb1 hx HB;go_wp2_with fail;refine(K2.o _ _ _ B1.o).mono ?_;rintro e w2 ⟨rfl,si,hb2,By⟩;have Kv:=fG hb2 (b:=w.1.size+1) (j:=0) oM (by simp[go_sem,r0] <;> rfl);have Ku:=fG hb2 (b:=w.1.size+1) (j:=1) oM (by simp[go_sem,r1] <;> rfl);exact Yc
 ):ρ:=h
def Ha(h:ρ:=by
 obtain⟨b1,bl,hz⟩:=HS.o;exact⟨gG,_,_,rfl,hU.o.fin b1 dC oM _ _⟩
 ):ρ:=h
def YW(h:ρ:=by
 obtain⟨c2,f2,z2⟩:=X9.all;clear X9
 iterate 20 (try (first | go_values | go_skip | go_guarded | go_step | go_upon | go_back))
 change bodyPost prog Tryz.f108 _ Exit.ret _ _;refine eJ (by simp[results,results108,go_sem,c2,z2];try rfl) rfl ?_;exact ny
 ):ρ:=h
def alV(h:ρ:=by
 have H:=zH h;obtain⟨⟨x0,y0,rfl⟩,x1,y1,rfl⟩:=h.eS;obtain⟨⟨x2,y2,rfl⟩,x3,y3,rfl⟩:=h'.eS;have SA:=zH λW (kb:Bl w W)=>wV _ _ a.1 (h.1.rw.kp (.of kb)) (rfl:Value.slice x1 a.2.length y1=_);have OB:=zH (Pl.vy hb);have KX:=zH λW (k:Bl w W)=>CZ _ _ b ((h'.mono (Q:=λb=>b<w.1.size) λb _ k=>k).kp (.of k)) (Pl.ok_eq hb).2.2.2.2;exact aiq
 ):ρ:=h
def YU(h:ρ:=by
 generalize hW:World.alloc (World.alloc (World.alloc w _) _) _=W9;have V0:=mK hW;clear hW;refine(KA.o _ V0.o.2.2.2.1).l λw1 hb=>?_;have V1:=zH (jA (V0.o.1.below hb) (jA (V0.o.2.1.below hb) (jA (V0.o.2.2.1.below hb) (bv hb V0.o.2.2.2.1))));obtain⟨c0,f0,z0⟩:=V1.o.2.1.all;clear hb V0 f0;go_wp2_with fail;refine(KB.o _ V1.o.2.2.2).l λB hb=>?_;exact Yb
 ):ρ:=h
def YT(h:ρ:=by
 have e:(t+1) * s-t * s=s:=by rw[iu];omega
 rw[e] at this;refine this.mono ?_;rintro e' w' ⟨rfl,rfl⟩;refine⟨rfl,_,_,rfl,?_⟩;have hc:=hh.cut (l:=t * s) (h:=(t+1) * s) (by rw[iu];omega) oM;rw[e] at hc;exact hc
 ):ρ:=h
def OY(h:ρ:=by
 go_wp2_with fail;refine eJ (by simp[results,results137,go_sem, *];try rfl) rfl ?_;have:=HS.o.2.1;exact ny
 ):ρ:=h
def YS(h:ρ:=by
 go_wp2;go_loopw [5] (λi wr=>∃k:Nat,k<=n/\i=I k/\Hid (xs.take k=ys.take k)/\Hid (Bl w wr)) (λi _=>n-(intOf i).toNat)
 case atStart=>exact⟨0,vZ _,rfl,rfl,jD _ _⟩
 case round =>
  exact aa0
 ):ρ:=h
def YR(h:ρ:=by
 have hr:Hid (r=Pl.pH (m1::t1,da) (m2::t2,db)):=by
  show _=_;rw[HR.o,Pl.kL,Pl.kL,eB JU,eB JU]
 have j0:((q1:Int)+1 == (q2:Int)+1+1)=false:=by rw[gR];omega
 have j1:((q2:Int)+1 == (q1:Int)+1+1)=false:=by rw[gR];omega
 exact Ya
 ):ρ:=h
def OX(h:ρ:=by
 rintro e w2 ⟨rfl,hb2⟩;have d1:=C.o _ _ 1 _ hb2 sI J3;exact QD
 ):ρ:=h
def YQ(h:ρ:=by
 have HR:=zH (show r=(!no && q) by rw[HF.o];simp)
 cases no
 ·go_enter func192,ntmps192
  exact Zv
 ·go_enter func192,ntmps192
  exact Zj
 ):ρ:=h
def YP(h:ρ:=by
 subst eN;clear xL eL;replace KK:Hid (∀n',Cp 136 #[I op,I z,I z'] (wr.drewN n') λe w'=>e=rT (.tuple #[I 0,I c])/\w'=wr.drewN n'):=KK.o;go_wp2_with fail;go_quiet ((go_at_call 136;exact nA (KK.o _)))
 exact X'
 ):ρ:=h
def YO(h:ρ:=by
 refine tk 0 (.pointer (some ⟨w.1.size,0,none⟩)) rfl hS (λ_ _=>kF) ?_;refine tk 1 _ rfl hS (λW h=>fh _ _ rfl kF (kC h.1)) ?_;refine tk 3 (.pointer (some ⟨w.1.size+1,0,none⟩)) rfl hS (λ_ _=>kF) ?_;exact X_
 ):ρ:=h
def YN(h:ρ:=by
 rintro e w2 ⟨rfl,hb2⟩;have d1:=C.o _ _ 1 _ hb2 sI J3;have d2:=C.o _ _ 2 _ hb2 sI J3;exact QD
 ):ρ:=h
def Dm(h:ρ:=by
 obtain⟨k,rfl⟩:∃k:Nat,n=k:=⟨n.toNat,oM⟩;have gp:1<=k:=oM;have hk1:k<11:=oM;exact Dj
 ):ρ:=h
def YM(h:ρ:=by
 go_enter func220,ntmps220;go_wp2_with fail;generalize hW:World.alloc (World.alloc (World.alloc (World.alloc (World.alloc w _) _) _) _) _=W0;have V0:=TO hW;clear hW;refine(SA.o W0 V0.o.2.2.2.2.2.1).k λw1 hb=>?_;have BW:=zH (bv hb V0.o.2.2.2.2.2.1);exact X8
 ):ρ:=h
def YL(h:ρ:=by
 clear g3
 cases q
 ·have HR:=zH (show r=119 by rw[HW.o];rfl)
  exact aah
 ·have HR:=zH (show r=115 by rw[HW.o];rfl)
  exact aah
 ):ρ:=h
def YK(h:ρ:=by
 go_enter func105,ntmps105;go_wp2_with fail;refine eJ (by simp[results,results105,go_sem];try rfl) rfl ?_;exact ny
 ):ρ:=h
def YJ(h:ρ:=by
 go_enter func137,ntmps137;go_wp2_with fail;refine eJ (by simp[results,results137,go_sem];try rfl) rfl ?_;exact ny
 ):ρ:=h
def YI(h:ρ:=by
 have m0:=O6.o.ne R6.o dC;exact⟨(O6.o.kp eY).o (Kp.refl _ _) (jR _),o1.o (Kp.refl _ _) (jR _)⟩
 ):ρ:=h
def YH(h:ρ:=by
 go_enter func64,ntmps64;go_wp2_with (go_at_call 19;refine(K.o _).mono ?_;rintro e w2 ⟨rfl,rfl⟩)
 exact He
 ):ρ:=h
def YG(h:ρ:=by
 go_enter func68,ntmps68;go_wp2_with (go_at_call 95;refine(KK.o _).mono ?_;rintro e w' ⟨rfl,hb⟩)
 exact Qi
 ):ρ:=h
def OW(h:ρ:=by
 go_wp2_with fail;clear d0 f0 z0 d1 f1 z1 d4 f4 z4 d5 f5 z5 d6 f6 z6;generalize World.setCell (World.setCell (World.setCell (World.setCell (World.setCell w3 _ _) _ _) _ _) _ _) _ _=W4 at *;exact Oj
 ):ρ:=h
def G_(h:ρ:=by
 rw[<- CE.o] at hr RC;have lcl:Hid (cl.length=lc/\lc<=1000):=⟨(RC.o w9 (jD _ _)).rw.len,by have:=LC.o;omega⟩;have eN:=hr.o;subst eN;clear hr;exact GH
 ):ρ:=h
def YF(h:ρ:=by
 simp only[fW] at H SA H0 ⊢;rw[E0.o] at H SA H0 eN ⊢;rw[show p0+1-1=p0 by omega] at H0;have C0:=zH λW=>mO (w:=W) (x:=some ⟨b0,o0,none⟩) (n:=p0+1) (y:=y0) (l:=1) oM;rw[show p0+1-1=p0 by omega] at C0;generalize fU (some ⟨b0,o0,none⟩) 1 y0=z9,y0-1=k9 at *;exact XZ
 ):ρ:=h
def OV(h:ρ:=by
 have kE:((L:Int) == 0)=false:=by simp[h0]
 have eP:=zH (show r=false by rw[HR.o];simp[h0]);clear h0 HR;have HR:=eP;go_enter func172,ntmps172;go_wp2_with fail;exact Oh
 ):ρ:=h
end Go.Proofs.YtiagfejlmafliaaGreatDoor
