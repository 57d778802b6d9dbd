import Derived.Test.YtbiiicbfpcfgdaaGreatDoorPn
import Derived.WalkKit
import Derived.WalkSpells
import Derived.WalkLawsBesides
import Derived.WalkSmall
import Derived.Laws.Strings
import Derived.Below
import Derived.Lib.Replace
import Derived.Lib.ItoaLen
namespace Go.Proofs.YtbiiicbfpcfgdaaGreatDoor
open Go.RowKit
set_option linter.unusedVariables false
theorem uStr1 {P:Prop}(h:P:=by first | (symm;simp only[Pl.lttI,Bool.or_eq_true,decide_eq_true_eq];omega) | (symm;simp only[Pl.lttI,Bool.or_eq_false_iff,decide_eq_false_iff_not];omega) | (rw[Bool.eq_iff_iff];simp only[Pl.lttI,Bool.or_eq_true,decide_eq_true_eq];omega)):P:=h
namespace Pl
def lttI (x:Int):Bool:=decide (97<=x/\x<=122) || decide (65<=x/\x<=90)
def digI (x:Int):Bool:=decide (48<=x/\x<=57)
end Pl
theorem ret_int {k:IntKind}{a b:Int}(h:a=b):Ending.returned (.int k a)=.returned (.int k b):=by rw[h]
theorem ret_bool {a b:Bool}(h:a=b):Ending.returned (.bool a)=.returned (.bool b):=by rw[h]
theorem zH {p:Prop}(h:p):Hid p:=h
theorem l3Digit_any (x:Int) (w:World) :
  Calls Tryz.prog 25 #[.int .u8 x] w fun e w'=>e=.returned (.bool (Pl.digI x))/\w'=w:=by
 by_cases h0:48<=x <;> by_cases h1:x<=57 <;>
 ·go_enter Tryz.func25,Tryz.ntmps25
  go_wp2
  go_ret
  exact⟨ret_bool (by simp[Pl.digI];omega),rfl⟩
theorem isDigit_any (x:Int) (w:World) :
  Calls Tryz.prog 59 #[.int .u8 x] w fun e w'=>e=.returned (.bool (Pl.digI x))/\w'=w:=by
 by_cases h0:48<=x <;> by_cases h1:x<=57 <;>
 ·go_enter Tryz.func59,Tryz.ntmps59
  go_wp2
  go_ret
  exact⟨ret_bool (by simp[Pl.digI];omega),rfl⟩
theorem isCapital_any (x:Int) (w:World) :
  Calls Tryz.prog 86 #[.int .u8 x] w fun e w'=>e=.returned (.bool (decide (65<=x/\x<=90)))/\w'=w:=by
 by_cases h0:65<=x <;> by_cases h1:x<=90 <;>
 ·go_enter Tryz.func86,Tryz.ntmps86
  go_wp2
  go_ret
  exact⟨ret_bool (by simp;omega),rfl⟩
theorem l3Letter_any (x:Int) (w:World) :
  Calls Tryz.prog 28 #[.int .u8 x] w fun e w'=>e=.returned (.bool (Pl.lttI x))/\w'=w:=by
 by_cases h0:97<=x <;> by_cases h1:x<=122 <;> by_cases h2:65<=x <;> by_cases h3:x<=90 <;> first
 |(exfalso;omega)
 |(go_enter Tryz.func28,Tryz.ntmps28
   go_wp2
   go_ret
   exact⟨ret_bool (by simp[Pl.lttI];omega),rfl⟩)
theorem isLetter_any (x:Int) (w:World) :
  Calls Tryz.prog 61 #[.int .u8 x] w fun e w'=>e=.returned (.bool (Pl.lttI x))/\w'=w:=by
 have K:Hid (∀w,Calls Tryz.prog 86 #[.int .u8 x] w fun e w'=>e=.returned (.bool (decide (65<=x/\x<=90)))/\w'=w):=isCapital_any x
 by_cases hc:65<=x/\x<=90
 ·have hd:decide (65<=x/\x<=90)=true:=decide_eq_true hc
  rw[hd] at K
  clear hd
  go_enter Tryz.func61,Tryz.ntmps61
  go_wp2_with (go_at_call 86;refine(K.out _).mono ?_;rintro e w' ⟨rfl,rfl⟩)
  go_ret
  exact⟨ret_bool uStr1,rfl⟩
 ·have hd:decide (65<=x/\x<=90)=false:=decide_eq_false hc
  rw[hd] at K
  clear hd
  have HC:=zH hc
  clear hc
  by_cases h0:97<=x <;> by_cases h1:x<=122 <;> first
  |(exfalso;omega)
  |(go_enter Tryz.func61,Tryz.ntmps61
    go_wp2_with (go_at_call 86;refine(K.out _).mono ?_;rintro e w' ⟨rfl,rfl⟩)
    go_ret
    have hc:=HC.out
    exact⟨ret_bool uStr1,rfl⟩)
theorem tStr1 {P:Prop}(h:P:=by
 go_enter Tryz.func56,Tryz.ntmps56
 go_wp2_with (first | (go_at_call 61;refine(K.out _).mono ?_;rintro e w' ⟨rfl,rfl⟩) | (go_at_call 59;refine(K2.out _).mono ?_;rintro e w' ⟨rfl,rfl⟩))
 go_ret
 exact⟨ret_bool sI,rfl⟩
 ):P:=h
theorem isLetterOrDigit_any (x:Int) (w:World) :
  Calls Tryz.prog 56 #[.int .u8 x] w fun e w'=>e=.returned (.bool (Pl.lttI x || Pl.digI x))/\w'=w:=by
 have K:Hid (∀w,Calls Tryz.prog 61 #[.int .u8 x] w fun e w'=>e=.returned (.bool (Pl.lttI x))/\w'=w):=isLetter_any x
 have K2:Hid (∀w,Calls Tryz.prog 59 #[.int .u8 x] w fun e w'=>e=.returned (.bool (Pl.digI x))/\w'=w):=isDigit_any x
 cases hd:Pl.lttI x
 ·rw[hd] at K
  clear hd
  generalize Pl.digI x=q at *
  exact tStr1
 ·rw[hd] at K
  clear hd
  exact tStr1
namespace Pl
def bt (s:ByteArray) (k:Nat):Int:=(s.data[k]!).toNat
def ldI (x:Int):Bool:=digI x || lttI x
def stre (s:ByteArray):Nat->Nat->Nat
 |0,k=>k
 |n+1,k=>if ldI (bt s k)=true then stre s n (k+1) else k
theorem stre_yes {s:ByteArray}{k:Nat}(h:k<s.size) (hx:ldI (bt s k)=true):stre s (s.size-k) k=stre s (s.size-(k+1)) (k+1):=by
 obtain⟨m,hm⟩:∃m,s.size-k=m+1:=⟨s.size-k-1,by omega⟩
 rw[hm,stre,if_pos hx]
 congr 1
 omega
theorem stre_no {s:ByteArray}{k:Nat}(h:k<s.size) (hx:ldI (bt s k)=false):stre s (s.size-k) k=k:=by
 obtain⟨m,hm⟩:∃m,s.size-k=m+1:=⟨s.size-k-1,by omega⟩
 rw[hm,stre,if_neg (by simp[hx])]
theorem stre_end {s:ByteArray}{k:Nat}(h:s.size<=k):stre s (s.size-k) k=k:=by
 have hm:s.size-k=0:=by omega
 rw[hm,stre]
end Pl
theorem bt_of_lt (s:ByteArray) (k:Nat) (h:k<s.size):((s[k]'h).toNat:Int)=Pl.bt s k:=by
 cases s with
 |mk d=>exact congrArg (fun b:UInt8=>(b.toNat:Int)) (getElem!_pos d k h).symm
theorem und9:Tryz.prog.underlying 9=some .string:=by kernel_rfl
theorem idx_str (s:ByteArray) (k:Nat) (h:k<s.size) (w:World):(Instr.index 9 (.string s) (.int .i64 k)).run Tryz.prog w=.ok (.int .u8 (Pl.bt s k)) w:=by
 rw[run_index_string w 9 s .i64 k und9,dif_pos ⟨by omega,by omega⟩]
 simp only[Int.toNat_natCast,bt_of_lt]
theorem tStre1 {P:Prop}(h:P:=by
 go_wp2_with (first | (go_at_call 25;refine(K.out _).mono ?_;rintro e w' ⟨rfl,rfl⟩) | (go_at_call 28;refine(K2.out _).mono ?_;rintro e w' ⟨rfl,rfl⟩))
 go_round
 case rel=>exact⟨k+1,by omega,by go_num,by show _=_;rw[<- hst.out,Y.out HX.out]⟩
 case measure=>simp[intOf];omega
 ):P:=h
theorem l3Stretch_any (s:ByteArray) (i:Nat) (w:World) (hi:i<=s.size) (hl:s.size<=9223372036854775807) :
  Calls Tryz.prog 26 #[.string s,.int .i64 i] w fun e w'=>e=.returned (.int .i64 (Pl.stre s (s.size-i) i:Nat))/\w'=w:=by
 have HY:Hid (∀k,k<s.size->Pl.ldI (Pl.bt s k)=true->Pl.stre s (s.size-k) k=Pl.stre s (s.size-(k+1)) (k+1)):=fun k=>Pl.stre_yes
 have HN:Hid (∀k,k<s.size->Pl.ldI (Pl.bt s k)=false->Pl.stre s (s.size-k) k=k):=fun k=>Pl.stre_no
 have HE:Hid (∀k,s.size<=k->Pl.stre s (s.size-k) k=k):=fun k=>Pl.stre_end
 generalize hn:s.size=n at *
 generalize hr:Pl.stre s (n-i) i=r at *
 have Hn:Hid (s.size=n):=hn
 have Hr:=zH hr
 clear hr
 go_enter Tryz.func26,Tryz.ntmps26
 go_wp2
 go_loop [1] (fun v=>∃k:Nat,k<=n/\v=.int .i64 k/\Hid (Pl.stre s (n-k) k=r)) (fun v=>n-(intOf v).toNat)
 case atStart=>exact⟨i,hi,rfl,Hr.out⟩
 obtain⟨k,hk,rfl,hst⟩:=hrel
 by_cases hlt:k<n
 rotate_left 1
 ·have E:=zH (HE.out k oM)
  clear HY HN HE
  go_wp2
  go_ret
  exact⟨ret_int (by rw[<- hst.out,E.out]),rfl⟩
 have hix:=idx_str s k oM
 have Y:=zH (HY.out k hlt)
 have N:=zH (HN.out k hlt)
 clear HY HN HE
 generalize Pl.bt s k=x at *
 have K:Hid (∀w,Calls Tryz.prog 25 #[.int .u8 x] w fun e w'=>e=.returned (.bool (Pl.digI x))/\w'=w):=l3Digit_any x
 have K2:Hid (∀w,Calls Tryz.prog 28 #[.int .u8 x] w fun e w'=>e=.returned (.bool (Pl.lttI x))/\w'=w):=l3Letter_any x
 cases h1:Pl.digI x
 ·cases h2:Pl.lttI x
  ·have HX:=zH (show Pl.ldI x=false by simp[Pl.ldI,h1,h2])
   rw[h1] at K
   rw[h2] at K2
   clear h1 h2
   go_wp2_with (first | (go_at_call 25;refine(K.out _).mono ?_;rintro e w' ⟨rfl,rfl⟩) | (go_at_call 28;refine(K2.out _).mono ?_;rintro e w' ⟨rfl,rfl⟩))
   go_ret
   exact⟨ret_int (by rw[<- hst.out,N.out HX.out]),rfl⟩
  have HX:=zH (show Pl.ldI x=true by simp[Pl.ldI,h2])
  rw[h1] at K
  rw[h2] at K2
  clear h1 h2
  exact tStre1
 have HX:=zH (show Pl.ldI x=true by simp[Pl.ldI,h1])
 rw[h1] at K
 clear h1
 exact tStre1
theorem l2OpOk_any (x:Int) (w:World) :
  Calls Tryz.prog 105 #[.int .i64 x] w fun e w'=>e=.returned (.bool (Pl.opk x))/\w'=w:=by
 by_cases h0:1<=x <;> by_cases h1:x<=10 <;>
 ·go_enter Tryz.func105,Tryz.ntmps105
  go_wp2
  go_ret
  exact⟨ret_bool (by simp[Pl.opk];omega),rfl⟩
theorem valueFits_any (x:Int) (w:World) :
  Calls Tryz.prog 85 #[.int .i64 x] w fun e w'=>e=.returned (.bool (decide (-3000000000<=x) && decide (x<=3000000000)))/\w'=w:=by
 by_cases h0:-3000000000<=x <;> by_cases h1:x<=3000000000 <;>
 ·go_enter Tryz.func85,Tryz.ntmps85
  go_wp2
  go_ret
  exact⟨ret_bool (by simp;omega),rfl⟩
theorem stretchEnd_any (s:ByteArray) (i:Nat) (w:World) (hi:i<s.size) (hl:s.size<=9223372036854775807) :
  Calls Tryz.prog 57 #[.string s,.int .i64 i] w fun e w'=>e=.returned (.int .i64 (Pl.stre s (s.size-(i+1)) (i+1):Nat))/\w'=w:=by
 have HY:Hid (∀k,k<s.size->Pl.ldI (Pl.bt s k)=true->Pl.stre s (s.size-k) k=Pl.stre s (s.size-(k+1)) (k+1)):=fun k=>Pl.stre_yes
 have HN:Hid (∀k,k<s.size->Pl.ldI (Pl.bt s k)=false->Pl.stre s (s.size-k) k=k):=fun k=>Pl.stre_no
 have HE:Hid (∀k,s.size<=k->Pl.stre s (s.size-k) k=k):=fun k=>Pl.stre_end
 generalize hn:s.size=n at *
 generalize hr:Pl.stre s (n-(i+1)) (i+1)=r at *
 have Hn:Hid (s.size=n):=hn
 have Hr:=zH hr
 clear hr
 go_enter Tryz.func57,Tryz.ntmps57
 go_wp2
 go_loop [5] (fun v=>∃k:Nat,k<=n/\v=.int .i64 k/\Hid (Pl.stre s (n-k) k=r)) (fun v=>n-(intOf v).toNat)
 case atStart=>exact⟨i+1,hi,by go_num,Hr.out⟩
 case round =>
  obtain⟨k,hk,rfl,hst⟩:=hrel
  by_cases hlt:k<n
  ·have hix:=idx_str s k oM
   have Y:=zH (HY.out k hlt)
   have N:=zH (HN.out k hlt)
   clear HY HN HE
   generalize Pl.bt s k=x at *
   have K:Hid (∀w,Calls Tryz.prog 56 #[.int .u8 x] w fun e w'=>e=.returned (.bool (Pl.ldI x))/\w'=w):=fun w=>by
    have h:=isLetterOrDigit_any x w
    rw[Bool.or_comm] at h
    exact h
   cases h1:Pl.ldI x
   ·rw[h1] at K
    have HX:=zH h1
    clear h1
    go_wp2_with (go_at_call 56;refine(K.out _).mono ?_;rintro e w' ⟨rfl,rfl⟩)
    go_ret
    exact⟨ret_int (by rw[<- hst.out,N.out HX.out]),rfl⟩
   ·rw[h1] at K
    have HX:=zH h1
    clear h1
    go_wp2_with (go_at_call 56;refine(K.out _).mono ?_;rintro e w' ⟨rfl,rfl⟩)
    go_round
    case rel=>exact⟨k+1,by omega,by go_num,by show _=_;rw[<- hst.out,Y.out HX.out]⟩
    case measure=>simp[intOf];omega
  ·have E:=zH (HE.out k oM)
   clear HY HN HE
   go_wp2
   go_ret
   exact⟨ret_int (by rw[<- hst.out,E.out]),rfl⟩
namespace Pl
def hasB (L:List ByteArray) (s:ByteArray) (k:Nat):Bool:=(L.take k).any (fun x=>decide (x=s))
theorem hasB_snoc {L:List ByteArray}{s:ByteArray}{k:Nat}(h:k<L.length):hasB L s (k+1)=(hasB L s k || decide (L.getD k default=s)):=by
 unfold hasB
 rw[List.take_add_one,List.any_append,List.getElem?_eq_getElem h]
 simp[List.getD_eq_getElem?_getD,List.getElem?_eq_getElem h]
theorem hasB_yes {L:List ByteArray}{s:ByteArray}{k:Nat}(h:k<L.length) (e:L.getD k default=s):hasB L s L.length=true:=by
 unfold hasB
 rw[List.take_length,List.any_eq_true]
 refine⟨L[k],List.getElem_mem h,?_⟩
 rw[<- e]
 simp[List.getD_eq_getElem?_getD,List.getElem?_eq_getElem h]
end Pl
theorem ba_eq {a b:ByteArray}:(a.toList == b.toList)=decide (a=b):=by
 rw[ByteArray.toList_eq,ByteArray.toList_eq]
 by_cases h:a=b
 ·subst h;simp
 have:¬a.data.toList=b.data.toList:=fun e=>h (by cases a;cases b;simp at e ⊢;exact e)
 rw[decide_eq_false h];exact beq_eq_false_iff_ne.2 this
theorem l3Has_any (L:List ByteArray) (b o cap:Nat) (s:ByteArray) (w:World) (hl:L.length<=1000000) (hc:∀j,j<L.length->w.cell? ⟨b,o+j,none⟩=some (.string (L.getD j default))) :
  Calls Tryz.prog 30 #[.slice (some ⟨b,o,none⟩) L.length cap,.string s] w fun e w'=>e=.returned (.bool (Pl.hasB L s L.length))/\w'=w:=by
 have HS:Hid (∀k,k<L.length->Pl.hasB L s (k+1)=(Pl.hasB L s k || decide (L.getD k default=s))):=fun k=>Pl.hasB_snoc
 have HY:Hid (∀k,k<L.length->L.getD k default=s->Pl.hasB L s L.length=true):=fun k=>Pl.hasB_yes
 have HC:=zH hc
 clear hc
 generalize hn:L.length=n at *
 go_enter Tryz.func30,Tryz.ntmps30
 go_wp2
 go_loop [5] (fun v=>∃k:Nat,k<=n/\v=.int .i64 k/\Hid (Pl.hasB L s k=false)) (fun v=>n-(intOf v).toNat)
 case atStart=>exact⟨0,Nat.zero_le _,rfl,rfl⟩
 obtain⟨k,hk,rfl,hst⟩:=hrel
 by_cases hlt:k<n
 rotate_left 1
 ·obtain rfl:k=n:=by omega
  go_wp2
  go_ret
  exact⟨ret_bool (by rw[hst.out]),rfl⟩
 have hcell:=HC.out k hlt
 have Y:=zH (HY.out k hlt)
 have N:=zH (HS.out k hlt)
 clear HY HS HC
 generalize L.getD k default=x at *
 by_cases hx:x=s
 ·have HX:=zH (Y.out hx)
  have hq:(x.toList == s.toList)=true:=by rw[ba_eq];exact decide_eq_true hx
  clear hx Y N
  go_wp2
  go_ret
  exact⟨ret_bool (by rw[HX.out]),rfl⟩
 have HX:=zH (show Pl.hasB L s (k+1)=false by rw[N.out,hst.out];simp[hx])
 have hq:(x.toList == s.toList)=false:=by rw[ba_eq];exact decide_eq_false hx
 clear hx Y N
 go_wp2
 go_round
 case rel=>exact⟨k+1,by omega,by go_num,HX.out⟩
 simp[intOf];omega
set_option maxRecDepth 100000
set_option maxHeartbeats 16000000
namespace Pl
def words:List ByteArray:=[⟨#[109,97,120]⟩,⟨#[109,105,110]⟩,⟨#[97,98,115]⟩,⟨#[115,105,103,110]⟩,⟨#[105,111,116,97]⟩,⟨#[114,104,111]⟩,⟨#[99,97,116]⟩,⟨#[114,101,118]⟩,⟨#[102,108,105,112]⟩,⟨#[103,114,97,100,101]⟩,⟨#[99,111,117,110,116]⟩,⟨#[116,97,107,101]⟩,⟨#[100,114,111,112]⟩,⟨#[102,114,111,109]⟩,⟨#[109,97,116,99,104]⟩,⟨#[114,111,108,108]⟩,⟨#[115,101,108,102]⟩]
def wkS (s:ByteArray):Int:=if 20<s.size then 120 else if s=⟨#[115,101,108,102]⟩\/(65<=bt s 0/\bt s 0<=90) then 70 else if hasB words s 17=true then 115 else 119
end Pl
theorem l3Words_any (w:World) :
  Calls Tryz.prog 51 #[] w fun e w'=>e=.returned (.slice (some ⟨w.heap.size,0,none⟩) 17 17)/\w'=w.alloc (.cells (Pl.words.map Value.string).toArray 9):=by
 go_enter Tryz.func51,Tryz.ntmps51
 go_wp2
 go_ret
 exact⟨rfl,rfl⟩
theorem words_at (j:Nat) (hj:j<Pl.words.length):(Pl.words.map Value.string).toArray[0+j]? = some (.string (Pl.words.getD j default)):=by
 simp[List.getD_eq_getElem?_getD,List.getElem?_eq_getElem hj]
theorem self_list:ByteArray.toList ⟨#[115,101,108,102]⟩=[115,101,108,102]:=by rw[ByteArray.toList_eq]
theorem tWkd1 {P:Prop}(h:P:=by
 go_enter Tryz.func29,Tryz.ntmps29
 go_wp2_with (first | (go_at_call 51;refine(K.out _).mono ?_;rintro e w' ⟨rfl,rfl⟩) | (go_at_call 30;refine(K2.out _).mono ?_;rintro e w' ⟨rfl,rfl⟩))
 go_ret
 exact⟨ret_int HR.out.symm,HB.out _⟩
 ):P:=h
theorem l3WordKind_any (s:ByteArray) (w:World) (h0:0<s.size) (hl:s.size<=9223372036854775807) :
  Calls Tryz.prog 29 #[.string s] w fun e w'=>e=.returned (.int .u8 (Pl.wkS s))/\Below w.heap.size w w':=by
 have hix:∀w,(Instr.index 9 (.string s) (.int .i64 0)).run Tryz.prog w=.ok (.int .u8 (Pl.bt s 0)) w:=idx_str s 0 h0
 have HW:Hid (∀x,Pl.bt s 0=x->Pl.wkS s=if 20<s.size then 120 else if s=⟨#[115,101,108,102]⟩\/(65<=x/\x<=90) then 70 else if Pl.hasB Pl.words s 17=true then 115 else 119):=fun x e=>by rw[<- e];rfl
 generalize hx:Pl.bt s 0=x at *
 have HW:=zH (HW.out x rfl)
 clear hx
 generalize Pl.wkS s=r at *
 generalize hn:s.size=n at *
 by_cases g1:(20:Int)<n
 ·have HR:=zH (show r=120 by rw[HW.out,if_pos oM])
  go_enter Tryz.func29,Tryz.ntmps29
  go_wp2
  go_ret
  exact⟨ret_int HR.out.symm,Below.refl _ _⟩
 have HW:=zH (show r=if s=⟨#[115,101,108,102]⟩\/(65<=x/\x<=90) then 70 else if Pl.hasB Pl.words s 17=true then 115 else 119 by rw[HW.out,if_neg oM])
 by_cases g2:s=⟨#[115,101,108,102]⟩
 ·have HR:=zH (show r=70 by rw[HW.out,if_pos (.inl g2)])
  have hq:(s.toList == [115,101,108,102])=true:=by rw[<- self_list,ba_eq];exact decide_eq_true g2
  clear g2
  go_enter Tryz.func29,Tryz.ntmps29
  go_wp2
  go_ret
  exact⟨ret_int HR.out.symm,Below.refl _ _⟩
 have hq:(s.toList == [115,101,108,102])=false:=by rw[<- self_list,ba_eq];exact decide_eq_false g2
 by_cases g3:65<=x/\x<=90
 ·have HR:=zH (show r=70 by rw[HW.out,if_pos (.inr g3)])
  obtain⟨g4,g5⟩:=g3
  clear g2
  go_enter Tryz.func29,Tryz.ntmps29
  go_wp2
  go_ret
  exact⟨ret_int HR.out.symm,Below.refl _ _⟩
 have HW:=zH (show r=if Pl.hasB Pl.words s 17=true then 115 else 119 by rw[HW.out,if_neg (by rintro (h | h);exact g2 h;exact g3 h)])
 have K:Hid (∀w,Calls Tryz.prog 51 #[] w fun e w'=>e=.returned (.slice (some ⟨w.heap.size,0,none⟩) 17 17)/\w'=w.alloc (.cells (Pl.words.map Value.string).toArray 9)):=l3Words_any
 have K2:Hid (∀w:World,Calls Tryz.prog 30 #[.slice (some ⟨w.heap.size,0,none⟩) 17 17,.string s] (w.alloc (.cells (Pl.words.map Value.string).toArray 9)) fun e w'=>e=.returned (.bool (Pl.hasB Pl.words s 17))/\w'=w.alloc (.cells (Pl.words.map Value.string).toArray 9)):=fun w=>l3Has_any Pl.words w.heap.size 0 17 s _ (by decide) (by
  intro j hj
  rw[World.cell?_alloc_at _ _ _ _ sI]
  exact words_at j hj)
 have HB:Hid (∀o,Below w.heap.size w (w.alloc o)):=fun o=>(Below.refl _ _).alloc (Nat.le_refl _) _
 generalize Obj.cells (Pl.words.map Value.string).toArray 9=ob at *
 generalize Pl.hasB Pl.words s 17=q at *
 have HG:=zH g2
 clear g2
 by_cases g4:65<=x
 ·have g5:¬x<=90:=fun h=>g3 ⟨g4,h⟩
  clear g3
  cases q
  ·have HR:=zH (show r=119 by rw[HW.out];rfl)
   exact tWkd1
  have HR:=zH (show r=115 by rw[HW.out];rfl)
  exact tWkd1
 clear g3
 cases q
 ·have HR:=zH (show r=119 by rw[HW.out];rfl)
  exact tWkd1
 have HR:=zH (show r=115 by rw[HW.out];rfl)
 exact tWkd1
namespace Pl
def nameS (s:ByteArray) (kd:Int):Bool:=decide (s.size ≠ 0) && lttI (bt s 0) && decide (stre s (s.size-0) 0=s.size) && decide (wkS s=kd)
end Pl
theorem ba_nil {s:ByteArray}:(s.toList == [])=decide (s.size=0):=by
 rw[ByteArray.toList_eq]
 cases s with
 |mk d =>
  cases d with
  |mk l=>cases l <;> simp[ByteArray.size]
theorem tNok1 {P:Prop}(h:P:=by
 go_enter Tryz.func43,Tryz.ntmps43
 go_wp2_with (first | (go_at_call 28;refine(K.out _).mono ?_;rintro e w' ⟨rfl,rfl⟩) | (go_at_call 26;refine(K2.out _).mono ?_;rintro e w' ⟨rfl,rfl⟩))
 go_ret
 exact⟨ret_bool HR.out.symm,Below.refl _ _⟩
 ):P:=h
theorem l3NameOk_any (s:ByteArray) (kd:Int) (w:World) (hl:s.size<=9223372036854775807) :
  Calls Tryz.prog 43 #[.string s,.int .u8 kd] w fun e w'=>e=.returned (.bool (Pl.nameS s kd))/\Below w.heap.size w w':=by
 by_cases h0:s.size=0
 ·have hq:(s.toList == [])=true:=by rw[ba_nil];exact decide_eq_true h0
  have HR:=zH (show Pl.nameS s kd=false by simp[Pl.nameS,h0])
  clear h0
  go_enter Tryz.func43,Tryz.ntmps43
  go_wp2
  go_ret
  exact⟨ret_bool HR.out.symm,Below.refl _ _⟩
 have hq:(s.toList == [])=false:=by rw[ba_nil];exact decide_eq_false h0
 have hix:∀w,(Instr.index 9 (.string s) (.int .i64 0)).run Tryz.prog w=.ok (.int .u8 (Pl.bt s 0)) w:=idx_str s 0 oM
 have HW:Hid (Pl.nameS s kd=(Pl.lttI (Pl.bt s 0) && decide (Pl.stre s (s.size-0) 0=s.size) && decide (Pl.wkS s=kd))):=by show _=_;simp[Pl.nameS,h0]
 have K:Hid (∀w,Calls Tryz.prog 28 #[.int .u8 (Pl.bt s 0)] w fun e w'=>e=.returned (.bool (Pl.lttI (Pl.bt s 0)))/\w'=w):=l3Letter_any _
 have K2:Hid (∀w,Calls Tryz.prog 26 #[.string s,.int .i64 0] w fun e w'=>e=.returned (.int .i64 (Pl.stre s (s.size-0) 0:Nat))/\w'=w):=fun w=>l3Stretch_any s 0 w (Nat.zero_le _) hl
 have K3:Hid (∀w,Calls Tryz.prog 29 #[.string s] w fun e w'=>e=.returned (.int .u8 (Pl.wkS s))/\Below w.heap.size w w'):=fun w=>l3WordKind_any s w oM hl
 generalize Pl.nameS s kd=r at *
 generalize Pl.wkS s=y at *
 generalize Pl.stre s (s.size-0) 0=z at *
 generalize Pl.bt s 0=x at *
 cases h1:Pl.lttI x
 ·rw[h1] at K
  have HR:=zH (show r=false by rw[HW.out,h1];rfl)
  clear h1
  exact tNok1
 rw[h1] at K
 have HW:=zH (show r=(decide (z=s.size) && decide (y=kd)) by rw[HW.out,h1,Bool.true_and])
 clear h1
 generalize hn:s.size=n at *
 by_cases h2:z=n
 ·have h2':((z:Int) != n)=false:=by simp[h2]
  have HW:=zH (show r=decide (y=kd) by rw[HW.out,decide_eq_true h2,Bool.true_and])
  clear h2
  go_enter Tryz.func43,Tryz.ntmps43
  go_wp2_with (first | (go_at_call 28;refine(K.out _).mono ?_;rintro e w' ⟨rfl,rfl⟩) | (go_at_call 26;refine(K2.out _).mono ?_;rintro e w' ⟨rfl,rfl⟩) | (go_at_call 29;refine(K3.out _).mono ?_;rintro e w' ⟨rfl,hb⟩))
  go_ret
  exact⟨ret_bool (by rw[HW.out];rfl),hb⟩
 have h2':((z:Int) != n)=true:=by simp;omega
 have HR:=zH (show r=false by rw[HW.out,decide_eq_false h2];rfl)
 clear h2
 exact tNok1
namespace Pl
def sta (c:List Sv) (n:Nat):Int:=match nd c n with | some (_,m)=>m | none=>-1
theorem sta_zero (c:List Sv):sta c 0=-1:=rfl
theorem sta_at {c:List Sv}{i:Nat}{s:Sv}(h:c[i]? = some s) (hk:s.k=1\/s.k=2):sta c (i+1)=i:=by
 unfold sta
 rw[nd_succ c i s h,if_pos (by simp[ar,hk])]
theorem sta_rest {c:List Sv}{i:Nat}{s:Sv}(h:c[i]? = some s) (h1:s.k ≠ 1) (h2:s.k ≠ 2):(s.k=3\/sta c i<0->sta c (i+1)=sta c i)/\(s.k ≠ 3->0<=sta c i->∃m:Nat,sta c i=m/\m<i/\sta c (i+1)=sta c m):=by
 have e:=nd_succ c i s h
 rw[if_neg (by simp[ar,h1,h2];split <;> simp)] at e
 unfold sta
 cases en:nd c i with
 |none =>
  rw[en] at e
  rw[e]
  exact⟨fun _=>rfl,fun _ h=>absurd h (by decide)⟩
 |some r =>
  obtain⟨t,m⟩:=r
  rw[en] at e
  simp only[] at e
  have hm:=(nd_le en).1
  by_cases h3:s.k=3
  ·rw[if_pos (by simp[ar,h3])] at e
   rw[e]
   exact⟨fun _=>rfl,fun h=>absurd h3 h⟩
  rw[if_neg (by simp[ar,h1,h2,h3])] at e
  refine⟨fun h=>?_,fun _ _=>⟨m,rfl,hm,?_⟩⟩
  ·rcases h with h|h
   ·exact absurd h h3
   simp only[] at h;omega
  rw[e]
  cases nd c m with
  |none=>rfl
  |some r=>rfl
theorem sta_le (c:List Sv) (n:Nat):-1<=sta c n/\sta c n<n:=by
 unfold sta
 cases e:nd c n with
 |none=>simp only[];omega
 |some r=>have:=(nd_le e).1;simp only[];omega
end Pl
theorem tSta1 {P:Prop}(h:P:=by
 generalize Pl.sta c i=y at *
 generalize Pl.sta c (i+1)=z at *
 go_enter Tryz.func70,Tryz.ntmps70
 go_wp2_with fail
 refine K.out.mono ?_
 rintro e w' ⟨rfl,rfl⟩
 go_wp2_with fail
 go_ret
 exact⟨ret_int E.out.symm,rfl⟩
 ):P:=h
theorem l3Start_any (c:List Pl.Sv) (b o cap:Nat) (hl:c.length<=1048576) (w:World) (hc:∀(i:Nat) (s:Pl.Sv),c[i]? = some s->w.cell? ⟨b,o+i * 7,none⟩=some (.int .i64 s.k)) :
  ∀n:Nat,n<=c.length->Calls Tryz.prog 70 #[.slice (some ⟨b,o,none⟩) c.length cap,.int .i64 ((n:Int)-1)] w fun e w'=>e=.returned (.int .i64 (Pl.sta c n))/\w'=w:=by
 intro n
 induction n using Nat.strongRecOn with
 |_ n ih =>
  intro hn
  cases n with
  |zero =>
   go_enter Tryz.func70,Tryz.ntmps70
   go_wp2
   go_ret
   exact⟨rfl,rfl⟩
  |succ i =>
   have hi:i<c.length:=hn
   obtain⟨s,hs⟩:∃s,c[i]? = some s:=⟨c[i],List.getElem?_eq_getElem hi⟩
   have hcell:=hc i s hs
   have HA:=zH (Pl.sta_at hs)
   have HR:=zH (fun h1 h2=>Pl.sta_rest hs h1 h2)
   have IH:=zH ih
   have K:Hid (Calls Tryz.prog 70 #[.slice (some ⟨b,o,none⟩) c.length cap,.int .i64 ((i:Int)-1)] w fun e w'=>e=.returned (.int .i64 (Pl.sta c i))/\w'=w):=ih i oM oM
   clear ih hc
   have hx:(((i+1:Nat):Int)-1)=(i:Int):=by omega
   rw[hx]
   clear hx
   generalize hk:s.k=k at *
   generalize hL:c.length=L at *
   by_cases h1:k=1
   ·have HX:=zH (HA.out (.inl h1))
    subst h1
    clear HA HR
    go_enter Tryz.func70,Tryz.ntmps70
    go_wp2
    go_ret
    exact⟨ret_int HX.out.symm,rfl⟩
   by_cases h2:k=2
   ·have HX:=zH (HA.out (.inr h2))
    subst h2
    clear HA HR
    go_enter Tryz.func70,Tryz.ntmps70
    go_wp2
    go_ret
    exact⟨ret_int HX.out.symm,rfl⟩
   have R:=zH (HR.out h1 h2)
   clear HA HR
   by_cases h3:k=3
   ·have E:=zH (R.out.1 (.inl h3))
    subst h3
    clear R h1 h2
    exact tSta1
   have hb1:(k == 1)=false:=by simp[h1]
   have hb2:(k == 2)=false:=by simp[h2]
   have hb3:(k == 3)=false:=by simp[h3]
   by_cases hneg:Pl.sta c i<0
   ·have E:=zH (R.out.1 (.inr hneg))
    clear R h1 h2 h3
    exact tSta1
   obtain⟨m,e1,hm,e2⟩:=R.out.2 h3 oM
   have K2:Hid (Calls Tryz.prog 70 #[.slice (some ⟨b,o,none⟩) L cap,.int .i64 ((m:Int)-1)] w fun e w'=>e=.returned (.int .i64 (Pl.sta c m))/\w'=w):=IH.out m oM oM
   rw[e1] at K
   have E:=zH e2
   clear R e1 e2 hneg IH h1 h2 h3
   generalize Pl.sta c m=y at *
   generalize Pl.sta c (i+1)=z at *
   go_enter Tryz.func70,Tryz.ntmps70
   go_wp2_with fail
   refine K.out.mono ?_
   rintro e w' ⟨rfl,rfl⟩
   go_wp2_with fail
   refine K2.out.mono ?_
   rintro e w'' ⟨rfl,rfl⟩
   go_wp2_with fail
   go_ret
   exact⟨ret_int E.out.symm,rfl⟩
namespace Pl
def nsum (c:List Sv) (k:Nat):Nat:=((c.take k).map fun s=>s.nums.length).sum
theorem nsum_succ {c:List Sv}{k:Nat}{s:Sv}(h:c[k]? = some s):nsum c (k+1)=nsum c k+s.nums.length:=by
 unfold nsum
 rw[List.take_add_one,h]
 simp
theorem nsum_le (c:List Sv):∀k,nsum c k<=nsum c c.length:=by
 intro k
 unfold nsum
 rw[List.take_length]
 have e:c=c.take k++c.drop k:=(List.take_append_drop k c).symm
 have:=congrArg (fun l=>(l.map fun s:Sv=>s.nums.length).sum) e
 simp only[List.map_append,List.sum_append] at this
 omega
theorem csz_eq (c:List Sv):csz c=c.length+nsum c c.length:=by unfold csz nsum;rw[List.take_length]
end Pl
theorem l3Size_any (c:List Pl.Sv) (b o cap:Nat) (hl:Pl.csz c<=4611686018427387904) (w:World) (hc:∀(i:Nat) (s:Pl.Sv),c[i]? = some s->∃a cp,w.cell? ⟨b,o+i * 7+1,none⟩=some (.slice a s.nums.length cp)) :
  Calls Tryz.prog 69 #[.slice (some ⟨b,o,none⟩) c.length cap] w fun e w'=>e=.returned (.int .i64 (Pl.csz c:Nat))/\w'=w:=by
 have HS:Hid (∀k s,c[k]? = some s->Pl.nsum c (k+1)=Pl.nsum c k+s.nums.length):=fun k s=>Pl.nsum_succ
 have HM:Hid (∀k,Pl.nsum c k<=Pl.nsum c c.length):=Pl.nsum_le c
 have HG:Hid (∀k,k<c.length->∃s,c[k]? = some s):=fun k hk=>⟨c[k],List.getElem?_eq_getElem hk⟩
 have HC:=zH hc
 clear hc
 have E0:=zH (Pl.csz_eq c)
 rw[E0.out] at hl
 rw[E0.out]
 clear E0
 generalize hL:c.length=L at *
 generalize hT:Pl.nsum c L=T at *
 have HT:=zH hT
 clear hT
 go_enter Tryz.func69,Tryz.ntmps69
 go_wp2
 go_loop [3,4] (fun u v=>∃k:Nat,k<=L/\v=.int .i64 k/\u=.int .i64 (L+Pl.nsum c k:Nat)) (fun u v=>L-(intOf v).toNat)
 case atStart=>exact⟨0,Nat.zero_le _,rfl,by simp[Pl.nsum]⟩
 obtain⟨k,hk,rfl,rfl⟩:=hrel
 by_cases hlt:k<L
 ·obtain⟨s,hs⟩:=HG.out k hlt
  obtain⟨a,cp,hcell⟩:=HC.out k s hs
  have N:=zH (HS.out k s hs)
  have M1:=HM.out (k+1)
  rw[N.out] at M1
  clear HS HM HG HC hs
  generalize s.nums.length=q at *
  generalize Pl.nsum c k=y at *
  go_wp2
  go_round
  case rel=>exact⟨k+1,by omega,by go_num,by rw[N.out];go_num⟩
  simp[intOf];omega
 obtain rfl:k=L:=by omega
 clear HS HM HG HC
 go_wp2
 go_ret
 exact⟨ret_int (by rw[HT.out]),rfl⟩
theorem leftBehind_any (x:Int) (c:List Pl.Sv) (b o cap:Nat) (hx0:-2305843009213693952<=x) (hx1:x<=2305843009213693952) (hl:Pl.csz c<=2305843009213693952) (w:World) (hc:∀(i:Nat) (s:Pl.Sv),c[i]? = some s->∃a cp,w.cell? ⟨b,o+i * 7+1,none⟩=some (.slice a s.nums.length cp)) :
  Calls Tryz.prog 74 #[.int .i64 x,.slice (some ⟨b,o,none⟩) c.length cap] w fun e w'=>∃r:Int,e=.returned (.int .i64 r)/\w'=w/\x-(Pl.csz c:Nat)<=r/\(0<=x-(Pl.csz c:Nat)->r=x-(Pl.csz c:Nat))/\(x-(Pl.csz c:Nat)<0->r<0):=by
 have HS:Hid (∀k s,c[k]? = some s->Pl.nsum c (k+1)=Pl.nsum c k+s.nums.length):=fun k s=>Pl.nsum_succ
 have HM:Hid (∀k,Pl.nsum c k<=Pl.nsum c c.length):=Pl.nsum_le c
 have HG:Hid (∀k,k<c.length->∃s,c[k]? = some s):=fun k hk=>⟨c[k],List.getElem?_eq_getElem hk⟩
 have HC:=zH hc
 clear hc
 have E0:=zH (Pl.csz_eq c)
 rw[E0.out] at hl
 rw[E0.out]
 clear E0
 generalize hL:c.length=L at *
 generalize hT:Pl.nsum c L=T at *
 have HT:=zH hT
 clear hT
 go_enter Tryz.func74,Tryz.ntmps74
 go_wp2
 go_loop [0,5] (fun u v=>∃k:Nat,k<=L/\v=.int .i64 k/\u=.int .i64 (x-L-(Pl.nsum c k:Nat))) (fun u v=>L-(intOf v).toNat)
 case atStart=>exact⟨0,Nat.zero_le _,rfl,by simp[Pl.nsum]⟩
 obtain⟨k,hk,rfl,rfl⟩:=hrel
 have M0:=HM.out k
 by_cases hlt:k<L
 ·obtain⟨s,hs⟩:=HG.out k hlt
  obtain⟨a,cp,hcell⟩:=HC.out k s hs
  have N:=zH (HS.out k s hs)
  have M1:=HM.out (k+1)
  rw[N.out] at M1
  clear HS HM HG HC hs
  generalize s.nums.length=q at *
  generalize Pl.nsum c k=y at *
  by_cases hp:0<=x-L-(y:Int)
  ·go_wp2
   go_round
   case rel=>exact⟨k+1,by omega,by go_num,by rw[N.out];go_num⟩
   simp[intOf];omega
  go_wp2
  go_ret
  exact⟨_,rfl,rfl,by omega,by omega,by omega⟩
 obtain rfl:k=L:=by omega
 clear HS HM HG HC
 have e:=HT.out
 generalize Pl.nsum c k=y at *
 subst e
 go_wp2
 go_ret
 exact⟨_,rfl,rfl,by omega,by omega,by omega⟩
theorem taken_any (k fk fx fb:Int) (a:Option Addr) (n cp:Nat) (nm fn:ByteArray) (w:World) :
  Calls Tryz.prog 106 #[.agg #[.int .i64 k,.slice a n cp,.string nm,.int .i64 fk,.int .i64 fx,.int .i64 fb,.string fn]] w fun e w'=>e=.returned (.int .i64 (if k=3 then 1 else if k=4 then 2 else 0))/\Below w.heap.size w w':=by
 have HB:Hid (∀o,Below w.heap.size w (w.alloc o)):=fun o=>(Below.refl _ _).alloc (Nat.le_refl _) _
 generalize hr:(if k=3 then 1 else if k=4 then 2 else 0:Int)=r
 by_cases h3:k=3
 ·have HR:=zH (show (1:Int)=r by rw[<- hr,if_pos h3])
  subst h3
  clear hr
  go_enter Tryz.func106,Tryz.ntmps106
  go_wp2
  go_ret
  exact⟨ret_int HR.out,HB.out _⟩
 by_cases h4:k=4
 ·have HR:=zH (show (2:Int)=r by rw[<- hr,if_neg h3,if_pos h4])
  subst h4
  clear hr h3
  go_enter Tryz.func106,Tryz.ntmps106
  go_wp2
  go_ret
  exact⟨ret_int HR.out,HB.out _⟩
 have hb3:(k == 3)=false:=by simp[h3]
 have hb4:(k == 4)=false:=by simp[h4]
 have HR:=zH (show (0:Int)=r by rw[<- hr,if_neg h3,if_neg h4])
 clear h3 h4 hr
 go_enter Tryz.func106,Tryz.ntmps106
 go_wp2
 go_ret
 exact⟨ret_int HR.out,HB.out _⟩
namespace Pl
def al (c:UInt8):Bool:=isL c || isD c
theorem ltt_eq (c:UInt8):lttI (c.toNat:Int)=isL c:=by
 rw[Bool.eq_iff_iff]
 simp only[lttI,isL,isC,Bool.or_eq_true,Bool.and_eq_true,decide_eq_true_eq,UInt8.le_iff_toNat_le]
 simp
 omega
theorem cap_eq (c:UInt8):(65<=(c.toNat:Int)/\(c.toNat:Int)<=90) ↔ isC c=true:=by
 simp only[isC,Bool.and_eq_true,decide_eq_true_eq,UInt8.le_iff_toNat_le]
 simp
 omega
theorem ld_eq (c:UInt8):ldI (c.toNat:Int)=al c:=by
 rw[Bool.eq_iff_iff]
 simp only[ldI,digI,al,ltt_eq,isD,Bool.or_eq_true,Bool.and_eq_true,decide_eq_true_eq,UInt8.le_iff_toNat_le]
 simp
 constructor
 ·rintro (h|h)
  ·right;omega
  left;exact h
 rintro (h|h)
 ·right;exact h
 left;omega
theorem bt_at (s:ByteArray) (k:Nat) (h:k<s.data.toList.length):bt s k=((s.data.toList[k]'h).toNat:Int):=by
 unfold bt
 have h':k<s.data.size:=by simpa using h
 rw[getElem!_pos s.data k h']
 simp
theorem stre_list (s:ByteArray):∀n k,s.data.toList.length=k+n->decide (stre s n k=s.data.toList.length)=(s.data.toList.drop k).all al:=by
 intro n
 induction n with
 |zero=>intro k h;rw[h,List.drop_of_length_le oM];simp[stre]
 |succ n ih =>
  intro k h
  have hk:k<s.data.toList.length:=by omega
  rw[List.drop_eq_getElem_cons hk,List.all_cons,stre,bt_at s k hk,ld_eq]
  split
  ·rename_i e
   rw[ih (k+1) oM,e,Bool.true_and]
  rename_i e
  rw[Bool.eq_false_iff.2 e,Bool.false_and]
  exact decide_eq_false oM
theorem stre_le (s:ByteArray):∀n k,k<=stre s n k/\stre s n k<=k+n:=by
 intro n
 induction n with
 |zero=>intro k;simp[stre]
 |succ n ih =>
  intro k
  unfold stre
  split
  ·have:=ih (k+1);omega
  omega
theorem bt_zero (s:ByteArray) (h:s.data.toList ≠ []):bt s 0=((s.data.toList.headD 0).toNat:Int):=by
 have hl:0<s.data.toList.length:=List.length_pos_iff.2 h
 rw[bt_at s 0 hl]
 have key:∀(l:List UInt8) (hl:0<l.length),((l[0]'hl).toNat:Int)=((l.headD 0).toNat:Int):=by
  intro l hl
  cases l with
  |nil=>cases hl
  |cons x l=>rfl
 exact key _ hl
theorem sz_eq (s:ByteArray):s.size=s.data.toList.length:=by cases s with | mk d=>simp[ByteArray.size]
theorem ba_iff (s t:ByteArray):s=t ↔ s.data.toList=t.data.toList:=by
 cases s with | mk a=>cases t with | mk b=>cases a with | mk a=>cases b with | mk b=>simp
theorem words_mgs (s:ByteArray) (hs:s.data.toList ≠ selfW) (hL:isL (s.data.toList.headD 0)=true):hasB words s 17=mgs.any (fun m=>decide (m.t=s.data.toList)):=by
 have h1:∀x∈words,x.data.toList=selfW\/mgs.any (fun m=>decide (m.t=x.data.toList))=true:=by decide
 have h2:∀m∈mgs,isL (m.t.headD 0)=true->words.any (fun x=>decide (x.data.toList=m.t))=true:=by decide
 have e:words.take 17=words:=rfl
 unfold hasB
 rw[e,Bool.eq_iff_iff]
 constructor
 ·intro h
  obtain⟨x,hx,e⟩:=List.any_eq_true.1 h
  have e:=of_decide_eq_true e
  subst e
  rcases h1 _ hx with h|h
  ·exact absurd h hs
  exact h
 intro h
 obtain⟨m,hm,e⟩:=List.any_eq_true.1 h
 have e:=of_decide_eq_true e
 obtain⟨x,hx,ex⟩:=List.any_eq_true.1 (h2 m hm (by rw[e];exact hL))
 rw[List.any_eq_true]
 refine⟨x,hx,?_⟩
 rw[decide_eq_true_eq,ba_iff,of_decide_eq_true ex]
 exact e
theorem nameS_eq (s:ByteArray) (kd:Int):nameS s kd=(decide (s.data.toList ≠ []) && isL (s.data.toList.headD 0) && s.data.toList.all al && decide (wkS s=kd)):=by
 unfold nameS
 rw[sz_eq]
 by_cases h:s.data.toList=[]
 ·simp[h]
 have:=stre_list s (s.data.toList.length-0) 0 oM
 have hn:s.data.toList.length ≠ 0:=fun e=>h (List.eq_nil_of_length_eq_zero e)
 rw[this,bt_zero s h,ltt_eq,List.drop_zero,decide_eq_true hn,decide_eq_true (p:=s.data.toList ≠ []) h]
theorem self_iff (s:ByteArray):s=⟨#[115,101,108,102]⟩ ↔ s.data.toList=selfW:=by rw[ba_iff];rfl
theorem wkS_eq (s:ByteArray) (h:s.data.toList ≠ []) (hL:isL (s.data.toList.headD 0)=true):wkS s=if 20<s.data.toList.length then 120 else if s.data.toList=selfW\/isC (s.data.toList.headD 0)=true then 70 else if mgs.any (fun m=>decide (m.t=s.data.toList))=true then 115 else 119:=by
 unfold wkS
 rw[sz_eq,bt_zero s h]
 by_cases hs:s.data.toList=selfW
 ·simp only[self_iff,hs,true_or,if_true]
 rw[words_mgs s hs hL]
 simp only[self_iff,cap_eq]
theorem tMem1 {P:Prop}(h:P:=by
 rw[nameS_eq]
 by_cases h:s.data.toList=[]
 ·simp[h,wk]
 cases hL:isL (s.data.toList.headD 0)
 ·unfold wk;simp only[hL];simp
 rw[wkS_eq s h hL]
 unfold wk
 rw[if_neg h,hL,show (fun c=>isL c || isD c)=al from rfl]
 cases ha:s.data.toList.all al <;> (by_cases h20:20<s.data.toList.length <;> simp only[h20,if_true,if_false] <;> try simp)
 all_goals (split <;> try split) <;> simp_all
 ):P:=h
theorem nameS_F (s:ByteArray):nameS s 70=decide (wk s.data.toList=3):=by
 exact tMem1
theorem nameS_w (s:ByteArray):nameS s 119=decide (wk s.data.toList=2):=by
 exact tMem1
end Pl
namespace Pl
theorem wk_I (s:ByteArray) (h0:s.size ≠ 0):wk s.data.toList=if 20<s.size then 0 else if lttI (bt s 0)=false then 0 else if stre s (s.size-1) 1<s.size then 0 else if s=⟨#[115,101,108,102]⟩\/(65<=bt s 0/\bt s 0<=90) then 3 else if mgs.any (fun m=>decide (m.t=s.data.toList))=true then 4 else 2:=by
 rw[sz_eq] at h0
 have h:s.data.toList ≠ []:=fun e=>h0 (by rw[e];rfl)
 have hs:=stre_list s (s.data.toList.length-1) 1 oM
 have hle:=(stre_le s (s.data.toList.length-1) 1).2
 rw[sz_eq,bt_zero s h,ltt_eq]
 unfold wk
 rw[if_neg h,show (fun c=>isL c || isD c)=al from rfl]
 simp only[self_iff,cap_eq]
 by_cases h20:20<s.data.toList.length
 ·rw[if_pos h20,if_pos h20]
 rw[if_neg h20,if_neg h20]
 cases hL:isL (s.data.toList.headD 0)
 ·rfl
 have ha:s.data.toList.all al=(s.data.toList.drop 1).all al:=by
  cases e:s.data.toList with
  |nil=>exact absurd e h
  |cons x l =>
   rw[e] at hL
   have hx:al x=true:=by unfold al;rw[show isL x=true from hL];rfl
   rw[List.all_cons,hx];rfl
 rw[ha,<- hs]
 by_cases hq:stre s (s.data.toList.length-1) 1=s.data.toList.length
 ·have hl:¬stre s (s.data.toList.length-1) 1<s.data.toList.length:=by omega
  simp only[decide_eq_true hq,hl,if_false,Bool.true_eq_false]
 have hl:stre s (s.data.toList.length-1) 1<s.data.toList.length:=by omega
 simp only[decide_eq_false hq,hl,if_false,if_true,Bool.true_eq_false]
end Pl
namespace Pl
def nt (n:Int):List UInt8:=if n<0 then 95::Lib.decDigits n.natAbs else Lib.decDigits n.toNat
theorem dig_mem (u:Nat):∀c∈Lib.decDigits u,48<=c.toNat/\c.toNat<=57:=by
 induction u using Nat.strongRecOn with
 |_ u ih =>
  intro c hc
  rw[Lib.decDigits] at hc
  split at hc
  ·have e:c=UInt8.ofNat (48+u):=by simpa using hc
   rw[e]
   have:(UInt8.ofNat (48+u)).toNat=48+u:=by
    rw[UInt8.toNat_ofNat'];omega
   omega
  rcases List.mem_append.1 hc with h|h
  ·exact ih _ oM c h
  have e:c=UInt8.ofNat (48+u % 10):=by simpa using h
  rw[e]
  have:(UInt8.ofNat (48+u % 10)).toNat=48+u % 10:=by
   rw[UInt8.toNat_ofNat'];omega
  omega
theorem dig_ne (u:Nat):Lib.decDigits u ≠ []:=by
 rw[Lib.decDigits]
 split <;> simp
theorem idx_none (l:List UInt8) (h:∀c∈l,c ≠ 45):Lib.index l [45]=-1:=by
 induction l with
 |nil=>rfl
 |cons b l ih =>
  have hb:=h b (List.mem_cons_self ..)
  have:=ih fun c hc=>h c (List.mem_cons_of_mem _ hc)
  unfold Lib.index
  rw[this]
  have:([45]:List UInt8).isPrefixOf (b::l)=false:=by
   simp[List.isPrefixOf]
   exact fun e=>hb e.symm
  rw[this]
  rfl
theorem dig_45 (u:Nat):∀c∈Lib.decDigits u,c ≠ 45:=by
 intro c hc e
 have:=dig_mem u c hc
 rw[e] at this
 simp at this
theorem rep_nt (n:Int):Lib.replace (Lib.itoa n) [45] [95] 1=nt n:=by
 unfold Lib.replace Lib.itoa nt
 rw[if_neg (by decide)]
 split
 ·have hi:Lib.index (45::Lib.decDigits n.natAbs) [45]=0:=by
   unfold Lib.index
   simp[List.isPrefixOf]
  have hr:=idx_none _ (dig_45 n.natAbs)
  have hc:Lib.count (45::Lib.decDigits n.natAbs) [45]=1:=by
   unfold Lib.count Lib.countFrom
   rw[hi]
   simp only[List.length_cons]
   unfold Lib.countFrom
   simp[hr]
  unfold Lib.replaceNum
  rw[hc,if_neg (by decide)]
  show Lib.replaceK _ _ 1 _=_
  unfold Lib.replaceK
  rw[hi]
  rfl
 have hr:=idx_none _ (dig_45 n.toNat)
 have hc:Lib.count (Lib.decDigits n.toNat) [45]=0:=by
  unfold Lib.count Lib.countFrom
  rw[hr]
  rfl
 unfold Lib.replaceNum
 rw[hc,if_pos (by decide)]
 rfl
theorem count_nt (n:Int):Lib.count (Lib.itoa n) [45]<=1:=by
 unfold Lib.itoa
 split
 ·have hi:Lib.index (45::Lib.decDigits n.natAbs) [45]=0:=by
   unfold Lib.index
   simp[List.isPrefixOf]
  have hr:=idx_none _ (dig_45 n.natAbs)
  unfold Lib.count Lib.countFrom
  rw[hi]
  simp only[List.length_cons]
  unfold Lib.countFrom
  simp[hr]
 have hr:=idx_none _ (dig_45 n.toNat)
 unfold Lib.count Lib.countFrom
 rw[hr]
 simp
theorem nt_head (n:Int):∃c l,nt n=c::l/\(c=95\/(48<=c.toNat/\c.toNat<=57)):=by
 unfold nt
 split
 ·exact⟨_,_,rfl,.inl rfl⟩
 cases e:Lib.decDigits n.toNat with
 |nil=>exact absurd e (dig_ne _)
 |cons c l=>exact⟨c,l,rfl,.inr (dig_mem n.toNat c (by rw[e];exact List.mem_cons_self ..))⟩
theorem nt_fine (n:Int):lfB (nt n)=false/\rtB (nt n)=false:=by
 obtain⟨c,l,e,h⟩:=nt_head n
 have key:∀x:UInt8,x ≠ 95->¬(48<=x.toNat/\x.toNat<=57)->nt n ≠ [x]:=by
  intro x h1 h2 e2
  rw[e] at e2
  obtain⟨rfl,_⟩:=List.cons.inj e2
  rcases h with h|h
  ·exact h1 h
  exact h2 h
 unfold lfB rtB
 simp only[decide_eq_false (key 40 (by decide) (by decide)),decide_eq_false (key 64 (by decide) (by decide)),decide_eq_false (key 46 (by decide) (by decide)),decide_eq_false (key 41 (by decide) (by decide)),decide_eq_false (key 47 (by decide) (by decide)),decide_eq_false (key 92 (by decide) (by decide))]
 exact⟨rfl,rfl⟩
theorem nt_len (n:Int) (h1:-9223372036854775808<=n) (h2:n<=9223372036854775807):(nt n).length<=21:=by
 unfold nt
 split
 ·rw[List.length_cons,Lib.decDigits_length]
  have:=Lib.nDigits_le20 n.natAbs oM
  omega
 rw[Lib.decDigits_length]
 have:=Lib.nDigits_le20 n.toNat oM
 omega
end Pl
namespace Pl
theorem sgn_len (f:Fnv):(sgn f).length<=5:=by
 unfold sgn
 split
 ·rename_i m e
  have hm:=List.mem_of_find?_eq_some e
  have:∀m∈mgs,m.t.length<=5:=by decide
  exact this m hm
 decide
theorem wk_len {s:List UInt8}(h:wk s ≠ 0):s.length<=20:=by
 unfold wk at h
 split at h
 ·exact absurd rfl h
 split at h
 ·exact absurd rfl h
 omega
theorem ftx_len {f:Fnv}(h:f.k=10->wk f.nm=3):(ftx f).length<=20:=by
 have s1:=sgn_len ⟨5,f.a,0,[]⟩
 have s2:=sgn_len ⟨5,f.b,0,[]⟩
 have s3:=sgn_len f
 unfold ftx osg
 split
 ·simp only[List.length_append,List.length_cons,List.length_nil];omega
 split
 ·simp only[List.length_append,List.length_cons,List.length_nil];omega
 split
 ·simp only[List.length_append,List.length_cons,List.length_nil];omega
 split
 ·simp only[List.length_append,List.length_cons,List.length_nil];omega
 split
 ·rename_i h10
  exact wk_len (by rw[h h10];decide)
 omega
def wt (s:Sv):Nat:=22 * s.nums.length+40
def wts (c:List Sv):Nat:=(c.map wt).sum
theorem wts_csz (c:List Sv):wts c<=40 * csz c:=by
 unfold wts csz
 induction c with
 |nil=>simp
 |cons s c ih=>simp only[List.map_cons,List.sum_cons,List.length_cons,wt];omega
theorem spt_len {tg:List UInt8->List UInt8->Bool}{n:Nat}:∀(l:List (List UInt8)) (p:List UInt8),(∀t∈l,t.length<=n)->(spt tg p l).length<=(n+1) * l.length:=by
 intro l
 induction l with
 |nil=>intro p _;simp[spt]
 |cons t l ih =>
  intro p h
  have h1:=ih t fun x hx=>h x (List.mem_cons_of_mem _ hx)
  have h2:=h t (List.mem_cons_self ..)
  have h3:(bl (tg p t)).length<=1:=by cases tg p t <;> simp[bl]
  simp only[spt,List.length_append,List.length_cons,Nat.mul_add]
  omega
theorem sp_len {tg:List UInt8->List UInt8->Bool}{n:Nat}(l:List (List UInt8)) (h:∀t∈l,t.length<=n):(sp tg l).length<=(n+1) * l.length:=by
 cases l with
 |nil=>simp[sp]
 |cons t l =>
  have h1:=spt_len (tg:=tg) l t fun x hx=>h x (List.mem_cons_of_mem _ hx)
  have h2:=h t (List.mem_cons_self ..)
  simp only[sp,List.length_append,List.length_cons,Nat.mul_add]
  omega
theorem ta_len {nt:Int->List UInt8}(hn:∀n,-3000000000<=n->n<=3000000000->(nt n).length<=21) {s:Sv}(h:sok s=true) (h0:ar s=0):(ta nt s).length<=wt s:=by
 unfold ta fa wt
 by_cases h1:s.k=1
 ·rw[if_pos h1]
  unfold sok at h
  rw[if_pos h1] at h
  simp only[numsB,Bool.and_eq_true,decide_eq_true_eq,List.all_eq_true] at h
  have:=sp_len (tg:=tg) (n:=21) (s.nums.map nt) (by
   intro t ht
   obtain⟨x,hx,rfl⟩:=List.mem_map.1 ht
   exact hn x (h.1.1.1.1 x hx).1 (h.1.1.1.1 x hx).2)
  rw[List.length_map] at this
  omega
 rw[if_neg h1]
 have h2:s.k=2:=by
  rcases sok_kind h with k|k|k|k
  ·exact absurd k h1
  ·exact k
  ·simp[ar,k] at h0
  simp[ar,k] at h0
 unfold sok at h
 rw[if_neg h1,if_pos h2] at h
 simp only[Bool.and_eq_true,decide_eq_true_eq] at h
 have:=wk_len (s:=s.nm) (by rw[h.1.1];decide)
 simp only[sp,spt,List.append_nil]
 omega
theorem txt_len {nt:Int->List UInt8}(hn:∀n,-3000000000<=n->n<=3000000000->(nt n).length<=21):∀t:Nd Sv,AllN (fun s=>sok s=true/\ar s=0) (fun s=>sok s=true/\ar s ≠ 0) t->(txt (ta nt) tf t).length<=wts t.post:=by
 intro t
 induction t with
 |«at» s=>intro h;simp only[txt,Nd.post,wts,List.map_cons,List.map_nil,List.sum_cons,List.sum_nil];have:=ta_len hn h.1 h.2;omega
 |one s r ih =>
  intro h
  have h1:=ih h.2
  have h2:=ftx_len (fn_call h.1.1 h.1.2)
  simp only[txt,tf,Nd.post,wts,wt,List.map_append,List.sum_append,List.length_append,List.map_cons,List.map_nil,List.sum_cons,List.sum_nil,List.length_cons,List.length_nil] at *
  omega
 |two s l r il ir =>
  intro h
  have h1:=il h.2.1
  have h3:=ir h.2.2
  have h2:=ftx_len (fn_call h.1.1 h.1.2)
  cases hb:bareN l <;> simp only[txt,hb,tf,Nd.post,wts,wt,List.map_append,List.sum_append,List.length_append,List.map_cons,List.map_nil,List.sum_cons,List.sum_nil,List.length_cons,List.length_nil] at * <;> omega
end Pl
namespace Pl
def ba (l:List UInt8):ByteArray:=⟨⟨l⟩⟩
theorem ba_list (s:ByteArray):ba s.data.toList=s:=rfl
theorem list_ba (l:List UInt8):(ba l).data.toList=l:=rfl
theorem ba_size (l:List UInt8):(ba l).size=l.length:=rfl
theorem ba_app (a b:List UInt8):ba (a++b)=ba a++ba b:=by
 apply ByteArray.ext
 simp[ba]
end Pl
def RdI (B:Nat) (w:World) (ao:Option Addr) (l:List Int):Prop :=
 l=[]\/∃b off,b<B/\ao=some ⟨b,off,none⟩/\∀(i:Nat) (x:Int),l[i]? = some x->w.cell? ⟨b,off+i,none⟩=some (.int .i64 x)
theorem RdI.keep {B:Nat}{w w':World}{ao:Option Addr}{l:List Int}(h:RdI B w ao l) (hb:Below B w w'):RdI B w' ao l:=by
 rcases h with h|⟨b,off,hB,rfl,hc⟩
 ·exact .inl h
 exact .inr ⟨b,off,hB,rfl,fun i x hi=>(hb.cell (p:=⟨b,off+i,none⟩) hB).trans (hc i x hi)⟩
theorem RdI.up {B B':Nat}{w:World}{ao:Option Addr}{l:List Int}(h:RdI B w ao l) (hb:B<=B'):RdI B' w ao l:=by
 rcases h with h|⟨b,off,hB,rfl,hc⟩
 ·exact .inl h
 exact .inr ⟨b,off,by omega,rfl,hc⟩
structure Stp (B:Nat) (w:World) (b o:Nat) (s:Pl.Sv) (ao:Option Addr) (cap:Nat):Prop where
 k:w.cell? ⟨b,o,none⟩=some (.int .i64 s.k)
 n:w.cell? ⟨b,o+1,none⟩=some (.slice ao s.nums.length cap)
 nm:w.cell? ⟨b,o+2,none⟩=some (.string (Pl.ba s.nm))
 fk:w.cell? ⟨b,o+3,none⟩=some (.int .i64 s.fn.k)
 fa:w.cell? ⟨b,o+4,none⟩=some (.int .i64 s.fn.a)
 fb:w.cell? ⟨b,o+5,none⟩=some (.int .i64 s.fn.b)
 fn:w.cell? ⟨b,o+6,none⟩=some (.string (Pl.ba s.fn.nm))
 rd:RdI B w ao s.nums
theorem Stp.keep {B:Nat}{w w':World}{b o:Nat}{s:Pl.Sv}{ao:Option Addr}{cap:Nat}(h:Stp B w b o s ao cap) (hB:b<B) (hb:Below B w w'):Stp B w' b o s ao cap :=
 ⟨(hb.cell (p:=⟨b,o,none⟩) hB).trans h.k,(hb.cell (p:=⟨b,o+1,none⟩) hB).trans h.n,(hb.cell (p:=⟨b,o+2,none⟩) hB).trans h.nm,(hb.cell (p:=⟨b,o+3,none⟩) hB).trans h.fk,(hb.cell (p:=⟨b,o+4,none⟩) hB).trans h.fa,(hb.cell (p:=⟨b,o+5,none⟩) hB).trans h.fb,(hb.cell (p:=⟨b,o+6,none⟩) hB).trans h.fn,h.rd.keep hb⟩
theorem Stp.up {B B':Nat}{w:World}{b o:Nat}{s:Pl.Sv}{ao:Option Addr}{cap:Nat}(h:Stp B w b o s ao cap) (hb:B<=B'):Stp B' w b o s ao cap :=
 ⟨h.k,h.n,h.nm,h.fk,h.fa,h.fb,h.fn,h.rd.up hb⟩
def RdS (B:Nat) (w:World) (ao:Option Addr) (c:List Pl.Sv):Prop :=
 c=[]\/∃b off,b<B/\ao=some ⟨b,off,none⟩/\∀(i:Nat) (s:Pl.Sv),c[i]? = some s->∃an cn,Stp B w b (off+i * 7) s an cn
theorem RdS.keep {B:Nat}{w w':World}{ao:Option Addr}{c:List Pl.Sv}(h:RdS B w ao c) (hb:Below B w w'):RdS B w' ao c:=by
 rcases h with h|⟨b,off,hB,rfl,hc⟩
 ·exact .inl h
 refine .inr ⟨b,off,hB,rfl,fun i x hi=>?_⟩
 obtain⟨an,cn,h⟩:=hc i x hi
 exact⟨an,cn,h.keep hB hb⟩
theorem RdS.up {B B':Nat}{w:World}{ao:Option Addr}{c:List Pl.Sv}(h:RdS B w ao c) (hb:B<=B'):RdS B' w ao c:=by
 rcases h with h|⟨b,off,hB,rfl,hc⟩
 ·exact .inl h
 refine .inr ⟨b,off,by omega,rfl,fun i x hi=>?_⟩
 obtain⟨an,cn,h⟩:=hc i x hi
 exact⟨an,cn,h.up hb⟩
structure Gd (B:Nat) (w:World) (b o:Nat) (g:Pl.Gv) (a1 a2:Option Addr) (c1 c2:Nat):Prop where
 t:w.cell? ⟨b,o,none⟩=some (.slice a1 g.test.length c1)
 h:w.cell? ⟨b,o+1,none⟩=some (.slice a2 g.thn.length c2)
 rt:RdS B w a1 g.test
 rh:RdS B w a2 g.thn
theorem Gd.keep {B:Nat}{w w':World}{b o:Nat}{g:Pl.Gv}{a1 a2:Option Addr}{c1 c2:Nat}(h:Gd B w b o g a1 a2 c1 c2) (hB:b<B) (hb:Below B w w'):Gd B w' b o g a1 a2 c1 c2 :=
 ⟨(hb.cell (p:=⟨b,o,none⟩) hB).trans h.t,(hb.cell (p:=⟨b,o+1,none⟩) hB).trans h.h,h.rt.keep hb,h.rh.keep hb⟩
theorem Gd.up {B B':Nat}{w:World}{b o:Nat}{g:Pl.Gv}{a1 a2:Option Addr}{c1 c2:Nat}(h:Gd B w b o g a1 a2 c1 c2) (hb:B<=B'):Gd B' w b o g a1 a2 c1 c2 :=
 ⟨h.t,h.h,h.rt.up hb,h.rh.up hb⟩
def RdG (B:Nat) (w:World) (ao:Option Addr) (c:List Pl.Gv):Prop :=
 c=[]\/∃b off,b<B/\ao=some ⟨b,off,none⟩/\∀(i:Nat) (g:Pl.Gv),c[i]? = some g->∃a1 a2 c1 c2,Gd B w b (off+i * 2) g a1 a2 c1 c2
theorem RdG.keep {B:Nat}{w w':World}{ao:Option Addr}{c:List Pl.Gv}(h:RdG B w ao c) (hb:Below B w w'):RdG B w' ao c:=by
 rcases h with h|⟨b,off,hB,rfl,hc⟩
 ·exact .inl h
 refine .inr ⟨b,off,hB,rfl,fun i x hi=>?_⟩
 obtain⟨a1,a2,c1,c2,h⟩:=hc i x hi
 exact⟨a1,a2,c1,c2,h.keep hB hb⟩
theorem RdG.up {B B':Nat}{w:World}{ao:Option Addr}{c:List Pl.Gv}(h:RdG B w ao c) (hb:B<=B'):RdG B' w ao c:=by
 rcases h with h|⟨b,off,hB,rfl,hc⟩
 ·exact .inl h
 refine .inr ⟨b,off,by omega,rfl,fun i x hi=>?_⟩
 obtain⟨a1,a2,c1,c2,h⟩:=hc i x hi
 exact⟨a1,a2,c1,c2,h.up hb⟩
structure Sm (B:Nat) (w:World) (b o:Nat) (s:Pl.Tv) (a1 a2:Option Addr) (c1 c2:Nat):Prop where
 k:w.cell? ⟨b,o,none⟩=some (.int .i64 s.k)
 nm:w.cell? ⟨b,o+1,none⟩=some (.string (Pl.ba s.nm))
 c:w.cell? ⟨b,o+2,none⟩=some (.slice a1 s.code.length c1)
 g:w.cell? ⟨b,o+3,none⟩=some (.slice a2 s.gs.length c2)
 rc:RdS B w a1 s.code
 rg:RdG B w a2 s.gs
theorem Sm.keep {B:Nat}{w w':World}{b o:Nat}{s:Pl.Tv}{a1 a2:Option Addr}{c1 c2:Nat}(h:Sm B w b o s a1 a2 c1 c2) (hB:b<B) (hb:Below B w w'):Sm B w' b o s a1 a2 c1 c2 :=
 ⟨(hb.cell (p:=⟨b,o,none⟩) hB).trans h.k,(hb.cell (p:=⟨b,o+1,none⟩) hB).trans h.nm,(hb.cell (p:=⟨b,o+2,none⟩) hB).trans h.c,(hb.cell (p:=⟨b,o+3,none⟩) hB).trans h.g,h.rc.keep hb,h.rg.keep hb⟩
theorem Sm.up {B B':Nat}{w:World}{b o:Nat}{s:Pl.Tv}{a1 a2:Option Addr}{c1 c2:Nat}(h:Sm B w b o s a1 a2 c1 c2) (hb:B<=B'):Sm B' w b o s a1 a2 c1 c2 :=
 ⟨h.k,h.nm,h.c,h.g,h.rc.up hb,h.rg.up hb⟩
def RdP (B:Nat) (w:World) (ao:Option Addr) (p:List Pl.Tv):Prop :=
 p=[]\/∃b off,b<B/\ao=some ⟨b,off,none⟩/\∀(i:Nat) (s:Pl.Tv),p[i]? = some s->∃a1 a2 c1 c2,Sm B w b (off+i * 4) s a1 a2 c1 c2
theorem RdP.keep {B:Nat}{w w':World}{ao:Option Addr}{c:List Pl.Tv}(h:RdP B w ao c) (hb:Below B w w'):RdP B w' ao c:=by
 rcases h with h|⟨b,off,hB,rfl,hc⟩
 ·exact .inl h
 refine .inr ⟨b,off,hB,rfl,fun i x hi=>?_⟩
 obtain⟨a1,a2,c1,c2,h⟩:=hc i x hi
 exact⟨a1,a2,c1,c2,h.keep hB hb⟩
theorem RdP.up {B B':Nat}{w:World}{ao:Option Addr}{c:List Pl.Tv}(h:RdP B w ao c) (hb:B<=B'):RdP B' w ao c:=by
 rcases h with h|⟨b,off,hB,rfl,hc⟩
 ·exact .inl h
 refine .inr ⟨b,off,by omega,rfl,fun i x hi=>?_⟩
 obtain⟨a1,a2,c1,c2,h⟩:=hc i x hi
 exact⟨a1,a2,c1,c2,h.up hb⟩
end Go.Proofs.YtbiiicbfpcfgdaaGreatDoor
