import Derived.Test.YtbiiicbfpcfgdaaGreatDoorGsm
namespace Go.Proofs.YtbiiicbfpcfgdaaGreatDoor
open Go.RowKit
set_option maxRecDepth 100000
set_option maxHeartbeats 16000000
set_option linter.unusedVariables false
theorem uDt21 {P:Prop}(h:P:=by simp[results,Tryz.results10,go_sem]):P:=h
theorem Dn.hdP {B P:Nat}{w0 w:World}{bs:List Nat}{pos:Nat}{v:Value}{c:List Pl.Tv}{F:List Nat}(h:Dn 43 4 Qt B P w0 w bs pos [] v c F):HdP w v c F:=OwP.hd h.o h.i
theorem Kx.on {w w1 w2:World}{P:Nat}(h:Kx w w1 [P]) (k:Kx w1 w2 [P]):Kx w w2 [P]:=h.trans k sI
def sliceLen:Value->Nat
 |.slice _ n _=>n
 |_=>0
theorem OwB.put {wq wr:World}{v:Value}{bs:List UInt8}(y:List UInt8) (n:Nat) (hy:y.length=n) (l:List Value) (hl:l=Lib.byteCells y) (h:OwB wr wq.heap.size v bs) (hb:Below wq.heap.size wq wr) (hbd:bs.length<=1048576) (hn:n<=2) (ty:TypeId) (p:Nat) (hp:p=wr.heap.size) :
  ∃a c w',(Builtin.append_ #[22,22] ty #[v,.slice (some ⟨p,0,none⟩) n n]).run Tryz.prog (wr.alloc (.cells l.toArray 5))=.ok (.slice a (bs.length+n) c) w'/\OwB w' wq.heap.size (.slice a (bs.length+n) c) (bs++y)/\Below wq.heap.size wq w':=by
 subst hp hl
 have hs:=hb.size
 have h1:=h.keep ((Below.refl wr.heap.size wr).alloc (Nat.le_refl _) (.cells (Lib.byteCells y).toArray 5))
 obtain⟨v',w',h2,h3,h4⟩:=h1.append (ys:=y) (b:=wr.heap.size) (cap:=n) (by simp;omega) (fun j u hu=>by have:=cells_new (w:=wr) (t:=5) (l:=Lib.byteCells y) rfl j u hu;rw[Nat.zero_add] at this;exact this) oM ty
 obtain⟨a,c,rfl⟩:=h3.form
 rw[List.length_append,hy] at h2 h3
 exact⟨a,c,w',h2,h3,(hb.trans ((Below.refl _ _).alloc hs _)).trans h4⟩
theorem drawText_any (B P:Nat) (w:World) (bs:List Nat) (pos:Nat) (h:Rr B P w bs pos):Calls Tryz.prog 10 #[.pointer (some ⟨P,0,none⟩)] w fun e w'=>∃s:ByteArray,e=.returned (.string s)/\s.size<=5000/\Kx w w' [P]:=by
 have hlt:=h.lt
 have K1:=zH (nextx_any B P w bs pos h)
 have hk:(Pl.nx bs pos).1<=255:=Pl.nx_le h.by_
 have HBY:=zH h.by_
 have KN:=zH (fun (X:World) (p:Nat) (r:Rr B P X bs p)=>nextx_any B P X bs p r)
 have KG:=zH (fun (X:World) (p:Nat) (r:Rr B P X bs p)=>genProg_any B P X bs p r)
 have KP:=zH (fun (X:World) (p:Nat) (a:Option Addr) (c:Nat) (r:RdP X.heap.size X a (Pl.gpr bs p).1)=>specPrint_any (Pl.gpr bs p).1 a c (Pl.gpr_small bs p) X r)
 have HPL:=zH (fun p=>Pl.prt_le Pl.nt (Pl.gpr bs p).1)
 have KC:=zH (fun (k:Nat) (hk:k<=100000) (X:World)=>classic_any k hk X)
 have KI:=zH (fun (k:Nat) (hk:k<=100000) (X:World)=>piece_any k hk X)
 generalize Pl.nx bs pos=q at *
 obtain⟨k,p1⟩:=q
 simp only at hk K1
 clear h
 have m8:Int.tmod (k:Int) 8=((k % 8:Nat):Int):=by rw[Int.tmod_eq_emod_of_nonneg oM];omega
 have m4:Int.tmod (k:Int) 4=((k % 4:Nat):Int):=by rw[Int.tmod_eq_emod_of_nonneg oM];omega
 have m16:Int.tmod (k:Int) 16=((k % 16:Nat):Int):=by rw[Int.tmod_eq_emod_of_nonneg oM];omega
 have m32:Int.tmod (k:Int) 32=((k % 32:Nat):Int):=by rw[Int.tmod_eq_emod_of_nonneg oM];omega
 have m64:Int.tmod (k:Int) 64=((k % 64:Nat):Int):=by rw[Int.tmod_eq_emod_of_nonneg oM];omega
 have d8:Int.tdiv (k:Int) 8=((k / 8:Nat):Int):=by rw[Int.tdiv_eq_ediv_of_nonneg oM];omega
 have d32:Int.tdiv (k:Int) 32=((k / 32:Nat):Int):=by rw[Int.tdiv_eq_ediv_of_nonneg oM];omega
 have d64:Int.tdiv (k:Int) 64=((k / 64:Nat):Int):=by rw[Int.tdiv_eq_ediv_of_nonneg oM];omega
 have n64:Int.tmod ((k / 64:Nat):Int) 3=((k / 64 % 3:Nat):Int):=by rw[Int.tmod_eq_emod_of_nonneg oM];omega
 have l8:k / 8<=31:=by omega
 have l32:k / 32<=7:=by omega
 have l64:k / 64<=3:=by omega
 have l643:k / 64 % 3<=2:=by omega
 generalize k % 8=x8 at *
 generalize k % 4=x4 at *
 generalize k % 16=x16 at *
 generalize k % 32=x32 at *
 generalize k % 64=x64 at *
 generalize k / 64 % 3=y643 at *
 generalize k / 8=y8 at *
 generalize k / 32=y32 at *
 generalize k / 64=y64 at *
 go_enter Tryz.func10,Tryz.ntmps10
 go_wp2_with fail
 refine K1.out.mono ?_
 rintro e w1 ⟨rfl,dd1⟩
 have KG:=zH (KG.out w1 _ dd1.r)
 have HK1:=zH (Kx.grown (A:=[P]) dd1.g sI)
 clear dd1 K1
 go_wp2_with fail
 refine KG.out.mono ?_
 rintro e w2 ⟨v2,F2,rfl,d2⟩
 have HK2:=zH (HK1.out.on d2.k)
 have HR2:=zH d2.r
 obtain⟨a2,c2,e2⟩:=d2.o.slice
 have KP:=zH (KP.out w2 p1 a2 c2 (HdP.rd (e2 ▸ d2.hdP)))
 have hpl:=HPL.out p1
 subst e2
 clear d2 KG HK1 HPL
 generalize (Pl.gpr bs p1).2=p2 at *
 generalize (Pl.gpr bs p1).1=pr at *
 generalize pr.length=ln at *
 go_wp2_with fail
 refine KP.out.mono ?_
 rintro e w3 ⟨rfl,hb3⟩
 have HK3:=zH (HK2.out.on (Kx.below hb3 [P]))
 have HR3:=zH (HR2.out.keep hb3)
 clear hb3 KP HK2 HR2
 generalize Pl.prt Pl.nt pr=T at *
 obtain⟨tx,ok⟩:=T
 simp only at hpl
 have hsz:(Pl.ba tx).size<=4000:=hpl
 generalize Pl.ba tx=s at *
 have hcase:ok=false\/(ok=true/\x8=5)\/(ok=true/\x8 ≠ 5):=by cases ok <;> simp <;> omega
 have hwl:∀(p:Nat),(Pl.nx bs p).1<=255:=fun p=>Pl.nx_le HBY.out
 rcases hcase with rfl|⟨rfl,rfl⟩|⟨rfl,h5⟩
 case' inl =>
  have KN4:=zH (KN.out w3 _ HR3.out)
  have hw:=hwl p2
  generalize Pl.nx bs p2=q4 at *
  obtain⟨k4,p4⟩:=q4
  simp only at KN4 hw
  go_wp2_with fail
  refine KN4.out.mono ?_
  rintro e w4 ⟨rfl,dd4⟩
  have HK4:=zH (HK3.out.on (Kx.grown (A:=[P]) dd4.g sI))
  have HR4:=zH dd4.r
  have KC4:=KC.out (y8+k4) oM w4
  rw[show ((y8+k4:Nat):Int)=(y8:Int)+(k4:Int) by omega] at KC4
  have KC4:=zH KC4
  clear dd4 KN4 HK3 HR3 hsz KC
  go_wp2_with fail
  refine KC4.out.mono ?_
  rintro e w5 ⟨sc,rfl,hsc,hb5⟩
  have HKq:=zH (HK4.out.on (Kx.below hb5 [P]))
  have HRq:=zH (HR4.out.keep hb5)
  have hsq:sc.size<=4000:=by omega
  clear hb5 HK4 HR4 KC4 hsc
 case' inr.inl =>
  have KN4:=zH (KN.out w3 _ HR3.out)
  have hw:=hwl p2
  generalize Pl.nx bs p2=q4 at *
  obtain⟨k4,p4⟩:=q4
  simp only at KN4 hw
  go_wp2_with fail
  refine KN4.out.mono ?_
  rintro e w4 ⟨rfl,dd4⟩
  have HK4:=zH (HK3.out.on (Kx.grown (A:=[P]) dd4.g sI))
  have HR4:=zH dd4.r
  have KC4:=KC.out (y8+k4) oM w4
  rw[show ((y8+k4:Nat):Int)=(y8:Int)+(k4:Int) by omega] at KC4
  have KC4:=zH KC4
  clear dd4 KN4 HK3 HR3 hsz KC
  go_wp2_with fail
  refine KC4.out.mono ?_
  rintro e w5 ⟨sc,rfl,hsc,hb5⟩
  have HKq:=zH (HK4.out.on (Kx.below hb5 [P]))
  have HRq:=zH (HR4.out.keep hb5)
  have hsq:sc.size<=4000:=by omega
  clear hb5 HK4 HR4 KC4 hsc
 case' inr.inr =>
  have b5:((x8:Int) == 5)=false:=by simp;omega
  have HKq:=zH HK3.out
  have HRq:=zH HR3.out
  have hsq:=hsz
  clear HK3 HR3 hsz KC
  generalize s=sc at *
  generalize w3=w5 at *
  generalize p2=p4 at *
 all_goals
  by_cases h4:x4=3
  ·subst h4
   have KN6:=zH (KN.out w5 _ HRq.out)
   have hw6:=hwl p4
   generalize Pl.nx bs p4=q6 at *
   obtain⟨k6,p6⟩:=q6
   simp only at KN6 hw6
   have mp:Int.tmod ((k6:Int) * 7) ((sc.size:Int)+1)=((k6 * 7 % (sc.size+1):Nat):Int):=by rw[show ((k6:Int) * 7)=((k6 * 7:Nat):Int) by omega,show ((sc.size:Int)+1)=((sc.size+1:Nat):Int) by omega];exact(Int.ofNat_tmod _ _).symm
   have hpl:k6 * 7 % (sc.size+1)<=sc.size:=by have:=Nat.mod_lt (k6 * 7) (show 0<sc.size+1 by omega);omega
   generalize k6 * 7 % (sc.size+1)=pp at *
   have hne:¬((sc.size:Int)+1=0):=by omega
   have hpi:(pp:Int)<=(sc.size:Int):=by omega
   go_wp2_with fail
   refine KN6.out.mono ?_
   rintro e w6 ⟨rfl,dd6⟩
   have HK6:=zH (HKq.out.on (Kx.grown (A:=[P]) dd6.g sI))
   have KN7:=zH (KN.out w6.drew _ (dd6.r.kx (Kx.drew w6 []) sI))
   have hw7:=hwl p6
   generalize Pl.nx bs p6=q7 at *
   obtain⟨k7,p7⟩:=q7
   simp only at KN7 hw7
   clear dd6 KN6 HKq HRq KN
   go_wp2_with fail
   go_region_with (first | (go_at_call 21;refine KN7.out.mono ?_;rintro e w7 ⟨rfl,dd7⟩;have HK7:=zH (HK6.out.on ((Kx.drew w6 [P]).on (Kx.grown (A:=[P]) dd7.g sI)));clear dd7) | (go_at_call 24;refine(KI.out k7 oM _).mono ?_;rintro e w8 ⟨s8,rfl,hs8,hb8⟩;have HK8:=zH (HK7.out.on (Kx.below hb8 [P]));clear hb8))
   all_goals
    have hz:((sc.extract 0 pp++s8)++sc.extract pp sc.size).size<=5000:=by
     rw[ByteArray.size_append,ByteArray.size_append,ByteArray.size_extract,ByteArray.size_extract]
     omega
    go_wp2_with fail
    refine bodyPost_ret (v:=.string (sc.extract 0 pp++s8++sc.extract pp sc.size)) uDt21 rfl ?_
    first
     |exact⟨_,rfl,hz,HK8.out⟩
     |exact⟨rfl,hz,HK8.out⟩
  have b4:((x4:Int) == 3)=false:=by simp;omega
  by_cases h16:x16=6
  ·subst h16
   have HP0:Hid (∃p,Rr B P w5 bs p):=⟨_,HRq.out⟩
   go_wp2_with fail
   go_loopw [7,8] (fun v7 v8 wr=>∃(i:Nat) (t:ByteArray),v7=.string t/\v8=.int .i64 (i:Int)/\i<=12/\t.size<=64 * i/\Hid (∃p,Rr B P wr bs p)/\Hid (Kx w wr [P])) (fun v7 v8 wr=>12-(intOf v8).toNat)
   case atStart=>exact⟨0,⟨#[]⟩,rfl,rfl,by omega,by decide,HP0,HKq⟩
   rename World=>wr
   obtain⟨i,t,rfl,rfl,hi,ht,HP,HKr⟩:=hrel
   by_cases hl:i<12
   rotate_left 1
   ·have hl':¬(i:Int)<12:=by omega
    have hz:t.size<=5000:=by omega
    go_wp2_with fail
    refine bodyPost_ret (v:=.string t) uDt21 rfl ?_
    first
     |exact⟨t,rfl,hz,HKr.out⟩
     |exact⟨rfl,hz,HKr.out⟩
   have hl':(i:Int)<12:=by omega
   obtain⟨pi,hri⟩:=HP.out
   have KN6:=zH (KN.out wr _ hri)
   have hw6:=hwl pi
   generalize Pl.nx bs pi=q6 at *
   obtain⟨k6,p6⟩:=q6
   simp only at KN6 hw6
   clear hri
   go_wp2_with fail
   refine KN6.out.mono ?_
   rintro e w6 ⟨rfl,dd6⟩
   have HK6:=zH (HKr.out.on (Kx.grown (A:=[P]) dd6.g sI))
   have HR6:=zH dd6.r
   have KI6:=zH (KI.out k6 oM w6)
   clear dd6 KN6 HKr
   go_wp2_with fail
   refine KI6.out.mono ?_
   rintro e w7 ⟨s7,rfl,hs7,hb7⟩
   have HK7:=zH (HK6.out.on (Kx.below hb7 [P]))
   have HR7:Hid (∃p,Rr B P w7 bs p):=⟨_,HR6.out.keep hb7⟩
   have hz:(t++s7).size<=64 * (i+1):=by rw[ByteArray.size_append];omega
   clear hb7 KI6 HK6 HR6
   go_wp2_with fail
   go_roundw
   case rel=>exact⟨i+1,t++s7,rfl,by simp,by omega,hz,HR7,HK7⟩
   simp[intOf];omega
  have b16:((x16:Int) == 6)=false:=by simp;omega
  by_cases h32:x32=2
  ·subst h32
   have HO0:=zH (OwB.empty w5 w5.heap.size (Nat.le_refl _))
   have HB0:Hid (Below w5.heap.size w5 (w5.alloc (.cells #[] 5))):=(Below.refl _ _).alloc (Nat.le_refl _) _
   clear HRq KN KI
   go_wp2_with fail
   go_loopw [10,11] (fun v10 v11 wr=>∃(i:Nat) (b9:List UInt8),v11=.int .i64 (i:Int)/\i<=38+y32/\Hid (b9.length=i)/\Hid (OwB wr w5.heap.size v10 b9)/\Hid (Below w5.heap.size w5 wr)) (fun v10 v11 wr=>38+y32-(intOf v11).toNat)
   case atStart=>exact⟨0,[],rfl,by omega,rfl,HO0,HB0⟩
   rename World=>wr
   obtain⟨i,b9,rfl,hi,HIN,HO,HB⟩:=hrel
   obtain⟨a9,c9,e9⟩:=HO.out.form
   by_cases hl:i<38+y32
   ·have hl':(i:Int)<38+(y32:Int):=by omega
    obtain⟨a8,c8,w8,hr8,ho8,hb8⟩:=HO.out.put [40] 1 rfl [.int .u8 40] rfl HB.out (by have:=HIN.out;omega) oM 22 wr.heap.size rfl
    rw[e9] at hr8
    subst e9
    have HIX:Hid ((b9++[40]).length=(i+1)):=by have:=HIN.out;show _=_;simp;omega
    clear HIN
    generalize b9.length=lb at *
    have H8:=zH hr8
    have HO8:=zH ho8
    have HB8:=zH hb8
    clear hr8 ho8 hb8 HO HB
    go_wp2_with (at_builtin;refine wpList_append_eq _ w8 rfl (.tmp 83) (.tmp 84) #[22,22] rfl (.slice a9 lb c9) (.slice (some ⟨wr.heap.size,0,none⟩) 1 1) (.slice a8 (lb+1) c8) kR kR H8.out ?_)
    go_wp2_with fail
    go_roundw
    case rel=>exact⟨i+1,b9++[40],by simp,by omega,HIX,HO8,HB8⟩
    simp[intOf];omega
   have hl':¬(i:Int)<38+(y32:Int):=by omega
   obtain rfl:i=38+y32:=by omega
   obtain⟨a3,c3,w8,hr3,ho3,hb3⟩:=HO.out.put [119] 1 rfl [.int .u8 119] rfl HB.out (by have:=HIN.out;omega) oM 22 wr.heap.size rfl
   rw[e9] at hr3
   subst e9
   have HL3:Hid ((b9++[(119:UInt8)]).length=39+y32+0):=by have:=HIN.out;show _=_;simp;omega
   clear HIN
   generalize b9.length=lb9 at *
   have H3:=zH hr3
   have HO3:=zH ho3
   have HB3:=zH hb3
   clear hr3 ho3 hb3 HO HB
   go_wp2_with (at_builtin;refine wpList_append_eq _ w8 rfl (.tmp 86) (.tmp 87) #[22,22] rfl (.slice a9 lb9 c9) (.slice (some ⟨wr.heap.size,0,none⟩) 1 1) (.slice a3 (lb9+1) c3) kR kR H3.out ?_)
   clear H3
   generalize b9++[(119:UInt8)]=b10 at *
   go_loopw [10,12] (fun v10 v11 wr=>∃(i:Nat) (b9:List UInt8),v11=.int .i64 (i:Int)/\i<=38+y32/\Hid (b9.length=39+y32+i)/\Hid (OwB wr w5.heap.size v10 b9)/\Hid (Below w5.heap.size w5 wr)) (fun v10 v11 wr=>38+y32-(intOf v11).toNat)
   case atStart=>exact⟨0,_,rfl,by omega,HL3,HO3,HB3⟩
   rename World=>wr
   obtain⟨i,b9,rfl,hi,HIN,HO,HB⟩:=hrel
   obtain⟨a9,c9,e9⟩:=HO.out.form
   by_cases hl:i<38+y32
   ·have hl':(i:Int)<38+(y32:Int):=by omega
    obtain⟨a8,c8,w8,hr8,ho8,hb8⟩:=HO.out.put [41] 1 rfl [.int .u8 41] rfl HB.out (by have:=HIN.out;omega) oM 22 wr.heap.size rfl
    rw[e9] at hr8
    subst e9
    have HIX:Hid ((b9++[41]).length=39+y32+(i+1)):=by have:=HIN.out;show _=_;simp;omega
    clear HIN
    generalize b9.length=lb at *
    have H8:=zH hr8
    have HO8:=zH ho8
    have HB8:=zH hb8
    clear hr8 ho8 hb8 HO HB
    go_wp2_with (at_builtin;refine wpList_append_eq _ w8 rfl (.tmp 94) (.tmp 95) #[22,22] rfl (.slice a9 lb c9) (.slice (some ⟨wr.heap.size,0,none⟩) 1 1) (.slice a8 (lb+1) c8) kR kR H8.out ?_)
    go_wp2_with fail
    go_roundw
    case rel=>exact⟨i+1,b9++[41],by simp,by omega,HIX,HO8,HB8⟩
    simp[intOf];omega
   have hl':¬(i:Int)<38+(y32:Int):=by omega
   obtain rfl:i=38+y32:=by omega
   have kt:=HO.out.text
   have hz:(⟨b9.toArray⟩:ByteArray).size<=5000:=by show b9.toArray.size<=5000;simp;have:=HIN.out;omega
   clear HIN
   have HKe:=zH (HKq.out.on (Kx.below HB.out [P]))
   subst e9
   generalize b9.length=lb at *
   clear HO HB
   go_wp2_with fail
   refine bodyPost_ret (v:=.string ⟨b9.toArray⟩) uDt21 rfl ?_
   first
    |exact⟨_,rfl,hz,HKe.out⟩
    |exact⟨rfl,hz,HKe.out⟩
  have b32:((x32:Int) == 2)=false:=by simp;omega
  by_cases h12:x64=12
  ·subst h12
   have kc:=conv8 sc w5
   have HO0:=zH (OwB.conv sc w5 w5.heap.size (Nat.le_refl _) oM)
   have HB0:=zH (conv8_below sc w5)
   obtain⟨cp,ecp⟩:∃cp,grownCap w5 sc.size 0 5=cp:=⟨_,rfl⟩
   rw[ecp] at kc HO0 HB0
   generalize (w5.drew.alloc (.cells (bytesRow sc cp) 5 ((bytesRow sc cp).size,(bytesRow sc cp).size+1)))=w6 at kc HO0 HB0
   clear ecp HRq KN KI
   have hl0:sc.data.toList.length=sc.size:=by simp
   go_wp2_with fail
   go_loopw [13] (fun v13 wr=>∃(b9:List UInt8),b9.length<=4001/\Hid (OwB wr w5.heap.size v13 b9)/\Hid (Below w5.heap.size w5 wr)) (fun v13 wr=>5000-sliceLen v13)
   case atStart=>exact⟨sc.data.toList,by omega,HO0,HB0⟩
   rename World=>wr
   obtain⟨b9,hb9,HO,HB⟩:=hrel
   obtain⟨a9,c9,e9⟩:=HO.out.form
   by_cases hl:b9.length<3999+y643
   ·obtain⟨a8,c8,w8,hr8,ho8,hb8⟩:=HO.out.put [10] 1 rfl [.int .u8 10] rfl HB.out oM oM 22 wr.heap.size rfl
    rw[e9] at hr8
    subst e9
    generalize hlb:b9.length=lb at *
    have hl':(lb:Int)<3999+(y643:Int):=by omega
    have H8:=zH hr8
    have HO8:=zH ho8
    have HB8:=zH hb8
    clear hr8 ho8 hb8 HO HB kc
    go_wp2_with (at_builtin;refine wpList_append_eq _ w8 rfl (.tmp 111) (.tmp 112) #[22,22] rfl (.slice a9 lb c9) (.slice (some ⟨wr.heap.size,0,none⟩) 1 1) (.slice a8 (lb+1) c8) kR kR H8.out ?_)
    go_wp2_with fail
    go_roundw
    case rel=>exact⟨b9++[10],by simp[hlb];omega,HO8,HB8⟩
    simp[sliceLen];omega
   have hlx:¬(b9.length:Int)<3999+(y643:Int):=by omega
   clear kc
   have kt:=HO.out.text
   have hz:(⟨b9.toArray⟩:ByteArray).size<=5000:=by show b9.toArray.size<=5000;simp;omega
   have HKe:=zH (HKq.out.on (Kx.below HB.out [P]))
   subst e9
   generalize b9.length=lb at *
   clear HO HB
   go_wp2_with fail
   refine bodyPost_ret (v:=.string ⟨b9.toArray⟩) uDt21 rfl ?_
   first
    |exact⟨_,rfl,hz,HKe.out⟩
    |exact⟨rfl,hz,HKe.out⟩
  have b12:((x64:Int) == 12)=false:=by simp;omega
  by_cases h28:x64=28
  ·subst h28
   have HO0:=zH (OwB.empty w5 w5.heap.size (Nat.le_refl _))
   have HB0:Hid (Below w5.heap.size w5 (w5.alloc (.cells #[] 5))):=(Below.refl _ _).alloc (Nat.le_refl _) _
   clear HRq KN KI
   go_wp2_with fail
   go_loopw [14,15] (fun v10 v11 wr=>∃(i:Nat) (b9:List UInt8),v11=.int .i64 (i:Int)/\i<=999+y64/\Hid (b9.length=2 * i)/\Hid (OwB wr w5.heap.size v10 b9)/\Hid (Below w5.heap.size w5 wr)) (fun v10 v11 wr=>999+y64-(intOf v11).toNat)
   case atStart=>exact⟨0,[],rfl,by omega,rfl,HO0,HB0⟩
   rename World=>wr
   obtain⟨i,b9,rfl,hi,HIN,HO,HB⟩:=hrel
   obtain⟨a9,c9,e9⟩:=HO.out.form
   by_cases hl:i<999+y64
   ·have hl':(i:Int)<999+(y64:Int):=by omega
    obtain⟨a8,c8,w8,hr8,ho8,hb8⟩:=HO.out.put [49,32] 2 rfl [.int .u8 49,.int .u8 32] rfl HB.out (by have:=HIN.out;omega) oM 22 wr.heap.size rfl
    rw[e9] at hr8
    subst e9
    have HIX:Hid ((b9++[49,32]).length=2 * (i+1)):=by have:=HIN.out;show _=_;simp;omega
    clear HIN
    generalize b9.length=lb at *
    have H8:=zH hr8
    have HO8:=zH ho8
    have HB8:=zH hb8
    clear hr8 ho8 hb8 HO HB
    go_wp2_with (at_builtin;refine wpList_append_eq _ w8 rfl (.tmp 127) (.tmp 128) #[22,22] rfl (.slice a9 lb c9) (.slice (some ⟨wr.heap.size,0,none⟩) 2 2) (.slice a8 (lb+2) c8) kR kR H8.out ?_)
    go_wp2_with fail
    go_roundw
    case rel=>exact⟨i+1,b9++[49,32],by simp,by omega,HIX,HO8,HB8⟩
    simp[intOf];omega
   have hl':¬(i:Int)<999+(y64:Int):=by omega
   obtain rfl:i=999+y64:=by omega
   have kt:=HO.out.text
   have hz:(⟨b9.toArray⟩:ByteArray).size<=5000:=by show b9.toArray.size<=5000;simp;have:=HIN.out;omega
   clear HIN
   have HKe:=zH (HKq.out.on (Kx.below HB.out [P]))
   subst e9
   generalize b9.length=lb at *
   clear HO HB
   go_wp2_with fail
   refine bodyPost_ret (v:=.string ⟨b9.toArray⟩) uDt21 rfl ?_
   first
    |exact⟨_,rfl,hz,HKe.out⟩
    |exact⟨rfl,hz,HKe.out⟩
  have b28:((x64:Int) == 28)=false:=by simp;omega
  clear KN KI
  go_wp2_with fail
  refine bodyPost_ret (v:=.string sc) uDt21 rfl ?_
  first
   |exact⟨sc,rfl,oM,HKq.out⟩
   |exact⟨rfl,oM,HKq.out⟩
end Go.Proofs.YtbiiicbfpcfgdaaGreatDoor
