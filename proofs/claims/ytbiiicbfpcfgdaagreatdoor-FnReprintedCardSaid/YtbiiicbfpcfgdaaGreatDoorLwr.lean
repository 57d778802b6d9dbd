import Derived.Test.YtbiiicbfpcfgdaaGreatDoorDt2
import Derived.Test.YtbiiicbfpcfgdaaGreatDoorSzr
import Derived.Test.YtbiiicbfpcfgdaaGreatDoorPrw
namespace Go.Proofs.YtbiiicbfpcfgdaaGreatDoor
open Go.RowKit
set_option maxRecDepth 100000
set_option maxHeartbeats 16000000
set_option linter.unusedVariables false
theorem Below.kx {C:Nat}{w w1 w2:World}{P:Nat}(h:Below C w w1) (k:Kx w1 w2 [P]) (hP:C<=P) (hC:C<=w1.heap.size):Below C w w2 :=
 ⟨k.os.trans h.os,k.tape.trans h.tape,k.output.trans h.output,Nat.le_trans h.size k.size,fun b hb=>(k.block b oM (by simp;omega)).trans (h.block b hb)⟩
theorem drawParse_any (B:Nat) (ao:Option Addr) (cap:Nat) (bs:List Nat) (w:World) (hcap:bs.length<=cap) (hm:cap<=9223372036854775807) (hB:B<=w.heap.size) (h8:∀x∈bs,x<=255) (h:RdN B w ao bs) :
  Calls Tryz.prog 4 #[.slice ao bs.length cap] w fun e w'=>∃s:ByteArray,e=.returned (.string s)/\s.size<=5000/\Below w.heap.size w w':=by
 have K0:=zH (openx_any B ao cap bs w hcap hm hB h8 h)
 generalize bs.length=n0 at *
 generalize bs.take 1000=b5 at *
 clear h h8
 go_enter Tryz.func4,Tryz.ntmps4
 go_wp2_with fail
 refine K0.out.mono ?_
 rintro e w1 ⟨rfl,r1,b1⟩
 have K1:=zH (drawText_any B w.heap.size w1 b5 0 r1)
 have HB1:=zH b1
 have hP1:w.heap.size<w1.heap.size:=r1.lt
 clear r1 b1 K0
 go_wp2_with fail
 refine K1.out.mono ?_
 rintro e w2 ⟨s,rfl,hs,k2⟩
 have HB2:=zH (Below.kx HB1.out k2 (Nat.le_refl _) (Nat.le_of_lt hP1))
 clear k2 K1 HB1
 go_wp2_with fail
 refine bodyPost_ret (v:=.string s) (by simp[results,Tryz.results4,go_sem]) rfl ?_
 first
  |exact⟨s,rfl,hs,HB2.out⟩
  |exact⟨rfl,hs,HB2.out⟩
theorem reprinted_law (ao:Option Addr) (cap mb mo cp:Nat) (bs:List Nat) (w:World) (hcap:bs.length<=cap) (hm:cap<=9223372036854775807) (h8:∀x∈bs,x<=255) (hR:RdN w.heap.size w ao bs) (he:Ev w mb mo cp) :
  Calls Tryz.prog 3 #[.slice ao bs.length cap] w fun e w'=>e=.returned (.bool true)/\Below w.heap.size w w':=by
 have KD:=zH (drawParse_any w.heap.size ao cap bs w hcap hm (Nat.le_refl _) h8 hR)
 have HE:=zH he
 clear hR h8 he
 generalize bs.length=n at *
 by_cases hbig:1048576<n
 ·have hbig':(1048576:Int)<(n:Int):=by omega
  clear KD HE
  go_enter Tryz.func3,Tryz.ntmps3
  go_wp2_with fail
  go_ret
  exact⟨rfl,Below.refl _ _⟩
 have hbig':¬(1048576:Int)<(n:Int):=by omega
 go_enter Tryz.func3,Tryz.ntmps3
 go_wp2_with fail
 refine KD.out.mono ?_
 rintro e w1 ⟨s,rfl,hs,hb1⟩
 have B1:=zH hb1
 have K2:=zH (specParse_any s w1 oM)
 have KI:=zH (fun (W:World) (h:Mt W mb mo cp)=>implParse_any s mb mo cp W h oM)
 have HSM:=zH (Pl.prs_small s)
 have HSZ:=zH (Pl.prs_szt s)
 have HC0:=zH (Pl.prs_code s)
 unfold PoP at KI
 generalize Pl.prsS s=R at *
 obtain⟨p,cd,pl⟩:=R
 simp only at K2 KI HSM HSZ HC0
 clear hb1 KD hs
 go_wp2_with fail
 refine K2.out.mono ?_
 rintro e w2 ⟨v2,F2,rfl,hb2,ho2,hi2⟩
 have hH2:=OwP.hd ho2 hi2
 obtain⟨a2,c2,rfl⟩:=ho2.slice
 have R2:=zH (HdP.rd hH2)
 have B2:=zH (B1.out.trans (hb2.mono B1.out.size))
 have K3:=zH (KI.out w2 (HE.out.keep B2.out).mt)
 clear hb2 ho2 hi2 hH2 K2 KI B1
 go_wp2_with fail
 refine K3.out.mono ?_
 rintro e w3 ⟨v3,F3,rfl,hb3,ho3,hi3⟩
 have hH3:=OwP.hd ho3 hi3
 obtain⟨a3,c3,rfl⟩:=ho3.slice
 have R3:=zH (HdP.rd hH3)
 have M3:=zH ((R2.out.keep hb3).up hb3.size)
 have B3:=zH (B2.out.trans (hb3.mono B2.out.size))
 clear hb3 ho3 hi3 hH3 K3 R2 B2
 by_cases hc:cd=0
 rotate_left 1
 ·have e0:=HC0.out hc
  subst e0
  have hc':(cd == 0)=false:=by simp;exact hc
  clear HC0 HSM HSZ R3 M3 HE
  go_wp2_with fail
  go_ret
  exact⟨rfl,B3.out⟩
 subst hc
 clear HC0
 have KE:Hid (∀(a1 a2:Option Addr) (c1 c2:Nat) (W:World),RdP W.heap.size W a1 p->RdP W.heap.size W a2 p->Calls Tryz.prog 7 #[.slice a1 p.length c1,.slice a2 p.length c2] W fun e w'=>e=.returned (.bool true)/\∃q,w'=W.drewN q):=fun a1 a2 c1 c2 W h1 h2=>sameProgram_same p a1 a2 c1 c2 W HSZ.out h1 h2
 have KS:Hid (∀(a:Option Addr) (c:Nat) (W:World),RdP W.heap.size W a p->Calls Tryz.prog 8 #[.slice a p.length c] W fun e w'=>e=.returned (.tuple #[.string (Pl.ba (Pl.prt Pl.nt p).1),.bool (Pl.prt Pl.nt p).2])/\Below W.heap.size W w'):=fun a c W h=>specPrint_any p a c HSM.out W h
 have KI:Hid (∀(a:Option Addr) (c:Nat) (W:World),Ev W mb mo cp->RdP W.heap.size W a p->Calls Tryz.prog 9 #[.slice a p.length c] W fun e w'=>e=.returned (.tuple #[.string (Pl.ba (Pl.prt Pl.nt p).1),.bool (Pl.prt Pl.nt p).2])/\Below W.heap.size W w'):=fun a c W h1 h2=>implPrint_any p a c mb mo cp HSM.out W h1 h2
 have HT:Hid ((Pl.prt Pl.nt p).2=true->Pl.prsS (Pl.ba (Pl.prt Pl.nt p).1)=(p,0,0)/\(Pl.ba (Pl.prt Pl.nt p).1).size<=4000):=Pl.prs_prt
 generalize Pl.prt Pl.nt p=T at *
 obtain⟨tx,ok⟩:=T
 simp only at HT KS KI
 clear HSM HSZ
 have K4:=zH (KE.out a3 a2 c3 c2 w3 R3.out M3.out)
 go_wp2_with fail
 refine K4.out.mono ?_
 rintro e w4 ⟨rfl,q4,rfl⟩
 have K5:=zH (KS.out a2 c2 (w3.drewN q4) (M3.out.keep (Below.ofN _ _ _)))
 clear K4 KS
 go_wp2_with fail
 refine K5.out.mono ?_
 rintro e w5 ⟨rfl,hb5⟩
 have B5:=zH ((B3.out.trans (Below.ofN _ _ q4)).trans (hb5.mono B3.out.size))
 have R5:=zH (((R3.out.keep (Below.ofN _ _ q4)).keep hb5).up hb5.size)
 have M5:=zH (((M3.out.keep (Below.ofN _ _ q4)).keep hb5).up hb5.size)
 have E5:=zH (HE.out.keep B5.out)
 have K6:=zH (KI.out a3 c3 w5 E5.out R5.out)
 clear hb5 K5 KI R3 M3 B3 HE
 go_wp2_with fail
 refine K6.out.mono ?_
 rintro e w6 ⟨rfl,hb6⟩
 have B6:=zH (B5.out.trans (hb6.mono B5.out.size))
 have M6:=zH ((M5.out.keep hb6).up hb6.size)
 have E6:=zH (E5.out.keep hb6)
 clear hb6 K6 R5 M5 B5 E5
 cases ok
 ·clear HT KE M6 E6
  go_wp2_with fail
  go_ret
  exact⟨rfl,B6.out⟩
 obtain⟨hp,hs⟩:=HT.out rfl
 have K7:=zH (implParse_any (Pl.ba tx) mb mo cp w6 E6.out.mt oM)
 generalize Pl.ba tx=tb at *
 clear HT hs
 have HP:=zH hp
 clear hp
 go_wp2_with fail
 refine K7.out.mono ?_
 rintro e w7 ⟨v7,F7,he7,hb7,ho7,hi7⟩
 rw[HP.out] at he7 ho7
 simp only at he7 ho7
 have B7:=zH (B6.out.trans (hb7.mono B6.out.size))
 have M7:=zH ((M6.out.keep hb7).up hb7.size)
 have hH7:=OwP.hd ho7 hi7
 obtain⟨a7,c7,e7⟩:=ho7.slice
 subst e7 he7
 have K8:=zH (KE.out a7 a2 c7 c2 w7 (HdP.rd hH7) M7.out)
 clear hb7 ho7 hi7 hH7 K7 KE M6 B6 E6
 go_wp2_with fail
 refine K8.out.mono ?_
 rintro e w8 ⟨rfl,q8,rfl⟩
 have B8:Hid (Below w.heap.size w (w7.drewN q8)):=B7.out.trans (Below.ofN _ _ _)
 clear K8 B7
 go_wp2_with fail
 go_ret
 exact⟨rfl,B8.out⟩
end Go.Proofs.YtbiiicbfpcfgdaaGreatDoor
