import Derived.Test.YtacapaiadggemaaGreatLv
import Derived.Test.YtacapaiadggemaaGreatSpF
namespace Go.Proofs.YtacapaiadggemaaGreat
open Go.RowKit
set_option linter.unusedVariables false
theorem st1 (op:Int) (v0 v1:Value) (sa da:List Int) (hl:sa.length<=4/\da.length<=1001):∃c S D,Pl.Gd (c,S,D)/\∀W,(Sl W v0 sa/\(op=1\/Sg W v0 sa))/\Sg W v1 da->Calls Tryz.prog 5 #[.int .i64 op,.agg #[v0,v1]] W (FPost W c S D)/\Calls Tryz.prog 6 #[.int .i64 op,.agg #[v0,v1]] W (FPost W c S D) :=
 ⟨_,_,_,Pl.gd_each1 op sa da,fun W h=>⟨spec1_face op v0 v1 sa da W (by omega) (by omega) h.1.1.rd h.2.sl.rd,each1_face op v0 v1 sa da W (by omega) (by omega) h.1.1.rd h.2.sl.rd⟩⟩
theorem st3 (op:Int) (v0 v1:Value) (sa da:List Int) (hl:sa.length<=4/\da.length<=1001):∃c S D,Pl.Gd (c,S,D)/\∀W,(Sl W v0 sa/\(op=1\/Sg W v0 sa))/\Sg W v1 da->Calls Tryz.prog 12 #[.int .i64 op,.agg #[v0,v1]] W (FPost W c S D)/\Calls Tryz.prog 13 #[.int .i64 op,.agg #[v0,v1]] W (FPost W c S D) :=
 ⟨_,_,_,Pl.gd_mon op sa da,fun W h=>⟨specM_face op v0 v1 sa da W (by omega) (by omega) h.1.1 h.1.2 h.2 _ _ _ rfl,monad_face op v0 v1 sa da W (by omega) (by omega) h.1.1 h.2 _ _ _ rfl⟩⟩
abbrev D4 (v0 v1 v2 v3:Value) (sa da sb db:List Int) (W:World):Prop:=Sl W v0 sa/\Sg W v1 da/\Sg W v2 sb/\Sg W v3 db
theorem st2 (op:Int) (v0 v1 v2 v3:Value) (sa da sb db:List Int) (hl:sa.length<=4/\da.length<=1001/\sb.length<=4/\db.length<=1001):∃c S D,Pl.Gd (c,S,D)/\∀W,D4 v0 v1 v2 v3 sa da sb db W->Calls Tryz.prog 9 #[.int .i64 op,.agg #[v0,v1],.agg #[v2,v3]] W (FPost W c S D)/\Calls Tryz.prog 10 #[.int .i64 op,.agg #[v0,v1],.agg #[v2,v3]] W (FPost W c S D) :=
 ⟨_,_,_,Pl.gd_each2 op sa da sb db,fun W h=>⟨spec2_face op v0 v1 v2 v3 sa da sb db W (by omega) (by omega) (by omega) (by omega) h.1.rd h.2.1.sl.rd h.2.2.1.sl.rd h.2.2.2.sl.rd _ _ _ rfl,each2_face op v0 v1 v2 v3 sa da sb db W (by omega) (by omega) (by omega) (by omega) h.1.rd h.2.1.sl.rd h.2.2.1.sl.rd h.2.2.2.sl.rd _ _ _ rfl⟩⟩
theorem st4 (op:Int) (v0 v1 v2 v3:Value) (sa da sb db:List Int) (hl:sa.length<=4/\da.length<=1001/\sb.length<=4/\db.length<=1001):∃c S D,Pl.Gd (c,S,D)/\∀W,D4 v0 v1 v2 v3 sa da sb db W->Calls Tryz.prog 15 #[.int .i64 op,.agg #[v0,v1],.agg #[v2,v3]] W (FPost W c S D)/\Calls Tryz.prog 16 #[.int .i64 op,.agg #[v0,v1],.agg #[v2,v3]] W (FPost W c S D) :=
 ⟨_,_,_,Pl.gd_dy op sa da sb db,fun W h=>⟨specD_face op v0 v1 v2 v3 sa da sb db W (by omega) (by omega) (by omega) (by omega) h.1 h.2.1 h.2.2.1 h.2.2.2 _ _ _ rfl,dyad_face op v0 v1 v2 v3 sa da sb db W (by omega) (by omega) (by omega) (by omega) h.1 h.2.1 h.2.2.1 h.2.2.2 _ _ _ rfl⟩⟩
theorem st5 (op:Int) (v0 v1 v2 v3:Value) (sa da sb db:List Int) (hl:sa.length<=4/\da.length<=1001/\sb.length<=4/\db.length<=1001):∃c S D,Pl.Gd (c,S,D)/\∀W,D4 v0 v1 v2 v3 sa da sb db W->Calls Tryz.prog 18 #[.int .i64 op,.agg #[v0,v1],.agg #[v2,v3]] W (FPost W c S D)/\Calls Tryz.prog 19 #[.int .i64 op,.agg #[v0,v1],.agg #[v2,v3]] W (FPost W c S D) :=
 ⟨_,_,_,Pl.gd_outer op sa da sb db,fun W h=>⟨specO_face op v0 v1 v2 v3 sa da sb db W (by omega) (by omega) (by omega) (by omega) h.1.rd h.2.1.sl.rd h.2.2.1.sl.rd h.2.2.2.sl.rd _ _ _ rfl,outer_face op v0 v1 v2 v3 sa da sb db W (by omega) (by omega) (by omega) (by omega) h.1.rd h.2.1.sl.rd h.2.2.1.sl.rd h.2.2.2.sl.rd _ _ _ rfl⟩⟩
theorem st6 (f op:Int) (v0 v1 v2 v3:Value) (sa da sb db:List Int) (hl:sa.length<=4/\da.length<=1001/\sb.length<=4/\db.length<=1001):∃c S D,Pl.Gd (c,S,D)/\∀W,D4 v0 v1 v2 v3 sa da sb db W->Calls Tryz.prog 21 #[.int .i64 f,.int .i64 op,.agg #[v0,v1],.agg #[v2,v3]] W (FPost W c S D)/\Calls Tryz.prog 22 #[.int .i64 f,.int .i64 op,.agg #[v0,v1],.agg #[v2,v3]] W (FPost W c S D):=by
 refine ⟨_,_,_,Pl.gd_inn f op sa da sb db,fun W h=>?_⟩
 have r0:=h.1.rd
 have r1:=h.2.1.sl.rd
 have r2:=h.2.2.1.sl.rd
 have r3:=h.2.2.2.sl.rd
 obtain ⟨⟨a0,k0,rfl,m0,m0',_,z0⟩,⟨b1,k1,rfl,m1,m1',_⟩,⟨b2,k2,rfl,m2,m2',_⟩,⟨b3,k3,rfl,m3,m3',_⟩⟩:=h
 exact ⟨specI_face f op a0 k0 b1 k1 b2 k2 b3 k3 sa da sb db W (by omega) (by omega) (by omega) (by omega) r0 r1 r2 r3 z0 m0 m0' m1 m1' m2 m2' m3 m3' _ _ _ rfl,inner_faceG f op _ k0 _ k1 _ k2 _ k3 sa da sb db W (by omega) (by omega) (by omega) (by omega) r0 r1 r2 r3 m0 m0' m1 m1' m2 m2' m3 m3' _ _ _ rfl⟩
theorem D4.keep {v0 v1 v2 v3:Value} {sa da sb db:List Int} {W w':World} (h:D4 v0 v1 v2 v3 sa da sb db W) (hb:Below W.heap.size W w'):D4 v0 v1 v2 v3 sa da sb db w':=⟨h.1.keep hb,h.2.1.keep hb,h.2.2.1.keep hb,h.2.2.2.keep hb⟩
theorem Kv.d4 {w wx:World} {A:Nat} {x0 x1:Value} (h:Kv w A x0 x1 wx) {t0 t1:Value} (hf:∃q m k,t0=.slice q m k) {v0 v1 v2 v3:Value} {sa da sb db:List Int} (s:D4 v0 v1 v2 v3 sa da sb db wx):D4 v0 v1 v2 v3 sa da sb db ((wx.setCell ⟨A,0,none⟩ t0).setCell ⟨A,1,none⟩ t1):=⟨h.sl hf s.1,h.sg hf s.2.1,h.sg hf s.2.2.1,h.sg hf s.2.2.2⟩
abbrev D2 (op:Int) (v0 v1:Value) (sa da:List Int) (W:World):Prop:=(Sl W v0 sa/\(op=1\/Sg W v0 sa))/\Sg W v1 da
theorem D2.keep {op:Int} {v0 v1:Value} {sa da:List Int} {W w':World} (h:D2 op v0 v1 sa da W) (hb:Below W.heap.size W w'):D2 op v0 v1 sa da w':=⟨⟨h.1.1.keep hb,h.1.2.imp id fun s=>s.keep hb⟩,h.2.keep hb⟩
theorem Kv.d2 {w wx:World} {A:Nat} {x0 x1:Value} (h:Kv w A x0 x1 wx) {t0 t1:Value} (hf:∃q m k,t0=.slice q m k) {op:Int} {v0 v1:Value} {sa da:List Int} (s:D2 op v0 v1 sa da wx):D2 op v0 v1 sa da ((wx.setCell ⟨A,0,none⟩ t0).setCell ⟨A,1,none⟩ t1):=⟨⟨h.sl hf s.1.1,s.1.2.imp id fun s=>h.sg hf s⟩,h.sg hf s.2⟩
theorem Kv.farE {w wx W:World} {A X:Nat} {x0 x1 t0 t1:Value} (h:Kv w A x0 x1 wx) (hn:¬A=X) (e:W=(wx.setCell ⟨X,0,none⟩ t0).setCell ⟨X,1,none⟩ t1):Kv w A x0 x1 W:=by rw [e]; exact h.far hn t0 t1
theorem Kv.putE {w wx W:World} {A:Nat} {x0 x1 t0 t1:Value} (h:Kv w A x0 x1 wx) (hf:∃q m k,t0=.slice q m k) (e:W=(wx.setCell ⟨A,0,none⟩ t0).setCell ⟨A,1,none⟩ t1):Kv w A t0 t1 W:=by rw [e]; exact h.put t0 t1 hf
theorem Kv.rzE {w wx W:World} {A:Nat} {x0 x1 t0 t1:Value} (h:Kv w A x0 x1 wx) (hf:∃q m k,t0=.slice q m k) (e:W=(wx.setCell ⟨A,0,none⟩ t0).setCell ⟨A,1,none⟩ t1) {v:Value} {zs:List Int} (s:Rz wx v zs):Rz W v zs:=by rw [e]; exact h.rz hf s
theorem Kv.d4E {w wx W:World} {A:Nat} {x0 x1 t0 t1:Value} (h:Kv w A x0 x1 wx) (hf:∃q m k,t0=.slice q m k) (e:W=(wx.setCell ⟨A,0,none⟩ t0).setCell ⟨A,1,none⟩ t1) {v0 v1 v2 v3:Value} {sa da sb db:List Int} (s:D4 v0 v1 v2 v3 sa da sb db wx):D4 v0 v1 v2 v3 sa da sb db W:=by rw [e]; exact h.d4 hf s
theorem Kv.d2E {w wx W:World} {A:Nat} {x0 x1 t0 t1:Value} (h:Kv w A x0 x1 wx) (hf:∃q m k,t0=.slice q m k) (e:W=(wx.setCell ⟨A,0,none⟩ t0).setCell ⟨A,1,none⟩ t1) {op:Int} {v0 v1:Value} {sa da:List Int} (s:D2 op v0 v1 sa da wx):D2 op v0 v1 sa da W:=by rw [e]; exact h.d2 hf s
theorem Kv.belowE {w wx W:World} {A:Nat} {x0 x1 t0 t1:Value} (h:Kv w A x0 x1 wx) (hb:Below w.heap.size w wx) (e:W=(wx.setCell ⟨A,0,none⟩ t0).setCell ⟨A,1,none⟩ t1):Below w.heap.size w W:=by rw [e]; exact h.below hb t0 t1
theorem Kv.newE {w wx W:World} {t0 t1:Value} (hs:w.heap.size<=wx.heap.size) (hf:∃q m k,t0=.slice q m k) (e:W=wx.alloc (.cells #[t0,t1] 25)):Kv w wx.heap.size t0 t1 W:=by rw [e]; exact Kv.new t0 t1 hs hf
theorem Kv.cc {w wx:World} {A:Nat} {x0 x1:Value} (h:Kv w A x0 x1 wx):wx.cell? ⟨A,0,none⟩=some x0/\wx.cell? ⟨A,1,none⟩=some x1:=⟨h.c0,h.c1⟩
theorem Kv.cf {w wx:World} {A:Nat} {x0 x1:Value} (h:Kv w A x0 x1 wx):wx.cell? ⟨A,0,none⟩=some x0/\wx.cell? ⟨A,1,none⟩=some x1/\(∀o,wx.frozen? ⟨A,o,none⟩=false)/\A<wx.heap.size:=⟨h.c0,h.c1,h.fz,h.lt⟩
theorem ne2 {a b:Nat} (h:a<b):¬a=b/\¬b=a:=⟨by omega,by omega⟩
set_option maxRecDepth 100000
set_option maxHeartbeats 16000000
theorem rdB_up {B B' n:Nat} {w:World} {ao:Option Addr} (h:RdB B w ao n) (hb:B<=B'):RdB B' w ao n:=by
 rcases h with h | ⟨b,off,h1,h2⟩
 ·exact .inl h
 exact .inr ⟨b,off,by omega,h2⟩
def LPost (w:World) (e:Ending) (w':World):Prop:=e=.returned (.bool true)/\Below w.heap.size w w'
theorem kernel_law (ao:Option Addr) (n cap:Nat) (w:World) (hcap:n<=cap) (hm:cap<=9223372036854775807) (h:RdB w.heap.size w ao n) :
  Calls Tryz.prog 3 #[.slice ao n cap] w (LPost w):=by
 by_cases hn:n<=1048576
 rotate_left 1
 ·have hgt:(1048576:Int)<(n:Int):=by omega
  clear hn h
  go_enter Tryz.func3,Tryz.ntmps3
  go_wp2_with fail
  go_ret
  exact ⟨rfl,Below.refl _ _⟩
 have hgt:¬((1048576:Int)<(n:Int)):=by omega
 have RB:Hid (∀wx,Below w.heap.size w wx->RdB wx.heap.size wx ao n):=fun wx hb=>rdB_up (h.keep hb) hb.size
 clear h
 go_enter Tryz.func3,Tryz.ntmps3
 go_wp2_with fail
 clear hgt
 refine (draw4_any ao n cap w hn hcap hm (RB.out w (Below.refl _ _))).mono ?_
 rintro e wd1 ⟨op,v0,v1,sa,da,rfl,hl,hd,hb⟩
 obtain ⟨c,S,D,hG,hC⟩:=st1 op v0 v1 sa da hl
 have HG:=hideP hG
 have HC:=hideP hC
 obtain ⟨a0,k0,e0,_⟩:=id hd.1.1
 obtain ⟨b1,k1,e1,_⟩:=id hd.2
 subst e0 e1
 have HD:=hideP (show D2 op _ _ sa da _ from hd)
 clear hG hC hd hl
 have BW:=hideP hb
 clear hb
 obtain ⟨w2,e3⟩:∃W,W=wd1.alloc (.cells #[.slice a0 sa.length k0,.slice (some ⟨b1,0,none⟩) da.length k1] 25):=⟨_,rfl⟩
 have KA:=hideP (Kv.newE BW.out.size ⟨_,_,_,rfl⟩ e3)
 have hb:Below wd1.heap.size wd1 w2:=by rw [e3]; exact (Below.refl _ _).alloc (Nat.le_refl _) _
 replace HD:=hideP (D2.keep HD.out hb)
 replace BW:=hideP (BW.out.trans (hb.mono BW.out.size))
 clear hb
 go_upto_region 4 with fail
 rw [<- e3]
 clear e3
 generalize wd1.heap.size=A at *
 obtain ⟨q4,q5⟩:=KA.out.cc
 go_wp2_with fail
 clear q4 q5
 refine (HC.out w2 HD.out).1.mono ?_
 rintro e wc6 ⟨hb,u0,u1,rfl,res⟩
 obtain ⟨x7,x8,x9,x10,e0,e1⟩:=Res.forms res
 subst e0 e1
 have R0:=hideP (Rz.of res.1)
 have R1:=hideP (Rz.of res.2.1)
 clear res
 replace KA:=hideP (KA.out.keep hb)
 replace HD:=hideP (D2.keep HD.out hb)
 replace BW:=hideP (BW.out.trans (hb.mono BW.out.size))
 clear hb
 obtain ⟨w11,e12⟩:∃W,W=wc6.alloc (.cells #[.slice x7 S.length x8,.slice x9 D.length x10] 25):=⟨_,rfl⟩
 have KM:=hideP (Kv.newE BW.out.size ⟨_,_,_,rfl⟩ e12)
 have hb:Below wc6.heap.size wc6 w11:=by rw [e12]; exact (Below.refl _ _).alloc (Nat.le_refl _) _
 have nAM:=hideP (ne2 KA.out.lt)
 replace KA:=hideP (KA.out.keep hb)
 replace HD:=hideP (D2.keep HD.out hb)
 replace R0:=hideP (R0.out.keep hb)
 replace R1:=hideP (R1.out.keep hb)
 replace BW:=hideP (BW.out.trans (hb.mono BW.out.size))
 clear hb
 go_upto_region 5 with fail
 rw [<- e12]
 clear e12
 generalize wc6.heap.size=M at *
 obtain ⟨q13,q14⟩:=KA.out.cc
 go_wp2_with fail
 clear q13 q14
 refine (HC.out w11 HD.out).2.mono ?_
 rintro e wc15 ⟨hb,u0,u1,rfl,res⟩
 obtain ⟨x16,x17,x18,x19,e0,e1⟩:=Res.forms res
 subst e0 e1
 have R2:=hideP (Rz.of res.1)
 have R3:=hideP (Rz.of res.2.1)
 clear res
 replace KA:=hideP (KA.out.keep hb)
 replace KM:=hideP (KM.out.keep hb)
 replace HD:=hideP (D2.keep HD.out hb)
 replace R0:=hideP (R0.out.keep hb)
 replace R1:=hideP (R1.out.keep hb)
 replace BW:=hideP (BW.out.trans (hb.mono BW.out.size))
 clear hb
 obtain ⟨w20,e21⟩:∃W,W=wc15.alloc (.cells #[.slice x16 S.length x17,.slice x18 D.length x19] 25):=⟨_,rfl⟩
 have KG:=hideP (Kv.newE BW.out.size ⟨_,_,_,rfl⟩ e21)
 have hb:Below wc15.heap.size wc15 w20:=by rw [e21]; exact (Below.refl _ _).alloc (Nat.le_refl _) _
 have nAG:=hideP (ne2 KA.out.lt)
 have nMG:=hideP (ne2 KM.out.lt)
 replace KA:=hideP (KA.out.keep hb)
 replace KM:=hideP (KM.out.keep hb)
 replace HD:=hideP (D2.keep HD.out hb)
 replace R0:=hideP (R0.out.keep hb)
 replace R1:=hideP (R1.out.keep hb)
 replace R2:=hideP (R2.out.keep hb)
 replace R3:=hideP (R3.out.keep hb)
 replace BW:=hideP (BW.out.trans (hb.mono BW.out.size))
 clear hb
 go_upto_region 6 with fail
 rw [<- e21]
 clear e21
 generalize wc15.heap.size=G at *
 obtain ⟨q22,q23⟩:=KG.out.cc
 obtain ⟨q24,q25⟩:=KM.out.cc
 go_wp2_with fail
 clear q22 q23 q24 q25
 refine (lwSame_yes _ _ _ _ c S D w20 R2.out.rd R3.out.rd R0.out.rd R1.out.rd HG.out).mono ?_
 rintro e we26 ⟨rfl,hb⟩
 clear R0 R1 R2 R3 HG HC HD
 replace KA:=hideP (KA.out.keep hb)
 replace KM:=hideP (KM.out.keep hb)
 replace KG:=hideP (KG.out.keep hb)
 replace BW:=hideP (BW.out.trans (hb.mono BW.out.size))
 clear hb
 go_wp2_with fail
 refine (draw8_any ao n cap we26 hn hcap hm (RB.out we26 BW.out)).mono ?_
 rintro e wd27 ⟨op,v0,v1,v2,v3,sa,da,sb,db,rfl,hl,hd,hb⟩
 obtain ⟨c,S,D,hG,hC⟩:=st2 op v0 v1 v2 v3 sa da sb db hl
 have HG:=hideP hG
 have HC:=hideP hC
 obtain ⟨a0,k0,e0,_⟩:=id hd.1
 obtain ⟨b1,k1,e1,_⟩:=id hd.2.1
 obtain ⟨b2,k2,e2,_⟩:=id hd.2.2.1
 obtain ⟨b3,k3,e3,_⟩:=id hd.2.2.2
 subst e0 e1 e2 e3
 have HD:=hideP (show D4 _ _ _ _ sa da sb db _ from hd)
 clear hG hC hd hl
 replace KA:=hideP (KA.out.keep hb)
 replace KM:=hideP (KM.out.keep hb)
 replace KG:=hideP (KG.out.keep hb)
 replace BW:=hideP (BW.out.trans (hb.mono BW.out.size))
 clear hb
 obtain ⟨q28,q29,q30,q31⟩:=KA.out.cf
 obtain ⟨w32,e33⟩:∃W,W=(wd27.setCell ⟨A,0,none⟩ (.slice a0 sa.length k0)).setCell ⟨A,1,none⟩ (.slice (some ⟨b1,0,none⟩) da.length k1):=⟨_,rfl⟩
 replace HD:=hideP (KA.out.d4E ⟨_,_,_,rfl⟩ e33 HD.out)
 replace BW:=hideP (KA.out.belowE BW.out e33)
 replace KM:=hideP (KM.out.farE nAM.out.2 e33)
 replace KG:=hideP (KG.out.farE nAG.out.2 e33)
 replace KA:=hideP (KA.out.putE ⟨_,_,_,rfl⟩ e33)
 have hz:w32.heap.size=wd27.heap.size:=by rw [e33]; simp
 obtain ⟨w34,e35⟩:∃W,W=w32.alloc (.cells #[.slice (some ⟨b2,0,none⟩) sb.length k2,.slice (some ⟨b3,0,none⟩) db.length k3] 25):=⟨_,rfl⟩
 have KB:=hideP (Kv.newE BW.out.size ⟨_,_,_,rfl⟩ e35)
 have hb:Below w32.heap.size w32 w34:=by rw [e35]; exact (Below.refl _ _).alloc (Nat.le_refl _) _
 have nAB:=hideP (ne2 KA.out.lt)
 have nMB:=hideP (ne2 KM.out.lt)
 have nGB:=hideP (ne2 KG.out.lt)
 replace KA:=hideP (KA.out.keep hb)
 replace KM:=hideP (KM.out.keep hb)
 replace KG:=hideP (KG.out.keep hb)
 replace HD:=hideP (D4.keep HD.out hb)
 replace BW:=hideP (BW.out.trans (hb.mono BW.out.size))
 clear hb
 rw [hz] at KB nAB nMB nGB
 clear hz
 go_upto_region 9 with fail
 rw [<- e33,<- e35]
 clear e33 e35 q28 q29 q30 q31
 generalize wd27.heap.size=B at *
 obtain ⟨q36,q37⟩:=KA.out.cc
 obtain ⟨q38,q39⟩:=KB.out.cc
 go_wp2_with fail
 clear q36 q37 q38 q39
 refine (HC.out w34 HD.out).1.mono ?_
 rintro e wc40 ⟨hb,u0,u1,rfl,res⟩
 obtain ⟨x41,x42,x43,x44,e0,e1⟩:=Res.forms res
 subst e0 e1
 have R0:=hideP (Rz.of res.1)
 have R1:=hideP (Rz.of res.2.1)
 clear res
 replace KA:=hideP (KA.out.keep hb)
 replace KM:=hideP (KM.out.keep hb)
 replace KG:=hideP (KG.out.keep hb)
 replace KB:=hideP (KB.out.keep hb)
 replace HD:=hideP (D4.keep HD.out hb)
 replace BW:=hideP (BW.out.trans (hb.mono BW.out.size))
 clear hb
 obtain ⟨q45,q46,q47,q48⟩:=KM.out.cf
 obtain ⟨w49,e50⟩:∃W,W=(wc40.setCell ⟨M,0,none⟩ (.slice x41 S.length x42)).setCell ⟨M,1,none⟩ (.slice x43 D.length x44):=⟨_,rfl⟩
 replace HD:=hideP (KM.out.d4E ⟨_,_,_,rfl⟩ e50 HD.out)
 replace R0:=hideP (KM.out.rzE ⟨_,_,_,rfl⟩ e50 R0.out)
 replace R1:=hideP (KM.out.rzE ⟨_,_,_,rfl⟩ e50 R1.out)
 replace BW:=hideP (KM.out.belowE BW.out e50)
 replace KA:=hideP (KA.out.farE nAM.out.1 e50)
 replace KG:=hideP (KG.out.farE nMG.out.2 e50)
 replace KB:=hideP (KB.out.farE nMB.out.2 e50)
 replace KM:=hideP (KM.out.putE ⟨_,_,_,rfl⟩ e50)
 go_upto_region 10 with fail
 rw [<- e50]
 clear e50 q45 q46 q47 q48
 obtain ⟨q51,q52⟩:=KA.out.cc
 obtain ⟨q53,q54⟩:=KB.out.cc
 go_wp2_with fail
 clear q51 q52 q53 q54
 refine (HC.out w49 HD.out).2.mono ?_
 rintro e wc55 ⟨hb,u0,u1,rfl,res⟩
 obtain ⟨x56,x57,x58,x59,e0,e1⟩:=Res.forms res
 subst e0 e1
 have R2:=hideP (Rz.of res.1)
 have R3:=hideP (Rz.of res.2.1)
 clear res
 replace KA:=hideP (KA.out.keep hb)
 replace KM:=hideP (KM.out.keep hb)
 replace KG:=hideP (KG.out.keep hb)
 replace KB:=hideP (KB.out.keep hb)
 replace HD:=hideP (D4.keep HD.out hb)
 replace R0:=hideP (R0.out.keep hb)
 replace R1:=hideP (R1.out.keep hb)
 replace BW:=hideP (BW.out.trans (hb.mono BW.out.size))
 clear hb
 obtain ⟨q60,q61,q62,q63⟩:=KG.out.cf
 obtain ⟨w64,e65⟩:∃W,W=(wc55.setCell ⟨G,0,none⟩ (.slice x56 S.length x57)).setCell ⟨G,1,none⟩ (.slice x58 D.length x59):=⟨_,rfl⟩
 replace HD:=hideP (KG.out.d4E ⟨_,_,_,rfl⟩ e65 HD.out)
 replace R0:=hideP (KG.out.rzE ⟨_,_,_,rfl⟩ e65 R0.out)
 replace R1:=hideP (KG.out.rzE ⟨_,_,_,rfl⟩ e65 R1.out)
 replace R2:=hideP (KG.out.rzE ⟨_,_,_,rfl⟩ e65 R2.out)
 replace R3:=hideP (KG.out.rzE ⟨_,_,_,rfl⟩ e65 R3.out)
 replace BW:=hideP (KG.out.belowE BW.out e65)
 replace KA:=hideP (KA.out.farE nAG.out.1 e65)
 replace KM:=hideP (KM.out.farE nMG.out.1 e65)
 replace KB:=hideP (KB.out.farE nGB.out.2 e65)
 replace KG:=hideP (KG.out.putE ⟨_,_,_,rfl⟩ e65)
 go_upto_region 11 with fail
 rw [<- e65]
 clear e65 q60 q61 q62 q63
 obtain ⟨q66,q67⟩:=KG.out.cc
 obtain ⟨q68,q69⟩:=KM.out.cc
 go_wp2_with fail
 clear q66 q67 q68 q69
 refine (lwSame_yes _ _ _ _ c S D w64 R2.out.rd R3.out.rd R0.out.rd R1.out.rd HG.out).mono ?_
 rintro e we70 ⟨rfl,hb⟩
 clear R0 R1 R2 R3 HG HC HD
 replace KA:=hideP (KA.out.keep hb)
 replace KM:=hideP (KM.out.keep hb)
 replace KG:=hideP (KG.out.keep hb)
 replace KB:=hideP (KB.out.keep hb)
 replace BW:=hideP (BW.out.trans (hb.mono BW.out.size))
 clear hb
 go_wp2_with fail
 refine (draw11_any ao n cap we70 hn hcap hm (RB.out we70 BW.out)).mono ?_
 rintro e wd71 ⟨op,v0,v1,sa,da,rfl,hl,hd,hb⟩
 obtain ⟨c,S,D,hG,hC⟩:=st3 op v0 v1 sa da hl
 have HG:=hideP hG
 have HC:=hideP hC
 obtain ⟨a0,k0,e0,_⟩:=id hd.1.1
 obtain ⟨b1,k1,e1,_⟩:=id hd.2
 subst e0 e1
 have HD:=hideP (show D2 op _ _ sa da _ from hd)
 clear hG hC hd hl
 replace KA:=hideP (KA.out.keep hb)
 replace KM:=hideP (KM.out.keep hb)
 replace KG:=hideP (KG.out.keep hb)
 replace KB:=hideP (KB.out.keep hb)
 replace BW:=hideP (BW.out.trans (hb.mono BW.out.size))
 clear hb
 obtain ⟨q72,q73,q74,q75⟩:=KA.out.cf
 obtain ⟨w76,e77⟩:∃W,W=(wd71.setCell ⟨A,0,none⟩ (.slice a0 sa.length k0)).setCell ⟨A,1,none⟩ (.slice (some ⟨b1,0,none⟩) da.length k1):=⟨_,rfl⟩
 replace HD:=hideP (KA.out.d2E ⟨_,_,_,rfl⟩ e77 HD.out)
 replace BW:=hideP (KA.out.belowE BW.out e77)
 replace KM:=hideP (KM.out.farE nAM.out.2 e77)
 replace KG:=hideP (KG.out.farE nAG.out.2 e77)
 replace KB:=hideP (KB.out.farE nAB.out.2 e77)
 replace KA:=hideP (KA.out.putE ⟨_,_,_,rfl⟩ e77)
 go_upto_region 14 with fail
 rw [<- e77]
 clear e77 q72 q73 q74 q75
 obtain ⟨q78,q79⟩:=KA.out.cc
 go_wp2_with fail
 clear q78 q79
 refine (HC.out w76 HD.out).1.mono ?_
 rintro e wc80 ⟨hb,u0,u1,rfl,res⟩
 obtain ⟨x81,x82,x83,x84,e0,e1⟩:=Res.forms res
 subst e0 e1
 have R0:=hideP (Rz.of res.1)
 have R1:=hideP (Rz.of res.2.1)
 clear res
 replace KA:=hideP (KA.out.keep hb)
 replace KM:=hideP (KM.out.keep hb)
 replace KG:=hideP (KG.out.keep hb)
 replace KB:=hideP (KB.out.keep hb)
 replace HD:=hideP (D2.keep HD.out hb)
 replace BW:=hideP (BW.out.trans (hb.mono BW.out.size))
 clear hb
 obtain ⟨q85,q86,q87,q88⟩:=KM.out.cf
 obtain ⟨w89,e90⟩:∃W,W=(wc80.setCell ⟨M,0,none⟩ (.slice x81 S.length x82)).setCell ⟨M,1,none⟩ (.slice x83 D.length x84):=⟨_,rfl⟩
 replace HD:=hideP (KM.out.d2E ⟨_,_,_,rfl⟩ e90 HD.out)
 replace R0:=hideP (KM.out.rzE ⟨_,_,_,rfl⟩ e90 R0.out)
 replace R1:=hideP (KM.out.rzE ⟨_,_,_,rfl⟩ e90 R1.out)
 replace BW:=hideP (KM.out.belowE BW.out e90)
 replace KA:=hideP (KA.out.farE nAM.out.1 e90)
 replace KG:=hideP (KG.out.farE nMG.out.2 e90)
 replace KB:=hideP (KB.out.farE nMB.out.2 e90)
 replace KM:=hideP (KM.out.putE ⟨_,_,_,rfl⟩ e90)
 go_upto_region 15 with fail
 rw [<- e90]
 clear e90 q85 q86 q87 q88
 obtain ⟨q91,q92⟩:=KA.out.cc
 go_wp2_with fail
 clear q91 q92
 refine (HC.out w89 HD.out).2.mono ?_
 rintro e wc93 ⟨hb,u0,u1,rfl,res⟩
 obtain ⟨x94,x95,x96,x97,e0,e1⟩:=Res.forms res
 subst e0 e1
 have R2:=hideP (Rz.of res.1)
 have R3:=hideP (Rz.of res.2.1)
 clear res
 replace KA:=hideP (KA.out.keep hb)
 replace KM:=hideP (KM.out.keep hb)
 replace KG:=hideP (KG.out.keep hb)
 replace KB:=hideP (KB.out.keep hb)
 replace HD:=hideP (D2.keep HD.out hb)
 replace R0:=hideP (R0.out.keep hb)
 replace R1:=hideP (R1.out.keep hb)
 replace BW:=hideP (BW.out.trans (hb.mono BW.out.size))
 clear hb
 obtain ⟨q98,q99,q100,q101⟩:=KG.out.cf
 obtain ⟨w102,e103⟩:∃W,W=(wc93.setCell ⟨G,0,none⟩ (.slice x94 S.length x95)).setCell ⟨G,1,none⟩ (.slice x96 D.length x97):=⟨_,rfl⟩
 replace HD:=hideP (KG.out.d2E ⟨_,_,_,rfl⟩ e103 HD.out)
 replace R0:=hideP (KG.out.rzE ⟨_,_,_,rfl⟩ e103 R0.out)
 replace R1:=hideP (KG.out.rzE ⟨_,_,_,rfl⟩ e103 R1.out)
 replace R2:=hideP (KG.out.rzE ⟨_,_,_,rfl⟩ e103 R2.out)
 replace R3:=hideP (KG.out.rzE ⟨_,_,_,rfl⟩ e103 R3.out)
 replace BW:=hideP (KG.out.belowE BW.out e103)
 replace KA:=hideP (KA.out.farE nAG.out.1 e103)
 replace KM:=hideP (KM.out.farE nMG.out.1 e103)
 replace KB:=hideP (KB.out.farE nGB.out.2 e103)
 replace KG:=hideP (KG.out.putE ⟨_,_,_,rfl⟩ e103)
 go_upto_region 16 with fail
 rw [<- e103]
 clear e103 q98 q99 q100 q101
 obtain ⟨q104,q105⟩:=KG.out.cc
 obtain ⟨q106,q107⟩:=KM.out.cc
 go_wp2_with fail
 clear q104 q105 q106 q107
 refine (lwSame_yes _ _ _ _ c S D w102 R2.out.rd R3.out.rd R0.out.rd R1.out.rd HG.out).mono ?_
 rintro e we108 ⟨rfl,hb⟩
 clear R0 R1 R2 R3 HG HC HD
 replace KA:=hideP (KA.out.keep hb)
 replace KM:=hideP (KM.out.keep hb)
 replace KG:=hideP (KG.out.keep hb)
 replace KB:=hideP (KB.out.keep hb)
 replace BW:=hideP (BW.out.trans (hb.mono BW.out.size))
 clear hb
 go_wp2_with fail
 refine (draw14_any ao n cap we108 hn hcap hm (RB.out we108 BW.out)).mono ?_
 rintro e wd109 ⟨op,v0,v1,v2,v3,sa,da,sb,db,rfl,hl,hd,hb⟩
 obtain ⟨c,S,D,hG,hC⟩:=st4 op v0 v1 v2 v3 sa da sb db hl
 have HG:=hideP hG
 have HC:=hideP hC
 obtain ⟨a0,k0,e0,_⟩:=id hd.1
 obtain ⟨b1,k1,e1,_⟩:=id hd.2.1
 obtain ⟨b2,k2,e2,_⟩:=id hd.2.2.1
 obtain ⟨b3,k3,e3,_⟩:=id hd.2.2.2
 subst e0 e1 e2 e3
 have HD:=hideP (show D4 _ _ _ _ sa da sb db _ from hd)
 clear hG hC hd hl
 replace KA:=hideP (KA.out.keep hb)
 replace KM:=hideP (KM.out.keep hb)
 replace KG:=hideP (KG.out.keep hb)
 replace KB:=hideP (KB.out.keep hb)
 replace BW:=hideP (BW.out.trans (hb.mono BW.out.size))
 clear hb
 obtain ⟨q110,q111,q112,q113⟩:=KA.out.cf
 obtain ⟨q114,q115,q116,q117⟩:=KB.out.cf
 have q118:=nAB.out.1
 have q119:=nAB.out.2
 obtain ⟨w120,e121⟩:∃W,W=(wd109.setCell ⟨A,0,none⟩ (.slice a0 sa.length k0)).setCell ⟨A,1,none⟩ (.slice (some ⟨b1,0,none⟩) da.length k1):=⟨_,rfl⟩
 replace HD:=hideP (KA.out.d4E ⟨_,_,_,rfl⟩ e121 HD.out)
 replace BW:=hideP (KA.out.belowE BW.out e121)
 replace KM:=hideP (KM.out.farE nAM.out.2 e121)
 replace KG:=hideP (KG.out.farE nAG.out.2 e121)
 replace KB:=hideP (KB.out.farE nAB.out.2 e121)
 replace KA:=hideP (KA.out.putE ⟨_,_,_,rfl⟩ e121)
 obtain ⟨w122,e123⟩:∃W,W=(w120.setCell ⟨B,0,none⟩ (.slice (some ⟨b2,0,none⟩) sb.length k2)).setCell ⟨B,1,none⟩ (.slice (some ⟨b3,0,none⟩) db.length k3):=⟨_,rfl⟩
 replace HD:=hideP (KB.out.d4E ⟨_,_,_,rfl⟩ e123 HD.out)
 replace BW:=hideP (KB.out.belowE BW.out e123)
 replace KA:=hideP (KA.out.farE nAB.out.1 e123)
 replace KM:=hideP (KM.out.farE nMB.out.1 e123)
 replace KG:=hideP (KG.out.farE nGB.out.1 e123)
 replace KB:=hideP (KB.out.putE ⟨_,_,_,rfl⟩ e123)
 go_upto_region 19 with fail
 rw [<- e121,<- e123]
 clear e121 e123 q110 q111 q112 q113 q114 q115 q116 q117 q118 q119
 obtain ⟨q124,q125⟩:=KA.out.cc
 obtain ⟨q126,q127⟩:=KB.out.cc
 go_wp2_with fail
 clear q124 q125 q126 q127
 refine (HC.out w122 HD.out).1.mono ?_
 rintro e wc128 ⟨hb,u0,u1,rfl,res⟩
 obtain ⟨x129,x130,x131,x132,e0,e1⟩:=Res.forms res
 subst e0 e1
 have R0:=hideP (Rz.of res.1)
 have R1:=hideP (Rz.of res.2.1)
 clear res
 replace KA:=hideP (KA.out.keep hb)
 replace KM:=hideP (KM.out.keep hb)
 replace KG:=hideP (KG.out.keep hb)
 replace KB:=hideP (KB.out.keep hb)
 replace HD:=hideP (D4.keep HD.out hb)
 replace BW:=hideP (BW.out.trans (hb.mono BW.out.size))
 clear hb
 obtain ⟨q133,q134,q135,q136⟩:=KM.out.cf
 obtain ⟨w137,e138⟩:∃W,W=(wc128.setCell ⟨M,0,none⟩ (.slice x129 S.length x130)).setCell ⟨M,1,none⟩ (.slice x131 D.length x132):=⟨_,rfl⟩
 replace HD:=hideP (KM.out.d4E ⟨_,_,_,rfl⟩ e138 HD.out)
 replace R0:=hideP (KM.out.rzE ⟨_,_,_,rfl⟩ e138 R0.out)
 replace R1:=hideP (KM.out.rzE ⟨_,_,_,rfl⟩ e138 R1.out)
 replace BW:=hideP (KM.out.belowE BW.out e138)
 replace KA:=hideP (KA.out.farE nAM.out.1 e138)
 replace KG:=hideP (KG.out.farE nMG.out.2 e138)
 replace KB:=hideP (KB.out.farE nMB.out.2 e138)
 replace KM:=hideP (KM.out.putE ⟨_,_,_,rfl⟩ e138)
 go_upto_region 20 with fail
 rw [<- e138]
 clear e138 q133 q134 q135 q136
 obtain ⟨q139,q140⟩:=KA.out.cc
 obtain ⟨q141,q142⟩:=KB.out.cc
 go_wp2_with fail
 clear q139 q140 q141 q142
 refine (HC.out w137 HD.out).2.mono ?_
 rintro e wc143 ⟨hb,u0,u1,rfl,res⟩
 obtain ⟨x144,x145,x146,x147,e0,e1⟩:=Res.forms res
 subst e0 e1
 have R2:=hideP (Rz.of res.1)
 have R3:=hideP (Rz.of res.2.1)
 clear res
 replace KA:=hideP (KA.out.keep hb)
 replace KM:=hideP (KM.out.keep hb)
 replace KG:=hideP (KG.out.keep hb)
 replace KB:=hideP (KB.out.keep hb)
 replace HD:=hideP (D4.keep HD.out hb)
 replace R0:=hideP (R0.out.keep hb)
 replace R1:=hideP (R1.out.keep hb)
 replace BW:=hideP (BW.out.trans (hb.mono BW.out.size))
 clear hb
 obtain ⟨q148,q149,q150,q151⟩:=KG.out.cf
 obtain ⟨w152,e153⟩:∃W,W=(wc143.setCell ⟨G,0,none⟩ (.slice x144 S.length x145)).setCell ⟨G,1,none⟩ (.slice x146 D.length x147):=⟨_,rfl⟩
 replace HD:=hideP (KG.out.d4E ⟨_,_,_,rfl⟩ e153 HD.out)
 replace R0:=hideP (KG.out.rzE ⟨_,_,_,rfl⟩ e153 R0.out)
 replace R1:=hideP (KG.out.rzE ⟨_,_,_,rfl⟩ e153 R1.out)
 replace R2:=hideP (KG.out.rzE ⟨_,_,_,rfl⟩ e153 R2.out)
 replace R3:=hideP (KG.out.rzE ⟨_,_,_,rfl⟩ e153 R3.out)
 replace BW:=hideP (KG.out.belowE BW.out e153)
 replace KA:=hideP (KA.out.farE nAG.out.1 e153)
 replace KM:=hideP (KM.out.farE nMG.out.1 e153)
 replace KB:=hideP (KB.out.farE nGB.out.2 e153)
 replace KG:=hideP (KG.out.putE ⟨_,_,_,rfl⟩ e153)
 go_upto_region 21 with fail
 rw [<- e153]
 clear e153 q148 q149 q150 q151
 obtain ⟨q154,q155⟩:=KG.out.cc
 obtain ⟨q156,q157⟩:=KM.out.cc
 go_wp2_with fail
 clear q154 q155 q156 q157
 refine (lwSame_yes _ _ _ _ c S D w152 R2.out.rd R3.out.rd R0.out.rd R1.out.rd HG.out).mono ?_
 rintro e we158 ⟨rfl,hb⟩
 clear R0 R1 R2 R3 HG HC HD
 replace KA:=hideP (KA.out.keep hb)
 replace KM:=hideP (KM.out.keep hb)
 replace KG:=hideP (KG.out.keep hb)
 replace KB:=hideP (KB.out.keep hb)
 replace BW:=hideP (BW.out.trans (hb.mono BW.out.size))
 clear hb
 go_wp2_with fail
 refine (draw17_any ao n cap we158 hn hcap hm (RB.out we158 BW.out)).mono ?_
 rintro e wd159 ⟨op,v0,v1,v2,v3,sa,da,sb,db,rfl,hl,hd,hb⟩
 obtain ⟨c,S,D,hG,hC⟩:=st5 op v0 v1 v2 v3 sa da sb db hl
 have HG:=hideP hG
 have HC:=hideP hC
 obtain ⟨a0,k0,e0,_⟩:=id hd.1
 obtain ⟨b1,k1,e1,_⟩:=id hd.2.1
 obtain ⟨b2,k2,e2,_⟩:=id hd.2.2.1
 obtain ⟨b3,k3,e3,_⟩:=id hd.2.2.2
 subst e0 e1 e2 e3
 have HD:=hideP (show D4 _ _ _ _ sa da sb db _ from hd)
 clear hG hC hd hl
 replace KA:=hideP (KA.out.keep hb)
 replace KM:=hideP (KM.out.keep hb)
 replace KG:=hideP (KG.out.keep hb)
 replace KB:=hideP (KB.out.keep hb)
 replace BW:=hideP (BW.out.trans (hb.mono BW.out.size))
 clear hb
 obtain ⟨q160,q161,q162,q163⟩:=KA.out.cf
 obtain ⟨q164,q165,q166,q167⟩:=KB.out.cf
 have q168:=nAB.out.1
 have q169:=nAB.out.2
 obtain ⟨w170,e171⟩:∃W,W=(wd159.setCell ⟨A,0,none⟩ (.slice a0 sa.length k0)).setCell ⟨A,1,none⟩ (.slice (some ⟨b1,0,none⟩) da.length k1):=⟨_,rfl⟩
 replace HD:=hideP (KA.out.d4E ⟨_,_,_,rfl⟩ e171 HD.out)
 replace BW:=hideP (KA.out.belowE BW.out e171)
 replace KM:=hideP (KM.out.farE nAM.out.2 e171)
 replace KG:=hideP (KG.out.farE nAG.out.2 e171)
 replace KB:=hideP (KB.out.farE nAB.out.2 e171)
 replace KA:=hideP (KA.out.putE ⟨_,_,_,rfl⟩ e171)
 obtain ⟨w172,e173⟩:∃W,W=(w170.setCell ⟨B,0,none⟩ (.slice (some ⟨b2,0,none⟩) sb.length k2)).setCell ⟨B,1,none⟩ (.slice (some ⟨b3,0,none⟩) db.length k3):=⟨_,rfl⟩
 replace HD:=hideP (KB.out.d4E ⟨_,_,_,rfl⟩ e173 HD.out)
 replace BW:=hideP (KB.out.belowE BW.out e173)
 replace KA:=hideP (KA.out.farE nAB.out.1 e173)
 replace KM:=hideP (KM.out.farE nMB.out.1 e173)
 replace KG:=hideP (KG.out.farE nGB.out.1 e173)
 replace KB:=hideP (KB.out.putE ⟨_,_,_,rfl⟩ e173)
 go_upto_region 24 with fail
 rw [<- e171,<- e173]
 clear e171 e173 q160 q161 q162 q163 q164 q165 q166 q167 q168 q169
 obtain ⟨q174,q175⟩:=KA.out.cc
 obtain ⟨q176,q177⟩:=KB.out.cc
 go_wp2_with fail
 clear q174 q175 q176 q177
 refine (HC.out w172 HD.out).1.mono ?_
 rintro e wc178 ⟨hb,u0,u1,rfl,res⟩
 obtain ⟨x179,x180,x181,x182,e0,e1⟩:=Res.forms res
 subst e0 e1
 have R0:=hideP (Rz.of res.1)
 have R1:=hideP (Rz.of res.2.1)
 clear res
 replace KA:=hideP (KA.out.keep hb)
 replace KM:=hideP (KM.out.keep hb)
 replace KG:=hideP (KG.out.keep hb)
 replace KB:=hideP (KB.out.keep hb)
 replace HD:=hideP (D4.keep HD.out hb)
 replace BW:=hideP (BW.out.trans (hb.mono BW.out.size))
 clear hb
 obtain ⟨q183,q184,q185,q186⟩:=KM.out.cf
 obtain ⟨w187,e188⟩:∃W,W=(wc178.setCell ⟨M,0,none⟩ (.slice x179 S.length x180)).setCell ⟨M,1,none⟩ (.slice x181 D.length x182):=⟨_,rfl⟩
 replace HD:=hideP (KM.out.d4E ⟨_,_,_,rfl⟩ e188 HD.out)
 replace R0:=hideP (KM.out.rzE ⟨_,_,_,rfl⟩ e188 R0.out)
 replace R1:=hideP (KM.out.rzE ⟨_,_,_,rfl⟩ e188 R1.out)
 replace BW:=hideP (KM.out.belowE BW.out e188)
 replace KA:=hideP (KA.out.farE nAM.out.1 e188)
 replace KG:=hideP (KG.out.farE nMG.out.2 e188)
 replace KB:=hideP (KB.out.farE nMB.out.2 e188)
 replace KM:=hideP (KM.out.putE ⟨_,_,_,rfl⟩ e188)
 go_upto_region 25 with fail
 rw [<- e188]
 clear e188 q183 q184 q185 q186
 obtain ⟨q189,q190⟩:=KA.out.cc
 obtain ⟨q191,q192⟩:=KB.out.cc
 go_wp2_with fail
 clear q189 q190 q191 q192
 refine (HC.out w187 HD.out).2.mono ?_
 rintro e wc193 ⟨hb,u0,u1,rfl,res⟩
 obtain ⟨x194,x195,x196,x197,e0,e1⟩:=Res.forms res
 subst e0 e1
 have R2:=hideP (Rz.of res.1)
 have R3:=hideP (Rz.of res.2.1)
 clear res
 replace KA:=hideP (KA.out.keep hb)
 replace KM:=hideP (KM.out.keep hb)
 replace KG:=hideP (KG.out.keep hb)
 replace KB:=hideP (KB.out.keep hb)
 replace HD:=hideP (D4.keep HD.out hb)
 replace R0:=hideP (R0.out.keep hb)
 replace R1:=hideP (R1.out.keep hb)
 replace BW:=hideP (BW.out.trans (hb.mono BW.out.size))
 clear hb
 obtain ⟨q198,q199,q200,q201⟩:=KG.out.cf
 obtain ⟨w202,e203⟩:∃W,W=(wc193.setCell ⟨G,0,none⟩ (.slice x194 S.length x195)).setCell ⟨G,1,none⟩ (.slice x196 D.length x197):=⟨_,rfl⟩
 replace HD:=hideP (KG.out.d4E ⟨_,_,_,rfl⟩ e203 HD.out)
 replace R0:=hideP (KG.out.rzE ⟨_,_,_,rfl⟩ e203 R0.out)
 replace R1:=hideP (KG.out.rzE ⟨_,_,_,rfl⟩ e203 R1.out)
 replace R2:=hideP (KG.out.rzE ⟨_,_,_,rfl⟩ e203 R2.out)
 replace R3:=hideP (KG.out.rzE ⟨_,_,_,rfl⟩ e203 R3.out)
 replace BW:=hideP (KG.out.belowE BW.out e203)
 replace KA:=hideP (KA.out.farE nAG.out.1 e203)
 replace KM:=hideP (KM.out.farE nMG.out.1 e203)
 replace KB:=hideP (KB.out.farE nGB.out.2 e203)
 replace KG:=hideP (KG.out.putE ⟨_,_,_,rfl⟩ e203)
 go_upto_region 26 with fail
 rw [<- e203]
 clear e203 q198 q199 q200 q201
 obtain ⟨q204,q205⟩:=KG.out.cc
 obtain ⟨q206,q207⟩:=KM.out.cc
 go_wp2_with fail
 clear q204 q205 q206 q207
 refine (lwSame_yes _ _ _ _ c S D w202 R2.out.rd R3.out.rd R0.out.rd R1.out.rd HG.out).mono ?_
 rintro e we208 ⟨rfl,hb⟩
 clear R0 R1 R2 R3 HG HC HD
 replace KA:=hideP (KA.out.keep hb)
 replace KM:=hideP (KM.out.keep hb)
 replace KG:=hideP (KG.out.keep hb)
 replace KB:=hideP (KB.out.keep hb)
 replace BW:=hideP (BW.out.trans (hb.mono BW.out.size))
 clear hb
 go_wp2_with fail
 refine (draw20_any ao n cap we208 hn hcap hm (RB.out we208 BW.out)).mono ?_
 rintro e wd209 ⟨f,op,v0,v1,v2,v3,sa,da,sb,db,rfl,hl,hd,hb⟩
 obtain ⟨c,S,D,hG,hC⟩:=st6 f op v0 v1 v2 v3 sa da sb db hl
 have HG:=hideP hG
 have HC:=hideP hC
 obtain ⟨a0,k0,e0,_⟩:=id hd.1
 obtain ⟨b1,k1,e1,_⟩:=id hd.2.1
 obtain ⟨b2,k2,e2,_⟩:=id hd.2.2.1
 obtain ⟨b3,k3,e3,_⟩:=id hd.2.2.2
 subst e0 e1 e2 e3
 have HD:=hideP (show D4 _ _ _ _ sa da sb db _ from hd)
 clear hG hC hd hl
 replace KA:=hideP (KA.out.keep hb)
 replace KM:=hideP (KM.out.keep hb)
 replace KG:=hideP (KG.out.keep hb)
 replace KB:=hideP (KB.out.keep hb)
 replace BW:=hideP (BW.out.trans (hb.mono BW.out.size))
 clear hb
 obtain ⟨q210,q211,q212,q213⟩:=KA.out.cf
 obtain ⟨q214,q215,q216,q217⟩:=KB.out.cf
 have q218:=nAB.out.1
 have q219:=nAB.out.2
 obtain ⟨w220,e221⟩:∃W,W=(wd209.setCell ⟨A,0,none⟩ (.slice a0 sa.length k0)).setCell ⟨A,1,none⟩ (.slice (some ⟨b1,0,none⟩) da.length k1):=⟨_,rfl⟩
 replace HD:=hideP (KA.out.d4E ⟨_,_,_,rfl⟩ e221 HD.out)
 replace BW:=hideP (KA.out.belowE BW.out e221)
 replace KM:=hideP (KM.out.farE nAM.out.2 e221)
 replace KG:=hideP (KG.out.farE nAG.out.2 e221)
 replace KB:=hideP (KB.out.farE nAB.out.2 e221)
 replace KA:=hideP (KA.out.putE ⟨_,_,_,rfl⟩ e221)
 obtain ⟨w222,e223⟩:∃W,W=(w220.setCell ⟨B,0,none⟩ (.slice (some ⟨b2,0,none⟩) sb.length k2)).setCell ⟨B,1,none⟩ (.slice (some ⟨b3,0,none⟩) db.length k3):=⟨_,rfl⟩
 replace HD:=hideP (KB.out.d4E ⟨_,_,_,rfl⟩ e223 HD.out)
 replace BW:=hideP (KB.out.belowE BW.out e223)
 replace KA:=hideP (KA.out.farE nAB.out.1 e223)
 replace KM:=hideP (KM.out.farE nMB.out.1 e223)
 replace KG:=hideP (KG.out.farE nGB.out.1 e223)
 replace KB:=hideP (KB.out.putE ⟨_,_,_,rfl⟩ e223)
 go_upto_region 29 with fail
 rw [<- e221,<- e223]
 clear e221 e223 q210 q211 q212 q213 q214 q215 q216 q217 q218 q219
 obtain ⟨q224,q225⟩:=KA.out.cc
 obtain ⟨q226,q227⟩:=KB.out.cc
 go_wp2_with fail
 clear q224 q225 q226 q227
 refine (HC.out w222 HD.out).1.mono ?_
 rintro e wc228 ⟨hb,u0,u1,rfl,res⟩
 obtain ⟨x229,x230,x231,x232,e0,e1⟩:=Res.forms res
 subst e0 e1
 have R0:=hideP (Rz.of res.1)
 have R1:=hideP (Rz.of res.2.1)
 clear res
 replace KA:=hideP (KA.out.keep hb)
 replace KM:=hideP (KM.out.keep hb)
 replace KG:=hideP (KG.out.keep hb)
 replace KB:=hideP (KB.out.keep hb)
 replace HD:=hideP (D4.keep HD.out hb)
 replace BW:=hideP (BW.out.trans (hb.mono BW.out.size))
 clear hb
 obtain ⟨q233,q234,q235,q236⟩:=KM.out.cf
 obtain ⟨w237,e238⟩:∃W,W=(wc228.setCell ⟨M,0,none⟩ (.slice x229 S.length x230)).setCell ⟨M,1,none⟩ (.slice x231 D.length x232):=⟨_,rfl⟩
 replace HD:=hideP (KM.out.d4E ⟨_,_,_,rfl⟩ e238 HD.out)
 replace R0:=hideP (KM.out.rzE ⟨_,_,_,rfl⟩ e238 R0.out)
 replace R1:=hideP (KM.out.rzE ⟨_,_,_,rfl⟩ e238 R1.out)
 replace BW:=hideP (KM.out.belowE BW.out e238)
 replace KA:=hideP (KA.out.farE nAM.out.1 e238)
 replace KG:=hideP (KG.out.farE nMG.out.2 e238)
 replace KB:=hideP (KB.out.farE nMB.out.2 e238)
 replace KM:=hideP (KM.out.putE ⟨_,_,_,rfl⟩ e238)
 go_upto_region 30 with fail
 rw [<- e238]
 clear e238 q233 q234 q235 q236
 obtain ⟨q239,q240⟩:=KA.out.cc
 obtain ⟨q241,q242⟩:=KB.out.cc
 go_wp2_with fail
 clear q239 q240 q241 q242
 refine (HC.out w237 HD.out).2.mono ?_
 rintro e wc243 ⟨hb,u0,u1,rfl,res⟩
 obtain ⟨x244,x245,x246,x247,e0,e1⟩:=Res.forms res
 subst e0 e1
 have R2:=hideP (Rz.of res.1)
 have R3:=hideP (Rz.of res.2.1)
 clear res
 replace KA:=hideP (KA.out.keep hb)
 replace KM:=hideP (KM.out.keep hb)
 replace KG:=hideP (KG.out.keep hb)
 replace KB:=hideP (KB.out.keep hb)
 replace HD:=hideP (D4.keep HD.out hb)
 replace R0:=hideP (R0.out.keep hb)
 replace R1:=hideP (R1.out.keep hb)
 replace BW:=hideP (BW.out.trans (hb.mono BW.out.size))
 clear hb
 obtain ⟨q248,q249,q250,q251⟩:=KG.out.cf
 obtain ⟨w252,e253⟩:∃W,W=(wc243.setCell ⟨G,0,none⟩ (.slice x244 S.length x245)).setCell ⟨G,1,none⟩ (.slice x246 D.length x247):=⟨_,rfl⟩
 replace HD:=hideP (KG.out.d4E ⟨_,_,_,rfl⟩ e253 HD.out)
 replace R0:=hideP (KG.out.rzE ⟨_,_,_,rfl⟩ e253 R0.out)
 replace R1:=hideP (KG.out.rzE ⟨_,_,_,rfl⟩ e253 R1.out)
 replace R2:=hideP (KG.out.rzE ⟨_,_,_,rfl⟩ e253 R2.out)
 replace R3:=hideP (KG.out.rzE ⟨_,_,_,rfl⟩ e253 R3.out)
 replace BW:=hideP (KG.out.belowE BW.out e253)
 replace KA:=hideP (KA.out.farE nAG.out.1 e253)
 replace KM:=hideP (KM.out.farE nMG.out.1 e253)
 replace KB:=hideP (KB.out.farE nGB.out.2 e253)
 replace KG:=hideP (KG.out.putE ⟨_,_,_,rfl⟩ e253)
 go_upto_region 31 with fail
 rw [<- e253]
 clear e253 q248 q249 q250 q251
 obtain ⟨q254,q255⟩:=KG.out.cc
 obtain ⟨q256,q257⟩:=KM.out.cc
 go_wp2_with fail
 clear q254 q255 q256 q257
 refine (lwSame_yes _ _ _ _ c S D w252 R2.out.rd R3.out.rd R0.out.rd R1.out.rd HG.out).mono ?_
 rintro e we258 ⟨rfl,hb⟩
 clear R0 R1 R2 R3 HG HC HD
 replace KA:=hideP (KA.out.keep hb)
 replace KM:=hideP (KM.out.keep hb)
 replace KG:=hideP (KG.out.keep hb)
 replace KB:=hideP (KB.out.keep hb)
 replace BW:=hideP (BW.out.trans (hb.mono BW.out.size))
 clear hb
 go_wp2_with fail
 go_ret
 exact ⟨rfl,BW.out⟩
end Go.Proofs.YtacapaiadggemaaGreat
