import Derived.Test.YtbiiicbfpcfgdaaGreatDoorDt1
namespace Go.Proofs.YtbiiicbfpcfgdaaGreatDoor
open Go.RowKit
set_option maxRecDepth 100000
set_option maxHeartbeats 16000000
set_option linter.unusedVariables false
theorem Below.ofN (C:Nat) (w:World) (q:Nat):Below C w (w.drewN q):=⟨rfl,rfl,rfl,Nat.le_refl _,fun _ _=>rfl⟩
theorem sameCode_same (c:List Pl.Sv) (a1 a2:Option Addr) (c1 c2:Nat) (w:World) (hl:c.length<=1048576) (hk:∀s∈c,s.nums.length<=1048576) (R1:RdS w.heap.size w a1 c) (R2:RdS w.heap.size w a2 c) :
  Calls Tryz.prog 17 #[.slice a1 c.length c1,.slice a2 c.length c2] w fun e w'=>e=.returned (.bool true)/\∃q,w'=w.drewN q:=by
 have HG:Hid (∀k,k<c.length->∃s b1 o1 b2 o2,s∈c/\a1=some ⟨b1,o1,none⟩/\a2=some ⟨b2,o2,none⟩/\b1<w.heap.size/\b2<w.heap.size/\(∃anx cnx,Stp w.heap.size w b1 (o1+k * 7) s anx cnx)/\(∃any cny,Stp w.heap.size w b2 (o2+k * 7) s any cny)):=fun k hk=>by
  rcases R1 with rfl|⟨b1,o1,h1,rfl,hc1⟩
  ·cases hk
  rcases R2 with rfl|⟨b2,o2,h2,rfl,hc2⟩
  ·cases hk
  exact⟨c[k],b1,o1,b2,o2,List.getElem_mem hk,rfl,rfl,h1,h2,hc1 k c[k] (List.getElem?_eq_getElem hk),hc2 k c[k] (List.getElem?_eq_getElem hk)⟩
 have HK:=zH hk
 clear R1 R2 hk
 generalize c.length=n at *
 go_enter Tryz.func17,Tryz.ntmps17
 go_wp2
 go_loopw [5] (fun i wr=>∃k:Nat,k<=n/\i=.int .i64 k/\Hid (∃q,wr=w.drewN q)) (fun i _=>n-(intOf i).toNat)
 case atStart=>exact⟨0,Nat.zero_le _,rfl,⟨0,rfl⟩⟩
 rename World=>wr
 obtain⟨k,hk,rfl,HW⟩:=hrel
 have HB:Hid (Below w.heap.size w wr):=by obtain⟨q,e⟩:=HW.out;rw[e];exact Below.ofN _ _ _
 by_cases hlt:k<n
 rotate_left 1
 ·clear HG HK
  go_wp2
  go_ret
  exact⟨rfl,HW.out⟩
 obtain⟨s,b1,o1,b2,o2,hm,rfl,rfl,hb1,hb2,⟨anx,cnx,g1⟩,⟨any,cny,g2⟩⟩:=HG.out k hlt
 have g1:=(g1.keep hb1 HB.out).up HB.out.size
 have g2:=(g2.keep hb2 HB.out).up HB.out.size
 have K:=zH (fun n=>l2Same_same s.nums anx any cnx cny (wr.drewN n) (HK.out s hm) (g1.rd.keep (Below.ofN _ _ _)) (g2.rd.keep (Below.ofN _ _ _)))
 have hE:=fun W=>(eq78 s.fn.k s.fn.a s.fn.b s.fn.k s.fn.a s.fn.b (Pl.ba s.fn.nm) (Pl.ba s.fn.nm) W)
 simp only[decide_true,Bool.and_true] at hE
 obtain⟨u0,u1,u2,u3,u4,u5,u6,ur⟩:=g1
 obtain⟨v0,v1,v2,v3,v4,v5,v6,vr⟩:=g2
 have hlt':(k:Int)<(n:Int):=by omega
 clear HG HK hm ur vr
 generalize s.nums.length=sn at *
 generalize Pl.ba s.nm=nm at *
 generalize Pl.ba s.fn.nm=fnm at *
 generalize s.fn.k=fk at *
 generalize s.fn.a=fa at *
 generalize s.fn.b=fb at *
 generalize s.k=kk at *
 go_wp2
 go_quiet ((go_at_call 40;exact Calls.quiet_of (K.out _)))
 go_wp2
 go_roundw
 case rel=>exact⟨k+1,by omega,by go_num,by obtain⟨q,e⟩:=HW.out;exact⟨q+nq,by rw[e];simp⟩⟩
 simp[intOf];omega
namespace Pl
def Sz (c:List Sv):Prop:=c.length<=1048576/\∀s∈c,s.nums.length<=1048576
def SzG (c:List Gv):Prop:=c.length<=1048576/\∀s∈c,Sz s.test/\Sz s.thn
def SzT (c:List Tv):Prop:=c.length<=1048576/\∀s∈c,Sz s.code/\SzG s.gs
end Pl
theorem sameProgram_same (c:List Pl.Tv) (a1 a2:Option Addr) (c1 c2:Nat) (w:World) (hz:Pl.SzT c) (R1:RdP w.heap.size w a1 c) (R2:RdP w.heap.size w a2 c) :
  Calls Tryz.prog 7 #[.slice a1 c.length c1,.slice a2 c.length c2] w fun e w'=>e=.returned (.bool true)/\∃q,w'=w.drewN q:=by
 obtain⟨hl,hk⟩:=hz
 have HG:Hid (∀k,k<c.length->∃s b1 o1 b2 o2,s∈c/\a1=some ⟨b1,o1,none⟩/\a2=some ⟨b2,o2,none⟩/\b1<w.heap.size/\b2<w.heap.size/\(∃x1 x2 y1 y2,Sm w.heap.size w b1 (o1+k * 4) s x1 x2 y1 y2)/\(∃x1 x2 y1 y2,Sm w.heap.size w b2 (o2+k * 4) s x1 x2 y1 y2)):=fun k hk=>by
  rcases R1 with rfl|⟨b1,o1,h1,rfl,hc1⟩
  ·cases hk
  rcases R2 with rfl|⟨b2,o2,h2,rfl,hc2⟩
  ·cases hk
  exact⟨c[k],b1,o1,b2,o2,List.getElem_mem hk,rfl,rfl,h1,h2,hc1 k c[k] (List.getElem?_eq_getElem hk),hc2 k c[k] (List.getElem?_eq_getElem hk)⟩
 have HK:=zH hk
 clear R1 R2 hk
 generalize c.length=n at *
 go_enter Tryz.func7,Tryz.ntmps7
 go_wp2
 go_loopw [5] (fun i wr=>∃k:Nat,k<=n/\i=.int .i64 k/\Hid (∃q,wr=w.drewN q)) (fun i _=>n-(intOf i).toNat)
 case atStart=>exact⟨0,Nat.zero_le _,rfl,⟨0,rfl⟩⟩
 rename World=>wr
 obtain⟨k,hk,rfl,HW⟩:=hrel
 have HB:Hid (Below w.heap.size w wr):=by obtain⟨q,e⟩:=HW.out;rw[e];exact Below.ofN _ _ _
 by_cases hlt:k<n
 rotate_left 1
 ·clear HG HK
  go_wp2
  go_ret
  exact⟨rfl,HW.out⟩
 obtain⟨s,b1,o1,b2,o2,hm,rfl,rfl,hb1,hb2,⟨x1,x2,y1,y2,g1⟩,⟨z1,z2,t1,t2,g2⟩⟩:=HG.out k hlt
 have g1:=(g1.keep hb1 HB.out).up HB.out.size
 have g2:=(g2.keep hb2 HB.out).up HB.out.size
 obtain⟨hsc,hsg⟩:=HK.out s hm
 have K:=zH (fun n=>sameCode_same s.code x1 z1 y1 t1 (wr.drewN n) hsc.1 hsc.2 (g1.rc.keep (Below.ofN _ _ _)) (g2.rc.keep (Below.ofN _ _ _)))
 have hgl:=hsg.1
 have HKG:=zH hsg.2
 have HGG:Hid (∀j,j<s.gs.length->∃t d1 p1 d2 p2,t∈s.gs/\x2=some ⟨d1,p1,none⟩/\z2=some ⟨d2,p2,none⟩/\d1<wr.heap.size/\d2<wr.heap.size/\(∃a1 a2 c1 c2,Gd wr.heap.size wr d1 (p1+j * 2) t a1 a2 c1 c2)/\(∃a1 a2 c1 c2,Gd wr.heap.size wr d2 (p2+j * 2) t a1 a2 c1 c2)):=fun j hj=>by
  rcases g1.rg with h|⟨d1,p1,h1,rfl,hc1⟩
  ·rw[h] at hj;cases hj
  rcases g2.rg with h|⟨d2,p2,h2,rfl,hc2⟩
  ·rw[h] at hj;cases hj
  exact⟨s.gs[j],d1,p1,d2,p2,List.getElem_mem hj,rfl,rfl,h1,h2,hc1 j s.gs[j] (List.getElem?_eq_getElem hj),hc2 j s.gs[j] (List.getElem?_eq_getElem hj)⟩
 obtain⟨u0,u1,u2,u3,_,_⟩:=g1
 obtain⟨v0,v1,v2,v3,_,_⟩:=g2
 have hlt':(k:Int)<(n:Int):=by omega
 clear HG HK hm hsc hsg
 generalize s.code.length=sn at *
 generalize s.gs.length=sg at *
 generalize Pl.ba s.nm=nm at *
 generalize s.k=kk at *
 go_wp2
 go_quiet ((go_at_call 17;exact Calls.quiet_of (K.out _)))
 go_wp2
 have C3:Hid (∀q,(wr.drewN q).cell? ⟨b1,o1+k * 4+3,none⟩=some (.slice x2 sg y2)/\(wr.drewN q).cell? ⟨b2,o2+k * 4+3,none⟩=some (.slice z2 sg t2)):=fun q=>⟨u3,v3⟩
 clear u0 u1 u2 u3 v0 v1 v2 v3 K
 go_loopw [6] (fun i2 wi=>∃j:Nat,j<=sg/\i2=.int .i64 j/\Hid (∃q,wi=wr.drewN q)) (fun i2 _=>sg-(intOf i2).toNat)
 case atStart=>exact⟨0,Nat.zero_le _,rfl,⟨nq,rfl⟩⟩
 rename World=>wi
 obtain⟨j,hj,rfl,HWI⟩:=hrel
 have HBI:Hid (Below wr.heap.size wr wi):=by obtain⟨q,e⟩:=HWI.out;rw[e];exact Below.ofN _ _ _
 obtain⟨u3,v3⟩:wi.cell? ⟨b1,o1+k * 4+3,none⟩=some (.slice x2 sg y2)/\wi.cell? ⟨b2,o2+k * 4+3,none⟩=some (.slice z2 sg t2):=by obtain⟨q,e⟩:=HWI.out;rw[e];exact C3.out q
 by_cases hlj:j<sg
 ·obtain⟨t,d1,p1,d2,p2,hmt,rfl,rfl,hd1,hd2,⟨f1,f2,l1,l2,g1⟩,⟨f3,f4,l3,l4,g2⟩⟩:=HGG.out j hlj
  have g1:=(g1.keep hd1 HBI.out).up HBI.out.size
  have g2:=(g2.keep hd2 HBI.out).up HBI.out.size
  obtain⟨hz1,hz2⟩:=HKG.out t hmt
  have K1:=zH (fun n=>sameCode_same t.test f1 f3 l1 l3 (wi.drewN n) hz1.1 hz1.2 (g1.rt.keep (Below.ofN _ _ _)) (g2.rt.keep (Below.ofN _ _ _)))
  have K2:=zH (fun n=>sameCode_same t.thn f2 f4 l2 l4 (wi.drewN n) hz2.1 hz2.2 (g1.rh.keep (Below.ofN _ _ _)) (g2.rh.keep (Below.ofN _ _ _)))
  obtain⟨r0,r1,_,_⟩:=g1
  obtain⟨s0,s1,_,_⟩:=g2
  have hlj':(j:Int)<(sg:Int):=by omega
  clear HGG HKG hmt hz1 hz2
  generalize t.test.length=tn at *
  generalize t.thn.length=hn at *
  go_wp2
  go_quiet ((go_at_call 17;first | with_reducible exact Calls.quiet_of (K1.out _) | with_reducible exact Calls.quiet_of (K2.out _)))
  go_wp2
  go_roundw
  case rel=>exact⟨j+1,by omega,by go_num,by obtain⟨q,e⟩:=HWI.out;rename_i nq2;exact⟨_,by rw[e];simp;rfl⟩⟩
  simp[intOf];omega
 have HW2:Hid (∃q,wi=w.drewN q):=by
  obtain⟨q1,e1⟩:=HW.out
  obtain⟨q2,e2⟩:=HWI.out
  exact⟨q1+q2,by rw[e2,e1];simp⟩
 have hlj':¬(j:Int)<(sg:Int):=by omega
 clear HGG HKG
 go_wp2
 go_roundw
 case rel=>exact⟨k+1,by omega,by go_num,HW2⟩
 simp[intOf];omega
end Go.Proofs.YtbiiicbfpcfgdaaGreatDoor
