import Derived.Test.YtbiiicbfpcfgdaaGreatDoorFnk
import Derived.Test.YtbiiicbfpcfgdaaGreatDoorDr2w
import Derived.OrdersHeld
import Derived.Test.YtbiiicbfpcfgdaaGreatDoorSmt
namespace Go.Proofs.YtbiiicbfpcfgdaaGreatDoor
open Go.RowKit
set_option maxRecDepth 100000
set_option maxHeartbeats 16000000
set_option linter.unusedVariables false
namespace Pl
def at1 (bs:List Nat) (p:Nat):List Sv × Nat:=([(atm bs p).1],(atm bs p).2)
def genK (bs:List Nat) (g:Nat->List Sv × Nat) (k p1:Nat):List Sv × Nat :=
 if k % 8=0 then at1 bs p1 else if bs.length-p1=0 then at1 bs p1 else
 if k % 8<3 then ((g p1).1++[⟨3,[],[],(gfn bs (g p1).2 false).1⟩],(gfn bs (g p1).2 false).2)
 else if k % 8=7 then (((g p1).1++(g (g p1).2).1)++[⟨4,[],[],(gfn bs (g (g p1).2).2 true).1⟩],(gfn bs (g (g p1).2).2 true).2)
 else (((g p1).1++[(atm bs (g p1).2).1])++[⟨4,[],[],(gfn bs (atm bs (g p1).2).2 true).1⟩],(gfn bs (atm bs (g p1).2).2 true).2)
def gen (bs:List Nat):Nat->Nat->List Sv × Nat
 |0,p=>at1 bs (nx bs p).2
 |d+1,p=>genK bs (gen bs d) (nx bs p).1 (nx bs p).2
theorem gen_len (bs:List Nat):∀d p,(gen bs d p).1.length+1<=2 ^ (d+1)
 |0,p=>by simp[gen,at1]
 |d+1,p=>by
  have h:=gen_len bs d
  have hp:2 ^ (d+1+1)=2 ^ (d+1)+2 ^ (d+1):=by rw[Nat.pow_succ];omega
  have h2:2<=2 ^ (d+1):=by have:=Nat.one_le_two_pow (n:=d);rw[Nat.pow_succ];omega
  unfold gen genK
  have h1:=h (nx bs p).2
  have h3:=h (gen bs d (nx bs p).2).2
  split
  ·simp[at1];omega
  split
  ·simp[at1];omega
  split
  ·simp;omega
  split
  ·simp;omega
  simp;omega
end Pl
section
variable {α:Type} {et z:Nat} {Q:World->List Value->α->List Nat->Prop} {B P:Nat} {w0 w:World} {bs:List Nat} {pos:Nat} {F0:List Nat} {v:Value} {c:List α} {F:List Nat}
theorem Dn.app' (h:Dn et z Q B P w0 w bs pos F0 v c F) {w':World}{v':Value}{c':List α}{F' G:List Nat}(o:Own et z Q w' v' c' F') (i:Inb B w' F') (g:w.grownBy w' v.ownBlock) (hF:∀x∈F',x∈F\/x∈G\/w.heap.size<=x) (hG:∀x∈G,x ≠ P/\(x∈F0\/w0.heap.size<=x)):Dn et z Q B P w0 w' bs pos F0 v' c' F':=by
 have hk:Kx w w' v.ownBlock.toList:=Kx.grown g sI
 have ho:∀b,v.ownBlock=some b->b∈F:=fun b hb=>(h.o.lt b hb).1
 refine⟨h.r.kx hk (fun x hx=>?_),o,i,fun hm=>?_,h.k.trans hk (fun x hx=>?_),fun x hx=>?_⟩
 ·have:=ho x (by simpa using hx)
  exact⟨(h.i x this).1,fun e=>h.p (e ▸ this)⟩
 ·rcases hF P hm with r|r|r
  ·exact h.p r
  ·exact(hG P r).1 rfl
  have:=h.r.lt;omega
 ·rcases h.f x (ho x (by simpa using hx)) with r|r
  ·exact .inl (by simp[r])
  exact .inr r
 rcases hF x hx with r|r|r
 ·exact h.f x r
 ·exact(hG x r).2
 exact .inr (by have:=h.k.size;omega)
theorem Dn.with_ {β:Type}{et' z':Nat}{Q':World->List Value->β->List Nat->Prop}(L:Lives Q) (h:Dn et z Q B P w0 w bs pos F0 v c F) {w2:World}{pos2:Nat}{v2:Value}{c2:List β}{G:List Nat}(A:Dn et' z' Q' B P w w2 bs pos2 [] v2 c2 G):Dn et z Q B P w0 w2 bs pos2 F0 v c F/\(∀x∈G,x ∉ F)/\∀x∈G,x ≠ P/\(x∈F0\/w0.heap.size<=x):=by
 refine⟨h.kx L A.r A.k sI,fun x hx hF=>?_,fun x hx=>⟨fun e=>A.p (e ▸ hx),.inr ?_⟩⟩
 ·rcases A.f x hx with r|r
  ·simp at r
  have:=(h.i x hF).2;omega
 rcases A.f x hx with r|r
 ·simp at r
 have:=h.k.size;omega
theorem Dn.nd (h:Dn et z Q B P w0 w bs pos F0 v c F):F.Nodup:=by obtain⟨_,_,_,_,_,hn⟩:=h.o;exact hn
end
def HGe (d:Nat):Prop:=∀(B P:Nat) (w0 w:World) (bs:List Nat) (pos:Nat) (v:Value) (c:List Pl.Sv) (F0 F:List Nat),Dn 90 7 Qs B P w0 w bs pos F0 v c F->c.length+2 ^ (d+1)<=1048576 ->
 Calls Tryz.prog 78 #[.pointer (some ⟨P,0,none⟩),.int .i64 (d:Int),v] w fun e w'=>∃v' F',e=.returned v'/\Dn 90 7 Qs B P w0 w' bs (Pl.gen bs d pos).2 F0 v' (c++(Pl.gen bs d pos).1) F'
theorem Dn.cdr {B P:Nat}{w0 w w':World}{bs:List Nat}{pos:Nat}{F0:List Nat}{v v':Value}{c c':List Pl.Sv}{F F' G:List Nat}(h:Dn 90 7 Qs B P w0 w bs pos F0 v c F) (k:CdR w w' B v v' c' F G F') (hG:∀x∈G,x ≠ P/\(x∈F0\/w0.heap.size<=x)):Dn 90 7 Qs B P w0 w' bs pos F0 v' c' F' :=
 h.app' k.o k.i k.g k.f hG
theorem gen_zero:HGe 0:=by
 intro B P w0 w bs pos v c F0 F hD hl
 have hlt:=hD.r.lt
 have hbp:=hD.r.bp
 obtain⟨ao,cap,rfl⟩:=hD.o.slice
 have hk:=Pl.nx_le (p:=pos) hD.r.by_
 have HD0:=zH hD
 have K1:=zH (nextx_any B P w bs pos hD.r)
 have HG:=zH (show Pl.gen bs 0 pos=Pl.at1 bs (Pl.nx bs pos).2 from rfl)
 generalize Pl.gen bs 0 pos=R at *
 clear hD
 generalize Pl.nx bs pos=q at *
 obtain⟨k,p1⟩:=q
 simp only at hk K1
 generalize hcl:c.length=cl at *
 have HG:=HG.out
 unfold Pl.at1 at HG
 simp only at HG
 have hd0:((0:Nat):Int)=0:=rfl
 rw[hd0]
 have hl2:cl+2<=1048576:=hl
 clear hl
 go_enter Tryz.func78,Tryz.ntmps78
 go_wp2_with fail
 refine K1.out.mono ?_
 rintro e w1 ⟨rfl,hd1⟩
 have D1:=zH (HD0.out.dw Qs.lives hd1)
 have hlt1:=D1.out.r.lt
 clear hd1 K1 HD0
 have KAa:=zH (atom_any B P w1 bs p1 D1.out.r)
 have HFa:=Pl.atm_fn bs p1
 generalize hata:Pl.atm bs p1=aqa at *
 obtain⟨⟨aka,an_a,ama,afa⟩,paa⟩:=aqa
 simp only at KAa HFa hata
 subst HFa
 go_wp2_with fail
 refine KAa.out.mono ?_
 rintro e waa ⟨vaa,Ga,rfl,hAa⟩
 have HAa:=zH hAa
 have HEa:=zH (D1.out.with_ Qs.lives hAa)
 obtain⟨ana,cna,rfl⟩:=hAa.o.slice
 clear hAa KAa
 generalize hala:an_a.length=ala at *
 go_wp2_with (at_builtin;refine wpList_more _ rfl _ _ rfl _ _ _ _ rfl rfl (c) ⟨aka,an_a,ama,Pl.f0⟩ F Ga [.int .i64 aka,.slice ana ala cna,.string (Pl.ba ama),.int .i64 0,.int .i64 0,.int .i64 0,.string ⟨#[]⟩] B ?ho1 ?hi1 ?hy1 ?hG1 ?hn1 ?hd1 ?hc1 ?hbd1 ?hB1 ?_)
 case ho1=>exact(HEa.out.1.alloc Qs.lives _).o
 case hi1=>exact(HEa.out.1.alloc Qs.lives _).i
 case hy1=>exact⟨_,rfl,(HAa.out.alloc Qi.lives _).o⟩
 case hG1=>exact(HAa.out.alloc Qi.lives _).i
 case hn1=>exact HAa.out.nd
 case hd1=>exact HEa.out.2.1
 case hc1=>exact cells_new (l:=[.int .i64 aka,.slice ana ala cna,.string (Pl.ba ama),.int .i64 0,.int .i64 0,.int .i64 0,.string ⟨#[]⟩]) sI
 case hbd1=>omega
 case hB1=>have:=HEa.out.1.r.bp;have:=HEa.out.1.r.lt;simp;omega
 intro va wa Fa ha
 have Da:=zH ((HEa.out.1.alloc Qs.lives _).cdr ha HEa.out.2.2)
 have honea:=ha.o.one
 clear ha HAa HEa
 go_wp2_with fail
 refine bodyPost_ret (v:=va) (by simp[results,Tryz.results78,go_sem]) rfl ⟨va,Fa,rfl,?_⟩
 rw[HG];exact Da.out
theorem tDr61 {P:Prop}(h:P:=by
 intro vf wf Ff hf
 have Df:=zH ((HEf.out.1.alloc Qs.lives _).cdr hf HEf.out.2.2)
 have honef:=hf.o.one
 clear hf HBf HEf
 go_wp2_with fail
 refine bodyPost_ret (v:=vf) (by simp[results,Tryz.results78,go_sem]) rfl ⟨vf,Ff,rfl,?_⟩
 rw[HG];simpa only [List.append_assoc,List.cons_append,List.nil_append] using Df.out
 ):P:=h
theorem gen_succ (d:Nat) (hd3:d<=8) (ih:HGe d):HGe (d+1):=by
 intro B P w0 w bs pos v c F0 F hD hl
 have hlt:=hD.r.lt
 have hbp:=hD.r.bp
 obtain⟨ao,cap,rfl⟩:=hD.o.slice
 have hk:=Pl.nx_le (p:=pos) hD.r.by_
 have HD0:=zH hD
 have K1:=zH (nextx_any B P w bs pos hD.r)
 have HG:=zH (show Pl.gen bs (d+1) pos=Pl.genK bs (Pl.gen bs d) (Pl.nx bs pos).1 (Pl.nx bs pos).2 from rfl)
 generalize Pl.gen bs (d+1) pos=R at *
 clear hD
 generalize Pl.nx bs pos=q at *
 obtain⟨k,p1⟩:=q
 simp only at hk K1
 generalize hcl:c.length=cl at *
 have HG:=HG.out
 unfold Pl.genK Pl.at1 at HG
 rw[show ((d+1:Nat):Int)=(d:Int)+1 by omega]
 have hpw:2 ^ (d+1+1)=2 ^ (d+1)+2 ^ (d+1):=by rw[Nat.pow_succ];omega
 have hp2:2<=2 ^ (d+1):=by have:=Nat.one_le_two_pow (n:=d);rw[Nat.pow_succ];omega
 rw[hpw] at hl
 generalize hpp:2 ^ (d+1)=pp at *
 have m8:Int.tmod (k:Int) 8=((k % 8:Nat):Int):=by rw[Int.tmod_eq_emod_of_nonneg oM];omega
 have hdn:decide ((d:Int)+1<=0)=false:=decide_eq_false oM
 have hds:IntKind.i64.wrap ((d:Int)+1-1)=(d:Int):=by rw[IntKind.wrap_i64];omega
 generalize k % 8=km at *
 by_cases e0:km=0
 ·subst e0
  rw[if_pos rfl] at HG
  try simp only at HG
  go_enter Tryz.func78,Tryz.ntmps78
  go_wp2_with fail
  refine K1.out.mono ?_
  rintro e w1 ⟨rfl,hd1⟩
  have D1:=zH (HD0.out.dw Qs.lives hd1)
  have hlt1:=D1.out.r.lt
  clear hd1 K1 HD0
  have KAb:=zH (atom_any B P w1 bs p1 D1.out.r)
  have HFb:=Pl.atm_fn bs p1
  generalize hatb:Pl.atm bs p1=aqb at *
  obtain⟨⟨akb,an_b,amb,afb⟩,pab⟩:=aqb
  simp only at KAb HFb hatb
  subst HFb
  go_wp2_with fail
  refine KAb.out.mono ?_
  rintro e wab ⟨vab,Gb,rfl,hAb⟩
  have HAb:=zH hAb
  have HEb:=zH (D1.out.with_ Qs.lives hAb)
  obtain⟨anb,cnb,rfl⟩:=hAb.o.slice
  clear hAb KAb
  generalize halb:an_b.length=alb at *
  go_wp2_with (at_builtin;refine wpList_more _ rfl _ _ rfl _ _ _ _ rfl rfl (c) ⟨akb,an_b,amb,Pl.f0⟩ F Gb [.int .i64 akb,.slice anb alb cnb,.string (Pl.ba amb),.int .i64 0,.int .i64 0,.int .i64 0,.string ⟨#[]⟩] B ?ho2 ?hi2 ?hy2 ?hG2 ?hn2 ?hd2 ?hc2 ?hbd2 ?hB2 ?_)
  case ho2=>exact(HEb.out.1.alloc Qs.lives _).o
  case hi2=>exact(HEb.out.1.alloc Qs.lives _).i
  case hy2=>exact⟨_,rfl,(HAb.out.alloc Qi.lives _).o⟩
  case hG2=>exact(HAb.out.alloc Qi.lives _).i
  case hn2=>exact HAb.out.nd
  case hd2=>exact HEb.out.2.1
  case hc2=>exact cells_new (l:=[.int .i64 akb,.slice anb alb cnb,.string (Pl.ba amb),.int .i64 0,.int .i64 0,.int .i64 0,.string ⟨#[]⟩]) sI
  case hbd2=>omega
  case hB2=>have:=HEb.out.1.r.bp;have:=HEb.out.1.r.lt;simp;omega
  intro vb wb Fb hb
  have Db:=zH ((HEb.out.1.alloc Qs.lives _).cdr hb HEb.out.2.2)
  have honeb:=hb.o.one
  clear hb HAb HEb
  go_wp2_with fail
  refine bodyPost_ret (v:=vb) (by simp[results,Tryz.results78,go_sem]) rfl ⟨vb,Fb,rfl,?_⟩
  rw[HG];exact Db.out
 rw[if_neg e0] at HG
 have hn0:((km:Int) == 0)=false:=by simp;omega
 go_enter Tryz.func78,Tryz.ntmps78
 go_wp2_with fail
 refine K1.out.mono ?_
 rintro e w1 ⟨rfl,hd1⟩
 have D1:=zH (HD0.out.dw Qs.lives hd1)
 have hlt1:=D1.out.r.lt
 clear hd1 K1 HD0
 have KL:=zH (left_any B P w1 bs p1 D1.out.r)
 generalize bs.length-p1=lf at *
 by_cases el:lf=0
 ·subst el
  rw[if_pos rfl] at HG
  try simp only at HG
  go_wp2_with fail
  refine KL.out.mono ?_
  rintro e w1' ⟨rfl,hb⟩
  have D2:=zH (D1.out.below Qs.lives hb)
  clear hb KL D1
  have KAc:=zH (atom_any B P w1' bs p1 D2.out.r)
  have HFc:=Pl.atm_fn bs p1
  generalize hatc:Pl.atm bs p1=aqc at *
  obtain⟨⟨akc,an_c,amc,afc⟩,pac⟩:=aqc
  simp only at KAc HFc hatc
  subst HFc
  go_wp2_with fail
  refine KAc.out.mono ?_
  rintro e wac ⟨vac,Gc,rfl,hAc⟩
  have HAc:=zH hAc
  have HEc:=zH (D2.out.with_ Qs.lives hAc)
  obtain⟨anc,cnc,rfl⟩:=hAc.o.slice
  clear hAc KAc
  generalize halc:an_c.length=alc at *
  go_wp2_with (at_builtin;refine wpList_more _ rfl _ _ rfl _ _ _ _ rfl rfl (c) ⟨akc,an_c,amc,Pl.f0⟩ F Gc [.int .i64 akc,.slice anc alc cnc,.string (Pl.ba amc),.int .i64 0,.int .i64 0,.int .i64 0,.string ⟨#[]⟩] B ?ho3 ?hi3 ?hy3 ?hG3 ?hn3 ?hd3 ?hc3 ?hbd3 ?hB3 ?_)
  case ho3=>exact(HEc.out.1.alloc Qs.lives _).o
  case hi3=>exact(HEc.out.1.alloc Qs.lives _).i
  case hy3=>exact⟨_,rfl,(HAc.out.alloc Qi.lives _).o⟩
  case hG3=>exact(HAc.out.alloc Qi.lives _).i
  case hn3=>exact HAc.out.nd
  case hd3=>exact HEc.out.2.1
  case hc3=>exact cells_new (l:=[.int .i64 akc,.slice anc alc cnc,.string (Pl.ba amc),.int .i64 0,.int .i64 0,.int .i64 0,.string ⟨#[]⟩]) sI
  case hbd3=>omega
  case hB3=>have:=HEc.out.1.r.bp;have:=HEc.out.1.r.lt;simp;omega
  intro vc wc Fc hc
  have Dc:=zH ((HEc.out.1.alloc Qs.lives _).cdr hc HEc.out.2.2)
  have honec:=hc.o.one
  clear hc HAc HEc
  go_wp2_with fail
  refine bodyPost_ret (v:=vc) (by simp[results,Tryz.results78,go_sem]) rfl ⟨vc,Fc,rfl,?_⟩
  rw[HG];exact Dc.out
 rw[if_neg el] at HG
 have hnl:¬((lf:Int)<=0):=by omega
 go_wp2_with fail
 refine KL.out.mono ?_
 rintro e w2 ⟨rfl,hb⟩
 have D2:=zH (D1.out.below Qs.lives hb)
 clear hb KL D1
 by_cases e3:km<3
 ·rw[if_pos e3] at HG
  have h3:(km:Int)<3:=by omega
  have KRr:=zH (ih B P w0 w2 bs p1 (.slice ao cl cap) (c) F0 F D2.out (by rw[hpp];omega))
  have HLr:=Pl.gen_len bs d p1
  generalize hger:Pl.gen bs d p1=gr at *
  obtain⟨glr,pgr⟩:=gr
  simp only at KRr HLr hger
  go_wp2_with fail
  refine KRr.out.mono ?_
  rintro e wr ⟨vr,Fr,rfl,hr⟩
  have Dr:=zH hr
  obtain⟨aor,capr,rfl⟩:=hr.o.slice
  clear hr KRr
  generalize hclr:(c++glr).length=clr at *
  have hcxr:Hid (clr=cl+glr.length):=by show _=_;rw[<- hclr];simp <;> omega
  have hclr:=zH hclr
  have HAf:=zH (Dn.emp 3 1 Qi Dr.out.r (Kx.refl wr [P]) wr.heap.size rfl)
  have KFf:=zH (genFn_any false B P _ bs pgr HAf.out.r)
  generalize hgff:Pl.gfn bs pgr false=gf at *
  obtain⟨⟨fkf,faf,fbf,fmf⟩,pff⟩:=gf
  simp only at KFf hgff
  generalize hzf:wr.heap.size=zf at *
  go_wp2_with fail
  refine KFf.out.mono ?_
  rintro e wff ⟨rfl,hdff⟩
  have HBf:=zH (HAf.out.dw Qi.lives hdff)
  have HEf:=zH (Dr.out.with_ Qs.lives HBf.out)
  clear hdff KFf HAf
  go_wp2_with (at_builtin;refine wpList_more _ rfl _ _ rfl _ _ _ _ rfl rfl (c++glr) ⟨3,[],[],⟨fkf,faf,fbf,fmf⟩⟩ Fr [zf] [.int .i64 3,.slice (some ⟨zf,0,none⟩) 0 0,.string ⟨#[]⟩,.int .i64 fkf,.int .i64 faf,.int .i64 fbf,.string (Pl.ba fmf)] B ?ho4 ?hi4 ?hy4 ?hG4 ?hn4 ?hd4 ?hc4 ?hbd4 ?hB4 ?_)
  case ho4=>exact(HEf.out.1.alloc Qs.lives _).o
  case hi4=>exact(HEf.out.1.alloc Qs.lives _).i
  case hy4=>exact⟨_,rfl,(HBf.out.alloc Qi.lives _).o⟩
  case hG4=>exact(HBf.out.alloc Qi.lives _).i
  case hn4=>exact HBf.out.nd
  case hd4=>exact HEf.out.2.1
  case hc4=>exact cells_new (l:=[.int .i64 3,.slice (some ⟨zf,0,none⟩) 0 0,.string ⟨#[]⟩,.int .i64 fkf,.int .i64 faf,.int .i64 fbf,.string (Pl.ba fmf)]) sI
  case hbd4=>have:=hcxr.out;have:=hclr.out;omega
  case hB4=>have:=HEf.out.1.r.bp;have:=HEf.out.1.r.lt;simp;omega
  exact tDr61
 rw[if_neg e3] at HG
 have h3:¬(km:Int)<3:=by omega
 by_cases e7:km=7
 ·rw[if_pos e7] at HG
  subst e7
  have KRr:=zH (ih B P w0 w2 bs p1 (.slice ao cl cap) (c) F0 F D2.out (by rw[hpp];omega))
  have HLr:=Pl.gen_len bs d p1
  generalize hger:Pl.gen bs d p1=gr at *
  obtain⟨glr,pgr⟩:=gr
  simp only at KRr HLr hger
  go_wp2_with fail
  refine KRr.out.mono ?_
  rintro e wr ⟨vr,Fr,rfl,hr⟩
  have Dr:=zH hr
  obtain⟨aor,capr,rfl⟩:=hr.o.slice
  clear hr KRr
  generalize hclr:(c++glr).length=clr at *
  have hcxr:Hid (clr=cl+glr.length):=by show _=_;rw[<- hclr];simp <;> omega
  have hclr:=zH hclr
  have KRs:=zH (ih B P w0 wr bs pgr (.slice aor clr capr) (c++glr) F0 Fr Dr.out (by rw[hpp];have:=hcxr.out;have:=hclr.out;omega))
  have HLs:=Pl.gen_len bs d pgr
  generalize hges:Pl.gen bs d pgr=gs at *
  obtain⟨gls,pgs⟩:=gs
  simp only at KRs HLs hges
  go_wp2_with fail
  refine KRs.out.mono ?_
  rintro e ws ⟨vs,Fs,rfl,hs⟩
  have Ds:=zH hs
  obtain⟨aos,caps,rfl⟩:=hs.o.slice
  clear hs KRs
  generalize hcls:(c++glr++gls).length=cls at *
  have hcxs:Hid (cls=cl+glr.length+gls.length):=by show _=_;rw[<- hcls];simp <;> omega
  have hcls:=zH hcls
  have HAf:=zH (Dn.emp 3 1 Qi Ds.out.r (Kx.refl ws [P]) ws.heap.size rfl)
  have KFf:=zH (genFn_any true B P _ bs pgs HAf.out.r)
  generalize hgff:Pl.gfn bs pgs true=gf at *
  obtain⟨⟨fkf,faf,fbf,fmf⟩,pff⟩:=gf
  simp only at KFf hgff
  generalize hzf:ws.heap.size=zf at *
  go_wp2_with fail
  refine KFf.out.mono ?_
  rintro e wff ⟨rfl,hdff⟩
  have HBf:=zH (HAf.out.dw Qi.lives hdff)
  have HEf:=zH (Ds.out.with_ Qs.lives HBf.out)
  clear hdff KFf HAf
  go_wp2_with (at_builtin;refine wpList_more _ rfl _ _ rfl _ _ _ _ rfl rfl ((c++glr)++gls) ⟨4,[],[],⟨fkf,faf,fbf,fmf⟩⟩ Fs [zf] [.int .i64 4,.slice (some ⟨zf,0,none⟩) 0 0,.string ⟨#[]⟩,.int .i64 fkf,.int .i64 faf,.int .i64 fbf,.string (Pl.ba fmf)] B ?ho5 ?hi5 ?hy5 ?hG5 ?hn5 ?hd5 ?hc5 ?hbd5 ?hB5 ?_)
  case ho5=>exact(HEf.out.1.alloc Qs.lives _).o
  case hi5=>exact(HEf.out.1.alloc Qs.lives _).i
  case hy5=>exact⟨_,rfl,(HBf.out.alloc Qi.lives _).o⟩
  case hG5=>exact(HBf.out.alloc Qi.lives _).i
  case hn5=>exact HBf.out.nd
  case hd5=>exact HEf.out.2.1
  case hc5=>exact cells_new (l:=[.int .i64 4,.slice (some ⟨zf,0,none⟩) 0 0,.string ⟨#[]⟩,.int .i64 fkf,.int .i64 faf,.int .i64 fbf,.string (Pl.ba fmf)]) sI
  case hbd5=>have:=hcxs.out;have:=hcls.out;omega
  case hB5=>have:=HEf.out.1.r.bp;have:=HEf.out.1.r.lt;simp;omega
  exact tDr61
 rw[if_neg e7] at HG
 have h7:((km:Int) == 7)=false:=by simp;omega
 have KRr:=zH (ih B P w0 w2 bs p1 (.slice ao cl cap) (c) F0 F D2.out (by rw[hpp];omega))
 have HLr:=Pl.gen_len bs d p1
 generalize hger:Pl.gen bs d p1=gr at *
 obtain⟨glr,pgr⟩:=gr
 simp only at KRr HLr hger
 go_wp2_with fail
 refine KRr.out.mono ?_
 rintro e wr ⟨vr,Fr,rfl,hr⟩
 have Dr:=zH hr
 obtain⟨aor,capr,rfl⟩:=hr.o.slice
 clear hr KRr
 generalize hclr:(c++glr).length=clr at *
 have hcxr:Hid (clr=cl+glr.length):=by show _=_;rw[<- hclr];simp <;> omega
 have hclr:=zH hclr
 have KAs:=zH (atom_any B P wr bs pgr Dr.out.r)
 have HFs:=Pl.atm_fn bs pgr
 generalize hats:Pl.atm bs pgr=aqs at *
 obtain⟨⟨aks,an_s,ams,afs⟩,pas⟩:=aqs
 simp only at KAs HFs hats
 subst HFs
 go_wp2_with fail
 refine KAs.out.mono ?_
 rintro e was ⟨vas,Gs,rfl,hAs⟩
 have HAs:=zH hAs
 have HEs:=zH (Dr.out.with_ Qs.lives hAs)
 obtain⟨ans,cns,rfl⟩:=hAs.o.slice
 clear hAs KAs
 generalize hals:an_s.length=als at *
 go_wp2_with (at_builtin;refine wpList_more _ rfl _ _ rfl _ _ _ _ rfl rfl (c++glr) ⟨aks,an_s,ams,Pl.f0⟩ Fr Gs [.int .i64 aks,.slice ans als cns,.string (Pl.ba ams),.int .i64 0,.int .i64 0,.int .i64 0,.string ⟨#[]⟩] B ?ho6 ?hi6 ?hy6 ?hG6 ?hn6 ?hd6 ?hc6 ?hbd6 ?hB6 ?_)
 case ho6=>exact(HEs.out.1.alloc Qs.lives _).o
 case hi6=>exact(HEs.out.1.alloc Qs.lives _).i
 case hy6=>exact⟨_,rfl,(HAs.out.alloc Qi.lives _).o⟩
 case hG6=>exact(HAs.out.alloc Qi.lives _).i
 case hn6=>exact HAs.out.nd
 case hd6=>exact HEs.out.2.1
 case hc6=>exact cells_new (l:=[.int .i64 aks,.slice ans als cns,.string (Pl.ba ams),.int .i64 0,.int .i64 0,.int .i64 0,.string ⟨#[]⟩]) sI
 case hbd6=>have:=hcxr.out;have:=hclr.out;omega
 case hB6=>have:=HEs.out.1.r.bp;have:=HEs.out.1.r.lt;simp;omega
 intro vs ws Fs hs
 have Ds:=zH ((HEs.out.1.alloc Qs.lives _).cdr hs HEs.out.2.2)
 have hones:=hs.o.one
 clear hs HAs HEs
 obtain⟨aos,caps,rfl⟩:=Ds.out.o.slice
 generalize hcls:(c++(glr++[(⟨aks,an_s,ams,Pl.f0⟩:Pl.Sv)])).length=cls at *
 have hcxs:Hid (cls=cl+glr.length+1):=by show _=_;rw[<- hcls];simp <;> omega
 have hcls:=zH hcls
 have HAf:=zH (Dn.emp 3 1 Qi Ds.out.r (Kx.refl ws [P]) ws.heap.size rfl)
 have KFf:=zH (genFn_any true B P _ bs pas HAf.out.r)
 generalize hgff:Pl.gfn bs pas true=gf at *
 obtain⟨⟨fkf,faf,fbf,fmf⟩,pff⟩:=gf
 simp only at KFf hgff
 generalize hzf:ws.heap.size=zf at *
 go_wp2_with fail
 refine KFf.out.mono ?_
 rintro e wff ⟨rfl,hdff⟩
 have HBf:=zH (HAf.out.dw Qi.lives hdff)
 have HEf:=zH (Ds.out.with_ Qs.lives HBf.out)
 clear hdff KFf HAf
 go_wp2_with (at_builtin;refine wpList_more _ rfl _ _ rfl _ _ _ _ rfl rfl (c++(glr++[⟨aks,an_s,ams,Pl.f0⟩])) ⟨4,[],[],⟨fkf,faf,fbf,fmf⟩⟩ Fs [zf] [.int .i64 4,.slice (some ⟨zf,0,none⟩) 0 0,.string ⟨#[]⟩,.int .i64 fkf,.int .i64 faf,.int .i64 fbf,.string (Pl.ba fmf)] B ?ho7 ?hi7 ?hy7 ?hG7 ?hn7 ?hd7 ?hc7 ?hbd7 ?hB7 ?_)
 case ho7=>exact(HEf.out.1.alloc Qs.lives _).o
 case hi7=>exact(HEf.out.1.alloc Qs.lives _).i
 case hy7=>exact⟨_,rfl,(HBf.out.alloc Qi.lives _).o⟩
 case hG7=>exact(HBf.out.alloc Qi.lives _).i
 case hn7=>exact HBf.out.nd
 case hd7=>exact HEf.out.2.1
 case hc7=>exact cells_new (l:=[.int .i64 4,.slice (some ⟨zf,0,none⟩) 0 0,.string ⟨#[]⟩,.int .i64 fkf,.int .i64 faf,.int .i64 fbf,.string (Pl.ba fmf)]) sI
 case hbd7=>have:=hcxs.out;have:=hcls.out;omega
 case hB7=>have:=HEf.out.1.r.bp;have:=HEf.out.1.r.lt;simp;omega
 exact tDr61
theorem gen_all:∀d,d<=8->HGe d
 |0,_=>gen_zero
 |d+1,h=>gen_succ d oM (gen_all d oM)
section
variable {P:Program} {ops:Array Oper} {Q:Exit->Act->World->Prop} {md:Region.Mode} {S:World->Prop} {n:Nat}
def wpN (P:Program) (md:Region.Mode) (ops:Array Oper) (Q:Exit->Act->World->Prop) (S:World->Prop) (n:Nat):Nat->Array Bool->Act->World->Prop
 |0,l,a,w=>Region.ready md ops l=[]/\Q .normal a w
 |f+1,l,a,w=>(Region.ready md ops l=[]->Q .normal a w)/\∀j∈Region.ready md ops l,wpOp P ops Q j (fun a' w'=>(j ≠ n->S w')/\wpN P md ops Q S n f (l.setIfInBounds j true) a' w') a w
theorem wpN.any:∀(f:Nat) (l:Array Bool) (a:Act) (w:World),wpN P md ops Q S n f l a w->wpAny P md ops Q f l a w
 |0,_,_,_,h=>h
 |f+1,_,_,_,h=>⟨h.1,fun j hj=>wpOp_mono (fun a' w' k=>wpN.any f _ a' w' k.2) (h.2 j hj)⟩
theorem wpN_first {i:Nat}{oi on:Oper}{v:Value}(hi:ops[i]? = some oi) (hon:ops[n]? = some on) (hw:∃e∈on.after,Region.binds md e=true/\e.on=i) (hsel:∀(j:Nat) (o:Oper) cs b,ops[j]? = some o->o.op ≠ .select cs b)
  (hQ:∀c a w,Q (.panic c) (a.put oi.dst v) w->Q (.panic c) a w) :
  ∀(f:Nat) (l:Array Bool) (a:Act) (w:World),(∀j oj,ops[j]? = some oj->j ≠ i->l.getD j true=false->(∀e∈oj.after,Region.binds md e=true->e.on ≠ i)->oi.apart ops oj=true) ->
   i∈Region.ready md ops l->YieldsIf P ops S oi v a->S w->wpN P md ops Q S n f (l.setIfInBounds i true) (a.put oi.dst v) w->wpN P md ops Q S n (f+1) l a w:=by
 have waits:∀{l:Array Bool} {j:Nat} {oj:Oper},i∈Region.ready md ops l->ops[j]? = some oj->(∀e∈oj.after,Region.binds md e=true->l[e.on]? = some true)->∀e∈oj.after,Region.binds md e=true->e.on ≠ i:=by
  intro l j oj hr _ hall e he hb heq
  have h1:=hall e he hb
  have h0:=(mem_ready.1 hr).1
  rw[heq] at h1
  rw[Array.getD_eq_getD_getElem?,h1] at h0
  cases h0
 intro f
 induction f with
 |zero =>
  intro l a w _ hr hy hS H
  refine⟨fun h=>(by rw[h] at hr;cases hr),fun j hj=>?_⟩
  by_cases hji:j=i
  ·subst hji
   exact hy.wpOp hi hS ⟨fun _=>hS,H⟩
  have:=ready_mono hj hji
  rw[H.1] at this
  cases this
 |succ f ih =>
  intro l a w hfree hr hy hS H
  refine⟨fun h=>(by rw[h] at hr;cases hr),fun j hj=>?_⟩
  by_cases hji:j=i
  ·subst hji
   exact hy.wpOp hi hS ⟨fun _=>hS,H⟩
  obtain⟨hjun,oj,hoj,hall⟩:=mem_ready.1 hj
  have hnot:=waits hr hoj (fun e he hb=>by have:=hall e he hb;simp at this;cases h9:l[e.on]? with | none=>rw[h9] at this;cases this | some b=>rw[h9] at this;simp at this;rw[this])
  have hjn:j ≠ n:=fun e=>by
   subst e
   rw[hon] at hoj
   cases hoj
   obtain⟨e,he,hb,hon'⟩:=hw
   exact hnot e he hb hon'
  have h2:=wpOp_putIf hoj (hfree j oj hoj hji hjun hnot) (fun cs b=>hsel i oi cs b hi) (fun cs b=>hsel j oj cs b hoj) hQ hy (H.2 j (ready_mono hj hji))
  refine wpOp_mono (fun a' w' k=>⟨k.2.1,ih (l.setIfInBounds j true) a' w' (fun q oq hq hqi hun hno=>hfree q oq hq hqi ?_ hno) (ready_mono hr (Ne.symm hji)) k.1 (k.2.1 hjn) ?_⟩) h2
  ·by_cases hjq:j=q
   ·subst hjq;exact hjun
   rw[getD_set_ne true hjq] at hun;exact hun
  rw[Array.setIfInBounds_comm _ _ hji]
  exact k.2.2
theorem wpN_take {i:Nat}{oi on:Oper}{v:Value}{f:Nat}{l:Array Bool}{a:Act}{w:World}(hi:ops[i]? = some oi) (hon:ops[n]? = some on) (hw:(on.after.toList.any fun e=>Region.binds md e && e.on == i)=true) (hs:Region.noSelect ops=true) (hf:Region.free md ops l i=true) (hr:(Region.ready md ops l).contains i=true)
  (hQ:∀c a w,Q (.panic c) (a.put oi.dst v) w->Q (.panic c) a w) (hg:oi.guard=none) (hy:∀w,S w->(execOp a.eval oi).run P w=.ok (.value v) w) (hS:S w) (h:wpN P md ops Q S n f (l.setIfInBounds i true) (a.put oi.dst v) w):wpN P md ops Q S n (f+1) l a w:=by
 refine wpN_first hi hon ?_ (Region.noSelect_spec hs) hQ f l a w (Region.free_spec hi hf) (by simpa using hr) (.inl ⟨by simp[Region.wanted,hg],hy⟩) hS h
 obtain⟨e,he,hb⟩:=List.any_eq_true.1 hw
 simp at hb
 exact⟨e,by simpa using he,hb.1,hb.2⟩
theorem wpN_done {l:Array Bool}{a:Act}{w:World}(hr:Region.ready md ops l=[]) (h:Q .normal a w):∀f,wpN P md ops Q S n f l a w
 |0=>⟨hr,h⟩
 |_+1=>⟨fun _=>h,by rw[hr];simp⟩
theorem wpN_begin {id:Nat}{a:Act}{w:World}(hm:P.follows .mixedOrders=true) (h:wpN P .any ops Q S n ops.size (Array.replicate ops.size false) a { w with drawn:=w.drawn+1 }):(Code.region id ops true).wp P Q a w :=
 wp_region_any hm (wpN.any _ _ _ _ h)
def OneN (P:Program) (md:Region.Mode) (ops:Array Oper) (Q:Exit->Act->World->Prop) (S:World->Prop) (n f:Nat) (l:Array Bool) (a:Act) (w:World) (j:Nat):Prop :=
 wpOp P ops Q j (fun a' w'=>(j ≠ n->S w')/\wpN P md ops Q S n f (l.setIfInBounds j true) a' w') a w
theorem OneN.val {j f:Nat}{o:Oper}{l:Array Bool}{a:Act}{w w':World}(ho:ops[j]? = some o) (hg:o.guard=none) (v:Value) (h:(execOp a.eval o).run P w=.ok (.value v) w') (hS:S w') (hN:wpN P md ops Q S n f (l.setIfInBounds j true) (a.put o.dst v) w'):OneN P md ops Q S n f l a w j :=
 wpOp_step ho (fun K hK=>ready_valq hg v h (hK _ _ ⟨fun _=>hS,hN⟩))
theorem OneN.call {j f:Nat}{o:Oper}{l:Array Bool}{a:Act}{w:World}(ho:ops[j]? = some o) (hg:o.guard=none) (g:FuncId) (args:Array Value) (h:(execOp a.eval o).run P w=.ok (.enter g args) w) (hN:Calls P g args w fun e w'=>∃v,e=.returned v/\S w'/\wpN P md ops Q S n f (l.setIfInBounds j true) (a.put o.dst v) w'):OneN P md ops Q S n f l a w j :=
 wpOp_step ho (fun K hK=>ready_callq hg g args h (hN.mono (by rintro e w' ⟨v,rfl,hS,hW⟩;exact⟨v,rfl,hK _ _ ⟨fun _=>hS,hW⟩⟩)))
theorem wpN_one {j f:Nat}{l:Array Bool}{a:Act}{w:World}(hr:Region.ready md ops l=[j]) (h:OneN P md ops Q S n f l a w j):wpN P md ops Q S n (f+1) l a w :=
 ⟨fun h0=>(by rw[hr] at h0;cases h0),fun i hi=>by rw[hr] at hi;simp at hi;subst hi;exact h⟩
theorem wpN_two {i j f:Nat}{l:Array Bool}{a:Act}{w:World}(hr:Region.ready md ops l=[i,j]) (h:OneN P md ops Q S n f l a w i) (k:OneN P md ops Q S n f l a w j):wpN P md ops Q S n (f+1) l a w :=
 ⟨fun h0=>(by rw[hr] at h0;cases h0),fun q hq=>by rw[hr] at hq;simp at hq;rcases hq with rfl | rfl;exact h;exact k⟩
theorem wpN_last {f:Nat}{o:Oper}{l:Array Bool}{a:Act}{w w':World}(hr:Region.ready md ops l=[n]) (ho:ops[n]? = some o) (hg:o.guard=none) (h:(execOp a.eval o).run P w=.ok .skip w') (hN:wpN P md ops Q S n f (l.setIfInBounds n true) (a.put o.dst undef) w'):wpN P md ops Q S n (f+1) l a w :=
 wpN_one hr (wpOp_step ho (fun K hK=>by
  have hw:Region.wanted o (yielded ops a.tmps)=true:=by simp[Region.wanted,hg]
  rw[if_pos hw]
  unfold Oper.wp
  rw[h]
  exact hK _ _ ⟨fun e=>absurd rfl e,hN⟩))
end
namespace Pl
def nmS (j:Nat):List UInt8:=if j=1 then [119] else [120]
def nmG (j:Nat):List UInt8:=if j=1 then [71,111] else [70]
def grd (bs:List Nat) (p:Nat):Gv × Nat:=(⟨(gen bs 2 p).1,(gen bs 2 (gen bs 2 p).2).1⟩,(gen bs 2 (gen bs 2 p).2).2)
def grds (bs:List Nat) (p:Nat):Nat->List Gv × Nat
 |0=>([],p)
 |n+1=>((grds bs p n).1++[(grd bs (grds bs p n).2).1],(grd bs (grds bs p n).2).2)
theorem grds_len (bs:List Nat) (p:Nat):∀n,(grds bs p n).1.length=n
 |0=>rfl
 |n+1=>by simp[grds,grds_len bs p n]
def gstK (bs:List Nat) (k p1:Nat):Tv × Nat :=
 if k % 8=3 then (⟨2,nmS (k / 8 % 2),(gen bs (1+k % 3) p1).1,[]⟩,(gen bs (1+k % 3) p1).2)
 else if 5<k % 8 then (⟨3,nmG (k / 8 % 2),(gen bs (1+k % 3) p1).1,(grds bs (gen bs (1+k % 3) p1).2 (k / 16 % 3)).1⟩,(grds bs (gen bs (1+k % 3) p1).2 (k / 16 % 3)).2)
 else (⟨1,[],(gen bs (1+k % 3) p1).1,[]⟩,(gen bs (1+k % 3) p1).2)
def gst (bs:List Nat) (p:Nat):Tv × Nat:=gstK bs (nx bs p).1 (nx bs p).2
end Pl
theorem Dn.from_ {α:Type}{et z:Nat}{Q:World->List Value->α->List Nat->Prop}{B P:Nat}{w0 X w:World}{bs:List Nat}{pos:Nat}{v:Value}{c:List α}{F:List Nat}(h:Dn et z Q B P X w bs pos [] v c F) (k:Kx w0 X [P]):Dn et z Q B P w0 w bs pos [] v c F :=
 ⟨h.r,h.o,h.i,h.p,k.trans h.k sI,fun x hx=>by rcases h.f x hx with r | r;exact absurd r sI;exact .inr (Nat.le_trans k.size r)⟩
structure St (B P:Nat) (w:World) (bs:List Nat) (s s4:Nat) (k:Int) (nm:ByteArray) (v1:Value) (c1:List Pl.Sv) (F1:List Nat) (X:World) (pos:Nat) (v2:Value) (c2:List Pl.Gv) (F2:List Nat):Prop where
 d1:Dn 90 7 Qs B P w X bs pos [] v1 c1 F1
 d2:Dn 57 2 Qg B P w X bs pos [] v2 c2 F2
 dj:∀x∈F1,x ∉ F2
 sn:s ∉ F1/\s ∉ F2/\s ≠ P/\B<=s/\w.heap.size<=s
 tn:s4 ∉ F1/\s4 ∉ F2/\s4 ≠ P/\B<=s4/\w.heap.size<=s4
 st:s<s4
 tl:s4<X.heap.size
 tc:∀j u,([.int .i64 k,.string nm,v1,v2]:List Value)[j]? = some u->X.cell? ⟨s4,j,none⟩=some u
 sc:∀j u,([.int .i64 0,.string ⟨#[]⟩,.slice none 0 0,.slice none 0 0]:List Value)[j]? = some u->X.cell? ⟨s,j,none⟩=some u
 sf:∀j,X.frozen? ⟨s,j,none⟩=false
 tf:∀j,X.frozen? ⟨s4,j,none⟩=false
section
variable {B P:Nat} {w:World} {bs:List Nat} {s s4:Nat} {k:Int} {nm:ByteArray} {v1:Value} {c1:List Pl.Sv} {F1:List Nat} {X Y:World} {pos:Nat} {v2:Value} {c2:List Pl.Gv} {F2:List Nat}
theorem St.kx (h:St B P w bs s s4 k nm v1 c1 F1 X pos v2 c2 F2) {pos':Nat}(q:Kx X Y [P]) (r:Rr B P Y bs pos'):St B P w bs s s4 k nm v1 c1 F1 Y pos' v2 c2 F2:=by
 have hsl:s<X.heap.size:=Nat.lt_trans h.st h.tl
 exact⟨h.d1.kx Qs.lives r q sI,h.d2.kx Qg.lives r q sI,h.dj,h.sn,h.tn,h.st,Nat.lt_of_lt_of_le h.tl q.size,fun j u hu=>q.cell h.tl (by simpa using h.tn.2.2.1) (h.tc j u hu),fun j u hu=>q.cell hsl (by simpa using h.sn.2.2.1) (h.sc j u hu),fun j=>q.froz hsl (by simpa using h.sn.2.2.1) (h.sf j),fun j=>q.froz h.tl (by simpa using h.tn.2.2.1) (h.tf j)⟩
theorem St.fin (h:St B P w bs s s4 k nm v1 c1 F1 X pos v2 c2 F2) (q:Kx X Y [s,s4]):Dn 90 7 Qs B P w Y bs pos [] v1 c1 F1/\Dn 57 2 Qg B P w Y bs pos [] v2 c2 F2/\∀x∈F1,x ∉ F2:=by
 have r:=h.d1.r.kx q (by simp;exact⟨⟨h.sn.2.2.2.1,h.sn.2.2.1⟩,h.tn.2.2.2.1,h.tn.2.2.1⟩)
 refine⟨h.d1.kx Qs.lives r q ?_,h.d2.kx Qg.lives r q ?_,h.dj⟩
 ·intro x hx
  simp at hx
  rcases hx with rfl|rfl
  ·exact .inr ⟨h.sn.1,h.sn.2.2.2.2⟩
  exact .inr ⟨h.tn.1,h.tn.2.2.2.2⟩
 intro x hx
 simp at hx
 rcases hx with rfl|rfl
 ·exact .inr ⟨h.sn.2.1,h.sn.2.2.2.2⟩
 exact .inr ⟨h.tn.2.1,h.tn.2.2.2.2⟩
theorem St.put (h:St B P w bs s s4 k nm v1 c1 F1 X pos v2 c2 F2) (k':Int) (nm':ByteArray):St B P w bs s s4 k' nm' v1 c1 F1 ((X.setCell ⟨s4,0,none⟩ (.int .i64 k')).setCell ⟨s4,1,none⟩ (.string nm')) pos v2 c2 F2:=by
 have q:Kx X ((X.setCell ⟨s4,0,none⟩ (.int .i64 k')).setCell ⟨s4,1,none⟩ (.string nm')) [s,s4]:=((Kx.refl _ _).set _ _ _ (.inl sI)).set _ _ _ (.inl sI)
 obtain⟨d1,d2,dj⟩:=h.fin q
 have hne:s ≠ s4:=Nat.ne_of_lt h.st
 refine⟨d1,d2,dj,h.sn,h.tn,h.st,by simpa using h.tl,fun j u hu=>?_,fun j u hu=>?_,fun j=>by rw[World.frozen?_setCell,World.frozen?_setCell];exact h.sf j,fun j=>by rw[World.frozen?_setCell,World.frozen?_setCell];exact h.tf j⟩
 ·have t0:=h.tc 0 _ rfl
  have t1:=h.tc 1 _ rfl
  match j,hu with
  |0,hu=>simp at hu;subst hu;rw[World.cell?_setCell_other _ _ _ _ sI];exact World.cell?_setCell_same _ _ _ t0
  |1,hu=>simp at hu;subst hu;exact World.cell?_setCell_same _ _ _ ((World.cell?_setCell_other _ _ _ _ sI).trans t1)
  |j+2,hu =>
   rw[World.cell?_setCell_other _ _ _ _ sI,World.cell?_setCell_other _ _ _ _ sI]
   exact h.tc (j+2) u hu
 rw[World.cell?_setCell_other _ _ _ _ (by first | (simp;done) | (simp;omega)),World.cell?_setCell_other _ _ _ _ (by first | (simp;done) | (simp;omega))]
 exact h.sc j u hu
theorem St.alloc (h:St B P w bs s s4 k nm v1 c1 F1 X pos v2 c2 F2) (o:Obj):St B P w bs s s4 k nm v1 c1 F1 (X.alloc o) pos v2 c2 F2 :=
 h.kx (Kx.below ((Below.refl _ _).alloc (Nat.le_refl _) o) [P]) (h.d1.r.keep ((Below.refl _ _).alloc (Nat.le_refl _) o))
theorem St.more (h:St B P w bs s s4 k nm v1 c1 F1 X pos v2 c2 F2) {v3:Value}{c3:List Pl.Gv}{F3 G:List Nat}(o:Own 57 2 Qg Y v3 c3 F3) (i:Inb B Y F3) (g:X.grownBy Y v2.ownBlock) (hF:∀x∈F3,x∈F2\/x∈G\/X.heap.size<=x) (hG:∀x∈G,x ≠ P/\x ≠ s/\x ≠ s4/\x ∉ F1/\w.heap.size<=x) :
  St B P w bs s s4 k nm v1 c1 F1 (Y.setCell ⟨s4,3,none⟩ v3) pos v3 c3 F3/\Y.cell? ⟨s4,3,none⟩=some v2/\Y.frozen? ⟨s4,3,none⟩=false:=by
 have hk:Kx X Y v2.ownBlock.toList:=Kx.grown g sI
 have ho:∀b,b∈v2.ownBlock.toList->b∈F2:=fun b hb=>(h.d2.o.lt b (by simpa using hb)).1
 have hsl:s<X.heap.size:=Nat.lt_trans h.st h.tl
 have hs2:s ∉ v2.ownBlock.toList:=fun hm=>h.sn.2.1 (ho s hm)
 have ht2:s4 ∉ v2.ownBlock.toList:=fun hm=>h.tn.2.1 (ho s4 hm)
 have D2:=h.d2.app' o i g hF (fun x hx=>⟨(hG x hx).1,.inr (hG x hx).2.2.2.2⟩)
 have D1:=h.d1.kx Qs.lives D2.r hk (fun x hx=>.inr ⟨fun hm=>h.dj x hm (ho x hx),by rcases h.d2.f x (ho x hx) with r | r;exact absurd r sI;exact r⟩)
 have q:Kx Y (Y.setCell ⟨s4,3,none⟩ v3) [s4]:=(Kx.refl _ _).set _ _ _ (.inl sI)
 have hs3:s ∉ F3:=fun hm=>by
  rcases hF s hm with r|r|r
  ·exact h.sn.2.1 r
  ·exact(hG s r).2.1 rfl
  omega
 have ht3:s4 ∉ F3:=fun hm=>by
  rcases hF s4 hm with r|r|r
  ·exact h.tn.2.1 r
  ·exact(hG s4 r).2.2.1 rfl
  have:=h.tl;omega
 have r':=D2.r.kx q (by simp;exact⟨h.tn.2.2.2.1,h.tn.2.2.1⟩)
 have tY:∀j u,([.int .i64 k,.string nm,v1,v2]:List Value)[j]? = some u->Y.cell? ⟨s4,j,none⟩=some u:=fun j u hu=>hk.cell h.tl ht2 (h.tc j u hu)
 refine⟨⟨D1.kx Qs.lives r' q (by simp;exact .inr ⟨h.tn.1,h.tn.2.2.2.2⟩),D2.kx Qg.lives r' q (by simp;exact .inr ⟨ht3,h.tn.2.2.2.2⟩),fun x hx hm=>?_,⟨h.sn.1,hs3,h.sn.2.2⟩,⟨h.tn.1,ht3,h.tn.2.2⟩,h.st,by simpa using Nat.lt_of_lt_of_le h.tl hk.size,fun j u hu=>?_,fun j u hu=>?_,fun j=>by rw[World.frozen?_setCell];exact hk.froz hsl hs2 (h.sf j),fun j=>by rw[World.frozen?_setCell];exact hk.froz h.tl ht2 (h.tf j)⟩,tY 3 _ rfl,hk.froz h.tl ht2 (h.tf 3)⟩
 ·rcases hF x hm with r|r|r
  ·exact h.dj x hx r
  ·exact(hG x r).2.2.2.1 hx
  have:=(h.d1.i x hx).2;omega
 ·match j,hu with
  |0,hu=>rw[World.cell?_setCell_other _ _ _ _ sI];exact tY 0 u (by simpa using hu)
  |1,hu=>rw[World.cell?_setCell_other _ _ _ _ sI];exact tY 1 u (by simpa using hu)
  |2,hu=>rw[World.cell?_setCell_other _ _ _ _ sI];exact tY 2 u (by simpa using hu)
  |3,hu=>simp at hu;subst hu;exact World.cell?_setCell_same _ _ _ (tY 3 _ rfl)
  |j+4,hu=>simp at hu
 rw[World.cell?_setCell_other _ _ _ _ (by have:=h.st;first | (simp;done) | (simp;omega))]
 exact hk.cell hsl hs2 (h.sc j u hu)
end
theorem Kx.drew (w:World) (A:List Nat):Kx w w.drew A:=⟨rfl,rfl,rfl,Nat.le_refl _,fun _ _ _=>rfl⟩
theorem Rr.drew {B P:Nat}{w:World}{bs:List Nat}{pos:Nat}(h:Rr B P w bs pos):Rr B P w.drew bs pos:=h.kx (Kx.drew w []) sI
theorem gen_two {B P:Nat}{W0 X:World}{bs:List Nat}{p:Nat}{vT vU:Value}{cT cU:List Pl.Sv}{FT FU:List Nat}(T:Dn 90 7 Qs B P W0 X bs p [] vT cT FT) (U:Dn 90 7 Qs B P W0 X bs p [] vU cU FU) (hd:∀x∈FT,x ∉ FU) (hl:cT.length<=1000) :
  Calls Tryz.prog 78 #[.pointer (some ⟨P,0,none⟩),.int .i64 2,vT] X fun e X'=>∃v' F',e=.returned v'/\Dn 90 7 Qs B P W0 X' bs (Pl.gen bs 2 p).2 [] v' (cT++(Pl.gen bs 2 p).1) F'/\Dn 90 7 Qs B P W0 X' bs (Pl.gen bs 2 p).2 [] vU cU FU/\∀x∈F',x ∉ FU:=by
 refine(gen_all 2 oM B P X X bs p vT cT FT FT ⟨T.r,T.o,T.i,T.p,Kx.refl _ _,fun x hx=>.inl hx⟩ oM).mono ?_
 rintro e X' ⟨v',F',rfl,D⟩
 have hT:∀x∈FT,W0.heap.size<=x:=fun x hx=>by rcases T.f x hx with r | r;exact absurd r sI;exact r
 have hU:∀x∈FU,x<X.heap.size:=fun x hx=>(U.i x hx).2
 have hz:=T.k.size
 refine⟨v',F',rfl,⟨D.r,D.o,D.i,D.p,T.k.trans D.k (fun x hx=>?_),fun x hx=>.inr ?_⟩,U.kx Qs.lives D.r D.k (fun x hx=>?_),fun x hx hm=>?_⟩
 ·rcases List.mem_cons.1 hx with r|r
  ·exact .inl (by simp[r])
  exact .inr (hT x r)
 ·rcases D.f x hx with r|r
  ·exact hT x r
  omega
 ·rcases List.mem_cons.1 hx with r|r
  ·exact .inl r
  exact .inr ⟨hd x r,hT x r⟩
 rcases D.f x hx with r|r
 ·exact hd x r hm
 have:=hU x hm;omega
theorem gen_one {B P:Nat}{W0 X:World}{bs:List Nat}{p:Nat}{vT:Value}{cT:List Pl.Sv}{FT:List Nat}(T:Dn 90 7 Qs B P W0 X bs p [] vT cT FT) (hl:cT.length<=1000) :
  Calls Tryz.prog 78 #[.pointer (some ⟨P,0,none⟩),.int .i64 2,vT] X fun e X'=>∃v' F',e=.returned v'/\Dn 90 7 Qs B P W0 X' bs (Pl.gen bs 2 p).2 [] v' (cT++(Pl.gen bs 2 p).1) F' :=
 gen_all 2 oM B P W0 X bs p vT cT [] FT T oM
theorem Dn.beside {B P:Nat}{W0 X:World}{bs:List Nat}{p:Nat}{vT:Value}{cT:List Pl.Sv}{FT:List Nat}(T:Dn 90 7 Qs B P W0 X bs p [] vT cT FT):Dn 90 7 Qs B P W0 (X.alloc (.cells #[] 90)) bs p [] vT cT FT/\Dn 90 7 Qs B P W0 (X.alloc (.cells #[] 90)) bs p [] (.slice (some ⟨X.heap.size,0,none⟩) 0 0) [] [X.heap.size]/\X.heap.size ∉ FT :=
 ⟨T.alloc Qs.lives _,Dn.emp 90 7 Qs T.r T.k X.heap.size rfl,fun hm=>by have:=(T.i _ hm).2;omega⟩
theorem St.guard {B P:Nat}{w:World}{bs:List Nat}{s s4:Nat}{k:Int}{nm:ByteArray}{v1:Value}{c1:List Pl.Sv}{F1:List Nat}{W0 X:World}{pos p:Nat}{v2:Value}{c2:List Pl.Gv}{F2:List Nat}{vT vU:Value}{cT cU:List Pl.Sv}{FT FU:List Nat}(h:St B P w bs s s4 k nm v1 c1 F1 W0 pos v2 c2 F2)
  (T:Dn 90 7 Qs B P W0 X bs p [] vT cT FT) (U:Dn 90 7 Qs B P W0 X bs p [] vU cU FU) (hd:∀x∈FT,x ∉ FU) (hl:c2.length<=1000) (ty:TypeId) (q:Nat) (hq:q=X.heap.size) :
  ∃v9 w9 F9,(Builtin.append_ #[41,41] ty #[v2,.slice (some ⟨q,0,none⟩) 1 1]).run Tryz.prog (X.alloc (.cells #[vT,vU] 57))=.ok v9 w9/\St B P w bs s s4 k nm v1 c1 F1 (w9.setCell ⟨s4,3,none⟩ v9) p v9 (c2++[⟨cT,cU⟩]) F9/\w9.cell? ⟨s4,3,none⟩=some v2/\w9.frozen? ⟨s4,3,none⟩=false:=by
 subst hq
 have hS:=(h.kx T.k T.r).alloc (.cells #[vT,vU] 57)
 have hT:=T.alloc Qs.lives (.cells #[vT,vU] 57)
 have hU:=U.alloc Qs.lives (.cells #[vT,vU] 57)
 have fT:∀x∈FT++FU,W0.heap.size<=x:=fun x hx=>by
  rcases List.mem_append.1 hx with r|r
  ·rcases T.f x r with r|r;exact absurd r sI;exact r
  rcases U.f x r with r|r;exact absurd r sI;exact r
 have hQ:Qg (X.alloc (.cells #[vT,vU] 57)) [vT,vU] ⟨cT,cU⟩ (FT++FU):=⟨vT,vU,FT,FU,rfl,rfl,hT.o,hU.o⟩
 have hi:=hT.i.app hU.i
 obtain⟨v9,w9,F9,h1,h2,h3,h4,h5,h6⟩:=Own.append el35 Qg.lives hS.d2.o hS.d2.i (RowQ.one hQ) hi (by rw[List.nodup_append];exact⟨T.nd,U.nd,fun x hx y hy e=>hd x hx (e ▸ hy)⟩) (fun x hx hm=>by have:=fT x hx;have:=(h.d2.i x hm).2;omega) sI (fun j u hu=>cells_new (w:=X) (t:=57) (l:=[vT,vU]) rfl j u hu) (fun u hu=>by simp at hu;rcases hu with rfl|rfl;exact T.o.one;exact U.o.one) (by simp;omega) (Nat.le_trans hS.d2.r.bp (Nat.le_of_lt hS.d2.r.lt)) (cap:=1) ty
 obtain⟨a,b,c⟩:=hS.more h2 h3 h4 (G:=FT++FU) (fun x hx=>by rcases h6 x hx with r|r|r;exact .inl r;exact .inr (.inl r);exact .inr (.inr (Nat.le_of_eq r.symm))) (fun x hx=>by
  have h0:=fT x hx
  refine⟨fun e=>?_,by have:=h.st;have:=h.tl;omega,by have:=h.tl;omega,fun hm=>by have:=(h.d1.i x hm).2;omega,by have:=h.d1.k.size;omega⟩
  rcases List.mem_append.1 hx with r|r
  ·exact T.p (e ▸ r)
  exact U.p (e ▸ r))
 exact⟨v9,w9,F9,h1,a,b,c⟩
theorem exec_f44_3 {o:Oper}{a:Act}(x:Operand) (b:Nat) (ho:o.op=Op.fieldAddr 43 x 3) (hx:a.eval x=.pointer (some ⟨b,0,none⟩)) (w:World):(execOp a.eval o).run Tryz.prog w=.ok (.value (.pointer (some ⟨b,3,none⟩))) w:=by
 simp only[execOp,ho,hx]
 go_simp
theorem exec_load42 {o:Oper}{a:Act}(x:Operand) (b j:Nat) (ao:Option Addr) (n cap:Nat) (w:World) (ho:o.op=Op.load 41 x) (hx:a.eval x=.pointer (some ⟨b,j,none⟩)) (d:w.cell? ⟨b,j,none⟩=some (.slice ao n cap)):(execOp a.eval o).run Tryz.prog w=.ok (.value (.slice ao n cap)) w:=by
 simp only[execOp,ho,hx]
 go_simp
theorem exec_bs41 {o:Oper}{a:Act}(ho:o.op=Op.buildSlice 40 0 #[]) (w:World):(execOp a.eval o).run Tryz.prog w=.ok (.value (.slice (some ⟨w.heap.size,0,none⟩) 0 0)) (w.alloc (.cells #[] 90)):=by
 simp[execOp,ho]
 go_simp
theorem enter35:∀args w,(callFunc 78 args).run Tryz.prog w=.ok (.enter 78 args) w:=enters_of Tryz.func78 kR rfl
theorem exec_call35 {o:Oper}{a:Act}(x y z:Operand) (v u t:Value) (ts:Array TypeId) (ho:o.op=Op.call { callee:=.value (.func 78),args:=#[x,y,z],argTypes:=ts }) (hx:a.eval x=v) (hy:a.eval y=u) (hz:a.eval z=t) (w:World):(execOp a.eval o).run Tryz.prog w=.ok (.enter 78 #[v,u,t]) w:=by
 have hf:a.eval (.func 78)=.func (.func 78) #[] #[]:=rfl
 simp[execOp,ho,hx,hy,hz,hf,resolve,invoke,Deferred.ofValue]
theorem exec_build48 {o:Oper}{a:Act}(x y:Operand) (ao bo:Option Addr) (n1 n2 c1 c2:Nat) (ho:o.op=Op.build 57 #[(0,x),(1,y)]) (hx:a.eval x=.slice ao n1 c1) (hy:a.eval y=.slice bo n2 c2) (w:World):(execOp a.eval o).run Tryz.prog w=.ok (.value (.agg #[.slice ao n1 c1,.slice bo n2 c2])) w:=by
 simp[execOp,ho,hx,hy]
 go_simp
theorem exec_bs42 {o:Oper}{a:Act}(x:Operand) (ao bo:Option Addr) (n1 n2 c1 c2:Nat) (ho:o.op=Op.buildSlice 41 1 #[(0,x)]) (hx:a.eval x=.agg #[.slice ao n1 c1,.slice bo n2 c2]) (w:World):(execOp a.eval o).run Tryz.prog w=.ok (.value (.slice (some ⟨w.heap.size,0,none⟩) 1 1)) (w.alloc (.cells #[.slice ao n1 c1,.slice bo n2 c2] 57)):=by
 simp[execOp,ho,hx]
 go_simp
theorem exec_app42 {o:Oper}{a:Act}(x y:Operand) (v u r:Value) (w w':World) (ho:o.op=Op.call { callee:=.builtin .append,args:=#[x,y],argTypes:=#[41,41] }) (hx:a.eval x=v) (hy:a.eval y=u) (hr:(Builtin.append_ #[41,41] o.type #[v,u]).run Tryz.prog w=.ok r w'):(execOp a.eval o).run Tryz.prog w=.ok (.value r) w':=by
 simp[execOp,ho,hx,hy,resolve,invoke,builtin,hr,Result.andThen]
theorem exec_store42 {o:Oper}{a:Act}(x y:Operand) (b j:Nat) (u:Value) (ao:Option Addr) (n cap:Nat) (w:World) (ho:o.op=Op.store 41 x y) (hx:a.eval x=.pointer (some ⟨b,j,none⟩)) (hy:a.eval y=.slice ao n cap) (d:w.cell? ⟨b,j,none⟩=some u) (hf:w.frozen? ⟨b,j,none⟩=false):(execOp a.eval o).run Tryz.prog w=.ok .skip (w.setCell ⟨b,j,none⟩ (.slice ao n cap)):=by
 simp only[execOp,ho,hx,hy]
 go_simp
theorem ready_callw {P:Program}{ops:Array Oper}{Q:Exit->Act->World->Prop}{o:Oper}{a:Act}{w:World}{K:Act->World->Prop}(hw:Region.wanted o (yielded ops a.tmps)=true) (f:FuncId) (args:Array Value) (h:(execOp a.eval o).run P w=.ok (.enter f args) w) (hK:Calls P f args w fun e w'=>∃v,e=.returned v/\K (a.put o.dst v) w') :
  if Region.wanted o (yielded ops a.tmps)=true then Oper.wp P o a w K Q else K (a.put o.dst undef) w:=by
 rw[if_pos hw]
 unfold Oper.wp
 rw[h]
 refine hK.mono ?_
 rintro e w' ⟨v,rfl,h⟩
 exact h
theorem step_callw {P:Program}{md:Region.Mode}{ops:Array Oper}{Q:Exit->Act->World->Prop}{S:World->Prop}{fuel:Nat}{listed:Array Bool}{i:Nat}{o:Oper}{a:Act}{w:World}(hr:Region.ready md ops listed=[i]) (ho:ops[i]? = some o) (hw:Region.wanted o (yielded ops a.tmps)=true) (f:FuncId) (args:Array Value) (h:(execOp a.eval o).run P w=.ok (.enter f args) w)
  (hN:Calls P f args w fun e w'=>∃v,e=.returned v/\S w'/\wpAnyH P md ops Q S fuel (listed.setIfInBounds i true) (a.put o.dst v) w'):wpAnyH P md ops Q S (fuel+1) listed a w :=
 wpAnyH_ready hr sI (AllReadyH.cons ho (fun K hK=>ready_callw hw f args h (hN.mono (by
  rintro e w' ⟨v,rfl,hS,hW⟩
  exact⟨v,rfl,hK.out _ _ hS (fun _=>hW)⟩))) AllReadyH.nil)
theorem exec_not {o:Oper}{a:Act}(x:Operand) (b c:Bool) (ho:o.op=Op.unOp UnOp.not 4 x) (hx:a.eval x=.bool b) (hb:(!b)=c) (w:World):(execOp a.eval o).run Tryz.prog w=.ok (.value (.bool c)) w:=by
 subst hb
 simp only[execOp,ho,hx]
 go_simp
theorem exec_nilp {o:Oper}{a:Act}(x:Operand) (b j:Nat) (ho:o.op=Op.nilCheck x) (hx:a.eval x=.pointer (some ⟨b,j,none⟩)) (w:World):(execOp a.eval o).run Tryz.prog w=.ok (.value (.pointer (some ⟨b,j,none⟩))) w:=by
 simp[execOp,ho,hx]
theorem exec_f46_0 {o:Oper}{a:Act}(x:Operand) (b:Nat) (ho:o.op=Op.fieldAddr 52 x 0) (hx:a.eval x=.pointer (some ⟨b,0,none⟩)) (w:World):(execOp a.eval o).run Tryz.prog w=.ok (.value (.pointer (some ⟨b,0,none⟩))) w:=by
 simp only[execOp,ho,hx]
 go_simp
theorem exec_f46_1 {o:Oper}{a:Act}(x:Operand) (b:Nat) (ho:o.op=Op.fieldAddr 52 x 1) (hx:a.eval x=.pointer (some ⟨b,0,none⟩)) (w:World):(execOp a.eval o).run Tryz.prog w=.ok (.value (.pointer (some ⟨b,1,none⟩))) w:=by
 simp only[execOp,ho,hx]
 go_simp
theorem exec_load3b {o:Oper}{a:Act}(x:Operand) (b j:Nat) (z:Int) (w:World) (ho:o.op=Op.load 3 x) (hx:a.eval x=.pointer (some ⟨b,j,none⟩)) (d:w.cell? ⟨b,j,none⟩=some (.int .i64 z)):(execOp a.eval o).run Tryz.prog w=.ok (.value (.int .i64 z)) w:=by
 simp only[execOp,ho,hx]
 go_simp
theorem exec_load41 {o:Oper}{a:Act}(x:Operand) (b j:Nat) (ao:Option Addr) (n cap:Nat) (w:World) (ho:o.op=Op.load 47 x) (hx:a.eval x=.pointer (some ⟨b,j,none⟩)) (d:w.cell? ⟨b,j,none⟩=some (.slice ao n cap)):(execOp a.eval o).run Tryz.prog w=.ok (.value (.slice ao n cap)) w:=by
 simp only[execOp,ho,hx]
 go_simp
theorem exec_len41 {o:Oper}{a:Act}(x:Operand) (ao:Option Addr) (n cap:Nat) (ho:o.op=Op.call { callee:=.builtin .len,args:=#[x],argTypes:=#[47] }) (hx:a.eval x=.slice ao n cap) (w:World):(execOp a.eval o).run Tryz.prog w=.ok (.value (.int .i64 n)) w:=by
 simp[execOp,ho,hx,resolve,invoke,builtin]
 go_simp
theorem exec_lss3 {o:Oper}{a:Act}(x y:Operand) (m n:Int) (b:Bool) (ho:o.op=Op.binOp BinOp.lss 3 x y 3) (hx:a.eval x=.int .i64 m) (hy:a.eval y=.int .i64 n) (hb:decide (m<n)=b) (w:World):(execOp a.eval o).run Tryz.prog w=.ok (.value (.bool b)) w:=by
 subst hb
 simp only[execOp,ho,hx,hy]
 go_simp
theorem exec_pick {o:Oper}{a:Act}(c x y:Operand) (b:Bool) (v:Value) (ho:o.op=Op.pick c x y) (hc:a.eval c=.bool b) (hv:(match b with | true=>a.eval x | false=>a.eval y)=v) (w:World):(execOp a.eval o).run Tryz.prog w=.ok (.value v) w:=by
 subst hv
 cases b <;> simp only[execOp,ho,hc] <;> go_simp
theorem enter33:∀args w,(callFunc 38 args).run Tryz.prog w=.ok (.enter 38 args) w:=enters_of Tryz.func38 kR rfl
end Go.Proofs.YtbiiicbfpcfgdaaGreatDoor
