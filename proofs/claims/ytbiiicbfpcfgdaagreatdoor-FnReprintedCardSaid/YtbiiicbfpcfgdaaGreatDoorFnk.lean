import Derived.Test.YtbiiicbfpcfgdaaGreatDoorExz
import Derived.Test.YtbiiicbfpcfgdaaGreatDoorOks
namespace Go.Proofs.YtbiiicbfpcfgdaaGreatDoor
open Go.RowKit
set_option maxRecDepth 100000
set_option maxHeartbeats 16000000
set_option linter.unusedVariables false
theorem uDr41 {P:Prop}(h:P:=by simp[results,Tryz.results97,go_sem,c0,c1,c2,c3,c4,c5,c6,hsl,hsl1]):P:=h
namespace Pl
def nmA (j:Nat):List UInt8:=if j=2 then [120] else if j=3 then [97] else [119]
def cls (bs:List Nat) (p:Nat):Nat->List Int × Nat
 |0=>([],p)
 |n+1=>((cls bs p n).1++[(cl bs (cls bs p n).2).1],(cl bs (cls bs p n).2).2)
theorem cls_len (bs:List Nat) (p:Nat):∀n,(cls bs p n).1.length=n
 |0=>rfl
 |n+1=>by simp[cls,cls_len bs p n]
def atmK (bs:List Nat) (k p1:Nat):Sv × Nat:=if k % 8<3 then (⟨2,[],nmA (k / 8 % 4),f0⟩,p1) else (⟨1,(cls bs p1 (1+k / 8 % 3)).1,[],f0⟩,(cls bs p1 (1+k / 8 % 3)).2)
def atm (bs:List Nat) (p:Nat):Sv × Nat:=atmK bs (nx bs p).1 (nx bs p).2
theorem atm_fn (bs:List Nat) (p:Nat):(atm bs p).1.fn=f0:=by unfold atm atmK;split <;> rfl
end Pl
theorem Rr.set7 {B P:Nat}{w:World}{bs:List Nat}{pos:Nat}(h:Rr B P w bs pos) (s:Nat) (hB:B<=s) (hP:s ≠ P) (a b c d e f g:Value):Rr B P (((((((w.setCell ⟨s,0,none⟩ a).setCell ⟨s,1,none⟩ b).setCell ⟨s,2,none⟩ c).setCell ⟨s,3,none⟩ d).setCell ⟨s,4,none⟩ e).setCell ⟨s,5,none⟩ f).setCell ⟨s,6,none⟩ g) bs pos:=by
 have v:∀{w:World},Rr B P w bs pos->∀j u,Rr B P (w.setCell ⟨s,j,none⟩ u) bs pos:=fun h j u=>h.kx (A:=[s]) ((Kx.refl _ _).set s j u sI) (by simp;omega)
 exact v (v (v (v (v (v (v h _ _) _ _) _ _) _ _) _ _) _ _) _ _
theorem Kx.set7 {w w':World}{A:List Nat}(h:Kx w w' A) (s:Nat) (hs:s∈A\/w.heap.size<=s) (a b c d e f g:Value):Kx w (((((((w'.setCell ⟨s,0,none⟩ a).setCell ⟨s,1,none⟩ b).setCell ⟨s,2,none⟩ c).setCell ⟨s,3,none⟩ d).setCell ⟨s,4,none⟩ e).setCell ⟨s,5,none⟩ f).setCell ⟨s,6,none⟩ g) A:=by
 have v:∀{w':World},Kx w w' A->∀j u,Kx w (w'.setCell ⟨s,j,none⟩ u) A:=fun h j u=>h.set s j u hs
 exact v (v (v (v (v (v (v h _ _) _ _) _ _) _ _) _ _) _ _) _ _
theorem tDr41 {P:Prop}(h:P:=by
 go_wp2_with fail
 refine bodyPost_ret (v:=.agg #[.int .i64 2,.slice (some ⟨w1.heap.size,0,none⟩) 0 0,.string ⟨#[119]⟩,.int .i64 0,.int .i64 0,.int .i64 0,.string ⟨#[]⟩]) uDr41 rfl ⟨.slice (some ⟨w1.heap.size,0,none⟩) 0 0,[w1.heap.size],by rw[HG];rfl,by rw[HG];exact FIN.out _ _ _ _ _ _ _ _ _ rfl⟩
 ):P:=h
theorem atom_any (B P:Nat) (w:World) (bs:List Nat) (pos:Nat) (h:Rr B P w bs pos):Calls Tryz.prog 97 #[.pointer (some ⟨P,0,none⟩)] w fun e w'=>∃v F,e=.returned (.agg #[.int .i64 (Pl.atm bs pos).1.k,v,.string (Pl.ba (Pl.atm bs pos).1.nm),.int .i64 0,.int .i64 0,.int .i64 0,.string ⟨#[]⟩])/\Dn 3 1 Qi B P w w' bs (Pl.atm bs pos).2 [] v (Pl.atm bs pos).1.nums F:=by
 have hlt:=h.lt
 have hbp:=h.bp
 have HW0:Hid (Below w.heap.size w (w.alloc (.cells #[.int .i64 0,.slice none 0 0,.string ⟨#[]⟩,.int .i64 0,.int .i64 0,.int .i64 0,.string ⟨#[]⟩] 90))):=(Below.refl _ _).alloc (Nat.le_refl _) _
 have C0:=zH (cells_new (w:=w) (t:=90) (l:=[.int .i64 0,.slice none 0 0,.string ⟨#[]⟩,.int .i64 0,.int .i64 0,.int .i64 0,.string ⟨#[]⟩]) rfl)
 have F0:Hid (∀j,(w.alloc (.cells #[.int .i64 0,.slice none 0 0,.string ⟨#[]⟩,.int .i64 0,.int .i64 0,.int .i64 0,.string ⟨#[]⟩] 90)).frozen? ⟨w.heap.size,j,none⟩=false):=fun j=>by simp[go_sem]
 have h0:=h.keep HW0.out
 have Z0:Hid ((w.alloc (.cells #[.int .i64 0,.slice none 0 0,.string ⟨#[]⟩,.int .i64 0,.int .i64 0,.int .i64 0,.string ⟨#[]⟩] 90)).heap.size=w.heap.size+1):=by show _=_;simp
 have K1:=zH (nextx_any B P _ bs pos h0)
 have hk:(Pl.nx bs pos).1<=255:=Pl.nx_le h.by_
 have HG:=zH (show Pl.atm bs pos=Pl.atmK bs (Pl.nx bs pos).1 (Pl.nx bs pos).2 from rfl)
 generalize Pl.atm bs pos=R at *
 clear h h0
 generalize Pl.nx bs pos=q at *
 obtain⟨k,p1⟩:=q
 simp only at hk K1
 have HG:=HG.out
 unfold Pl.atmK at HG
 have m8:Int.tmod (k:Int) 8=((k % 8:Nat):Int):=by rw[Int.tmod_eq_emod_of_nonneg oM];omega
 have q8:Int.tdiv (k:Int) 8=((k / 8:Nat):Int):=by rw[Int.tdiv_eq_ediv_of_nonneg oM];omega
 have hq:k / 8<=31:=by omega
 have t4:Int.tmod ((k / 8:Nat):Int) 4=((k / 8 % 4:Nat):Int):=by rw[Int.tmod_eq_emod_of_nonneg oM];omega
 have t3:Int.tmod ((k / 8:Nat):Int) 3=((k / 8 % 3:Nat):Int):=by rw[Int.tmod_eq_emod_of_nonneg oM];omega
 have l4:k / 8 % 4<=3:=by omega
 have l3:k / 8 % 3<=2:=by omega
 generalize k / 8 % 4=x4 at *
 generalize k / 8 % 3=x3 at *
 generalize k / 8=kq at *
 have hm:k % 8<8:=by omega
 generalize k % 8=km at *
 go_enter Tryz.func97,Tryz.ntmps97
 go_wp2_with fail
 generalize hW:w.alloc (.cells #[.int .i64 0,.slice none 0 0,.string ⟨#[]⟩,.int .i64 0,.int .i64 0,.int .i64 0,.string ⟨#[]⟩] 90)=W at *
 refine K1.out.mono ?_
 rintro e w1 ⟨rfl,hd⟩
 have HKx:Hid (Kx w W [P]):=Kx.below HW0.out [P]
 generalize hs:w.heap.size=s at *
 have hWs:=Z0.out
 have CC:Hid (∀(X:World),Kx W X [P]->(∀j u,([.int .i64 0,.slice none 0 0,.string ⟨#[]⟩,.int .i64 0,.int .i64 0,.int .i64 0,.string ⟨#[]⟩]:List Value)[j]? = some u->X.cell? ⟨s,j,none⟩=some u)/\∀j,X.frozen? ⟨s,j,none⟩=false):=fun X k=>⟨fun j u hu=>k.cell oM (by simp;omega) (by have:=C0.out j u hu;rw[Nat.zero_add] at this;exact this),fun j=>k.froz oM (by simp;omega) (F0.out j)⟩
 have HK1:=zH (Kx.grown (A:=[P]) hd.g sI)
 have HR1:=zH hd.r
 clear hd K1 HW0 C0 F0 hW
 by_cases a1:km<3
 ·have d1:(km:Int)<3:=by omega
  rw[if_pos a1] at HG
  obtain⟨cc,f⟩:=CC.out w1 HK1.out
  have c0:=cc 0 _ rfl
  have c1:=cc 1 _ rfl
  have c2:=cc 2 _ rfl
  have c3:=cc 3 _ rfl
  have c4:=cc 4 _ rfl
  have c5:=cc 5 _ rfl
  have c6:=cc 6 _ rfl
  have hz1:=HK1.out.size
  have hsl:s<w1.heap.size:=by omega
  have FIN:=zH (fun (a b c d e f g:Value) (o:Obj) (q:Nat) (hq:q=w1.heap.size)=>(Dn.emp 3 1 Qi (HR1.out.set7 s oM oM a b c d e f g) ((HKx.out.trans HK1.out (A:=[P]) sI).set7 s (.inr (Nat.le_of_eq hs)) a b c d e f g) q (by simpa using hq)).alloc Qi.lives o)
  clear HR1 HK1 CC cc
  have hsl1:s<w1.heap.size+1:=by omega
  obtain rfl|rfl|rfl|rfl:x4=0\/x4=1\/x4=2\/x4=3:=by omega
  ·exact tDr41
  ·exact tDr41
  ·go_wp2_with fail
   refine bodyPost_ret (v:=.agg #[.int .i64 2,.slice (some ⟨w1.heap.size,0,none⟩) 0 0,.string ⟨#[120]⟩,.int .i64 0,.int .i64 0,.int .i64 0,.string ⟨#[]⟩]) uDr41 rfl ⟨.slice (some ⟨w1.heap.size,0,none⟩) 0 0,[w1.heap.size],by rw[HG];rfl,by rw[HG];exact FIN.out _ _ _ _ _ _ _ _ _ rfl⟩
  go_wp2_with fail
  refine bodyPost_ret (v:=.agg #[.int .i64 2,.slice (some ⟨w1.heap.size,0,none⟩) 0 0,.string ⟨#[97]⟩,.int .i64 0,.int .i64 0,.int .i64 0,.string ⟨#[]⟩]) uDr41 rfl ⟨.slice (some ⟨w1.heap.size,0,none⟩) 0 0,[w1.heap.size],by rw[HG];rfl,by rw[HG];exact FIN.out _ _ _ _ _ _ _ _ _ rfl⟩
 have d1:¬(km:Int)<3:=by omega
 rw[if_neg a1] at HG
 have I0:=zH (fun q hq=>Dn.emp (w0:=W) 3 1 Qi HR1.out HK1.out q hq)
 have KC:=zH (fun (X:World) (p:Nat) (h:Rr B P X bs p)=>cellx_any B P X bs p h)
 have HN:Hid (∀i,(Pl.cls bs p1 i).1.length=i):=Pl.cls_len bs p1
 have HC0:Hid (Pl.cls bs p1 0=([],p1)):=rfl
 have HCS:Hid (∀i,Pl.cls bs p1 (i+1)=((Pl.cls bs p1 i).1++[(Pl.cl bs (Pl.cls bs p1 i).2).1],(Pl.cl bs (Pl.cls bs p1 i).2).2)):=fun _=>rfl
 have HGG:=zH HG
 have hx3:IntKind.i64.wrap (1+(x3:Int))=1+(x3:Int):=by rw[IntKind.wrap_i64];omega
 clear HR1 HK1 HG
 go_wp2_with fail
 go_loopw [4,5] (fun v4 v5 wr=>∃(i:Nat) (F:List Nat),v5=.int .i64 (i:Int)/\i<=1+x3/\Hid (Dn 3 1 Qi B P W wr bs (Pl.cls bs p1 i).2 [] v4 (Pl.cls bs p1 i).1 F)) (fun v4 v5 wr=>1+x3-(intOf v5).toNat)
 case atStart=>exact⟨0,_,rfl,by omega,I0.out _ rfl⟩
 rename World=>wr
 obtain⟨i,F,rfl,hi,HD⟩:=hrel
 obtain⟨ao,cap,e4⟩:=HD.out.o.slice
 rw[HN.out i] at e4
 subst e4
 by_cases hlast:i<1+x3
 ·have hl':(i:Int)<1+(x3:Int):=by omega
  have KK:=zH (KC.out wr _ HD.out.r)
  have HS:=HCS.out i
  generalize hcl:Pl.cl bs (Pl.cls bs p1 i).2=c9 at *
  obtain⟨vi,pi⟩:=c9
  simp only at KK HS
  go_wp2_with fail
  refine KK.out.mono ?_
  rintro e w2 ⟨rfl,hd2⟩
  have D2:=zH (HD.out.dw Qi.lives hd2)
  have hB2:=D2.out.r.bp
  have hL2:=D2.out.r.lt
  clear hd2 KK
  go_wp2_with (at_builtin;refine wpList_append_o el77 Qi.lives _ rfl _ _ rfl _ _ _ _ _ rfl rfl (Pl.cls bs p1 i).1 [vi] F [] [.int .i64 vi] B ?ho ?hi ?hy ?hG ?hn ?hd rfl rfl ?hc ?h1 ?hbd ?hB ?_)
  case ho=>exact(D2.out.alloc Qi.lives _).o
  case hi=>exact(D2.out.alloc Qi.lives _).i
  case hy=>exact Qi.row _ _
  case hG=>exact Inb.nil _ _
  case hn=>exact List.nodup_nil
  case hd=>simp
  case hc=>exact cells_new (l:=[.int .i64 vi]) rfl
  case h1=>simp[Value.oneCell']
  case hbd=>simp[HN.out i];omega
  case hB=>simp;omega
  intro v9 w9 F9 ho9 hi9 hg9 _ hf9
  have D9:=zH ((D2.out.alloc Qi.lives (.cells #[.int .i64 vi] 3)).app ho9 hi9 hg9 (G:=[]) (fun x hx=>by have:=hf9 x hx;simp at this ⊢;exact this) sI)
  have hone:=ho9.one
  clear ho9 hi9 hg9 hf9 D2 HD
  go_wp2_with fail
  go_roundw
  case rel=>exact⟨i+1,F9,by simp,by omega,by rw[HS];exact D9.out⟩
  simp[intOf];omega
 have hl':¬(i:Int)<1+(x3:Int):=by omega
 obtain rfl:i=1+x3:=by omega
 have HR:=HGG.out
 generalize Pl.cls bs p1 (1+x3)=cr at *
 obtain⟨ns,pe⟩:=cr
 simp only at HR HD
 obtain⟨cc,f⟩:=CC.out wr HD.out.k
 have c0:=cc 0 _ rfl
 have c1:=cc 1 _ rfl
 have c2:=cc 2 _ rfl
 have c3:=cc 3 _ rfl
 have c4:=cc 4 _ rfl
 have c5:=cc 5 _ rfl
 have c6:=cc 6 _ rfl
 have FIN:=zH (fun (a b c d e f g:Value)=>(⟨HD.out.r.set7 s oM oM a b c d e f g,HD.out.o.keep Qi.lives (fun q hq=>((Kx.refl wr [s]).set7 s (.inl sI) a b c d e f g).block q (HD.out.i q hq).2 (by rcases HD.out.f q hq with r | r;exact absurd r sI;simp;omega)),HD.out.i.up (Nat.le_refl _) sI,HD.out.p,(HKx.out.trans HD.out.k (A:=[P]) sI).set7 s (.inr (Nat.le_of_eq hs)) a b c d e f g,fun x hx=>by rcases HD.out.f x hx with r | r;exact absurd r sI;exact .inr oM⟩:Dn 3 1 Qi B P w _ bs pe [] _ ns F))
 clear HD CC cc
 go_wp2_with fail
 refine bodyPost_ret (v:=.agg #[.int .i64 1,.slice ao (1+x3) cap,.string ⟨#[]⟩,.int .i64 0,.int .i64 0,.int .i64 0,.string ⟨#[]⟩]) (by simp[results,Tryz.results97,go_sem,c0,c1,c2,c3,c4,c5,c6]) rfl ?_
 first
  |exact⟨.slice ao (1+x3) cap,rfl,F,FIN.out _ _ _ _ _ _ _⟩
  |exact⟨.slice ao (1+x3) cap,F,by rw[HR];rfl,by rw[HR];exact FIN.out _ _ _ _ _ _ _⟩
def FnkPost (l:List (List UInt8)) (w:World) (e:Ending) (w':World):Prop :=
 ∃b,e=.returned (.slice (some ⟨b,0,none⟩) l.length l.length)/\(∀(j:Nat) (t:List UInt8),l[j]? = some t->w'.cell? ⟨b,j,none⟩=some (.string (Pl.ba t)))/\Below w.heap.size w w'/\w.heap.size<=b/\b<w'.heap.size
theorem fnk1 {w w2:World}(x:List UInt8) (hb:Below w.heap.size w w2):FnkPost [x] w (.returned (.slice (some ⟨w2.heap.size,0,none⟩) 1 1)) (w2.alloc (.cells #[.string (Pl.ba x)] 9)):=by
 refine⟨w2.heap.size,rfl,fun j t hj=>?_,hb.alloc hb.size _,hb.size,by simp⟩
 match j,hj with
 |0,hj=>simp at hj;subst hj;simp[go_sem]
 |j+1,hj=>simp at hj
theorem fnk2 {w w2:World}(x y:List UInt8) (hb:Below w.heap.size w w2):FnkPost [x,y] w (.returned (.slice (some ⟨w2.heap.size,0,none⟩) 2 2)) (w2.alloc (.cells #[.string (Pl.ba x),.string (Pl.ba y)] 9)):=by
 refine⟨w2.heap.size,rfl,fun j t hj=>?_,hb.alloc hb.size _,hb.size,by simp⟩
 match j,hj with
 |0,hj=>simp at hj;subst hj;simp[go_sem]
 |1,hj=>simp at hj;subst hj;simp[go_sem]
 |j+2,hj=>simp at hj
theorem fnk3 {w w2:World}(x y z:List UInt8) (hb:Below w.heap.size w w2):FnkPost [x,y,z] w (.returned (.slice (some ⟨w2.heap.size,0,none⟩) 3 3)) (w2.alloc (.cells #[.string (Pl.ba x),.string (Pl.ba y),.string (Pl.ba z)] 9)):=by
 refine⟨w2.heap.size,rfl,fun j t hj=>?_,hb.alloc hb.size _,hb.size,by simp⟩
 match j,hj with
 |0,hj=>simp at hj;subst hj;simp[go_sem]
 |1,hj=>simp at hj;subst hj;simp[go_sem]
 |2,hj=>simp at hj;subst hj;simp[go_sem]
 |j+3,hj=>simp at hj
theorem fnTokens_any (f:Pl.Fnv) (mb mo cp:Nat) (w:World) (hm:Mt w mb mo cp) :
  Calls Tryz.prog 111 #[.agg #[.int .i64 f.k,.int .i64 f.a,.int .i64 f.b,.string (Pl.ba f.nm)]] w (FnkPost (Pl.ftk f) w):=by
 have HB:Hid (∀o,Below w.heap.size w (w.alloc o)):=fun o=>(Below.refl _ _).alloc (Nat.le_refl _) _
 have KS:Hid (∀o,Calls Tryz.prog 127 #[.agg #[.int .i64 f.k,.int .i64 f.a,.int .i64 f.b,.string (Pl.ba f.nm)]] (w.alloc o) fun e w'=>e=.returned (.string (Pl.ba (Pl.sgn f)))/\Below (w.alloc o).heap.size (w.alloc o) w'):=fun o=>signOf_any f mb mo cp (w.alloc o) (hm.keep (HB.out o))
 have KO:Hid (∀w',Below w.heap.size w w'->Calls Tryz.prog 126 #[.int .i64 f.a] w' fun e w2=>e=.returned (.string (Pl.ba (Pl.osg f.a)))/\Below w'.heap.size w' w2):=fun w' h=>operationSign_any f.a mb mo cp w' (hm.keep h)
 have KO2:Hid (∀w',Below w.heap.size w w'->Calls Tryz.prog 126 #[.int .i64 f.b] w' fun e w2=>e=.returned (.string (Pl.ba (Pl.osg f.b)))/\Below w'.heap.size w' w2):=fun w' h=>operationSign_any f.b mb mo cp w' (hm.keep h)
 have HF:Hid (Pl.ftk f=if f.k=3 then [Pl.osg f.a,[47]] else if f.k=4 then [Pl.osg f.a,[92]] else if f.k=7 then [[64],Pl.osg f.a] else if f.k=8 then [Pl.osg f.a,[46],Pl.osg f.b] else if f.k=10 then [f.nm] else [Pl.sgn f]):=rfl
 have C:Hid (∀(w1 w':World) (j:Nat) (v:Value),Below w1.heap.size w1 w'->w.heap.size<w1.heap.size->w1.cell? ⟨w.heap.size,j,none⟩=some v->w'.cell? ⟨w.heap.size,j,none⟩=some v):=fun w1 w' j v hb h1 h=>(hb.cell (p:=⟨w.heap.size,j,none⟩) h1).trans h
 clear hm
 generalize hL:Pl.ftk f=L at *
 clear hL
 have F1:=zH (fun (w2:World) (hb:Below w.heap.size w w2)=>fnk1 (w:=w) f.nm hb)
 have F2:=zH (fun (w2:World) (hb:Below w.heap.size w w2)=>fnk1 (w:=w) (Pl.sgn f) hb)
 have F3:=zH (fun (y:List UInt8) (w2:World) (hb:Below w.heap.size w w2)=>fnk2 (w:=w) (Pl.osg f.a) y hb)
 have F4:=zH (fun (y:List UInt8) (w2:World) (hb:Below w.heap.size w w2)=>fnk2 (w:=w) y (Pl.osg f.a) hb)
 have F5:=zH (fun (w2:World) (hb:Below w.heap.size w w2)=>fnk3 (w:=w) (Pl.osg f.a) [46] (Pl.osg f.b) hb)
 have F1b:Hid (∀o,FnkPost [f.nm] w (.returned (.slice (some ⟨w.heap.size+1,0,none⟩) 1 1)) ((w.alloc o).alloc (.cells #[.string (Pl.ba f.nm)] 9))):=fun o=>by
  have:=F1.out (w.alloc o) (HB.out o)
  rw[World.size_alloc] at this
  exact this
 generalize hs1:Pl.osg f.a=xa at *
 generalize hs2:Pl.osg f.b=xb at *
 generalize hs3:Pl.sgn f=xs at *
 clear hs1 hs2 hs3
 generalize hkk:f.k=fk at *
 generalize f.a=fa at *
 generalize f.b=fb at *
 generalize f.nm=fn at *
 clear hkk
 generalize Pl.ba xa=sa at *
 generalize Pl.ba xb=sb at *
 generalize Pl.ba xs=ss at *
 generalize Pl.ba fn=nm at *
 by_cases k3:fk=3
 ·subst k3
  have HR:=zH (show L=[xa,[47]] by rw[HF.out];rfl)
  rw[HR.out]
  clear HF HR
  go_enter Tryz.func111,Tryz.ntmps111
  go_wp2_with fail
  refine(KO.out _ (HB.out _)).mono ?_
  rintro e w2 ⟨rfl,hb2⟩
  have H2:=zH ((HB.out _).trans (hb2.mono sI))
  clear hb2
  go_wp2_with fail
  go_ret
  exact F3.out [47] _ H2.out
 have f3:(fk == 3)=false:=by simp[k3]
 by_cases k4:fk=4
 ·subst k4
  clear f3 k3
  have HR:=zH (show L=[xa,[92]] by rw[HF.out];rfl)
  rw[HR.out]
  clear HF HR
  go_enter Tryz.func111,Tryz.ntmps111
  go_wp2_with fail
  refine(KO.out _ (HB.out _)).mono ?_
  rintro e w2 ⟨rfl,hb2⟩
  have H2:=zH ((HB.out _).trans (hb2.mono sI))
  clear hb2
  go_wp2_with fail
  go_ret
  exact F3.out [92] _ H2.out
 have f4:(fk == 4)=false:=by simp[k4]
 by_cases k7:fk=7
 ·subst k7
  clear f3 k3 f4 k4
  have HR:=zH (show L=[[64],xa] by rw[HF.out];rfl)
  rw[HR.out]
  clear HF HR
  go_enter Tryz.func111,Tryz.ntmps111
  go_wp2_with fail
  refine(KO.out _ (HB.out _)).mono ?_
  rintro e w2 ⟨rfl,hb2⟩
  have H2:=zH ((HB.out _).trans (hb2.mono sI))
  clear hb2
  go_wp2_with fail
  go_ret
  exact F4.out [64] _ H2.out
 have f7:(fk == 7)=false:=by simp[k7]
 by_cases k8:fk=8
 ·subst k8
  clear f3 k3 f4 k4 f7 k7
  have HR:=zH (show L=[xa,[46],xb] by rw[HF.out];rfl)
  rw[HR.out]
  clear HF HR
  go_enter Tryz.func111,Tryz.ntmps111
  go_wp2
  go_region_with (first | (go_at_call 126;with_reducible refine(KO.out _ ((HB.out _).drew)).mono ?_;rintro e w2 ⟨rfl,hb1⟩;have c2:=C.out _ _ 2 _ hb1 sI (by simp[go_sem];rfl);have HBA:=zH ((HB.out _).drew.trans (hb1.mono sI));clear hb1) | (go_at_call 126;with_reducible refine(KO2.out _ HBA.out).mono ?_;rintro e w3 ⟨rfl,hb2⟩;have H3:=zH (HBA.out.trans (hb2.mono HBA.out.size));clear hb2))
  all_goals (go_wp2;go_ret;exact F5.out _ H3.out)
 have f8:(fk == 8)=false:=by simp[k8]
 by_cases k10:fk=10
 ·subst k10
  clear f3 k3 f4 k4 f7 k7 f8 k8
  have HR:=zH (show L=[fn] by rw[HF.out];rfl)
  rw[HR.out]
  clear HF HR
  go_enter Tryz.func111,Tryz.ntmps111
  go_wp2_with fail
  go_ret
  exact F1b.out _
 have f10:(fk == 10)=false:=by simp[k10]
 have HR:=zH (show L=[xs] by rw[HF.out];simp[k3,k4,k7,k8,k10])
 rw[HR.out]
 clear k3 k4 k7 k8 k10 HF HR
 go_enter Tryz.func111,Tryz.ntmps111
 go_wp2_with fail
 refine(KS.out _).mono ?_
 rintro e w2 ⟨rfl,hb2⟩
 have H2:=zH ((HB.out _).trans (hb2.mono sI))
 clear hb2
 go_wp2_with fail
 go_ret
 exact F2.out _ H2.out
end Go.Proofs.YtbiiicbfpcfgdaaGreatDoor
