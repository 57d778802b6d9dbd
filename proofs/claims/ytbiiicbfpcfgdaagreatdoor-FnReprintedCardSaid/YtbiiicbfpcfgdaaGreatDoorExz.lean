import Derived.BigQuiet
import Derived.Test.YtbiiicbfpcfgdaaGreatDoorExl
import Derived.Test.YtbiiicbfpcfgdaaGreatDoorOpe2
namespace Go.Proofs.YtbiiicbfpcfgdaaGreatDoor
open Go.RowKit
set_option maxRecDepth 100000
set_option maxHeartbeats 16000000
set_option linter.unusedVariables false
namespace Pl
def nx (bs:List Nat) (p:Nat):Nat × Nat:=(bs.getD p 0,if p<bs.length then p+1 else p)
def clV (k:Nat):Int:=if k=255 then 3000000000 else if k=254 then -3000000000 else if 250<=k then (k:Int) * 11000007 else if 220<=k then 220-(k:Int) else ((k % 7:Nat):Int)
def cl (bs:List Nat) (p:Nat):Int × Nat:=(clV (nx bs p).1,(nx bs p).2)
end Pl
def RdN (B:Nat) (w:World) (ao:Option Addr) (bs:List Nat):Prop :=
 bs=[]\/∃b off,b<B/\ao=some ⟨b,off,none⟩/\∀(i:Nat) (x:Nat),bs[i]? = some x->w.cell? ⟨b,off+i,none⟩=some (.int .u8 (x:Int))
theorem RdN.keep {B:Nat}{w w':World}{ao:Option Addr}{bs:List Nat}(h:RdN B w ao bs) (hb:Below B w w'):RdN B w' ao bs:=by
 rcases h with h|⟨b,off,hB,rfl,hc⟩
 ·exact .inl h
 exact .inr ⟨b,off,hB,rfl,fun i x hx=>(hb.cell (p:=⟨b,off+i,none⟩) hB).trans (hc i x hx)⟩
structure Rr (B P:Nat) (w:World) (bs:List Nat) (pos:Nat):Prop where
 bp:B<=P
 lt:P<w.heap.size
 le:bs.length<=1000
 pl:pos<=bs.length
 by_:∀x∈bs,x<=255
 ex:∃ao cap,w.cell? ⟨P,0,none⟩=some (.slice ao bs.length cap)/\RdN B w ao bs
 c1:w.cell? ⟨P,1,none⟩=some (.int .i64 pos)
 fz:∀j,w.frozen? ⟨P,j,none⟩=false
theorem Rr.same {B P:Nat}{w w':World}{bs:List Nat}{pos:Nat}(h:Rr B P w bs pos) (hb:Below B w w') (e:w'.heap[P]? = w.heap[P]?):Rr B P w' bs pos:=by
 obtain⟨ao,cap,h1,h2⟩:=h.ex
 have g (j:Nat):w'.cell? ⟨P,j,none⟩=w.cell? ⟨P,j,none⟩:=World.cell?_of_block e
 exact⟨h.bp,Nat.lt_of_lt_of_le h.lt hb.size,h.le,h.pl,h.by_,⟨ao,cap,(g 0).trans h1,h2.keep hb⟩,(g 1).trans h.c1,fun j=>(World.frozen?_of_block (a:=⟨P,j,none⟩) e).trans (h.fz j)⟩
theorem Rr.keep {B P:Nat}{w w':World}{bs:List Nat}{pos:Nat}(h:Rr B P w bs pos) (hb:Below w.heap.size w w'):Rr B P w' bs pos :=
 h.same (hb.mono (by have:=h.bp;have:=h.lt;omega)) (hb.block P h.lt)
theorem Rr.kept {B P:Nat}{w w':World}{bs:List Nat}{pos:Nat}{r:Option Nat}(h:Rr B P w bs pos) (hg:w.grownBy w' r) (hr:∀k,r=some k->B<=k/\k ≠ P):Rr B P w' bs pos:=by
 have hb:Below B w w':=⟨hg.os,hg.tape,hg.output,hg.size,fun k hk=>hg.block k (by have:=h.bp;have:=h.lt;omega) (fun e=>by have:=(hr k e.symm).1;omega)⟩
 exact h.same hb (hg.block P h.lt (fun e=>(hr P e.symm).2 rfl))
theorem Rr.step {B P:Nat}{w:World}{bs:List Nat}{pos:Nat}(h:Rr B P w bs pos) (hp:pos<bs.length):Rr B P (w.setCell ⟨P,1,none⟩ (.int .i64 ((pos:Int)+1))) bs (pos+1):=by
 obtain⟨ao,cap,h1,h2⟩:=h.ex
 exact⟨h.bp,by simpa using h.lt,h.le,hp,h.by_,⟨ao,cap,(World.cell?_setCell_other _ _ _ _ sI).trans h1,h2.keep ((Below.refl B w).setCell h.bp _)⟩,by rw[World.cell?_setCell_same _ _ _ h.c1];rfl,fun j=>by rw[World.frozen?_setCell];exact h.fz j⟩
theorem grown_drewN {w w':World}{r:Option Nat}(n:Nat) (h:(w.drewN n).grownBy w' r):w.grownBy w' r:=⟨h.os,h.tape,h.output,h.size,h.block⟩
theorem grown_set1 (w:World) (P j:Nat) (v:Value):w.grownBy (w.setCell ⟨P,j,none⟩ v) (some P) :=
 ⟨rfl,rfl,rfl,by simp,fun k _ hk=>heap_setCell_other w ⟨P,j,none⟩ k v (fun e=>hk (by simp[e]))⟩
theorem grown_same (w:World) (n:Nat) (r:Option Nat):w.grownBy (w.drewN n) r:=⟨rfl,rfl,rfl,Nat.le_refl _,fun _ _ _=>rfl⟩
theorem Rr.drewN {B P:Nat}{w:World}{bs:List Nat}{pos:Nat}(h:Rr B P w bs pos) (n:Nat):Rr B P (w.drewN n) bs pos:=⟨h.bp,h.lt,h.le,h.pl,h.by_,h.ex,h.c1,h.fz⟩
structure Dw (B P:Nat) (w w':World) (bs:List Nat) (pos':Nat):Prop where
 r:Rr B P w' bs pos'
 g:w.grownBy w' (some P)
theorem nextx_any (B P:Nat) (w:World) (bs:List Nat) (pos:Nat) (h:Rr B P w bs pos):Calls Tryz.prog 21 #[.pointer (some ⟨P,0,none⟩)] w fun e w'=>e=.returned (.int .i64 ((Pl.nx bs pos).1:Nat))/\Dw B P w w' bs (Pl.nx bs pos).2:=by
 have H:=zH h
 have hlt:=h.lt
 obtain⟨ao,cap,c0,hr⟩:=h.ex
 have c1:=h.c1
 have f1:=h.fz 1
 have hle:=h.le
 by_cases hlp:pos<bs.length
 ·have hlp':(pos:Int)<(bs.length:Int):=by omega
  have e2:Pl.nx bs pos=(bs[pos],pos+1):=by
   unfold Pl.nx
   rw[if_pos hlp,List.getD_eq_getElem?_getD,List.getElem?_eq_getElem hlp]
   rfl
  have hx:bs[pos]<=255:=h.by_ _ (List.getElem_mem hlp)
  rcases hr with h0|⟨b,off,hb,rfl,hc⟩
  ·rw[h0] at hlp;cases hlp
  have cx:=hc pos _ (List.getElem?_eq_getElem hlp)
  rw[e2]
  have FIN:Hid (∀m,Dw B P w ((w.drewN m).setCell ⟨P,1,none⟩ (.int .i64 ((pos:Int)+1))) bs (pos+1)):=fun m=>⟨(h.drewN m).step hlp,grown_drewN m (grown_set1 (w.drewN m) P 1 _)⟩
  generalize bs[pos]=x at *
  generalize bs.length=n at *
  clear hc h H e2
  go_enter Tryz.func21,Tryz.ntmps21
  go_wp2_with fail
  go_quiet (fail)
  go_wp2_with fail
  go_quiet (fail)
  go_wp2_with fail
  go_ret
  exact⟨by first | rfl | (rw[IntKind.wrap_i64];omega),FIN.out _⟩
 have hlp':¬(pos:Int)<(bs.length:Int):=by omega
 have e2:Pl.nx bs pos=(0,pos):=by
  unfold Pl.nx
  rw[if_neg hlp,List.getD_eq_getElem?_getD,List.getElem?_eq_none oM]
  rfl
 rw[e2]
 have FIN:Hid (∀m,Dw B P w (w.drewN m) bs pos):=fun m=>⟨h.drewN m,grown_same _ _ _⟩
 generalize bs.length=n at *
 clear h H e2 hr
 go_enter Tryz.func21,Tryz.ntmps21
 go_wp2_with fail
 go_quiet (fail)
 go_wp2_with fail
 go_ret
 exact⟨rfl,FIN.out _⟩
theorem left_any (B P:Nat) (w:World) (bs:List Nat) (pos:Nat) (h:Rr B P w bs pos):Calls Tryz.prog 96 #[.pointer (some ⟨P,0,none⟩)] w fun e w'=>e=.returned (.int .i64 ((bs.length-pos:Nat):Int))/\Below w.heap.size w w':=by
 obtain⟨ao,cap,c0,hr⟩:=h.ex
 have c1:=h.c1
 have hle:=h.le
 have hpl:=h.pl
 have hlt:=h.lt
 have HB:Hid (∀m,Below w.heap.size w (w.drewN m)):=fun m=>below_drewN (Below.refl _ _) m
 generalize bs.length=n at *
 clear h hr
 go_enter Tryz.func96,Tryz.ntmps96
 go_wp2_with fail
 go_quiet (fail)
 go_wp2_with fail
 go_ret
 exact⟨ret_int oM,HB.out _⟩
theorem tDr11 {P:Prop}(h:P:=by
 go_enter Tryz.func113,Tryz.ntmps113
 go_wp2_with fail
 refine KN.out.mono ?_
 rintro e w1 ⟨rfl,hd⟩
 go_wp2_with fail
 go_ret
 exact⟨by first | rfl | (apply ret_int;omega),hd⟩
 ):P:=h
theorem cellx_any (B P:Nat) (w:World) (bs:List Nat) (pos:Nat) (h:Rr B P w bs pos):Calls Tryz.prog 113 #[.pointer (some ⟨P,0,none⟩)] w fun e w'=>e=.returned (.int .i64 (Pl.cl bs pos).1)/\Dw B P w w' bs (Pl.cl bs pos).2:=by
 have KN:=zH (nextx_any B P w bs pos h)
 have hk:(Pl.nx bs pos).1<=255:=by
  unfold Pl.nx
  show bs.getD pos 0<=255
  rw[List.getD_eq_getElem?_getD]
  cases hg:bs[pos]? with
  |none=>simp
  |some x=>exact h.by_ x (List.mem_of_getElem? hg)
 unfold Pl.cl
 generalize Pl.nx bs pos=q at *
 obtain⟨k,p'⟩:=q
 simp only at hk KN ⊢
 clear h
 unfold Pl.clV
 by_cases h1:k=255
 ·subst h1
  go_enter Tryz.func113,Tryz.ntmps113
  go_wp2_with fail
  refine KN.out.mono ?_
  rintro e w1 ⟨rfl,hd⟩
  go_wp2_with fail
  go_ret
  exact⟨rfl,hd⟩
 have h1':((k:Int) == 255)=false:=by simp;omega
 rw[if_neg h1]
 by_cases h2:k=254
 ·subst h2
  go_enter Tryz.func113,Tryz.ntmps113
  go_wp2_with fail
  refine KN.out.mono ?_
  rintro e w1 ⟨rfl,hd⟩
  go_wp2_with fail
  go_ret
  exact⟨rfl,hd⟩
 have h2':((k:Int) == 254)=false:=by simp;omega
 rw[if_neg h2]
 by_cases h3:250<=k
 ·have h3':(250:Int)<=(k:Int):=by omega
  rw[if_pos h3]
  exact tDr11
 have h3':¬(250:Int)<=(k:Int):=by omega
 rw[if_neg h3]
 by_cases h4:220<=k
 ·have h4':(220:Int)<=(k:Int):=by omega
  rw[if_pos h4]
  exact tDr11
 have h4':¬(220:Int)<=(k:Int):=by omega
 rw[if_neg h4]
 have er:Int.tmod (k:Int) 7=((k % 7:Nat):Int):=by rw[Int.tmod_eq_emod_of_nonneg oM];omega
 exact tDr11
theorem openx_any (B:Nat) (ao:Option Addr) (cap:Nat) (bs:List Nat) (w:World) (hcap:bs.length<=cap) (hm:cap<=9223372036854775807) (hB:B<=w.heap.size) (h8:∀x∈bs,x<=255) (h:RdN B w ao bs) :
  Calls Tryz.prog 11 #[.slice ao bs.length cap] w fun e w'=>e=.returned (.pointer (some ⟨w.heap.size,0,none⟩))/\Rr B w.heap.size w' (bs.take 1000) 0/\Below w.heap.size w w':=by
 have AL:Hid (∀o,Below w.heap.size w (w.alloc o)):=fun o=>(Below.refl _ _).alloc (Nat.le_refl _) _
 have HR:RdN B w ao (bs.take 1000):=by
  rcases h with h|⟨b,off,hb,rfl,hc⟩
  ·exact .inl (by rw[h];rfl)
  refine .inr ⟨b,off,hb,rfl,fun i x hx=>hc i x ?_⟩
  rw[List.getElem?_take] at hx
  split at hx
  ·exact hx
  cases hx
 have NEW:Hid (∀(cap:Nat) (n:Nat),n=(bs.take 1000).length->Rr B w.heap.size (w.alloc (.cells #[.slice ao n cap,.int .i64 0] 64)) (bs.take 1000) 0):=fun cap n hn=>by
  subst hn
  exact⟨hB,by simp,by rw[List.length_take];omega,Nat.zero_le _,fun x hx=>h8 x (List.mem_of_mem_take hx),⟨ao,cap,by simp[go_sem],HR.keep ((AL.out _).mono hB)⟩,by simp[go_sem],fun j=>by simp[go_sem]⟩
 generalize hn:bs.length=n at *
 by_cases hlong:1000<n
 ·have hlong':(1000:Int)<(n:Int):=by omega
  have HR:=zH (NEW.out cap 1000 (by rw[List.length_take];omega))
  obtain⟨b,off,rfl⟩:∃b off,ao=some ⟨b,off,none⟩:=by
   rcases h with h|⟨b,off,_,e,_⟩
   ·rw[h] at hn;simp at hn;omega
   exact⟨b,off,e⟩
  clear h NEW
  go_enter Tryz.func11,Tryz.ntmps11
  go_wp2_with fail
  go_ret
  exact⟨rfl,HR.out,AL.out _⟩
 have hlong':¬(1000:Int)<(n:Int):=by omega
 have HR:=zH (NEW.out cap n (by rw[List.length_take];omega))
 clear h NEW
 go_enter Tryz.func11,Tryz.ntmps11
 go_wp2_with fail
 go_ret
 exact⟨rfl,HR.out,AL.out _⟩
namespace Pl
def nmF (j:Nat):List UInt8:=if j=1 then [71,111] else if j=2 then [115,101,108,102] else [70]
def gfnK (bs:List Nat) (k p1:Nat) (two:Bool):Fnv × Nat :=
 if two then
  if k % 16<7 then (⟨5,1+((k / 16 % 10:Nat):Int),0,[]⟩,p1)
  else if k % 16<12 then (⟨6,1+((k / 16 % 7:Nat):Int),0,[]⟩,p1)
  else if k % 16=12 then (⟨7,1+((k / 16 % 10:Nat):Int),0,[]⟩,p1)
  else if k % 16=13 then (⟨8,1+((k / 16 % 10:Nat):Int),1+(((nx bs p1).1 % 10:Nat):Int),[]⟩,(nx bs p1).2)
  else (⟨10,0,0,nmF (k / 16 % 4)⟩,p1)
 else if k % 16<3 then (⟨1,1+((k / 16 % 4:Nat):Int),0,[]⟩,p1)
  else if k % 16<8 then (⟨2,1+((k / 16 % 7:Nat):Int),0,[]⟩,p1)
  else if k % 16<11 then (⟨3,1+((k / 16 % 10:Nat):Int),0,[]⟩,p1)
  else if k % 16=11 then (⟨4,1+((k / 16 % 10:Nat):Int),0,[]⟩,p1)
  else if k % 16=12 then (⟨9,0,0,[]⟩,p1)
  else (⟨10,0,0,nmF (k / 16 % 4)⟩,p1)
def gfn (bs:List Nat) (p:Nat) (two:Bool):Fnv × Nat:=gfnK bs (nx bs p).1 (nx bs p).2 two
theorem nx_le {bs:List Nat}{p:Nat}(h:∀x∈bs,x<=255):(nx bs p).1<=255:=by
 unfold nx
 show bs.getD p 0<=255
 rw[List.getD_eq_getElem?_getD]
 cases hg:bs[p]? with
 |none=>simp
 |some x=>exact h x (List.mem_of_getElem? hg)
end Pl
structure Vr (P s:Nat) (w w':World) (l:List Value):Prop where
 g:w.grownBy w' (some P)
 e:s=w.heap.size
 lt:s<w'.heap.size
 c:∀j u,l[j]? = some u->w'.cell? ⟨s,j,none⟩=some u
 f:∀j,w'.frozen? ⟨s,j,none⟩=false
theorem Vr.new (P:Nat) (w:World) (l:List Value) (t:Nat):Vr P w.heap.size w (w.alloc (.cells l.toArray t)) l :=
 ⟨⟨rfl,rfl,rfl,by simp,fun k hk _=>Below.heap_alloc _ _ _ hk⟩,rfl,by simp,fun j u hu=>by have:=cells_new (w:=w) (t:=t) (l:=l) rfl j u hu;rw[Nat.zero_add] at this;exact this,fun j=>by simp[go_sem]⟩
theorem pexpr_fun {n:Nat}{l:List Pl.Itk}{a:Nat}(h:Pl.atF (Pl.rI l a)=true):Pl.pexpr (n+1) (Pl.rI l a)=PA n l a:=by
 rw[Pl.pexpr,if_pos h]
 unfold PA
 split
 ·rfl
 cases Pl.pexpr n (Pl.pfun (Pl.rI l a)).2 <;> rfl
theorem pexpr_opd {n:Nat}{l:List Pl.Itk}{a:Nat}(h:Pl.atF (Pl.rI l a)=false):Pl.pexpr (n+1) (Pl.rI l a)=PB n (Pl.popnd n (Pl.rI l a)):=by
 rw[Pl.pexpr,if_neg (by rw[h];simp)]
 cases Pl.popnd n (Pl.rI l a) with
 |none=>rfl
 |some q =>
  obtain⟨o,r⟩:=q
  simp only[PB]
  split
  ·split
   ·rfl
   cases Pl.pexpr n (Pl.pfun r).2 <;> rfl
  rfl
theorem expr_step (n:Nat) (ih:∀k,k<=n->HXe k):HXe (n+1):=by
 intro l p cap a o mb mo cp ao be w hl ha ho hn hk hE hP
 by_cases hat:Pl.atF (Pl.rI l a)=true
 ·rw[pexpr_fun hat]
  exact expr_fun n (ih n (Nat.le_refl _)) l p cap a o mb mo cp ao be w hl ha ho hn hk hE hP hat
 have hat':Pl.atF (Pl.rI l a)=false:=by simpa using hat
 rw[pexpr_opd hat']
 cases hp:Pl.popnd n (Pl.rI l a) with
 |none =>
  have:=expr_opd n ih l p cap a o mb mo cp ao be w hl ha ho hn hk hE hP hat' (fun oo r h=>by rw[hp] at h;cases h)
  rw[hp] at this
  exact this
 |some q =>
  obtain⟨oo,r⟩:=q
  by_cases h2:Pl.atF r=true
  ·exact expr_two n ih l p cap a o mb mo cp ao be w hl ha ho hn hk hE hP hat' oo r hp h2
  have:=expr_opd n ih l p cap a o mb mo cp ao be w hl ha ho hn hk hE hP hat' (fun oo' r' h=>by rw[hp] at h;cases h;simpa using h2)
  rw[hp] at this
  exact this
theorem expr_upto:∀n k,k<=n->HXe k
 |0,k,h=>by
  obtain rfl:k=0:=by omega
  intro l p cap a o mb mo cp ao be w _ _ _ h5
  omega
 |n+1,k,h=>by
  by_cases hk:k<=n
  ·exact expr_upto n k hk
  obtain rfl:k=n+1:=by omega
  exact expr_step n (expr_upto n)
theorem expr_all (n:Nat):HXe n:=expr_upto n n (Nat.le_refl _)
namespace Pl
theorem rfun_suf {r r':List T}{f:F}(h:rfun r=some (f,r')):∃p,r=p++r'/\p ≠ []:=by
 revert h
 unfold rfun
 split <;> intro h
 all_goals first
  |(cases h;done)
  |(split at h <;> first | (cases h;done) | (cases h;first | exact⟨[_,_],rfl,by simp⟩ | exact⟨[_,_,_],rfl,by simp⟩))
  |(cases h;exact⟨[_],rfl,by simp⟩)
theorem rv_suf {l:List Tok}{fr:Nat}{p r:List T}(h:rv l fr=p++r) (hf:fr<=l.length):r=rv l r.length:=by
 have h1:=congrArg List.reverse h
 have h3:=congrArg List.length h
 rw[rv_len hf,List.length_append] at h3
 unfold rv at h1 ⊢
 rw[List.reverse_reverse,List.reverse_append] at h1
 have h2:=congrArg (List.take r.length) h1
 rw[List.take_left' sI,<- List.map_take,List.take_take,Nat.min_eq_left oM] at h2
 rw[h2,List.reverse_reverse]
theorem rfun_at {l:List Tok}{fr:Nat}{f:F}{r:List T}(hf:fr<=l.length) (h:rfun (rv l fr)=some (f,r)):r=rv l r.length/\r.length<fr:=by
 obtain⟨p,hp,hn⟩:=rfun_suf h
 have:=congrArg List.length hp
 rw[rv_len hf,List.length_append] at this
 have:0<p.length:=List.length_pos_iff.2 hn
 exact⟨rv_suf hp hf,by omega⟩
theorem ends_at {l:List Tok}(hk:∀t∈l,kOk t.k) {a:Nat}(ha:a<l.length):ends (rv l (a+1))=endV (tq l a):=by
 rw[rv_succ ha,end_T (hk _ (tq_mem ha))]
 cases tkT (tq l a) <;> rfl
theorem ropnd_at {l:List Tok}{n fr:Nat}{o:O}{r:List T}(hf:fr<=l.length) (h:ropnd n (rv l fr)=some (o,r)):r=rv l r.length/\o.toks.length+r.length=fr/\o.wf:=by
 obtain⟨h1,h2⟩:=(rsound n).2.1 _ _ _ h
 have:=congrArg List.length h1
 rw[rv_len hf,List.length_append,List.length_reverse] at this
 exact⟨rv_suf h1 hf,by omega,h2⟩
end Pl
structure Lx (w:World) (p:Nat) (wr:World) (ao:Option Addr) (n cap:Nat) (fr:Int) (ok:Bool) (ne:Int) (lo:Bool):Prop where
 b:Below w.heap.size w wr
 r0:wr.cell? ⟨w.heap.size,0,none⟩=some (.slice none 0 0)
 r1:wr.cell? ⟨w.heap.size,1,none⟩=some (.int .i64 0)
 r2:wr.cell? ⟨w.heap.size,2,none⟩=some (.bool false)
 r3:wr.cell? ⟨w.heap.size,3,none⟩=some (.int .i64 0)
 r4:wr.cell? ⟨w.heap.size,4,none⟩=some (.bool false)
 rf:∀j,wr.frozen? ⟨w.heap.size,j,none⟩=false
 ge:w.heap.size<p
 lt:p<wr.heap.size
 c0:wr.cell? ⟨p,0,none⟩=some (.slice ao n cap)
 c1:wr.cell? ⟨p,1,none⟩=some (.int .i64 fr)
 c2:wr.cell? ⟨p,2,none⟩=some (.bool ok)
 c3:wr.cell? ⟨p,3,none⟩=some (.int .i64 ne)
 c4:wr.cell? ⟨p,4,none⟩=some (.bool lo)
 cf:∀j,wr.frozen? ⟨p,j,none⟩=false
section
variable {w:World} {p:Nat} {wr wr':World} {ao:Option Addr} {n cap:Nat} {fr:Int} {ok:Bool} {ne:Int} {lo:Bool}
theorem Lx.same (h:Lx w p wr ao n cap fr ok ne lo) (hb:Below w.heap.size w wr') (h1:wr'.heap[w.heap.size]? = wr.heap[w.heap.size]?) (h2:wr'.heap[p]? = wr.heap[p]?) (hs:wr.heap.size<=wr'.heap.size):Lx w p wr' ao n cap fr ok ne lo:=by
 have g1 (j:Nat):wr'.cell? ⟨w.heap.size,j,none⟩=wr.cell? ⟨w.heap.size,j,none⟩:=World.cell?_of_block h1
 have g2 (j:Nat):wr'.cell? ⟨p,j,none⟩=wr.cell? ⟨p,j,none⟩:=World.cell?_of_block h2
 exact⟨hb,(g1 0).trans h.r0,(g1 1).trans h.r1,(g1 2).trans h.r2,(g1 3).trans h.r3,(g1 4).trans h.r4,fun j=>(World.frozen?_of_block (a:=⟨w.heap.size,j,none⟩) h1).trans (h.rf j),h.ge,Nat.lt_of_lt_of_le h.lt hs,(g2 0).trans h.c0,(g2 1).trans h.c1,(g2 2).trans h.c2,(g2 3).trans h.c3,(g2 4).trans h.c4,fun j=>(World.frozen?_of_block (a:=⟨p,j,none⟩) h2).trans (h.cf j)⟩
theorem Lx.keep (h:Lx w p wr ao n cap fr ok ne lo) (hb:Below wr.heap.size wr wr'):Lx w p wr' ao n cap fr ok ne lo :=
 h.same (h.b.trans (hb.mono (by have:=h.ge;have:=h.lt;omega))) (hb.block _ (by have:=h.ge;have:=h.lt;omega)) (hb.block _ h.lt) hb.size
theorem Lx.grown (h:Lx w p wr ao n cap fr ok ne lo) {r:Option Nat}(hg:wr.grownBy wr' r) (hr:∀b,r=some b->w.heap.size<b/\b ≠ p):Lx w p wr' ao n cap fr ok ne lo :=
 h.same (h.b.grown hg (by have:=h.ge;have:=h.lt;omega) (fun k hk=>Nat.le_of_lt (hr k hk).1)) (hg.block _ (by have:=h.ge;have:=h.lt;omega) (fun e=>by have:=(hr _ e.symm).1;omega)) (hg.block _ h.lt (fun e=>(hr _ e.symm).2 rfl)) hg.size
theorem Lx.drew (h:Lx w p wr ao n cap fr ok ne lo):Lx w p wr.drew ao n cap fr ok ne lo:=h.keep ((Below.refl _ _).drew)
theorem Lx.new {w2:World}(hb:Below (w.heap.size+1) (w.alloc box0) w2):Lx w w2.heap.size (w2.alloc (.cells #[.slice ao n cap,.int .i64 fr,.bool ok,.int .i64 ne,.bool lo] 75)) ao n cap fr ok ne lo:=by
 have z:=hb.size
 simp at z
 have h2:Below (w.heap.size+1) (w.alloc box0) (w2.alloc (.cells #[.slice ao n cap,.int .i64 fr,.bool ok,.int .i64 ne,.bool lo] 75)):=hb.alloc oM _
 exact⟨((Below.refl _ _).alloc (Nat.le_refl _) _).trans (h2.mono oM),bcell h2 oM (by simp[go_sem]),bcell h2 oM (by simp[go_sem]),bcell h2 oM (by simp[go_sem]),bcell h2 oM (by simp[go_sem]),bcell h2 oM (by simp[go_sem]),fun j=>bfroz h2 oM (by simp[go_sem]),by omega,by simp,by simp[go_sem],by simp[go_sem],by simp[go_sem],by simp[go_sem],by simp[go_sem],fun j=>by simp[go_sem]⟩
theorem Lx.put (h:Lx w p wr ao n cap fr ok ne lo) (j:Nat) (v:Value):wr.grownBy (wr.setCell ⟨p,j,none⟩ v) (some p)/\Below w.heap.size w (wr.setCell ⟨p,j,none⟩ v)/\(∀i,(wr.setCell ⟨p,j,none⟩ v).cell? ⟨w.heap.size,i,none⟩=wr.cell? ⟨w.heap.size,i,none⟩)/\(∀i,¬j=i->(wr.setCell ⟨p,j,none⟩ v).cell? ⟨p,i,none⟩=wr.cell? ⟨p,i,none⟩) :=
 ⟨grown_one p j v (World.grownBy.refl _ _),h.b.setCell (Nat.le_of_lt h.ge) _,fun i=>World.cell?_setCell_far _ _ _ _ (by have:=h.ge;show p ≠ w.heap.size;omega),fun i hi=>World.cell?_setCell_other _ _ _ _ (by intro e;cases e;exact hi rfl)⟩
theorem Lx.set0 (h:Lx w p wr ao n cap fr ok ne lo) (ao':Option Addr) (n' cap':Nat):Lx w p (wr.setCell ⟨p,0,none⟩ (.slice ao' n' cap')) ao' n' cap' fr ok ne lo:=by
 obtain⟨_,hb,g1,g2⟩:=h.put 0 (.slice ao' n' cap')
 exact⟨hb,(g1 0).trans h.r0,(g1 1).trans h.r1,(g1 2).trans h.r2,(g1 3).trans h.r3,(g1 4).trans h.r4,fun j=>by rw[World.frozen?_setCell];exact h.rf j,h.ge,by simpa using h.lt,World.cell?_setCell_same _ _ _ h.c0,(g2 1 oM).trans h.c1,(g2 2 oM).trans h.c2,(g2 3 oM).trans h.c3,(g2 4 oM).trans h.c4,fun j=>by rw[World.frozen?_setCell];exact h.cf j⟩
theorem Lx.set1 (h:Lx w p wr ao n cap fr ok ne lo) (fr':Int):Lx w p (wr.setCell ⟨p,1,none⟩ (.int .i64 fr')) ao n cap fr' ok ne lo:=by
 obtain⟨_,hb,g1,g2⟩:=h.put 1 (.int .i64 fr')
 exact⟨hb,(g1 0).trans h.r0,(g1 1).trans h.r1,(g1 2).trans h.r2,(g1 3).trans h.r3,(g1 4).trans h.r4,fun j=>by rw[World.frozen?_setCell];exact h.rf j,h.ge,by simpa using h.lt,(g2 0 oM).trans h.c0,World.cell?_setCell_same _ _ _ h.c1,(g2 2 oM).trans h.c2,(g2 3 oM).trans h.c3,(g2 4 oM).trans h.c4,fun j=>by rw[World.frozen?_setCell];exact h.cf j⟩
theorem Lx.set3 (h:Lx w p wr ao n cap fr ok ne lo) (ne':Int):Lx w p (wr.setCell ⟨p,3,none⟩ (.int .i64 ne')) ao n cap fr ok ne' lo:=by
 obtain⟨_,hb,g1,g2⟩:=h.put 3 (.int .i64 ne')
 exact⟨hb,(g1 0).trans h.r0,(g1 1).trans h.r1,(g1 2).trans h.r2,(g1 3).trans h.r3,(g1 4).trans h.r4,fun j=>by rw[World.frozen?_setCell];exact h.rf j,h.ge,by simpa using h.lt,(g2 0 oM).trans h.c0,(g2 1 oM).trans h.c1,(g2 2 oM).trans h.c2,World.cell?_setCell_same _ _ _ h.c3,(g2 4 oM).trans h.c4,fun j=>by rw[World.frozen?_setCell];exact h.cf j⟩
theorem Lx.set4 (h:Lx w p wr ao n cap fr ok ne lo) (lo':Bool):Lx w p (wr.setCell ⟨p,4,none⟩ (.bool lo')) ao n cap fr ok ne lo':=by
 obtain⟨_,hb,g1,g2⟩:=h.put 4 (.bool lo')
 exact⟨hb,(g1 0).trans h.r0,(g1 1).trans h.r1,(g1 2).trans h.r2,(g1 3).trans h.r3,(g1 4).trans h.r4,fun j=>by rw[World.frozen?_setCell];exact h.rf j,h.ge,by simpa using h.lt,(g2 0 oM).trans h.c0,(g2 1 oM).trans h.c1,(g2 2 oM).trans h.c2,(g2 3 oM).trans h.c3,World.cell?_setCell_same _ _ _ h.c4,fun j=>by rw[World.frozen?_setCell];exact h.cf j⟩
end
theorem Own.box {α:Type}{et z:Nat}{Q:World->List Value->α->List Nat->Prop}(L:Lives Q) {w:World}{v:Value}{c:List α}{F:List Nat}{B p j:Nat}(h:Own et z Q w v c F) (hi:Inb B w F) (hp:p ∉ F) (u:Value):Own et z Q (w.setCell ⟨p,j,none⟩ u) v c F/\Inb B (w.setCell ⟨p,j,none⟩ u) F :=
 ⟨h.grown L hi (grown_one p j u (World.grownBy.refl _ _)) (fun b hb=>by cases hb;exact hp),hi.up (Nat.le_refl _) sI⟩
theorem OwS.join {w:World}{ve:Value}{ce cl:List Pl.Sv}{F G:List Nat}{ao:Option Addr}{cap B:Nat}(h:OwS w ve ce F) (hi:Inb B w F) (k:OwS w (.slice ao cl.length cap) cl G) (ki:Inb B w G) (hne:cl ≠ []) (hd:∀x∈G,x ∉ F) (hbd:ce.length+cl.length<=16777216) (hB:B<=w.heap.size) (ty:TypeId) :
  ∃v' w' F',(Builtin.append_ #[40,40] ty #[ve,.slice ao cl.length cap]).run Tryz.prog w=.ok v' w'/\OwS w' v' (ce++cl) F'/\Inb B w' F'/\w.grownBy w' ve.ownBlock/\∀x∈F',x∈F\/x∈G\/x=w.heap.size:=by
 obtain⟨g,cap',xs,fp,e,rfl,hl,hq,hnd,hlt,hcell,_⟩:=k.cells hne
 cases e
 rw[List.nodup_cons] at hnd
 have hlen:=hq.len Qs.len
 obtain⟨v',w',F',h1,h2,h3,h4,h5,h6⟩:=h.append el34 Qs.lives hi hq (fun b hb=>ki b (List.mem_cons_of_mem _ hb)) hnd.2 (fun x hx=>hd x (List.mem_cons_of_mem _ hx)) hl (b:=g) (off:=0) (cap:=cap) (fun j u hu=>by rw[Nat.zero_add];exact hcell j u hu) hlen.2 hbd hB ty
 exact⟨v',w',F',h1,h2,h3,h4,fun x hx=>by rcases h6 x hx with h | h | h;exact .inl h;exact .inr (.inl (List.mem_cons_of_mem _ h));exact .inr (.inr h)⟩
theorem OwS.push {w:World}{ve:Value}{ce:List Pl.Sv}{F:List Nat}{q z B:Nat}{k:Int}{nm:List UInt8}{f:Pl.Fnv}{cap:Nat}(h:OwS w ve ce F) (hi:Inb B w F) (hz:Own 3 1 Qi w (.slice (some ⟨z,0,none⟩) 0 0) [] [z]) (hzF:z ∉ F) (hzB:B<=z/\z<w.heap.size)
  (hc:∀j u,[Value.int .i64 k,.slice (some ⟨z,0,none⟩) 0 0,.string (Pl.ba nm),.int .i64 f.k,.int .i64 f.a,.int .i64 f.b,.string (Pl.ba f.nm)][j]? = some u->w.cell? ⟨q,0+j,none⟩=some u) (hbd:ce.length+1<=16777216) (hB:B<=w.heap.size) (ty:TypeId) :
  ∃v' w' F',(Builtin.append_ #[40,40] ty #[ve,.slice (some ⟨q,0,none⟩) 1 cap]).run Tryz.prog w=.ok v' w'/\OwS w' v' (ce++[⟨k,[],nm,f⟩]) F'/\Inb B w' F'/\w.grownBy w' ve.ownBlock/\∀x∈F',x∈F\/x=z\/x=w.heap.size:=by
 obtain⟨v',w',F',h1,h2,h3,h4,h5,h6⟩:=h.append el34 Qs.lives hi (d:=[⟨k,[],nm,f⟩]) (G:=[z]) (ys:=[Value.int .i64 k,.slice (some ⟨z,0,none⟩) 0 0,.string (Pl.ba nm),.int .i64 f.k,.int .i64 f.a,.int .i64 f.b,.string (Pl.ba f.nm)]) (RowQ.one ⟨_,rfl,hz⟩) (fun b hb=>by simp at hb;subst hb;exact hzB) sI (fun x hx=>by simp at hx;subst hx;exact hzF) rfl (b:=q) (off:=0) (cap:=cap) hc (fun u hu=>by
  simp only[List.mem_cons,List.not_mem_nil,or_false] at hu
  rcases hu with rfl|rfl|rfl|rfl|rfl|rfl|rfl <;> rfl) hbd hB ty
 exact⟨v',w',F',h1,h2,h3,h4,fun x hx=>by rcases h6 x hx with h | h | h;exact .inl h;simp at h;exact .inr (.inl h);exact .inr (.inr h)⟩
theorem exec_f63_0 {o:Oper}{a:Act}(x:Operand) (b:Nat) (ho:o.op=Op.fieldAddr 75 x 0) (hx:a.eval x=.pointer (some ⟨b,0,none⟩)) (w:World):(execOp a.eval o).run Tryz.prog w=.ok (.value (.pointer (some ⟨b,0,none⟩))) w:=by
 simp only[execOp,ho,hx]
 go_simp
theorem exec_load34 {o:Oper}{a:Act}(x:Operand) (b j:Nat) (ao:Option Addr) (n cap:Nat) (w:World) (ho:o.op=Op.load 40 x) (hx:a.eval x=.pointer (some ⟨b,j,none⟩)) (d:w.cell? ⟨b,j,none⟩=some (.slice ao n cap)):(execOp a.eval o).run Tryz.prog w=.ok (.value (.slice ao n cap)) w:=by
 simp only[execOp,ho,hx]
 go_simp
theorem exec_app34 {o:Oper}{a:Act}(x y:Operand) (v u r:Value) (w w':World) (ho:o.op=Op.call { callee:=.builtin .append,args:=#[x,y],argTypes:=#[40,40] }) (hx:a.eval x=v) (hy:a.eval y=u) (hr:(Builtin.append_ #[40,40] o.type #[v,u]).run Tryz.prog w=.ok r w'):(execOp a.eval o).run Tryz.prog w=.ok (.value r) w':=by
 simp[execOp,ho,hx,hy,resolve,invoke,builtin,hr,Result.andThen]
theorem exec_bs77 {o:Oper}{a:Act}(ho:o.op=Op.buildSlice 86 0 #[]) (w:World):(execOp a.eval o).run Tryz.prog w=.ok (.value (.slice (some ⟨w.heap.size,0,none⟩) 0 0)) (w.alloc (.cells #[] 3)):=by
 simp[execOp,ho]
 go_simp
theorem exec_build81 {o:Oper}{a:Act}(c x y:Operand) (z:Nat) (k fk fa fb:Int) (fn:ByteArray) (ho:o.op=Op.build 90 #[(0,c),(1,x),(3,y)]) (hc:a.eval c=.int .i64 k) (hx:a.eval x=.slice (some ⟨z,0,none⟩) 0 0) (hy:a.eval y=.agg #[.int .i64 fk,.int .i64 fa,.int .i64 fb,.string fn]) (w:World):(execOp a.eval o).run Tryz.prog w=.ok (.value (.agg #[.int .i64 k,.slice (some ⟨z,0,none⟩) 0 0,.string ⟨#[]⟩,.int .i64 fk,.int .i64 fa,.int .i64 fb,.string fn])) w:=by
 simp[execOp,ho,hc,hx,hy]
 go_simp
theorem exec_bs34 {o:Oper}{a:Act}(x:Operand) (z:Nat) (k fk fa fb:Int) (fn:ByteArray) (ho:o.op=Op.buildSlice 40 1 #[(0,x)]) (hx:a.eval x=.agg #[.int .i64 k,.slice (some ⟨z,0,none⟩) 0 0,.string ⟨#[]⟩,.int .i64 fk,.int .i64 fa,.int .i64 fb,.string fn]) (w:World):(execOp a.eval o).run Tryz.prog w=.ok (.value (.slice (some ⟨w.heap.size,0,none⟩) 1 1)) (w.alloc (.cells #[.int .i64 k,.slice (some ⟨z,0,none⟩) 0 0,.string ⟨#[]⟩,.int .i64 fk,.int .i64 fa,.int .i64 fb,.string fn] 90)):=by
 simp[execOp,ho,hx]
 go_simp
theorem exec_bs34' {o:Oper}{a:Act}(x:Operand) (z q:Nat) (k fk fa fb:Int) (fn:ByteArray) (ho:o.op=Op.buildSlice 40 1 #[(0,x)]) (hx:a.eval x=.agg #[.int .i64 k,.slice (some ⟨z,0,none⟩) 0 0,.string ⟨#[]⟩,.int .i64 fk,.int .i64 fa,.int .i64 fb,.string fn]) (w:World) (hq:q=w.heap.size):(execOp a.eval o).run Tryz.prog w=.ok (.value (.slice (some ⟨q,0,none⟩) 1 1)) (w.alloc (.cells #[.int .i64 k,.slice (some ⟨z,0,none⟩) 0 0,.string ⟨#[]⟩,.int .i64 fk,.int .i64 fa,.int .i64 fb,.string fn] 90)):=by
 subst hq
 exact exec_bs34 x z k fk fa fb fn ho hx w
theorem exec_store34 {o:Oper}{a:Act}(x y:Operand) (b j:Nat) (u:Value) (ao:Option Addr) (n cap:Nat) (w:World) (ho:o.op=Op.store 40 x y) (hx:a.eval x=.pointer (some ⟨b,j,none⟩)) (hy:a.eval y=.slice ao n cap) (d:w.cell? ⟨b,j,none⟩=some u) (hf:w.frozen? ⟨b,j,none⟩=false):(execOp a.eval o).run Tryz.prog w=.ok .skip (w.setCell ⟨b,j,none⟩ (.slice ao n cap)):=by
 simp only[execOp,ho,hx,hy]
 go_simp
theorem step_two {P:Program}{md:Region.Mode}{ops:Array Oper}{Q:Exit->Act->World->Prop}{S:World->Prop}{fuel:Nat}{listed:Array Bool}{i j:Nat}{o o2:Oper}{a:Act}{w w' w2:World}(hr:Region.ready md ops listed=[i,j]) (ho:ops[i]? = some o) (hg:o.guard=none) (v:Value) (h:(execOp a.eval o).run P w=.ok (.value v) w') (hS:S w')
  (ho2:ops[j]? = some o2) (hg2:o2.guard=none) (v2:Value) (h2:(execOp a.eval o2).run P w=.ok (.value v2) w2) (hS2:S w2)
  (hN:wpAnyH P md ops Q S fuel (listed.setIfInBounds i true) (a.put o.dst v) w') (hN2:wpAnyH P md ops Q S fuel (listed.setIfInBounds j true) (a.put o2.dst v2) w2):wpAnyH P md ops Q S (fuel+1) listed a w :=
 wpAnyH_ready hr sI (AllReadyH.cons ho (fun K hK=>ready_valq hg v h (hK.out _ _ hS (fun _=>hN))) (AllReadyH.cons ho2 (fun K hK=>ready_valq hg2 v2 h2 (hK.out _ _ hS2 (fun _=>hN2))) AllReadyH.nil))
structure Sx (s p3 p6 p7:Nat) (W:World) (ae al:Option Addr) (ne nl ce cl:Nat) (f:Pl.Fq):Prop where
 c3:W.cell? ⟨p3,0,none⟩=some (.slice ae ne ce)
 c7:W.cell? ⟨p7,0,none⟩=some (.slice al nl cl)
 f0:W.cell? ⟨p6,0,none⟩=some (.int .i64 f.1)
 f1:W.cell? ⟨p6,1,none⟩=some (.int .i64 f.2.1)
 f2:W.cell? ⟨p6,2,none⟩=some (.int .i64 f.2.2.1)
 f3:W.cell? ⟨p6,3,none⟩=some (.string f.2.2.2)
 l3:p3<W.heap.size
 l6:p6<W.heap.size
 l7:p7<W.heap.size
theorem Sx.same {s p3 p6 p7:Nat}{W W':World}{ae al:Option Addr}{ne nl ce cl:Nat}{f:Pl.Fq}(h:Sx s p3 p6 p7 W ae al ne nl ce cl f) (h3:W'.heap[p3]? = W.heap[p3]?) (h6:W'.heap[p6]? = W.heap[p6]?) (h7:W'.heap[p7]? = W.heap[p7]?) (hs:W.heap.size<=W'.heap.size):Sx s p3 p6 p7 W' ae al ne nl ce cl f :=
 ⟨(World.cell?_of_block (a:=⟨p3,0,none⟩) h3).trans h.c3,(World.cell?_of_block (a:=⟨p7,0,none⟩) h7).trans h.c7,(World.cell?_of_block (a:=⟨p6,0,none⟩) h6).trans h.f0,(World.cell?_of_block (a:=⟨p6,1,none⟩) h6).trans h.f1,(World.cell?_of_block (a:=⟨p6,2,none⟩) h6).trans h.f2,(World.cell?_of_block (a:=⟨p6,3,none⟩) h6).trans h.f3,Nat.lt_of_lt_of_le h.l3 hs,Nat.lt_of_lt_of_le h.l6 hs,Nat.lt_of_lt_of_le h.l7 hs⟩
theorem Sx.alloc {s p3 p6 p7:Nat}{W:World}{ae al:Option Addr}{ne nl ce cl:Nat}{f:Pl.Fq}(h:Sx s p3 p6 p7 W ae al ne nl ce cl f) (o:Obj):Sx s p3 p6 p7 (W.alloc o) ae al ne nl ce cl f :=
 h.same (Below.heap_alloc _ _ _ h.l3) (Below.heap_alloc _ _ _ h.l6) (Below.heap_alloc _ _ _ h.l7) sI
theorem Sx.grown {s p3 p6 p7:Nat}{W W':World}{ae al:Option Addr}{ne nl ce cl:Nat}{f:Pl.Fq}(h:Sx s p3 p6 p7 W ae al ne nl ce cl f) {r:Option Nat}(hg:W.grownBy W' r) (hr:∀b,r=some b->b ≠ p3/\b ≠ p6/\b ≠ p7):Sx s p3 p6 p7 W' ae al ne nl ce cl f :=
 h.same (hg.block _ h.l3 (fun e=>(hr _ e.symm).1 rfl)) (hg.block _ h.l6 (fun e=>(hr _ e.symm).2.1 rfl)) (hg.block _ h.l7 (fun e=>(hr _ e.symm).2.2 rfl)) hg.size
structure CdR (w w':World) (B:Nat) (sv v':Value) (c:List Pl.Sv) (F0 F F':List Nat):Prop where
 o:OwS w' v' c F'
 i:Inb B w' F'
 g:w.grownBy w' sv.ownBlock
 f:∀x∈F',x∈F0\/x∈F\/w.heap.size<=x
 b:∀b,v'.ownBlock=some b->sv.ownBlock=some b\/w.heap.size<=b
theorem CdR.refl {w:World}{B:Nat}{sv:Value}{c:List Pl.Sv}{F0:List Nat}(h:OwS w sv c F0) (hi:Inb B w F0):CdR w w B sv sv c F0 [] F0 :=
 ⟨h,hi,World.grownBy.refl _ _,fun x hx=>.inl hx,fun b hb=>.inl hb⟩
theorem CdR.alloc {w w':World}{B:Nat}{sv v':Value}{c:List Pl.Sv}{F0 F F':List Nat}(h:CdR w w' B sv v' c F0 F F') (o:Obj):CdR w (w'.alloc o) B sv v' c F0 F F' :=
 ⟨h.o.below Qs.lives h.i ((Below.refl w'.heap.size w').alloc (Nat.le_refl _) o) (Nat.le_refl _),h.i.up (Nat.le_refl _) sI,grown_alloc h.g o,h.f,h.b⟩
theorem CdR.drew {w w':World}{B:Nat}{sv v':Value}{c:List Pl.Sv}{F0 F F':List Nat}(h:CdR w w' B sv v' c F0 F F') (hd:Below w'.heap.size w' w'.drew):CdR w w'.drew B sv v' c F0 F F' :=
 ⟨h.o.below Qs.lives h.i hd (Nat.le_refl _),h.i.up (Nat.le_refl _) hd.size,grown_then h.g hd h.g.size,h.f,h.b⟩
theorem CdR.trans {w X Y:World}{B:Nat}{sv v1 v2:Value}{c1 c2:List Pl.Sv}{F0 F1 F2 Fa Fb:List Nat}(h:CdR w X B sv v1 c1 F0 F1 Fa) (k:CdR X Y B v1 v2 c2 Fa F2 Fb):CdR w Y B sv v2 c2 F0 (F1++F2) Fb:=by
 have hs:=h.g.size
 refine⟨k.o,k.i,⟨k.g.os.trans h.g.os,k.g.tape.trans h.g.tape,k.g.output.trans h.g.output,Nat.le_trans hs k.g.size,fun q hq hn=>(k.g.block q oM (fun e=>?_)).trans (h.g.block q hq hn)⟩,fun x hx=>?_,fun b hb=>?_⟩
 ·rcases h.b q e.symm with r|r
  ·exact hn r.symm
  omega
 ·rcases k.f x hx with r|r|r
  ·rcases h.f x r with s|s|s
   ·exact .inl s
   ·exact .inr (.inl (List.mem_append_left _ s))
   exact .inr (.inr s)
  ·exact .inr (.inl (List.mem_append_right _ r))
  exact .inr (.inr oM)
 rcases k.b b hb with r|r
 ·exact h.b b r
 exact .inr oM
theorem CdR.mem {w w':World}{B:Nat}{sv v':Value}{c c':List Pl.Sv}{F0 F G F':List Nat}(h:CdR w w' B sv v' c F0 F F') (hc:c=c') (hG:∀x∈F,x∈G\/w.heap.size<=x):CdR w w' B sv v' c' F0 G F':=by
 subst hc
 refine⟨h.o,h.i,h.g,fun x hx=>?_,h.b⟩
 rcases h.f x hx with r|r|r
 ·exact .inl r
 ·rcases hG x r with s|s
  ·exact .inr (.inl s)
  exact .inr (.inr s)
 exact .inr (.inr r)
theorem CdR.from_ {w X w':World}{B:Nat}{sv v':Value}{c:List Pl.Sv}{F0 F F':List Nat}(h:CdR X w' B sv v' c F0 F F') (hb:Below w.heap.size w X):CdR w w' B sv v' c F0 F F':=by
 have hs:=hb.size
 refine⟨h.o,h.i,⟨h.g.os.trans hb.os,h.g.tape.trans hb.tape,h.g.output.trans hb.output,Nat.le_trans hs h.g.size,fun q hq hn=>(h.g.block q oM hn).trans (hb.block q hq)⟩,fun x hx=>?_,fun b hb'=>?_⟩
 ·rcases h.f x hx with r|r|r
  ·exact .inl r
  ·exact .inr (.inl r)
  exact .inr (.inr oM)
 rcases h.b b hb' with r|r
 ·exact .inl r
 exact .inr oM
theorem OwS.more {w:World}{sv:Value}{c:List Pl.Sv}{F0 G:List Nat}{ys:List Value}{s:Pl.Sv}{q off B cap:Nat}(h:OwS w sv c F0) (hi:Inb B w F0) (hq:Qs w ys s G) (hG:Inb B w G) (hn:G.Nodup) (hd:∀x∈G,x ∉ F0) (hc:∀j u,ys[j]? = some u->w.cell? ⟨q,off+j,none⟩=some u) (hbd:c.length+1<=16777216) (hB:B<=w.heap.size) (ty:TypeId) :
  ∃v' w' F',(Builtin.append_ #[40,40] ty #[sv,.slice (some ⟨q,off,none⟩) 1 cap]).run Tryz.prog w=.ok v' w'/\CdR w w' B sv v' (c++[s]) F0 G F':=by
 obtain⟨v',w',F',h1,h2,h3,h4,h5,h6⟩:=Own.append el34 Qs.lives h hi (RowQ.one hq) hG hn hd (by simpa using hq.len.1) hc hq.len.2 (by simpa using hbd) hB (cap:=cap) ty
 refine⟨v',w',F',h1,h2,h3,h4,fun x hx=>?_,fun b hb=>?_⟩
 ·rcases h6 x hx with r|r|r
  ·exact .inl r
  ·exact .inr (.inl r)
  exact .inr (.inr oM)
 rcases h5 with r|r
 ·exact .inl (r ▸ hb)
 rw[r] at hb;cases hb;exact .inr (Nat.le_refl _)
theorem wpList_more (w:World) {ops:Array Oper}{rest:List Oper}{o:Oper}{a:Act}{R:Exit->Act->World->Prop}(hg:o.guard=none) (s x:Operand)
  (hop:o.op=Op.call { callee:=Callee.builtin Builtin.append,args:=#[s,x],argTypes:=#[40,40] }) (v:Value) (q off cap:Nat) (hs:a.eval s=v) (hx:a.eval x=.slice (some ⟨q,off,none⟩) 1 cap) (c:List Pl.Sv) (t:Pl.Sv) (F G:List Nat) (ys:List Value) (B:Nat)
  (h:OwS w v c F) (hi:Inb B w F) (hq:Qs w ys t G) (hG:Inb B w G) (hn:G.Nodup) (hd:∀x∈G,x ∉ F) (hc:∀j u,ys[j]? = some u->w.cell? ⟨q,off+j,none⟩=some u) (hbd:c.length+1<=16777216) (hB:B<=w.heap.size)
  (hK:∀v' w' F',CdR w w' B v v' (c++[t]) F G F'->wpList Tryz.prog ops R rest (a.put o.dst v') w'):wpList Tryz.prog ops R (o::rest) a w:=by
 obtain⟨v',w',F',hr,h1⟩:=OwS.more h hi hq hG hn hd hc hbd hB (cap:=cap) o.type
 exact wpList_append_eq w w' hg s x _ hop v _ v' hs hx hr (hK v' w' F' h1)
theorem code_nums (X:World) (B:Nat) (sn sv:Value) (ns:List Int) (F F0:List Nat) (c0:List Pl.Sv) (hN:Own 3 1 Qi X sn ns F) (hF:Inb B X F) (hS:OwS X sv c0 F0) (hF0:Inb B X F0) (hd:∀x∈F,x ∉ F0) (hbd:c0.length+1<=16777216) (hB:B<=X.heap.size) :
  Calls Tryz.prog 180 #[.agg #[sn],sv] X fun e w'=>∃v' F',e=.returned v'/\CdR X w' B sv v' (c0++[⟨1,ns,[],Pl.f0⟩]) F0 F F':=by
 obtain⟨ao,cap,rfl⟩:=hN.slice
 obtain⟨ao0,cap0,rfl⟩:=hS.slice
 have HN:=zH hN
 have HS:=zH hS
 have HF:=zH hF
 have HF0:=zH hF0
 have HD:=zH hd
 clear hN hS hF hF0 hd
 generalize hl:ns.length=nl at *
 generalize hc:c0.length=cl at *
 go_enter Tryz.func180,Tryz.ntmps180
 have hb:Below X.heap.size X ((X.alloc (.cells #[.slice ao nl cap] 160)).alloc (.cells #[.int .i64 1,.slice ao nl cap,.string ⟨#[]⟩,.int .i64 0,.int .i64 0,.int .i64 0,.string ⟨#[]⟩] 90)):=((Below.refl _ _).alloc (Nat.le_refl _) _).alloc sI _
 go_wp2_with (at_builtin;refine wpList_more _ rfl _ _ rfl _ _ _ _ rfl rfl c0 ⟨1,ns,[],Pl.f0⟩ F0 F [.int .i64 1,.slice ao nl cap,.string ⟨#[]⟩,.int .i64 0,.int .i64 0,.int .i64 0,.string ⟨#[]⟩] B ?ho ?hi ?hy ?hG ?hn ?hd ?hc ?hbd ?hB ?_)
 case ho=>exact HS.out.below Qs.lives HF0.out hb (Nat.le_refl _)
 case hi=>exact HF0.out.up (Nat.le_refl _) hb.size
 case hy=>exact⟨_,rfl,HN.out.below Qi.lives HF.out hb (Nat.le_refl _)⟩
 case hG=>exact HF.out.up (Nat.le_refl _) hb.size
 case hn=>obtain⟨_,_,_,_,_,hn⟩:=HN.out;exact hn
 case hd=>exact HD.out
 case hc=>exact cells_new (l:=[.int .i64 1,.slice ao nl cap,.string ⟨#[]⟩,.int .i64 0,.int .i64 0,.int .i64 0,.string ⟨#[]⟩]) sI
 case hbd=>omega
 case hB=>simp;omega
 intro v9 w9 F9 h9
 have H9:=zH (h9.from_ hb)
 have hone:=h9.o.one
 clear h9 hb HN HS
 go_wp2_with fail
 refine bodyPost_ret (v:=v9) (by simp[results,Tryz.results180,go_sem]) rfl ⟨v9,F9,rfl,H9.out⟩
theorem code_name (X:World) (B:Nat) (sv:Value) (nm:List UInt8) (F0:List Nat) (c0:List Pl.Sv) (hS:OwS X sv c0 F0) (hF0:Inb B X F0) (hbd:c0.length+1<=16777216) (hB:B<=X.heap.size) :
  Calls Tryz.prog 183 #[.agg #[.string (Pl.ba nm)],sv] X fun e w'=>∃v' F',e=.returned v'/\CdR X w' B sv v' (c0++[⟨2,[],nm,Pl.f0⟩]) F0 [] F':=by
 obtain⟨ao0,cap0,rfl⟩:=hS.slice
 have HS:=zH hS
 have HF0:=zH hF0
 clear hS hF0
 generalize hc:c0.length=cl at *
 go_enter Tryz.func183,Tryz.ntmps183
 have hb:Below X.heap.size X ((X.alloc (.cells #[.string (Pl.ba nm)] 162)).alloc (.cells #[.int .i64 2,.slice none 0 0,.string (Pl.ba nm),.int .i64 0,.int .i64 0,.int .i64 0,.string ⟨#[]⟩] 90)):=((Below.refl _ _).alloc (Nat.le_refl _) _).alloc sI _
 go_wp2_with (at_builtin;refine wpList_more _ rfl _ _ rfl _ _ _ _ rfl rfl c0 ⟨2,[],nm,Pl.f0⟩ F0 [] [.int .i64 2,.slice none 0 0,.string (Pl.ba nm),.int .i64 0,.int .i64 0,.int .i64 0,.string ⟨#[]⟩] B ?ho ?hi ?hy ?hG ?hn ?hd ?hc ?hbd ?hB ?_)
 case ho=>exact HS.out.below Qs.lives HF0.out hb (Nat.le_refl _)
 case hi=>exact HF0.out.up (Nat.le_refl _) hb.size
 case hy=>exact⟨_,rfl,Own.nil _⟩
 case hG=>exact Inb.nil _ _
 case hn=>exact List.nodup_nil
 case hd=>simp
 case hc=>exact cells_new (l:=[.int .i64 2,.slice none 0 0,.string (Pl.ba nm),.int .i64 0,.int .i64 0,.int .i64 0,.string ⟨#[]⟩]) sI
 case hbd=>omega
 case hB=>simp;omega
 intro v9 w9 F9 h9
 have H9:=zH (h9.from_ hb)
 have hone:=h9.o.one
 clear h9 hb HS
 go_wp2_with fail
 refine bodyPost_ret (v:=v9) (by simp[results,Tryz.results183,go_sem]) rfl ⟨v9,F9,rfl,H9.out⟩
structure Kx (w w':World) (A:List Nat):Prop where
 os:w'.os=w.os
 tape:w'.tape=w.tape
 output:w'.output=w.output
 size:w.heap.size<=w'.heap.size
 block:∀k,k<w.heap.size->k ∉ A->w'.heap[k]? = w.heap[k]?
theorem Kx.refl (w:World) (A:List Nat):Kx w w A:=⟨rfl,rfl,rfl,Nat.le_refl _,fun _ _ _=>rfl⟩
theorem Kx.trans {w w1 w2:World}{A A':List Nat}(h:Kx w w1 A) (k:Kx w1 w2 A') (hA:∀x∈A',x∈A\/w.heap.size<=x):Kx w w2 A :=
 ⟨k.os.trans h.os,k.tape.trans h.tape,k.output.trans h.output,Nat.le_trans h.size k.size,fun q hq hn=>(k.block q (Nat.lt_of_lt_of_le hq h.size) (fun hm=>by rcases hA q hm with r | r;exact hn r;omega)).trans (h.block q hq hn)⟩
theorem Kx.grown {w w':World}{r:Option Nat}{A:List Nat}(h:w.grownBy w' r) (hA:∀b,r=some b->b∈A):Kx w w' A:=⟨h.os,h.tape,h.output,h.size,fun k hk hn=>h.block k hk (fun e=>hn (hA k e.symm))⟩
theorem Kx.below {w w':World}(h:Below w.heap.size w w') (A:List Nat):Kx w w' A:=⟨h.os,h.tape,h.output,h.size,fun k hk _=>h.block k hk⟩
theorem Kx.by_ {w w':World}{P:Nat}(h:Kx w w' [P]):w.grownBy w' (some P):=⟨h.os,h.tape,h.output,h.size,fun k hk hn=>h.block k hk (fun hm=>hn (by simp at hm;simp[hm]))⟩
theorem Kx.alloc {w w':World}{A:List Nat}(h:Kx w w' A) (o:Obj):Kx w (w'.alloc o) A:=h.trans (Kx.below ((Below.refl _ _).alloc (Nat.le_refl _) o) []) sI
theorem Kx.set {w w':World}{A:List Nat}(h:Kx w w' A) (s j:Nat) (v:Value) (hs:s∈A\/w.heap.size<=s):Kx w (w'.setCell ⟨s,j,none⟩ v) A :=
 h.trans (A':=[s]) ⟨rfl,rfl,rfl,by simp,fun k hk hn=>heap_setCell_other _ ⟨s,j,none⟩ _ _ (by simpa using hn)⟩ (fun x hx=>by simp at hx;subst hx;exact hs)
theorem Kx.cell {w w':World}{A:List Nat}(h:Kx w w' A) {s j:Nat}{u:Value}(hs:s<w.heap.size) (hA:s ∉ A) (hc:w.cell? ⟨s,j,none⟩=some u):w'.cell? ⟨s,j,none⟩=some u:=(World.cell?_of_block (a:=⟨s,j,none⟩) (h.block s hs hA)).trans hc
theorem Kx.froz {w w':World}{A:List Nat}(h:Kx w w' A) {s j:Nat}(hs:s<w.heap.size) (hA:s ∉ A) (hc:w.frozen? ⟨s,j,none⟩=false):w'.frozen? ⟨s,j,none⟩=false:=(World.frozen?_of_block (a:=⟨s,j,none⟩) (h.block s hs hA)).trans hc
theorem Rr.kx {B P:Nat}{w w':World}{bs:List Nat}{pos:Nat}{A:List Nat}(h:Rr B P w bs pos) (k:Kx w w' A) (hA:∀x∈A,B<=x/\x ≠ P):Rr B P w' bs pos :=
 h.same ⟨k.os,k.tape,k.output,k.size,fun q hq=>k.block q (by have:=h.bp;have:=h.lt;omega) (fun hm=>by have:=(hA q hm).1;omega)⟩ (k.block P h.lt (fun hm=>(hA P hm).2 rfl))
structure Dn {α:Type}(et z:Nat) (Q:World->List Value->α->List Nat->Prop) (B P:Nat) (w0 w:World) (bs:List Nat) (pos:Nat) (F0:List Nat) (v:Value) (c:List α) (F:List Nat):Prop where
 r:Rr B P w bs pos
 o:Own et z Q w v c F
 i:Inb B w F
 p:P ∉ F
 k:Kx w0 w (P::F0)
 f:∀x∈F,x∈F0\/w0.heap.size<=x
section
variable {α:Type} {et z:Nat} {Q:World->List Value->α->List Nat->Prop} {B P:Nat} {w0 w:World} {bs:List Nat} {pos:Nat} {F0:List Nat} {v:Value} {c:List α} {F:List Nat}
theorem Dn.kx (L:Lives Q) (h:Dn et z Q B P w0 w bs pos F0 v c F) {w':World}{pos':Nat}{A:List Nat}(r:Rr B P w' bs pos') (k:Kx w w' A) (hA:∀x∈A,x=P\/(x ∉ F/\w0.heap.size<=x)):Dn et z Q B P w0 w' bs pos' F0 v c F :=
 ⟨r,h.o.keep L (fun b hb=>k.block b (h.i b hb).2 (fun hm=>by rcases hA b hm with rfl | q;exact h.p hb;exact q.1 hb)),h.i.up (Nat.le_refl _) k.size,h.p,h.k.trans k (fun x hx=>by rcases hA x hx with rfl | q;exact .inl sI;exact .inr q.2),h.f⟩
theorem Dn.dw (L:Lives Q) (h:Dn et z Q B P w0 w bs pos F0 v c F) {w':World}{pos':Nat}(d:Dw B P w w' bs pos'):Dn et z Q B P w0 w' bs pos' F0 v c F :=
 h.kx L d.r (Kx.grown (A:=[P]) d.g sI) sI
theorem Dn.below (L:Lives Q) (h:Dn et z Q B P w0 w bs pos F0 v c F) {w':World}(d:Below w.heap.size w w'):Dn et z Q B P w0 w' bs pos F0 v c F :=
 h.kx L (h.r.keep d) (Kx.below d []) sI
theorem Dn.alloc (L:Lives Q) (h:Dn et z Q B P w0 w bs pos F0 v c F) (o:Obj):Dn et z Q B P w0 (w.alloc o) bs pos F0 v c F:=h.below L ((Below.refl _ _).alloc (Nat.le_refl _) o)
theorem Dn.app (h:Dn et z Q B P w0 w bs pos F0 v c F) {w':World}{v':Value}{c':List α}{F' G:List Nat}(o:Own et z Q w' v' c' F') (i:Inb B w' F') (g:w.grownBy w' v.ownBlock) (hF:∀x∈F',x∈F\/x∈G\/x=w.heap.size) (hG:∀x∈G,x ≠ P/\(x∈F0\/w0.heap.size<=x)):Dn et z Q B P w0 w' bs pos F0 v' c' F':=by
 have hk:Kx w w' v.ownBlock.toList:=Kx.grown g sI
 have ho:∀b,v.ownBlock=some b->b∈F:=fun b hb=>(h.o.lt b hb).1
 refine⟨h.r.kx hk (fun x hx=>?_),o,i,fun hm=>?_,h.k.trans hk (fun x hx=>?_),fun x hx=>?_⟩
 ·have:=ho x (by simpa using hx)
  exact⟨(h.i x this).1,fun e=>h.p (e ▸ this)⟩
 ·rcases hF P hm with r|r|r
  ·exact h.p r
  ·exact(hG P r).1 rfl
  have:=h.r.lt;omega
 ·rcases h.f x (ho x (by simpa using hx)) with r|r
  ·exact .inl (by simp[r])
  exact .inr r
 rcases hF x hx with r|r|r
 ·exact h.f x r
 ·exact(hG x r).2
 exact .inr (by have:=h.k.size;omega)
end
theorem Dn.emp {α:Type}(et z:Nat) (Q:World->List Value->α->List Nat->Prop) {B P:Nat}{w0 w:World}{bs:List Nat}{pos:Nat}(r:Rr B P w bs pos) (k:Kx w0 w [P]) (s:Nat) (hs:s=w.heap.size):Dn et z Q B P w0 (w.alloc (.cells #[] et)) bs pos [] (.slice (some ⟨s,0,none⟩) 0 0) ([]:List α) [s]:=by
 subst hs
 have hb:=r.bp
 have hl:=r.lt
 have hz:=k.size
 exact⟨r.keep ((Below.refl _ _).alloc (Nat.le_refl _) _),Own.empty w,fun b hb=>by simp at hb;subst hb;exact⟨by omega,by simp⟩,by simp;omega,k.alloc _,fun x hx=>by simp at hx;subst hx;exact .inr oM⟩
theorem Dn.nil {α:Type}(et z:Nat) (Q:World->List Value->α->List Nat->Prop) {B P:Nat}{w0 w:World}{bs:List Nat}{pos:Nat}(r:Rr B P w bs pos) (k:Kx w0 w [P]):Dn et z Q B P w0 w bs pos [] (.slice none 0 0) ([]:List α) [] :=
 ⟨r,Own.nil w,Inb.nil _ _,by simp,k,by simp⟩
mutual
theorem Pl.E.code_ne:∀e:Pl.E,e.code ≠ []
 |.opd o=>Pl.O.code_ne o
 |.one f e=>by simp[Pl.E.code]
 |.two o f e=>by simp[Pl.E.code]
theorem Pl.O.code_ne:∀o:Pl.O,o.code ≠ []
 |.nums _ _=>by simp[Pl.O.code]
 |.name _=>by simp[Pl.O.code]
 |.br e=>Pl.E.code_ne e
end
def HF41:Prop:=∀(l:List Pl.Tok) (ao:Option Addr) (cap:Nat) (hi:Nat) (w:World),l.length<=1048576->1<=hi->hi<=l.length->(∀t∈l,Pl.kOk t.k)->RdK w.heap.size w ao l ->
  Calls Tryz.prog 53 #[.slice ao l.length cap,.int .i64 hi] w fun e w'=>e=.returned (.tuple #[.int .i64 (Pl.fnR (Pl.rfun (Pl.rv l hi))).1,agF (Pl.fnR (Pl.rfun (Pl.rv l hi))).2.1,agF (Pl.fnR (Pl.rfun (Pl.rv l hi))).2.2])/\Below w.heap.size w w'
def Far (l:List Pl.Tok) (N:Nat) (R:Option Pl.E) (e:Pl.E) (fr:Nat):Prop:=∃m,R=Pl.rloop m e (Pl.rv l fr)/\2 * fr+1<=m/\m<=N/\e.wf/\e.toks.length+fr=l.length
theorem Far.code {l:List Pl.Tok}{N:Nat}{R:Option Pl.E}{e:Pl.E}{fr:Nat}(h:Far l N R e fr):e.code.length+fr<=l.length/\e.nest+fr<=l.length:=by
 obtain⟨m,_,_,_,hw,hl⟩:=h
 have:=e.code_len hw
 have:=e.nest_len
 omega
theorem Far.done {l:List Pl.Tok}{N:Nat}{R:Option Pl.E}{e:Pl.E}(h:Far l N R e 0):R=some e:=by
 obtain⟨m,rfl,hm,_⟩:=h
 obtain⟨k,rfl⟩:∃k,m=k+1:=⟨m-1,by omega⟩
 rw[Pl.rv_zero,Pl.rloop,if_pos rfl]
theorem Pl.rv_ne {l:List Pl.Tok}{k:Nat}(h:k<l.length):¬Pl.rv l (k+1)=[]:=by rw[Pl.rv_succ h];simp
theorem Far.fail {l:List Pl.Tok}{N:Nat}{R:Option Pl.E}{e:Pl.E}{fr:Nat}(h:Far l N R e (fr+1)) (hf:Pl.rfun (Pl.rv l (fr+1))=none):R=none:=by
 obtain⟨m,rfl,hm,_,hw,hl⟩:=h
 obtain⟨k,rfl⟩:∃k,m=k+1:=⟨m-1,by omega⟩
 rw[Pl.rloop,if_neg (Pl.rv_ne oM),hf]
theorem Far.one {l:List Pl.Tok}{N:Nat}{R:Option Pl.E}{e:Pl.E}{fr:Nat}{f:Pl.F}{r:List Pl.T}(h:Far l N R e (fr+1)) (hf:Pl.rfun (Pl.rv l (fr+1))=some (f,r)) (he:Pl.ends r=false):(f.one.k=0->R=none)/\(¬f.one.k=0->Far l N R (.one f e) r.length):=by
 obtain⟨m,rfl,hm,hmN,hw,hl⟩:=h
 obtain⟨k,rfl⟩:∃k,m=k+1:=⟨m-1,by omega⟩
 obtain⟨h1,h2⟩:=Pl.rfun_at oM hf
 rw[Pl.rloop,if_neg (Pl.rv_ne oM),hf]
 simp only[he]
 refine⟨fun h=>by rw[if_pos h];rfl,fun h=>?_⟩
 have hb:=Pl.bad_one h
 have hs:=Pl.rfun_sound hf hb
 have hlen:=congrArg List.length hs.1
 rw[Pl.rv_len oM] at hlen
 simp at hlen
 refine⟨k,?_,by omega,by omega,⟨hs.2,h,hw⟩,?_⟩
 ·rw[if_neg h,<- h1];rfl
 rw[Pl.E.toks,List.length_append];omega
theorem Far.two {l:List Pl.Tok}{N:Nat}{R:Option Pl.E}{e:Pl.E}{fr:Nat}{f:Pl.F}{r:List Pl.T}(h:Far l N R e (fr+1)) (hf:Pl.rfun (Pl.rv l (fr+1))=some (f,r)) (he:Pl.ends r=true):∃k,2 * r.length<=k+1/\k+1<N/\(Pl.ropnd (k+1) (Pl.rv l r.length)=none->R=none)/\(f.two.k=0->R=none)/\(∀o r2,Pl.ropnd (k+1) (Pl.rv l r.length)=some (o,r2)->¬f.two.k=0->Far l N R (.two o f e) r2.length/\o.code.length<=1+l.length/\o.code ≠ []/\o.nest<=l.length/\r2.length<fr+1):=by
 obtain⟨m,rfl,hm,hmN,hw,hl⟩:=h
 obtain⟨k,rfl⟩:∃k,m=k+1+1:=⟨m-2,by omega⟩
 obtain⟨h1,h2⟩:=Pl.rfun_at oM hf
 refine⟨k,by omega,by omega,?_⟩
 have hr:Pl.rloop (k+1+1) e (Pl.rv l (fr+1))=match Pl.ropnd (k+1) r with | none=>none | some (o,r2)=>if f.two.k=0 then none else Pl.rloop (k+1) (.two o f e) r2:=by
  rw[Pl.rloop,if_neg (Pl.rv_ne oM),hf]
  simp only[he]
  rfl
 rw[hr,<- h1]
 refine⟨fun h=>by rw[h],fun h=>?_,fun o r2 ho h=>?_⟩
 ·cases Pl.ropnd (k+1) r with
  |none=>rfl
  |some q=>simp only;rw[if_pos h]
 have ho':=ho
 rw[h1] at ho'
 obtain⟨h3,h4,h5⟩:=Pl.ropnd_at oM ho'
 have hb:=Pl.bad_two h
 have hs:=Pl.rfun_sound hf hb
 have hlen:=congrArg List.length hs.1
 rw[Pl.rv_len oM] at hlen
 simp at hlen
 have hc:=o.code_len h5
 have hn:=o.nest_len
 refine⟨⟨k+1,?_,by omega,by omega,⟨h5,hs.2,h,hw⟩,?_⟩,by omega,?_,by omega,by omega⟩
 ·rw[ho]
  simp only
  rw[if_neg h,<- h3]
 ·rw[Pl.E.toks,List.length_append,List.length_append];omega
 exact o.code_ne
abbrev recF (k:Int) (z:Nat) (f:Pl.Fnv):List Value:=[.int .i64 k,.slice (some ⟨z,0,none⟩) 0 0,.string ⟨#[]⟩,.int .i64 f.k,.int .i64 f.a,.int .i64 f.b,.string (Pl.ba f.nm)]
abbrev objF (k:Int) (z:Nat) (f:Pl.Fnv):Obj:=.cells #[.int .i64 k,.slice (some ⟨z,0,none⟩) 0 0,.string ⟨#[]⟩,.int .i64 f.k,.int .i64 f.a,.int .i64 f.b,.string (Pl.ba f.nm)] 90
structure R9 (s:Nat) (X:World) (va:Value) (c:List Pl.Sv) (Fa:List Nat) (z q:Nat) (k:Int) (f:Pl.Fnv):Prop where
 o:OwS X va c Fa
 i:Inb (s+1) X Fa
 z1:Own 3 1 Qi X (.slice (some ⟨z,0,none⟩) 0 0) [] [z]
 zn:z ∉ Fa
 zb:s+1<=z/\z<X.heap.size
 rc:∀j u,(recF k z f)[j]? = some u->X.cell? ⟨q,0+j,none⟩=some u
section
variable {s:Nat} {W0:World} {ve:Value} {ce cl:List Pl.Sv} {F G:List Nat} {al:Option Addr} {capl:Nat}
theorem R9.p1 (hE:OwS W0 ve ce F) (iE:Inb (s+1) W0 F) (hL:OwS W0 (.slice al cl.length capl) cl G) (iL:Inb (s+1) W0 G) (hne:cl ≠ []) (hd:∀x∈G,x ∉ F) (hbd:ce.length+cl.length<=16777216) (hs:s+1<=W0.heap.size) (ty:TypeId) (f:Pl.Fnv) :
  ∃va Wa Fa,(Builtin.append_ #[40,40] ty #[ve,.slice al cl.length capl]).run Tryz.prog W0=.ok va Wa/\W0.grownBy Wa ve.ownBlock/\(∀x∈Fa,x∈F\/x∈G\/W0.heap.size<=x)/\R9 s ((Wa.alloc (.cells #[] 3)).alloc (objF 4 Wa.heap.size f)) va (ce++cl) Fa Wa.heap.size (Wa.heap.size+1) 4 f:=by
 obtain⟨va,Wa,Fa,h1,h2,h3,h4,h5⟩:=hE.join iE hL iL hne hd hbd hs ty
 have hb:Below Wa.heap.size Wa ((Wa.alloc (.cells #[] 3)).alloc (objF 4 Wa.heap.size f)):=((Below.refl _ _).alloc (Nat.le_refl _) _).alloc sI _
 have hsz:=h4.size
 refine⟨va,Wa,Fa,h1,h4,fun x hx=>by rcases h5 x hx with h | h | h;exact .inl h;exact .inr (.inl h);exact .inr (.inr oM),⟨h2.below Qs.lives h3 hb (Nat.le_refl _),h3.up (Nat.le_refl _) hb.size,?_,fun hm=>by have:=(h3 _ hm).2;omega,⟨by omega,by simp;omega⟩,fun j u hu=>?_⟩⟩
 ·exact(Own.emp Wa Wa.heap.size rfl).below (B:=0) (C:=Wa.heap.size+1) Qi.lives (fun b hb=>by simp at hb;subst hb;simp) ((Below.refl _ _).alloc sI _) sI
 exact cells_new (l:=recF 4 Wa.heap.size f) sI j u hu
theorem R9.p2 (hE:OwS W0 ve ce F) (iE:Inb (s+1) W0 F) (hL:OwS W0 (.slice al cl.length capl) cl G) (iL:Inb (s+1) W0 G) (hne:cl ≠ []) (hd:∀x∈G,x ∉ F) (hbd:ce.length+cl.length<=16777216) (hs:s+1<=W0.heap.size) (ty:TypeId) (f:Pl.Fnv) :
  ∃va Wa Fa,(Builtin.append_ #[40,40] ty #[ve,.slice al cl.length capl]).run Tryz.prog (W0.alloc (.cells #[] 3))=.ok va Wa/\(W0.alloc (.cells #[] 3)).grownBy Wa ve.ownBlock/\(∀x∈Fa,x∈F\/x∈G\/W0.heap.size<=x)/\R9 s (Wa.alloc (objF 4 W0.heap.size f)) va (ce++cl) Fa W0.heap.size Wa.heap.size 4 f:=by
 have hb0:Below W0.heap.size W0 (W0.alloc (.cells #[] 3)):=(Below.refl _ _).alloc (Nat.le_refl _) _
 obtain⟨va,Wa,Fa,h1,h2,h3,h4,h5⟩:=OwS.join (hE.below Qs.lives iE hb0 (Nat.le_refl _)) (iE.up (Nat.le_refl _) hb0.size) (hL.below Qs.lives iL hb0 (Nat.le_refl _)) (iL.up (Nat.le_refl _) hb0.size) hne hd hbd (by simp;omega) ty
 have hb:Below Wa.heap.size Wa (Wa.alloc (objF 4 W0.heap.size f)):=(Below.refl _ _).alloc (Nat.le_refl _) _
 have hsz:=h4.size
 simp at hsz h5
 have hown:∀b,ve.ownBlock=some b->b∈F:=fun b hb=>(hE.lt b hb).1
 have hzn:W0.heap.size ∉ Fa:=fun hm=>by
  rcases h5 _ hm with h|h|h
  ·have:=(iE _ h).2;omega
  ·have:=(iL _ h).2;omega
  omega
 refine⟨va,Wa,Fa,h1,h4,fun x hx=>by rcases h5 x hx with h | h | h;exact .inl h;exact .inr (.inl h);exact .inr (.inr oM),⟨h2.below Qs.lives h3 hb (Nat.le_refl _),h3.up (Nat.le_refl _) hb.size,?_,hzn,⟨by omega,by simp;omega⟩,fun j u hu=>?_⟩⟩
 ·have hz0:=Own.emp (et:=3) (z:=1) (Q:=Qi) W0 W0.heap.size rfl
  have hiz:Inb 0 (W0.alloc (.cells #[] 3)) [W0.heap.size]:=fun b hb=>by simp at hb;subst hb;simp
  exact(hz0.grown Qi.lives hiz h4 (fun b hb hm=>by simp at hm;subst hm;have:=(iE _ (hown _ hb)).2;omega)).below (B:=0) (C:=Wa.heap.size) Qi.lives (hiz.up (Nat.le_refl _) h4.size) hb (Nat.le_refl _)
 exact cells_new (l:=recF 4 W0.heap.size f) rfl j u hu
theorem R9.p3 (hE:OwS W0 ve ce F) (iE:Inb (s+1) W0 F) (hL:OwS W0 (.slice al cl.length capl) cl G) (iL:Inb (s+1) W0 G) (hne:cl ≠ []) (hd:∀x∈G,x ∉ F) (hbd:ce.length+cl.length<=16777216) (hs:s+1<=W0.heap.size) (ty:TypeId) (f:Pl.Fnv) :
  ∃va Wa Fa,(Builtin.append_ #[40,40] ty #[ve,.slice al cl.length capl]).run Tryz.prog ((W0.alloc (.cells #[] 3)).alloc (objF 4 W0.heap.size f))=.ok va Wa/\((W0.alloc (.cells #[] 3)).alloc (objF 4 W0.heap.size f)).grownBy Wa ve.ownBlock/\(∀x∈Fa,x∈F\/x∈G\/W0.heap.size<=x)/\R9 s Wa va (ce++cl) Fa W0.heap.size (W0.heap.size+1) 4 f:=by
 have hb0:Below W0.heap.size W0 ((W0.alloc (.cells #[] 3)).alloc (objF 4 W0.heap.size f)):=((Below.refl _ _).alloc (Nat.le_refl _) _).alloc sI _
 obtain⟨va,Wa,Fa,h1,h2,h3,h4,h5⟩:=OwS.join (hE.below Qs.lives iE hb0 (Nat.le_refl _)) (iE.up (Nat.le_refl _) hb0.size) (hL.below Qs.lives iL hb0 (Nat.le_refl _)) (iL.up (Nat.le_refl _) hb0.size) hne hd hbd (by simp;omega) ty
 have hsz:=h4.size
 simp at hsz h5
 have hown:∀b,ve.ownBlock=some b->b∈F:=fun b hb=>(hE.lt b hb).1
 have hzn:W0.heap.size ∉ Fa:=fun hm=>by
  rcases h5 _ hm with h|h|h
  ·have:=(iE _ h).2;omega
  ·have:=(iL _ h).2;omega
  omega
 refine⟨va,Wa,Fa,h1,h4,fun x hx=>by rcases h5 x hx with h | h | h;exact .inl h;exact .inr (.inl h);exact .inr (.inr oM),⟨h2,h3,?_,hzn,⟨by omega,by omega⟩,fun j u hu=>?_⟩⟩
 ·have hz0:=Own.emp (et:=3) (z:=1) (Q:=Qi) W0 W0.heap.size rfl
  have hiz:Inb 0 (W0.alloc (.cells #[] 3)) [W0.heap.size]:=fun b hb=>by simp at hb;subst hb;simp
  have hz1:=hz0.below (B:=0) (C:=W0.heap.size+1) Qi.lives hiz ((Below.refl (W0.heap.size+1) (W0.alloc (.cells #[] 3))).alloc sI (objF 4 W0.heap.size f)) sI
  exact hz1.grown Qi.lives (hiz.up (Nat.le_refl _) sI) h4 (fun b hb hm=>by simp at hm;subst hm;have:=(iE _ (hown _ hb)).2;omega)
 have hq:=cells_new (w:=W0.alloc (.cells #[] 3)) (l:=recF 4 W0.heap.size f) (t:=90) (b:=W0.heap.size+1) sI j u hu
 exact h4.cell hq (fun e=>by have:=(iE _ (hown _ e.symm)).2;simp only at this;omega)
end
def Ivx (l:List Pl.Tok) (N:Nat) (R:Option Pl.E) (w:World) (p:Nat) (wr:World):Prop :=
 ∃ao n cap fr ok ne lo,Lx w p wr ao n cap fr ok ne lo/\((ok=false/\R=none)\/(ok=true/\∃(e:Pl.E) (k:Nat) (F:List Nat),n=e.code.length/\fr=k/\ne=e.nest/\lo=e.long/\Far l N R e k/\OwS wr (.slice ao n cap) e.code F/\Inb (w.heap.size+1) wr F/\p ∉ F))
structure Sy (p6 p7:Nat) (W:World) (al:Option Addr) (nl cl:Nat) (fr ne:Int) (lo:Bool) (f:Pl.Fnv):Prop where
 c0:W.cell? ⟨p7,0,none⟩=some (.slice al nl cl)
 c1:W.cell? ⟨p7,1,none⟩=some (.int .i64 fr)
 c3:W.cell? ⟨p7,3,none⟩=some (.int .i64 ne)
 c4:W.cell? ⟨p7,4,none⟩=some (.bool lo)
 f0:W.cell? ⟨p6,0,none⟩=some (.int .i64 f.k)
 f1:W.cell? ⟨p6,1,none⟩=some (.int .i64 f.a)
 f2:W.cell? ⟨p6,2,none⟩=some (.int .i64 f.b)
 f3:W.cell? ⟨p6,3,none⟩=some (.string (Pl.ba f.nm))
 l6:p6<W.heap.size
 l7:p7<W.heap.size
section
variable {p6 p7:Nat} {W W':World} {al:Option Addr} {nl cl:Nat} {fr ne:Int} {lo:Bool} {f:Pl.Fnv}
theorem Sy.same (h:Sy p6 p7 W al nl cl fr ne lo f) (h6:W'.heap[p6]? = W.heap[p6]?) (h7:W'.heap[p7]? = W.heap[p7]?) (hs:W.heap.size<=W'.heap.size):Sy p6 p7 W' al nl cl fr ne lo f:=by
 have g6 (j:Nat):W'.cell? ⟨p6,j,none⟩=W.cell? ⟨p6,j,none⟩:=World.cell?_of_block h6
 have g7 (j:Nat):W'.cell? ⟨p7,j,none⟩=W.cell? ⟨p7,j,none⟩:=World.cell?_of_block h7
 exact⟨(g7 0).trans h.c0,(g7 1).trans h.c1,(g7 3).trans h.c3,(g7 4).trans h.c4,(g6 0).trans h.f0,(g6 1).trans h.f1,(g6 2).trans h.f2,(g6 3).trans h.f3,Nat.lt_of_lt_of_le h.l6 hs,Nat.lt_of_lt_of_le h.l7 hs⟩
theorem Sy.alloc (h:Sy p6 p7 W al nl cl fr ne lo f) (o:Obj):Sy p6 p7 (W.alloc o) al nl cl fr ne lo f :=
 h.same (Below.heap_alloc _ _ _ h.l6) (Below.heap_alloc _ _ _ h.l7) sI
theorem Sy.grown (h:Sy p6 p7 W al nl cl fr ne lo f) {r:Option Nat}(hg:W.grownBy W' r) (hr:∀b,r=some b->b ≠ p6/\b ≠ p7):Sy p6 p7 W' al nl cl fr ne lo f :=
 h.same (hg.block _ h.l6 (fun e=>(hr _ e.symm).1 rfl)) (hg.block _ h.l7 (fun e=>(hr _ e.symm).2 rfl)) hg.size
theorem Sy.set (h:Sy p6 p7 W al nl cl fr ne lo f) (p j:Nat) (v:Value) (h6:p ≠ p6) (h7:p ≠ p7):Sy p6 p7 (W.setCell ⟨p,j,none⟩ v) al nl cl fr ne lo f :=
 h.same (Below.heap_setCell _ _ _ _ (Ne.symm h6)) (Below.heap_setCell _ _ _ _ (Ne.symm h7)) sI
end
section
variable {l:List Pl.Tok} {N:Nat} {R:Option Pl.E} {w w9:World} {p:Nat} {ao ao9:Option Addr} {n cap cap9 cx:Nat} {fr:Int} {e:Pl.E} {o:Pl.O} {f:Pl.F} {F9:List Nat} {k:Nat}
theorem Ivx.two (L9:Lx w p w9 ao n cap fr true e.nest e.long) (ho:OwS w9 (.slice ao9 cx cap9) (e.code++o.code++[⟨4,[],[],f.two⟩]) F9) (hc:cx=(e.code++o.code++[(⟨4,[],[],f.two⟩:Pl.Sv)]).length) (hi:Inb (w.heap.size+1) w9 F9) (hp:p ∉ F9) (hf:Far l N R (.two o f e) k) (lo:Bool) (hlo:lo=(e.long || o.long)) :
  (¬e.nest<o.nest->Ivx l N R w p (((w9.setCell ⟨p,0,none⟩ (.slice ao9 cx cap9)).setCell ⟨p,1,none⟩ (.int .i64 k)).setCell ⟨p,4,none⟩ (.bool lo)))/\(e.nest<o.nest->Ivx l N R w p ((((w9.setCell ⟨p,0,none⟩ (.slice ao9 cx cap9)).setCell ⟨p,1,none⟩ (.int .i64 k)).setCell ⟨p,4,none⟩ (.bool lo)).setCell ⟨p,3,none⟩ (.int .i64 o.nest))):=by
 have hx:=((L9.set0 ao9 cx cap9).set1 (k:Int)).set4 lo
 obtain⟨o1,i1⟩:=ho.box Qs.lives hi hp (j:=0) (.slice ao9 cx cap9)
 obtain⟨o2,i2⟩:=o1.box Qs.lives i1 hp (j:=1) (.int .i64 k)
 obtain⟨o3,i3⟩:=o2.box Qs.lives i2 hp (j:=4) (.bool lo)
 obtain⟨o4,i4⟩:=o3.box Qs.lives i3 hp (j:=3) (.int .i64 o.nest)
 have hcd:(Pl.E.two o f e).code=e.code++o.code++[⟨4,[],[],f.two⟩]:=by rw[Pl.E.code,List.append_assoc]
 refine⟨fun hn=>?_,fun hn=>?_⟩
 ·refine⟨ao9,cx,cap9,k,true,e.nest,lo,hx,.inr ⟨rfl,.two o f e,k,F9,by rw[hcd,hc],rfl,?_,hlo,hf,by rw[hcd];exact o3,i3,hp⟩⟩
  show (e.nest:Int)=((max e.nest o.nest:Nat):Int)
  omega
 refine⟨ao9,cx,cap9,k,true,o.nest,lo,hx.set3 (o.nest:Int),.inr ⟨rfl,.two o f e,k,F9,by rw[hcd,hc],rfl,?_,hlo,hf,by rw[hcd];exact o4,i4,hp⟩⟩
 show (o.nest:Int)=((max e.nest o.nest:Nat):Int)
 omega
end
end Go.Proofs.YtbiiicbfpcfgdaaGreatDoor
