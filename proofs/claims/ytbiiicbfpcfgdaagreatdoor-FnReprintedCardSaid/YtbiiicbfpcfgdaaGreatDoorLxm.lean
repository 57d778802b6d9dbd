import Derived.Test.YtbiiicbfpcfgdaaGreatDoorTog
import Derived.Deep.DeepCutAuto
import Derived.Deep.CutRange
import Derived.BigQuiet
namespace Go.Proofs.YtbiiicbfpcfgdaaGreatDoor
open Go.RowKit
set_option maxRecDepth 100000
set_option maxHeartbeats 16000000
set_option linter.unusedVariables false
set_option linter.unusedSimpArgs false
theorem uLxm1 {P:Prop}(h:P:=by first | exact HQ.out | exact(Below.refl _ _).alloc (Nat.le_refl _) _ | exact((Below.refl _ _).alloc (Nat.le_refl _) _).alloc sI _ | exact(((Below.refl _ _).alloc (Nat.le_refl _) _).alloc sI _).alloc (by simp;omega) _ | exact HQ.out.alloc (HQ.out.size) _ | exact(HQ.out.setCell (Nat.le_refl _) _).alloc (by simp;omega) _):P:=h
theorem uLxm2 {P:Prop}(h:P:=by first | (simp[go_sem];done) | exact QX.out _):P:=h
theorem uLxm3 {P:Prop}(h:P:=by simp;omega):P:=h
theorem owns_empty (w:World) (base:Nat) (et z:Nat) (h:base<=w.heap.size):(w.alloc (.cells #[] et)).ownsRow base et z (.slice (some ⟨w.heap.size,0,none⟩) 0 0) 0 []:=by
 refine⟨by simp,.inr ⟨w.heap.size,0,#[],rfl,h,?_,Nat.le_refl _,by unfold maxLen;omega,by simp,by simp⟩⟩
 exact heap_alloc_new w _
theorem lex_tail {B n et z:Nat}{w wr X w9:World}{v:Value}{xs:List Value}(ow:wr.ownsRow B et z v n xs) (BB:Below B w wr) (hq:Below wr.heap.size wr X) (hg:X.grownBy w9 v.ownBlock) (hs:wr.heap.size<X.heap.size) (hB:B<=wr.heap.size) :
  Below B w w9/\∀o x,X.cell? ⟨wr.heap.size,o,none⟩=some x->w9.cell? ⟨wr.heap.size,o,none⟩=some x:=by
 have ox:=owns_keepg ow hq
 refine⟨(BB.trans (hq.mono hB)).trans (grown_below ox hg oM),fun o x h=>?_⟩
 refine(World.cell?_of_block (w:=X) (a:=⟨wr.heap.size,o,none⟩) (hg.block wr.heap.size hs (fun e=>?_))).trans h
 have:=(ow.lt _ e.symm).2
 omega
theorem tLxm3 {P:Prop}(h:P:=by
 go_wp2_with fail
 exact⟨⟨i+q.size,_,ao9,cap9,HT9.2,by go_num,by rw[List.length_append];rfl,by rw[List.length_append];have:=HT9.1;simp;omega,O9,T9.out.1,HN9⟩,by simp[intOf];omega⟩
 ):P:=h
theorem tLxm1 {P:Prop}(h:P:=by
 intro v9 w9 ho9 hg9 _
 obtain⟨ao9,cap9,rfl⟩:=own_form ho9
 have T9:=zH (lex_tail ow.out BB.out (hg:=hg9) (hq:=by first | exact HQ.out | exact(Below.refl _ _).alloc (Nat.le_refl _) _ | exact((Below.refl _ _).alloc (Nat.le_refl _) _).alloc sI _ | exact(((Below.refl _ _).alloc (Nat.le_refl _) _).alloc sI _).alloc uLxm3 _ | exact HQ.out.alloc (HQ.out.size) _ | exact(HQ.out.setCell (Nat.le_refl _) _).alloc uLxm3 _) (hs:=by simp <;> omega) BB.out.size)
 have q9:=T9.out.2 1 (.string (s.extract i (i+1))) uLxm2
 have O9:Hid (w9.ownsRow w.heap.size 37 4 (.slice ao9 (l++[(⟨120,s.extract i (i+1),0,i⟩:Pl.Tok)]).length cap9) (l++[(⟨120,s.extract i (i+1),0,i⟩:Pl.Tok)]).length (Pl.cellsT (l++[⟨120,s.extract i (i+1),0,i⟩]))):=by show World.ownsRow _ _ _ _ _ _ _;rw[Pl.cellsT_app,List.length_append];exact ho9
 have HT9:1<=(s.extract i (i+1)).size/\i+(s.extract i (i+1)).size<=n:=HT.out
 have HN9:Hid (Pl.lxT s 0=(l++[⟨120,s.extract i (i+1),0,i⟩])++Pl.lxT s (i+(s.extract i (i+1)).size)):=HN
 clear ho9 hg9 ow BB HN HT
 generalize s.extract i (i+1)=q at *
 exact tLxm3
 ):P:=h
theorem tLxm2 {P:Prop}(h:P:=by
 intro v9 w9 ho9 hg9 _
 obtain⟨ao9,cap9,rfl⟩:=own_form ho9
 have T9:=zH (lex_tail ow.out BB.out (hg:=hg9) (hq:=by first | exact HQ.out | exact(Below.refl _ _).alloc (Nat.le_refl _) _ | exact((Below.refl _ _).alloc (Nat.le_refl _) _).alloc sI _ | exact(((Below.refl _ _).alloc (Nat.le_refl _) _).alloc sI _).alloc uLxm3 _ | exact HQ.out.alloc (HQ.out.size) _ | exact(HQ.out.setCell (Nat.le_refl _) _).alloc uLxm3 _) (hs:=by simp <;> omega) BB.out.size)
 have q9:=T9.out.2 1 (.string (s.extract i (i+1))) uLxm2
 have O9:Hid (w9.ownsRow w.heap.size 37 4 (.slice ao9 (l++[(⟨115,s.extract i (i+1),0,i⟩:Pl.Tok)]).length cap9) (l++[(⟨115,s.extract i (i+1),0,i⟩:Pl.Tok)]).length (Pl.cellsT (l++[⟨115,s.extract i (i+1),0,i⟩]))):=by show World.ownsRow _ _ _ _ _ _ _;rw[Pl.cellsT_app,List.length_append];exact ho9
 have HT9:1<=(s.extract i (i+1)).size/\i+(s.extract i (i+1)).size<=n:=HT.out
 have HN9:Hid (Pl.lxT s 0=(l++[⟨115,s.extract i (i+1),0,i⟩])++Pl.lxT s (i+(s.extract i (i+1)).size)):=HN
 clear ho9 hg9 ow BB HN HT
 generalize s.extract i (i+1)=q at *
 exact tLxm3
 ):P:=h
theorem tLxm4 {P:Prop}(h:P:=by
 intro v9 w9 ho9 hg9 _
 obtain⟨ao9,cap9,rfl⟩:=own_form ho9
 have T9:=zH (lex_tail ow.out BB.out (hg:=hg9) (hq:=by first | exact HQ.out | exact(Below.refl _ _).alloc (Nat.le_refl _) _ | exact((Below.refl _ _).alloc (Nat.le_refl _) _).alloc sI _ | exact(((Below.refl _ _).alloc (Nat.le_refl _) _).alloc sI _).alloc uLxm3 _ | exact HQ.out.alloc (HQ.out.size) _ | exact(HQ.out.setCell (Nat.le_refl _) _).alloc uLxm3 _) (hs:=by simp <;> omega) BB.out.size)
 have q9:=T9.out.2 1 (.string (s.extract i (i+1))) uLxm2
 have O9:Hid (w9.ownsRow w.heap.size 37 4 (.slice ao9 (l++[(⟨59,s.extract i (i+1),0,i⟩:Pl.Tok)]).length cap9) (l++[(⟨59,s.extract i (i+1),0,i⟩:Pl.Tok)]).length (Pl.cellsT (l++[⟨59,s.extract i (i+1),0,i⟩]))):=by show World.ownsRow _ _ _ _ _ _ _;rw[Pl.cellsT_app,List.length_append];exact ho9
 have HT9:1<=(s.extract i (i+1)).size/\i+(s.extract i (i+1)).size<=n:=HT.out
 have HN9:Hid (Pl.lxT s 0=(l++[⟨59,s.extract i (i+1),0,i⟩])++Pl.lxT s (i+(s.extract i (i+1)).size)):=HN
 clear ho9 hg9 ow BB HN HT
 generalize s.extract i (i+1)=q at *
 exact tLxm3
 ):P:=h
theorem tLxm5 {P:Prop}(h:P:=by
 intro v9 w9 ho9 hg9 _
 obtain⟨ao9,cap9,rfl⟩:=own_form ho9
 have T9:=zH (lex_tail ow.out BB.out (hg:=hg9) (hq:=by first | exact HQ.out | exact(Below.refl _ _).alloc (Nat.le_refl _) _ | exact((Below.refl _ _).alloc (Nat.le_refl _) _).alloc sI _ | exact(((Below.refl _ _).alloc (Nat.le_refl _) _).alloc sI _).alloc uLxm3 _ | exact HQ.out.alloc (HQ.out.size) _ | exact(HQ.out.setCell (Nat.le_refl _) _).alloc uLxm3 _) (hs:=by simp <;> omega) BB.out.size)
 have q9:=T9.out.2 1 (.string (s.extract i e0)) uLxm2
 have O9:Hid (w9.ownsRow w.heap.size 37 4 (.slice ao9 (l++[(⟨120,s.extract i e0,nv1,i⟩:Pl.Tok)]).length cap9) (l++[(⟨120,s.extract i e0,nv1,i⟩:Pl.Tok)]).length (Pl.cellsT (l++[⟨120,s.extract i e0,nv1,i⟩]))):=by show World.ownsRow _ _ _ _ _ _ _;rw[Pl.cellsT_app,List.length_append];exact ho9
 have HT9:1<=(s.extract i e0).size/\i+(s.extract i e0).size<=n:=HT.out
 have HN9:Hid (Pl.lxT s 0=(l++[⟨120,s.extract i e0,nv1,i⟩])++Pl.lxT s (i+(s.extract i e0).size)):=HN
 clear ho9 hg9 ow BB HN HT
 generalize s.extract i e0=q at *
 exact tLxm3
 ):P:=h
theorem tLxm6 {P:Prop}(h:P:=by
 intro v9 w9 ho9 hg9 _
 obtain⟨ao9,cap9,rfl⟩:=own_form ho9
 have T9:=zH (lex_tail ow.out BB.out (hg:=hg9) (hq:=by first | exact HQ.out | exact(Below.refl _ _).alloc (Nat.le_refl _) _ | exact((Below.refl _ _).alloc (Nat.le_refl _) _).alloc sI _ | exact(((Below.refl _ _).alloc (Nat.le_refl _) _).alloc sI _).alloc uLxm3 _ | exact HQ.out.alloc (HQ.out.size) _ | exact(HQ.out.setCell (Nat.le_refl _) _).alloc uLxm3 _) (hs:=by simp <;> omega) BB.out.size)
 have q9:=T9.out.2 1 (.string (s.extract i e0)) uLxm2
 have O9:Hid (w9.ownsRow w.heap.size 37 4 (.slice ao9 (l++[(⟨110,s.extract i e0,nv1,i⟩:Pl.Tok)]).length cap9) (l++[(⟨110,s.extract i e0,nv1,i⟩:Pl.Tok)]).length (Pl.cellsT (l++[⟨110,s.extract i e0,nv1,i⟩]))):=by show World.ownsRow _ _ _ _ _ _ _;rw[Pl.cellsT_app,List.length_append];exact ho9
 have HT9:1<=(s.extract i e0).size/\i+(s.extract i e0).size<=n:=HT.out
 have HN9:Hid (Pl.lxT s 0=(l++[⟨110,s.extract i e0,nv1,i⟩])++Pl.lxT s (i+(s.extract i e0).size)):=HN
 clear ho9 hg9 ow BB HN HT
 generalize s.extract i e0=q at *
 exact tLxm3
 ):P:=h
theorem l3Lex_any (s:ByteArray) (w:World) (hl:s.size<=4000) :
  Calls Tryz.prog 12 #[.string s] w fun e w'=>∃ao cap,e=.returned (.slice ao (Pl.lxT s 0).length cap)/\w'.ownsRow w.heap.size 37 4 (.slice ao (Pl.lxT s 0).length cap) (Pl.lxT s 0).length (Pl.cellsT (Pl.lxT s 0))/\Below w.heap.size w w':=by
 have HX:Hid (∀k,k<s.size->∀w,(Instr.index 9 (.string s) (.int .i64 k)).run Tryz.prog w=.ok (.int .u8 (Pl.bt s k)) w):=fun k hk w=>idx_str s k hk w
 have HE:Hid (∀i,s.size<=i->Pl.lxT s i=[]):=fun i h=>Pl.lx_end h
 have HU:Hid (∀i,i<s.size->Pl.lxT s i=if Pl.blank (Pl.bt s i) then Pl.lxT s (i+1) else if Pl.bt s i=35 then Pl.lxT s (Pl.eol s (s.size-i) i) else Pl.tokAt s i::Pl.lxT s (i+(Pl.tokAt s i).tx.size)):=fun i h=>Pl.lx_un h
 have HO:Hid (∀w:World,(w.alloc (.cells #[] 37)).ownsRow w.heap.size 37 4 (.slice (some ⟨w.heap.size,0,none⟩) 0 0) 0 []):=fun w=>owns_empty w _ 37 4 (Nat.le_refl _)
 generalize hn:s.size=n at *
 go_enter Tryz.func12,Tryz.ntmps12
 go_wp2
 go_loopw [3,4] (fun u v wr=>∃(i:Nat) (l:List Pl.Tok) (ao:Option Addr) (cap:Nat),i<=n/\v=.int .i64 i/\u=.slice ao l.length cap/\l.length<=i/\Hid (wr.ownsRow w.heap.size 37 4 (.slice ao l.length cap) l.length (Pl.cellsT l))/\Hid (Below w.heap.size w wr)/\Hid (Pl.lxT s 0=l++Pl.lxT s i)) (fun _ v _=>n-(intOf v).toNat)
 case atStart=>exact⟨0,[],_,_,Nat.zero_le _,rfl,rfl,Nat.le_refl _,HO.out _,(Below.refl _ _).alloc (Nat.le_refl _) _,rfl⟩
 obtain⟨i,l,ao,cap,hi,rfl,rfl,hli,ow,BB,hlx⟩:=hrel
 by_cases hlt:i<n
 rotate_left 1
 ·obtain rfl:i=n:=by omega
  have HR:=zH (show Pl.lxT s 0=l by rw[hlx.out,HE.out i (Nat.le_refl _),List.append_nil])
  clear HX HE HU HO hlx
  go_wp2
  go_ret
  exact⟨ao,cap,by rw[HR.out];rfl,by rw[HR.out];exact ow.out,BB.out⟩
 have hlt':(i:Int)<(n:Int):=by omega
 have hix:=HX.out i hlt
 have hU:=zH (HU.out i hlt)
 by_cases hb:Pl.blank (Pl.bt s i)
 ·have HN:=zH (show Pl.lxT s 0=l++Pl.lxT s (i+1) by rw[hlx.out,hU.out,if_pos hb])
  have HB1:=zH (fun o=>BB.out.alloc BB.out.size o)
  have HO1:=zH (fun o=>ow.out.alloc o)
  clear HX HE HU HO hU
  generalize Pl.bt s i=c at *
  rcases hb with rfl|rfl|rfl
  all_goals (go_wp2;go_roundw)
  all_goals first
   |exact⟨i+1,l,ao,cap,by omega,by go_num,rfl,by omega,HO1.out _,HB1.out _,HN⟩
   |(simp[intOf];omega)
 have nb:¬Pl.bt s i=32/\¬Pl.bt s i=9/\¬Pl.bt s i=13:=⟨fun h=>hb (.inl h),fun h=>hb (.inr (.inl h)),fun h=>hb (.inr (.inr h))⟩
 have b1:(Pl.bt s i == 32)=false:=by simpa using nb.1
 have b2:(Pl.bt s i == 9)=false:=by simpa using nb.2.1
 have b3:(Pl.bt s i == 13)=false:=by simpa using nb.2.2
 by_cases hc:Pl.bt s i=35
 ·have HN:=zH (show Pl.lxT s 0=l++Pl.lxT s (Pl.eol s (n-i) i) by rw[hlx.out,hU.out,if_neg hb,if_pos hc])
  have HB1:=zH (fun o=>BB.out.alloc BB.out.size o)
  have HO1:=zH (fun o=>ow.out.alloc o)
  have HY:Hid (∀k,k<n->¬Pl.bt s k=10->Pl.eol s (n-k) k=Pl.eol s (n-(k+1)) (k+1)):=fun k h h2=>by subst hn;exact Pl.eol_yes h h2
  have HNo:Hid (∀k,k<n->Pl.bt s k=10->Pl.eol s (n-k) k=k):=fun k h h2=>by subst hn;exact Pl.eol_no h h2
  have HEn:Hid (∀k,n<=k->Pl.eol s (n-k) k=k):=fun k h=>by subst hn;exact Pl.eol_end h
  have HG:Hid (i+1<=Pl.eol s (n-i) i/\Pl.eol s (n-i) i<=n):=by subst hn;exact Pl.eol_lt hlt hc
  rw[hc] at hix b1 b2 b3
  generalize he:Pl.eol s (n-i) i=e at *
  have He:=zH he
  clear HE HU HO hU nb hb hc he hlx
  go_wp2_with fail
  have BA:=zH (HB1.out (.cells #[.int .u8 115,.string (s.extract i (i+1)),.int .i64 0,.int .i64 i] 37))
  have OA:=zH (HO1.out (.cells #[.int .u8 115,.string (s.extract i (i+1)),.int .i64 0,.int .i64 i] 37))
  generalize wr.alloc (.cells #[.int .u8 115,.string (s.extract i (i+1)),.int .i64 0,.int .i64 i] 37)=wa at *
  clear HB1 HO1
  go_loop [4] (fun v=>∃j:Nat,i<=j/\j<=n/\v=.int .i64 j/\Hid (Pl.eol s (n-j) j=e)) (fun v=>n-(intOf v).toNat)
  case atStart=>exact⟨i,Nat.le_refl _,hi,rfl,He⟩
  obtain⟨j,hj1,hj2,rfl,hj⟩:=hrel
  by_cases hjn:j<n
  ·have hjn':(j:Int)<(n:Int):=by omega
   have hjx:=HX.out j hjn
   by_cases h10:Pl.bt s j=10
   ·have hej:=zH ((HNo.out j hjn h10).symm.trans hj.out)
    rw[h10] at hjx
    clear HX HY HNo HEn h10
    have HN2:=zH (show Pl.lxT s 0=l++Pl.lxT s j by rw[hej.out];exact HN.out)
    have hge:i+1<=j:=by have:=hej.out;have:=HG.out;omega
    go_wp2_with fail
    exact⟨⟨j,l,ao,cap,hj2,rfl,rfl,by omega,OA,BA,HN2⟩,by simp[intOf];omega⟩
   have h10':(Pl.bt s j != 10)=true:=by simpa using h10
   have hej:=zH ((HY.out j hjn h10).symm.trans hj.out)
   clear HX HY HNo HEn h10
   generalize Pl.bt s j=x at *
   go_wp2_with fail
   go_round
   case rel=>exact⟨j+1,by omega,by omega,by go_num,hej⟩
   simp[intOf];omega
  obtain rfl:j=n:=by omega
  have hej:=zH ((HEn.out j (Nat.le_refl _)).symm.trans hj.out)
  have HN2:=zH (show Pl.lxT s 0=l++Pl.lxT s j by rw[hej.out];exact HN.out)
  have hge:i+1<=j:=by have:=hej.out;have:=HG.out;omega
  clear HX HY HNo HEn
  go_wp2_with fail
  exact⟨⟨j,l,ao,cap,hj2,rfl,rfl,by omega,OA,BA,HN2⟩,by simp[intOf];omega⟩
 have b4:(Pl.bt s i == 35)=false:=by simpa using hc
 have HN:=zH (show Pl.lxT s 0=(l++[Pl.tokAt s i])++Pl.lxT s (i+(Pl.tokAt s i).tx.size) by rw[hlx.out,hU.out,if_neg hb,if_neg hc];simp)
 have HT:Hid (1<=(Pl.tokAt s i).tx.size/\i+(Pl.tokAt s i).tx.size<=n):=by subst hn;exact Pl.tok_size s i hlt
 have hNI:n<=4000:=hl
 clear HE HU HO hU nb hb hc hlx
 by_cases c95:Pl.bt s i=95
 ·have HK:Hid (Pl.tokAt s i=⟨if (Pl.numS (Pl.st1 s i)).2=true then 110 else 120,Pl.st1 s i,(Pl.numS (Pl.st1 s i)).1,i⟩):=by
   show _=_
   unfold Pl.tokAt
   rw[if_pos (.inl c95)]
  rw[HK.out] at HN HT
  rw[c95] at hix b1 b2 b3 b4
  clear HK c95
  have HZ:Hid (i+(Pl.st1 s i).size=Pl.stre s (n-(i+1)) (i+1)/\1<=(Pl.st1 s i).size/\i+(Pl.st1 s i).size<=n):=by subst hn;exact Pl.st1_size s i hlt
  have K21:Hid (∀w,Calls Tryz.prog 26 #[.string s,.int .i64 ((i:Int)+1)] w fun e w'=>e=.returned (.int .i64 (Pl.stre s (n-(i+1)) (i+1):Nat))/\w'=w):=fun w=>by subst hn;exact l3Stretch_any s (i+1) w oM oM
  have K22:Hid (∀w,Calls Tryz.prog 27 #[.string (Pl.st1 s i)] w fun e w'=>e=.returned (.tuple #[.int .i64 (Pl.numS (Pl.st1 s i)).1,.bool (Pl.numS (Pl.st1 s i)).2])/\w'=w):=fun w=>l3Number_any (Pl.st1 s i) w (by have:=HZ.out;omega) (by have:=HZ.out;omega)
  have HS1:Hid (Pl.st1 s i=s.extract i (Pl.stre s (n-(i+1)) (i+1))):=by subst hn;rfl
  have hz:=HZ.out
  generalize Pl.numS (Pl.st1 s i)=nv at *
  generalize Pl.stre s (n-(i+1)) (i+1)=e0 at *
  rw[HS1.out] at K22 HN HT
  obtain⟨nv1,nv2⟩:=nv
  have he1:i<=e0:=by omega
  have he2:e0<=n:=by omega
  clear hz HZ HS1 HX
  cases nv2
  ·simp only[if_true,if_false,Bool.false_eq_true] at HN HT K22
   go_wp2_with (first | (at_builtin;refine wpList_append_g el28 (base:=w.heap.size) _ rfl _ _ rfl _ _ _ _ _ rfl rfl l.length (Pl.cellsT l) (Pl.Tok.cells ⟨120,s.extract i e0,nv1,i⟩) ?ho0 rfl ?hc0 ?h10 ?hb0 ?hB0 ?_) | (go_at_call 26;refine(K21.out _).mono ?_;rintro e w2 ⟨rfl,rfl⟩) | (go_at_call 27;refine(K22.out _).mono ?_;rintro e w2 ⟨rfl,rfl⟩))
   case ho0=>exact owns_keepg ow.out uLxm1
   case hc0=>exact cells_new sI
   case h10=>simp[Pl.Tok.cells,Value.oneCell']
   case hb0=>omega
   case hB0=>have:=BB.out.size;simp;omega
   exact tLxm5
  simp only[if_true,if_false,Bool.false_eq_true] at HN HT K22
  go_wp2_with (first | (at_builtin;refine wpList_append_g el28 (base:=w.heap.size) _ rfl _ _ rfl _ _ _ _ _ rfl rfl l.length (Pl.cellsT l) (Pl.Tok.cells ⟨110,s.extract i e0,nv1,i⟩) ?ho1 rfl ?hc1 ?h11 ?hb1 ?hB1 ?_) | (go_at_call 26;refine(K21.out _).mono ?_;rintro e w2 ⟨rfl,rfl⟩) | (go_at_call 27;refine(K22.out _).mono ?_;rintro e w2 ⟨rfl,rfl⟩))
  case ho1=>exact owns_keepg ow.out uLxm1
  case hc1=>exact cells_new sI
  case h11=>simp[Pl.Tok.cells,Value.oneCell']
  case hb1=>omega
  case hB1=>have:=BB.out.size;simp;omega
  exact tLxm6
 have d95:(Pl.bt s i == 95)=false:=by simpa using c95
 cases cd:Pl.digI (Pl.bt s i)
 case true =>
  have HK:Hid (Pl.tokAt s i=⟨if (Pl.numS (Pl.st1 s i)).2=true then 110 else 120,Pl.st1 s i,(Pl.numS (Pl.st1 s i)).1,i⟩):=by
   show _=_
   unfold Pl.tokAt
   rw[if_pos (.inr cd)]
  rw[HK.out] at HN HT
  have K20:Hid (∀w,Calls Tryz.prog 25 #[.int .u8 (Pl.bt s i)] w fun e w'=>e=.returned (.bool true)/\w'=w):=fun w=>by have:=l3Digit_any (Pl.bt s i) w;rw[cd] at this;exact this
  clear HK c95 cd
  generalize Pl.bt s i=c at *
  have HZ:Hid (i+(Pl.st1 s i).size=Pl.stre s (n-(i+1)) (i+1)/\1<=(Pl.st1 s i).size/\i+(Pl.st1 s i).size<=n):=by subst hn;exact Pl.st1_size s i hlt
  have K21:Hid (∀w,Calls Tryz.prog 26 #[.string s,.int .i64 ((i:Int)+1)] w fun e w'=>e=.returned (.int .i64 (Pl.stre s (n-(i+1)) (i+1):Nat))/\w'=w):=fun w=>by subst hn;exact l3Stretch_any s (i+1) w oM oM
  have K22:Hid (∀w,Calls Tryz.prog 27 #[.string (Pl.st1 s i)] w fun e w'=>e=.returned (.tuple #[.int .i64 (Pl.numS (Pl.st1 s i)).1,.bool (Pl.numS (Pl.st1 s i)).2])/\w'=w):=fun w=>l3Number_any (Pl.st1 s i) w (by have:=HZ.out;omega) (by have:=HZ.out;omega)
  have HS1:Hid (Pl.st1 s i=s.extract i (Pl.stre s (n-(i+1)) (i+1))):=by subst hn;rfl
  have hz:=HZ.out
  generalize Pl.numS (Pl.st1 s i)=nv at *
  generalize Pl.stre s (n-(i+1)) (i+1)=e0 at *
  rw[HS1.out] at K22 HN HT
  obtain⟨nv1,nv2⟩:=nv
  have he1:i<=e0:=by omega
  have he2:e0<=n:=by omega
  clear hz HZ HS1 HX
  cases nv2
  ·simp only[if_true,if_false,Bool.false_eq_true] at HN HT K22
   go_wp2_with (first | (at_builtin;refine wpList_append_g el28 (base:=w.heap.size) _ rfl _ _ rfl _ _ _ _ _ rfl rfl l.length (Pl.cellsT l) (Pl.Tok.cells ⟨120,s.extract i e0,nv1,i⟩) ?ho2 rfl ?hc2 ?h12 ?hb2 ?hB2 ?_) | (go_at_call 25;refine(K20.out _).mono ?_;rintro e w2 ⟨rfl,rfl⟩) | (go_at_call 26;refine(K21.out _).mono ?_;rintro e w2 ⟨rfl,rfl⟩) | (go_at_call 27;refine(K22.out _).mono ?_;rintro e w2 ⟨rfl,rfl⟩))
   case ho2=>exact owns_keepg ow.out uLxm1
   case hc2=>exact cells_new sI
   case h12=>simp[Pl.Tok.cells,Value.oneCell']
   case hb2=>omega
   case hB2=>have:=BB.out.size;simp;omega
   exact tLxm5
  simp only[if_true,if_false,Bool.false_eq_true] at HN HT K22
  go_wp2_with (first | (at_builtin;refine wpList_append_g el28 (base:=w.heap.size) _ rfl _ _ rfl _ _ _ _ _ rfl rfl l.length (Pl.cellsT l) (Pl.Tok.cells ⟨110,s.extract i e0,nv1,i⟩) ?ho3 rfl ?hc3 ?h13 ?hb3 ?hB3 ?_) | (go_at_call 25;refine(K20.out _).mono ?_;rintro e w2 ⟨rfl,rfl⟩) | (go_at_call 26;refine(K21.out _).mono ?_;rintro e w2 ⟨rfl,rfl⟩) | (go_at_call 27;refine(K22.out _).mono ?_;rintro e w2 ⟨rfl,rfl⟩))
  case ho3=>exact owns_keepg ow.out uLxm1
  case hc3=>exact cells_new sI
  case h13=>simp[Pl.Tok.cells,Value.oneCell']
  case hb3=>omega
  case hB3=>have:=BB.out.size;simp;omega
  exact tLxm6
 have K20:Hid (∀w,Calls Tryz.prog 25 #[.int .u8 (Pl.bt s i)] w fun e w'=>e=.returned (.bool false)/\w'=w):=fun w=>by have:=l3Digit_any (Pl.bt s i) w;rw[cd] at this;exact this
 have nd:¬(Pl.bt s i=95\/Pl.digI (Pl.bt s i)=true):=by rw[cd];simpa using c95
 cases cl:Pl.lttI (Pl.bt s i)
 case true =>
  have HK:Hid (Pl.tokAt s i=⟨Pl.wkS (Pl.st0 s i),Pl.st0 s i,0,i⟩):=by
   show _=_
   unfold Pl.tokAt
   rw[if_neg nd,if_pos cl]
  rw[HK.out] at HN HT
  have HZ:Hid (i+(Pl.st0 s i).size=Pl.stre s (n-i) i/\1<=(Pl.st0 s i).size/\i+(Pl.st0 s i).size<=n):=by subst hn;exact Pl.st0_size s i hlt cl
  have K23:Hid (∀w,Calls Tryz.prog 28 #[.int .u8 (Pl.bt s i)] w fun e w'=>e=.returned (.bool true)/\w'=w):=fun w=>by have:=l3Letter_any (Pl.bt s i) w;rw[cl] at this;exact this
  have K21:Hid (∀w,Calls Tryz.prog 26 #[.string s,.int .i64 i] w fun e w'=>e=.returned (.int .i64 (Pl.stre s (n-i) i:Nat))/\w'=w):=fun w=>by subst hn;exact l3Stretch_any s i w oM oM
  have K24:Hid (∀w,Calls Tryz.prog 29 #[.string (Pl.st0 s i)] w fun e w'=>e=.returned (.int .u8 (Pl.wkS (Pl.st0 s i)))/\Below w.heap.size w w'):=fun w=>l3WordKind_any (Pl.st0 s i) w (by have:=HZ.out;omega) (by have:=HZ.out;omega)
  have HS1:Hid (Pl.st0 s i=s.extract i (Pl.stre s (n-i) i)):=by subst hn;rfl
  have hz:=HZ.out
  generalize Pl.wkS (Pl.st0 s i)=wk0 at *
  generalize Pl.stre s (n-i) i=e0 at *
  rw[HS1.out] at K24 HN HT
  have he1:i<=e0:=by omega
  have he2:e0<=n:=by omega
  clear hz HZ HS1 HX HK c95 cd cl nd
  generalize Pl.bt s i=c at *
  go_wp2_with (first | (go_at_call 25;refine(K20.out _).mono ?_;rintro e w2 ⟨rfl,rfl⟩) | (go_at_call 28;refine(K23.out _).mono ?_;rintro e w2 ⟨rfl,rfl⟩) | (go_at_call 26;refine(K21.out _).mono ?_;rintro e w2 ⟨rfl,rfl⟩))
  refine(K24.out _).mono ?_
  rintro e w2 ⟨rfl,hb2⟩
  have r0:=bcell hb2 (b:=wr.heap.size) (j:=0) sI (by simp[go_sem];rfl)
  have r1:=bcell hb2 (b:=wr.heap.size) (j:=1) sI (by simp[go_sem];rfl)
  have r2:=bcell hb2 (b:=wr.heap.size) (j:=2) sI (by simp[go_sem];rfl)
  have r3:=bcell hb2 (b:=wr.heap.size) (j:=3) sI (by simp[go_sem];rfl)
  have rf:∀j,w2.frozen? ⟨wr.heap.size,j,none⟩=false:=fun j=>bfroz hb2 sI (by simp[go_sem])
  have HQ:Hid (Below wr.heap.size wr w2):=((Below.refl _ _).alloc (Nat.le_refl _) _).trans (hb2.mono sI)
  have hsz:wr.heap.size<w2.heap.size:=by have:=hb2.size;simp at this;omega
  clear hb2 K20 K21 K23 K24
  have QX:Hid (∀o,((w2.setCell ⟨wr.heap.size,0,none⟩ (.int .u8 wk0)).alloc o).cell? ⟨wr.heap.size,1,none⟩=some (.string (s.extract i e0))):=fun o=>by simp[go_sem,r1,hsz]
  go_wp2_with (first | (at_builtin;refine wpList_append_g el28 (base:=w.heap.size) _ rfl _ _ rfl _ _ _ _ _ rfl rfl l.length (Pl.cellsT l) (Pl.Tok.cells ⟨wk0,s.extract i e0,0,i⟩) ?ho4 rfl ?hc4 ?h14 ?hb4 ?hB4 ?_))
  case ho4=>exact owns_keepg ow.out uLxm1
  case hc4=>exact cells_new sI
  case h14=>simp[Pl.Tok.cells,Value.oneCell']
  case hb4=>omega
  case hB4=>have:=BB.out.size;simp;omega
  intro v9 w9 ho9 hg9 _
  obtain⟨ao9,cap9,rfl⟩:=own_form ho9
  have T9:=zH (lex_tail ow.out BB.out (hg:=hg9) (hq:=by first | exact HQ.out | exact(Below.refl _ _).alloc (Nat.le_refl _) _ | exact((Below.refl _ _).alloc (Nat.le_refl _) _).alloc sI _ | exact(((Below.refl _ _).alloc (Nat.le_refl _) _).alloc sI _).alloc uLxm3 _ | exact HQ.out.alloc (HQ.out.size) _ | exact(HQ.out.setCell (Nat.le_refl _) _).alloc uLxm3 _) (hs:=by simp <;> omega) BB.out.size)
  have q9:=T9.out.2 1 (.string (s.extract i e0)) uLxm2
  have O9:Hid (w9.ownsRow w.heap.size 37 4 (.slice ao9 (l++[(⟨wk0,s.extract i e0,0,i⟩:Pl.Tok)]).length cap9) (l++[(⟨wk0,s.extract i e0,0,i⟩:Pl.Tok)]).length (Pl.cellsT (l++[⟨wk0,s.extract i e0,0,i⟩]))):=by show World.ownsRow _ _ _ _ _ _ _;rw[Pl.cellsT_app,List.length_append];exact ho9
  have HT9:1<=(s.extract i e0).size/\i+(s.extract i e0).size<=n:=HT.out
  have HN9:Hid (Pl.lxT s 0=(l++[⟨wk0,s.extract i e0,0,i⟩])++Pl.lxT s (i+(s.extract i e0).size)):=HN
  clear ho9 hg9 ow BB HN HT
  generalize s.extract i e0=q at *
  exact tLxm3
 have K23:Hid (∀w,Calls Tryz.prog 28 #[.int .u8 (Pl.bt s i)] w fun e w'=>e=.returned (.bool false)/\w'=w):=fun w=>by have:=l3Letter_any (Pl.bt s i) w;rw[cl] at this;exact this
 have nl:¬Pl.lttI (Pl.bt s i)=true:=by rw[cl];simp
 by_cases c10:Pl.bt s i=10
 ·have HK:Hid (Pl.tokAt s i=⟨59,s.extract i (i+1),0,i⟩):=by
   show _=_
   unfold Pl.tokAt
   rw[if_neg nd,if_neg nl,if_pos (.inl c10)]
  rw[HK.out] at HN HT
  rw[c10] at hix b1 b2 b3 b4 d95 K20 K23
  clear HX HK
  go_wp2_with (first | (at_builtin;refine wpList_append_g el28 (base:=w.heap.size) _ rfl _ _ rfl _ _ _ _ _ rfl rfl l.length (Pl.cellsT l) (Pl.Tok.cells ⟨59,s.extract i (i+1),0,i⟩) ?ho5 rfl ?hc5 ?h15 ?hb5 ?hB5 ?_) | (go_at_call 25;refine(K20.out _).mono ?_;rintro e w2 ⟨rfl,rfl⟩) | (go_at_call 28;refine(K23.out _).mono ?_;rintro e w2 ⟨rfl,rfl⟩))
  case ho5=>exact owns_keepg ow.out uLxm1
  case hc5=>exact cells_new sI
  case h15=>simp[Pl.Tok.cells,Value.oneCell']
  case hb5=>omega
  case hB5=>have:=BB.out.size;simp;omega
  exact tLxm4
 by_cases c59:Pl.bt s i=59
 ·have HK:Hid (Pl.tokAt s i=⟨59,s.extract i (i+1),0,i⟩):=by
   show _=_
   unfold Pl.tokAt
   rw[if_neg nd,if_neg nl,if_pos (.inr c59)]
  rw[HK.out] at HN HT
  rw[c59] at hix b1 b2 b3 b4 d95 K20 K23
  clear HX HK
  go_wp2_with (first | (at_builtin;refine wpList_append_g el28 (base:=w.heap.size) _ rfl _ _ rfl _ _ _ _ _ rfl rfl l.length (Pl.cellsT l) (Pl.Tok.cells ⟨59,s.extract i (i+1),0,i⟩) ?ho6 rfl ?hc6 ?h16 ?hb6 ?hB6 ?_) | (go_at_call 25;refine(K20.out _).mono ?_;rintro e w2 ⟨rfl,rfl⟩) | (go_at_call 28;refine(K23.out _).mono ?_;rintro e w2 ⟨rfl,rfl⟩))
  case ho6=>exact owns_keepg ow.out uLxm1
  case hc6=>exact cells_new sI
  case h16=>simp[Pl.Tok.cells,Value.oneCell']
  case hb6=>omega
  case hB6=>have:=BB.out.size;simp;omega
  exact tLxm4
 have d10:(Pl.bt s i == 10)=false:=by simpa using c10
 have d59:(Pl.bt s i == 59)=false:=by simpa using c59
 have n1:¬(Pl.bt s i=10\/Pl.bt s i=59):=by simpa using And.intro c10 c59
 have K25:Hid (∀(W:World) (b:Nat) (q:ByteArray),b=W.heap.size->Calls Tryz.prog 30 #[.slice (some ⟨b,0,none⟩) 18 18,.string q] (W.alloc (.cells (Pl.sg18.map Value.string).toArray 9)) fun e w'=>e=.returned (.bool (Pl.hasB Pl.sg18 q 18))/\w'=W.alloc (.cells (Pl.sg18.map Value.string).toArray 9)):=fun W b q hb=>l3Has_any Pl.sg18 b 0 18 q _ (by decide) (fun j hj=>cells_new hb j _ (by
  rw[List.getElem?_map,List.getElem?_eq_getElem hj,List.getD_eq_getElem?_getD,List.getElem?_eq_getElem hj];rfl))
 by_cases c58:Pl.bt s i=58
 rotate_left 1
 ·have HK:Hid (Pl.tokAt s i=⟨if Pl.hasB Pl.sg18 (s.extract i (i+1)) 18=true then 115 else 120,s.extract i (i+1),0,i⟩):=by
   show _=_
   unfold Pl.tokAt
   rw[if_neg nd,if_neg nl,if_neg n1,if_neg (fun h=>c58 h.1)]
  have d58:(Pl.bt s i == 58)=false:=by simpa using c58
  rw[HK.out] at HN HT
  have K25:=zH (fun W b hb=>K25.out W b (s.extract i (i+1)) hb)
  clear HX HK c58 c10 c59 cl cd c95 nd nl n1
  generalize Pl.bt s i=c at *
  cases hh:Pl.hasB Pl.sg18 (s.extract i (i+1)) 18
  ·rw[hh] at K25 HN HT
   simp only[if_true,if_false,Bool.false_eq_true] at HN HT
   clear hh
   go_wp2_with (first | (at_builtin;refine wpList_append_g el28 (base:=w.heap.size) _ rfl _ _ rfl _ _ _ _ _ rfl rfl l.length (Pl.cellsT l) (Pl.Tok.cells ⟨120,s.extract i (i+1),0,i⟩) ?ho12 rfl ?hc12 ?h112 ?hb12 ?hB12 ?_) | (go_at_call 25;refine(K20.out _).mono ?_;rintro e w2 ⟨rfl,rfl⟩) | (go_at_call 28;refine(K23.out _).mono ?_;rintro e w2 ⟨rfl,rfl⟩) | (go_at_call 30;refine(K25.out _ _ sI).mono ?_;rintro e w2 ⟨rfl,rfl⟩))
   case ho12=>exact owns_keepg ow.out uLxm1
   case hc12=>exact cells_new sI
   case h112=>simp[Pl.Tok.cells,Value.oneCell']
   case hb12=>omega
   case hB12=>have:=BB.out.size;simp;omega
   exact tLxm1
  rw[hh] at K25 HN HT
  simp only[if_true,if_false,Bool.false_eq_true] at HN HT
  clear hh
  go_wp2_with (first | (at_builtin;refine wpList_append_g el28 (base:=w.heap.size) _ rfl _ _ rfl _ _ _ _ _ rfl rfl l.length (Pl.cellsT l) (Pl.Tok.cells ⟨115,s.extract i (i+1),0,i⟩) ?ho13 rfl ?hc13 ?h113 ?hb13 ?hB13 ?_) | (go_at_call 25;refine(K20.out _).mono ?_;rintro e w2 ⟨rfl,rfl⟩) | (go_at_call 28;refine(K23.out _).mono ?_;rintro e w2 ⟨rfl,rfl⟩) | (go_at_call 30;refine(K25.out _ _ sI).mono ?_;rintro e w2 ⟨rfl,rfl⟩))
  case ho13=>exact owns_keepg ow.out uLxm1
  case hc13=>exact cells_new sI
  case h113=>simp[Pl.Tok.cells,Value.oneCell']
  case hb13=>omega
  case hB13=>have:=BB.out.size;simp;omega
  exact tLxm2
 by_cases hi1:i+1<n
 rotate_left 1
 ·have HK:Hid (Pl.tokAt s i=⟨if Pl.hasB Pl.sg18 (s.extract i (i+1)) 18=true then 115 else 120,s.extract i (i+1),0,i⟩):=by
   show _=_
   unfold Pl.tokAt
   rw[if_neg nd,if_neg nl,if_neg n1,if_neg (fun h=>hi1 oM)]
  have hi1':¬(i:Int)+1<(n:Int):=by omega
  rw[HK.out] at HN HT
  rw[c58] at hix b1 b2 b3 b4 d95 K20 K23 d10 d59
  have K25:=zH (fun W b hb=>K25.out W b (s.extract i (i+1)) hb)
  clear HX HK
  cases hh:Pl.hasB Pl.sg18 (s.extract i (i+1)) 18
  ·rw[hh] at K25 HN HT
   simp only[if_true,if_false,Bool.false_eq_true] at HN HT
   clear hh
   go_wp2_with (first | (at_builtin;refine wpList_append_g el28 (base:=w.heap.size) _ rfl _ _ rfl _ _ _ _ _ rfl rfl l.length (Pl.cellsT l) (Pl.Tok.cells ⟨120,s.extract i (i+1),0,i⟩) ?ho10 rfl ?hc10 ?h110 ?hb10 ?hB10 ?_) | (go_at_call 25;refine(K20.out _).mono ?_;rintro e w2 ⟨rfl,rfl⟩) | (go_at_call 28;refine(K23.out _).mono ?_;rintro e w2 ⟨rfl,rfl⟩) | (go_at_call 30;refine(K25.out _ _ sI).mono ?_;rintro e w2 ⟨rfl,rfl⟩))
   case ho10=>exact owns_keepg ow.out uLxm1
   case hc10=>exact cells_new sI
   case h110=>simp[Pl.Tok.cells,Value.oneCell']
   case hb10=>omega
   case hB10=>have:=BB.out.size;simp;omega
   exact tLxm1
  rw[hh] at K25 HN HT
  simp only[if_true,if_false,Bool.false_eq_true] at HN HT
  clear hh
  go_wp2_with (first | (at_builtin;refine wpList_append_g el28 (base:=w.heap.size) _ rfl _ _ rfl _ _ _ _ _ rfl rfl l.length (Pl.cellsT l) (Pl.Tok.cells ⟨115,s.extract i (i+1),0,i⟩) ?ho11 rfl ?hc11 ?h111 ?hb11 ?hB11 ?_) | (go_at_call 25;refine(K20.out _).mono ?_;rintro e w2 ⟨rfl,rfl⟩) | (go_at_call 28;refine(K23.out _).mono ?_;rintro e w2 ⟨rfl,rfl⟩) | (go_at_call 30;refine(K25.out _ _ sI).mono ?_;rintro e w2 ⟨rfl,rfl⟩))
  case ho11=>exact owns_keepg ow.out uLxm1
  case hc11=>exact cells_new sI
  case h111=>simp[Pl.Tok.cells,Value.oneCell']
  case hb11=>omega
  case hB11=>have:=BB.out.size;simp;omega
  exact tLxm2
 have hix1:∀w,(Instr.index 9 (.string s) (.int .i64 ((i:Int)+1))).run Tryz.prog w=.ok (.int .u8 (Pl.bt s (i+1))) w:=HX.out (i+1) hi1
 have hi1':(i:Int)+1<(n:Int):=by omega
 by_cases c61:Pl.bt s (i+1)=61
 ·have HK:Hid (Pl.tokAt s i=⟨115,⟨#[58,61]⟩,0,i⟩):=by
   show _=_
   unfold Pl.tokAt
   rw[if_neg nd,if_neg nl,if_neg n1,if_pos ⟨c58,by omega,c61⟩]
  rw[HK.out] at HN HT
  rw[c58] at hix b1 b2 b3 b4 d95 K20 K23 d10 d59
  rw[c61] at hix1
  clear HX HK
  go_wp2_with (first | (at_builtin;refine wpList_append_g el28 (base:=w.heap.size) _ rfl _ _ rfl _ _ _ _ _ rfl rfl l.length (Pl.cellsT l) (Pl.Tok.cells ⟨115,(⟨#[58,61]⟩:ByteArray),0,i⟩) ?ho7 rfl ?hc7 ?h17 ?hb7 ?hB7 ?_) | (go_at_call 25;refine(K20.out _).mono ?_;rintro e w2 ⟨rfl,rfl⟩) | (go_at_call 28;refine(K23.out _).mono ?_;rintro e w2 ⟨rfl,rfl⟩))
  case ho7=>exact owns_keepg ow.out uLxm1
  case hc7=>exact cells_new sI
  case h17=>simp[Pl.Tok.cells,Value.oneCell']
  case hb7=>omega
  case hB7=>have:=BB.out.size;simp;omega
  intro v9 w9 ho9 hg9 _
  obtain⟨ao9,cap9,rfl⟩:=own_form ho9
  have T9:=zH (lex_tail ow.out BB.out (hg:=hg9) (hq:=by first | exact HQ.out | exact(Below.refl _ _).alloc (Nat.le_refl _) _ | exact((Below.refl _ _).alloc (Nat.le_refl _) _).alloc sI _ | exact(((Below.refl _ _).alloc (Nat.le_refl _) _).alloc sI _).alloc uLxm3 _ | exact HQ.out.alloc (HQ.out.size) _ | exact(HQ.out.setCell (Nat.le_refl _) _).alloc uLxm3 _) (hs:=by simp <;> omega) BB.out.size)
  have q9:=T9.out.2 1 (.string ((⟨#[58,61]⟩:ByteArray))) uLxm2
  have O9:Hid (w9.ownsRow w.heap.size 37 4 (.slice ao9 (l++[(⟨115,(⟨#[58,61]⟩:ByteArray),0,i⟩:Pl.Tok)]).length cap9) (l++[(⟨115,(⟨#[58,61]⟩:ByteArray),0,i⟩:Pl.Tok)]).length (Pl.cellsT (l++[⟨115,(⟨#[58,61]⟩:ByteArray),0,i⟩]))):=by show World.ownsRow _ _ _ _ _ _ _;rw[Pl.cellsT_app,List.length_append];exact ho9
  have HT9:1<=((⟨#[58,61]⟩:ByteArray)).size/\i+((⟨#[58,61]⟩:ByteArray)).size<=n:=HT.out
  have HN9:Hid (Pl.lxT s 0=(l++[⟨115,(⟨#[58,61]⟩:ByteArray),0,i⟩])++Pl.lxT s (i+((⟨#[58,61]⟩:ByteArray)).size)):=HN
  clear ho9 hg9 ow BB HN HT
  generalize (⟨#[58,61]⟩:ByteArray)=q at *
  exact tLxm3
 have HK:Hid (Pl.tokAt s i=⟨if Pl.hasB Pl.sg18 (s.extract i (i+1)) 18=true then 115 else 120,s.extract i (i+1),0,i⟩):=by
  show _=_
  unfold Pl.tokAt
  rw[if_neg nd,if_neg nl,if_neg n1,if_neg (fun h=>c61 h.2.2)]
 have d61:(Pl.bt s (i+1) == 61)=false:=by simpa using c61
 rw[HK.out] at HN HT
 rw[c58] at hix b1 b2 b3 b4 d95 K20 K23 d10 d59
 have K25:=zH (fun W b hb=>K25.out W b (s.extract i (i+1)) hb)
 clear HX HK c61
 generalize Pl.bt s (i+1)=x1 at *
 cases hh:Pl.hasB Pl.sg18 (s.extract i (i+1)) 18
 ·rw[hh] at K25 HN HT
  simp only[if_true,if_false,Bool.false_eq_true] at HN HT
  clear hh
  go_wp2_with (first | (at_builtin;refine wpList_append_g el28 (base:=w.heap.size) _ rfl _ _ rfl _ _ _ _ _ rfl rfl l.length (Pl.cellsT l) (Pl.Tok.cells ⟨120,s.extract i (i+1),0,i⟩) ?ho8 rfl ?hc8 ?h18 ?hb8 ?hB8 ?_) | (go_at_call 25;refine(K20.out _).mono ?_;rintro e w2 ⟨rfl,rfl⟩) | (go_at_call 28;refine(K23.out _).mono ?_;rintro e w2 ⟨rfl,rfl⟩) | (go_at_call 30;refine(K25.out _ _ sI).mono ?_;rintro e w2 ⟨rfl,rfl⟩))
  case ho8=>exact owns_keepg ow.out uLxm1
  case hc8=>exact cells_new sI
  case h18=>simp[Pl.Tok.cells,Value.oneCell']
  case hb8=>omega
  case hB8=>have:=BB.out.size;simp;omega
  exact tLxm1
 rw[hh] at K25 HN HT
 simp only[if_true,if_false,Bool.false_eq_true] at HN HT
 clear hh
 go_wp2_with (first | (at_builtin;refine wpList_append_g el28 (base:=w.heap.size) _ rfl _ _ rfl _ _ _ _ _ rfl rfl l.length (Pl.cellsT l) (Pl.Tok.cells ⟨115,s.extract i (i+1),0,i⟩) ?ho9 rfl ?hc9 ?h19 ?hb9 ?hB9 ?_) | (go_at_call 25;refine(K20.out _).mono ?_;rintro e w2 ⟨rfl,rfl⟩) | (go_at_call 28;refine(K23.out _).mono ?_;rintro e w2 ⟨rfl,rfl⟩) | (go_at_call 30;refine(K25.out _ _ sI).mono ?_;rintro e w2 ⟨rfl,rfl⟩))
 case ho9=>exact owns_keepg ow.out uLxm1
 case hc9=>exact cells_new sI
 case h19=>simp[Pl.Tok.cells,Value.oneCell']
 case hb9=>omega
 case hB9=>have:=BB.out.size;simp;omega
 exact tLxm2
end Go.Proofs.YtbiiicbfpcfgdaaGreatDoor
