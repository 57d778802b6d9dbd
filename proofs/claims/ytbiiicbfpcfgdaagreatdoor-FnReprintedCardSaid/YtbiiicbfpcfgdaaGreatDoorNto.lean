import Derived.Test.YtbiiicbfpcfgdaaGreatDoorNta
import Derived.WalkMore
import Derived.Deep.LoopGhost
import Derived.Test.YtbiiicbfpcfgdaaGreatDoorStp
namespace Go.Proofs.YtbiiicbfpcfgdaaGreatDoor
open Go.RowKit
set_option maxRecDepth 100000
set_option maxHeartbeats 16000000
set_option linter.unusedVariables false
def tkV (q:Pl.Itk × Bool):Value:=.tuple #[.agg #[.int .i64 q.1.k,.string q.1.tx,.int .i64 q.1.v],.bool q.2]
theorem tIto1 {P:Prop}(h:P:=by
 obtain⟨n,b⟩:=N
 go_enter Tryz.func37,Tryz.ntmps37
 go_wp2_with (first | (go_at_call 59;refine(K47.out _).mono ?_;rintro e w' ⟨rfl,rfl⟩) | (go_at_call 60;refine(K48.out _).mono ?_;rintro e w' ⟨rfl,rfl⟩))
 refine bodyPost_ret (v:=tkV (⟨1,⟨#[]⟩,n⟩,b)) (by simp[results,Tryz.results37,go_sem,tkV]) rfl ⟨rfl,BX.out _⟩
 ):P:=h
theorem tokenOf_any (x:ByteArray) (mb mo cp:Nat) (w:World) (hm:Mt w mb mo cp) (h0:0<x.size) (hl:x.size<=1048576) :
  Calls Tryz.prog 37 #[.string x] w fun e w'=>e=.returned (tkV (Pl.tkI x))/\Below w.heap.size w w':=by
 have hix:∀w,(Instr.index 9 (.string x) (.int .i64 0)).run Tryz.prog w=.ok (.int .u8 (Pl.bt x 0)) w:=idx_str x 0 h0
 have HT:Hid (Pl.tkI x=if Pl.bt x 0=95\/Pl.digI (Pl.bt x 0)=true then (⟨1,⟨#[]⟩,(Pl.numS x).1⟩,(Pl.numS x).2)
  else if Pl.lttI (Pl.bt x 0)=true then (⟨Pl.wk x.data.toList,x,0⟩,decide (¬Pl.wk x.data.toList=0))
  else if Pl.bt x 0=10 then (⟨4,⟨#[59]⟩,0⟩,true) else (⟨4,x,0⟩,decide (Pl.bt x 0∈Pl.sgL))):=rfl
 have K47:Hid (∀w,Calls Tryz.prog 59 #[.int .u8 (Pl.bt x 0)] w fun e w'=>e=.returned (.bool (Pl.digI (Pl.bt x 0)))/\w'=w):=isDigit_any _
 have K48:Hid (∀w,Calls Tryz.prog 60 #[.string x] w fun e w'=>e=.returned (.tuple #[.int .i64 (Pl.numS x).1,.bool (Pl.numS x).2])/\w'=w):=fun w=>numberOf_any x w h0 hl
 have K49:Hid (∀w,Calls Tryz.prog 61 #[.int .u8 (Pl.bt x 0)] w fun e w'=>e=.returned (.bool (Pl.lttI (Pl.bt x 0)))/\w'=w):=isLetter_any _
 have BX:Hid (∀o,Below w.heap.size w (w.alloc o)):=fun o=>(Below.refl _ _).alloc (Nat.le_refl _) o
 have K50:Hid (∀o,Calls Tryz.prog 62 #[.string x] (w.alloc o) fun e w'=>e=.returned (.int .i64 (Pl.wk x.data.toList))/\Below (w.heap.size+1) (w.alloc o) w'):=fun o=>by
  have h:=wordKind_any x mb mo cp (w.alloc o) (hm.keep (BX.out o)) oM
  simpa using h
 have K51:Hid (∀w,Calls Tryz.prog 63 #[.string x] w fun e w'=>e=.returned (.string x)/\Below w.heap.size w w'):=fun w=>clone_any x w oM
 have K30:Hid (∀w,Calls Tryz.prog 35 #[.string ⟨#[43,45,42,37,124,60,61,62,126,40,41,123,125,58,59,47,92,64,46]⟩,.int .u8 (Pl.bt x 0)] w fun e w'=>∃k:Int,e=.returned (.int .i64 k)/\decide (0<=k)=decide (Pl.bt x 0∈Pl.sgL)/\w'=w):=fun w=>by
  refine(Tryz.strings_IndexByte ⟨#[43,45,42,37,124,60,61,62,126,40,41,123,125,58,59,47,92,64,46]⟩ (Pl.bt x 0) w).mono ?_
  rintro e w' ⟨rfl,rfl⟩
  have hb:=Pl.bt_lt x 0
  exact⟨_,rfl,Pl.idx_sg (L:=[43,45,42,37,124,60,61,62,126,40,41,123,125,58,59,47,92,64,46]) (M:=Pl.sgL) (by decide) hb.1 hb.2,rfl⟩
 clear hm
 generalize Pl.numS x=N at *
 generalize Pl.wk x.data.toList=W at *
 generalize Pl.bt x 0=c at *
 by_cases h95:c=95
 ·subst h95
  have HR:Hid (Pl.tkI x=(⟨1,⟨#[]⟩,N.1⟩,N.2)):=by show _=_;rw[HT.out,if_pos (.inl rfl)]
  rw[HR.out]
  clear HR HT K49 K50 K51 K30
  exact tIto1
 have h95':(c == 95)=false:=by simpa using h95
 cases hd:Pl.digI c
 rotate_left 1
 ·rw[hd] at K47
  have HR:Hid (Pl.tkI x=(⟨1,⟨#[]⟩,N.1⟩,N.2)):=by show _=_;rw[HT.out,hd,if_pos (.inr rfl)]
  rw[HR.out]
  clear HR HT K49 K50 K51 K30 h95 hd
  exact tIto1
 rw[hd] at K47
 cases hlt:Pl.lttI c
 ·rw[hlt] at K49
  by_cases h10:c=10
  ·subst h10
   have HR:Hid (Pl.tkI x=(⟨4,⟨#[59]⟩,0⟩,true)):=by show _=_;rw[HT.out,hd,hlt];rfl
   rw[HR.out]
   clear HR HT K48 K50 K51 K30 h95 hd hlt
   go_enter Tryz.func37,Tryz.ntmps37
   go_wp2_with (first | (go_at_call 59;refine(K47.out _).mono ?_;rintro e w' ⟨rfl,rfl⟩) | (go_at_call 61;refine(K49.out _).mono ?_;rintro e w' ⟨rfl,rfl⟩))
   refine bodyPost_ret (v:=tkV (⟨4,⟨#[59]⟩,0⟩,true)) (by simp[results,Tryz.results37,go_sem,tkV]) rfl ⟨rfl,BX.out _⟩
  have h10':(c == 10)=false:=by simpa using h10
  have HR:Hid (Pl.tkI x=(⟨4,x,0⟩,decide (c∈Pl.sgL))):=by show _=_;rw[HT.out,hd,hlt,if_neg (by simp[h95]),if_neg sI,if_neg h10]
  rw[HR.out]
  clear HR HT K48 K50 K51 h95 hd hlt h10
  generalize decide (c∈Pl.sgL)=b at *
  go_enter Tryz.func37,Tryz.ntmps37
  go_wp2_with (first | (go_at_call 59;refine(K47.out _).mono ?_;rintro e w' ⟨rfl,rfl⟩) | (go_at_call 61;refine(K49.out _).mono ?_;rintro e w' ⟨rfl,rfl⟩) | (go_at_call 35;refine(K30.out _).mono ?_;rintro e w' ⟨k,rfl,hkb,rfl⟩))
  refine bodyPost_ret (v:=tkV (⟨4,x,0⟩,b)) (by simp[results,Tryz.results37,go_sem,tkV]) rfl ⟨rfl,BX.out _⟩
 rw[hlt] at K49
 have HR:Hid (Pl.tkI x=(⟨W,x,0⟩,decide (¬W=0))):=by show _=_;rw[HT.out,hd,hlt,if_neg (by simp[h95]),if_pos rfl]
 rw[HR.out]
 clear HR HT K48 K30 h95 hd hlt
 go_enter Tryz.func37,Tryz.ntmps37
 go_wp2_with (first | (go_at_call 59;refine(K47.out _).mono ?_;rintro e w' ⟨rfl,rfl⟩) | (go_at_call 61;refine(K49.out _).mono ?_;rintro e w' ⟨rfl,rfl⟩))
 refine(K50.out _).mono ?_
 rintro e w1 ⟨rfl,hb1⟩
 have B1:=zH ((BX.out _).trans (hb1.mono (Nat.le_succ _)))
 have r0:=bcell hb1 (b:=w.heap.size) (j:=0) oM (by simp[go_sem];rfl)
 have r1:=bcell hb1 (b:=w.heap.size) (j:=1) oM (by simp[go_sem];rfl)
 have r2:=bcell hb1 (b:=w.heap.size) (j:=2) oM (by simp[go_sem];rfl)
 have rf:∀j,w1.frozen? ⟨w.heap.size,j,none⟩=false:=fun j=>bfroz hb1 oM (by simp[go_sem])
 have hs1:w.heap.size<w1.heap.size:=by have:=hb1.size;simp at this;omega
 clear hb1 BX
 go_wp2_with fail
 refine(K51.out _).mono ?_
 rintro e w2 ⟨rfl,hb2⟩
 have B2:=zH (B1.out.trans (hb2.mono oM))
 have q0:=bcell hb2 hs1 r0
 have q1:=bcell hb2 hs1 r1
 have q2:=bcell hb2 hs1 r2
 have qf:∀j,w2.frozen? ⟨w.heap.size,j,none⟩=false:=fun j=>bfroz hb2 hs1 (rf j)
 clear hb2 r0 r1 r2 rf B1 K50 K51
 go_wp2_with fail
 have hfin:Below w.heap.size w (w2.setCells w.heap.size 0 [.int .i64 W,.string x,.int .i64 0]):=setCells_below _ (Nat.le_refl _) _ 0 _ B2.out
 refine bodyPost_ret (v:=tkV (⟨W,x,0⟩,decide (¬W=0))) (by simp[results,Tryz.results37,go_sem,tkV,q0,q1,q2];rfl) rfl ⟨rfl,hfin⟩
namespace Pl
def Itk.cells (t:Itk):List Value:=[.int .i64 t.k,.string t.tx,.int .i64 t.v]
def cellsI (l:List Itk):List Value:=l.flatMap Itk.cells
theorem cellsI_app (l:List Itk) (t:Itk):cellsI (l++[t])=cellsI l++t.cells:=by simp[cellsI]
theorem fb_app:∀(l r:List Tok),(∀t∈l,¬t.k=120)->fb (l++r)=fb r
 |[],_,_=>rfl
 |t::l,r,h=>by
  show fb (t::(l++r))=_
  rw[fb,if_neg (h t sI),fb_app l r (fun x hx=>h x (by simp[hx]))]
theorem tok_pos (s:ByteArray) (i:Nat):(tokAt s i).pos=i:=by
 unfold tokAt
 repeat (split <;> try rfl)
def bL:List Int:=[32,9,13]
theorem blank_mem (c:Int):decide (c∈bL)=decide (blank c):=decide_eq_decide.2 (by simp[bL];exact Iff.rfl)
end Pl
theorem el41:El 47 80 3:=El.mk' (zr:=.agg #[.int .i64 0,.string ByteArray.empty,.int .i64 0]) (bs:=32) Tryz.underlying47 kR rfl (by decide) (by decide)
def PoT (s:ByteArray) (w:World) (e:Ending) (w':World):Prop:=match Pl.fb (Pl.lxT s 0) with
 |some p=>e=.returned (.tuple #[.slice none 0 0,.int .i64 p,.bool false])/\Below w.heap.size w w'
 |none=>∃ao cap,e=.returned (.tuple #[.slice ao (Pl.lxT s 0).length cap,.int .i64 0,.bool true])/\w'.ownsRow w.heap.size 80 3 (.slice ao (Pl.lxT s 0).length cap) (Pl.lxT s 0).length (Pl.cellsI ((Pl.lxT s 0).map Pl.iTk))/\Below w.heap.size w w'
theorem PoT.bad {s:ByteArray}{w w':World}{p:Nat}{q:Int}(h:Pl.fb (Pl.lxT s 0)=some p) (hq:q=p) (hb:Below w.heap.size w w'):PoT s w (.returned (.tuple #[.slice none 0 0,.int .i64 q,.bool false])) w':=by
 unfold PoT
 rw[h,hq]
 exact⟨rfl,hb⟩
theorem PoT.good {s:ByteArray}{w w':World}{l:List Pl.Tok}{ao:Option Addr}{cap n:Nat}(h:Pl.lxT s 0=l) (hg:∀t∈l,¬t.k=120) (hn:l.length=n) (ho:w'.ownsRow w.heap.size 80 3 (.slice ao n cap) n (Pl.cellsI (l.map Pl.iTk))) (hb:Below w.heap.size w w'):PoT s w (.returned (.tuple #[.slice ao n cap,.int .i64 0,.bool true])) w':=by
 have hf:Pl.fb (Pl.lxT s 0)=none:=by
  have:=Pl.fb_app l [] hg
  rw[List.append_nil] at this
  rw[h,this]
  rfl
 unfold PoT
 rw[hf,h]
 subst hn
 exact⟨ao,cap,rfl,ho,hb⟩
theorem tokensOf_any (s:ByteArray) (mb mo cp:Nat) (w:World) (hm:Mt w mb mo cp) (hl:s.size<=4000) :
  Calls Tryz.prog 15 #[.string s] w (PoT s w):=by
 have HX:Hid (∀k,k<s.size->∀w,(Instr.index 9 (.string s) (.int .i64 k)).run Tryz.prog w=.ok (.int .u8 (Pl.bt s k)) w):=fun k hk w=>idx_str s k hk w
 have HE:Hid (∀i,s.size<=i->Pl.lxT s i=[]):=fun i h=>Pl.lx_end h
 have HU:Hid (∀i,i<s.size->Pl.lxT s i=if Pl.blank (Pl.bt s i) then Pl.lxT s (i+1) else if Pl.bt s i=35 then Pl.lxT s (Pl.eol s (s.size-i) i) else Pl.tokAt s i::Pl.lxT s (i+(Pl.tokAt s i).tx.size)):=fun i h=>Pl.lx_un h
 have HI:Hid (∀i,i<s.size->Pl.endI s i=i+(Pl.tokAt s i).tx.size/\i+1<=Pl.endI s i/\Pl.endI s i<=s.size):=fun i h=>⟨Pl.endI_tok h,Pl.endI_le h⟩
 have HQ:Hid (∀i,i<s.size->(Pl.tkI (s.extract i (Pl.endI s i))).2=decide (¬(Pl.tokAt s i).k=120)/\(¬(Pl.tokAt s i).k=120->(Pl.tkI (s.extract i (Pl.endI s i))).1=Pl.iTk (Pl.tokAt s i))):=fun i h=>Pl.tkI_tok h
 have K30:Hid (∀i w,Calls Tryz.prog 35 #[.string ⟨#[32,9,13]⟩,.int .u8 (Pl.bt s i)] w fun e w'=>∃k:Int,e=.returned (.int .i64 k)/\decide (0<=k)=decide (Pl.blank (Pl.bt s i))/\w'=w):=fun i w=>by
  refine(Tryz.strings_IndexByte ⟨#[32,9,13]⟩ (Pl.bt s i) w).mono ?_
  rintro e w' ⟨rfl,rfl⟩
  have hb:=Pl.bt_lt s i
  exact⟨_,rfl,(Pl.idx_sg (L:=[32,9,13]) (M:=Pl.bL) (by decide) hb.1 hb.2).trans (Pl.blank_mem _),rfl⟩
 have K31:Hid (∀i w,i<s.size->Calls Tryz.prog 36 #[.string s,.int .i64 i] w fun e w'=>e=.returned (.int .i64 (Pl.endI s i:Nat))/\w'=w):=fun i w h=>tokenEnd_any s i w h oM
 have K32:Hid (∀i w',i<s.size->Below w.heap.size w w'->Calls Tryz.prog 37 #[.string (s.extract i (Pl.endI s i))] w' fun e w''=>e=.returned (tkV (Pl.tkI (s.extract i (Pl.endI s i))))/\Below w'.heap.size w' w''):=fun i w' h hb=>by
  have he:=Pl.endI_le h
  have hz:(s.extract i (Pl.endI s i)).size=Pl.endI s i-i:=Pl.ext_size s i _ he.2
  exact tokenOf_any _ mb mo cp w' (hm.keep hb) oM oM
 generalize hn:s.size=n at *
 clear hm
 go_enter Tryz.func15,Tryz.ntmps15
 go_wp2_with fail
 go_step3
 go_wp2_with fail
 go_step3
 go_wp2_with fail
 go_loopw [2,5] (fun u v wr=>∃(i:Nat) (l:List Pl.Tok) (ao:Option Addr) (cap m:Nat),i<=n/\v=.int .i64 i/\u=.slice ao m cap/\m<=i/\l.length=m/\Hid (wr.ownsRow w.heap.size 80 3 (.slice ao m cap) m (Pl.cellsI (l.map Pl.iTk)))/\Hid (Below w.heap.size w wr)/\Hid (Pl.lxT s 0=l++Pl.lxT s i)/\Hid (∀t∈l,¬t.k=120)) (fun _ v _=>n-(intOf v).toNat)
 case atStart=>exact⟨0,[],none,0,0,Nat.zero_le _,rfl,rfl,Nat.le_refl _,rfl,World.ownsRow_nil _ _ _ _,Below.refl _ _,rfl,fun t ht=>absurd ht sI⟩
 obtain⟨i,l,ao,cap,m,hi,rfl,rfl,hli,hm,ow,BB,hlx,hgd⟩:=hrel
 have HM:=zH hm
 clear hm
 by_cases hlt:i<n
 rotate_left 1
 ·obtain rfl:i=n:=by omega
  have HF:=zH (show Pl.lxT s 0=l by rw[hlx.out,HE.out i (Nat.le_refl _),List.append_nil])
  clear HX HE HU HI HQ K30 K31 K32 hlx
  go_wp2_with fail
  try rw[Exit.noGoto_ret]
  refine bodyPost_ret (v:=.tuple #[.slice ao m cap,.int .i64 0,.bool true]) (by simp[results,Tryz.results15,go_sem]) rfl (PoT.good HF.out hgd.out HM.out ow.out BB.out)
 have hlt':(i:Int)<(n:Int):=by omega
 have hix:=HX.out i hlt
 have hU:=zH (HU.out i hlt)
 have k30:=zH (K30.out i)
 clear K30
 by_cases hb:Pl.blank (Pl.bt s i)
 ·have HN:=zH (show Pl.lxT s 0=l++Pl.lxT s (i+1) by rw[hlx.out,hU.out,if_pos hb])
  rw[decide_eq_true hb] at k30
  clear HX HE HU HI HQ K31 K32 hU hb hlx
  generalize Pl.bt s i=c at *
  go_wp2_with (go_at_call 35;refine(k30.out _).mono ?_;rintro e w' ⟨k,rfl,hkb,rfl⟩)
  go_roundw
  case rel=>exact⟨i+1,l,ao,cap,m,by omega,by go_num,rfl,by omega,HM.out,ow,BB,HN,hgd⟩
  simp[intOf];omega
 rw[decide_eq_false hb] at k30
 by_cases hc:Pl.bt s i=35
 ·have HN:=zH (show Pl.lxT s 0=l++Pl.lxT s (Pl.eol s (n-i) i) by rw[hlx.out,hU.out,if_neg hb,if_pos hc])
  have HY:Hid (∀k,k<n->¬Pl.bt s k=10->Pl.eol s (n-k) k=Pl.eol s (n-(k+1)) (k+1)):=fun k h h2=>by subst hn;exact Pl.eol_yes h h2
  have HNo:Hid (∀k,k<n->Pl.bt s k=10->Pl.eol s (n-k) k=k):=fun k h h2=>by subst hn;exact Pl.eol_no h h2
  have HEn:Hid (∀k,n<=k->Pl.eol s (n-k) k=k):=fun k h=>by subst hn;exact Pl.eol_end h
  have HG:Hid (i+1<=Pl.eol s (n-i) i/\Pl.eol s (n-i) i<=n):=by subst hn;exact Pl.eol_lt hlt hc
  rw[hc] at hix k30
  generalize he:Pl.eol s (n-i) i=e at *
  have He:=zH he
  clear HE HU HI HQ K31 K32 hU hb hc he hlx
  go_wp2_with (go_at_call 35;refine(k30.out _).mono ?_;rintro e w' ⟨k,rfl,hkb,rfl⟩)
  go_loop [5] (fun v=>∃j:Nat,i<=j/\j<=n/\v=.int .i64 j/\Hid (Pl.eol s (n-j) j=e)) (fun v=>n-(intOf v).toNat)
  case atStart=>exact⟨i,Nat.le_refl _,hi,rfl,He⟩
  obtain⟨j,hj1,hj2,rfl,hj⟩:=hrel
  by_cases hjn:j<n
  ·have hjn':(j:Int)<(n:Int):=by omega
   have hjx:=HX.out j hjn
   by_cases h10:Pl.bt s j=10
   ·have hej:=zH ((HNo.out j hjn h10).symm.trans hj.out)
    rw[h10] at hjx
    clear HX HY HNo HEn h10
    have HN2:=zH (show Pl.lxT s 0=l++Pl.lxT s j by rw[hej.out];exact HN.out)
    have hge:i+1<=j:=by have:=hej.out;have:=HG.out;omega
    go_wp2_with fail
    exact⟨⟨j,l,ao,cap,m,hj2,rfl,rfl,by omega,HM.out,ow,BB,HN2,hgd⟩,by simp[intOf];omega⟩
   have h10':(Pl.bt s j == 10)=false:=by simpa using h10
   have hej:=zH ((HY.out j hjn h10).symm.trans hj.out)
   clear HX HY HNo HEn h10
   generalize Pl.bt s j=x at *
   go_wp2_with fail
   go_round
   case rel=>exact⟨j+1,by omega,by omega,by go_num,hej⟩
   simp[intOf];omega
  obtain rfl:j=n:=by omega
  have hej:=zH ((HEn.out j (Nat.le_refl _)).symm.trans hj.out)
  have HN2:=zH (show Pl.lxT s 0=l++Pl.lxT s j by rw[hej.out];exact HN.out)
  have hge:i+1<=j:=by have:=hej.out;have:=HG.out;omega
  clear HX HY HNo HEn
  go_wp2_with fail
  exact⟨⟨j,l,ao,cap,m,hj2,rfl,rfl,by omega,HM.out,ow,BB,HN2,hgd⟩,by simp[intOf];omega⟩
 have b4:(Pl.bt s i == 35)=false:=by simpa using hc
 have HN:=zH (show Pl.lxT s 0=l++Pl.tokAt s i::Pl.lxT s (Pl.endI s i) by rw[hlx.out,hU.out,if_neg hb,if_neg hc,(HI.out i hlt).1])
 have hei:=HI.out i hlt
 have HK:=zH (HQ.out i hlt)
 have k31:=zH (fun w=>K31.out i w hlt)
 have k32:=zH (K32.out i wr hlt BB.out)
 have HP:=zH (Pl.tok_pos s i)
 clear HX HE HU HI HQ K31 K32 hU hb hc hlx
 obtain⟨hx0,he1,he2⟩:=hei
 clear hx0
 generalize Pl.endI s i=e0 at *
 have he0:i<=e0:=by omega
 generalize Pl.tkI (s.extract i e0)=Q at *
 obtain⟨t,b⟩:=Q
 obtain⟨tk,tx,tv⟩:=t
 cases b
 ·have HF:Hid (Pl.fb (Pl.lxT s 0)=some i):=by
   show _=_
   have h1:=HK.out.1
   have h2:(Pl.tokAt s i).k=120:=by simpa using h1
   rw[HN.out,Pl.fb_app l _ hgd.out,Pl.fb,if_pos h2,HP.out]
  clear HN HK HP
  generalize Pl.bt s i=c at *
  go_wp2_with (first | (go_at_call 35;refine(k30.out _).mono ?_;rintro e w' ⟨k,rfl,hkb,rfl⟩) | (go_at_call 36;refine(k31.out _).mono ?_;rintro e w' ⟨rfl,rfl⟩))
  refine k32.out.mono ?_
  rintro e w2 ⟨rfl,hb2⟩
  simp only[tkV]
  have B2:=zH (fun o=>(BB.out.trans (hb2.mono BB.out.size)).alloc (Nat.le_trans BB.out.size hb2.size) o)
  clear hb2
  go_wp2_with fail
  rw[Exit.noGoto_ret]
  refine bodyPost_ret (v:=.tuple #[.slice none 0 0,.int .i64 i,.bool false]) (by simp[results,Tryz.results15,go_sem]) rfl (PoT.bad HF.out rfl (B2.out _))
 have hok:¬(Pl.tokAt s i).k=120:=by simpa using HK.out.1.symm
 have HT:Hid ((⟨tk,tx,tv⟩:Pl.Itk)=Pl.iTk (Pl.tokAt s i)):=HK.out.2 hok
 have HN2:Hid (Pl.lxT s 0=(l++[Pl.tokAt s i])++Pl.lxT s e0):=by show _=_;rw[HN.out];simp
 have HG2:Hid (∀t∈l++[Pl.tokAt s i],¬t.k=120):=fun t ht=>by
  rcases List.mem_append.1 ht with h|h
  ·exact hgd.out t h
  rw[List.mem_singleton.1 h];exact hok
 have HM2:Hid ((l++[Pl.tokAt s i]).length=m+1):=by show _=_;rw[List.length_append,HM.out];rfl
 have HC2:Hid (Pl.cellsI ((l++[Pl.tokAt s i]).map Pl.iTk)=Pl.cellsI (l.map Pl.iTk)++[.int .i64 tk,.string tx,.int .i64 tv]):=by
  show _=_
  rw[List.map_append,List.map_singleton,Pl.cellsI_app,<- HT.out]
  rfl
 clear HN HK HP HT hok
 generalize l++[Pl.tokAt s i]=l2 at *
 generalize Pl.bt s i=c at *
 go_wp2_with (first | (go_at_call 35;refine(k30.out _).mono ?_;rintro e w' ⟨k,rfl,hkb,rfl⟩) | (go_at_call 36;refine(k31.out _).mono ?_;rintro e w' ⟨rfl,rfl⟩))
 refine k32.out.mono ?_
 rintro e w2 ⟨rfl,hb2⟩
 simp only[tkV]
 have ow2:=zH (owns_keepg ow.out hb2)
 have B2:=zH (BB.out.trans (hb2.mono BB.out.size))
 clear hb2 ow BB
 go_wp2_with (at_builtin;refine wpList_append_g el41 (base:=w.heap.size) _ rfl _ _ rfl _ _ _ _ _ rfl rfl m (Pl.cellsI (l.map Pl.iTk)) [.int .i64 tk,.string tx,.int .i64 tv] ?ho0 rfl ?hc0 ?h10 ?hb0 ?hB0 ?_)
 case ho0=>exact owns_keepg ow2.out (((Below.refl _ _).alloc (Nat.le_refl _) _).alloc sI _)
 case hc0=>exact cells_new sI
 case h10=>simp[Value.oneCell']
 case hb0=>omega
 case hB0=>have:=B2.out.size;simp;omega
 intro v9 w9 ho9 hg9 _
 obtain⟨ao9,cap9,rfl⟩:=own_form ho9
 have T9:=zH (lex_tail ow2.out B2.out (hg:=hg9) (hq:=((Below.refl _ _).alloc (Nat.le_refl _) _).alloc sI _) (hs:=by simp <;> omega) B2.out.size)
 have O9:Hid (w9.ownsRow w.heap.size 80 3 (.slice ao9 (m+1) cap9) (m+1) (Pl.cellsI (l2.map Pl.iTk))):=by show World.ownsRow _ _ _ _ _ _ _;rw[HC2.out];exact ho9
 clear ho9 hg9 ow2 B2
 go_wp2_with fail
 go_roundw
 case rel=>exact⟨e0,l2,ao9,cap9,m+1,he2,rfl,rfl,by omega,HM2.out,O9,T9.out.1,HN2,HG2⟩
 simp[intOf];omega
theorem uIps1 {P:Prop}(h:P:=by simp[results,Tryz.results6,go_sem]):P:=h
namespace Pl
theorem lex_memi (s:ByteArray):∀(n i:Nat) (t:Tok),t∈lexS s n i->∃j,j<s.size/\t=tokAt s j
 |0,i,t,h=>by simp[lexS] at h
 |n+1,i,t,h=>by
  rw[lexS] at h
  split at h
  ·simp at h
  split at h
  ·exact lex_memi s n _ t h
  split at h
  ·exact lex_memi s n _ t h
  rename_i h0 _ _
  rcases List.mem_cons.1 h with rfl|h
  ·exact⟨i,by omega,rfl⟩
  exact lex_memi s n _ t h
theorem lx_iok {s:ByteArray}(h:fb (lxT s 0)=none):∀t∈(lxT s 0).map iTk,iOk t:=fun t ht=>by
 obtain⟨u,hu,rfl⟩:=List.mem_map.1 ht
 obtain⟨j,hj,rfl⟩:=lex_memi s _ _ u hu
 exact iTk_ok hj (fb_none _ h _ hu)
theorem lx_T {s:ByteArray}(h:fb (lxT s 0)=none):rI ((lxT s 0).map iTk) 0=(lxT s 0).map tkT:=by
 unfold rI
 rw[List.drop_zero,List.map_map]
 exact List.map_congr_left fun t ht=>iTk_T (lx_ok h t ht).1
theorem prs_long {s:ByteArray}(h:4000<s.size):prsS s=([],1,0):=by unfold prsS;rw[if_pos h]
theorem prs_bad {s:ByteArray}{p:Nat}(h:¬4000<s.size) (hf:fb (lxT s 0)=some p):prsS s=([],2,(p:Int)):=by unfold prsS;rw[if_neg h,hf]
theorem prs_pp {s:ByteArray}(h:¬4000<s.size) (hf:fb (lxT s 0)=none):prsS s=match pprog (2 * (lxT s 0).length+1) ((lxT s 0).length+1) (seps ((lxT s 0).map tkT)) with | none=>([],3,0) | some ss=>if ss.any S.bey=true then ([],4,0) else (ss.map S.tv,0,0):=by
 unfold prsS
 rw[if_neg h,hf]
 simp only
 rw[prog_eq (2 * (lxT s 0).length+1) ((lxT s 0).length+1) _ sI sI]
 cases pprog (2 * (lxT s 0).length+1) ((lxT s 0).length+1) (seps ((lxT s 0).map tkT)) with
 |none=>rfl
 |some ss =>
  simp only
  have e:ss.all S.fine=!ss.any S.bey:=by
   induction ss with
   |nil=>rfl
   |cons s ss ih=>rw[List.all_cons,List.any_cons,ih,S.fine_bey,Bool.not_or]
  rw[e]
  cases ss.any S.bey <;> rfl
theorem cellsI_len (l:List Itk):(cellsI l).length=l.length * 3:=by
 induction l with
 |nil=>rfl
 |cons t l ih =>
  have e:cellsI (t::l)=t.cells++cellsI l:=rfl
  rw[e,List.length_append,ih,List.length_cons]
  simp[Itk.cells]
  omega
theorem cellsI_at:∀(l:List Itk) (i:Nat) (t:Itk) (k:Nat),l[i]? = some t->k<3->(cellsI l)[i * 3+k]? = t.cells[k]?
 |[],i,t,k,h,_=>by simp at h
 |x::l,0,t,k,h,hk=>by
  have e:cellsI (x::l)=x.cells++cellsI l:=rfl
  have:x=t:=by simpa using h
  subst this
  rw[e,List.getElem?_append_left (by simp[Itk.cells];omega),Nat.zero_mul,Nat.zero_add]
 |x::l,i+1,t,k,h,hk=>by
  have e:cellsI (x::l)=x.cells++cellsI l:=rfl
  have hx:x.cells.length=3:=rfl
  rw[e,List.getElem?_append_right oM,<- cellsI_at l i t k (by simpa using h) hk,hx]
  congr 1
  omega
end Pl
theorem rdj_own {w:World}{B:Nat}{ao:Option Addr}{cap:Nat}{l:List Pl.Itk}(h:w.ownsRow B 80 3 (.slice ao l.length cap) l.length (Pl.cellsI l)):RdJ w.heap.size w ao l:=by
 by_cases h0:l=[]
 ·exact .inl h0
 obtain⟨g,rfl,_,hlt,hc⟩:=owns_cell h (List.length_pos_iff.2 h0)
 refine .inr ⟨g,0,hlt,rfl,fun i t hi=>?_⟩
 have hil:i<l.length:=(List.getElem?_eq_some_iff.1 hi).1
 have c (k:Nat) (hk:k<3):w.cell? ⟨g,0+i * 3+k,none⟩=t.cells[k]?:=by
  rw[Nat.zero_add,hc _ oM,Pl.cellsI_at l i t k hi hk]
 exact⟨c 0 oM,c 1 oM,c 2 oM⟩
def PoP (s:ByteArray) (w:World) (e:Ending) (w':World):Prop:=∃v F,e=.returned (.tuple #[v,.int .i64 (Pl.prsS s).2.1,.int .i64 (Pl.prsS s).2.2])/\Below w.heap.size w w'/\OwP w' v (Pl.prsS s).1 F/\Inb w.heap.size w' F
theorem PoP.none_ {s:ByteArray}{w w':World}{a b:Int}(h:Pl.prsS s=([],a,b)) (hb:Below w.heap.size w w'):PoP s w (.returned (.tuple #[.slice none 0 0,.int .i64 a,.int .i64 b])) w':=by
 refine⟨.slice none 0 0,[],?_,hb,?_,Inb.nil _ _⟩
 ·rw[h]
 rw[h];exact Own.nil _
theorem implParse_any (s:ByteArray) (mb mo cp:Nat) (w:World) (hm:Mt w mb mo cp) (hsz:s.size<=1048576):Calls Tryz.prog 6 #[.string s] w (PoP s w):=by
 by_cases h4:4000<s.size
 ·have HP:Hid (PoP s w (.returned (.tuple #[.slice none 0 0,.int .i64 1,.int .i64 0])) w):=PoP.none_ (Pl.prs_long h4) (Below.refl _ _)
  generalize hn:s.size=n at *
  have h4':(4000:Int)<(n:Int):=by omega
  clear hm
  go_enter Tryz.func6,Tryz.ntmps6
  go_wp2_with fail
  refine bodyPost_ret (v:=.tuple #[.slice none 0 0,.int .i64 1,.int .i64 0]) uIps1 rfl HP.out
 have K12:=zH (tokensOf_any s mb mo cp w hm oM)
 have HL:Hid ((Pl.lxT s 0).length<=4000):=by have:=Pl.len_le s.size s 0 oM;show _<=_;omega
 have H4:=zH h4
 generalize hn:s.size=n at h4 hsz
 have hn':Hid (s.size=n):=hn
 have h4':¬(4000:Int)<(n:Int):=by omega
 have hz0:1<w.heap.size:=hm.z
 have hmb:mb<w.heap.size:=hm.b
 have HM:=zH hm
 clear hm h4
 cases hf:Pl.fb (Pl.lxT s 0) with
 |some p =>
  have HP:Hid (∀w',Below w.heap.size w w'->PoP s w (.returned (.tuple #[.slice none 0 0,.int .i64 2,.int .i64 p])) w'):=fun w' hb=>PoP.none_ (Pl.prs_bad H4.out hf) hb
  have K:Hid (Calls Tryz.prog 15 #[.string s] w fun e w'=>e=.returned (.tuple #[.slice none 0 0,.int .i64 p,.bool false])/\Below w.heap.size w w'):=by
   refine K12.out.mono ?_
   intro e w' h
   unfold PoT at h
   rw[hf] at h
   exact h
  clear K12 hf HM
  go_enter Tryz.func6,Tryz.ntmps6
  go_wp2_with fail
  refine K.out.mono ?_
  rintro e w1 ⟨rfl,hb1⟩
  go_wp2_with fail
  refine bodyPost_ret (v:=.tuple #[.slice none 0 0,.int .i64 2,.int .i64 p]) uIps1 rfl (HP.out _ hb1)
 |none =>
  have K:Hid (Calls Tryz.prog 15 #[.string s] w fun e w'=>∃ao cap,e=.returned (.tuple #[.slice ao (Pl.lxT s 0).length cap,.int .i64 0,.bool true])/\w'.ownsRow w.heap.size 80 3 (.slice ao (Pl.lxT s 0).length cap) (Pl.lxT s 0).length (Pl.cellsI ((Pl.lxT s 0).map Pl.iTk))/\Below w.heap.size w w'):=by
   refine K12.out.mono ?_
   intro e w' h
   unfold PoT at h
   rw[hf] at h
   exact h
  have HR:=zH (Pl.prs_pp H4.out hf)
  have HI:=zH (Pl.lx_iok hf)
  have HT:=zH (Pl.lx_T hf)
  have HLL:Hid (((Pl.lxT s 0).map Pl.iTk).length=(Pl.lxT s 0).length):=List.length_map ..
  rw[<- HT.out] at HR
  generalize hll:(Pl.lxT s 0).length=ln at *
  generalize (Pl.lxT s 0).map Pl.iTk=l at *
  clear K12 hf HT hll
  go_enter Tryz.func6,Tryz.ntmps6
  go_wp2_with fail
  refine K.out.mono ?_
  rintro e w1 ⟨ao,cap,rfl,ho1,hb1⟩
  have hs1:=hb1.size
  have BA:Below w1.heap.size w1 (w1.alloc (.cells #[.slice ao ln cap,.int .i64 0,.int .i64 0,.bool false] 52)):=(Below.refl _ _).alloc (Nat.le_refl _) _
  have HB:Hid (Below w.heap.size w (w1.alloc (.cells #[.slice ao ln cap,.int .i64 0,.int .i64 0,.bool false] 52))):=hb1.trans (BA.mono hs1)
  have K13:Hid (Calls Tryz.prog 16 #[.pointer (some ⟨w1.heap.size,0,none⟩)] (w1.alloc (.cells #[.slice ao ln cap,.int .i64 0,.int .i64 0,.bool false] 52)) (PoR l w1.heap.size cap ao false (w1.alloc (.cells #[.slice ao ln cap,.int .i64 0,.int .i64 0,.bool false] 52)) (Pl.pprog (2 * ln+1) (ln+1) (Pl.seps (Pl.rI l 0))))):=by
   have hl:=HLL.out
   have hL:=HL.out
   refine program_any (2 * ln+1) (ln+1) l w1.heap.size cap 0 mb mo cp ao false _ oM oM oM oM HI.out ?_ ?_
   ·refine⟨?_,HM.out.keep (HB.out),by omega,by omega⟩
    have hr:RdJ w1.heap.size w1 ao l:=rdj_own (B:=w.heap.size) (cap:=cap) (by rw[hl];exact ho1)
    exact hr.keep BA
   rw[hl]
   exact⟨by simp,by simp[go_sem],by simp[go_sem],by simp[go_sem],by simp[go_sem],fun j=>by simp[go_sem]⟩
  clear ho1 hb1 K
  generalize Pl.pprog (2 * ln+1) (ln+1) (Pl.seps (Pl.rI l 0))=R at *
  go_wp2_with fail
  refine K13.out.mono ?_
  intro e w2 h2
  cases R with
  |none =>
   obtain⟨a',be',rfl,hI2⟩:=h2
   have HP:Hid (PoP s w (.returned (.tuple #[.slice none 0 0,.int .i64 3,.int .i64 0])) w2):=PoP.none_ HR.out (HB.out.trans (below_p sI hI2.g |>.mono hs1))
   clear hI2 K13 HM BA HB HR
   go_wp2_with fail
   refine bodyPost_ret (v:=.tuple #[.slice none 0 0,.int .i64 3,.int .i64 0]) uIps1 rfl HP.out
  |some ss =>
   obtain⟨v,F,a',rfl,hO2,hI2,hX2⟩:=h2
   obtain⟨ag,cg,rfl⟩:=hO2.slice
   have hB2:=HB.out.trans (below_p sI hX2.g |>.mono hs1)
   have hc3:=hX2.ps.c3
   cases hb:ss.any Pl.S.bey
   ·have HP:Hid (PoP s w (.returned (.tuple #[.slice ag (ss.map Pl.S.tv).length cg,.int .i64 0,.int .i64 0])) w2):=by
     have e:Pl.prsS s=(ss.map Pl.S.tv,0,0):=by rw[HR.out];simp only;rw[hb];rfl
     refine⟨_,F,by rw[e],hB2,by rw[e];exact hO2,hI2.up (by simp;omega) (Nat.le_refl _)⟩
    rw[hb] at hc3
    generalize (ss.map Pl.S.tv).length=ns at *
    clear hI2 hO2 hX2 hB2 K13 HM BA HB HR hb
    go_wp2_with fail
    refine bodyPost_ret (v:=.tuple #[.slice ag ns cg,.int .i64 0,.int .i64 0]) uIps1 rfl HP.out
   have HP:Hid (PoP s w (.returned (.tuple #[.slice none 0 0,.int .i64 4,.int .i64 0])) w2):=PoP.none_ (by rw[HR.out];simp only;rw[hb];rfl) hB2
   rw[hb] at hc3
   generalize (ss.map Pl.S.tv).length=ns at *
   clear hI2 hO2 hX2 hB2 K13 HM BA HB HR hb
   go_wp2_with fail
   refine bodyPost_ret (v:=.tuple #[.slice none 0 0,.int .i64 4,.int .i64 0]) uIps1 rfl HP.out
namespace Pl
theorem drop_cons {s:ByteArray}{i:Nat}{c:UInt8}{r:List UInt8}(h:s.data.toList.drop i=c::r):i<s.size/\bt s i=(c.toNat:Int)/\s.data.toList.drop (i+1)=r:=by
 have hl:i<s.data.toList.length:=by
  have:=congrArg List.length h
  simp at this
  simp
  omega
 rw[List.drop_eq_getElem_cons hl] at h
 obtain⟨h1,h2⟩:=List.cons.inj h
 have hs:i<s.data.size:=by simpa using hl
 refine⟨hs,?_,h2⟩
 unfold bt
 rw[getElem!_pos s.data i hs,<- h1]
 simp
theorem drop_nil {s:ByteArray}{i:Nat}(h:s.data.toList.drop i=[]):s.size<=i:=by
 have:=congrArg List.length h
 have hs:s.size=s.data.size:=rfl
 simp at this
 omega
theorem drop_app {s:ByteArray}:∀(x:List UInt8) {i:Nat}{r:List UInt8},s.data.toList.drop i=x++r->s.data.toList.drop (i+x.length)=r:=by
 intro x i r h
 rw[<- List.drop_drop,h,List.drop_left]
theorem ext_drop {s:ByteArray}{i:Nat}{x r:List UInt8}(h:s.data.toList.drop i=x++r):s.extract i (i+x.length)=ba x:=by
 rw[ba_iff]
 have hd:(s.extract i (i+x.length)).data=s.data.extract i (i+x.length):=ByteArray.data_extract
 rw[hd,Array.toList_extract,List.extract_eq_take_drop,Nat.add_sub_cancel_left,h,List.take_left]
 rfl
def sepW:List UInt8->Prop
 |[]=>True
 |c::_=>al c=false
theorem stre_drop {s:ByteArray}:∀(y:List UInt8) {k:Nat}{r:List UInt8},s.data.toList.drop k=y++r->y.all al=true->sepW r->stre s (s.size-k) k=k+y.length
 |[],k,r,h,_,hr=>by
  cases r with
  |nil=>exact stre_end (drop_nil h)
  |cons c r =>
   obtain⟨h1,h2,_⟩:=drop_cons h
   exact stre_no h1 (by rw[h2,ld_eq];exact hr)
 |c::y,k,r,h,hy,hr=>by
  obtain⟨h1,h2,h3⟩:=drop_cons (r:=y++r) h
  rw[List.all_cons,Bool.and_eq_true] at hy
  rw[stre_yes h1 (by rw[h2,ld_eq];exact hy.1),stre_drop y h3 hy.2 hr,List.length_cons]
  omega
def okW:List UInt8->Prop
 |[]=>False
 |c::y=>(c=95\/al c=true)/\y.all al=true
def wTok (x:List UInt8) (i:Nat):Tok :=
 if bt (ba x) 0=95\/digI (bt (ba x) 0)=true then ⟨if (numS (ba x)).2=true then 110 else 120,ba x,(numS (ba x)).1,i⟩ else ⟨wkS (ba x),ba x,0,i⟩
theorem ba_drop (x:List UInt8):(ba x).data.toList.drop 0=x++[]:=by rw[List.append_nil];rfl
theorem st1_word {s:ByteArray}{i:Nat}{x r:List UInt8}(h:s.data.toList.drop i=x++r) (hx:okW x) (hr:sepW r):st1 s i=ba x:=by
 cases x with
 |nil=>exact hx.elim
 |cons c y =>
  obtain⟨h1,h2,h3⟩:=drop_cons (r:=y++r) h
  unfold st1
  rw[stre_drop y h3 hx.2 hr,<- ext_drop h,List.length_cons]
  congr 1
  omega
theorem tok_word {s:ByteArray}{i:Nat}{x r:List UInt8}(h:s.data.toList.drop i=x++r) (hx:okW x) (hr:sepW r):tokAt s i=wTok x i:=by
 have e1:=st1_word h hx hr
 cases x with
 |nil=>exact hx.elim
 |cons c y =>
  obtain⟨h1,h2,_⟩:=drop_cons (r:=y++r) h
  have h2':bt (ba (c::y)) 0=(c.toNat:Int):=(drop_cons (s:=ba (c::y)) (i:=0) (r:=y++[]) (ba_drop _)).2.1
  unfold tokAt wTok
  rw[h2,h2',e1]
  by_cases hd:(c.toNat:Int)=95\/digI (c.toNat:Int)=true
  ·rw[if_pos hd,if_pos hd]
  rw[if_neg hd,if_neg hd]
  have hl:lttI (c.toNat:Int)=true:=by
   rcases hx.1 with hc|hc
   ·exact absurd (.inl (by rw[hc];rfl)) hd
   rw[<- ld_eq] at hc
   rcases(by simpa[ldI] using hc) with h|h
   ·exact absurd (.inr h) hd
   exact h
  rw[if_pos hl,st0_st1 h1 (by rw[h2];exact hl),e1]
def sTok (c:UInt8) (i:Nat):Tok:=if c=10\/c=59 then ⟨59,ba [c],0,i⟩ else ⟨if hasB sg18 (ba [c]) 18=true then 115 else 120,ba [c],0,i⟩
theorem c95 (c:UInt8):((c.toNat:Int)=95) ↔ c=95:=by
 constructor
 ·intro h
  exact UInt8.toNat_inj.1 (by have e:(95:UInt8).toNat=95:=rfl;omega)
 rintro rfl;rfl
theorem cnat (c d:UInt8) (n:Nat) (hn:d.toNat=n):((c.toNat:Int)=n) ↔ c=d:=by
 constructor
 ·intro h
  exact UInt8.toNat_inj.1 oM
 rintro rfl;rw[hn]
theorem tok_sign {s:ByteArray}{i:Nat}{c:UInt8}{r:List UInt8}(h:s.data.toList.drop i=c::r) (h1:al c=false) (h2:c ≠ 95) (h3:c ≠ 58):tokAt s i=sTok c i:=by
 obtain⟨hi,hb,_⟩:=drop_cons h
 have hx:s.extract i (i+1)=ba [c]:=ext_drop (x:=[c]) (r:=r) h
 have hld:ldI (c.toNat:Int)=false:=by rw[ld_eq];exact h1
 have hnd:¬((c.toNat:Int)=95\/digI (c.toNat:Int)=true):=by
  rintro (e|e)
  ·exact h2 ((c95 c).1 e)
  rw[ldI,e] at hld;cases hld
 have hnl:¬lttI (c.toNat:Int)=true:=fun e=>by rw[ldI,e,Bool.or_true] at hld;cases hld
 unfold tokAt sTok
 rw[hb,if_neg hnd,if_neg hnl,hx]
 have e10:=cnat c 10 10 rfl
 have e59:=cnat c 59 59 rfl
 have e58:=cnat c 58 58 rfl
 by_cases h5:c=10\/c=59
 ·rw[if_pos (by rcases h5 with e | e;exact .inl (e10.2 e);exact .inr (e59.2 e)),if_pos h5]
 rw[if_neg (by rintro (e | e);exact h5 (.inl (e10.1 e));exact h5 (.inr (e59.1 e))),if_neg h5,if_neg (fun e=>h3 (e58.1 e.1))]
theorem tok_col {s:ByteArray}{i:Nat}{d:UInt8}{r:List UInt8}(h:s.data.toList.drop i=58::d::r) (hd:d ≠ 61):tokAt s i=⟨115,ba [58],0,i⟩:=by
 obtain⟨hi,hb,h2⟩:=drop_cons h
 obtain⟨hi2,hb2,_⟩:=drop_cons h2
 have hx:s.extract i (i+1)=ba [58]:=ext_drop (x:=[58]) (r:=d::r) h
 have hb':bt s i=58:=hb
 unfold tokAt
 rw[hb',hx,if_neg (by decide),if_neg (by decide),if_neg (by decide),if_neg (by rw[hb2];rintro ⟨_,_,e⟩;exact hd ((cnat d 61 61 rfl).1 e))]
 rw[if_pos (show hasB sg18 (ba [58]) 18=true by decide)]
theorem tok_asg {s:ByteArray}{i:Nat}{r:List UInt8}(h:s.data.toList.drop i=58::61::r):tokAt s i=⟨115,⟨#[58,61]⟩,0,i⟩:=by
 obtain⟨hi,hb,h2⟩:=drop_cons h
 obtain⟨hi2,hb2,_⟩:=drop_cons h2
 have hb':bt s i=58:=hb
 have hb2':bt s (i+1)=61:=hb2
 unfold tokAt
 rw[hb',if_neg (by decide),if_neg (by decide),if_neg (by decide),if_pos ⟨rfl,hi2,hb2'⟩]
structure Lr (s:ByteArray) (i j:Nat) (ts:List T):Prop where
 m:(lxT s i).map tkT=ts++(lxT s j).map tkT
 b:fb (lxT s i)=fb (lxT s j)
theorem Lr.refl (s:ByteArray) (i:Nat):Lr s i i []:=⟨rfl,rfl⟩
theorem Lr.trans {s:ByteArray}{i j k:Nat}{ts us:List T}(h:Lr s i j ts) (g:Lr s j k us):Lr s i k (ts++us):=⟨by rw[h.m,g.m,List.append_assoc],h.b.trans g.b⟩
theorem Lr.tok {s:ByteArray}{i:Nat}{t:Tok}(hi:i<s.size) (hb:¬blank (bt s i)) (hc:¬bt s i=35) (ht:tokAt s i=t) (hk:¬t.k=120):Lr s i (i+t.tx.size) [tkT t]:=by
 have e:=lx_un hi
 rw[if_neg hb,if_neg hc,ht] at e
 refine⟨by rw[e];rfl,by rw[e,fb,if_neg hk]⟩
theorem Lr.blank {s:ByteArray}{i:Nat}{r:List UInt8}(h:s.data.toList.drop i=32::r):Lr s i (i+1) []:=by
 obtain⟨hi,hb,_⟩:=drop_cons h
 have e:=lx_un hi
 have hb':bt s i=32:=hb
 rw[if_pos (by rw[hb'];exact .inl rfl)] at e
 exact⟨by rw[e];rfl,by rw[e]⟩
theorem word_first {c:UInt8}(h:c=95\/al c=true):¬blank (c.toNat:Int)/\¬(c.toNat:Int)=35:=by
 have e32:=cnat c 32 32 rfl
 have e9:=cnat c 9 9 rfl
 have e13:=cnat c 13 13 rfl
 have e35:=cnat c 35 35 rfl
 have hn:∀d:UInt8,al d=false->d ≠ 95->c ≠ d:=fun d h1 h2 e=>by
  subst e
  rcases h with h|h
  ·exact h2 h
  rw[h1] at h;cases h
 refine⟨?_,fun e=>hn 35 (by decide) (by decide) (e35.1 e)⟩
 rintro (e|e|e)
 ·exact hn 32 (by decide) (by decide) (e32.1 e)
 ·exact hn 9 (by decide) (by decide) (e9.1 e)
 exact hn 13 (by decide) (by decide) (e13.1 e)
def wT (x:List UInt8):T:=tkT (wTok x 0)
theorem wT_eq (x:List UInt8) (i:Nat):tkT (wTok x i)=wT x:=by
 unfold wT wTok
 split <;> rfl
theorem wTok_k (x:List UInt8) (i:Nat):(wTok x i).k=(wTok x 0).k:=by
 unfold wTok
 split <;> rfl
theorem wTok_tx (x:List UInt8) (i:Nat):(wTok x i).tx=ba x:=by
 unfold wTok
 split <;> rfl
theorem Lr.word {s:ByteArray}{i:Nat}{x r:List UInt8}(h:s.data.toList.drop i=x++r) (hx:okW x) (hr:sepW r) (hk:¬(wTok x 0).k=120):Lr s i (i+x.length) [wT x]:=by
 have ht:=tok_word h hx hr
 have hg:i<s.size/\¬Pl.blank (bt s i)/\¬bt s i=35:=by
  cases x with
  |nil=>exact hx.elim
  |cons c y =>
   obtain⟨h1,h2,_⟩:=drop_cons (r:=y++r) h
   rw[h2]
   exact⟨h1,word_first hx.1⟩
 have:=Lr.tok hg.1 hg.2.1 hg.2.2 ht (by rw[wTok_k];exact hk)
 rw[wTok_tx,ba_size,wT_eq] at this
 exact this
def sT (c:UInt8):T:=tkT (sTok c 0)
theorem Lr.sign {s:ByteArray}{i:Nat}{c:UInt8}{r:List UInt8}(h:s.data.toList.drop i=c::r) (h1:al c=false) (h2:c ≠ 95) (h3:c ≠ 58) (hb:c ≠ 32/\c ≠ 9/\c ≠ 13/\c ≠ 35) (hk:¬(sTok c 0).k=120):Lr s i (i+1) [sT c]:=by
 have ht:=tok_sign h h1 h2 h3
 obtain⟨hi,hbt,_⟩:=drop_cons h
 have e32:=cnat c 32 32 rfl
 have e9:=cnat c 9 9 rfl
 have e13:=cnat c 13 13 rfl
 have e35:=cnat c 35 35 rfl
 have hk':¬(sTok c i).k=120:=by
  unfold sTok at hk ⊢
  split at hk <;> split <;> simp_all
 have:=Lr.tok hi (by rw[hbt];rintro (e | e | e);exact hb.1 (e32.1 e);exact hb.2.1 (e9.1 e);exact hb.2.2.1 (e13.1 e)) (by rw[hbt];exact fun e=>hb.2.2.2 (e35.1 e)) ht hk'
 have e1:(sTok c i).tx.size=1:=by unfold sTok;split <;> rfl
 have e2:tkT (sTok c i)=sT c:=by unfold sT sTok;split <;> rfl
 rw[e1,e2] at this
 exact this
theorem Lr.col {s:ByteArray}{i:Nat}{d:UInt8}{r:List UInt8}(h:s.data.toList.drop i=58::d::r) (hd:d ≠ 61):Lr s i (i+1) [.col]:=by
 obtain⟨hi,hbt,_⟩:=drop_cons h
 have hb':bt s i=58:=hbt
 have:=Lr.tok hi (by rw[hb'];decide) (by rw[hb'];decide) (tok_col h hd) (show ¬(115:Int)=120 by decide)
 exact this
theorem Lr.asg {s:ByteArray}{i:Nat}{r:List UInt8}(h:s.data.toList.drop i=58::61::r):Lr s i (i+2) [.asg]:=by
 obtain⟨hi,hbt,_⟩:=drop_cons h
 have hb':bt s i=58:=hbt
 have:=Lr.tok hi (by rw[hb'];decide) (by rw[hb'];decide) (tok_asg h) (show ¬(115:Int)=120 by decide)
 exact this
end Pl
namespace Pl
def isWd:List UInt8->Bool
 |c::_=>decide (c=95) || al c
 |[]=>false
def kT (x:List UInt8):T:=match isWd x with | true=>wT x | false=>sT (x.headD 0)
def gkB (x:List UInt8):Bool:=match x with
 |[]=>false
 |c::y=>match isWd x with
  |true=>y.all al && decide (¬(wTok x 0).k=120)
  |false=>decide (y=[]) && decide (c ≠ 58) && decide (c ≠ 32) && decide (c ≠ 9) && decide (c ≠ 13) && decide (c ≠ 35) && decide (¬(sTok c 0).k=120)
theorem Lr.tk {s:ByteArray}{i:Nat}{x r:List UInt8}(h:s.data.toList.drop i=x++r) (hg:gkB x=true) (hr:isWd x=true->sepW r):Lr s i (i+x.length) [kT x]:=by
 cases x with
 |nil=>cases hg
 |cons c y =>
  unfold gkB at hg
  unfold kT
  cases hw:isWd (c::y) with
  |true =>
   rw[hw] at hg
   simp only[Bool.and_eq_true,decide_eq_true_eq] at hg
   have hc:c=95\/al c=true:=by
    have:(decide (c=95) || al c)=true:=hw
    simpa using this
   exact Lr.word h ⟨hc,hg.1⟩ (hr hw) hg.2
  |false =>
   rw[hw] at hg
   simp only[Bool.and_eq_true,decide_eq_true_eq] at hg
   obtain⟨⟨⟨⟨⟨⟨rfl,h1⟩,h2⟩,h3⟩,h4⟩,h5⟩,h6⟩:=hg
   have hc:(decide (c=95) || al c)=false:=hw
   rw[Bool.or_eq_false_iff,decide_eq_false_iff_not] at hc
   exact Lr.sign (r:=r) h hc.2 hc.1 h1 ⟨h2,h3,h4,h5⟩ h6
theorem sep_spt {t:List UInt8}(ht:isWd t=true):∀(a:List (List UInt8)) (r:List UInt8),(∀x∈a,gkB x=true)->(a=[]->sepW r)->sepW (spt tg t a++r)
 |[],r,_,h=>h rfl
 |u::a,r,hg,_=>by
  show sepW ((bl (tg t u)++u++spt tg u a)++r)
  cases hu:tg t u with
  |false=>exact(show al 32=false by decide)
  |true =>
   have hl:lfB t=false:=by
    have h:∀c:UInt8,al c=false->c ≠ 95->t ≠ [c]:=fun c h1 h2 e=>by
     rw[e] at ht
     have:(decide (c=95) || al c)=true:=ht
     rw[h1,decide_eq_false h2] at this
     cases this
    simp[lfB,h 40 (by decide) (by decide),h 64 (by decide) (by decide),h 46 (by decide) (by decide)]
   have hr:rtB u=true:=by
    unfold tg at hu
    rw[hl] at hu
    simpa using hu
   have:u=[41]\/u=[47]\/u=[92]\/u=[46]:=by
    simp only[rtB,Bool.or_eq_true,decide_eq_true_eq] at hr
    rcases hr with ((h|h)|h)|h
    ·exact .inl h
    ·exact .inr (.inl h)
    ·exact .inr (.inr (.inl h))
    exact .inr (.inr (.inr h))
   rcases this with rfl|rfl|rfl|rfl
   ·exact(show al 41=false by decide)
   ·exact(show al 47=false by decide)
   ·exact(show al 92=false by decide)
   exact(show al 46=false by decide)
theorem lex_spt {s:ByteArray}:∀(a:List (List UInt8)) (p:List UInt8) (i:Nat) (r:List UInt8),s.data.toList.drop i=spt tg p a++r->(∀x∈a,gkB x=true)->(isWd (lst p a)=true->sepW r)->Lr s i (i+(spt tg p a).length) (a.map kT)
 |[],p,i,r,h,_,_=>Lr.refl s i
 |t::a,p,i,r,h,hg,hr=>by
  have hs:spt tg p (t::a)=bl (tg p t)++t++spt tg t a:=rfl
  rw[hs] at h ⊢
  have hb:Lr s i (i+(bl (tg p t)).length) []/\s.data.toList.drop (i+(bl (tg p t)).length)=t++(spt tg t a++r):=by
   cases hb0:tg p t with
   |true =>
    rw[hb0] at h
    exact⟨Lr.refl _ _,by simpa[bl] using h⟩
   |false =>
    rw[hb0] at h
    have h':s.data.toList.drop i=32::(t++(spt tg t a++r)):=by simpa[bl] using h
    exact⟨Lr.blank h',(drop_cons h').2.2⟩
  have h2:=Lr.tk hb.2 (hg t sI) (fun hw=>sep_spt hw a r (fun x hx=>hg x (by simp[hx])) (fun e=>by subst e;exact hr hw))
  have h3:=lex_spt a t _ r (drop_app t hb.2) (fun x hx=>hg x (by simp[hx])) hr
  have:=(hb.1.trans h2).trans h3
  rw[List.length_append,List.length_append,<- Nat.add_assoc,<- Nat.add_assoc]
  exact this
theorem lex_sp {s:ByteArray}{t:List UInt8}{a:List (List UInt8)}{i:Nat}{r:List UInt8}(h:s.data.toList.drop i=sp tg (t::a)++r) (hg:∀x∈t::a,gkB x=true) (hr:sepW r):Lr s i (i+(sp tg (t::a)).length) ((t::a).map kT):=by
 have hs:sp tg (t::a)=t++spt tg t a:=rfl
 rw[hs] at h ⊢
 rw[List.append_assoc] at h
 have h2:=Lr.tk h (hg t sI) (fun hw=>sep_spt hw a r (fun x hx=>hg x (by simp[hx])) (fun _=>hr))
 have h3:=lex_spt a t _ r (drop_app t h) (fun x hx=>hg x (by simp[hx])) (fun _=>hr)
 have:=h2.trans h3
 rw[List.length_append,<- Nat.add_assoc]
 exact this
theorem wk_ok {x:List UInt8}(h:wk x ≠ 0):∃c y,x=c::y/\isL c=true/\x.all al=true/\x.length<=20:=by
 unfold wk at h
 split at h
 ·exact absurd rfl h
 rename_i h1
 split at h
 ·exact absurd rfl h
 rename_i h2
 split at h
 ·exact absurd rfl h
 rename_i h3
 split at h
 ·exact absurd rfl h
 rename_i h4
 cases x with
 |nil=>exact absurd rfl h1
 |cons c y=>exact⟨c,y,rfl,by simpa using h3,by rw[show (fun c=>isL c || isD c)=al from rfl] at h4;cases hq:(c::y).all al <;> simp_all,by omega⟩
theorem al_of_L {c:UInt8}(h:isL c=true):al c=true:=by unfold al;rw[h];rfl
theorem wTok_wd {x:List UInt8}(h:wk x ≠ 0) (i:Nat):wTok x i=⟨wkS (ba x),ba x,0,i⟩:=by
 obtain⟨c,y,rfl,h1,_,_⟩:=wk_ok h
 have h2:bt (ba (c::y)) 0=(c.toNat:Int):=(drop_cons (s:=ba (c::y)) (i:=0) (r:=y++[]) (ba_drop _)).2.1
 unfold wTok
 have hl:lttI (c.toNat:Int)=true:=by rw[ltt_eq];exact h1
 rw[h2,if_neg]
 rintro (e|e)
 ·rw[e] at hl;revert hl;decide
 simp only[lttI,digI,Bool.or_eq_true,decide_eq_true_eq] at hl e
 omega
theorem wkS_of {x:List UInt8}(h:wk x ≠ 0):wkS (ba x)=if wk x=3 then 70 else if wk x=4 then 115 else 119:=by
 obtain⟨c,y,rfl,h1,h2,h3⟩:=wk_ok h
 have hne:(ba (c::y)).data.toList ≠ []:=by simp[ba]
 have e:(ba (c::y)).data.toList=c::y:=rfl
 rw[wkS_eq _ hne (by rw[e];exact h1),e,if_neg oM]
 have hwk:wk (c::y)=if (c::y)=selfW\/isC c=true then 3 else if mgs.any (fun m=>decide (m.t=c::y))=true then 4 else 2:=by
  unfold wk
  rw[if_neg sI,if_neg (show ¬20<(c::y).length by omega),if_neg (show ¬isL ((c::y).headD 0)=false by rw[show (c::y).headD 0=c from rfl,h1];decide),show (fun c=>isL c || isD c)=al from rfl,if_neg (by rw[h2];decide)]
  rfl
 rw[hwk]
 show (if (c::y)=selfW\/isC c=true then (70:Int) else if mgs.any (fun m=>decide (m.t=c::y))=true then 115 else 119)=_
 by_cases q1:(c::y)=selfW\/isC c=true
 ·rw[if_pos q1,if_pos q1];rfl
 rw[if_neg q1,if_neg q1]
 by_cases q2:mgs.any (fun m=>decide (m.t=c::y))=true
 ·rw[if_pos q2,if_pos q2];rfl
 rw[if_neg q2,if_neg q2];rfl
theorem name_T {x:List UInt8}(h:wk x=2):gkB x=true/\kT x=.arr x:=by
 have h0:wk x ≠ 0:=by rw[h];decide
 have hk:=wkS_of h0
 have hw:=wTok_wd h0 0
 rw[h] at hk
 obtain⟨c,y,rfl,h1,h2,h3⟩:=wk_ok h0
 have hi:isWd (c::y)=true:=by show (decide (c=95) || al c)=true;rw[al_of_L h1,Bool.or_true]
 have hk':wkS (ba (c::y))=119:=hk
 constructor
 ·unfold gkB
  rw[hi,hw,hk']
  rw[List.all_cons,Bool.and_eq_true] at h2
  simp[h2.2]
 unfold kT wT
 rw[hi,hw,hk']
 rfl
theorem fn_T {x:List UInt8}(h:wk x=3):gkB x=true/\kT x=.fn x:=by
 have h0:wk x ≠ 0:=by rw[h];decide
 have hk:=wkS_of h0
 have hw:=wTok_wd h0 0
 rw[h] at hk
 obtain⟨c,y,rfl,h1,h2,h3⟩:=wk_ok h0
 have hi:isWd (c::y)=true:=by show (decide (c=95) || al c)=true;rw[al_of_L h1,Bool.or_true]
 have hk':wkS (ba (c::y))=70:=hk
 constructor
 ·unfold gkB
  rw[hi,hw,hk']
  rw[List.all_cons,Bool.and_eq_true] at h2
  simp[h2.2]
 unfold kT wT
 rw[hi,hw,hk']
 rfl
theorem mg_gk:∀m∈mgs,gkB m.t=true:=by decide
theorem mg_T:∀m∈mgs,kT m.t=.op m:=by
 intro m hm
 simp only[mgs,List.mem_cons,List.not_mem_nil,or_false] at hm
 rcases hm with rfl|rfl|rfl|rfl|rfl|rfl|rfl|rfl|rfl|rfl|rfl|rfl|rfl|rfl|rfl|rfl|rfl|rfl|rfl|rfl|rfl|rfl|rfl|rfl|rfl <;> rfl
theorem sgs_gk:gkB [47]=true/\gkB [92]=true/\gkB [64]=true/\gkB [46]=true/\gkB [40]=true/\gkB [41]=true:=by decide
theorem row_of {f:Fnv}(h:sgn f ≠ []):∃m∈mgs,sgn f=m.t/\(f=m.one\/f=m.two):=by
 unfold sgn at h ⊢
 split at h
 ·rename_i m e
  have:=List.find?_some e
  refine⟨m,List.mem_of_find?_eq_some e,rfl,?_⟩
  simpa using this
 exact absurd rfl h
theorem one_k:∀m∈mgs,m.ok=0\/m.ok=1\/m.ok=2\/m.ok=9:=by decide
theorem two_k:∀m∈mgs,m.tk=0\/m.tk=5\/m.tk=6:=by decide
theorem op_row {a:Int}(h:osg a ≠ []):∃m∈mgs,osg a=m.t/\en m=a/\a ≠ 0:=by
 have ho:=(osg_iff a).1 h
 obtain⟨m,hm,e,hf⟩:=row_of h
 have h5:(⟨5,a,0,[]⟩:Fnv)=m.two:=by
  rcases hf with hf|hf
  ·have h1:=congrArg Fnv.k hf
   have:=one_k m hm
   have h1':(5:Int)=m.ok:=h1
   omega
  exact hf
 have hk:(5:Int)=m.tk:=congrArg Fnv.k h5
 have ha:a=m.tw:=congrArg Fnv.a h5
 refine⟨m,hm,e,by unfold en;rw[if_pos hk.symm,ha],?_⟩
 unfold opk at ho
 simp only[Bool.and_eq_true,decide_eq_true_eq] at ho
 omega
theorem fn_one {f:Fnv}(h:oneB f=true):∃F:F,F.toks=(ftk f).map kT/\F.wf/\F.one=f/\F.one.k ≠ 0/\∀x∈ftk f,gkB x=true:=by
 unfold oneB at h
 unfold ftk
 by_cases h1:f.k=1\/f.k=2\/f.k=9
 ·rw[if_pos h1,decide_eq_true_eq] at h
  obtain⟨m,hm,e,hf⟩:=row_of h
  have hf':f=m.one:=by
   rcases hf with hf|hf
   ·exact hf
   have:=two_k m hm
   have h2:f.k=m.tk:=congrArg Fnv.k hf
   omega
  rw[if_neg oM,if_neg oM,if_neg oM,if_neg oM,if_neg oM,e]
  refine⟨.plain m,by rw[List.map_singleton,mg_T m hm];rfl,trivial,hf'.symm,?_,fun x hx=>by rw[List.mem_singleton.1 hx];exact mg_gk m hm⟩
  have:(F.plain m).one=f:=hf'.symm
  rw[this]
  omega
 rw[if_neg h1] at h
 by_cases h3:f.k=3\/f.k=4
 rotate_left 1
 ·rw[if_neg h3] at h
  unfold callB at h
  rw[Bool.and_eq_true,decide_eq_true_eq,decide_eq_true_eq] at h
  have hk:f.k=10:=congrArg Fnv.k h.2
  rw[if_neg oM,if_neg oM,if_neg oM,if_neg oM,if_pos hk]
  have ht:=fn_T h.1
  exact⟨.call f.nm,by rw[List.map_singleton,ht.2];rfl,trivial,h.2.symm,(by decide:(10:Int) ≠ 0),fun x hx=>by rw[List.mem_singleton.1 hx];exact ht.1⟩
 rw[if_pos h3,Bool.and_eq_true,decide_eq_true_eq,decide_eq_true_eq] at h
 obtain⟨m,hm,e,ha,h0⟩:=op_row h.1
 have hf:f=⟨f.k,f.a,0,[]⟩:=h.2
 rcases h3 with h3|h3
 ·rw[if_pos h3,e]
  refine⟨.red m,by simp only[List.map_cons,List.map_nil,mg_T m hm];rfl,by show en m ≠ 0;omega,?_,(show (3:Int) ≠ 0 by decide),fun x hx=>?_⟩
  ·show (⟨3,en m,0,[]⟩:Fnv)=f
   rw[hf,ha,h3]
  simp only[List.mem_cons,List.not_mem_nil,or_false] at hx
  rcases hx with rfl|rfl
  ·exact mg_gk m hm
  decide
 rw[if_neg oM,if_pos h3,e]
 refine⟨.scan m,by simp only[List.map_cons,List.map_nil,mg_T m hm];rfl,by show en m ≠ 0;omega,?_,(show (4:Int) ≠ 0 by decide),fun x hx=>?_⟩
 ·show (⟨4,en m,0,[]⟩:Fnv)=f
  rw[hf,ha,h3]
 simp only[List.mem_cons,List.not_mem_nil,or_false] at hx
 rcases hx with rfl|rfl
 ·exact mg_gk m hm
 decide
theorem fn_two {f:Fnv}(h:twoB f=true):∃F:F,F.toks=(ftk f).map kT/\F.wf/\F.two=f/\F.two.k ≠ 0/\∀x∈ftk f,gkB x=true:=by
 unfold twoB at h
 unfold ftk
 by_cases h1:f.k=5\/f.k=6
 ·rw[if_pos h1,decide_eq_true_eq] at h
  obtain⟨m,hm,e,hf⟩:=row_of h
  have hf':f=m.two:=by
   rcases hf with hf|hf
   ·have:=one_k m hm
    have h2:f.k=m.ok:=congrArg Fnv.k hf
    omega
   exact hf
  rw[if_neg oM,if_neg oM,if_neg oM,if_neg oM,if_neg oM,e]
  refine⟨.plain m,by rw[List.map_singleton,mg_T m hm];rfl,trivial,hf'.symm,?_,fun x hx=>by rw[List.mem_singleton.1 hx];exact mg_gk m hm⟩
  have:(F.plain m).two=f:=hf'.symm
  rw[this]
  omega
 rw[if_neg h1] at h
 by_cases h7:f.k=7
 ·rw[if_pos h7,Bool.and_eq_true,decide_eq_true_eq,decide_eq_true_eq] at h
  obtain⟨m,hm,e,ha,h0⟩:=op_row h.1
  have hf:f=⟨f.k,f.a,0,[]⟩:=h.2
  rw[if_neg oM,if_neg oM,if_pos h7,e]
  refine⟨.outer m,by simp only[List.map_cons,List.map_nil,mg_T m hm];rfl,by show en m ≠ 0;omega,?_,(show (7:Int) ≠ 0 by decide),fun x hx=>?_⟩
  ·show (⟨7,en m,0,[]⟩:Fnv)=f
   rw[hf,ha,h7]
  simp only[List.mem_cons,List.not_mem_nil,or_false] at hx
  rcases hx with rfl|rfl
  ·decide
  exact mg_gk m hm
 rw[if_neg h7] at h
 by_cases h8:f.k=8
 ·rw[if_pos h8,Bool.and_eq_true,Bool.and_eq_true,decide_eq_true_eq,decide_eq_true_eq,decide_eq_true_eq] at h
  obtain⟨m,hm,e,ha,h0⟩:=op_row h.1.1
  obtain⟨m',hm',e',ha',h0'⟩:=op_row h.1.2
  rw[if_neg oM,if_neg oM,if_neg h7,if_pos h8,e,e']
  refine⟨.inner m m',by simp only[List.map_cons,List.map_nil,mg_T m hm,mg_T m' hm'];rfl,⟨by omega,by omega⟩,?_,(show (8:Int) ≠ 0 by decide),fun x hx=>?_⟩
  ·show (⟨8,en m,en m',[]⟩:Fnv)=f
   rw[ha,ha',<- h8,<- h.2]
  simp only[List.mem_cons,List.not_mem_nil,or_false] at hx
  rcases hx with rfl|rfl|rfl
  ·exact mg_gk m hm
  ·decide
  exact mg_gk m' hm'
 rw[if_neg h8] at h
 unfold callB at h
 rw[Bool.and_eq_true,decide_eq_true_eq,decide_eq_true_eq] at h
 have hk:f.k=10:=congrArg Fnv.k h.2
 rw[if_neg oM,if_neg oM,if_neg h7,if_neg h8,if_pos hk]
 have ht:=fn_T h.1
 exact⟨.call f.nm,by rw[List.map_singleton,ht.2];rfl,trivial,h.2.symm,(by decide:(10:Int) ≠ 0),fun x hx=>by rw[List.mem_singleton.1 hx];exact ht.1⟩
end Pl
namespace Pl
def NtOk (nt:Int->List UInt8):Prop:=(∀n,lfB (nt n)=false/\rtB (nt n)=false)/\∀n:Int,-3000000000<=n->n<=3000000000->gkB (nt n)=true/\kT (nt n)=.num n
theorem nums_ok {l:List Int}(h:numsB l=true):∃v vs,l=v::vs/\l.length<=1000/\∀n∈l,-3000000000<=n/\n<=3000000000:=by
 unfold numsB at h
 simp only[Bool.and_eq_true,decide_eq_true_eq] at h
 obtain⟨⟨h1,h2⟩,h3⟩:=h
 cases l with
 |nil=>simp at h2
 |cons v vs =>
  refine⟨v,vs,rfl,h3,fun n hn=>?_⟩
  have:=List.all_eq_true.1 h1 n hn
  simpa using this
theorem at_ex {nt:Int->List UInt8}(hnt:NtOk nt) {s:Sv}(h:sok s=true) (h0:ar s=0):∃o:O,o.toks=(fa nt s).map kT/\o.wf/\o.code=[s]/\o.nest=0/\o.long=false/\∀x∈fa nt s,gkB x=true:=by
 have hk:s.k=1\/s.k=2:=by
  unfold ar at h0
  split at h0
  ·assumption
  split at h0 <;> cases h0
 obtain⟨k,nums,nm,fn⟩:=s
 unfold sok at h
 rcases hk with rfl|rfl
 ·simp only[if_true,Bool.and_eq_true,decide_eq_true_eq] at h
  obtain⟨⟨h1,rfl⟩,rfl⟩:=h
  obtain⟨v,vs,rfl,h2,h3⟩:=nums_ok h1
  have hT:∀l:List Int,(∀n∈l,-3000000000<=n/\n<=3000000000)->(l.map nt).map kT=l.map .num:=fun l hl=>by
   rw[List.map_map]
   exact List.map_congr_left fun n hn=>(hnt.2 n (hl n hn).1 (hl n hn).2).2
  have hf:fa nt ⟨1,v::vs,[],f0⟩=(v::vs).map nt:=rfl
  rw[hf]
  refine⟨.nums v vs,by rw[hT _ h3];rfl,trivial,rfl,rfl,?_,fun x hx=>?_⟩
  ·show decide (1000<vs.length+1)=false
   rw[List.length_cons] at h2
   exact decide_eq_false oM
  obtain⟨n,hn,rfl⟩:=List.mem_map.1 hx
  exact(hnt.2 n (h3 n hn).1 (h3 n hn).2).1
 rw[if_neg (show ¬(2:Int)=1 by decide)] at h
 simp only[if_true,Bool.and_eq_true,decide_eq_true_eq] at h
 obtain⟨⟨h1,rfl⟩,rfl⟩:=h
 have ht:=name_T h1
 have hf:fa nt ⟨2,[],nm,f0⟩=[nm]:=rfl
 rw[hf]
 exact⟨.name nm,by rw[List.map_singleton,ht.2];rfl,trivial,rfl,rfl,rfl,fun x hx=>by rw[List.mem_singleton.1 hx];exact ht.1⟩
theorem step_fn {s:Sv}(h:sok s=true) (h0:ar s ≠ 0):(s=⟨3,[],[],s.fn⟩/\oneB s.fn=true/\ar s=1)\/(s=⟨4,[],[],s.fn⟩/\twoB s.fn=true/\ar s=2):=by
 obtain⟨k,nums,nm,fn⟩:=s
 unfold sok at h
 unfold ar at h0 ⊢
 simp only at h h0 ⊢
 by_cases h1:k=1
 ·exact absurd (if_pos (.inl h1)) h0
 by_cases h2:k=2
 ·exact absurd (if_pos (.inr h2)) h0
 rw[if_neg h1,if_neg h2] at h
 by_cases h3:k=3
 ·subst h3
  simp only[if_true,Bool.and_eq_true,decide_eq_true_eq] at h
  obtain⟨⟨h4,rfl⟩,rfl⟩:=h
  exact .inl ⟨rfl,h4,rfl⟩
 rw[if_neg h3] at h
 by_cases h4:k=4
 ·subst h4
  simp only[if_true,Bool.and_eq_true,decide_eq_true_eq] at h
  obtain⟨⟨h5,rfl⟩,rfl⟩:=h
  exact .inr ⟨rfl,h5,rfl⟩
 rw[if_neg h4] at h;cases h
theorem nd_ex {nt:Int->List UInt8}(hnt:NtOk nt):∀t:Nd Sv,t.Wf ar->(∀s∈t.post,sok s=true) ->
  (∃e:E,e.toks=(toks (fa nt) ff t).map kT/\e.wf/\e.code=t.post/\e.nest=nest t/\e.long=false) /\
  (∃o:O,o.toks=(match bareN t with | true=>toks (fa nt) ff t | false=>[40]::(toks (fa nt) ff t++[[41]])).map kT/\o.wf/\o.code=t.post/\o.nest=(match bareN t with | true=>nest t | false=>nest t+1)/\o.long=false)/\∀x∈toks (fa nt) ff t,gkB x=true:=by
 have k40:kT [40]=.lp:=rfl
 have k41:kT [41]=.rp:=rfl
 intro t
 induction t with
 |«at» s =>
  intro w h
  obtain⟨o,h1,h2,h3,h4,h5,h6⟩:=at_ex hnt (h s (by simp[Nd.post])) w
  exact⟨⟨.opd o,h1,h2,h3,h4,h5⟩,⟨o,h1,h2,h3,h4,h5⟩,h6⟩
 |one s r ih =>
  intro w h
  obtain⟨⟨e,e1,e2,e3,e4,e5⟩,_,e6⟩:=ih w.2 (fun x hx=>h x (by simp[Nd.post,hx]))
  rcases step_fn (h s (by simp[Nd.post])) (by have:=w.1;omega) with ⟨hs,h1,h2⟩|⟨hs,h1,h2⟩
  rotate_left 1
  ·have:=w.1;omega
  obtain⟨F,f1,f2,f3,f4,f5⟩:=fn_one h1
  have hg:∀x∈toks (fa nt) ff (.one s r),gkB x=true:=fun x hx=>by
   rcases List.mem_append.1 hx with q|q
   ·exact f5 x q
   exact e6 x q
  have ex:∃e:E,e.toks=(toks (fa nt) ff (.one s r)).map kT/\e.wf/\e.code=(Nd.one s r).post/\e.nest=nest (.one s r)/\e.long=false:=by
   refine⟨.one F e,?_,⟨f2,f4,e2⟩,?_,e4,e5⟩
   ·show F.toks++e.toks=(ff s++toks (fa nt) ff r).map kT
    rw[f1,e1,List.map_append]
    rfl
   show e.code++[⟨3,[],[],F.one⟩]=r.post++[s]
   rw[e3,f3,<- hs]
  obtain⟨e',g1,g2,g3,g4,g5⟩:=ex
  refine⟨⟨e',g1,g2,g3,g4,g5⟩,⟨.br e',?_,g2,g3,?_,g5⟩,hg⟩
  ·show T.lp::(e'.toks++[.rp])=_
   rw[g1]
   show _=kT [40]::((toks (fa nt) ff (.one s r)++[[41]]).map kT)
   rw[List.map_append,k40]
   rfl
  show e'.nest+1=_
  rw[g4]
  rfl
 |two s l r il ir =>
  intro w h
  obtain⟨_,⟨o,o1,o2,o3,o4,o5⟩,o6⟩:=il w.2.1 (fun x hx=>h x (by simp[Nd.post,hx]))
  obtain⟨⟨e,e1,e2,e3,e4,e5⟩,_,e6⟩:=ir w.2.2 (fun x hx=>h x (by simp[Nd.post,hx]))
  rcases step_fn (h s (by simp[Nd.post])) (by have:=w.1;omega) with ⟨hs,h1,h2⟩|⟨hs,h1,h2⟩
  ·have:=w.1;omega
  obtain⟨F,f1,f2,f3,f4,f5⟩:=fn_two h1
  have hg:∀x∈toks (fa nt) ff (.two s l r),gkB x=true:=fun x hx=>by
   rcases List.mem_append.1 hx with q|q
   ·cases hb:bareN l with
    |true=>rw[hb] at q;exact o6 x q
    |false =>
     rw[hb] at q
     rcases List.mem_cons.1 q with rfl|q
     ·decide
     rcases List.mem_append.1 q with q|q
     ·exact o6 x q
     rw[List.mem_singleton.1 q];decide
   rcases List.mem_append.1 q with q|q
   ·exact f5 x q
   exact e6 x q
  have ex:∃e:E,e.toks=(toks (fa nt) ff (.two s l r)).map kT/\e.wf/\e.code=(Nd.two s l r).post/\e.nest=nest (.two s l r)/\e.long=false:=by
   refine⟨.two o F e,?_,⟨o2,f2,f4,e2⟩,?_,?_,?_⟩
   ·show o.toks++(F.toks++e.toks)=((match bareN l with | true=>toks (fa nt) ff l | false=>[40]::(toks (fa nt) ff l++[[41]]))++(ff s++toks (fa nt) ff r)).map kT
    rw[f1,e1,o1,List.map_append,List.map_append]
    rfl
   ·show e.code++(o.code++[⟨4,[],[],F.two⟩])=r.post++l.post++[s]
    rw[e3,o3,f3,<- hs,List.append_assoc]
   ·show max e.nest o.nest=max (match bareN l with | true=>nest l | false=>nest l+1) (nest r)
    rw[e4,o4,Nat.max_comm]
   show (e.long || o.long)=false
   rw[e5,o5]
   rfl
  obtain⟨e',g1,g2,g3,g4,g5⟩:=ex
  refine⟨⟨e',g1,g2,g3,g4,g5⟩,⟨.br e',?_,g2,g3,?_,g5⟩,hg⟩
  ·show T.lp::(e'.toks++[.rp])=_
   rw[g1]
   show _=kT [40]::((toks (fa nt) ff (.two s l r)++[[41]]).map kT)
   rw[List.map_append,k40]
   rfl
  show e'.nest+1=_
  rw[g4]
  rfl
theorem sp_cons {l:List (List UInt8)}(h:sp tg l ≠ []):∃t a,l=t::a:=by
 cases l with
 |nil=>exact absurd rfl h
 |cons t a=>exact⟨t,a,rfl⟩
theorem xt_ex {nt:Int->List UInt8}(hnt:NtOk nt) {c:List Sv}{u:List UInt8}(h:xt nt c=some u):∃e:E,e.wf/\e.code=c/\e.bey 0=false/\∀(s:ByteArray) (i:Nat) (r:List UInt8),s.data.toList.drop i=u++r->sepW r->Lr s i (i+u.length) e.toks:=by
 unfold xt at h
 split at h
 rotate_left 1
 ·cases h
 rename_i t hn
 split at h
 rotate_left 1
 ·cases h
 rename_i hc
 obtain⟨_,_,hp,hw⟩:=nd_le hn
 simp only[List.take_zero,List.nil_append,List.take_length] at hp
 have hs:∀s∈t.post,sok s=true:=fun s hm=>List.all_eq_true.1 hc.1 s (by rw[hp];exact hm)
 obtain⟨⟨e,e1,e2,e3,e4,e5⟩,_,e6⟩:=nd_ex hnt t hw hs
 have hu:u=sp tg (toks (fa nt) ff t):=by
  rw[node_text hnt.1 hw hs]
  exact(Option.some.inj h).symm
 refine⟨e,e2,by rw[e3,<- hp],?_,fun s i r hd hr=>?_⟩
 ·rw[E.bey_eq,e5,e4]
  have:=hc.2
  simp
  omega
 cases htk:toks (fa nt) ff t with
 |nil =>
  rw[htk] at e1
  exact absurd e1 (E.ne e2)
 |cons x a =>
  rw[htk] at hu e1 e6
  rw[hu] at hd ⊢
  rw[e1]
  exact lex_sp hd e6 hr
end Pl
theorem uRt41 {P:Prop}(h:P:=by decide):P:=h
theorem uRt42 {P:Prop}(h:P:=by simp only[List.length_append,List.length_cons,List.length_nil];omega):P:=h
namespace Pl
def gtoks:List (E × E)->List T
 |[]=>[]
 |(x,y)::g=>x.toks++(.col::(y.toks++(.sep::gtoks g)))
def S.toks:S->List T
 |.val e=>e.toks
 |.asg nm e=>.arr nm::.asg::e.toks
 |.fn nm gs e=>.fn nm::.asg::.lb::(gtoks gs++(e.toks++[.rb]))
def S.wf:S->Prop
 |.val e=>e.wf
 |.asg _ e=>e.wf
 |.fn nm gs e=>nm ≠ selfW/\(∀g∈gs,g.1.wf/\g.2.wf)/\e.wf
def ptoks:List S->List T
 |[]=>[]
 |s::l=>s.toks++(.sep::ptoks l)
theorem sep_c {c:UInt8}{r:List UInt8}(h:al c=false):sepW (c::r):=h
theorem s59:sT 59=.sep:=rfl
theorem s10:sT 10=.sep:=rfl
theorem s123:sT 123=.lb:=rfl
theorem s125:sT 125=.rb:=rfl
theorem Lr.len {s:ByteArray}{i j j':Nat}{ts:List T}(h:Lr s i j ts) (e:j=j'):Lr s i j' ts:=e ▸ h
theorem gtx_ex {nt:Int->List UInt8}(hnt:NtOk nt):∀(gs:List Gv) (u:List UInt8),gtx nt gs=some u->∃g:List (E × E),g.map gv=gs/\(∀x∈g,x.1.wf/\x.2.wf)/\gsB g=false/\∀(s:ByteArray) (i:Nat) (r:List UInt8),s.data.toList.drop i=u++r->Lr s i (i+u.length) (gtoks g)
 |[],u,h=>by
  cases h
  exact⟨[],rfl,nofun,rfl,fun s i r _=>Lr.refl _ _⟩
 |g::gs,u,h=>by
  unfold gtx at h
  split at h
  rotate_left 1
  ·cases h
  rename_i a b t ha hb ht
  cases h
  obtain⟨x,x1,x2,x3,x4⟩:=xt_ex hnt ha
  obtain⟨y,y1,y2,y3,y4⟩:=xt_ex hnt hb
  obtain⟨l,l1,l2,l3,l4⟩:=gtx_ex hnt gs t ht
  refine⟨(x,y)::l,?_,fun z hz=>?_,?_,fun s i r hd=>?_⟩
  ·rw[List.map_cons,l1]
   show (⟨x.code,y.code⟩:Gv)::gs=_
   rw[x2,y2]
  ·rcases List.mem_cons.1 hz with rfl|hz
   ·exact⟨x1,y1⟩
   exact l2 z hz
  ·show ((x.bey 0 || y.bey 0) || gsB l)=false
   rw[x3,y3,l3]
   rfl
  have d0:s.data.toList.drop i=a++(32::58::32::(b++(59::32::(t++r)))):=by rw[hd];simp
  have h0:=x4 s i _ d0 (sep_c uRt41)
  have d1:=drop_app a d0
  have h1:=Lr.blank d1
  have d2:=(drop_cons d1).2.2
  have h2:=Lr.col d2 uRt41
  have d3:=(drop_cons d2).2.2
  have h3:=Lr.blank d3
  have d4:=(drop_cons d3).2.2
  have h4:=y4 s _ _ d4 (sep_c uRt41)
  have d5:=drop_app b d4
  have h5:=Lr.sign d5 uRt41 uRt41 uRt41 uRt41 uRt41
  have d6:=(drop_cons d5).2.2
  have h6:=Lr.blank d6
  have d7:=(drop_cons d6).2.2
  have h7:=l4 s _ _ d7
  have:=((((((h0.trans h1).trans h2).trans h3).trans h4).trans h5).trans h6).trans h7
  have e:x.toks++[]++[T.col]++[]++y.toks++[sT 59]++[]++gtoks l=gtoks ((x,y)::l):=by
   rw[s59]
   show _=x.toks++(T.col::(y.toks++(T.sep::gtoks l)))
   simp
  rw[e] at this
  refine this.len ?_
  simp only[List.length_append,List.length_cons,List.length_nil]
  omega
theorem stx_ex {nt:Int->List UInt8}(hnt:NtOk nt) {t:Tv}{u:List UInt8}(h:stx nt t=some u):∃S:S,S.tv=t/\S.wf/\S.bey=false/\∀(s:ByteArray) (i:Nat) (r:List UInt8),s.data.toList.drop i=u++r->sepW r->Lr s i (i+u.length) S.toks:=by
 obtain⟨k,nm,code,gs⟩:=t
 unfold stx at h
 split at h
 rotate_left 1
 ·cases h
 rename_i e g he hg
 obtain⟨x,x1,x2,x3,x4⟩:=xt_ex hnt he
 obtain⟨l,l1,l2,l3,l4⟩:=gtx_ex hnt gs g hg
 simp only at h
 by_cases h1:k=1
 ·rw[if_pos h1] at h
  split at h
  ·rename_i hc
   cases h
   refine⟨.val x,?_,x1,x3,x4⟩
   show (⟨1,[],x.code,[]⟩:Tv)=_
   rw[x2,h1,hc.1,hc.2]
  cases h
 rw[if_neg h1] at h
 by_cases h2:k=2
 ·rw[if_pos h2] at h
  split at h
  rotate_left 1
  ·cases h
  rename_i hc
  cases h
  have ht:=name_T hc.1
  refine⟨.asg nm x,?_,x1,x3,fun s i r hd hr=>?_⟩
  ·show (⟨2,nm,x.code,[]⟩:Tv)=_
   rw[x2,h2,hc.2]
  have d0:s.data.toList.drop i=nm++(32::58::61::32::(e++r)):=by rw[hd];simp
  have h0:=Lr.tk d0 ht.1 (fun _=>sep_c uRt41)
  have d1:=drop_app nm d0
  have h1:=Lr.blank d1
  have d2:=(drop_cons d1).2.2
  have h2:=Lr.asg d2
  have d3:=(drop_cons (drop_cons d2).2.2).2.2
  have h3:=Lr.blank d3
  have d4:=(drop_cons d3).2.2
  have h4:=x4 s _ _ d4 hr
  have:=(((h0.trans h1).trans h2).trans h3).trans h4
  rw[ht.2] at this
  exact this.len uRt42
 rw[if_neg h2] at h
 by_cases h3:k=3
 rotate_left 1
 ·rw[if_neg h3] at h;cases h
 rw[if_pos h3] at h
 split at h
 rotate_left 1
 ·cases h
 rename_i hc
 cases h
 have ht:=fn_T hc.1
 refine⟨.fn nm l x,?_,⟨hc.2,l2,x1⟩,?_,fun s i r hd hr=>?_⟩
 ·show (⟨3,nm,x.code,l.map fun g=>⟨g.1.code,g.2.code⟩⟩:Tv)=_
  rw[x2,h3]
  exact congrArg _ l1
 ·show (gsB l || x.bey 0)=false
  rw[l3,x3]
  rfl
 have d0:s.data.toList.drop i=nm++(32::58::61::32::123::(g++(e++(125::r)))):=by rw[hd];simp
 have h0:=Lr.tk d0 ht.1 (fun _=>sep_c uRt41)
 have d1:=drop_app nm d0
 have h1:=Lr.blank d1
 have d2:=(drop_cons d1).2.2
 have h2:=Lr.asg d2
 have d3:=(drop_cons (drop_cons d2).2.2).2.2
 have h3:=Lr.blank d3
 have d4:=(drop_cons d3).2.2
 have h4:=Lr.sign d4 uRt41 uRt41 uRt41 uRt41 uRt41
 have d5:=(drop_cons d4).2.2
 have h5:=l4 s _ _ d5
 have d6:=drop_app g d5
 have h6:=x4 s _ _ d6 (sep_c uRt41)
 have d7:=drop_app e d6
 have h7:=Lr.sign d7 uRt41 uRt41 uRt41 uRt41 uRt41
 have:=((((((h0.trans h1).trans h2).trans h3).trans h4).trans h5).trans h6).trans h7
 rw[ht.2,s123,s125] at this
 have e':[T.fn nm]++[]++[T.asg]++[]++[T.lb]++gtoks l++x.toks++[T.rb]=S.toks (.fn nm l x):=by
  show _=T.fn nm::T.asg::T.lb::(gtoks l++(x.toks++[T.rb]))
  simp
 rw[e'] at this
 exact this.len uRt42
theorem ltx_ex {nt:Int->List UInt8}(hnt:NtOk nt):∀(p:List Tv) (u:List UInt8),ltx nt p=some u->∃l:List S,l.map S.tv=p/\(∀x∈l,x.wf)/\l.any S.bey=false/\∀(s:ByteArray) (i:Nat) (r:List UInt8),s.data.toList.drop i=u++r->Lr s i (i+u.length) (ptoks l)
 |[],u,h=>by
  cases h
  exact⟨[],rfl,nofun,rfl,fun s i r _=>Lr.refl _ _⟩
 |t::p,u,h=>by
  unfold ltx at h
  split at h
  rotate_left 1
  ·cases h
  rename_i a b ha hb
  cases h
  obtain⟨x,x1,x2,x3,x4⟩:=stx_ex hnt ha
  obtain⟨l,l1,l2,l3,l4⟩:=ltx_ex hnt p b hb
  refine⟨x::l,by rw[List.map_cons,l1,x1],fun z hz=>?_,by rw[List.any_cons,x3,l3];rfl,fun s i r hd=>?_⟩
  ·rcases List.mem_cons.1 hz with rfl|hz
   ·exact x2
   exact l2 z hz
  have d0:s.data.toList.drop i=a++(10::(b++r)):=by rw[hd];simp
  have h0:=x4 s i _ d0 (sep_c uRt41)
  have d1:=drop_app a d0
  have h1:=Lr.sign d1 uRt41 uRt41 uRt41 uRt41 uRt41
  have d2:=(drop_cons d1).2.2
  have h2:=l4 s _ _ d2
  have:=(h0.trans h1).trans h2
  rw[s10] at this
  have e:x.toks++[T.sep]++ptoks l=ptoks (x::l):=by
   show _=x.toks++(T.sep::ptoks l)
   simp
  rw[e] at this
  exact this.len uRt42
theorem seps_e {e:E}(h:e.wf) (r:List T):seps (e.toks++r)=e.toks++r:=by
 have hn:=E.ne h
 have hi:=E.ein e
 cases ht:e.toks with
 |nil=>exact absurd ht hn
 |cons t l =>
  rw[ht] at hi
  exact seps_cons (fun q=>by have:=hi t sI;rw[q] at this;cases this) _
theorem pc {n:Nat}{e:E}{r:List T}(hw:e.wf) (hr:stop r=true) (hn:2 * e.toks.length<=n):pexpr n (e.toks++r)=some (e,r):=(pcomplete n).1 e r (by have:=E.sz_le e hw;omega) hw hr
theorem gt_len (x y:E) (g:List (E × E)):(gtoks ((x,y)::g)).length=x.toks.length+y.toks.length+(gtoks g).length+2:=by
 show (x.toks++(T.col::(y.toks++(T.sep::gtoks g)))).length=_
 simp only[List.length_append,List.length_cons]
 omega
theorem pb_rt {n:Nat}{e:E}(hw:e.wf) (R:List T):∀(g:List (E × E)) (k:Nat),(∀x∈g,x.1.wf/\x.2.wf)->g.length<k->2 * ((gtoks g).length+e.toks.length)<=n->pbody n k (gtoks g++(e.toks++(.rb::R)))=some (g,e,R)
 |[],k,_,hk,hn=>by
  obtain⟨k,rfl⟩:∃m,k=m+1:=⟨k-1,by omega⟩
  have h1:=pc (n:=n) (r:=.rb::R) hw rfl oM
  show pbody n (k+1) (e.toks++(.rb::R))=_
  rw[pb_end h1 (fun r' q=>by cases q)]
  rfl
 |(x,y)::g,k,hg,hk,hn=>by
  obtain⟨k,rfl⟩:∃m,k=m+1:=⟨k-1,by omega⟩
  obtain⟨hx,hy⟩:x.wf/\y.wf:=hg (x,y) sI
  rw[gt_len] at hn
  rw[List.length_cons] at hk
  have e0:gtoks ((x,y)::g)++(e.toks++(.rb::R))=x.toks++(.col::(y.toks++(.sep::(gtoks g++(e.toks++(.rb::R)))))):=by
   show x.toks++(T.col::(y.toks++(T.sep::gtoks g)))++_=_
   simp
  have h1:=pc (n:=n) (r:=.col::(y.toks++(.sep::(gtoks g++(e.toks++(.rb::R)))))) hx rfl oM
  have h2:=pc (n:=n) (r:=.sep::(gtoks g++(e.toks++(.rb::R)))) hy rfl oM
  have h3:=pb_rt (n:=n) hw R g k (fun z hz=>hg z (by simp[hz])) oM oM
  have h4:seps (gtoks g++(e.toks++(.rb::R)))=gtoks g++(e.toks++(.rb::R)):=by
   cases g with
   |nil=>exact seps_e hw _
   |cons z g =>
    obtain⟨z1,z2⟩:=z
    have hz:=(hg (z1,z2) sI).1
    have e1:gtoks ((z1,z2)::g)++(e.toks++(.rb::R))=z1.toks++((.col::(z2.toks++(.sep::gtoks g)))++(e.toks++(.rb::R))):=by
     show z1.toks++(T.col::(z2.toks++(T.sep::gtoks g)))++_=_
     simp
    rw[e1]
    exact seps_e hz _
  rw[e0,pb_col h1 h2,h4,h3]
  rfl
theorem gl_len:∀(g:List (E × E)),(∀x∈g,x.1.wf/\x.2.wf)->g.length<=(gtoks g).length
 |[],_=>Nat.le_refl _
 |(x,y)::g,h=>by
  have:=gl_len g (fun z hz=>h z (by simp[hz]))
  rw[gt_len,List.length_cons]
  omega
theorem ps_rt {n:Nat}{s:S}(hw:s.wf) (r:List T) (hn:2 * s.toks.length+1<=n):pstmt n n (s.toks++(.sep::r))=some (s,.sep::r):=by
 cases s with
 |val e =>
  have h1:=pc (n:=n) (r:=.sep::r) hw rfl (by show 2 * e.toks.length<=n;have:2 * e.toks.length+1<=n:=hn;omega)
  show pstmt n n (e.toks++(.sep::r))=_
  rw[pstmt_default (E.noAsg e (.inr ⟨r,rfl⟩) (E.ne hw)),h1]
 |asg nm e =>
  have hn':2 * (e.toks.length+2)+1<=n:=hn
  have h1:=pc (n:=n) (r:=.sep::r) hw rfl oM
  show pstmt n n (.arr nm::.asg::(e.toks++(.sep::r)))=_
  rw[ps_asg,h1]
  rfl
 |fn nm gs e =>
  have hn':2 * (S.toks (.fn nm gs e)).length+1<=n:=hn
  have hl:(S.toks (.fn nm gs e)).length=(gtoks gs).length+e.toks.length+4:=by
   show (T.fn nm::T.asg::T.lb::(gtoks gs++(e.toks++[T.rb]))).length=_
   simp only[List.length_append,List.length_cons,List.length_nil]
   omega
  rw[hl] at hn'
  obtain⟨w1,w2,w3⟩:=hw
  have hg:=gl_len gs w2
  have h1:=pb_rt (n:=n) w3 (.sep::r) gs n w2 oM oM
  have e0:S.toks (.fn nm gs e)++(.sep::r)=.fn nm::.asg::.lb::(gtoks gs++(e.toks++(.rb::.sep::r))):=by
   show T.fn nm::T.asg::T.lb::(gtoks gs++(e.toks++[T.rb]))++_=_
   simp
  have h4:seps (gtoks gs++(e.toks++(.rb::.sep::r)))=gtoks gs++(e.toks++(.rb::.sep::r)):=by
   cases gs with
   |nil=>exact seps_e w3 _
   |cons z g =>
    obtain⟨z1,z2⟩:=z
    have hz:=(w2 (z1,z2) sI).1
    have e1:gtoks ((z1,z2)::g)++(e.toks++(.rb::.sep::r))=z1.toks++((.col::(z2.toks++(.sep::gtoks g)))++(e.toks++(.rb::.sep::r))):=by
     show z1.toks++(T.col::(z2.toks++(T.sep::gtoks g)))++_=_
     simp
    rw[e1]
    exact seps_e hz _
  rw[e0,ps_fn w1,h4,h1]
  rfl
theorem s_first {s:S}(hw:s.wf) (r:List T):∃t l,s.toks++r=t::l/\t ≠ .sep:=by
 cases s with
 |val e =>
  have hn:=E.ne hw
  have hi:=E.ein e
  show ∃t l,e.toks++r=t::l/\_
  cases ht:e.toks with
  |nil=>exact absurd ht hn
  |cons t l =>
   rw[ht] at hi
   exact⟨t,l++r,rfl,fun q=>by have:=hi t sI;rw[q] at this;cases this⟩
 |asg nm e=>exact⟨_,_,rfl,nofun⟩
 |fn nm gs e=>exact⟨_,_,rfl,nofun⟩
theorem pp_rt {n:Nat}:∀(l:List S) (k:Nat),(∀x∈l,x.wf)->l.length<k->2 * (ptoks l).length+1<=n->pprog n k (ptoks l)=some l
 |[],k,_,_,_=>pp_nil
 |s::l,k,hw,hk,hn=>by
  obtain⟨k,rfl⟩:∃m,k=m+1:=⟨k-1,by omega⟩
  rw[List.length_cons] at hk
  have e0:ptoks (s::l)=s.toks++(.sep::ptoks l):=rfl
  rw[e0] at hn ⊢
  rw[List.length_append,List.length_cons] at hn
  have h1:=ps_rt (n:=n) (hw s sI) (ptoks l) oM
  have h2:=pp_rt (n:=n) l k (fun x hx=>hw x (by simp[hx])) oM oM
  have h3:seps (ptoks l)=ptoks l:=by
   cases l with
   |nil=>rfl
   |cons x l =>
    obtain⟨t,q,e,hne⟩:=s_first (hw x sI) (.sep::ptoks l)
    show seps (x.toks++(.sep::ptoks l))=x.toks++(.sep::ptoks l)
    rw[e]
    exact seps_cons hne q
  obtain⟨t,q,e,hne⟩:=s_first (hw s sI) (.sep::ptoks l)
  rw[e] at h1 ⊢
  rw[pp_sep h1,h3,h2]
  rfl
theorem pl_len:∀(l:List S),(∀x∈l,x.wf)->l.length<=(ptoks l).length
 |[],_=>Nat.le_refl _
 |s::l,h=>by
  have:=pl_len l (fun x hx=>h x (by simp[hx]))
  show _<=(s.toks++(.sep::ptoks l)).length
  rw[List.length_append,List.length_cons,List.length_cons]
  omega
theorem prt_rt {nt:Int->List UInt8}(hnt:NtOk nt) {p:List Tv}(h:(prt nt p).2=true):∃l:List S,l.map S.tv=p/\l.any S.bey=false/\(ba (prt nt p).1).size<=4000/\fb (lxT (ba (prt nt p).1) 0)=none/\pprog (2 * (lxT (ba (prt nt p).1) 0).length+1) ((lxT (ba (prt nt p).1) 0).length+1) (seps ((lxT (ba (prt nt p).1) 0).map tkT))=some l:=by
 unfold prt at h ⊢
 split at h
 rotate_left 1
 ·cases h
 rename_i hs
 rw[if_pos hs]
 split at h
 rotate_left 1
 ·cases h
 rename_i t ht
 split at h
 rotate_left 1
 ·cases h
 rename_i hl
 rw[if_pos hl]
 simp only
 obtain⟨l,l1,l2,l3,l4⟩:=ltx_ex hnt p t ht
 have h0:=l4 (ba t) 0 [] (ba_drop t)
 rw[Nat.zero_add] at h0
 have he:lxT (ba t) t.length=[]:=lx_end (by rw[ba_size];exact Nat.le_refl _)
 have hm:=h0.m
 have hb:=h0.b
 rw[he] at hm hb
 simp only[List.map_nil,List.append_nil] at hm
 have hlen:(lxT (ba t) 0).length=(ptoks l).length:=by rw[<- hm,List.length_map]
 have h3:seps (ptoks l)=ptoks l:=by
  cases l with
  |nil=>rfl
  |cons x l =>
   obtain⟨t,q,e,hne⟩:=s_first (l2 x sI) (.sep::ptoks l)
   show seps (x.toks++(.sep::ptoks l))=x.toks++(.sep::ptoks l)
   rw[e]
   exact seps_cons hne q
 refine⟨l,l1,l3,by rw[ba_size];exact hl,hb,?_⟩
 rw[hm,h3,hlen]
 exact pp_rt l _ l2 (by have:=pl_len l l2;omega) (Nat.le_refl _)
end Pl
namespace Pl
theorem bt_ba {x:List UInt8}{j:Nat}(h:j<x.length):bt (ba x) j=((x[j]).toNat:Int):=by
 unfold bt ba
 simp[h]
theorem dv_congr {s t:ByteArray}:∀k,(∀j,j<k->bt s j=bt t j)->dv s k=dv t k
 |0,_=>rfl
 |k+1,h=>by
  show dv s k * 10+(bt s k-48)=dv t k * 10+(bt t k-48)
  rw[dv_congr k (fun j hj=>h j oM),h k oM]
theorem dv_snoc (x:List UInt8) (c:UInt8):dv (ba (x++[c])) (x++[c]).length=dv (ba x) x.length * 10+((c.toNat:Int)-48):=by
 have e:(x++[c]).length=x.length+1:=by simp
 rw[e]
 show dv (ba (x++[c])) x.length * 10+(bt (ba (x++[c])) x.length-48)=_
 rw[bt_ba sI,dv_congr (t:=ba x) x.length (fun j hj=>by rw[bt_ba (by simp;omega),bt_ba hj,List.getElem_append_left hj])]
 simp
theorem dv_dig (u:Nat):dv (ba (Lib.decDigits u)) (Lib.decDigits u).length=u:=by
 induction u using Nat.strongRecOn with
 |_ u ih =>
  rw[Lib.decDigits]
  split
  ·rename_i h
   have:=dv_snoc [] (UInt8.ofNat (48+u))
   rw[List.nil_append] at this
   rw[this]
   have e:(UInt8.ofNat (48+u)).toNat=48+u:=by rw[UInt8.toNat_ofNat'];omega
   rw[e]
   simp[dv]
   omega
  rename_i h
  rw[dv_snoc,ih (u / 10) oM]
  have e:(UInt8.ofNat (48+u % 10)).toNat=48+u % 10:=by rw[UInt8.toNat_ofNat'];omega
  rw[e]
  omega
theorem dig_len:∀(k u:Nat),u<10 ^ (k+1)->(Lib.decDigits u).length<=k+1
 |0,u,h=>by
  rw[Lib.decDigits,dif_pos oM]
  simp
 |k+1,u,h=>by
  rw[Lib.decDigits]
  split
  ·simp
  have h10:10 ^ (k+1+1)=10 ^ (k+1) * 10:=Nat.pow_succ ..
  have:=dig_len k (u / 10) oM
  simp
  omega
theorem numR_dig (u:Nat) (h:u<=3000000000):numR (ba (Lib.decDigits u))=((u:Int),true):=by
 have hs:(ba (Lib.decDigits u)).size=(Lib.decDigits u).length:=ba_size _
 have hd:digs (ba (Lib.decDigits u)) (ba (Lib.decDigits u)).size:=fun j hj=>by
  rw[hs] at hj
  rw[bt_ba hj,digI_iff]
  have:=dig_mem u _ (List.getElem_mem hj)
  omega
 have hl:(Lib.decDigits u).length<=10:=dig_len 9 u oM
 have hp:0<(Lib.decDigits u).length:=List.length_pos_iff.2 (dig_ne u)
 unfold numR
 rw[if_pos ⟨hd,by omega⟩,hs,dv_dig]
 simp
 exact⟨hp,by omega⟩
theorem al_dig {c:UInt8}(h:48<=c.toNat/\c.toNat<=57):al c=true:=by
 unfold al isD
 simp only[Bool.or_eq_true,Bool.and_eq_true,decide_eq_true_eq,UInt8.le_iff_toNat_le]
 exact .inr ⟨h.1,h.2⟩
theorem wTok_num {x:List UInt8}{n:Int}(h0:bt (ba x) 0=95\/digI (bt (ba x) 0)=true) (hn:numS (ba x)=(n,true)):wTok x 0=⟨110,ba x,n,0⟩:=by
 unfold wTok
 rw[if_pos h0,hn]
 rfl
theorem nt_ok:NtOk nt:=by
 refine⟨nt_fine,fun n h1 h2=>?_⟩
 have key:∀(c:UInt8) (y:List UInt8),nt n=c::y->(c=95\/al c=true)->y.all al=true->(bt (ba (c::y)) 0=95\/digI (bt (ba (c::y)) 0)=true)->numS (ba (c::y))=(n,true)->gkB (nt n)=true/\kT (nt n)=.num n:=by
  intro c y e hc hy hb hs
  have hw:isWd (c::y)=true:=by
   unfold isWd
   rcases hc with r|r
   ·simp[r]
   simp[r]
  have ht:=wTok_num hb hs
  rw[e]
  unfold gkB kT wT
  simp only[hw,ht,hy]
  exact⟨by decide,rfl⟩
 by_cases hneg:n<0
 ·have e:nt n=95::Lib.decDigits n.natAbs:=by unfold nt;rw[if_pos hneg]
  have hb:bt (ba (95::Lib.decDigits n.natAbs)) 0=95:=by rw[bt_ba sI];rfl
  refine key 95 _ e (.inl rfl) (List.all_eq_true.2 fun c hc=>al_dig (dig_mem _ c hc)) (.inl hb) ?_
  have hx:(ba (95::Lib.decDigits n.natAbs)).extract 1 (ba (95::Lib.decDigits n.natAbs)).size=ba (Lib.decDigits n.natAbs):=by
   have:=ext_drop (s:=ba (95::Lib.decDigits n.natAbs)) (i:=1) (x:=Lib.decDigits n.natAbs) (r:=[]) (by simp[ba])
   rw[<- this]
   congr 1
   rw[ba_size,List.length_cons]
   omega
  unfold numS
  rw[if_pos hb,hx,numR_dig _ oM]
  simp
  omega
 have e:nt n=Lib.decDigits n.toNat:=by unfold nt;rw[if_neg hneg]
 have hm:=dig_mem n.toNat
 have hR:=numR_dig n.toNat oM
 cases hx:Lib.decDigits n.toNat with
 |nil=>exact absurd hx (dig_ne _)
 |cons c y =>
  rw[hx] at e hm hR
  have hc:=hm c sI
  have hb:bt (ba (c::y)) 0=(c.toNat:Int):=by rw[bt_ba sI];rfl
  refine key c y e (.inr (al_dig hc)) (List.all_eq_true.2 fun d hd=>al_dig (hm d (by simp[hd]))) (.inr (by rw[hb,digI_iff];omega)) ?_
  unfold numS
  rw[if_neg (by rw[hb];omega),hR]
  congr 1
  omega
theorem prs_prt {p:List Tv}(h:(prt nt p).2=true):prsS (ba (prt nt p).1)=(p,0,0)/\(ba (prt nt p).1).size<=4000:=by
 obtain⟨l,h1,h2,h3,h4,h5⟩:=prt_rt nt_ok h
 refine⟨?_,h3⟩
 rw[prs_pp oM h4,h5]
 simp only
 rw[if_neg (by rw[h2];simp),h1]
theorem prt_false {nt:Int->List UInt8}{p:List Tv}(h:(prt nt p).2=false):(prt nt p).1=[]:=by
 unfold prt at h ⊢
 split
 rotate_left 1
 ·rfl
 rename_i hs
 rw[if_pos hs] at h
 split
 ·rename_i t ht
  rw[ht] at h
  simp only at h
  split
  ·rename_i hl
   rw[if_pos hl] at h
   cases h
  rfl
 rfl
end Pl
end Go.Proofs.YtbiiicbfpcfgdaaGreatDoor
