import Derived.Test.YtacapaiadggemaaGreatValid2
namespace Go.Proofs.YtacapaiadggemaaGreat
open Go.RowKit
set_option maxRecDepth 100000
set_option maxHeartbeats 16000000
set_option linter.unusedVariables false
theorem l2Made_any (B:Nat) (a0 a1:Option Addr) (n d0 d1:Nat) (zs:List Int) (w:World) (hl:zs.length<=1048576) (h:Rd B w (.slice a0 zs.length d0) zs) (hB:B<=w.heap.size) :
  Calls Tryz.prog 62 #[.slice a0 zs.length d0,.slice a1 n d1] w fun e w'=>Below w.heap.size w w' /\
   ((Pl.fitsB zs=true/\e=.returned (.tuple #[.agg #[.slice a0 zs.length d0,.slice a1 n d1],.int .i64 0]))\/(Pl.fitsB zs=false/\e=.returned (.tuple #[.agg #[.slice none 0 0,.slice none 0 0],.int .i64 6]))):=by
 have A:Hid (∀o,Below w.heap.size w (w.alloc o)):=fun o=>(Below.refl _ _).alloc (Nat.le_refl _) _
 have K:Hid (∀o,Calls Tryz.prog 52 #[.slice a0 zs.length d0] (w.alloc o) fun e w'=>e=.returned (.bool (Pl.fitsB zs))/\w'=w.alloc o):=fun o=>l1Fits_any B _ zs _ hl (h.keep ((A.out o).mono hB))
 clear h
 by_cases hf:Pl.fitsB zs=true
 ·rw [hf] at K
  have HF:=hideP hf
  clear hf
  go_enter Tryz.func62,Tryz.ntmps62
  go_wp2_with (go_at_call 52; refine (K.out _).mono ?_; rintro e w' ⟨rfl,rfl⟩)
  refine bodyPost_ret (v:=.tuple #[.agg #[.slice a0 zs.length d0,.slice a1 n d1],.int .i64 0]) (by simp [results,Tryz.results62,go_sem]) rfl ⟨A.out _,.inl ⟨HF.out,rfl⟩⟩
 have hf':Pl.fitsB zs=false:=by simpa using hf
 rw [hf'] at K
 have HF:=hideP hf'
 clear hf hf'
 go_enter Tryz.func62,Tryz.ntmps62
 go_wp2_with (go_at_call 52; refine (K.out _).mono ?_; rintro e w' ⟨rfl,rfl⟩)
 refine bodyPost_ret (v:=.tuple #[.agg #[.slice none 0 0,.slice none 0 0],.int .i64 6]) (by simp [results,Tryz.results62,go_sem]) rfl ⟨A.out _,.inr ⟨HF.out,rfl⟩⟩
theorem step_append_at {base B:Nat} {ops:Array Oper} {o:Oper} {a:Act} {K:Act->World->Prop} {Q:Exit->Act->World->Prop} {E:Prop} (w:World) (hg:o.guard=none) (s y:Operand)
  (hop:o.op=Op.call { callee:=Callee.builtin Builtin.append,args:=#[s,y],argTypes:=#[23,23] }) (v u:Value) (hs:a.eval s=v) (hx:a.eval y=u) (n:Nat) (ys xs:List Int)
  (hown:w.ownsRow base 3 1 v n (ys.map (Value.int .i64))) (hrd:Rd B w u xs) (hbd:n+xs.length<=16777216) (hbase:base<=w.heap.size)
  (hK:∀v' w',w'.ownsRow base 3 1 v' (n+xs.length) ((ys++xs).map (Value.int .i64))->w.grownBy w' v.ownBlock->(v'.ownBlock=v.ownBlock\/v'.ownBlock=some w.heap.size)->K (a.put o.dst v') w'):if Region.wanted o (yielded ops a.tmps)=true then Oper.wp Tryz.prog o a w K Q else E:=by
 obtain ⟨v',w',hr,ho,hb,hat⟩:=append_rd_at w v n ys hown u xs hrd hbd hbase o.type
 exact step_append_eq hg s y _ hop v _ v' hs hx hr (hK v' w' ho hb hat)
theorem wpList_append_one_at {base:Nat} (w:World) (x:Int) (t:TypeId) {ops:Array Oper} {rest:List Oper} {o:Oper} {a:Act} {Q:Exit->Act->World->Prop} (hg:o.guard=none) (s y:Operand)
  (hop:o.op=Op.call { callee:=Callee.builtin Builtin.append,args:=#[s,y],argTypes:=#[23,23] }) (v:Value) (hs:a.eval s=v) (hx:a.eval y=.slice (some ⟨w.heap.size,0,none⟩) 1 1) (n:Nat) (ys:List Int)
  (hown:w.ownsRow base 3 1 v n (ys.map (Value.int .i64))) (hbd:n+1<=16777216) (hbase:base<=w.heap.size)
  (hK:∀v' w',w'.ownsRow base 3 1 v' (n+1) ((ys++[x]).map (Value.int .i64))->(w.alloc (.cells #[.int .i64 x] t)).grownBy w' v.ownBlock->(v'.ownBlock=v.ownBlock\/v'.ownBlock=some (w.heap.size+1))->wpList Tryz.prog ops Q rest (a.put o.dst v') w'):wpList Tryz.prog ops Q (o::rest) a (w.alloc (.cells #[.int .i64 x] t)):=by
 have hrd:Rd (w.heap.size+1) (w.alloc (.cells #[.int .i64 x] t)) (.slice (some ⟨w.heap.size,0,none⟩) 1 1) [x]:=by
  refine ⟨_,_,rfl,.inr ⟨w.heap.size,0,by omega,rfl,fun i hi=>?_⟩⟩
  have:i=0:=by simp at hi; omega
  subst this
  simp [go_sem]
 obtain ⟨v',w',hr,ho,hb,hat⟩:=append_rd_at _ v n ys (hown.alloc _) _ [x] hrd hbd (by simp; omega) o.type
 exact wpList_append_eq _ w' hg s y _ hop v _ v' hs hx hr (hK v' w' ho hb (by simpa using hat))
structure Rg (wv:World) (oc:Option (Value × List Int)) (og op:Option Nat) (w:World):Prop where
 bel:Below wv.heap.size wv w
 c:∀v zs,oc=some (v,zs)->w.ownsRow wv.heap.size 3 1 v zs.length (zs.map (Value.int .i64))
 g:∀k,og=some k->w.ownsRow wv.heap.size 3 1 (.slice (some ⟨k,0,none⟩) 0 0) 0 (([]:List Int).map (Value.int .i64))
 p:∀k,op=some k->wv.heap.size<=k/\w.heap[k]? = some (.cells #[.slice none 0 0,.slice none 0 0] 25 (0,0))
 cg:∀v zs k,oc=some (v,zs)->og=some k->¬v.ownBlock=some k
theorem Rg.start (wv:World):Rg wv none none none wv.drew:=⟨(Below.refl _ _).drew,(by intro _ _ h; cases h),(by intro _ h; cases h),(by intro _ h; cases h),(by intro _ _ _ h; cases h)⟩
theorem Rg.keep {wv w w':World} {oc:Option (Value × List Int)} {og op:Option Nat} (h:Rg wv oc og op w) (hb:Below w.heap.size w w'):Rg wv oc og op w' :=
 ⟨h.bel.trans (hb.mono h.bel.size),fun v zs e=>owns_keep (h.c v zs e) hb,fun k e=>owns_keep (h.g k e) hb,fun k e=>⟨(h.p k e).1,by
  have:=(h.p k e).2
  rw [hb.block k (Array.getElem?_eq_some_iff.1 this).1]
  exact this⟩,h.cg⟩
theorem Rg.copy {wv w w':World} {og op:Option Nat} (h:Rg wv none og op w) {v:Value} {zs:List Int} (ho:w'.ownsRow w.heap.size 3 1 v zs.length (zs.map (Value.int .i64))) (hb:Below w.heap.size w w'):Rg wv (some (v,zs)) og op w':=by
 have k:=h.keep hb
 refine ⟨k.bel,?_,k.g,k.p,?_⟩
 ·intro v' zs' e
  simp only [Option.some.injEq,Prod.mk.injEq] at e
  obtain ⟨rfl,rfl⟩:=e
  exact owns_base ho h.bel.size
 intro v' zs' k' e e' e2
 simp only [Option.some.injEq,Prod.mk.injEq] at e
 obtain ⟨rfl,rfl⟩:=e
 have h1:=(ho.lt k' e2).1
 have h2:=((h.g k' e').lt k' rfl).2
 omega
theorem Rg.app {wv w w':World} {og op:Option Nat} {v v':Value} {zs xs sh:List Int} (h:Rg wv (some (v,zs)) og op w) (e:zs++xs=sh) (ho:w'.ownsRow wv.heap.size 3 1 v' (zs.length+xs.length) ((zs++xs).map (Value.int .i64)))
  (hg:w.grownBy w' v.ownBlock) (hat:v'.ownBlock=v.ownBlock\/v'.ownBlock=some w.heap.size):Rg wv (some (v',sh)) og op w':=by
 subst e
 have hv:=h.c v zs rfl
 refine ⟨h.bel.grown hg h.bel.size (fun k hk=>(hv.lt k hk).1),?_,?_,?_,?_⟩
 ·intro v1 zs1 e
  simp only [Option.some.injEq,Prod.mk.injEq] at e
  obtain ⟨rfl,rfl⟩:=e
  rw [List.length_append]
  exact ho
 ·intro k e
  refine (h.g k e).kept hg (.inr ?_)
  intro e2
  exact h.cg v zs k rfl e e2.symm
 ·intro k e
  refine ⟨(h.p k e).1,?_⟩
  have hp:=(h.p k e).2
  rw [hg.block k (Array.getElem?_eq_some_iff.1 hp).1 (fun e2=>own_ne hv hp (by decide) e2.symm)]
  exact hp
 intro v1 zs1 k e e' e2
 simp only [Option.some.injEq,Prod.mk.injEq] at e
 obtain ⟨rfl,rfl⟩:=e
 rcases hat with hat | hat
 ·rw [hat] at e2
  exact h.cg v zs k rfl e' e2
 rw [hat] at e2
 have h2:=((h.g k e').lt k rfl).2
 simp only [Option.some.injEq] at e2
 omega
theorem Rg.lit {wv w:World} {oc:Option (Value × List Int)} {op:Option Nat} (h:Rg wv oc none op w):Rg wv oc (some w.heap.size) op (w.alloc (.cells #[] 3)):=by
 have k:=h.keep ((Below.refl w.heap.size w).alloc (Nat.le_refl _) (.cells #[] 3))
 refine ⟨k.bel,k.c,?_,k.p,?_⟩
 ·intro k' e
  simp only [Option.some.injEq] at e
  subst e
  exact owns_empty w _ h.bel.size
 intro v zs k' e e' e2
 simp only [Option.some.injEq] at e'
 subst e'
 have:=((h.c v zs e).lt _ e2).2
 omega
theorem Rg.var {wv w:World} {oc:Option (Value × List Int)} {og:Option Nat} (h:Rg wv oc og none w):Rg wv oc og (some w.heap.size) (w.alloc (.cells #[.slice none 0 0,.slice none 0 0] 25)):=by
 have k:=h.keep ((Below.refl w.heap.size w).alloc (Nat.le_refl _) (.cells #[.slice none 0 0,.slice none 0 0] 25))
 refine ⟨k.bel,k.c,k.g,?_,k.cg⟩
 intro k' e
 simp only [Option.some.injEq] at e
 subst e
 exact ⟨h.bel.size,heap_alloc_new w _⟩
structure Lp (wv:World) (sh:List Int) (P:Nat) (u0 nv:Value) (zs:List Int) (w:World):Prop where
 bel:Below wv.heap.size wv w
 le:wv.heap.size<=P
 blk:w.heap[P]? = some (.cells #[u0,nv] 25 (0,0))
 c:w.ownsRow wv.heap.size 3 1 u0 sh.length (sh.map (Value.int .i64))
 d:w.ownsRow wv.heap.size 3 1 nv zs.length (zs.map (Value.int .i64))
 ap:∀k,u0.ownBlock=some k->¬nv.ownBlock=some k
def Mk (wv:World) (sh:List Int) (P:Nat) (cc:Int) (u0 u1:Value) (w:World):Prop :=
 Below wv.heap.size wv w/\((Pl.fitsB sh=true/\cc=0/\Lp wv sh P u0 u1 [] w)\/(Pl.fitsB sh=false/\cc=6/\wv.heap.size<=P/\w.heap[P]? = some (.cells #[.slice none 0 0,.slice none 0 0] 25 (0,0))))
theorem blk_two {w:World} {P:Nat} {a b u0 u1:Value} (h:w.heap[P]? = some (.cells #[a,b] 25 (0,0))):((w.setCell ⟨P,0,none⟩ u0).setCell ⟨P,1,none⟩ u1).heap[P]? = some (.cells #[u0,u1] 25 (0,0)) :=
 heap_setCell_same _ P 1 #[u0,b] 25 u1 (heap_setCell_same w P 0 #[a,b] 25 u0 h)
theorem owns_two {base n P:Nat} {w:World} {v a b u0 u1:Value} {xs:List Value} (h:w.ownsRow base 3 1 v n xs) (hP:w.heap[P]? = some (.cells #[a,b] 25 (0,0))):((w.setCell ⟨P,0,none⟩ u0).setCell ⟨P,1,none⟩ u1).ownsRow base 3 1 v n xs :=
 (h.kept (grown_setCell w P 0 u0) (.inr (own_ne h hP (by decide)))).kept (grown_setCell _ P 1 u1) (.inr (own_ne h hP (by decide)))
theorem Rg.done {wv w:World} {v:Value} {sh:List Int} {k P:Nat} {cc:Int} {u0 u1:Value} (h:Rg wv (some (v,sh)) (some k) (some P) w)
  (hm:(Pl.fitsB sh=true/\cc=0/\u0=v/\u1=.slice (some ⟨k,0,none⟩) 0 0)\/(Pl.fitsB sh=false/\cc=6/\u0=.slice none 0 0/\u1=.slice none 0 0)) :
  Mk wv sh P cc u0 u1 ((w.setCell ⟨P,0,none⟩ u0).setCell ⟨P,1,none⟩ u1):=by
 have hP:=(h.p P rfl).2
 have hle:=(h.p P rfl).1
 have hb:Below wv.heap.size wv ((w.setCell ⟨P,0,none⟩ u0).setCell ⟨P,1,none⟩ u1):=(h.bel.setCell hle _).setCell hle _
 refine ⟨hb,?_⟩
 rcases hm with ⟨hf,rfl,rfl,rfl⟩ | ⟨hf,rfl,rfl,rfl⟩
 ·refine .inl ⟨hf,rfl,hb,hle,blk_two hP,owns_two (h.c _ _ rfl) hP,owns_two (h.g _ rfl) hP,?_⟩
  intro k' e e2
  simp [Value.ownBlock] at e2
  subst e2
  exact h.cg _ _ k rfl rfl e
 exact .inr ⟨hf,rfl,hle,blk_two hP⟩
theorem Lp.step {wv wr w9:World} {sh zs:List Int} {P:Nat} {u0 nv v':Value} {r:Int} {t:TypeId} (h:Lp wv sh P u0 nv zs wr) (hg:(wr.alloc (.cells #[.int .i64 r] t)).grownBy w9 nv.ownBlock)
  (ho:w9.ownsRow wv.heap.size 3 1 v' (zs.length+1) ((zs++[r]).map (Value.int .i64))) (hat:v'.ownBlock=nv.ownBlock\/v'.ownBlock=some (wr.heap.size+1)) :
  w9.heap[P]? = some (.cells #[u0,nv] 25 (0,0))/\Lp wv sh P u0 v' (zs++[r]) (w9.setCell ⟨P,1,none⟩ v'):=by
 have hs:=h.bel.size
 have k:Below wr.heap.size wr (wr.alloc (.cells #[.int .i64 r] t)):=(Below.refl _ _).alloc (Nat.le_refl _) _
 have hc:w9.ownsRow wv.heap.size 3 1 u0 sh.length (sh.map (Value.int .i64)):=by
  refine (owns_keep h.c k).kept hg ?_
  rcases hb:u0.ownBlock with _ | b
  ·exact .inl rfl
  right
  intro e
  exact h.ap b hb e.symm
 obtain ⟨h1,h2,h3,h4⟩:=out_step h.blk h.d h.le h.bel hg ho
 refine ⟨h1,h4,h.le,h2,?_,?_,?_⟩
 ·exact hc.kept (grown_setCell w9 P 1 v') (.inr (own_ne hc h1 (by decide)))
 ·rw [List.length_append]
  exact h3
 intro b e e2
 rcases hat with hat | hat
 ·rw [hat] at e2
  exact h.ap b e e2
 rw [hat] at e2
 have:=(h.c.lt b e).2
 simp only [Option.some.injEq] at e2
 omega
theorem Lp.quiet {wv wr wq:World} {sh zs:List Int} {P:Nat} {u0 nv:Value} (h:Lp wv sh P u0 nv zs wr) (hb:Below wr.heap.size wr wq):Lp wv sh P u0 nv zs wq :=
 ⟨h.bel.trans (hb.mono h.bel.size),h.le,by
  rw [hb.block P (Array.getElem?_eq_some_iff.1 h.blk).1]
  exact h.blk,owns_keep h.c hb,owns_keep h.d hb,h.ap⟩
theorem l2Made_two (B:Nat) (a0 a1:Option Addr) (n d0 d1:Nat) (zs:List Int) (w:World) (hl:zs.length<=1048576) (h:Rd B w (.slice a0 zs.length d0) zs) (hB:B<=w.heap.size) :
  Calls Tryz.prog 62 #[.slice a0 zs.length d0,.slice a1 n d1] w fun e w'=>∃q0 n0 c0 q1 n1 c1 cc,e=.returned (.tuple #[.agg #[.slice q0 n0 c0,.slice q1 n1 c1],.int .i64 cc])/\Below w.heap.size w w' /\
   ((Pl.fitsB zs=true/\cc=0/\Value.slice q0 n0 c0=.slice a0 zs.length d0/\Value.slice q1 n1 c1=.slice a1 n d1)\/(Pl.fitsB zs=false/\cc=6/\Value.slice q0 n0 c0=.slice none 0 0/\Value.slice q1 n1 c1=.slice none 0 0)):=by
 refine (l2Made_any B a0 a1 n d0 d1 zs w hl h hB).mono ?_
 rintro e w' ⟨hb,⟨hf,rfl⟩ | ⟨hf,rfl⟩⟩
 ·exact ⟨_,_,_,_,_,_,_,rfl,hb,.inl ⟨hf,rfl,rfl,rfl⟩⟩
 exact ⟨_,_,_,_,_,_,_,rfl,hb,.inr ⟨hf,rfl,rfl,rfl⟩⟩
theorem Rd.sub {B:Nat} {w:World} {b off cap:Nat} {zs:List Int} (h:Rd B w (.slice (some ⟨b,off,none⟩) zs.length cap) zs) (i j:Nat) (hij:i<=j) (hj:j<=zs.length) (c':Nat) :
  Rd B w (.slice (some ⟨b,off+i,none⟩) (j-i) c') ((zs.drop i).take (j-i)):=by
 have hl:((zs.drop i).take (j-i)).length=j-i:=by simp; omega
 refine ⟨some ⟨b,off+i,none⟩,c',by rw [hl],?_⟩
 by_cases hz:j-i=0
 ·exact .inl (by rw [hl,hz])
 obtain ⟨ao,cp,e,g⟩:=h
 rcases g with g | ⟨b',off',hB,e2,hc⟩
 ·omega
 simp only [Value.slice.injEq] at e
 have e3:=e.1.trans e2
 simp only [Option.some.injEq,Addr.mk.injEq,and_true] at e3
 obtain ⟨rfl,rfl⟩:=e3
 refine .inr ⟨b,off+i,hB,rfl,fun q hq=>?_⟩
 rw [hl] at hq
 rw [Nat.add_assoc,hc (i+q) (by omega)]
 have h1:i+q<zs.length:=by omega
 simp [List.getD,hq]
theorem rd_zero (B:Nat) (w:World) (ao:Option Addr) (c:Nat) (zs:List Int) (h:zs.length=0):Rd B w (.slice ao 0 c) zs:=⟨ao,c,by rw [h],.inl h⟩
theorem rows_any (B b off cap s i j:Nat) (zs:List Int) (w:World) (hd:Rd B w (.slice (some ⟨b,off,none⟩) zs.length cap) zs) (hi:i<=j) (hn:j * s<=zs.length) (hc:zs.length<=cap) (hc2:cap<=9223372036854775807) :
  Calls Tryz.prog 126 #[.slice (some ⟨b,off,none⟩) zs.length cap,.int .i64 (s:Int),.int .i64 (i:Int),.int .i64 (j:Int)] w fun e w'=>∃v,e=.returned v/\Rd B w v ((zs.drop (i * s)).take (j * s-i * s))/\w'=w:=by
 have h1:i * s<=j * s:=Nat.mul_le_mul_right s hi
 have R:=hideP (fun c'=>hd.sub (i * s) (j * s) h1 hn c')
 have Z:Hid (j * s-i * s=0->∀c',Rd B w (.slice (some ⟨b,off,none⟩) (j * s-i * s) c') ((zs.drop (i * s)).take (j * s-i * s))):=fun h c'=>by
  rw [h]
  exact rd_zero _ _ _ _ _ (by simp)
 have e1:((i:Int) * (s:Int))=((i * s:Nat):Int):=by simp
 have e2:((j:Int) * (s:Int))=((j * s:Nat):Int):=by simp
 generalize (zs.drop (i * s)).take (j * s-i * s)=L at *
 generalize i * s=p at *
 generalize j * s=q at *
 generalize zs.length=n at *
 clear hd
 by_cases hp:cap=p
 ·subst hp
  go_enter Tryz.func126,Tryz.ntmps126
  go_wp2_with fail
  go_ret
  exact ⟨_,rfl,Z.out (by omega) _,rfl⟩
 go_enter Tryz.func126,Tryz.ntmps126
 go_wp2_with fail
 go_ret
 exact ⟨_,rfl,R.out _,rfl⟩
theorem rd_tail {B:Nat} {w:World} {b off cap:Nat} {zs:List Int} (h:Rd B w (.slice (some ⟨b,off,none⟩) zs.length cap) zs) (h1:1<=zs.length) (c':Nat):Rd B w (.slice (some ⟨b,off+1,none⟩) (zs.length-1) c') zs.tail:=by
 have:=h.sub 1 zs.length h1 (Nat.le_refl _) c'
 have e:(zs.drop 1).take (zs.length-1)=zs.tail:=by
  rw [List.take_of_length_le (by simp)]
  simp
 rw [e] at this
 exact this
theorem l2Row_any (b0 o0 c0 b1 o1 c1 i n:Nat) (sh da:List Int) (w:World) (h0:Rd w.heap.size w (.slice (some ⟨b0,o0,none⟩) sh.length c0) sh) (h1:Rd w.heap.size w (.slice (some ⟨b1,o1,none⟩) da.length c1) da) (hl:1<=sh.length) (hl3:sh.length<=3) (hld:da.length<=1000) (hc0:sh.length<=c0) (hc0':c0<=9223372036854775807) (hc1:da.length<=c1) (hc1':c1<=9223372036854775807)
  (hr:sh.all Pl.inR=true) (hp:Pl.prodC sh.tail=n) (hi:(i+1) * n<=da.length) (hi2:i<=1000) :
  Calls Tryz.prog 100 #[.agg #[.slice (some ⟨b0,o0,none⟩) sh.length c0,.slice (some ⟨b1,o1,none⟩) da.length c1],.int .i64 (i:Int)] w fun e w'=>∃u0 u1,e=.returned (.agg #[u0,u1])/\Res w.heap.size w' u0 u1 sh.tail ((da.drop (i * n)).take n)/\Below w.heap.size w w':=by
 have B:Hid (∀o o',Below w.heap.size w ((w.alloc o).alloc o')):=fun o o'=>((Below.refl _ _).alloc (Nat.le_refl _) _).alloc (by simp) _
 have htl:sh.tail.length=sh.length-1:=by simp
 have hrt:sh.tail.all Pl.inR=true:=by
  simp only [List.all_eq_true] at hr ⊢
  exact fun x hx=>hr x (List.mem_of_mem_tail hx)
 have hm:i * n+n=(i+1) * n:=by rw [Nat.succ_mul]
 have RT:=hideP (fun c'=>rd_tail h0 hl c')
 have RZ:Hid (sh.length-1=0->∀c',Rd w.heap.size w (.slice (some ⟨b0,o0,none⟩) 0 c') sh.tail):=fun h c'=>rd_zero _ _ _ _ _ (by omega)
 have RD:=hideP (fun c'=>h1.sub (i * n) (i * n+n) (by omega) (by omega) c')
 have hn:n<=da.length:=by
  have:n<=(i+1) * n:=Nat.le_mul_of_pos_left n (by omega)
  omega
 have DZ:Hid (n=0->∀c',Rd w.heap.size w (.slice (some ⟨b1,o1,none⟩) 0 c') ((da.drop (i * n)).take n)):=fun h c'=>rd_zero _ _ _ _ _ (by rw [h]; simp)
 have e1:((i:Int) * (n:Int))=((i * n:Nat):Int):=by simp
 rw [Nat.add_sub_cancel_left] at RD
 have hdl:((da.drop (i * n)).take n).length=n:=by simp; omega
 have KT:Hid (∀w' v,Below w.heap.size w w'->Rd w.heap.size w v sh.tail->Calls Tryz.prog 27 #[v] w' fun e w''=>∃u,e=.returned u/\w''.ownsRow w'.heap.size 3 1 u sh.tail.length (sh.tail.map (Value.int .i64))/\Below w'.heap.size w' w''):=fun w' v hb h=>l2Copy_any v sh.tail w' (by omega) ((h.keep hb).up hb.size)
 have KD:Hid (∀w' v,Below w.heap.size w w'->Rd w.heap.size w v ((da.drop (i * n)).take n)->Calls Tryz.prog 27 #[v] w' fun e w''=>∃u,e=.returned u/\w''.ownsRow w'.heap.size 3 1 u n (((da.drop (i * n)).take n).map (Value.int .i64))/\Below w'.heap.size w' w''):=fun w' v hb h=>by
  have:=l2Copy_any v _ w' (by rw [hdl]; omega) ((h.keep hb).up hb.size)
  rw [hdl] at this
  exact this
 have KP:Hid (∀w' v,Rd w'.heap.size w' v sh.tail->Calls Tryz.prog 66 #[v] w' fun e w''=>e=.returned (.int .i64 (n:Int))/\w''=w'):=fun w' v h=>by
  have:=l1Product_any _ v sh.tail w' (by omega) hrt h
  rw [hp] at this
  exact this
 have hqn:i * n+n<=da.length:=by omega
 generalize (da.drop (i * n)).take n=dt at *
 generalize i * n=q at *
 generalize sh.tail=st at *
 generalize sh.length=L at *
 generalize da.length=m at *
 have HTL:=hideP htl
 clear h0 h1 hr hp hrt hi htl hdl hm
 by_cases hc:c0=1
 ·subst hc
  have RZ':=hideP (RZ.out (by omega))
  clear RZ
  go_enter Tryz.func100,Tryz.ntmps100
  go_wp2_with fail
  refine (KT.out _ _ (B.out _ _) (RZ'.out _)).mono ?_
  rintro e w1 ⟨u,rfl,ho1,hb1⟩
  have B1:=hideP ((B.out _ _).trans (hb1.mono (by simp; omega)))
  have HO1:=hideP (own_of_any ho1)
  have hs1:=hb1.size
  simp at hs1
  obtain ⟨xu,yu,eu⟩:=owns_form ho1
  have R1:=hideP HO1.out.rd
  obtain ⟨hcc,hff⟩:=bcell hb1
  have q1:w1.cell? ⟨w.heap.size,1,none⟩=some (.slice (some ⟨b1,o1,none⟩) m c1):=by rw [hcc w.heap.size 1 (by simp; omega)]; simp [go_sem]
  have r0:w1.cell? ⟨w.heap.size+1,0,none⟩=some (.slice none 0 0):=by rw [hcc (w.heap.size+1) 0 (by simp)]; simp [go_sem]
  have r1:w1.cell? ⟨w.heap.size+1,1,none⟩=some (.slice none 0 0):=by rw [hcc (w.heap.size+1) 1 (by simp)]; simp [go_sem]
  have f3:∀o,w1.frozen? ⟨w.heap.size+1,o,none⟩=false:=fun o=>by rw [hff (w.heap.size+1) o (by simp)]; simp [go_sem]
  subst eu
  clear ho1 hb1 hcc hff
  by_cases hq:c1=q
  ·subst hq
   have n0:n=0:=by omega
   have DZ':=hideP (DZ.out n0)
   clear DZ
   subst n0
   go_wp2_with (go_at_call 66; refine (KP.out _ _ R1.out).mono ?_; rintro e w1 ⟨rfl,rfl⟩)
   refine (KD.out _ _ B1.out (DZ'.out _)).mono ?_
   rintro e w2 ⟨v,rfl,ho2,hb2⟩
   have B2:=hideP (B1.out.trans (hb2.mono (by omega)))
   have HO2:=hideP (own_of_any ho2)
   have hs2:=hb2.size
   obtain ⟨xv,yv,ev⟩:=owns_form ho2
   subst ev
   have K2:=hideP hb2
   have r0':w2.cell? ⟨w.heap.size+1,0,none⟩=some (.slice none 0 0):=(hb2.cell (p:=⟨w.heap.size+1,0,none⟩) (by show w.heap.size+1<_; omega)).trans r0
   have r1':w2.cell? ⟨w.heap.size+1,1,none⟩=some (.slice none 0 0):=(hb2.cell (p:=⟨w.heap.size+1,1,none⟩) (by show w.heap.size+1<_; omega)).trans r1
   have f3':∀o,w2.frozen? ⟨w.heap.size+1,o,none⟩=false:=fun o=>(hb2.frozen (p:=⟨w.heap.size+1,o,none⟩) (by show w.heap.size+1<_; omega)).trans (f3 o)
   clear ho2 hb2 r0 r1 f3 q1
   go_wp2_with fail
   refine bodyPost_ret (v:=.agg #[.slice xu st.length yu,.slice xv 0 yv]) (by simp [results,Tryz.results100,go_sem,r0',r1']) rfl ⟨_,_,rfl,⟨?_,?_,?_⟩,(B2.out.setCell (by simp) _).setCell (by simp) _⟩
   ·have:=(HO1.out.keep K2.out).base (show w.heap.size+1+1<=_ by simp)
    exact Own.base (Own.store (Own.store this (by omega) _) (by omega) _) (by omega)
   ·have:=HO2.out.base (show w.heap.size+1+1<=w1.heap.size by omega)
    exact Own.base (Own.store (Own.store this (by omega) _) (by omega) _) (by omega)
   exact apart_right (B:=w1.heap.size) HO2.out HO1.out.lt
  go_wp2_with (go_at_call 66; refine (KP.out _ _ R1.out).mono ?_; rintro e w1 ⟨rfl,rfl⟩)
  refine (KD.out _ _ B1.out (RD.out _)).mono ?_
  rintro e w2 ⟨v,rfl,ho2,hb2⟩
  have B2:=hideP (B1.out.trans (hb2.mono (by omega)))
  have HO2:=hideP (own_of_any ho2)
  have hs2:=hb2.size
  obtain ⟨xv,yv,ev⟩:=owns_form ho2
  subst ev
  have K2:=hideP hb2
  have r0':w2.cell? ⟨w.heap.size+1,0,none⟩=some (.slice none 0 0):=(hb2.cell (p:=⟨w.heap.size+1,0,none⟩) (by show w.heap.size+1<_; omega)).trans r0
  have r1':w2.cell? ⟨w.heap.size+1,1,none⟩=some (.slice none 0 0):=(hb2.cell (p:=⟨w.heap.size+1,1,none⟩) (by show w.heap.size+1<_; omega)).trans r1
  have f3':∀o,w2.frozen? ⟨w.heap.size+1,o,none⟩=false:=fun o=>(hb2.frozen (p:=⟨w.heap.size+1,o,none⟩) (by show w.heap.size+1<_; omega)).trans (f3 o)
  clear ho2 hb2 r0 r1 f3 q1
  go_wp2_with fail
  refine bodyPost_ret (v:=.agg #[.slice xu st.length yu,.slice xv n yv]) (by simp [results,Tryz.results100,go_sem,r0',r1']) rfl ⟨_,_,rfl,⟨?_,?_,?_⟩,(B2.out.setCell (by simp) _).setCell (by simp) _⟩
  ·have:=(HO1.out.keep K2.out).base (show w.heap.size+1+1<=_ by simp)
   exact Own.base (Own.store (Own.store this (by omega) _) (by omega) _) (by omega)
  ·have:=HO2.out.base (show w.heap.size+1+1<=w1.heap.size by omega)
   exact Own.base (Own.store (Own.store this (by omega) _) (by omega) _) (by omega)
  exact apart_right (B:=w1.heap.size) HO2.out HO1.out.lt
 go_enter Tryz.func100,Tryz.ntmps100
 go_wp2_with fail
 refine (KT.out _ _ (B.out _ _) (RT.out _)).mono ?_
 rintro e w1 ⟨u,rfl,ho1,hb1⟩
 have B1:=hideP ((B.out _ _).trans (hb1.mono (by simp; omega)))
 have HO1:=hideP (own_of_any ho1)
 have hs1:=hb1.size
 simp at hs1
 obtain ⟨xu,yu,eu⟩:=owns_form ho1
 have R1:=hideP HO1.out.rd
 obtain ⟨hcc,hff⟩:=bcell hb1
 have q1:w1.cell? ⟨w.heap.size,1,none⟩=some (.slice (some ⟨b1,o1,none⟩) m c1):=by rw [hcc w.heap.size 1 (by simp; omega)]; simp [go_sem]
 have r0:w1.cell? ⟨w.heap.size+1,0,none⟩=some (.slice none 0 0):=by rw [hcc (w.heap.size+1) 0 (by simp)]; simp [go_sem]
 have r1:w1.cell? ⟨w.heap.size+1,1,none⟩=some (.slice none 0 0):=by rw [hcc (w.heap.size+1) 1 (by simp)]; simp [go_sem]
 have f3:∀o,w1.frozen? ⟨w.heap.size+1,o,none⟩=false:=fun o=>by rw [hff (w.heap.size+1) o (by simp)]; simp [go_sem]
 subst eu
 clear ho1 hb1 hcc hff
 by_cases hq:c1=q
 ·subst hq
  have n0:n=0:=by omega
  have DZ':=hideP (DZ.out n0)
  clear DZ
  subst n0
  go_wp2_with (go_at_call 66; refine (KP.out _ _ R1.out).mono ?_; rintro e w1 ⟨rfl,rfl⟩)
  refine (KD.out _ _ B1.out (DZ'.out _)).mono ?_
  rintro e w2 ⟨v,rfl,ho2,hb2⟩
  have B2:=hideP (B1.out.trans (hb2.mono (by omega)))
  have HO2:=hideP (own_of_any ho2)
  have hs2:=hb2.size
  obtain ⟨xv,yv,ev⟩:=owns_form ho2
  subst ev
  have K2:=hideP hb2
  have r0':w2.cell? ⟨w.heap.size+1,0,none⟩=some (.slice none 0 0):=(hb2.cell (p:=⟨w.heap.size+1,0,none⟩) (by show w.heap.size+1<_; omega)).trans r0
  have r1':w2.cell? ⟨w.heap.size+1,1,none⟩=some (.slice none 0 0):=(hb2.cell (p:=⟨w.heap.size+1,1,none⟩) (by show w.heap.size+1<_; omega)).trans r1
  have f3':∀o,w2.frozen? ⟨w.heap.size+1,o,none⟩=false:=fun o=>(hb2.frozen (p:=⟨w.heap.size+1,o,none⟩) (by show w.heap.size+1<_; omega)).trans (f3 o)
  clear ho2 hb2 r0 r1 f3 q1
  go_wp2_with fail
  refine bodyPost_ret (v:=.agg #[.slice xu st.length yu,.slice xv 0 yv]) (by simp [results,Tryz.results100,go_sem,r0',r1']) rfl ⟨_,_,rfl,⟨?_,?_,?_⟩,(B2.out.setCell (by simp) _).setCell (by simp) _⟩
  ·have:=(HO1.out.keep K2.out).base (show w.heap.size+1+1<=_ by simp)
   exact Own.base (Own.store (Own.store this (by omega) _) (by omega) _) (by omega)
  ·have:=HO2.out.base (show w.heap.size+1+1<=w1.heap.size by omega)
   exact Own.base (Own.store (Own.store this (by omega) _) (by omega) _) (by omega)
  exact apart_right (B:=w1.heap.size) HO2.out HO1.out.lt
 go_wp2_with (go_at_call 66; refine (KP.out _ _ R1.out).mono ?_; rintro e w1 ⟨rfl,rfl⟩)
 refine (KD.out _ _ B1.out (RD.out _)).mono ?_
 rintro e w2 ⟨v,rfl,ho2,hb2⟩
 have B2:=hideP (B1.out.trans (hb2.mono (by omega)))
 have HO2:=hideP (own_of_any ho2)
 have hs2:=hb2.size
 obtain ⟨xv,yv,ev⟩:=owns_form ho2
 subst ev
 have K2:=hideP hb2
 have r0':w2.cell? ⟨w.heap.size+1,0,none⟩=some (.slice none 0 0):=(hb2.cell (p:=⟨w.heap.size+1,0,none⟩) (by show w.heap.size+1<_; omega)).trans r0
 have r1':w2.cell? ⟨w.heap.size+1,1,none⟩=some (.slice none 0 0):=(hb2.cell (p:=⟨w.heap.size+1,1,none⟩) (by show w.heap.size+1<_; omega)).trans r1
 have f3':∀o,w2.frozen? ⟨w.heap.size+1,o,none⟩=false:=fun o=>(hb2.frozen (p:=⟨w.heap.size+1,o,none⟩) (by show w.heap.size+1<_; omega)).trans (f3 o)
 clear ho2 hb2 r0 r1 f3 q1
 go_wp2_with fail
 refine bodyPost_ret (v:=.agg #[.slice xu st.length yu,.slice xv n yv]) (by simp [results,Tryz.results100,go_sem,r0',r1']) rfl ⟨_,_,rfl,⟨?_,?_,?_⟩,(B2.out.setCell (by simp) _).setCell (by simp) _⟩
 ·have:=(HO1.out.keep K2.out).base (show w.heap.size+1+1<=_ by simp)
  exact Own.base (Own.store (Own.store this (by omega) _) (by omega) _) (by omega)
 ·have:=HO2.out.base (show w.heap.size+1+1<=w1.heap.size by omega)
  exact Own.base (Own.store (Own.store this (by omega) _) (by omega) _) (by omega)
 exact apart_right (B:=w1.heap.size) HO2.out HO1.out.lt
end Go.Proofs.YtacapaiadggemaaGreat
namespace Go.Proofs.YtacapaiadggemaaGreat.Pl
set_option linter.unusedVariables false
theorem foldl_mul (l:List Int) (p:Int):l.foldl (fun p x=>p * x) p=p * l.foldl (fun p x=>p * x) 1:=by
 induction l generalizing p with
 |nil=>simp
 |cons x xs ih =>
  simp only [List.foldl_cons]
  rw [ih (p * x),ih (1 * x),Int.one_mul,Int.mul_assoc]
theorem prodP_cons (x:Int) (l:List Int):prodP (x::l)=x * prodP l:=by
 unfold prodP
 rw [List.foldl_cons,Int.one_mul,foldl_mul]
theorem base_tail {sh:List Int} (h:baseB sh=true):baseB sh.tail=true:=by
 simp only [baseB,Bool.and_eq_true,decide_eq_true_eq,List.all_eq_true] at h ⊢
 refine ⟨by simp; omega,fun x hx=>h.2 x (List.mem_of_mem_tail hx)⟩
theorem ok_rows {sh da:List Int} (h:okB sh da=true) (h0:¬sh.length=0) (hn:¬sh.getD 0 0=0) :
  fitsB sh.tail=true/\∃n s:Nat,sh.getD 0 0=n/\prodC sh.tail=s/\1<=n/\n<=1000/\da.length=n * s:=by
 obtain ⟨hl,hf⟩:=ok_len h
 have hP:=prod_eq hf
 cases sh with
 |nil=>simp at h0
 |cons x tl =>
  have hx:(x::tl).getD 0 0=x:=rfl
  rw [hx] at hn ⊢
  simp only [List.tail_cons]
  have hb:baseB (x::tl)=true:=by simp only [fitsB,Bool.and_eq_true] at hf; exact hf.1
  have hbt:=base_tail hb
  simp only [List.tail_cons] at hbt
  have hp1000:prodP (x::tl)<=1000:=by
   rw [fits_eq,hb] at hf
   simpa using hf
  rw [prodP_cons] at hp1000
  have hxr:0<=x/\x<=1000:=by
   simp only [baseB,Bool.and_eq_true,List.all_cons] at hb
   exact inR_bd hb.2.1
  have ht:=(prod_two tl hbt).1
  have h1:1 * prodP tl<=x * prodP tl:=Int.mul_le_mul_of_nonneg_right (by omega) ht.1
  have hft:fitsB tl=true:=by
   rw [fits_eq,hbt]
   simp only [Bool.true_and,decide_eq_true_eq]
   omega
  refine ⟨hft,x.toNat,(prodP tl).toNat,by omega,by rw [prod_eq hft]; omega,by omega,by omega,?_⟩
  have e:(da.length:Int)=(x.toNat:Int) * ((prodP tl).toNat:Int):=by
   rw [hl,hP,prodP_cons]
   congr 1 <;> omega
  exact_mod_cast e
theorem each2_rows (F:Int->Int->Int × Int) {tl xs ys:List Int} (h:okB tl xs=true) (h':okB tl ys=true) :
  each2M F tl xs tl ys=if firstG (pairF F) (xs.zip ys)=0 then (0,tl,(xs.zip ys).map (fun p=>(pairF F p).1)) else (firstG (pairF F) (xs.zip ys),[],[]):=by
 unfold each2M
 split
 ·rename_i h0
  have h1:=ok_one h h0
  have e:rep tl xs=xs:=by
   unfold rep
   rw [prodC_nil h0]
   match xs,h1 with
   |[x],_=>rfl
  rw [e]
  unfold eachM
  rw [if_neg (fun h=>h rfl),if_neg (fun h=>h rfl)]
 rename_i h0
 unfold eachM
 rw [if_neg (fun h=>h rfl),if_neg (fun h=>h rfl)]
theorem ok_map (F:Int->Int->Int × Int) (hFb:∀x y,-3000000000<=x->x<=3000000000->-3000000000<=y->y<=3000000000->(F x y).2=0->-3000000000<=(F x y).1/\(F x y).1<=3000000000)
  {tl xs ys:List Int} (h:okB tl xs=true) (h':okB tl ys=true) (hz:firstG (pairF F) (xs.zip ys)=0):okB tl ((xs.zip ys).map (fun p=>(pairF F p).1))=true:=by
 have hl:=ok_lens h h'
 have all0:∀p∈xs.zip ys,(pairF F p).2=0:=by
  revert hz
  generalize xs.zip ys=l
  intro hz
  induction l with
  |nil=>simp
  |cons p ps ih =>
   simp only [firstG] at hz
   by_cases h0:(pairF F p).2=0
   ·rw [if_pos h0] at hz
    intro q hq
    rcases List.mem_cons.1 hq with rfl | hq
    ·exact h0
    exact ih hz q hq
   rw [if_neg h0] at hz
   exact absurd hz h0
 have e:=(ok_len h).1
 have f:=(ok_len h).2
 simp only [okB,Bool.and_eq_true,decide_eq_true_eq,List.all_eq_true]
 refine ⟨⟨f,by simp; omega⟩,?_⟩
 intro v hv
 obtain ⟨p,hp,rfl⟩:=List.mem_map.1 hv
 have c:=all0 p hp
 have m0:=ok_cell h (List.of_mem_zip (show (p.1,p.2)∈_ from hp)).1
 have m1:=ok_cell h' (List.of_mem_zip (show (p.1,p.2)∈_ from hp)).2
 have:=hFb p.1 p.2 m0.1 m0.2 m1.1 m1.2 c
 simp only [valB,decide_eq_true_eq]
 exact this
theorem in_bd (v:Int):(inM v).2=0->-3000000000<=(inM v).1/\(inM v).1<=3000000000:=by
 unfold inM
 split
 ·intro _; assumption
 intro h; simp at h
theorem bool_bd (b:Bool):-3000000000<=boolM b/\boolM b<=3000000000:=by unfold boolM; split <;> omega
theorem two_bd (k:Nat) (h0:1<=k) (h1:k<11) (x y:Int) (x0:-3000000000<=x) (x1:x<=3000000000) (y0:-3000000000<=y) (y1:y<=3000000000):(twoM k x y).2=0->-3000000000<=(twoM k x y).1/\(twoM k x y).1<=3000000000:=by
 have hk:k=1\/k=2\/k=3\/k=4\/k=5\/k=6\/k=7\/k=8\/k=9\/k=10:=by omega
 rcases hk with rfl | rfl | rfl | rfl | rfl | rfl | rfl | rfl | rfl | rfl
 ·exact in_bd _
 ·exact in_bd _
 ·exact in_bd _
 ·show (if y=0 then ((0:Int),(1:Int)) else (divM x y,0)).2=0->-3000000000<=(if y=0 then ((0:Int),(1:Int)) else (divM x y,0)).1/\(if y=0 then ((0:Int),(1:Int)) else (divM x y,0)).1<=3000000000
  split
  ·intro h; simp at h
  rename_i hy
  intro _
  exact div_bd hy x0 x1
 ·show (if y=0 then (x,(0:Int)) else (modM x y,0)).2=0->-3000000000<=(if y=0 then (x,(0:Int)) else (modM x y,0)).1/\(if y=0 then (x,(0:Int)) else (modM x y,0)).1<=3000000000
  split
  ·intro _; exact ⟨x0,x1⟩
  rename_i hy
  intro _
  exact mod_bd hy x0 x1 y0 y1
 ·intro _
  show -3000000000<=min x y/\min x y<=3000000000
  omega
 ·intro _
  show -3000000000<=max x y/\max x y<=3000000000
  omega
 ·intro _; exact bool_bd _
 ·intro _; exact bool_bd _
 intro _; exact bool_bd _
def reduceM (F:Int->Int->Int × Int) (nv:Int) (nb:Bool) (sh da:List Int):Int × List Int × List Int :=
 if sh.length=0 then (0,[],da)
 else if sh.getD 0 0=0 then (if nb=true then (1,[],[]) else if fitsB sh.tail=true then (0,sh.tail,List.replicate (prodC sh.tail).toNat nv) else (6,[],[]))
 else if (foldM F da (prodC sh.tail).toNat (sh.getD 0 0).toNat).1=0 then (0,sh.tail,(foldM F da (prodC sh.tail).toNat (sh.getD 0 0).toNat).2) else ((foldM F da (prodC sh.tail).toNat (sh.getD 0 0).toNat).1,[],[])
end Go.Proofs.YtacapaiadggemaaGreat.Pl
namespace Go.Proofs.YtacapaiadggemaaGreat
open Go.RowKit
set_option linter.unusedVariables false
def Off (A:Nat) (u:Value) (zs:List Int):Prop:=zs.length=0\/∀b,u.ownBlock=some b->¬b=A
theorem Own.aside {B A o:Nat} {w:World} {u:Value} {zs:List Int} (h:Own B w u zs) (hn:Off A u zs) (v:Value):Own B (w.setCell ⟨A,o,none⟩ v) u zs:=by
 obtain ⟨ao,cap,rfl,h⟩:=h
 refine ⟨ao,cap,rfl,?_⟩
 rcases h with h | ⟨g,off,h1,h2,rfl,h4⟩
 ·exact .inl h
 rcases hn with hn | hn
 ·exact .inl hn
 refine .inr ⟨g,off,h1,by simpa using h2,rfl,fun i hi=>?_⟩
 have hg:¬g=A:=hn g rfl
 have e:=Below.heap_setCell w ⟨A,o,none⟩ v g (by simpa using hg)
 exact ⟨(World.cell?_of_block (w:=w) (a:=⟨g,off+i,none⟩) e).trans (h4 i hi).1,(World.frozen?_of_block (w:=w) (a:=⟨g,off+i,none⟩) e).trans (h4 i hi).2⟩
structure Ac (w1:World) (E A:Nat) (u0 u1:Value) (tl acc:List Int) (w:World):Prop where
 bel:Below w1.heap.size w1 w
 blk:w.heap[A]? = some (.cells #[u0,u1] 25 (0,0))
 res:Res E w u0 u1 tl acc
 n0:Off A u0 tl
 n1:Off A u1 acc
theorem Ac.keep {w1 w w':World} {E A:Nat} {u0 u1:Value} {tl acc:List Int} (h:Ac w1 E A u0 u1 tl acc w) (hb:Below w.heap.size w w'):Ac w1 E A u0 u1 tl acc w' :=
 ⟨h.bel.trans (hb.mono h.bel.size),by
  rw [hb.block A (Array.getElem?_eq_some_iff.1 h.blk).1]
  exact h.blk,⟨h.res.1.keep hb,h.res.2.1.keep hb,h.res.2.2⟩,h.n0,h.n1⟩
theorem Ac.new {w w1:World} {u0 u1:Value} {tl acc:List Int} {E:Nat} (h:Res E w1 u0 u1 tl acc):Ac w1 E w1.heap.size u0 u1 tl acc (w1.alloc (.cells #[u0,u1] 25)):=by
 have k:Below w1.heap.size w1 (w1.alloc (.cells #[u0,u1] 25)):=(Below.refl _ _).alloc (Nat.le_refl _) _
 refine ⟨k,heap_alloc_new w1 _,⟨h.1.keep k,h.2.1.keep k,h.2.2⟩,own_ne_hi h.1 (Nat.le_refl _),own_ne_hi h.2.1 (Nat.le_refl _)⟩
structure Rn (wr:World) (rx rp:Option (Value × Value × List Int × List Int)) (ov:Option Nat) (w:World):Prop where
 bel:Below wr.heap.size wr w
 x:∀x0 x1 a b,rx=some (x0,x1,a,b)->Rd w.heap.size w x0 a/\Rd w.heap.size w x1 b
 p:∀x0 x1 a b,rp=some (x0,x1,a,b)->Res wr.heap.size w x0 x1 a b
 v:∀k,ov=some k->wr.heap.size<=k/\w.heap[k]? = some (.cells #[.slice none 0 0,.slice none 0 0] 25 (0,0))
 pv:∀x0 x1 a b k,rp=some (x0,x1,a,b)->ov=some k->Off k x0 a/\Off k x1 b
theorem Rn.start (wr:World):Rn wr none none none wr.drew:=⟨(Below.refl _ _).drew,(by intro _ _ _ _ h; cases h),(by intro _ _ _ _ h; cases h),(by intro _ h; cases h),(by intro _ _ _ _ _ h; cases h)⟩
theorem Rn.keep {wr w w':World} {rx rp:Option (Value × Value × List Int × List Int)} {ov:Option Nat} (h:Rn wr rx rp ov w) (hb:Below w.heap.size w w'):Rn wr rx rp ov w' :=
 ⟨h.bel.trans (hb.mono h.bel.size),fun x0 x1 a b e=>⟨((h.x x0 x1 a b e).1.keep hb).up hb.size,((h.x x0 x1 a b e).2.keep hb).up hb.size⟩,fun x0 x1 a b e=>⟨(h.p x0 x1 a b e).1.keep hb,(h.p x0 x1 a b e).2.1.keep hb,(h.p x0 x1 a b e).2.2⟩,fun k e=>⟨(h.v k e).1,by
  have:=(h.v k e).2
  rw [hb.block k (Array.getElem?_eq_some_iff.1 this).1]
  exact this⟩,h.pv⟩
theorem Rn.row {wr w w':World} {ov:Option Nat} (h:Rn wr none none ov w) {x0 x1:Value} {a b:List Int} (hr:Res w.heap.size w' x0 x1 a b) (hb:Below w.heap.size w w'):Rn wr (some (x0,x1,a,b)) none ov w':=by
 have k:=h.keep hb
 refine ⟨k.bel,?_,k.p,k.v,k.pv⟩
 intro y0 y1 c d e
 simp only [Option.some.injEq,Prod.mk.injEq] at e
 obtain ⟨rfl,rfl,rfl,rfl⟩:=e
 exact ⟨hr.1.rd,hr.2.1.rd⟩
theorem Rn.each {wr w w':World} {rx:Option (Value × Value × List Int × List Int)} {ov:Option Nat} (h:Rn wr rx none ov w) {x0 x1:Value} {a b:List Int} (hr:Res w.heap.size w' x0 x1 a b) (hb:Below w.heap.size w w'):Rn wr rx (some (x0,x1,a,b)) ov w':=by
 have k:=h.keep hb
 refine ⟨k.bel,k.x,?_,k.v,?_⟩
 ·intro y0 y1 c d e
  simp only [Option.some.injEq,Prod.mk.injEq] at e
  obtain ⟨rfl,rfl,rfl,rfl⟩:=e
  exact ⟨hr.1.base h.bel.size,hr.2.1.base h.bel.size,hr.2.2⟩
 intro y0 y1 c d k' e e'
 simp only [Option.some.injEq,Prod.mk.injEq] at e
 obtain ⟨rfl,rfl,rfl,rfl⟩:=e
 have hl:=(Array.getElem?_eq_some_iff.1 (h.v k' e').2).1
 exact ⟨own_ne_lo hr.1 hl,own_ne_lo hr.2.1 hl⟩
theorem Rn.var {wr w:World} {rx rp:Option (Value × Value × List Int × List Int)} (h:Rn wr rx rp none w):Rn wr rx rp (some w.heap.size) (w.alloc (.cells #[.slice none 0 0,.slice none 0 0] 25)):=by
 have k:=h.keep ((Below.refl w.heap.size w).alloc (Nat.le_refl _) (.cells #[.slice none 0 0,.slice none 0 0] 25))
 refine ⟨k.bel,k.x,k.p,?_,?_⟩
 ·intro k' e
  simp only [Option.some.injEq] at e
  subst e
  exact ⟨h.bel.size,heap_alloc_new w _⟩
 intro y0 y1 c d k' e e'
 simp only [Option.some.injEq] at e'
 subst e'
 have hr:=h.p y0 y1 c d e
 exact ⟨own_ne_hi hr.1 (Nat.le_refl _),own_ne_hi hr.2.1 (Nat.le_refl _)⟩
theorem Rn.done {wr w:World} {rx:Option (Value × Value × List Int × List Int)} {p0 p1:Value} {S D:List Int} {P:Nat} (h:Rn wr rx (some (p0,p1,S,D)) (some P) w) :
  Ac wr wr.heap.size P p0 p1 S D ((w.setCell ⟨P,0,none⟩ p0).setCell ⟨P,1,none⟩ p1):=by
 have hP:=(h.v P rfl).2
 have hle:=(h.v P rfl).1
 have hr:=h.p p0 p1 S D rfl
 obtain ⟨g0,g1⟩:=h.pv p0 p1 S D P rfl rfl
 exact ⟨(h.bel.setCell hle _).setCell hle _,blk_two hP,⟨(hr.1.aside g0 _).aside g0 _,(hr.2.1.aside g1 _).aside g1 _,hr.2.2⟩,g0,g1⟩
theorem Ac.move {w1 wr wx:World} {E A P:Nat} {u0 u1 p0 p1:Value} {tl acc S D:List Int} (h:Ac w1 E A u0 u1 tl acc wr) (hA:w1.heap.size<=A) (hE:E<=wr.heap.size) (k:Ac wr wr.heap.size P p0 p1 S D wx) :
  wx.heap[A]? = some (.cells #[u0,u1] 25 (0,0))/\Ac w1 E A p0 p1 S D ((wx.setCell ⟨A,0,none⟩ p0).setCell ⟨A,1,none⟩ p1):=by
 have hlt:=(Array.getElem?_eq_some_iff.1 h.blk).1
 have e:wx.heap[A]? = some (.cells #[u0,u1] 25 (0,0)):=by
  rw [k.bel.block A hlt]
  exact h.blk
 have g0:Off A p0 S:=own_ne_lo k.res.1 hlt
 have g1:Off A p1 D:=own_ne_lo k.res.2.1 hlt
 have hb:Below w1.heap.size w1 wx:=h.bel.trans (k.bel.mono h.bel.size)
 exact ⟨e,(hb.setCell hA _).setCell hA _,blk_two e,⟨((k.res.1.base hE).aside g0 _).aside g0 _,((k.res.2.1.base hE).aside g1 _).aside g1 _,k.res.2.2⟩,g0,g1⟩
theorem rd_cell {B b off cap:Nat} {w:World} {zs:List Int} (h:Rd B w (.slice (some ⟨b,off,none⟩) zs.length cap) zs) {i:Nat} (hi:i<zs.length):b<B/\w.cell? ⟨b,off+i,none⟩=some (.int .i64 (zs.getD i 0)):=by
 obtain ⟨ao,cp,e,g⟩:=h
 rcases g with g | ⟨b',off',hB,e2,hc⟩
 ·omega
 simp only [Value.slice.injEq] at e
 have e3:=e.1.trans e2
 simp only [Option.some.injEq,Addr.mk.injEq,and_true] at e3
 obtain ⟨rfl,rfl⟩:=e3
 exact ⟨hB,hc i hi⟩
theorem boxes2 {w w1:World} {x0 x1:Value} (hb:Below (w.heap.size+1+1) ((w.alloc (.cells #[x0,x1] 25)).alloc (.cells #[.slice none 0 0,.slice none 0 0] 25)) w1) :
  (w1.cell? ⟨w.heap.size,0,none⟩=some x0/\w1.cell? ⟨w.heap.size,1,none⟩=some x1)/\(w1.cell? ⟨w.heap.size+1,0,none⟩=some (.slice none 0 0)/\w1.cell? ⟨w.heap.size+1,1,none⟩=some (.slice none 0 0)/\∀o,w1.frozen? ⟨w.heap.size+1,o,none⟩=false)/\Below w.heap.size w w1:=by
 have c:∀b o,b<w.heap.size+1+1->w1.cell? ⟨b,o,none⟩=((w.alloc (.cells #[x0,x1] 25)).alloc (.cells #[.slice none 0 0,.slice none 0 0] 25)).cell? ⟨b,o,none⟩:=fun b o h=>hb.cell (p:=⟨b,o,none⟩) h
 have f:∀b o,b<w.heap.size+1+1->w1.frozen? ⟨b,o,none⟩=((w.alloc (.cells #[x0,x1] 25)).alloc (.cells #[.slice none 0 0,.slice none 0 0] 25)).frozen? ⟨b,o,none⟩:=fun b o h=>hb.frozen (p:=⟨b,o,none⟩) h
 refine ⟨⟨?_,?_⟩,⟨?_,?_,?_⟩,?_⟩
 ·rw [c _ _ (by omega)]; simp [go_sem]
 ·rw [c _ _ (by omega)]; simp [go_sem]
 ·rw [c _ _ (by omega)]; simp [go_sem]
 ·rw [c _ _ (by omega)]; simp [go_sem]
 ·intro o; rw [f _ _ (by omega)]; simp [go_sem]
 exact (((Below.refl _ _).alloc (Nat.le_refl _) _).alloc (by simp) _).trans (hb.mono (by omega))
theorem rd_some {B:Nat} {w:World} {ao:Option Addr} {n c:Nat} {zs:List Int} (h:Rd B w (.slice ao n c) zs) (h1:1<=zs.length):∃b off,ao=some ⟨b,off,none⟩:=by
 obtain ⟨ao',cp,e,g⟩:=h
 simp only [Value.slice.injEq] at e
 rcases g with g | ⟨b,off,hB,e2,hc⟩
 ·omega
 exact ⟨b,off,e.1.trans e2⟩
theorem rows_none (cap p q:Nat) (i j s:Int) (w:World) (hp:i * s=(p:Int)) (hq:j * s=(q:Int)) (p0:p=0) (q0:q=0) :
  Calls Tryz.prog 126 #[.slice none 0 cap,.int .i64 s,.int .i64 i,.int .i64 j] w fun e w'=>∃ao' c',e=.returned (.slice ao' 0 c')/\w'=w:=by
 subst p0 q0
 by_cases hp:cap=0
 ·subst hp
  go_enter Tryz.func126,Tryz.ntmps126
  go_wp2_with fail
  go_ret
  exact ⟨_,_,rfl,rfl⟩
 go_enter Tryz.func126,Tryz.ntmps126
 go_wp2_with fail
 go_ret
 exact ⟨_,_,rfl,rfl⟩
theorem rows_some (ad:Addr) (cap p q:Nat) (i j s:Int) (w:World) (hp:i * s=(p:Int)) (hq:j * s=(q:Int)) (p0:p=0) (q0:q=0) :
  Calls Tryz.prog 126 #[.slice (some ad) 0 cap,.int .i64 s,.int .i64 i,.int .i64 j] w fun e w'=>∃ao' c',e=.returned (.slice ao' 0 c')/\w'=w:=by
 subst p0 q0
 by_cases hp:cap=0
 ·subst hp
  go_enter Tryz.func126,Tryz.ntmps126
  go_wp2_with fail
  go_ret
  exact ⟨_,_,rfl,rfl⟩
 go_enter Tryz.func126,Tryz.ntmps126
 go_wp2_with fail
 go_ret
 exact ⟨_,_,rfl,rfl⟩
theorem rows_gen (B:Nat) (ao:Option Addr) (cap s i j:Nat) (zs:List Int) (w:World) (hd:Rd B w (.slice ao zs.length cap) zs) (hi:i<=j) (hn:j * s<=zs.length) (hc:zs.length<=cap) (hc2:0<zs.length->cap<=9223372036854775807) :
  Calls Tryz.prog 126 #[.slice ao zs.length cap,.int .i64 (s:Int),.int .i64 (i:Int),.int .i64 (j:Int)] w fun e w'=>∃v,e=.returned v/\Rd B w v ((zs.drop (i * s)).take (j * s-i * s))/\w'=w:=by
 by_cases h0:zs.length=0
 rotate_left 1
 ·obtain ⟨b,off,rfl⟩:=rd_some hd (by omega)
  exact rows_any B b off cap s i j zs w hd hi hn hc (hc2 (by omega))
 have hz:zs=[]:=List.eq_nil_of_length_eq_zero h0
 subst hz
 have e2:j * s=0:=by simpa using hn
 have e1:i * s=0:=by
  have:=Nat.mul_le_mul_right s hi
  omega
 have key:Calls Tryz.prog 126 #[.slice ao 0 cap,.int .i64 (s:Int),.int .i64 (i:Int),.int .i64 (j:Int)] w fun e w'=>∃ao' c',e=.returned (.slice ao' 0 c')/\w'=w:=by
  have i1:(i:Int) * (s:Int)=((0:Nat):Int):=by rw [<- Int.natCast_mul,e1]
  have i2:(j:Int) * (s:Int)=((0:Nat):Int):=by rw [<- Int.natCast_mul,e2]
  cases ao with
  |none=>exact rows_none cap 0 0 _ _ _ w i1 i2 rfl rfl
  |some ad=>exact rows_some ad cap 0 0 _ _ _ w i1 i2 rfl rfl
 refine key.mono ?_
 rintro e w' ⟨ao',c',rfl,rfl⟩
 exact ⟨_,rfl,rd_zero _ _ _ _ _ (by simp),rfl⟩
def Sl (w:World) (v:Value) (zs:List Int):Prop:=∃a k,v=.slice a zs.length k/\zs.length<=k/\k<=9223372036854775807/\Rd w.heap.size w v zs/\(zs.length=0\/∃g,a=some ⟨g,0,none⟩)
theorem Sl.keep {w w':World} {v:Value} {zs:List Int} (h:Sl w v zs) (hb:Below w.heap.size w w'):Sl w' v zs:=by
 obtain ⟨a,k,e,h1,h2,h3,h4⟩:=h
 exact ⟨a,k,e,h1,h2,(h3.keep hb).up hb.size,h4⟩
theorem Sl.rd {w:World} {v:Value} {zs:List Int} (h:Sl w v zs):Rd w.heap.size w v zs:=by
 obtain ⟨a,k,e,h1,h2,h3,h4⟩:=h
 exact h3
theorem Sl.of_own {B:Nat} {w:World} {a:Option Addr} {n k:Nat} {zs:List Int} (h:Own B w (.slice a n k) zs) (hn:zs.length=n) (h1:n<=k) (h2:k<=9223372036854775807):Sl w (.slice a n k) zs:=by
 subst hn
 refine ⟨a,k,rfl,h1,h2,h.rd,?_⟩
 obtain ⟨ao,cap,e,g⟩:=h
 simp only [Value.slice.injEq] at e
 obtain ⟨rfl,_,rfl⟩:=e
 rcases g with g | ⟨g,off,hB,_,e,_⟩
 ·exact .inl g
 exact .inr ⟨g,by rw [e,hB.2.2.2]⟩
def Sg (w:World) (v:Value) (zs:List Int):Prop:=∃g k,v=.slice (some ⟨g,0,none⟩) zs.length k/\zs.length<=k/\k<=9223372036854775807/\Rd w.heap.size w v zs
theorem Sg.sl {w:World} {v:Value} {zs:List Int} (h:Sg w v zs):Sl w v zs:=by
 obtain ⟨g,k,e,h1,h2,h3⟩:=h
 exact ⟨_,k,e,h1,h2,h3,.inr ⟨g,rfl⟩⟩
theorem Sg.keep {w w':World} {v:Value} {zs:List Int} (h:Sg w v zs) (hb:Below w.heap.size w w'):Sg w' v zs:=by
 obtain ⟨g,k,e,h1,h2,h3⟩:=h
 exact ⟨g,k,e,h1,h2,(h3.keep hb).up hb.size⟩
theorem sl_nil (w:World):Sl w (.slice none 0 0) []:=⟨none,0,rfl,by simp,by omega,rd_zero _ _ _ _ _ rfl,.inl rfl⟩
theorem Sl.aside {w:World} {v:Value} {zs:List Int} {A j:Nat} {q:Option Addr} {m k:Nat} (h:Sl w v zs) (hA:w.cell? ⟨A,0,none⟩=some (.slice q m k)) (u:Value):Sl (w.setCell ⟨A,j,none⟩ u) v zs:=by
 obtain ⟨a,c,e,h1,h2,h3,h4⟩:=h
 subst e
 refine ⟨a,c,rfl,h1,h2,?_,h4⟩
 rcases h4 with h0 | ⟨g,rfl⟩
 ·rw [h0]
  exact rd_zero _ _ _ _ _ h0
 by_cases h0:zs.length=0
 ·rw [h0]
  exact rd_zero _ _ _ _ _ h0
 have hn:¬g=A:=fun e=>by
  have:=(rd_cell h3 (i:=0) (by omega)).2
  rw [e,Nat.add_zero,hA] at this
  cases this
 obtain ⟨ao,cap,e,r⟩:=h3
 refine ⟨ao,cap,e,?_⟩
 rcases r with r | ⟨b,off,r1,r2,r3⟩
 ·exact .inl r
 simp only [Value.slice.injEq] at e
 have hb:b=g:=by
  have h':=e.1
  rw [r2] at h'
  simp only [Option.some.injEq,Addr.mk.injEq] at h'
  exact h'.1.symm
 subst hb
 exact .inr ⟨b,off,by simpa using r1,r2,fun i hi=>by rw [<- r3 i hi]; exact World.cell?_of_block (heap_setCell_other _ _ _ _ hn)⟩
abbrev Stp (ops:Array Oper) (Q:Exit->Act->World->Prop) (S:World->Prop) (fuel:Nat) (listed:Array Bool) (i:Nat) (o:Oper) (a:Act) (w:World):Prop :=
 ∀K':Act->World->Prop,Shut (∀a w,S w->(S w->wpAnyH Tryz.prog .any ops Q S fuel (listed.setIfInBounds i true) a w)->K' a w)->if Region.wanted o (yielded ops a.tmps)=true then Oper.wp Tryz.prog o a w K' Q else K' (a.put o.dst undef) w
theorem rd1 {ops:Array Oper} {Q:Exit->Act->World->Prop} {S:World->Prop} {fuel:Nat} {listed:Array Bool} {a:Act} {w:World} (i:Nat) {oi:Oper} (hr:Region.ready .any ops listed=[i]) (ei:ops[i]? = some oi) (hi:Stp ops Q S fuel listed i oi a w):wpAnyH Tryz.prog .any ops Q S (fuel+1) listed a w :=
 wpAnyH_ready hr (by simp) (AllReadyH.cons ei hi AllReadyH.nil)
theorem rd2 {ops:Array Oper} {Q:Exit->Act->World->Prop} {S:World->Prop} {fuel:Nat} {listed:Array Bool} {a:Act} {w:World} (i j:Nat) {oi oj:Oper} (hr:Region.ready .any ops listed=[i,j]) (ei:ops[i]? = some oi) (ej:ops[j]? = some oj) (hi:Stp ops Q S fuel listed i oi a w) (hj:Stp ops Q S fuel listed j oj a w):wpAnyH Tryz.prog .any ops Q S (fuel+1) listed a w :=
 wpAnyH_ready hr (by simp) (AllReadyH.cons ei hi (AllReadyH.cons ej hj AllReadyH.nil))
theorem rd3 {ops:Array Oper} {Q:Exit->Act->World->Prop} {S:World->Prop} {fuel:Nat} {listed:Array Bool} {a:Act} {w:World} (i j k:Nat) {oi oj ok:Oper} (hr:Region.ready .any ops listed=[i,j,k]) (ei:ops[i]? = some oi) (ej:ops[j]? = some oj) (ek:ops[k]? = some ok) (hi:Stp ops Q S fuel listed i oi a w) (hj:Stp ops Q S fuel listed j oj a w) (hk:Stp ops Q S fuel listed k ok a w):wpAnyH Tryz.prog .any ops Q S (fuel+1) listed a w :=
 wpAnyH_ready hr (by simp) (AllReadyH.cons ei hi (AllReadyH.cons ej hj (AllReadyH.cons ek hk AllReadyH.nil)))
theorem tk {ops:Array Oper} {Q:Exit->Act->World->Prop} {S:World->Prop} {fuel:Nat} {listed:Array Bool} {a:Act} {w:World} (i:Nat) (v:Value) {o:Oper} (hS:S w) (hi:ops[i]? = some o) (hs:Region.noSelect ops=true) (hf:Region.free .any ops listed i=true) (hr:(Region.ready .any ops listed).contains i=true) (hQ:∀c a w,Q (.panic c) (a.put o.dst v) w->Q (.panic c) a w) (hw:Region.wanted o (yielded ops a.tmps)=true) (hy:∀w,S w->(execOp a.eval o).run Tryz.prog w=.ok (.value v) w)
  (h:wpAnyH Tryz.prog .any ops Q S fuel (listed.setIfInBounds i true) (a.put o.dst v) w):wpAnyH Tryz.prog .any ops Q S (fuel+1) listed a w:=wpAnyH_take hi hs hf hr hQ (Or.inl ⟨hw,hy⟩) hS h
theorem stp_of {ops:Array Oper} {Q:Exit->Act->World->Prop} {S:World->Prop} {fuel:Nat} {listed:Array Bool} {a:Act} {w:World} {i:Nat} {o:Oper} (v:Value) (w':World) (hg:o.guard=none) (hr:(execOp a.eval o).run Tryz.prog w=.ok (.value v) w') (hS:S w') (hK:wpAnyH Tryz.prog .any ops Q S fuel (listed.setIfInBounds i true) (a.put o.dst v) w'):Stp ops Q S fuel listed i o a w:=fun K' sh=>by
 rw [if_pos (by simp [Region.wanted,hg])]
 unfold Oper.wp
 rw [hr]
 exact sh.out _ _ hS fun _=>hK
theorem stp_skip {ops:Array Oper} {Q:Exit->Act->World->Prop} {S:World->Prop} {fuel:Nat} {listed:Array Bool} {a:Act} {w:World} {i:Nat} {o:Oper} (w':World) (hg:o.guard=none) (hd:o.dst=none) (hr:(execOp a.eval o).run Tryz.prog w=.ok .skip w') (hS:S w') (hK:wpAnyH Tryz.prog .any ops Q S fuel (listed.setIfInBounds i true) a w'):Stp ops Q S fuel listed i o a w:=fun K' sh=>by
 rw [if_pos (by simp [Region.wanted,hg])]
 unfold Oper.wp
 rw [hr]
 show K' (a.put o.dst undef) w'
 rw [hd]
 exact sh.out _ _ hS fun _=>hK
theorem stp_call {ops:Array Oper} {Q:Exit->Act->World->Prop} {S:World->Prop} {fuel:Nat} {listed:Array Bool} {a:Act} {w:World} {i f:Nat} {o:Oper} {args:Array Value} {R:Value->World->Prop} (hg:o.guard=none) (hr:(execOp a.eval o).run Tryz.prog w=.ok (.enter f args) w) (hc:Calls Tryz.prog f args w fun e w'=>∃v,e=.returned v/\R v w') (hK:∀v w',R v w'->S w'/\wpAnyH Tryz.prog .any ops Q S fuel (listed.setIfInBounds i true) (a.put o.dst v) w'):Stp ops Q S fuel listed i o a w:=fun K' sh=>by
 rw [if_pos (by simp [Region.wanted,hg])]
 unfold Oper.wp
 rw [hr]
 refine Calls.mono hc fun e w' he=>?_
 obtain ⟨v,rfl,hv⟩:=he
 exact sh.out _ _ (hK v w' hv).1 fun _=>(hK v w' hv).2
theorem exec_var {o:Oper} {a:Act} (hop:o.op=Op.alloc 25) (w:World):(execOp a.eval o).run Tryz.prog w=.ok (.value (.pointer (some ⟨w.heap.size,0,none⟩))) (w.alloc (.cells #[.slice none 0 0,.slice none 0 0] 25)):=by
 cases o
 simp only at hop
 subst hop
 first | kernel_rfl | go_simp
theorem exec_nil {o:Oper} {a:Act} (hop:o.op=Op.buildSlice 23 0 #[]) (w:World):(execOp a.eval o).run Tryz.prog w=.ok (.value (.slice (some ⟨w.heap.size,0,none⟩) 0 0)) (w.alloc (.cells #[] 3)):=by
 cases o
 simp only at hop
 subst hop
 first | kernel_rfl | go_simp
theorem exec_f27 {o:Oper} {a:Act} {y:Operand} {u:Value} (hop:o.op=Op.call { callee:=Callee.value (.func 27),args:=#[y],argTypes:=#[23] }) (hy:a.eval y=u) (w:World):(execOp a.eval o).run Tryz.prog w=.ok (.enter 27 #[u]) w:=by
 cases o
 simp only at hop
 subst hop hy
 first | kernel_rfl | go_simp
theorem exec_f62 {o:Oper} {a:Act} {y z:Operand} {u v:Value} (hop:o.op=Op.call { callee:=Callee.value (.func 62),args:=#[y,z],argTypes:=#[23,23] }) (hy:a.eval y=u) (hz:a.eval z=v) (w:World):(execOp a.eval o).run Tryz.prog w=.ok (.enter 62 #[u,v]) w:=by
 cases o
 simp only at hop
 subst hop hy hz
 kernel_rfl
theorem exec_mv {o:Oper} {a:Act} {y:Operand} {u:Value} (hop:o.op=Op.move y) (hy:a.eval y=u) (w:World):(execOp a.eval o).run Tryz.prog w=.ok (.value u) w:=by
 cases o
 simp only at hop
 subst hop hy
 kernel_rfl
theorem exec_as {o:Oper} {a:Act} {y:Operand} {u:Value} (hop:o.op=Op.assign y) (hy:a.eval y=u) (w:World):(execOp a.eval o).run Tryz.prog w=.ok (.value u) w:=by
 cases o
 simp only at hop
 subst hop hy
 kernel_rfl
theorem exec_x0 {o:Oper} {a:Act} {y:Operand} {u v:Value} (hop:o.op=Op.extract y 0) (hy:a.eval y=.tuple #[u,v]) (w:World):(execOp a.eval o).run Tryz.prog w=.ok (.value u) w:=by
 cases o
 simp only at hop
 subst hop
 unfold execOp
 simp only [hy]
 kernel_rfl
theorem exec_x1 {o:Oper} {a:Act} {y:Operand} {u v:Value} (hop:o.op=Op.extract y 1) (hy:a.eval y=.tuple #[u,v]) (w:World):(execOp a.eval o).run Tryz.prog w=.ok (.value v) w:=by
 cases o
 simp only at hop
 subst hop
 unfold execOp
 simp only [hy]
 kernel_rfl
theorem exec_st {o:Oper} {a:Act} {y z:Operand} {P:Nat} {q0 q1:Option Addr} {n0 c0 n1 c1:Nat} {w:World} (hop:o.op=Op.store 25 y z) (hy:a.eval y=.pointer (some ⟨P,0,none⟩)) (hz:a.eval z=.agg #[.slice q0 n0 c0,.slice q1 n1 c1])
  (hp:w.heap[P]? = some (.cells #[.slice none 0 0,.slice none 0 0] 25 (0,0))):(execOp a.eval o).run Tryz.prog w=.ok .skip ((w.setCell ⟨P,0,none⟩ (.slice q0 n0 c0)).setCell ⟨P,1,none⟩ (.slice q1 n1 c1)):=by
 cases o
 simp only at hop
 subst hop
 have hA1:=(Array.getElem?_eq_some_iff.1 hp).1
 have cA0:w.cell? ⟨P,0,none⟩=some (.slice none 0 0):=cell_blk hp
 have cA1:w.cell? ⟨P,1,none⟩=some (.slice none 0 0):=cell_blk hp
 have fA:∀o,w.frozen? ⟨P,o,none⟩=false:=fun o=>frozen_blk hp
 clear hp
 unfold execOp
 simp only [hy,hz]
 go_simp
theorem Rg.sc {wv:World} {ops:Array Oper} {Q:Exit->Act->World->Prop} {fuel i:Nat} {listed:Array Bool} {a:Act} {w:World} {o:Oper} {og op:Option Nat} (h:Rg wv none og op w) {y:Operand} {u:Value} {xs:List Int} (hl:xs.length<=1048576) (hrd:Rd w.heap.size w u xs) (hg:o.guard=none) (hop:o.op=Op.call { callee:=Callee.value (.func 27),args:=#[y],argTypes:=#[23] })
  (hK:∀xc yc w',Rg wv (some (.slice xc xs.length yc,xs)) og op w'->wpAnyH Tryz.prog .any ops Q (fun w'=>Below wv.heap.size wv w') fuel (listed.setIfInBounds i true) (a.put o.dst (.slice xc xs.length yc)) w') (hy:a.eval y=u:=by kernel_rfl):Stp ops Q (fun w'=>Below wv.heap.size wv w') fuel listed i o a w :=
 stp_call hg (exec_f27 hop hy w) (l2Copy_any _ xs w hl hrd) fun v w' hv=>by
  have R:=h.copy hv.1 hv.2
  obtain ⟨xc,yc,ec⟩:=owns_form hv.1
  subst ec
  exact ⟨R.bel,hK _ _ _ R⟩
theorem Rg.sa {wv:World} {ops:Array Oper} {Q:Exit->Act->World->Prop} {fuel i:Nat} {listed:Array Bool} {a:Act} {w:World} {o:Oper} {og op:Option Nat} {v u:Value} {xs ys sh:List Int} (h:Rg wv (some (v,xs)) og op w) {s y:Operand} (e:xs++ys=sh) (hb:sh.length<=16777216) (hrd:Rd w.heap.size w u ys) (hg:o.guard=none) (hop:o.op=Op.call { callee:=Callee.builtin Builtin.append,args:=#[s,y],argTypes:=#[23,23] })
  (hK:∀xc yc w',Rg wv (some (.slice xc sh.length yc,sh)) og op w'->wpAnyH Tryz.prog .any ops Q (fun w'=>Below wv.heap.size wv w') fuel (listed.setIfInBounds i true) (a.put o.dst (.slice xc sh.length yc)) w') (hs:a.eval s=v:=by kernel_rfl) (hy:a.eval y=u:=by kernel_rfl):Stp ops Q (fun w'=>Below wv.heap.size wv w') fuel listed i o a w:=fun K' shut =>
 step_append_at (base:=wv.heap.size) w hg s y hop v u hs hy xs.length xs ys (h.c _ _ rfl) hrd (by rw [<- e,List.length_append] at hb; exact hb) h.bel.size fun v' w' ho hgw hat=>by
  have R:=h.app e ho hgw hat
  obtain ⟨xc,yc,ec⟩:=owns_form (R.c _ _ rfl)
  subst ec
  exact shut.out _ _ R.bel fun _=>hK _ _ _ R
theorem Rg.sl {wv:World} {ops:Array Oper} {Q:Exit->Act->World->Prop} {fuel i:Nat} {listed:Array Bool} {a:Act} {w:World} {o:Oper} {oc:Option (Value × List Int)} {op:Option Nat} (h:Rg wv oc none op w) (hg:o.guard=none) (hop:o.op=Op.buildSlice 23 0 #[])
  (hK:∀g w',Rg wv oc (some g) op w'->wpAnyH Tryz.prog .any ops Q (fun w'=>Below wv.heap.size wv w') fuel (listed.setIfInBounds i true) (a.put o.dst (.slice (some ⟨g,0,none⟩) 0 0)) w'):Stp ops Q (fun w'=>Below wv.heap.size wv w') fuel listed i o a w :=
 stp_of _ _ hg (exec_nil hop w) h.lit.bel (hK _ _ h.lit)
theorem Rg.sv {wv:World} {ops:Array Oper} {Q:Exit->Act->World->Prop} {fuel i:Nat} {listed:Array Bool} {a:Act} {w:World} {o:Oper} {oc:Option (Value × List Int)} {og:Option Nat} (h:Rg wv oc og none w) (hg:o.guard=none) (hop:o.op=Op.alloc 25)
  (hK:∀P w',Rg wv oc og (some P) w'->wpAnyH Tryz.prog .any ops Q (fun w'=>Below wv.heap.size wv w') fuel (listed.setIfInBounds i true) (a.put o.dst (.pointer (some ⟨P,0,none⟩))) w'):Stp ops Q (fun w'=>Below wv.heap.size wv w') fuel listed i o a w :=
 stp_of _ _ hg (exec_var hop w) h.var.bel (hK _ _ h.var)
def MO (sh:List Int) (v:Value) (k:Nat) (q0:Option Addr) (n0 c0:Nat) (q1:Option Addr) (n1 c1:Nat) (cc:Int):Prop :=
 (Pl.fitsB sh=true/\cc=0/\Value.slice q0 n0 c0=v/\Value.slice q1 n1 c1=.slice (some ⟨k,0,none⟩) 0 0)\/(Pl.fitsB sh=false/\cc=6/\Value.slice q0 n0 c0=.slice none 0 0/\Value.slice q1 n1 c1=.slice none 0 0)
theorem Rg.sm {wv:World} {ops:Array Oper} {Q:Exit->Act->World->Prop} {fuel i:Nat} {listed:Array Bool} {a:Act} {w:World} {o:Oper} {op:Option Nat} {sh:List Int} {x:Option Addr} {c k:Nat} (h:Rg wv (some (.slice x sh.length c,sh)) (some k) op w) {y z:Operand} (hb:sh.length<=1048576) (hg:o.guard=none) (hop:o.op=Op.call { callee:=Callee.value (.func 62),args:=#[y,z],argTypes:=#[23,23] })
  (hK:∀q0 n0 c0 q1 n1 c1 cc w',Rg wv (some (.slice x sh.length c,sh)) (some k) op w'->MO sh (.slice x sh.length c) k q0 n0 c0 q1 n1 c1 cc->wpAnyH Tryz.prog .any ops Q (fun w'=>Below wv.heap.size wv w') fuel (listed.setIfInBounds i true) (a.put o.dst (.tuple #[.agg #[.slice q0 n0 c0,.slice q1 n1 c1],.int .i64 cc])) w') (hy:a.eval y=.slice x sh.length c:=by kernel_rfl) (hz:a.eval z=.slice (some ⟨k,0,none⟩) 0 0:=by kernel_rfl):Stp ops Q (fun w'=>Below wv.heap.size wv w') fuel listed i o a w :=
 stp_call (R:=fun v w'=>∃q0 n0 c0 q1 n1 c1 cc,v=.tuple #[.agg #[.slice q0 n0 c0,.slice q1 n1 c1],.int .i64 cc]/\Below w.heap.size w w'/\MO sh (.slice x sh.length c) k q0 n0 c0 q1 n1 c1 cc) hg (exec_f62 hop hy hz w)
  ((l2Made_two w.heap.size _ _ _ _ _ sh w hb (own_of_any (h.c _ _ rfl)).rd (Nat.le_refl _)).mono fun e w' he=>by
   obtain ⟨q0,n0,c0,q1,n1,c1,cc,rfl,hb,hor⟩:=he
   exact ⟨_,rfl,_,_,_,_,_,_,_,rfl,hb,hor⟩)
  fun v w' hv=>by
   obtain ⟨q0,n0,c0,q1,n1,c1,cc,rfl,hb,hor⟩:=hv
   exact ⟨(h.keep hb).bel,hK _ _ _ _ _ _ _ _ (h.keep hb) hor⟩
theorem tk3 {ops:Array Oper} {Q:Exit->Act->World->Prop} {fuel:Nat} {listed:Array Bool} {a:Act} {w:World} (i1 i2 i3:Nat) {o1 o2 o3:Oper} {y1 y2 y3:Operand} {u v:Value} {S:World->Prop} (hS:S w) (e1:ops[i1]? = some o1) (e2:ops[i2]? = some o2) (e3:ops[i3]? = some o3) (p1:o1.op=Op.move y1) (p2:o2.op=Op.extract y2 0) (p3:o3.op=Op.extract y3 1)
  (h:wpAnyH Tryz.prog .any ops Q S fuel (((listed.setIfInBounds i1 true).setIfInBounds i2 true).setIfInBounds i3 true) (((a.put o1.dst (.tuple #[u,v])).put o2.dst u).put o3.dst v) w)
  (x1:a.eval y1=.tuple #[u,v]:=by kernel_rfl) (x2:(a.put o1.dst (.tuple #[u,v])).eval y2=.tuple #[u,v]:=by kernel_rfl) (x3:((a.put o1.dst (.tuple #[u,v])).put o2.dst u).eval y3=.tuple #[u,v]:=by kernel_rfl) (hQ:∀d v c a w,Q (.panic c) (Act.put a d v) w->Q (.panic c) a w:=by intro d v c a w h; cases d <;> exact h) (hs:Region.noSelect ops=true:=by kernel_rfl)
  (f1:Region.free .any ops listed i1=true:=by kernel_rfl) (r1:(Region.ready .any ops listed).contains i1=true:=by kernel_rfl) (w1:o1.guard=none:=by rfl)
  (f2:Region.free .any ops (listed.setIfInBounds i1 true) i2=true:=by kernel_rfl) (r2:(Region.ready .any ops (listed.setIfInBounds i1 true)).contains i2=true:=by kernel_rfl) (w2:o2.guard=none:=by rfl)
  (f3:Region.free .any ops ((listed.setIfInBounds i1 true).setIfInBounds i2 true) i3=true:=by kernel_rfl) (r3:(Region.ready .any ops ((listed.setIfInBounds i1 true).setIfInBounds i2 true)).contains i3=true:=by kernel_rfl) (w3:o3.guard=none:=by rfl) :
  wpAnyH Tryz.prog .any ops Q S (fuel+1+1+1) listed a w :=
 tk i1 _ hS e1 hs f1 r1 (fun c a w=>hQ _ _ c a w) (by simp [Region.wanted,w1]) (fun w _=>exec_mv p1 x1 w)
  (tk i2 _ hS e2 hs f2 r2 (fun c a w=>hQ _ _ c a w) (by simp [Region.wanted,w2]) (fun w _=>exec_x0 p2 x2 w)
   (tk i3 _ hS e3 hs f3 r3 (fun c a w=>hQ _ _ c a w) (by simp [Region.wanted,w3]) (fun w _=>exec_x1 p3 x3 w) h))
theorem Rg.st {wv:World} {ops:Array Oper} {Q:Exit->Act->World->Prop} {fuel:Nat} {listed:Array Bool} {a:Act} {w:World} {sh:List Int} {v:Value} {k P:Nat} (h:Rg wv (some (v,sh)) (some k) (some P) w) {q0 q1:Option Addr} {n0 c0 n1 c1:Nat} {cc:Int} (hm:MO sh v k q0 n0 c0 q1 n1 c1 cc) (i1 i2:Nat) {o1 o2:Oper} {y1 z1 y2:Operand} (e1:ops[i1]? = some o1) (e2:ops[i2]? = some o2) (p1:o1.op=Op.store 25 y1 z1) (p2:o2.op=Op.assign y2)
  (hK:∀w',Mk wv sh P cc (.slice q0 n0 c0) (.slice q1 n1 c1) w'->Q .normal (a.put o2.dst (.int .i64 cc)) w')
  (x1:a.eval y1=.pointer (some ⟨P,0,none⟩):=by kernel_rfl) (x2:a.eval z1=.agg #[.slice q0 n0 c0,.slice q1 n1 c1]:=by kernel_rfl) (x3:a.eval y2=.int .i64 cc:=by kernel_rfl) (w1:o1.guard=none:=by rfl) (d1:o1.dst=none:=by rfl) (w2:o2.guard=none:=by rfl)
  (r1:Region.ready .any ops listed=[i1]:=by kernel_rfl) (r2:Region.ready .any ops (listed.setIfInBounds i1 true)=[i2]:=by kernel_rfl) (r3:Region.ready .any ops ((listed.setIfInBounds i1 true).setIfInBounds i2 true)=[]:=by kernel_rfl) :
  wpAnyH Tryz.prog .any ops Q (fun w'=>Below wv.heap.size wv w') (fuel+1+1) listed a w:=by
 have M:=h.done hm
 exact rd1 i1 r1 e1 (stp_skip _ w1 d1 (exec_st p1 x1 x2 (h.p _ rfl).2) M.1 (rd1 i2 r2 e2 (stp_of _ _ w2 (exec_as p2 x3 _) M.1 (wpAnyH_done r3 (hK _ M) _))))
end Go.Proofs.YtacapaiadggemaaGreat
