import Derived.Test.YtbiiicbfpcfgdaaGreatDoorExz
import Derived.Test.YtbiiicbfpcfgdaaGreatDoorSpn
namespace Go.Proofs.YtbiiicbfpcfgdaaGreatDoor
open Go.RowKit
set_option maxRecDepth 100000
set_option maxHeartbeats 16000000
set_option linter.unusedVariables false
theorem types_147:Tryz.prog.types.size=213:=by kernel_rfl
abbrev mcode (T : TypeId) (q : Value) : Sem (FuncId × Value) := method 313 T q "loop.example/s02135/impl.code"
theorem meth_c119 (p:Value) (w:World):(mcode 153 p).run Tryz.prog w=.ok (174,p) w:=by kernel_rfl
theorem meth_c121 (p:Value) (w:World):(mcode 155 p).run Tryz.prog w=.ok (177,p) w:=by kernel_rfl
theorem meth_c128 (p:Value) (w:World):(mcode 160 p).run Tryz.prog w=.ok (180,p) w:=by kernel_rfl
theorem meth_c130 (p:Value) (w:World):(mcode 162 p).run Tryz.prog w=.ok (183,p) w:=by kernel_rfl
theorem exec_inv {o : Oper} {a : Act} (x y : Operand) (T : TypeId) (q v : Value) (fn : FuncId) (ts : Array TypeId) (hm : ∀ w, (mcode T q).run Tryz.prog w = .ok (fn, q) w) (he : ∀ args w, (callFunc fn args).run Tryz.prog w = .ok (.enter fn args) w) (ho : o.op = Op.call { callee := .invoke x "loop.example/s02135/impl.code", args := #[y], argTypes := ts }) (hx : a.eval x = .iface T q) (hy : a.eval y = v) (w : World) : (execOp a.eval o).run Tryz.prog w = .ok (.enter fn #[q, v]) w := by
 have hm' : ∀ w, (method (213 + Made.depth) T q "loop.example/s02135/impl.code").run Tryz.prog w = .ok (fn, q) w := hm
 simp[execOp,ho,hx,hy,resolve,invoke,callMethod,hm',he,Result.andThen]
theorem exec_f119_0 {o:Oper}{a:Act}(x:Operand) (b:Nat) (ho:o.op=Op.fieldAddr 153 x 0) (hx:a.eval x=.pointer (some ⟨b,0,none⟩)) (w:World):(execOp a.eval o).run Tryz.prog w=.ok (.value (.pointer (some ⟨b,0,none⟩))) w:=by
 simp only[execOp,ho,hx]
 go_simp
theorem exec_f119_1 {o:Oper}{a:Act}(x:Operand) (b:Nat) (ho:o.op=Op.fieldAddr 153 x 1) (hx:a.eval x=.pointer (some ⟨b,0,none⟩)) (w:World):(execOp a.eval o).run Tryz.prog w=.ok (.value (.pointer (some ⟨b,4,none⟩))) w:=by
 simp only[execOp,ho,hx]
 go_simp
theorem exec_f121_0 {o:Oper}{a:Act}(x:Operand) (b:Nat) (ho:o.op=Op.fieldAddr 155 x 0) (hx:a.eval x=.pointer (some ⟨b,0,none⟩)) (w:World):(execOp a.eval o).run Tryz.prog w=.ok (.value (.pointer (some ⟨b,0,none⟩))) w:=by
 simp only[execOp,ho,hx]
 go_simp
theorem exec_f121_1 {o:Oper}{a:Act}(x:Operand) (b:Nat) (ho:o.op=Op.fieldAddr 155 x 1) (hx:a.eval x=.pointer (some ⟨b,0,none⟩)) (w:World):(execOp a.eval o).run Tryz.prog w=.ok (.value (.pointer (some ⟨b,1,none⟩))) w:=by
 simp only[execOp,ho,hx]
 go_simp
theorem exec_f121_2 {o:Oper}{a:Act}(x:Operand) (b:Nat) (ho:o.op=Op.fieldAddr 155 x 2) (hx:a.eval x=.pointer (some ⟨b,0,none⟩)) (w:World):(execOp a.eval o).run Tryz.prog w=.ok (.value (.pointer (some ⟨b,5,none⟩))) w:=by
 simp only[execOp,ho,hx]
 go_simp
theorem exec_load106 {o:Oper}{a:Act}(x:Operand) (b j:Nat) (T:TypeId) (q:Value) (w:World) (ho:o.op=Op.load 135 x) (hx:a.eval x=.pointer (some ⟨b,j,none⟩)) (d:w.cell? ⟨b,j,none⟩=some (.iface T q)):(execOp a.eval o).run Tryz.prog w=.ok (.value (.iface T q)) w:=by
 simp only[execOp,ho,hx]
 go_simp
theorem exec_load79j {o:Oper}{a:Act}(x:Operand) (b j:Nat) (k p q:Int) (s:ByteArray) (w:World) (ho:o.op=Op.load 88 x) (hx:a.eval x=.pointer (some ⟨b,j,none⟩)) (d0:w.cell? ⟨b,j,none⟩=some (.int .i64 k)) (d1:w.cell? ⟨b,j+1,none⟩=some (.int .i64 p)) (d2:w.cell? ⟨b,j+2,none⟩=some (.int .i64 q)) (d3:w.cell? ⟨b,j+3,none⟩=some (.string s)) :
  (execOp a.eval o).run Tryz.prog w=.ok (.value (.agg #[.int .i64 k,.int .i64 p,.int .i64 q,.string s])) w:=by
 have z:=Tryz.sizeOf88
 have g:=Tryz.isAgg88
 simp only[execOp,ho,hx]
 go_simp
theorem exec_nilc {o:Oper}{a:Act}(x:Operand) (T:TypeId) (q:Value) (w:World) (ho:o.op=Op.nilCheck x) (hx:a.eval x=.iface T q):(execOp a.eval o).run Tryz.prog w=.ok (.value (.iface T q)) w:=by
 simp[execOp,ho,hx]
theorem exec_build81k {o:Oper}{a:Act}(c y:Operand) (k fk fa fb:Int) (fn:ByteArray) (ho:o.op=Op.build 90 #[(0,c),(3,y)]) (hc:a.eval c=.int .i64 k) (hy:a.eval y=.agg #[.int .i64 fk,.int .i64 fa,.int .i64 fb,.string fn]) (w:World):(execOp a.eval o).run Tryz.prog w=.ok (.value (.agg #[.int .i64 k,.slice none 0 0,.string ⟨#[]⟩,.int .i64 fk,.int .i64 fa,.int .i64 fb,.string fn])) w:=by
 simp[execOp,ho,hc,hy]
 go_simp
theorem exec_bs34k {o:Oper}{a:Act}(x:Operand) (k fk fa fb:Int) (fn:ByteArray) (ho:o.op=Op.buildSlice 40 1 #[(0,x)]) (hx:a.eval x=.agg #[.int .i64 k,.slice none 0 0,.string ⟨#[]⟩,.int .i64 fk,.int .i64 fa,.int .i64 fb,.string fn]) (w:World):(execOp a.eval o).run Tryz.prog w=.ok (.value (.slice (some ⟨w.heap.size,0,none⟩) 1 1)) (w.alloc (.cells #[.int .i64 k,.slice none 0 0,.string ⟨#[]⟩,.int .i64 fk,.int .i64 fa,.int .i64 fb,.string fn] 90)):=by
 simp[execOp,ho,hx]
 go_simp
theorem step_cv {P:Program}{md:Region.Mode}{ops:Array Oper}{Q:Exit->Act->World->Prop}{S:World->Prop}{fuel:Nat}{listed:Array Bool}{i j:Nat}{o o2:Oper}{a:Act}{w w2:World}(hr:Region.ready md ops listed=[i,j]) (ho:ops[i]? = some o) (hg:o.guard=none) (f:FuncId) (args:Array Value) (h:(execOp a.eval o).run P w=.ok (.enter f args) w)
  (ho2:ops[j]? = some o2) (hg2:o2.guard=none) (v2:Value) (h2:(execOp a.eval o2).run P w=.ok (.value v2) w2) (hS2:S w2)
  (hN:Calls P f args w fun e w'=>∃v,e=.returned v/\S w'/\wpAnyH P md ops Q S fuel (listed.setIfInBounds i true) (a.put o.dst v) w') (hN2:wpAnyH P md ops Q S fuel (listed.setIfInBounds j true) (a.put o2.dst v2) w2):wpAnyH P md ops Q S (fuel+1) listed a w :=
 wpAnyH_ready hr sI (AllReadyH.cons ho (fun K hK=>ready_callq hg f args h (hN.mono (by
  rintro e w' ⟨v,rfl,hS,hW⟩
  exact⟨v,rfl,hK.out _ _ hS (fun _=>hW)⟩))) (AllReadyH.cons ho2 (fun K hK=>ready_valq hg2 v2 h2 (hK.out _ _ hS2 (fun _=>hN2))) AllReadyH.nil))
def CdC (c:List Pl.Sv) (N:World->Value->List Nat->Prop) (v:Value) (F:List Nat):Prop:=∃T q fn,v=.iface T q/\(∀w,(mcode T q).run Tryz.prog w=.ok (fn,q) w)/\(∀args w,(callFunc fn args).run Tryz.prog w=.ok (.enter fn args) w) /\
 ∀(X:World) (B:Nat) (sv:Value) (c0:List Pl.Sv) (F0:List Nat),N X v F->OwS X sv c0 F0->Inb B X F0->Inb B X F->(∀x∈F,x ∉ F0)->c0.length+c.length<=16777216->B<=X.heap.size ->
  Calls Tryz.prog fn #[q,sv] X fun e w'=>∃v' F',e=.returned v'/\CdR X w' B sv v' (c0++c) F0 F F'
structure S1 (p:Nat) (f:Pl.Fnv) (vr:Value) (W:World):Prop where
 lt:p<W.heap.size
 c0:W.cell? ⟨p,0,none⟩=some (.int .i64 f.k)
 c1:W.cell? ⟨p,1,none⟩=some (.int .i64 f.a)
 c2:W.cell? ⟨p,2,none⟩=some (.int .i64 f.b)
 c3:W.cell? ⟨p,3,none⟩=some (.string (Pl.ba f.nm))
 c4:W.cell? ⟨p,4,none⟩=some vr
theorem S1.same {p:Nat}{f:Pl.Fnv}{vr:Value}{W W':World}(h:S1 p f vr W) (hp:W'.heap[p]? = W.heap[p]?) (hs:W.heap.size<=W'.heap.size):S1 p f vr W':=by
 have g (j:Nat):W'.cell? ⟨p,j,none⟩=W.cell? ⟨p,j,none⟩:=World.cell?_of_block hp
 exact⟨Nat.lt_of_lt_of_le h.lt hs,(g 0).trans h.c0,(g 1).trans h.c1,(g 2).trans h.c2,(g 3).trans h.c3,(g 4).trans h.c4⟩
theorem S1.alloc {p:Nat}{f:Pl.Fnv}{vr:Value}{W:World}(h:S1 p f vr W) (o:Obj):S1 p f vr (W.alloc o):=h.same (Below.heap_alloc _ _ _ h.lt) sI
theorem S1.cdr {p:Nat}{f:Pl.Fnv}{vr:Value}{W W':World}{B:Nat}{sv v':Value}{c:List Pl.Sv}{F0 F F':List Nat}(h:S1 p f vr W) (hc:CdR W W' B sv v' c F0 F F') (hp:sv.ownBlock ≠ some p):S1 p f vr W':=h.same (hc.g.block _ h.lt (fun e=>hp e.symm)) hc.g.size
abbrev recK (k:Int) (f:Pl.Fnv):List Value:=[.int .i64 k,.slice none 0 0,.string ⟨#[]⟩,.int .i64 f.k,.int .i64 f.a,.int .i64 f.b,.string (Pl.ba f.nm)]
theorem qsK (w:World) (k:Int) (f:Pl.Fnv):Qs w (recK k f) ⟨k,[],[],f⟩ []:=⟨_,rfl,Own.nil _⟩
theorem last_k {w X:World}{B:Nat}{sv v1:Value}{c1:List Pl.Sv}{F0 F1 Fa:List Nat}{k:Int}{f:Pl.Fnv}{q:Nat}(h:CdR w X B sv v1 c1 F0 F1 Fa) (hc:∀j u,(recK k f)[j]? = some u->X.cell? ⟨q,0+j,none⟩=some u) (hbd:c1.length+1<=16777216) (hB:B<=X.heap.size) (ty:TypeId) :
  ∃v' w' F',(Builtin.append_ #[40,40] ty #[v1,.slice (some ⟨q,0,none⟩) 1 1]).run Tryz.prog X=.ok v' w'/\CdR w w' B sv v' (c1++[⟨k,[],[],f⟩]) F0 F1 F'/\X.grownBy w' v1.ownBlock:=by
 obtain⟨v',w',F',hr,hx⟩:=OwS.more h.o h.i (qsK X k f) (Inb.nil _ _) List.nodup_nil sI hc hbd hB (cap:=1) ty
 exact⟨v',w',F',hr,(h.trans hx).mem rfl (fun x hx=>.inl (by simpa using hx)),hx.g⟩
theorem CdR.keepb {w w':World}{B:Nat}{sv v':Value}{c:List Pl.Sv}{F0 F F':List Nat}{p:Nat}(h:CdR w w' B sv v' c F0 F F') (hp:p<w.heap.size) (hn:sv.ownBlock ≠ some p):w'.heap[p]? = w.heap[p]?:=h.g.block _ hp (fun e=>hn e.symm)
theorem CdR.notown {w w':World}{B:Nat}{sv v':Value}{c:List Pl.Sv}{F0 F F':List Nat}{p:Nat}(h:CdR w w' B sv v' c F0 F F') (hp:p<w.heap.size) (hn:sv.ownBlock ≠ some p):v'.ownBlock ≠ some p:=fun e=>by
 rcases h.b p e with r|r
 ·exact hn r
 omega
theorem runC {c:List Pl.Sv}{N:World->Value->List Nat->Prop}{v q:Value}{fn:FuncId}{F:List Nat}
  (hC:∀(X:World) (B:Nat) (sv:Value) (c0:List Pl.Sv) (F0:List Nat),N X v F->OwS X sv c0 F0->Inb B X F0->Inb B X F->(∀x∈F,x ∉ F0)->c0.length+c.length<=16777216->B<=X.heap.size->Calls Tryz.prog fn #[q,sv] X fun e w'=>∃v' F',e=.returned v'/\CdR X w' B sv v' (c0++c) F0 F F')
  (hup:∀w w':World,(∀b∈F,w'.heap[b]? = w.heap[b]?)->N w v F->N w' v F)
  {w W:World} {B:Nat} {sv v1:Value} {c0 c1:List Pl.Sv} {F0 G Fa:List Nat} (h:CdR w W B sv v1 c1 F0 G Fa) (hN:N w v F) (hS:OwS w sv c0 F0) (hF:Inb B w F) (hd:∀x∈F,x ∉ F0) (hG:∀x∈F,x ∉ G) (hbd:c1.length+c.length<=16777216) (hB:B<=w.heap.size) :
  Calls Tryz.prog fn #[q,v1] W fun e w'=>∃v' F',e=.returned v'/\CdR W w' B v1 v' (c1++c) Fa F F' :=
 hC W B v1 c1 Fa (hup w W (fun b hb=>h.g.block b (hF b hb).2 (fun e=>hd b hb ((hS.lt b e.symm).1))) hN) h.o h.i (hF.up (Nat.le_refl _) h.g.size) (fun x hx hm=>by
  rcases h.f x hm with r|r|r
  ·exact hd x hx r
  ·exact hG x hx r
  have:=(hF x hx).2;omega) hbd (by have:=h.g.size;omega)
structure S2 (p:Nat) (f:Pl.Fnv) (vl vr:Value) (W:World):Prop where
 lt:p<W.heap.size
 c0:W.cell? ⟨p,0,none⟩=some vl
 c1:W.cell? ⟨p,1,none⟩=some (.int .i64 f.k)
 c2:W.cell? ⟨p,2,none⟩=some (.int .i64 f.a)
 c3:W.cell? ⟨p,3,none⟩=some (.int .i64 f.b)
 c4:W.cell? ⟨p,4,none⟩=some (.string (Pl.ba f.nm))
 c5:W.cell? ⟨p,5,none⟩=some vr
theorem S2.same {p:Nat}{f:Pl.Fnv}{vl vr:Value}{W W':World}(h:S2 p f vl vr W) (hp:W'.heap[p]? = W.heap[p]?) (hs:W.heap.size<=W'.heap.size):S2 p f vl vr W':=by
 have g (j:Nat):W'.cell? ⟨p,j,none⟩=W.cell? ⟨p,j,none⟩:=World.cell?_of_block hp
 exact⟨Nat.lt_of_lt_of_le h.lt hs,(g 0).trans h.c0,(g 1).trans h.c1,(g 2).trans h.c2,(g 3).trans h.c3,(g 4).trans h.c4,(g 5).trans h.c5⟩
theorem S2.alloc {p:Nat}{f:Pl.Fnv}{vl vr:Value}{W:World}(h:S2 p f vl vr W) (o:Obj):S2 p f vl vr (W.alloc o):=h.same (Below.heap_alloc _ _ _ h.lt) sI
theorem S2.cdr {p:Nat}{f:Pl.Fnv}{vl vr:Value}{W W':World}{B:Nat}{sv v':Value}{c:List Pl.Sv}{F0 F F':List Nat}(h:S2 p f vl vr W) (hc:CdR W W' B sv v' c F0 F F') (hp:sv.ownBlock ≠ some p):S2 p f vl vr W':=h.same (hc.g.block _ h.lt (fun e=>hp e.symm)) hc.g.size
abbrev objK (k:Int) (f:Pl.Fnv):Obj:=.cells #[.int .i64 k,.slice none 0 0,.string ⟨#[]⟩,.int .i64 f.k,.int .i64 f.a,.int .i64 f.b,.string (Pl.ba f.nm)] 90
theorem recK_new (w:World) (k:Int) (f:Pl.Fnv):∀j u,(recK k f)[j]? = some u->(w.alloc (objK k f)).cell? ⟨w.heap.size,0+j,none⟩=some u:=cells_new (l:=recK k f) sI
theorem recK_keep {w w':World}{k:Int}{f:Pl.Fnv}{p:Nat}(h:∀j u,(recK k f)[j]? = some u->w.cell? ⟨p,0+j,none⟩=some u) (hk:w'.heap[p]? = w.heap[p]?):∀j u,(recK k f)[j]? = some u->w'.cell? ⟨p,0+j,none⟩=some u:=fun j u hj=>(World.cell?_of_block (a:=⟨p,0+j,none⟩) hk).trans (h j u hj)
theorem code_one (f:Pl.Fnv) (vr:Value) (cr:List Pl.Sv) (N:World->Value->List Nat->Prop) (F:List Nat) (hk:CdC cr N vr F) (hup:∀w w':World,(∀b∈F,w'.heap[b]? = w.heap[b]?)->N w vr F->N w' vr F)
  (X:World) (B:Nat) (sv:Value) (c0:List Pl.Sv) (F0:List Nat) (hN:N X vr F) (hS:OwS X sv c0 F0) (hF0:Inb B X F0) (hF:Inb B X F) (hd:∀x∈F,x ∉ F0) (hbd:c0.length+(cr.length+1)<=16777216) (hB:B<=X.heap.size) :
  Calls Tryz.prog 174 #[.agg #[.int .i64 f.k,.int .i64 f.a,.int .i64 f.b,.string (Pl.ba f.nm),vr],sv] X fun e w'=>∃v' F',e=.returned v'/\CdR X w' B sv v' (c0++(cr++[⟨3,[],[],f⟩])) F0 F F':=by
 obtain⟨T,q,fn,rfl,hm,he,hC⟩:=hk
 obtain⟨ao0,cap0,rfl⟩:=hS.slice
 generalize hcl:c0.length=cl at hbd ⊢
 rw[hcl] at hS
 have BB:Below X.heap.size X (X.alloc (.cells #[.int .i64 f.k,.int .i64 f.a,.int .i64 f.b,.string (Pl.ba f.nm),.iface T q] 153)).drew:=((Below.refl _ _).alloc (Nat.le_refl _) _).drew
 have S0:Hid (S1 X.heap.size f (.iface T q) (X.alloc (.cells #[.int .i64 f.k,.int .i64 f.a,.int .i64 f.b,.string (Pl.ba f.nm),.iface T q] 153)).drew):=⟨by simp,by simp[go_sem],by simp[go_sem],by simp[go_sem],by simp[go_sem],by simp[go_sem]⟩
 have hnb:∀b,(.slice ao0 cl cap0:Value).ownBlock=some b->b<X.heap.size:=fun b hb=>(hF0 b (hS.lt b hb).1).2
 have HNB:=zH hnb
 have HS0:=zH (hS.below Qs.lives hF0 BB (Nat.le_refl _))
 have HI0:=zH (hF0.up (Nat.le_refl _) BB.size)
 have HF:=zH (hF.up (Nat.le_refl _) BB.size)
 have HN0:=zH (hup X _ (fun b hb=>BB.block b (hF b hb).2) hN)
 have HD:=zH hd
 have HC:=zH hC
 have HUP:=zH hup
 have HB:=zH (Nat.le_trans hB BB.size)
 have HM:=zH hm
 have HE:=zH he
 have HBB:=zH BB
 clear BB hnb hS hF0 hF hN hd hC hup hB hm he
 go_enter Tryz.func174,Tryz.ntmps174
 go_wp2_with fail
 refine wp_region_held (S:=fun W=>S1 X.heap.size f (.iface T q) W) kR ?_
 change wpAnyH _ _ _ _ _ _ _ _ (World.drew _)
 generalize (X.alloc (.cells #[.int .i64 f.k,.int .i64 f.a,.int .i64 f.b,.string (Pl.ba f.nm),.iface T q] 153)).drew=W0 at *
 have CR:Hid (CdR W0 W0 B (.slice ao0 cl cap0) (.slice ao0 cl cap0) c0 F0 [] F0):=CdR.refl HS0.out HI0.out
 have hpp:(.slice ao0 cl cap0:Value).ownBlock ≠ some X.heap.size:=fun e=>Nat.lt_irrefl _ (HNB.out _ e)
 have HPP:=zH hpp
 have hpw:(.slice ao0 cl cap0:Value).ownBlock ≠ some W0.heap.size:=fun e=>by have:=HNB.out _ e;have:=HBB.out.size;omega
 have HPW:=zH hpw
 clear hpp hpw
 refine tz 0 (.pointer (some ⟨X.heap.size,4,none⟩)) rfl S0.out (fun W hW=>exec_f119_1 (.tmp 2) X.heap.size rfl kR W) ?_
 refine tz 1 (.iface T q) rfl S0.out (fun W hW=>exec_load106 (.tmp 5) X.heap.size 4 T q W rfl kR hW.c4) ?_
 refine tz 2 (.slice ao0 cl cap0) rfl S0.out (fun W hW=>exec_moveq (.tmp 1) (.slice ao0 cl cap0) rfl kR W) ?_
 refine tz 4 (.pointer (some ⟨X.heap.size,0,none⟩)) rfl S0.out (fun W hW=>exec_f119_0 (.tmp 2) X.heap.size rfl kR W) ?_
 refine tz 5 (.agg #[.int .i64 f.k,.int .i64 f.a,.int .i64 f.b,.string (Pl.ba f.nm)]) rfl S0.out (fun W hW=>exec_load79j (.tmp 9) X.heap.size 0 f.k f.a f.b (Pl.ba f.nm) W rfl kR hW.c0 hW.c1 hW.c2 hW.c3) ?_
 refine tz 6 (.agg #[.int .i64 3,.slice none 0 0,.string ⟨#[]⟩,.int .i64 f.k,.int .i64 f.a,.int .i64 f.b,.string (Pl.ba f.nm)]) rfl S0.out (fun W hW=>exec_build81k (.const (.int .i64 3)) (.tmp 10) 3 f.k f.a f.b (Pl.ba f.nm) rfl rfl kR W) ?_
 refine step_cv (i:=3) (j:=7) kR rfl rfl fn #[q,.slice ao0 cl cap0] (exec_inv (.tmp 6) (.tmp 7) T q _ fn _ HM.out HE.out rfl kR kR W0) rfl rfl (.slice (some ⟨W0.heap.size,0,none⟩) 1 1) (exec_bs34k (.tmp 11) 3 f.k f.a f.b (Pl.ba f.nm) rfl kR W0) (S0.out.alloc _) ?_ ?_
 ·refine Calls.mono (runC HC.out HUP.out CR.out HN0.out HS0.out HF.out HD.out sI oM HB.out) ?_
  rintro e w1 ⟨v1,Fa,rfl,h1⟩
  have SA:Hid (S1 X.heap.size f (.iface T q) w1):=S0.out.cdr h1 HPP.out
  refine⟨v1,rfl,SA.out,?_⟩
  have H1:=zH h1
  have hz:=h1.g.size
  clear h1
  refine step_valq (i:=7) kR rfl rfl (.slice (some ⟨w1.heap.size,0,none⟩) 1 1) (exec_bs34k (.tmp 11) 3 f.k f.a f.b (Pl.ba f.nm) rfl kR w1) (SA.out.alloc _) ?_
  obtain⟨v9,w9,F9,hr9,h9,g9⟩:=last_k (H1.out.alloc (objK 3 f)) (recK_new w1 3 f) (by simp;omega) (by have:=HB.out;simp;omega) 40
  have hn9:v1.ownBlock ≠ some X.heap.size:=H1.out.notown S0.out.lt HPP.out
  have S9:Hid (S1 X.heap.size f (.iface T q) w9):=(SA.out.alloc (objK 3 f)).same (g9.block _ (SA.out.alloc _).lt (fun e=>hn9 e.symm)) g9.size
  refine step_valq (i:=8) kR rfl rfl v9 (exec_app34 (.tmp 8) (.tmp 12) v1 (.slice (some ⟨w1.heap.size,0,none⟩) 1 1) v9 _ w9 rfl kR kR hr9) S9.out ?_
  refine step_valq (i:=9) kR rfl rfl v9 (exec_assignq (.tmp 13) v9 rfl kR w9) S9.out ?_
  refine wpAnyH_done kR ?_ _
  have hone:=h9.o.one
  have H9:=zH ((h9.from_ HBB.out).mem (List.append_assoc _ _ _) (fun x hx=>.inl hx))
  clear h9 g9 hn9 S9 SA H1 hr9
  go_wp2_with fail
  refine bodyPost_ret (v:=v9) (by simp[results,Tryz.results174,go_sem]) rfl ⟨v9,F9,rfl,H9.out⟩
 have HKB:=zH (recK_new W0 3 f)
 refine step_callq (i:=3) kR rfl rfl fn #[q,.slice ao0 cl cap0] (exec_inv (.tmp 6) (.tmp 7) T q _ fn _ HM.out HE.out rfl kR kR _) ?_
 refine Calls.mono (runC HC.out HUP.out (CR.out.alloc (objK 3 f)) HN0.out HS0.out HF.out HD.out sI oM HB.out) ?_
 rintro e w1 ⟨v1,Fa,rfl,h1⟩
 have SA:Hid (S1 X.heap.size f (.iface T q) w1):=(S0.out.alloc (objK 3 f)).cdr h1 HPP.out
 refine⟨v1,rfl,SA.out,?_⟩
 have hz:=h1.g.size
 have hrc:=recK_keep HKB.out (h1.keepb sI HPW.out)
 obtain⟨v9,w9,F9,hr9,h9,g9⟩:=last_k h1 hrc (by simp;omega) (by have:=HB.out;simp at hz;omega) 40
 have hn9:v1.ownBlock ≠ some X.heap.size:=h1.notown (S0.out.alloc _).lt HPP.out
 have S9:Hid (S1 X.heap.size f (.iface T q) w9):=SA.out.same (g9.block _ SA.out.lt (fun e=>hn9 e.symm)) g9.size
 refine step_valq (i:=8) kR rfl rfl v9 (exec_app34 (.tmp 8) (.tmp 12) v1 (.slice (some ⟨W0.heap.size,0,none⟩) 1 1) v9 _ w9 rfl kR kR hr9) S9.out ?_
 refine step_valq (i:=9) kR rfl rfl v9 (exec_assignq (.tmp 13) v9 rfl kR w9) S9.out ?_
 refine wpAnyH_done kR ?_ _
 have hone:=h9.o.one
 have H9:=zH ((h9.from_ (HBB.out.alloc HBB.out.size (objK 3 f))).mem (List.append_assoc _ _ _) (fun x hx=>.inl hx))
 clear h9 g9 hn9 S9 SA h1 hr9 hrc hz HKB
 go_wp2_with fail
 refine bodyPost_ret (v:=v9) (by simp[results,Tryz.results174,go_sem]) rfl ⟨v9,F9,rfl,H9.out⟩
theorem tCdq1 {P:Prop}(h:P:=by
 refine step_valq (i:=14) kR rfl rfl v9 (exec_assignq (.tmp 18) v9 rfl kR w9) S9.out ?_
 refine wpAnyH_done kR ?_ _
 have hone:=h9.o.one
 have H9:=zH ((h9.from_ HBB.out).mem (c':=c0++(c2++(c1++[⟨4,[],[],f⟩]))) (G:=F2++F1) sI (fun x hx=>.inl (by simpa using hx)))
 clear h9 g9 S9 hr9 
 go_wp2_with fail
 refine bodyPost_ret (v:=v9) (by simp[results,Tryz.results177,go_sem]) rfl ⟨v9,F9,rfl,H9.out⟩
 ):P:=h
theorem code_two (f:Pl.Fnv) (vl vr:Value) (c1 c2:List Pl.Sv) (N1 N2:World->Value->List Nat->Prop) (F1 F2:List Nat) (hk1:CdC c1 N1 vl F1) (hk2:CdC c2 N2 vr F2) (hup1:∀w w':World,(∀b∈F1,w'.heap[b]? = w.heap[b]?)->N1 w vl F1->N1 w' vl F1) (hup2:∀w w':World,(∀b∈F2,w'.heap[b]? = w.heap[b]?)->N2 w vr F2->N2 w' vr F2)
  (X:World) (B:Nat) (sv:Value) (c0:List Pl.Sv) (F0:List Nat) (hN1:N1 X vl F1) (hN2:N2 X vr F2) (hS:OwS X sv c0 F0) (hF0:Inb B X F0) (hF1:Inb B X F1) (hF2:Inb B X F2) (hd1:∀x∈F1,x ∉ F0) (hd2:∀x∈F2,x ∉ F0) (h12:∀x∈F1,x ∉ F2) (hbd:c0.length+(c2.length+(c1.length+1))<=16777216) (hB:B<=X.heap.size) :
  Calls Tryz.prog 177 #[.agg #[vl,.int .i64 f.k,.int .i64 f.a,.int .i64 f.b,.string (Pl.ba f.nm),vr],sv] X fun e w'=>∃v' F',e=.returned v'/\CdR X w' B sv v' (c0++(c2++(c1++[⟨4,[],[],f⟩]))) F0 (F2++F1) F':=by
 obtain⟨T1,q1,fn1,rfl,hm1,he1,hC1⟩:=hk1
 obtain⟨T2,q2,fn2,rfl,hm2,he2,hC2⟩:=hk2
 obtain⟨ao0,cap0,rfl⟩:=hS.slice
 generalize hcl:c0.length=cl at hbd ⊢
 rw[hcl] at hS
 have BB:Below X.heap.size X (X.alloc (.cells #[.iface T1 q1,.int .i64 f.k,.int .i64 f.a,.int .i64 f.b,.string (Pl.ba f.nm),.iface T2 q2] 155)).drew:=((Below.refl _ _).alloc (Nat.le_refl _) _).drew
 have S0:Hid (S2 X.heap.size f (.iface T1 q1) (.iface T2 q2) (X.alloc (.cells #[.iface T1 q1,.int .i64 f.k,.int .i64 f.a,.int .i64 f.b,.string (Pl.ba f.nm),.iface T2 q2] 155)).drew):=⟨by simp,by simp[go_sem],by simp[go_sem],by simp[go_sem],by simp[go_sem],by simp[go_sem],by simp[go_sem]⟩
 have HNB:=zH (fun (b:Nat) (hb:(.slice ao0 cl cap0:Value).ownBlock=some b)=>(hF0 b (hS.lt b hb).1).2)
 have HS0:=zH (hS.below Qs.lives hF0 BB (Nat.le_refl _))
 have HI0:=zH (hF0.up (Nat.le_refl _) BB.size)
 have HF1:=zH (hF1.up (Nat.le_refl _) BB.size)
 have HF2:=zH (hF2.up (Nat.le_refl _) BB.size)
 have HN1:=zH (hup1 X _ (fun b hb=>BB.block b (hF1 b hb).2) hN1)
 have HN2:=zH (hup2 X _ (fun b hb=>BB.block b (hF2 b hb).2) hN2)
 have HD1:=zH hd1
 have HD2:=zH hd2
 have H12:=zH h12
 have HC1:=zH hC1
 have HC2:=zH hC2
 have HUP1:=zH hup1
 have HUP2:=zH hup2
 have HB:=zH (Nat.le_trans hB BB.size)
 have HM1:=zH hm1
 have HE1:=zH he1
 have HM2:=zH hm2
 have HE2:=zH he2
 have HBB:=zH BB
 clear BB hS hF0 hF1 hF2 hN1 hN2 hd1 hd2 h12 hC1 hC2 hup1 hup2 hB hm1 he1 hm2 he2
 go_enter Tryz.func177,Tryz.ntmps177
 go_wp2_with fail
 refine wp_region_held (S:=fun W=>S2 X.heap.size f (.iface T1 q1) (.iface T2 q2) W) kR ?_
 change wpAnyH _ _ _ _ _ _ _ _ (World.drew _)
 generalize (X.alloc (.cells #[.iface T1 q1,.int .i64 f.k,.int .i64 f.a,.int .i64 f.b,.string (Pl.ba f.nm),.iface T2 q2] 155)).drew=W0 at *
 have CR:Hid (CdR W0 W0 B (.slice ao0 cl cap0) (.slice ao0 cl cap0) c0 F0 [] F0):=CdR.refl HS0.out HI0.out
 have HPP:=zH (show (.slice ao0 cl cap0:Value).ownBlock ≠ some X.heap.size from fun e=>Nat.lt_irrefl _ (HNB.out _ e))
 have HPW:=zH (show (.slice ao0 cl cap0:Value).ownBlock ≠ some W0.heap.size from fun e=>by have:=HNB.out _ e;have:=HBB.out.size;omega)
 refine tz 0 (.pointer (some ⟨X.heap.size,0,none⟩)) rfl S0.out (fun W hW=>exec_f121_0 (.tmp 2) X.heap.size rfl kR W) ?_
 refine tz 1 (.iface T1 q1) rfl S0.out (fun W hW=>exec_load106 (.tmp 5) X.heap.size 0 T1 q1 W rfl kR hW.c0) ?_
 refine tz 2 (.pointer (some ⟨X.heap.size,5,none⟩)) rfl S0.out (fun W hW=>exec_f121_2 (.tmp 2) X.heap.size rfl kR W) ?_
 refine tz 3 (.iface T2 q2) rfl S0.out (fun W hW=>exec_load106 (.tmp 7) X.heap.size 5 T2 q2 W rfl kR hW.c5) ?_
 refine tz 4 (.slice ao0 cl cap0) rfl S0.out (fun W hW=>exec_moveq (.tmp 1) (.slice ao0 cl cap0) rfl kR W) ?_
 refine tz 6 (.iface T1 q1) rfl S0.out (fun W hW=>exec_nilc (.tmp 6) T1 q1 W rfl kR) ?_
 refine tz 7 (.iface T1 q1) rfl S0.out (fun W hW=>exec_moveq (.tmp 6) (.iface T1 q1) rfl kR W) ?_
 refine tz 9 (.pointer (some ⟨X.heap.size,1,none⟩)) rfl S0.out (fun W hW=>exec_f121_1 (.tmp 2) X.heap.size rfl kR W) ?_
 refine tz 10 (.agg #[.int .i64 f.k,.int .i64 f.a,.int .i64 f.b,.string (Pl.ba f.nm)]) rfl S0.out (fun W hW=>exec_load79j (.tmp 14) X.heap.size 1 f.k f.a f.b (Pl.ba f.nm) W rfl kR hW.c1 hW.c2 hW.c3 hW.c4) ?_
 refine tz 11 (.agg #[.int .i64 4,.slice none 0 0,.string ⟨#[]⟩,.int .i64 f.k,.int .i64 f.a,.int .i64 f.b,.string (Pl.ba f.nm)]) rfl S0.out (fun W hW=>exec_build81k (.const (.int .i64 4)) (.tmp 15) 4 f.k f.a f.b (Pl.ba f.nm) rfl rfl kR W) ?_
 refine step_cv (i:=5) (j:=12) kR rfl rfl fn2 #[q2,.slice ao0 cl cap0] (exec_inv (.tmp 8) (.tmp 9) T2 q2 _ fn2 _ HM2.out HE2.out rfl kR kR W0) rfl rfl (.slice (some ⟨W0.heap.size,0,none⟩) 1 1) (exec_bs34k (.tmp 16) 4 f.k f.a f.b (Pl.ba f.nm) rfl kR W0) (S0.out.alloc _) ?_ ?_
 rotate_left 1
 ·have HKB:=zH (recK_new W0 4 f)
  refine step_callq (i:=5) kR rfl rfl fn2 #[q2,.slice ao0 cl cap0] (exec_inv (.tmp 8) (.tmp 9) T2 q2 _ fn2 _ HM2.out HE2.out rfl kR kR _) ?_
  refine Calls.mono (runC HC2.out HUP2.out (CR.out.alloc (objK 4 f)) HN2.out HS0.out HF2.out HD2.out sI oM HB.out) ?_
  rintro e w1 ⟨v1,Fa,rfl,h1⟩
  have SA:Hid (S2 X.heap.size f (.iface T1 q1) (.iface T2 q2) w1):=(S0.out.alloc (objK 4 f)).cdr h1 HPP.out
  refine⟨v1,rfl,SA.out,?_⟩
  have HN1':=zH (h1.notown (S0.out.alloc _).lt HPP.out)
  have HO1:=zH (h1.notown (p:=W0.heap.size) sI HPW.out)
  have HKC:=zH (recK_keep HKB.out (h1.keepb sI HPW.out))
  have H1:=zH ((CR.out.alloc (objK 4 f)).trans h1)
  have hlt:=Nat.lt_of_lt_of_le (show W0.heap.size<(W0.alloc (objK 4 f)).heap.size by simp) h1.g.size
  clear h1
  refine step_callq (i:=8) kR rfl rfl fn1 #[q1,v1] (exec_inv (.tmp 12) (.tmp 10) T1 q1 _ fn1 _ HM1.out HE1.out rfl kR kR w1) ?_
  refine Calls.mono (runC HC1.out HUP1.out H1.out HN1.out HS0.out HF1.out HD1.out (by simpa using H12.out) (by simp;omega) HB.out) ?_
  rintro e w2 ⟨v2,Fb,rfl,h2⟩
  have SB:Hid (S2 X.heap.size f (.iface T1 q1) (.iface T2 q2) w2):=SA.out.cdr h2 HN1'.out
  refine⟨v2,rfl,SB.out,?_⟩
  have HN9:=zH (h2.notown SA.out.lt HN1'.out)
  have HKD:=zH (recK_keep HKC.out (h2.keepb hlt HO1.out))
  have HT:=zH (H1.out.trans h2)
  have HZ:=zH (Nat.le_trans H1.out.g.size h2.g.size)
  clear h2
  obtain⟨v9,w9,F9,hr9,h9,g9⟩:=last_k HT.out HKD.out (by simp;omega) (by have:=HB.out;have:=HZ.out;first|omega|(simp;omega)) 40
  have S9:Hid (S2 X.heap.size f (.iface T1 q1) (.iface T2 q2) w9):=SB.out.same (g9.block _ SB.out.lt (fun e=>HN9.out e.symm)) g9.size
  refine step_valq (i:=13) kR rfl rfl v9 (exec_app34 (.tmp 13) (.tmp 17) v2 (.slice (some ⟨W0.heap.size,0,none⟩) 1 1) v9 _ w9 rfl kR kR hr9) S9.out ?_
  exact tCdq1
 refine Calls.mono (runC HC2.out HUP2.out CR.out HN2.out HS0.out HF2.out HD2.out sI oM HB.out) ?_
 rintro e w1 ⟨v1,Fa,rfl,h1⟩
 have SA:Hid (S2 X.heap.size f (.iface T1 q1) (.iface T2 q2) w1):=S0.out.cdr h1 HPP.out
 refine⟨v1,rfl,SA.out,?_⟩
 have HN1':=zH (h1.notown S0.out.lt HPP.out)
 have HO1:=zH (show v1.ownBlock ≠ some w1.heap.size from fun e=>Nat.lt_irrefl _ (h1.i _ (h1.o.lt _ e).1).2)
 have H1:=zH h1
 clear h1
 refine step_cv (i:=8) (j:=12) kR rfl rfl fn1 #[q1,v1] (exec_inv (.tmp 12) (.tmp 10) T1 q1 _ fn1 _ HM1.out HE1.out rfl kR kR w1) rfl rfl (.slice (some ⟨w1.heap.size,0,none⟩) 1 1) (exec_bs34k (.tmp 16) 4 f.k f.a f.b (Pl.ba f.nm) rfl kR w1) (SA.out.alloc _) ?_ ?_
 ·refine Calls.mono (runC HC1.out HUP1.out H1.out HN1.out HS0.out HF1.out HD1.out H12.out (by simp;omega) HB.out) ?_
  rintro e w2 ⟨v2,Fb,rfl,h2⟩
  have SB:Hid (S2 X.heap.size f (.iface T1 q1) (.iface T2 q2) w2):=SA.out.cdr h2 HN1'.out
  refine⟨v2,rfl,SB.out,?_⟩
  have HN9:=zH (h2.notown SA.out.lt HN1'.out)
  have HT:=zH (H1.out.trans h2)
  have HZ:=zH (Nat.le_trans H1.out.g.size h2.g.size)
  clear h2
  refine step_valq (i:=12) kR rfl rfl (.slice (some ⟨w2.heap.size,0,none⟩) 1 1) (exec_bs34k (.tmp 16) 4 f.k f.a f.b (Pl.ba f.nm) rfl kR w2) (SB.out.alloc _) ?_
  obtain⟨v9,w9,F9,hr9,h9,g9⟩:=last_k (HT.out.alloc (objK 4 f)) (recK_new w2 4 f) (by simp;omega) (by have:=HB.out;have:=HZ.out;first|omega|(simp;omega)) 40
  have S9:Hid (S2 X.heap.size f (.iface T1 q1) (.iface T2 q2) w9):=(SB.out.alloc (objK 4 f)).same (g9.block _ (SB.out.alloc (objK 4 f)).lt (fun e=>HN9.out e.symm)) g9.size
  refine step_valq (i:=13) kR rfl rfl v9 (exec_app34 (.tmp 13) (.tmp 17) v2 (.slice (some ⟨w2.heap.size,0,none⟩) 1 1) v9 _ w9 rfl kR kR hr9) S9.out ?_
  exact tCdq1
 have HKB:=zH (recK_new w1 4 f)
 refine step_callq (i:=8) kR rfl rfl fn1 #[q1,v1] (exec_inv (.tmp 12) (.tmp 10) T1 q1 _ fn1 _ HM1.out HE1.out rfl kR kR _) ?_
 refine Calls.mono (runC HC1.out HUP1.out (H1.out.alloc (objK 4 f)) HN1.out HS0.out HF1.out HD1.out H12.out (by simp;omega) HB.out) ?_
 rintro e w2 ⟨v2,Fb,rfl,h2⟩
 have SB:Hid (S2 X.heap.size f (.iface T1 q1) (.iface T2 q2) w2):=(SA.out.alloc (objK 4 f)).cdr h2 HN1'.out
 refine⟨v2,rfl,SB.out,?_⟩
 have HN9:=zH (h2.notown (SA.out.alloc _).lt HN1'.out)
 have HKC:=zH (recK_keep HKB.out (h2.keepb sI HO1.out))
 have HT:=zH ((H1.out.alloc (objK 4 f)).trans h2)
 have HZ:=zH (Nat.le_trans (H1.out.alloc (objK 4 f)).g.size h2.g.size)
 clear h2
 obtain⟨v9,w9,F9,hr9,h9,g9⟩:=last_k HT.out HKC.out (by simp;omega) (by have:=HB.out;have:=HZ.out;first|omega|(simp;omega)) 40
 have S9:Hid (S2 X.heap.size f (.iface T1 q1) (.iface T2 q2) w9):=SB.out.same (g9.block _ SB.out.lt (fun e=>HN9.out e.symm)) g9.size
 refine step_valq (i:=13) kR rfl rfl v9 (exec_app34 (.tmp 13) (.tmp 17) v2 (.slice (some ⟨w1.heap.size,0,none⟩) 1 1) v9 _ w9 rfl kR kR hr9) S9.out ?_
 exact tCdq1
mutual
theorem cdE:∀(e:Pl.E) (w:World) (v:Value) (F0:List Nat),NdE w e v F0->∀F,CdC e.code (fun w v F=>NdE w e v F) v F
 |.opd o,w,v,F0,h,F=>by
  rw[NdE] at h
  obtain⟨T,q,fn,h1,h2,h3,h4⟩:=cdO o w v F0 h F
  refine⟨T,q,fn,h1,h2,h3,fun X B sv c0 F0 hN=>?_⟩
  have hN':NdO X o v F:=by change NdE X _ _ _ at hN;rw[NdE] at hN;exact hN
  exact h4 X B sv c0 F0 hN'
 |.one f e,w,v,F0,h,F=>by
  rw[NdE] at h
  obtain⟨vr,rfl,h2⟩:=h
  have ih:=cdE e w vr F0 h2 F
  refine⟨153,_,174,rfl,meth_c119 _,enters_of Tryz.func174 kR rfl,fun X B sv c0 F0 hN hS hF0 hF hd hbd hB=>?_⟩
  change NdE X _ _ _ at hN
  rw[NdE] at hN
  obtain⟨vr',e1,hN⟩:=hN
  obtain rfl:vr=vr':=by simpa using e1
  rw[Pl.E.code] at hbd ⊢
  exact code_one f.one vr e.code _ F ih (fun w w' hk hn=>hn.keep e vr F hk) X B sv c0 F0 hN hS hF0 hF hd (by simpa using hbd) hB
 |.two o f e,w,v,F0,h,F=>by
  rw[NdE] at h
  obtain⟨vl,vr,F1,F2,rfl,rfl,h3,h4,h5⟩:=h
  have ih1:=cdO o w vl F1 h3
  have ih2:=cdE e w vr F2 h4
  refine⟨155,_,177,rfl,meth_c121 _,enters_of Tryz.func177 kR rfl,fun X B sv c0 F0 hN hS hF0 hF hd hbd hB=>?_⟩
  change NdE X _ _ _ at hN
  rw[NdE] at hN
  obtain⟨vl',vr',G1,G2,e1,rfl,hN1,hN2,hdd⟩:=hN
  obtain⟨rfl,rfl⟩:vl=vl'/\vr=vr':=by simpa using e1
  rw[Pl.E.code] at hbd ⊢
  exact code_two f.two vl vr o.code e.code _ _ G1 G2 (ih1 G1) (ih2 G2) (fun w w' hk hn=>hn.keep o vl G1 hk) (fun w w' hk hn=>hn.keep e vr G2 hk) X B sv c0 F0 hN1 hN2 hS hF0 (fun x hx=>hF x (List.mem_append_right _ hx)) (fun x hx=>hF x (List.mem_append_left _ hx)) (fun x hx=>hd x (List.mem_append_right _ hx)) (fun x hx=>hd x (List.mem_append_left _ hx)) (fun x hx h=>hdd x h hx) (by simp at hbd;omega) hB
theorem cdO:∀(o:Pl.O) (w:World) (v:Value) (F0:List Nat),NdO w o v F0->∀F,CdC o.code (fun w v F=>NdO w o v F) v F
 |.nums n ns,w,v,F0,h,F=>by
  rw[NdO] at h
  obtain⟨sv0,rfl,h2⟩:=h
  refine⟨160,_,180,rfl,meth_c128 _,enters_of Tryz.func180 kR rfl,fun X B sv c0 F0 hN hS hF0 hF hd hbd hB=>?_⟩
  change NdO X _ _ _ at hN
  rw[NdO] at hN
  obtain⟨sv1,e1,hN⟩:=hN
  obtain rfl:sv0=sv1:=by simpa using e1
  rw[Pl.O.code] at hbd ⊢
  exact code_nums X B sv0 sv (n::ns) F F0 c0 hN hF hS hF0 hd (by simpa using hbd) hB
 |.name nm,w,v,F0,h,F=>by
  rw[NdO] at h
  obtain⟨rfl,rfl⟩:=h
  refine⟨162,_,183,rfl,meth_c130 _,enters_of Tryz.func183 kR rfl,fun X B sv c0 F0 hN hS hF0 hF hd hbd hB=>?_⟩
  change NdO X _ _ _ at hN
  rw[NdO] at hN
  obtain⟨_,rfl⟩:=hN
  rw[Pl.O.code] at hbd ⊢
  exact code_name X B sv nm F0 c0 hS hF0 (by simpa using hbd) hB
 |.br e,w,v,F0,h,F=>by
  rw[NdO] at h
  obtain⟨T,q,fn,h1,h2,h3,h4⟩:=cdE e w v F0 h F
  refine⟨T,q,fn,h1,h2,h3,fun X B sv c0 F0 hN=>?_⟩
  have hN':NdE X e v F:=by change NdO X _ _ _ at hN;rw[NdO] at hN;exact hN
  exact h4 X B sv c0 F0 hN'
end
namespace Pl
theorem sgT_sep:sgT [59]=.sep:=rfl
theorem it_sep {t:Itk}(h:iOk t):t.tx=⟨#[59]⟩ ↔ itT t=.sep:=by
 have e:(t.tx=⟨#[59]⟩) ↔ t.tx.data.toList=[59]:=by rw[ba_iff]
 rw[e]
 unfold itT
 rcases h with ⟨h1,h2⟩|⟨h1,h2⟩|⟨h1,h2⟩|⟨h1,h2⟩
 ·rw[h1,h2,if_pos rfl]
  simp
 ·rw[h1,if_neg (by decide),if_pos rfl]
  simp only[reduceCtorEq,iff_false]
  exact h2.2.2
 ·rw[h1,if_neg (by decide),if_neg (by decide),if_pos rfl]
  simp only[reduceCtorEq,iff_false]
  exact h2.2.2
 rw[h1,if_neg (by decide),if_neg (by decide),if_neg (by decide)]
 constructor
 ·intro h
  rw[h]
  exact sgT_sep
 intro h
 rcases h2 with h2|h2|h2
 ·exfalso
  simp only[ten,List.mem_cons,List.not_mem_nil,or_false] at h2
  rcases h2 with e|e|e|e|e|e|e|e|e|e <;> rw[e] at h <;> (have h2:=congrArg isSep h;revert h2;decide)
 ·exfalso
  obtain⟨m,hm⟩:=Option.isSome_iff_exists.1 h2
  have hn:t.tx.data.toList ∉ ten:=fun hx=>by
   have:=sg_row (l:=t.tx.data.toList) (by simpa[ten] using hx)
   rw[this] at hm
   cases hm
  simp only[ten,List.mem_cons,List.not_mem_nil,or_false,not_or] at hn
  obtain⟨h0,h1,h2,h3,h4,h5,h6,h7,h8,h9⟩:=hn
  unfold sgT at h
  rw[if_neg h0,if_neg h1,if_neg h2,if_neg h3,if_neg h4,if_neg h5,if_neg h6,if_neg h7,if_neg h8,if_neg h9,hm] at h
  cases h
 exact h2
theorem seps_cons {t:T}(h:t ≠ .sep) (r:List T):seps (t::r)=t::r:=by
 cases t <;> first | rfl | exact absurd rfl h
theorem seps_T {l:List Itk}(hl:∀t∈l,iOk t):∀(n a:Nat),l.length-a<=n->seps (rI l a)=rI l (sepA l a)
 |n,a,hn=>by
  by_cases ha:a<l.length
  ·have hk:=hl _ (tkAt_mem ha)
   by_cases hs:(tkAt l a).tx=⟨#[59]⟩
   ·obtain⟨_,h2⟩:=sep_yes hs
    cases n with
    |zero=>omega
    |succ n =>
     rw[h2,rI_cons ha,(it_sep hk).1 hs]
     show seps (rI l (a+1))=_
     exact seps_T hl n (a+1) oM
   rw[sep_no hs,rI_cons ha,seps_cons (fun e=>hs ((it_sep hk).2 e))]
  have hs:¬(tkAt l a).tx=⟨#[59]⟩:=fun h=>ha (sep_yes h).1
  rw[sep_no hs,rI_past oM]
  rfl
theorem sep_lt {l:List Itk}(hl:∀t∈l,iOk t) (a:Nat):(a<sepA l a) ↔ ∃r,rI l a=.sep::r:=by
 by_cases ha:a<l.length
 ·have hk:=hl _ (tkAt_mem ha)
  by_cases hs:(tkAt l a).tx=⟨#[59]⟩
  ·obtain⟨_,h2⟩:=sep_yes hs
   have:=(sepN_ge l (l.length-(a+1)) (a+1)).1
   rw[h2,rI_cons ha,(it_sep hk).1 hs]
   exact⟨fun _=>⟨_,rfl⟩,fun _=>by unfold sepA;omega⟩
  rw[sep_no hs,rI_cons ha]
  refine⟨fun h=>absurd h (Nat.lt_irrefl _),fun ⟨r,hr⟩=>absurd ((it_sep hk).2 (List.cons.inj hr).1) hs⟩
 have hs:¬(tkAt l a).tx=⟨#[59]⟩:=fun h=>ha (sep_yes h).1
 rw[sep_no hs,rI_past oM]
 refine⟨fun h=>absurd h (Nat.lt_irrefl _),fun ⟨r,hr⟩=>by cases hr⟩
theorem sepA_le {l:List Itk}{a:Nat}(h:a<=l.length):a<=sepA l a/\sepA l a<=l.length:=by
 have:=sepN_ge l (l.length-a) a
 unfold sepA
 omega
theorem rI_len (l:List Itk) (a:Nat):(rI l a).length=l.length-a:=by simp[rI]
theorem rI_nil {l:List Itk}{a:Nat}(h:rI l a=[]):l.length<=a:=by
 have:=rI_len l a
 rw[h] at this
 simp at this
 omega
end Pl
def PoK (l:List Pl.Itk) (p cap a:Nat) (ao:Option Addr) (be:Bool) (w:World) (X:Option (Pl.E × List Pl.T)) (e:Ending) (w':World):Prop:=match X with
 |none=>∃a' be',e=.returned (.tuple #[.slice none 0 0,.bool false])/\IxP l p cap ao 0 be' w a' w'
 |some (x,r)=>∃v F a',e=.returned (.tuple #[v,.bool true])/\OwS w' v x.code F/\Inb w.heap.size w' F/\IxP l p cap ao 0 (be || x.bey 0) w a' w'/\a'<=l.length/\a<a'/\Pl.rI l a'=r
theorem px_len {N:Nat}{l:List Pl.Itk}{a:Nat}{x:Pl.E}{r:List Pl.T}(h:Pl.pexpr N (Pl.rI l a)=some (x,r)):x.code.length<=l.length:=by
 obtain⟨h1,h2⟩:=(Pl.psound N).1 _ _ _ h
 have h3:=Pl.E.code_len x h2
 have h4:=congrArg List.length h1
 rw[Pl.rI_len,List.length_append] at h4
 omega
theorem code_any (N:Nat) (l:List Pl.Itk) (p cap a mb mo cp:Nat) (ao:Option Addr) (be:Bool) (w:World) (hl:l.length<=1000000) (ha:a<=l.length) (hn:2 * l.length+1<=N) (hk:∀t∈l,Pl.iOk t) (hE:Ej w l p ao mb mo cp) (hP:Ps w p ao l.length cap a 0 be) :
  Calls Tryz.prog 66 #[.pointer (some ⟨p,0,none⟩)] w (PoK l p cap a ao be w (Pl.pexpr N (Pl.rI l a))):=by
 have K:=zH (expr_all N l p cap a 0 mb mo cp ao be w oM ha oM oM hk hE hP)
 cases hX:Pl.pexpr N (Pl.rI l a) with
 |none =>
  rw[hX] at K
  clear hE hP hX
  go_enter Tryz.func66,Tryz.ntmps66
  go_wp2_with fail
  refine K.out.mono ?_
  rintro e w1 ⟨v,a1,be1,rfl,hv,hI⟩
  have HI:=zH hI
  clear hI
  rcases hv with rfl|⟨T,q,rfl⟩
  ·go_wp2_with fail
   refine bodyPost_ret (v:=.tuple #[.slice none 0 0,.bool false]) (by simp[results,Tryz.results66,go_sem]) rfl ⟨a1,be1,rfl,HI.out⟩
  go_wp2_with fail
  refine bodyPost_ret (v:=.tuple #[.slice none 0 0,.bool false]) (by simp[results,Tryz.results66,go_sem]) rfl ⟨a1,be1,rfl,HI.out⟩
 |some q =>
  obtain⟨x,r⟩:=q
  rw[hX] at K
  have hcl:=px_len hX
  have hps:p<w.heap.size:=hP.lt
  clear hE hP hX
  go_enter Tryz.func66,Tryz.ntmps66
  go_wp2_with fail
  refine K.out.mono ?_
  rintro e w1 ⟨v,F,a1,rfl,hNd,hF,hI,h1,h2,h3⟩
  obtain⟨T,q,fn,rfl,hm,he,hC⟩:=cdE x w1 v F hNd F
  have hsz:=hI.g.size
  have KC:=zH (hC w1 w.heap.size (.slice none 0 0) [] [] hNd (Own.nil _) (Inb.nil _ _) hF sI (by simp;omega) hsz)
  have HI:=zH hI
  clear hI hC hNd hF K
  have hm' : ∀ w, (method 313 T q "loop.example/s02135/impl.code").run Tryz.prog w = .ok (fn, q) w := hm
  go_wp2_with fail
  refine KC.out.mono ?_
  rintro e w2 ⟨v2,F2,rfl,h9⟩
  have hb:Below w1.heap.size w1 w2:=⟨h9.g.os,h9.g.tape,h9.g.output,h9.g.size,fun k hk=>h9.g.block k hk (by simp[Value.ownBlock])⟩
  have hone:=h9.o.one
  have H9:=zH (show OwS w2 v2 x.code F2/\Inb w.heap.size w2 F2/\IxP l p cap ao 0 (be || x.bey 0) w a1 w2 from ⟨h9.o,h9.i,HI.out.ps.keep hb,grown_then HI.out.g hb hsz,HI.out.le⟩)
  clear h9 hb hm hm' he KC HI
  go_wp2_with fail
  refine bodyPost_ret (v:=.tuple #[v2,.bool true]) (by simp[results,Tryz.results66,go_sem]) rfl ⟨v2,F2,a1,rfl,H9.out.1,H9.out.2.1,H9.out.2.2,h1,h2,h3⟩
def Pl.PT (l:List Pl.Tok) (q:Nat × Nat):List Pl.T:=(Pl.pieceT l q).map Pl.tkT
theorem RowQ.cellK {b off cap:Nat}{w:World}:∀{xs:List Value}{qs:List (Nat × Nat)}{F:List Nat},RowQ (Qk b off cap) w xs qs F->∀(i:Nat) (q:Nat × Nat),qs[i]? = some q->xs[i]? = some (.slice (some ⟨b,off+q.1 * 4,none⟩) (q.2-q.1) (cap-q.1))
 |xs,[],F,h,i,q,hi=>by simp at hi
 |xs,a::qs,F,h,i,q,hi=>by
  obtain⟨x,xs',f,F',rfl,rfl,h1,h2⟩:=h
  obtain⟨rfl,_⟩:=h1
  cases i with
  |zero=>simp at hi;subst hi;rfl
  |succ i=>exact h2.cellK i q hi
theorem Qk.cell {b off cap:Nat}{w:World}{v:Value}{qs:List (Nat × Nat)}{F:List Nat}(h:Own 34 1 (Qk b off cap) w v qs F) {i:Nat}{q:Nat × Nat}(hi:qs[i]? = some q):∃g cp,v=.slice (some ⟨g,0,none⟩) qs.length cp/\g<w.heap.size/\w.cell? ⟨g,i,none⟩=some (.slice (some ⟨b,off+q.1 * 4,none⟩) (q.2-q.1) (cap-q.1)):=by
 have hne:qs ≠ []:=by rintro rfl;simp at hi
 obtain⟨g,cp,xs,fp,rfl,rfl,hl,hq,hnd,hlt,hc,_⟩:=h.cells hne
 exact⟨g,cp,rfl,hlt,hc i _ (hq.cellK i q hi)⟩
theorem RdK.take {B:Nat}{w:World}{ao:Option Addr}{l:List Pl.Tok}(h:RdK B w ao l) (j:Nat):RdK B w ao (l.take j):=by
 rcases h with rfl|⟨b,off,hB,e,hc⟩
 ·exact .inl sI
 refine .inr ⟨b,off,hB,e,fun k t hk=>hc k t ?_⟩
 rw[List.getElem?_take] at hk
 split at hk
 ·exact hk
 cases hk
theorem RdK.drop {B:Nat}{w:World}{b off:Nat}{l:List Pl.Tok}(h:RdK B w (some ⟨b,off,none⟩) l) (i:Nat):RdK B w (some ⟨b,off+i * 4,none⟩) (l.drop i):=by
 have:=h.part i l.length
 rwa [List.take_length] at this
def Ib (l:List Pl.Tok) (n:Nat) (R:Option (List (Pl.E × Pl.E) × Pl.E)) (w:World) (p:Nat) (nm:ByteArray) (qs:List (Nat × Nat)) (b off cap:Nat) (pv:Value) (Fp:List Nat) (i:Nat) (wr:World):Prop :=
 ∃ac nc cc ag ng cg ok fi,Bo w p wr 3 nm ac nc cc ag ng cg ok fi/\ng<=i/\i<=qs.length/\Own 34 1 (Qk b off cap) wr pv qs Fp/\Inb (w.heap.size+1) wr Fp/\p ∉ Fp /\
  ((ok=false/\R=none/\∃(us:List Unit) (F:List Nat),us.length=ng/\Own 57 2 Qx wr (.slice ag ng cg) us F/\Inb (w.heap.size+1) wr F/\p ∉ F/\∀x∈F,x ∉ Fp) \/
  (ok=true/\i<qs.length/\∃(gs:List (Pl.E × Pl.E)) (F:List Nat),R=(Pl.rbd n ((qs.drop i).map (Pl.PT l))).map (fun q=>(gs++q.1,q.2))/\fi=Pl.gsF gs/\gs.length=ng/\OwG wr (.slice ag ng cg) (gs.map Pl.gv) F/\Inb (w.heap.size+1) wr F/\p ∉ F/\∀x∈F,x ∉ Fp) \/
  (ok=true/\i=qs.length/\∃(gs:List (Pl.E × Pl.E)) (e:Pl.E) (F F2:List Nat),R=some (gs,e)/\fi=(Pl.gsF gs && e.fine)/\gs.length=ng/\nc=e.code.length/\OwG wr (.slice ag ng cg) (gs.map Pl.gv) F/\Inb (w.heap.size+1) wr F/\OwS wr (.slice ac nc cc) e.code F2/\Inb (w.heap.size+1) wr F2/\∀x∈F2,x ∉ F))
def ReadR (B:Nat) (w:World) (v:Value):Option Pl.S->Prop
 |none=>∃k nm ac nc cc ag ng cg fi,v=.agg #[.int .i64 k,.string nm,.slice ac nc cc,.slice ag ng cg,.bool false,.bool fi]
 |some s=>∃ac nc cc ag ng cg F G,v=.agg #[.int .i64 s.tv.k,.string (Pl.ba s.tv.nm),.slice ac nc cc,.slice ag ng cg,.bool true,.bool s.fine]/\OwS w (.slice ac nc cc) s.tv.code F/\OwG w (.slice ag ng cg) s.tv.gs G/\Inb B w F/\Inb B w G/\∀x∈F,x ∉ G
theorem ReadR.no (B:Nat) (w:World):ReadR B w (.agg #[.int .i64 0,.string ⟨#[]⟩,.slice none 0 0,.slice none 0 0,.bool false,.bool false]) none:=⟨_,_,_,_,_,_,_,_,_,rfl⟩
namespace Pl
theorem tx_col:∀t,sgTx t=[58] ↔ t=.col:=by intro t;cases t <;> simp[sgTx]
theorem tx_rb:∀t,sgTx t=[125] ↔ t=.rb:=by intro t;cases t <;> simp[sgTx]
theorem tx_lb:∀t,sgTx t=[123] ↔ t=.lb:=by intro t;cases t <;> simp[sgTx]
theorem tx_asg:∀t,sgTx t=[58,61] ↔ t=.asg:=by intro t;cases t <;> simp[sgTx]
theorem sgn_at {l:List Itk}(hl:∀t∈l,iOk t) (a:Nat) {c:List UInt8}(hc:c∈ten) {T0:T}(h:∀t,sgTx t=c ↔ t=T0):(tkAt l a).tx=ba c ↔ ∃r,rI l a=T0::r:=by
 have hs:=sign_T hl a hc
 cases hr:rI l a with
 |nil =>
  rw[hr] at hs
  simpa using hs
 |cons t r =>
  rw[hr] at hs
  have e:(tkAt l a).tx=ba c ↔ sgTx t=c:=by simpa using hs
  rw[e,h t]
  simp
theorem rI_next {l:List Itk}{a:Nat}{t:T}{r:List T}(h:rI l a=t::r):a<l.length/\rI l (a+1)=r:=by
 have ha:a<l.length:=by
  have:=rI_len l a
  rw[h] at this
  simp at this
  omega
 rw[rI_cons ha] at h
 exact⟨ha,(List.cons.inj h).2⟩
section
variable {N k:Nat} {ts r r2:List T} {x y:E}
theorem pb_none (h:pexpr N ts=none):pbody N (k+1) ts=none:=by rw[pbody,h]
theorem pb_end (h:pexpr N ts=some (x,r)) (hc:∀r',r ≠ .col::r'):pbody N (k+1) ts=match seps r with | .rb::r2=>some ([],x,r2) | _=>none:=by
 rw[pbody,h]
 split
 ·rename_i h1;cases h1
 ·rename_i h1;cases h1;exact absurd rfl (hc _)
 rename_i h1;cases h1;rfl
theorem pb_col_none (h:pexpr N ts=some (x,.col::r)) (h2:pexpr N r=none):pbody N (k+1) ts=none:=by
 rw[pbody,h]
 simp only
 rw[h2]
theorem pb_col_no (h:pexpr N ts=some (x,.col::r)) (h2:pexpr N r=some (y,r2)) (hc:∀r',r2 ≠ .sep::r'):pbody N (k+1) ts=none:=by
 rw[pbody,h]
 simp only
 rw[h2]
 split
 ·rename_i h1;cases h1;exact absurd rfl (hc _)
 rfl
theorem pb_col (h:pexpr N ts=some (x,.col::r)) (h2:pexpr N r=some (y,.sep::r2)):pbody N (k+1) ts=(pbody N k (seps r2)).map (fun q=>((x,y)::q.1,q.2)):=by
 rw[pbody,h]
 simp only
 rw[h2]
 simp only
 cases pbody N k (seps r2) with
 |none=>rfl
 |some q=>rfl
end
def pbA (gs:List (E × E)) (X:Option (List (E × E) × E × List T)):Option (List (E × E) × E × List T):=X.map fun q=>(gs++q.1,q.2)
theorem pbA_nil (X:Option (List (E × E) × E × List T)):pbA [] X=X:=by cases X <;> rfl
theorem pbA_cons (gs:List (E × E)) (g:E × E) (X:Option (List (E × E) × E × List T)):pbA gs (X.map fun q=>(g::q.1,q.2))=pbA (gs++[g]) X:=by cases X <;> simp[pbA]
theorem gsB_app (gs:List (E × E)) (g:E × E):gsB (gs++[g])=(gsB gs || (g.1.bey 0 || g.2.bey 0)):=by simp[gsB]
section
variable {n k:Nat} {ts r:List T}
theorem ps_val (h:∀t r,ts ≠ t::.asg::r):pstmt n k ts=(pexpr n ts).map fun q=>(.val q.1,q.2):=by
 unfold pstmt
 split
 ·exact absurd rfl (h _ _)
 ·exact absurd rfl (h _ _)
 ·exact absurd rfl (h _ _)
 cases pexpr n ts <;> rfl
theorem ps_asg (nm:List UInt8):pstmt n k (.arr nm::.asg::r)=(pexpr n r).map fun q=>(.asg nm q.1,q.2):=by
 unfold pstmt
 simp only
 cases pexpr n r <;> rfl
theorem ps_fn {nm:List UInt8}(h:nm ≠ selfW):pstmt n k (.fn nm::.asg::.lb::r)=(pbody n k (seps r)).map fun q=>(.fn nm q.1 q.2.1,q.2.2):=by
 unfold pstmt
 simp only
 rw[if_neg h]
 cases pbody n k (seps r) <;> rfl
theorem ps_self:pstmt n k (.fn selfW::.asg::r)=none:=by
 unfold pstmt
 split
 ·rename_i h;cases h
 ·rename_i h;cases h;simp
 ·rfl
 rename_i h1 h2 h3;exact absurd rfl (h3 _ _)
theorem ps_fn_no {nm:List UInt8}(h:∀r',r ≠ .lb::r'):pstmt n k (.fn nm::.asg::r)=none:=by
 unfold pstmt
 split
 ·rename_i h;cases h
 ·rename_i h1;cases h1;exact absurd rfl (h _)
 ·rfl
 rename_i h1 h2 h3;exact absurd rfl (h3 _ _)
theorem ps_no {t:T}(h1:∀nm,t ≠ .arr nm) (h2:∀nm,t ≠ .fn nm):pstmt n k (t::.asg::r)=none:=by
 unfold pstmt
 split
 ·rename_i h;cases h;exact absurd rfl (h1 _)
 ·rename_i h;cases h;exact absurd rfl (h2 _)
 ·rfl
 rename_i h3 h4 h5;exact absurd rfl (h5 _ _)
theorem pp_nil:pprog n k []=some []:=by cases k <;> rfl
theorem pp_none {t:T}(h:pstmt n n (t::ts)=none):pprog n (k+1) (t::ts)=none:=by
 rw[pprog,h]
 simp
theorem pp_last {t:T}{s:S}(h:pstmt n n (t::ts)=some (s,[])):pprog n (k+1) (t::ts)=some [s]:=by
 rw[pprog,h]
 simp
theorem pp_sep {t:T}{s:S}(h:pstmt n n (t::ts)=some (s,.sep::r)):pprog n (k+1) (t::ts)=(pprog n k (seps r)).map (s::·):=by
 rw[pprog,h]
 ·simp only
  cases pprog n k (seps r) <;> rfl
 simp
theorem pp_no {t u:T}{s:S}(hu:u ≠ .sep) (h:pstmt n n (t::ts)=some (s,u::r)):pprog n (k+1) (t::ts)=none:=by
 rw[pprog,h]
 ·cases u <;> first | rfl | exact absurd rfl hu
 simp
end
end Pl
structure Bs (w X:World) (l:List Pl.Itk) (p cap:Nat) (ao:Option Addr) (mb mo cp a:Nat) (be:Bool):Prop where
 e:Ej X l p ao mb mo cp
 ps:Ps X p ao l.length cap a 0 be
 g:w.grownBy X (some p)
 pw:p<w.heap.size
 lt:w.heap.size<X.heap.size
 z0:X.cell? ⟨w.heap.size,0,none⟩=some (.int .i64 0)
 z1:X.cell? ⟨w.heap.size,1,none⟩=some (.string ⟨#[]⟩)
 z2:X.cell? ⟨w.heap.size,2,none⟩=some (.slice none 0 0)
 z3:X.cell? ⟨w.heap.size,3,none⟩=some (.slice none 0 0)
 zf:∀j,X.frozen? ⟨w.heap.size,j,none⟩=false
section
variable {w X X':World} {l:List Pl.Itk} {p cap:Nat} {ao:Option Addr} {mb mo cp a a':Nat} {be be':Bool}
theorem Bs.step (h:Bs w X l p cap ao mb mo cp a be) (hg:X.grownBy X' (some p)) (hP:Ps X' p ao l.length cap a' 0 be'):Bs w X' l p cap ao mb mo cp a' be':=by
 have e:=hg.block w.heap.size h.lt (fun e=>by cases e;have:=h.pw;omega)
 have g (j:Nat):X'.cell? ⟨w.heap.size,j,none⟩=X.cell? ⟨w.heap.size,j,none⟩:=World.cell?_of_block e
 exact⟨h.e.grown (Nat.le_of_lt h.ps.lt) hg,hP,h.g.trans hg,h.pw,Nat.lt_of_lt_of_le h.lt hg.size,(g 0).trans h.z0,(g 1).trans h.z1,(g 2).trans h.z2,(g 3).trans h.z3,fun j=>(World.frozen?_of_block (a:=⟨w.heap.size,j,none⟩) e).trans (h.zf j)⟩
theorem Bs.keep (h:Bs w X l p cap ao mb mo cp a be) (hb:Below X.heap.size X X'):Bs w X' l p cap ao mb mo cp a be:=h.step (grown_none hb _) (h.ps.keep hb)
theorem Bs.new (hE:Ej w l p ao mb mo cp) (hP:Ps w p ao l.length cap a 0 be):Bs w (w.alloc (.cells #[.int .i64 0,.string ⟨#[]⟩,.slice none 0 0,.slice none 0 0] 43)) l p cap ao mb mo cp a be:=by
 have hb:Below w.heap.size w (w.alloc (.cells #[.int .i64 0,.string ⟨#[]⟩,.slice none 0 0,.slice none 0 0] 43)):=(Below.refl _ _).alloc (Nat.le_refl _) _
 exact⟨hE.low (hb.mono (Nat.le_of_lt hP.lt)),hP.keep hb,grown_none hb _,hP.lt,by simp,by simp[go_sem],by simp[go_sem],by simp[go_sem],by simp[go_sem],fun j=>by simp[go_sem]⟩
theorem Bs.end_ (h:Bs w X l p cap ao mb mo cp a be) (v0 v1 v2 v3:Value):Ps (X.setCells w.heap.size 0 [v0,v1,v2,v3]) p ao l.length cap a 0 be/\w.grownBy (X.setCells w.heap.size 0 [v0,v1,v2,v3]) (some p):=by
 have hn:¬p=w.heap.size:=by have:=h.pw;omega
 exact⟨h.ps.far hn 0 _,grown_then h.g (setCells_below (B:=w.heap.size) _ (Nat.le_refl _) _ 0 _ (Below.refl _ _)) (Nat.le_refl _)⟩
theorem Bs.end_x (h:Bs w X l p cap ao mb mo cp a be) (ha:a<=1048590) (v0 v1 v2 v3:Value):IxP l p cap ao 0 be w a (X.setCells w.heap.size 0 [v0,v1,v2,v3]):=⟨(h.end_ v0 v1 v2 v3).1,(h.end_ v0 v1 v2 v3).2,ha⟩
end
def StV (k:Int) (nm:ByteArray) (c g:Value):Value:=.agg #[.int .i64 k,.string nm,c,g]
def IsS (v:Value):Prop:=∃ao n cap,v=.slice ao n cap
def PoB (l:List Pl.Itk) (p cap a:Nat) (ao:Option Addr) (be:Bool) (nm:ByteArray) (w:World) (X:Option (List (Pl.E × Pl.E) × Pl.E × List Pl.T)) (e:Ending) (w':World):Prop:=match X with
 |none=>∃k nm' c g a' be',e=.returned (.tuple #[StV k nm' c g,.bool false])/\IsS c/\IsS g/\IxP l p cap ao 0 be' w a' w'
 |some (gs,x,r)=>∃c g F1 F2 a',e=.returned (.tuple #[StV 3 nm c g,.bool true])/\OwS w' c x.code F1/\OwG w' g (gs.map Pl.gv) F2/\Inb w.heap.size w' F1/\Inb w.heap.size w' F2/\(∀x∈F1,x ∉ F2)/\IxP l p cap ao 0 (be || Pl.gsB gs || x.bey 0) w a' w'/\a'<=l.length/\a<a'/\Pl.rI l a'=r
def PoS (l:List Pl.Itk) (p cap a:Nat) (ao:Option Addr) (be:Bool) (w:World) (X:Option (Pl.S × List Pl.T)) (e:Ending) (w':World):Prop:=match X with
 |none=>∃k nm' c g a' be',e=.returned (.tuple #[StV k nm' c g,.bool false])/\IsS c/\IsS g/\IxP l p cap ao 0 be' w a' w'
 |some (s,r)=>∃c g F1 F2 a',e=.returned (.tuple #[StV s.tv.k (Pl.ba s.tv.nm) c g,.bool true])/\OwS w' c s.tv.code F1/\OwG w' g s.tv.gs F2/\Inb w.heap.size w' F1/\Inb w.heap.size w' F2/\(∀x∈F1,x ∉ F2)/\IxP l p cap ao 0 (be || s.bey) w a' w'/\a'<=l.length/\a<a'/\Pl.rI l a'=r
theorem Qg.lenx {w:World}{x:List Value}{a:Unit}{f:List Nat}(h:Qx w x a f):x.length=2/\∀u∈x,u.oneCell'=true:=by
 obtain⟨⟨a1,n1,c1,a2,n2,c2,rfl⟩,_⟩:=h
 refine⟨rfl,fun u hu=>?_⟩
 simp only[List.mem_cons,List.not_mem_nil,or_false] at hu
 rcases hu with rfl|rfl <;> rfl
section
variable {l:List Pl.Tok} {n:Nat} {R:Option (List (Pl.E × Pl.E) × Pl.E)} {w:World} {p:Nat} {nm:ByteArray} {qs:List (Nat × Nat)} {b off cap:Nat} {pv:Value} {Fp:List Nat} {i:Nat} {wr w3 W:World}
def Ibs (l:List Pl.Tok) (n:Nat) (R:Option (List (Pl.E × Pl.E) × Pl.E)) (w:World) (p:Nat) (qs:List (Nat × Nat)) (Fp:List Nat) (i:Nat) (wr:World) (ac:Option Addr) (nc cc:Nat) (ag:Option Addr) (ng cg:Nat) (ok fi:Bool):Prop :=
 (ok=false/\R=none/\∃(us:List Unit) (F:List Nat),us.length=ng/\Own 57 2 Qx wr (.slice ag ng cg) us F/\Inb (w.heap.size+1) wr F/\p ∉ F/\∀x∈F,x ∉ Fp) \/
  (ok=true/\i<qs.length/\∃(gs:List (Pl.E × Pl.E)) (F:List Nat),R=(Pl.rbd n ((qs.drop i).map (Pl.PT l))).map (fun q=>(gs++q.1,q.2))/\fi=Pl.gsF gs/\gs.length=ng/\OwG wr (.slice ag ng cg) (gs.map Pl.gv) F/\Inb (w.heap.size+1) wr F/\p ∉ F/\∀x∈F,x ∉ Fp) \/
  (ok=true/\i=qs.length/\∃(gs:List (Pl.E × Pl.E)) (e:Pl.E) (F F2:List Nat),R=some (gs,e)/\fi=(Pl.gsF gs && e.fine)/\gs.length=ng/\nc=e.code.length/\OwG wr (.slice ag ng cg) (gs.map Pl.gv) F/\Inb (w.heap.size+1) wr F/\OwS wr (.slice ac nc cc) e.code F2/\Inb (w.heap.size+1) wr F2/\∀x∈F2,x ∉ F)
theorem keepP {α:Type}{et z:Nat}{Q:World->List Value->α->List Nat->Prop}(L:Lives Q) {v:Value}{c:List α}{F:List Nat}{B:Nat}(h:Own et z Q wr v c F) (hi:Inb B wr F) (hp:p ∉ F) (hb:Below wr.heap.size wr w3) (hT:w3.grownBy W (some p)):Own et z Q W v c F/\Inb B W F :=
 ⟨(h.below L hi hb (Nat.le_refl _)).grown L (hi.up (Nat.le_refl _) hb.size) hT (fun x hx hm=>by cases hx;exact hp hm),hi.up (Nat.le_refl _) (Nat.le_trans hb.size hT.size)⟩
theorem Ib.last {ac:Option Addr}{nc cc:Nat}{ag:Option Addr}{ng cg:Nat}{ok fi:Bool}{q:Nat × Nat}{a5:Option Addr}{n5 c5:Nat}{fr5 ne5:Int}{ok5 lo5 ok' fi':Bool}(hq:qs[i]? = some q) (hlast:i+1=qs.length) (hcut:Pl.cutc (Pl.PT l q)=none) (hng:ng<=i) (hs:Ibs l n R w p qs Fp i wr ac nc cc ag ng cg ok fi) (hO:Own 34 1 (Qk b off cap) wr pv qs Fp) (hI:Inb (w.heap.size+1) wr Fp) (hpF:p ∉ Fp) (hpl:p<wr.heap.size) (hsz:w.heap.size<wr.heap.size)
  (hb:Below wr.heap.size wr w3) (hT:w3.grownBy W (some p)) (hcr:CodeR wr.heap.size w3 (.agg #[.slice a5 n5 c5,.int .i64 fr5,.bool ok5,.int .i64 ne5,.bool lo5]) ((Pl.rexpr n (Pl.PT l q)).map ofE)) (hB:Bo w p W 3 nm a5 n5 c5 ag ng cg ok' fi') (hok:ok'=(ok && ok5)) (hfi:fi'=(fi && (decide (ne5<=40) && !lo5))) :
  Ib l n R w p nm qs b off cap pv Fp (i+1) W:=by
 obtain⟨hO',hI'⟩:=keepP (Qk.lives b off cap) hO hI hpF hb hT
 refine⟨_,_,_,_,_,_,_,_,hB,by omega,by omega,hO',hI',hpF,?_⟩
 have hdr:qs.drop i=[q]:=by
  have hlt:i<qs.length:=by omega
  rw[List.drop_eq_getElem_cons hlt,List.drop_eq_nil_of_le oM]
  rw[List.getElem?_eq_getElem hlt] at hq
  rw[Option.some.inj hq]
 rcases hs with ⟨rfl,hR,us,F,h1,h2,h3,h4,h5⟩|⟨rfl,hlt,gs,F,hR,rfl,h1,h2,h3,h4,h5⟩|⟨_,he,_⟩
 rotate_left 2
 ·omega
 ·obtain⟨k1,k2⟩:=keepP Qx.lives h2 h3 h4 hb hT
  exact .inl ⟨by rw[hok];rfl,hR,us,F,h1,k1,k2,h4,h5⟩
 obtain⟨k1,k2⟩:=keepP Qg.lives h2 h3 h4 hb hT
 rw[hdr,List.map_cons,List.map_nil,Pl.rbd_last,hcut] at hR
 simp only at hR
 cases hx:Pl.rexpr n (Pl.PT l q) with
 |none =>
  rw[hx] at hcr hR
  obtain⟨_,_,_,_,_,_,e5⟩:=hcr
  cases e5
  obtain⟨F',f1,f2⟩:=k1.forget
  exact .inl ⟨by rw[hok];rfl,hR,_,F',by simpa using h1,f1,fun x hx=>k2 x (f2 x hx),fun hm=>h4 (f2 _ hm),fun x hx=>h5 x (f2 x hx)⟩
 |some e =>
  rw[hx] at hcr hR
  obtain⟨a6,c6,F2,e5,g1,g2⟩:=hcr
  cases e5
  have hp2:p ∉ F2:=fun hm=>by have:=(g2 _ hm).1;omega
  refine .inr (.inr ⟨by rw[hok];rfl,by omega,gs,e,F,F2,by rw[hR];simp,?_,h1,rfl,k1,k2,g1.grown Qs.lives g2 hT (fun x hx hm=>by cases hx;exact hp2 hm),fun x hx=>⟨by have:=(g2 x hx).1;omega,Nat.lt_of_lt_of_le (g2 x hx).2 hT.size⟩,fun x hx hm=>?_⟩)
  ·rw[hfi]
   unfold Pl.E.fine
   have:decide ((e.nest:Int)<=40)=decide (e.nest<=40):=by
    by_cases h:e.nest<=40
    ·rw[decide_eq_true h,decide_eq_true oM]
    rw[decide_eq_false h,decide_eq_false oM]
   rw[this]
  have:=(g2 x hx).1
  have:=(h3 x hm).2
  omega
end
theorem fine_int (e:Pl.E):(decide ((e.nest:Int)<=40) && !e.long)=e.fine:=by
 unfold Pl.E.fine
 have:decide ((e.nest:Int)<=40)=decide (e.nest<=40):=by
  by_cases h:e.nest<=40
  ·rw[decide_eq_true h,decide_eq_true oM]
  rw[decide_eq_false h,decide_eq_false oM]
 rw[this]
theorem gsF_snoc (gs:List (Pl.E × Pl.E)) (x y:Pl.E):Pl.gsF (gs++[(x,y)])=(Pl.gsF gs && (x.fine && y.fine)):=by
 unfold Pl.gsF
 rw[List.all_append]
 simp
section
variable {l:List Pl.Tok} {n:Nat} {R:Option (List (Pl.E × Pl.E) × Pl.E)} {w:World} {p:Nat} {nm:ByteArray} {qs:List (Nat × Nat)} {b off cap:Nat} {pv:Value} {Fp:List Nat} {i:Nat} {wr w3 w4 Z:World}
theorem Ib.mid {ac:Option Addr}{nc cc:Nat}{ag:Option Addr}{ng cg:Nat}{ok fi:Bool}{q:Nat × Nat}{A B:List Pl.T}{a1 a2:Option Addr}{n1 c1 n2 c2:Nat}{fr1 ne1 fr2 ne2:Int}{ok1 lo1 ok2 lo2 ok' fi':Bool}{o3:Obj}(hq:qs[i]? = some q) (hmid:i+1<qs.length) (hql:qs.length<=1048577) (hcut:Pl.cutc (Pl.PT l q)=some (A,B)) (hng:ng<=i) (hs:Ibs l n R w p qs Fp i wr ac nc cc ag ng cg ok fi) (hO:Own 34 1 (Qk b off cap) wr pv qs Fp) (hI:Inb (w.heap.size+1) wr Fp) (hpF:p ∉ Fp) (hpl:p<wr.heap.size) (hsz:w.heap.size<wr.heap.size)
  (hb3:Below wr.heap.size wr w3) (hca:CodeR wr.heap.size w3 (.agg #[.slice a1 n1 c1,.int .i64 fr1,.bool ok1,.int .i64 ne1,.bool lo1]) ((Pl.rexpr n A).map ofE)) (hb4:Below (w3.alloc o3).heap.size (w3.alloc o3) w4) (hcb:CodeR (w3.alloc o3).heap.size w4 (.agg #[.slice a2 n2 c2,.int .i64 fr2,.bool ok2,.int .i64 ne2,.bool lo2]) ((Pl.rexpr n B).map ofE)) (hT:w4.grownBy Z (some p)) (hB:Bo w p Z 3 nm ac nc cc ag ng cg ok' fi') (hok:ok'=(ok && ok1 && ok2)) (hfi:fi'=(fi && (decide (ne1<=40) && !lo1) && (decide (ne2<=40) && !lo2))) (ty:TypeId) :
  ∃w' ag' cg',(Builtin.append_ #[41,41] ty #[.slice ag ng cg,.slice (some ⟨Z.heap.size,0,none⟩) 1 1]).run Tryz.prog (Z.alloc (.cells #[.slice a1 n1 c1,.slice a2 n2 c2] 57))=.ok (.slice ag' (ng+1) cg') w'/\Bo w p w' 3 nm ac nc cc ag ng cg ok' fi'/\Ib l n R w p nm qs b off cap pv Fp (i+1) (w'.setCell ⟨p,3,none⟩ (.slice ag' (ng+1) cg')):=by
 have hbA:Below wr.heap.size wr w4:=hb3.trans (((Below.refl w3.heap.size w3).alloc (Nat.le_refl _) o3).mono hb3.size |>.trans (hb4.mono (by have:=hb3.size;simp;omega)))
 have hbY:Below Z.heap.size Z (Z.alloc (.cells #[.slice a1 n1 c1,.slice a2 n2 c2] 57)):=(Below.refl _ _).alloc (Nat.le_refl _) _
 have hz3:=hb3.size
 have hz4:=hb4.size
 have hzZ:=hT.size
 simp at hz4
 obtain⟨hO1,hI1⟩:=keepP (Qk.lives b off cap) hO hI hpF hbA hT
 have hO2:=hO1.below (Qk.lives b off cap) hI1 hbY (Nat.le_refl _)
 have hI2:=hI1.up (Nat.le_refl _) hbY.size
 have hBY:=hB.keep hbY
 have hcn:∀j u,[Value.slice a1 n1 c1,.slice a2 n2 c2][j]? = some u->(Z.alloc (.cells #[.slice a1 n1 c1,.slice a2 n2 c2] 57)).cell? ⟨Z.heap.size,0+j,none⟩=some u:=cells_new (l:=[.slice a1 n1 c1,.slice a2 n2 c2]) rfl
 have bad:∀(us:List Unit) (F:List Nat),R=none->ok'=false->us.length=ng->Own 57 2 Qx Z (.slice ag ng cg) us F->Inb (w.heap.size+1) Z F->p ∉ F->(∀x∈F,x ∉ Fp)->(∀x∈F,x<wr.heap.size)->∃w' ag' cg',(Builtin.append_ #[41,41] ty #[.slice ag ng cg,.slice (some ⟨Z.heap.size,0,none⟩) 1 1]).run Tryz.prog (Z.alloc (.cells #[.slice a1 n1 c1,.slice a2 n2 c2] 57))=.ok (.slice ag' (ng+1) cg') w'/\Bo w p w' 3 nm ac nc cc ag ng cg ok' fi'/\Ib l n R w p nm qs b off cap pv Fp (i+1) (w'.setCell ⟨p,3,none⟩ (.slice ag' (ng+1) cg')):=by
  intro us F hR hof hul h2 h3 h4 h5 h6
  obtain⟨v',w',F',e1,e2,e3,e4,e5,e6⟩:=(h2.below Qx.lives h3 hbY (Nat.le_refl _)).append el35 Qx.lives (h3.up (Nat.le_refl _) hbY.size) (d:=[()]) (G:=[]) (ys:=[.slice a1 n1 c1,.slice a2 n2 c2]) (RowQ.one ⟨⟨_,_,_,_,_,_,rfl⟩,rfl⟩) (Inb.nil _ _) List.nodup_nil sI rfl (b:=Z.heap.size) (off:=0) (cap:=1) hcn (by simp[Value.oneCell']) (by simp;omega) (by simp;omega) ty
  obtain⟨ag',cg',rfl⟩:=e2.slice
  rw[List.length_append,hul] at e1 e2
  have hown:∀x,(Value.slice ag ng cg).ownBlock=some x->x∈F:=fun x hx=>(h2.lt x hx).1
  have hp':p ∉ F':=fun hm=>by
   rcases e6 _ hm with h|h|h
   ·exact h4 h
   ·simp at h
   simp at h;omega
  have hBw:=hBY.grown e4 (fun x hx=>⟨(h3 x (hown x hx)).1,fun e=>h4 (e ▸ hown x hx)⟩)
  obtain⟨o1,i1⟩:=e2.box Qx.lives e3 hp' (j:=3) (.slice ag' (ng+1) cg')
  have hOw:=hO2.grown (Qk.lives b off cap) hI2 e4 (fun x hx=>h5 x (hown x hx))
  obtain⟨o2,i2⟩:=hOw.box (Qk.lives b off cap) (hI2.up (Nat.le_refl _) e4.size) hpF (j:=3) (.slice ag' (ng+1) cg')
  refine⟨w',ag',cg',e1,hBw,⟨_,_,_,_,_,_,_,_,hBw.set3 ag' (ng+1) cg',by omega,by omega,o2,i2,hpF,.inl ⟨hof,hR,us++[()],F',by rw[List.length_append,hul];rfl,o1,i1,hp',fun x hx hm=>?_⟩⟩⟩
  rcases e6 _ hx with h|h|h
  ·exact h5 x h hm
  ·simp at h
  have:=(hI x hm).2;simp at h;omega
 have hdr:qs.drop i=q::qs.drop (i+1):=by
  have hlt:i<qs.length:=by omega
  rw[List.drop_eq_getElem_cons hlt]
  rw[List.getElem?_eq_getElem hlt] at hq
  rw[Option.some.inj hq]
 obtain⟨q2,rest,hd2⟩:∃q2 rest,qs.drop (i+1)=q2::rest:=by
  rw[List.drop_eq_getElem_cons hmid]
  exact⟨_,_,rfl⟩
 rcases hs with ⟨rfl,hR,us,F,h1,h2,h3,h4,h5⟩|⟨rfl,hlt,gs,F,hR,rfl,h1,h2,h3,h4,h5⟩|⟨_,he,_⟩
 rotate_left 2
 ·omega
 ·obtain⟨k1,k2⟩:=keepP Qx.lives h2 h3 h4 hbA hT
  exact bad us F hR (by rw[hok];rfl) h1 k1 k2 h4 h5 (fun x hx=>(h3 x hx).2)
 obtain⟨k1,k2⟩:=keepP Qg.lives h2 h3 h4 hbA hT
 have hRc:Pl.rbd n ((qs.drop i).map (Pl.PT l))=match Pl.rexpr n A,Pl.rexpr n B,Pl.rbd n ((qs.drop (i+1)).map (Pl.PT l)) with | some x,some y,some (gs,e)=>some ((x,y)::gs,e) | _,_,_=>none:=by
  rw[hdr,hd2,List.map_cons,List.map_cons,Pl.rbd_cons,hcut]
  rfl
 have badG:R=none->ok'=false->∃w' ag' cg',(Builtin.append_ #[41,41] ty #[.slice ag ng cg,.slice (some ⟨Z.heap.size,0,none⟩) 1 1]).run Tryz.prog (Z.alloc (.cells #[.slice a1 n1 c1,.slice a2 n2 c2] 57))=.ok (.slice ag' (ng+1) cg') w'/\Bo w p w' 3 nm ac nc cc ag ng cg ok' fi'/\Ib l n R w p nm qs b off cap pv Fp (i+1) (w'.setCell ⟨p,3,none⟩ (.slice ag' (ng+1) cg')):=fun hRn hof=>by
  obtain⟨F',f1,f2⟩:=k1.forget
  exact bad _ F' hRn hof (by simpa using h1) f1 (fun x hx=>k2 x (f2 x hx)) (fun hm=>h4 (f2 _ hm)) (fun x hx=>h5 x (f2 x hx)) (fun x hx=>(h3 x (f2 x hx)).2)
 cases hA:Pl.rexpr n A with
 |none =>
  rw[hA] at hca
  obtain⟨_,_,_,_,_,_,e5⟩:=hca
  cases e5
  exact badG (by rw[hR,hRc,hA];rfl) (by rw[hok];rfl)
 |some x =>
  rw[hA] at hca
  obtain⟨a6,c6,F1,e5,g1,g2⟩:=hca
  cases e5
  cases hBx:Pl.rexpr n B with
  |none =>
   rw[hBx] at hcb
   obtain⟨_,_,_,_,_,_,e6⟩:=hcb
   cases e6
   exact badG (by rw[hR,hRc,hA,hBx];rfl) (by rw[hok];rfl)
  |some y =>
   rw[hBx] at hcb
   obtain⟨a7,c7,F2,e6,g3,g4⟩:=hcb
   cases e6
   have hb34:Below w3.heap.size w3 w4:=((Below.refl w3.heap.size w3).alloc (Nat.le_refl _) o3).trans (hb4.mono sI)
   have hp1:p ∉ F1:=fun hm=>by have:=(g2 _ hm).1;omega
   have hp2:p ∉ F2:=fun hm=>by have:=(g4 _ hm).1;simp at this;omega
   obtain⟨m1,m2⟩:=keepP Qs.lives g1 g2 hp1 hb34 hT
   have m3:=g3.grown Qs.lives g4 hT (fun x hx hm=>by cases hx;exact hp2 hm)
   have m4:=g4.up (Nat.le_refl _) hT.size
   have y1:=m1.below Qs.lives m2 hbY (Nat.le_refl _)
   have y3:=m3.below Qs.lives m4 hbY (Nat.le_refl _)
   have nd1:F1.Nodup:=by obtain⟨_,_,_,_,_,h⟩:=g1;exact h
   have nd2:F2.Nodup:=by obtain⟨_,_,_,_,_,h⟩:=g3;exact h
   obtain⟨v',w',F',e1,e2,e3,e4,e5,e6⟩:=(k1.below Qg.lives k2 hbY (Nat.le_refl _)).append el35 Qg.lives (k2.up (Nat.le_refl _) hbY.size) (d:=[⟨x.code,y.code⟩]) (G:=F1++F2) (ys:=[.slice a1 x.code.length c1,.slice a2 y.code.length c2]) (RowQ.one ⟨_,_,F1,F2,rfl,rfl,y1,y3⟩)
    (fun z hz=>by
     rcases List.mem_append.1 hz with h|h
     ·have:=m2 z h;simp;omega
     have:=m4 z h;simp at this ⊢;omega)
    (by
     rw[List.nodup_append]
     exact⟨nd1,nd2,fun z hz z' hz' e=>by subst e;have:=(g2 z hz).2;have:=(g4 z hz').1;simp at this;omega⟩)
    (fun z hz hm=>by
     have:=(h3 z hm).2
     rcases List.mem_append.1 hz with h|h
     ·have:=(g2 z h).1;omega
     have:=(g4 z h).1;simp at this;omega)
    rfl (b:=Z.heap.size) (off:=0) (cap:=1) hcn (by simp[Value.oneCell']) (by simp;omega) (by simp;omega) ty
   obtain⟨ag',cg',rfl⟩:=e2.slice
   rw[List.length_append,List.length_map,h1] at e1 e2
   have hown:∀x,(Value.slice ag ng cg).ownBlock=some x->x∈F:=fun x hx=>(h2.lt x hx).1
   have hp':p ∉ F':=fun hm=>by
    rcases e6 _ hm with h|h|h
    ·exact h4 h
    ·rcases List.mem_append.1 h with h|h
     ·exact hp1 h
     exact hp2 h
    simp at h;omega
   have hBw:=hBY.grown e4 (fun x hx=>⟨(h3 x (hown x hx)).1,fun e=>h4 (e ▸ hown x hx)⟩)
   obtain⟨o1,i1⟩:=e2.box Qg.lives e3 hp' (j:=3) (.slice ag' (ng+1) cg')
   have hOw:=hO2.grown (Qk.lives b off cap) hI2 e4 (fun x hx=>h5 x (hown x hx))
   obtain⟨o2,i2⟩:=hOw.box (Qk.lives b off cap) (hI2.up (Nat.le_refl _) e4.size) hpF (j:=3) (.slice ag' (ng+1) cg')
   refine⟨w',ag',cg',e1,hBw,⟨_,_,_,_,_,_,_,_,hBw.set3 ag' (ng+1) cg',by omega,by omega,o2,i2,hpF,.inr (.inl ⟨by rw[hok];rfl,hmid,gs++[(x,y)],F',?_,?_,by rw[List.length_append,h1];rfl,by rw[List.map_append];exact o1,i1,hp',fun z hz' hm=>?_⟩)⟩⟩
   ·rw[hR,hRc,hA,hBx]
    cases Pl.rbd n ((qs.drop (i+1)).map (Pl.PT l)) with
    |none=>rfl
    |some r=>simp
   ·rw[hfi,gsF_snoc,fine_int,fine_int,Bool.and_assoc]
   have hz:=(hI z hm).2
   rcases e6 _ hz' with h|h|h
   ·exact h5 z h hm
   ·rcases List.mem_append.1 h with h|h
    ·have:=(g2 z h).1;omega
    have:=(g4 z h).1;simp at this;omega
   simp at h;omega
theorem Ib.mid' {ac:Option Addr}{nc cc:Nat}{ag:Option Addr}{ng cg:Nat}{ok fi:Bool}{q:Nat × Nat}{A B:List Pl.T}{a1 a2:Option Addr}{n1 c1 n2 c2:Nat}{fr1 ne1 fr2 ne2:Int}{ok1 lo1 ok2 lo2 ok' fi':Bool}{o3:Obj}(hq:qs[i]? = some q) (hmid:i+1<qs.length) (hql:qs.length<=1048577) (hcut:Pl.cutc (Pl.PT l q)=some (A,B)) (hng:ng<=i) (hs:Ibs l n R w p qs Fp i wr ac nc cc ag ng cg ok fi) (hO:Own 34 1 (Qk b off cap) wr pv qs Fp) (hI:Inb (w.heap.size+1) wr Fp) (hpF:p ∉ Fp) (hpl:p<wr.heap.size) (hsz:w.heap.size<wr.heap.size)
  (hb3:Below wr.heap.size wr w3) (hca:CodeR wr.heap.size w3 (.agg #[.slice a1 n1 c1,.int .i64 fr1,.bool ok1,.int .i64 ne1,.bool lo1]) ((Pl.rexpr n A).map ofE)) (hb4:Below (w3.alloc o3).heap.size (w3.alloc o3) w4) (hcb:CodeR (w3.alloc o3).heap.size w4 (.agg #[.slice a2 n2 c2,.int .i64 fr2,.bool ok2,.int .i64 ne2,.bool lo2]) ((Pl.rexpr n B).map ofE)) (hT:w4.grownBy Z (some p)) (hB:Bo w p Z 3 nm ac nc cc ag ng cg ok' fi') (hok:ok'=(ok && ok1 && ok2)) (hfi:fi'=(fi && (decide (ne1<=40) && !lo1) && (decide (ne2<=40) && !lo2))) (ty:TypeId) (zq:Nat) (hzq:zq=Z.heap.size) :
  ∃w' ag' cg',(Builtin.append_ #[41,41] ty #[.slice ag ng cg,.slice (some ⟨zq,0,none⟩) 1 1]).run Tryz.prog (Z.alloc (.cells #[.slice a1 n1 c1,.slice a2 n2 c2] 57))=.ok (.slice ag' (ng+1) cg') w'/\Bo w p w' 3 nm ac nc cc ag ng cg ok' fi'/\Ib l n R w p nm qs b off cap pv Fp (i+1) (w'.setCell ⟨p,3,none⟩ (.slice ag' (ng+1) cg')):=by
 subst hzq
 exact Ib.mid hq hmid hql hcut hng hs hO hI hpF hpl hsz hb3 hca hb4 hcb hT hB hok hfi ty
end
theorem exec_f31_1 {o:Oper}{a:Act}(x:Operand) (b k:Nat) (ho:o.op=Op.fieldAddr 37 x 1) (hx:a.eval x=.pointer (some ⟨b,k,none⟩)) (w:World):(execOp a.eval o).run Tryz.prog w=.ok (.value (.pointer (some ⟨b,k+1,none⟩))) w:=by
 simp only[execOp,ho,hx]
 go_simp
theorem exec_load9s {o:Oper}{a:Act}(x:Operand) (b j:Nat) (s:ByteArray) (w:World) (ho:o.op=Op.load 9 x) (hx:a.eval x=.pointer (some ⟨b,j,none⟩)) (d:w.cell? ⟨b,j,none⟩=some (.string s)):(execOp a.eval o).run Tryz.prog w=.ok (.value (.string s)) w:=by
 simp only[execOp,ho,hx]
 go_simp
theorem exec_sl28 {o:Oper}{a:Act}(x y z:Operand) (b off n cap i j:Nat) (ho:o.op=Op.slice 34 x (some y) (some z) none) (hx:a.eval x=.slice (some ⟨b,off,none⟩) n cap) (hy:a.eval y=.int .i64 (i:Int)) (hz:a.eval z=.int .i64 (j:Int)) (hi:i<=j) (hj:j<=cap) (hc:i<cap) (w:World):(execOp a.eval o).run Tryz.prog w=.ok (.value (.slice (some ⟨b,off+i * 4,none⟩) (j-i) (cap-i))) w:=by
 have h1:¬((i:Int)<0):=by omega
 have h2:(i:Int)<=(j:Int):=by omega
 have h3:(j:Int)<=(cap:Int):=by omega
 have h4:¬i=cap:=by omega
 have h5:¬((j:Int)<0):=by omega
 have h6:¬cap=i:=by omega
 simp[execOp,ho,hx,hy,hz]
 go_simp
theorem exec_call2 {o:Oper}{a:Act}(f:FuncId) (he:∀args w,(callFunc f args).run Tryz.prog w=.ok (.enter f args) w) (x y:Operand) (v u:Value) (ts:Array TypeId) (ho:o.op=Op.call { callee:=.value (.func f),args:=#[x,y],argTypes:=ts }) (hx:a.eval x=v) (hy:a.eval y=u) (w:World):(execOp a.eval o).run Tryz.prog w=.ok (.enter f #[v,u]) w:=by
 have hf:a.eval (.func f)=.func (.func f) #[] #[]:=rfl
 simp[execOp,ho,hx,hy,hf,resolve,invoke,Deferred.ofValue,he]
theorem enter27:∀args w,(callFunc 32 args).run Tryz.prog w=.ok (.enter 32 args) w:=enters_of Tryz.func32 kR rfl
theorem enter29:∀args w,(callFunc 34 args).run Tryz.prog w=.ok (.enter 34 args) w:=enters_of Tryz.func34 kR rfl
theorem exec_load37 {o:Oper}{a:Act}(x:Operand) (b:Nat) (k:Int) (s:ByteArray) (ac:Option Addr) (nc cc:Nat) (ag:Option Addr) (ng cg:Nat) (w:World) (ho:o.op=Op.load 43 x) (hx:a.eval x=.pointer (some ⟨b,0,none⟩)) (d0:w.cell? ⟨b,0,none⟩=some (.int .i64 k)) (d1:w.cell? ⟨b,1,none⟩=some (.string s)) (d2:w.cell? ⟨b,2,none⟩=some (.slice ac nc cc)) (d3:w.cell? ⟨b,3,none⟩=some (.slice ag ng cg)) :
  (execOp a.eval o).run Tryz.prog w=.ok (.value (.agg #[.int .i64 k,.string s,.slice ac nc cc,.slice ag ng cg])) w:=by
 have z:=Tryz.sizeOf43
 have g:=Tryz.isAgg43
 simp only[execOp,ho,hx]
 go_simp
theorem exec_f63_2 {o:Oper}{a:Act}(x:Operand) (b:Nat) (ho:o.op=Op.fieldAddr 75 x 2) (hx:a.eval x=.pointer (some ⟨b,0,none⟩)) (w:World):(execOp a.eval o).run Tryz.prog w=.ok (.value (.pointer (some ⟨b,2,none⟩))) w:=by
 simp only[execOp,ho,hx]
 go_simp
theorem exec_load4 {o:Oper}{a:Act}(x:Operand) (b j:Nat) (s:Bool) (w:World) (ho:o.op=Op.load 4 x) (hx:a.eval x=.pointer (some ⟨b,j,none⟩)) (d:w.cell? ⟨b,j,none⟩=some (.bool s)):(execOp a.eval o).run Tryz.prog w=.ok (.value (.bool s)) w:=by
 simp only[execOp,ho,hx]
 go_simp
theorem exec_load63 {o:Oper}{a:Act}(x:Operand) (b:Nat) (ac:Option Addr) (nc cc:Nat) (fr ne:Int) (ok lo:Bool) (w:World) (ho:o.op=Op.load 75 x) (hx:a.eval x=.pointer (some ⟨b,0,none⟩)) (d0:w.cell? ⟨b,0,none⟩=some (.slice ac nc cc)) (d1:w.cell? ⟨b,1,none⟩=some (.int .i64 fr)) (d2:w.cell? ⟨b,2,none⟩=some (.bool ok)) (d3:w.cell? ⟨b,3,none⟩=some (.int .i64 ne)) (d4:w.cell? ⟨b,4,none⟩=some (.bool lo)) :
  (execOp a.eval o).run Tryz.prog w=.ok (.value (.agg #[.slice ac nc cc,.int .i64 fr,.bool ok,.int .i64 ne,.bool lo])) w:=by
 have z:=Tryz.sizeOf75
 have g:=Tryz.isAgg75
 simp only[execOp,ho,hx]
 go_simp
theorem exec_build39 {o:Oper}{a:Act}(x y z:Operand) (k:Int) (s:ByteArray) (ac:Option Addr) (nc cc:Nat) (ag:Option Addr) (ng cg:Nat) (ok fi:Bool) (ho:o.op=Op.build 45 #[(0,x),(1,y),(2,z)]) (hx:a.eval x=.agg #[.int .i64 k,.string s,.slice ac nc cc,.slice ag ng cg]) (hy:a.eval y=.bool ok) (hz:a.eval z=.bool fi) (w:World):(execOp a.eval o).run Tryz.prog w=.ok (.value (.agg #[.int .i64 k,.string s,.slice ac nc cc,.slice ag ng cg,.bool ok,.bool fi])) w:=by
 simp[execOp,ho,hx,hy,hz]
 go_simp
theorem exec_store39 {o:Oper}{a:Act}(x y:Operand) (b:Nat) (k:Int) (s:ByteArray) (ac:Option Addr) (nc cc:Nat) (ag:Option Addr) (ng cg:Nat) (ok fi:Bool) (u0 u1 u2 u3 u4 u5:Value) (w:World) (ho:o.op=Op.store 45 x y) (hx:a.eval x=.pointer (some ⟨b,0,none⟩)) (hy:a.eval y=.agg #[.int .i64 k,.string s,.slice ac nc cc,.slice ag ng cg,.bool ok,.bool fi]) (d0:w.cell? ⟨b,0,none⟩=some u0) (d1:w.cell? ⟨b,1,none⟩=some u1) (d2:w.cell? ⟨b,2,none⟩=some u2) (d3:w.cell? ⟨b,3,none⟩=some u3) (d4:w.cell? ⟨b,4,none⟩=some u4) (d5:w.cell? ⟨b,5,none⟩=some u5) (hf:∀j,w.frozen? ⟨b,j,none⟩=false) :
  (execOp a.eval o).run Tryz.prog w=.ok .skip ((((((w.setCell ⟨b,0,none⟩ (.int .i64 k)).setCell ⟨b,1,none⟩ (.string s)).setCell ⟨b,2,none⟩ (.slice ac nc cc)).setCell ⟨b,3,none⟩ (.slice ag ng cg)).setCell ⟨b,4,none⟩ (.bool ok)).setCell ⟨b,5,none⟩ (.bool fi)):=by
 have z:=Tryz.sizeOf45
 have g:=Tryz.isAgg45
 simp only[execOp,ho,hx,hy]
 go_simp
structure Rx (w X:World):Prop where
 b:Below w.heap.size w X
 lt:w.heap.size<X.heap.size
 r0:X.cell? ⟨w.heap.size,0,none⟩=some (.int .i64 0)
 r1:X.cell? ⟨w.heap.size,1,none⟩=some (.string ⟨#[]⟩)
 r2:X.cell? ⟨w.heap.size,2,none⟩=some (.slice none 0 0)
 r3:X.cell? ⟨w.heap.size,3,none⟩=some (.slice none 0 0)
 r4:X.cell? ⟨w.heap.size,4,none⟩=some (.bool false)
 r5:X.cell? ⟨w.heap.size,5,none⟩=some (.bool false)
 rf:∀j,X.frozen? ⟨w.heap.size,j,none⟩=false
theorem Rx.keep {w X X':World}(h:Rx w X) (hb:Below X.heap.size X X'):Rx w X' :=
 ⟨h.b.trans (hb.mono (Nat.le_of_lt h.lt)),Nat.lt_of_lt_of_le h.lt hb.size,bcell hb h.lt h.r0,bcell hb h.lt h.r1,bcell hb h.lt h.r2,bcell hb h.lt h.r3,bcell hb h.lt h.r4,bcell hb h.lt h.r5,fun j=>bfroz hb h.lt (h.rf j)⟩
theorem Rx.new (w:World):Rx w (w.alloc (.cells #[.int .i64 0,.string ⟨#[]⟩,.slice none 0 0,.slice none 0 0,.bool false,.bool false] 45)) :=
 ⟨(Below.refl _ _).alloc (Nat.le_refl _) _,by simp,by simp[go_sem],by simp[go_sem],by simp[go_sem],by simp[go_sem],by simp[go_sem],by simp[go_sem],fun j=>by simp[go_sem]⟩
theorem Rx.far {w X X':World}(h:Rx w X) {p:Nat}(hg:X.grownBy X' (some p)) (hp:w.heap.size<p):Rx w X':=by
 have e:=hg.block w.heap.size h.lt (fun e=>by cases e;omega)
 have g (j:Nat):X'.cell? ⟨w.heap.size,j,none⟩=X.cell? ⟨w.heap.size,j,none⟩:=World.cell?_of_block e
 exact⟨h.b.grown hg (Nat.le_of_lt h.lt) (fun k hk=>by cases hk;omega),Nat.lt_of_lt_of_le h.lt hg.size,(g 0).trans h.r0,(g 1).trans h.r1,(g 2).trans h.r2,(g 3).trans h.r3,(g 4).trans h.r4,(g 5).trans h.r5,fun j=>(World.frozen?_of_block (a:=⟨w.heap.size,j,none⟩) e).trans (h.rf j)⟩
theorem ReadR.far {B p:Nat}{w w':World}{v:Value}{r:Option Pl.S}(h:ReadR B w v r) (hg:w.grownBy w' (some p)) (hp:p<B):ReadR B w' v r:=by
 cases r with
 |none=>exact h
 |some s =>
  obtain⟨ac,nc,cc,ag,ng,cg,F,G,e,h1,h2,h3,h4,h5⟩:=h
  exact⟨ac,nc,cc,ag,ng,cg,F,G,e,h1.grown Qs.lives h3 hg (fun b hb hm=>by cases hb;have:=(h3 _ hm).1;omega),h2.grown Qg.lives h4 hg (fun b hb hm=>by cases hb;have:=(h4 _ hm).1;omega),h3.up (Nat.le_refl _) hg.size,h4.up (Nat.le_refl _) hg.size,h5⟩
theorem ReadR.low {B B':Nat}{w:World}{v:Value}{r:Option Pl.S}(h:ReadR B w v r) (hB:B'<=B):ReadR B' w v r:=by
 cases r with
 |none=>exact h
 |some s =>
  obtain⟨ac,nc,cc,ag,ng,cg,F,G,e,h1,h2,h3,h4,h5⟩:=h
  exact⟨ac,nc,cc,ag,ng,cg,F,G,e,h1,h2,h3.up hB (Nat.le_refl _),h4.up hB (Nat.le_refl _),h5⟩
theorem ReadR.form {B:Nat}{w:World}{v:Value}{r:Option Pl.S}(h:ReadR B w v r):∃k nm ac nc cc ag ng cg ok fi,v=.agg #[.int .i64 k,.string nm,.slice ac nc cc,.slice ag ng cg,.bool ok,.bool fi]:=by
 cases r with
 |none =>
  obtain⟨k,nm,ac,nc,cc,ag,ng,cg,fi,e⟩:=h
  exact⟨k,nm,ac,nc,cc,ag,ng,cg,false,fi,e⟩
 |some s =>
  obtain⟨ac,nc,cc,ag,ng,cg,F,G,e,_⟩:=h
  exact⟨_,_,ac,nc,cc,ag,ng,cg,true,_,e⟩
end Go.Proofs.YtbiiicbfpcfgdaaGreatDoor
