import Derived.Test.YtbiiicbfpcfgdaaGreatDoorLwr
import Derived.Test.YtbiiicbfpcfgdaaGreatDoorCards
import Derived.Test.YtbiiicbfpcfgdaaGreatDoorTie
import Derived.ProofKit
import Derived.OpenShut
import Derived.ChangeOld
import Derived.Lib.SmallJoins
import Derived.LaidLaws
import Derived.LaidMore
import Derived.Lib.LaidTab
import Derived.Stop.LaidErr
import Derived.HandedShaped
import Derived.Shelf.Vars
import Derived.ChangeSame
import Derived.ChangeVars
import Derived.ChangeMaps5
import Derived.JoinedOf
import Derived.RowKit
import Derived.RowKitTokens
import Derived.Stop.Joined
import Derived.SevenTiedAt
namespace Go.Proofs.YtbiiicbfpcfgdaaGreatDoor
open Go.ChangeShapes Go.WideShapes Go.ChangeAt Go.RowKit Go.Joins
set_option maxRecDepth 100000
set_option maxHeartbeats 16000000
set_option linter.unusedVariables false
theorem Tryz.own:ownKnob Tryz.prog.godebug=none:=by kernel_rfl
theorem Tryz.laidOut:laidOutB Tryz.prog=true:=by kernel_rfl
theorem Tryz.cells3:Tryz.prog.cellsOf 3=1:=by kernel_rfl
theorem Tryz.cells9:Tryz.prog.cellsOf 9=1:=by kernel_rfl
theorem Tryz.gPow : Tryz.prog.globalNamed "internal/strconv.uint64pow10" = some 4 := by kernel_rfl
theorem Tryz.tPow:(Tryz.prog.globals[4]?).map (·.type)=some 195:=by kernel_rfl
theorem Tryz.c186:Tryz.prog.cellsOf 186=1:=by kernel_rfl
theorem Tryz.c195:Tryz.prog.cellsOf 195=20:=by kernel_rfl
theorem Tryz.gMng : Tryz.prog.globalNamed "loop.example/s02135/impl.meanings" = some 1 := by kernel_rfl
theorem Tryz.tMng:(Tryz.prog.globals[1]?).map (·.type)=some 165:=by kernel_rfl
theorem Tryz.c167:Tryz.prog.cellsOf 167=5:=by kernel_rfl
theorem maxlen_of {W:World}(h:W.ShapedOpen Tryz.prog):∃m,W.cell? ⟨0,0,none⟩=some (.int .i64 m) :=
 cell_of_shapedOpen_int (g:=0) (t:=3) (zero:=#[.int .i64 0]) h (of_decide_eq_true kR) kR rfl kR kR Tryz.underlying3
theorem tab_of {W : World} {r : List (String × DataW Unit)} (h : laidMet Tryz.prog (("internal/strconv.uint64pow10", Rows.laid_internal_strconv_uint64pow10) :: r) W) : Tab W :=
 Lib.tabIs_of_head (zs:=Lib.pow10Tab) Tryz.gPow Tryz.tPow Tryz.underlying195 Tryz.underlying186 Tryz.c186 Tryz.c195 h
def mgD (m:Pl.Mg):DataW Unit:=.agg [.lit (.string m.t),.lit (.int .i64 m.ok),.lit (.int .i64 m.ow),.lit (.int .i64 m.tk),.lit (.int .i64 m.tw)]
theorem laid_mgs:Rows.laid_loop_example_s02135_impl_meanings=.slice (Pl.mgs.map mgD) []:=rfl
theorem mg_of_trod {W:World}{n:Nat}{cs:List Value}{m:Pl.Mg}{p:List MemPlace}(h:DataW.trod (fun _=>()) Tryz.prog W 0 (fun _=>true) false n 167 cs=some (mgD m,p)) :
  cs=[.string (Pl.ba m.t),.int .i64 m.ok,.int .i64 m.ow,.int .i64 m.tk,.int .i64 m.tw]:=by
 obtain⟨xs,n,_,hx,hl,hxl,hf⟩:=DataW.trod_struct Tryz.underlying167 h
 rw[Tryz.c167] at hl
 match cs,hl,xs,hxl with
 |[c0,c1,c2,c3,c4],_,[x0,x1,x2,x3,x4],_ =>
  have h0:=hf 0 _ rfl
  have h1:=hf 1 _ rfl
  have h2:=hf 2 _ rfl
  have h3:=hf 3 _ rfl
  have h4:=hf 4 _ rfl
  simp[Tryz.cells3,Tryz.cells9] at h0 h1 h2 h3 h4
  obtain⟨s0,e0,d0,_⟩:=DataW.trod_string Tryz.underlying9 h0
  obtain⟨k1,e1,d1,_⟩:=DataW.trod_int Tryz.underlying3 h1
  obtain⟨k2,e2,d2,_⟩:=DataW.trod_int Tryz.underlying3 h2
  obtain⟨k3,e3,d3,_⟩:=DataW.trod_int Tryz.underlying3 h3
  obtain⟨k4,e4,d4,_⟩:=DataW.trod_int Tryz.underlying3 h4
  simp at e0 e1 e2 e3 e4
  subst e0 e1 e2 e3 e4 d0 d1 d2 d3 d4
  simp[mgD] at hx
  obtain⟨⟨q0,q1,q2,q3,q4⟩,_⟩:=hx
  rw[q0,q1,q2,q3,q4]
  rfl
theorem mt_of {W : World} {r : List (String × DataW Unit)} (h : laidMet Tryz.prog (("loop.example/s02135/impl.meanings", Rows.laid_loop_example_s02135_impl_meanings) :: r) W) (hs : W.ShapedOpen Tryz.prog) :
  ∃mb mo cp,Mt W mb mo cp:=by
 obtain⟨ps,⟨g,t,cs,fuel,p,q,hg,ht,hvar,hd,_,_⟩,_⟩:=h
 obtain rfl:=Option.some.inj (Tryz.gMng.symm.trans hg)
 obtain rfl:=Option.some.inj (Tryz.tMng.symm.trans ht)
 obtain⟨x,hx1⟩:=maxlen_of hs
 rw[laid_mgs] at hd
 rcases Go.Deep.open_slice Tryz.underlying165 hd with ⟨_,e⟩|⟨a,len,cap,m,n',D,P,hcs,_,hl,hm,hmm,e,hx⟩
 ·simp at e
 have hc0:W.cell? ⟨1,0,none⟩=some (.slice (some a) len cap):=by
  have:=World.var?_cell Tryz.gMng hvar 0
  rw[this]
  obtain⟨l⟩:=cs
  simp at hcs
  subst hcs
  rfl
 simp only[Prod.mk.injEq,DataW.slice.injEq] at e
 obtain⟨⟨e1,e2⟩,_⟩:=e
 have hlen:len=25:=by
  have:=congrArg List.length e1
  simp at this
  exact this.symm.trans rfl
 subst hlen
 simp only[if_true] at hmm
 have each:∀(k:Nat) (mg:Pl.Mg),Pl.mgs[k]? = some mg->∃cs',cs'=[.string (Pl.ba mg.t),.int .i64 mg.ok,.int .i64 mg.ow,.int .i64 mg.tk,.int .i64 mg.tw]/\∀j,j<5->W.cell? (a.add (k * 5+j))=cs'[j]?:=fun k mg hk=>by
  have hk25:k<25:=(List.getElem?_eq_some_iff.1 hk).1
  obtain⟨cs',h1,h2⟩:=hx k oM
  have hD:D k=mgD mg:=by
   have:=congrArg (fun l=>l[k]?) e1
   simp[hk,hk25] at this
   exact this.symm
  rw[hD] at h2
  rw[Tryz.c167] at h1
  obtain⟨_,hl5,hcell⟩:=World.cells?_some h1
  refine⟨cs',mg_of_trod h2,fun j hj=>?_⟩
  have:=hcell j hj
  rwa [Go.Deep.add_add] at this
 obtain⟨b,off,spot⟩:=a
 obtain⟨cs0,rfl,hc⟩:=each 0 _ rfl
 have hc:=hc 0 (by decide)
 have hspot:spot=none:=by simpa[Addr.add] using World.cell?_spot hc
 subst hspot
 refine⟨b,off,cap,hc0,?_,World.block_lt_of_cell? _ _ hc0,fun k mg hk=>?_,x,hx1⟩
 ·have:=World.block_lt_of_cell? _ _ hc
  simpa[Addr.add] using this
 obtain⟨cs',rfl,h5⟩:=each k mg hk
 have g (j:Nat) (hj:j<5):=h5 j hj
 simp only[Addr.add_lit] at g
 exact⟨g 0 (by decide),g 1 (by decide),g 2 (by decide),g 3 (by decide),g 4 (by decide)⟩
noncomputable def laidWorld (os:Os):World :=
 let w0:=World.doorLaid Tryz.prog 64 os
 { w0 with heap:=w0.heap.modify 2 fun
   |.cells _ t frozen=>.cells (Pinned.utf8FirstZ.map fun z:Nat=>Value.int .u8 (z:Int)).toArray t frozen
   |o=>o }
theorem returns_both {H:Type}{enc:TypeId × Value->H}{a:Assume}{C:Checked}{os:Os}{f:FuncId}{fn:Func}{s:ChangeSpec}{conds:List PathCond}{apart fresh handsOn again:Bool}{X:World->Array Value->Prop}
  (hX:∀(w w':World) (args:Array Value),w.heap=w'.heap->X w args->X w' args)
  (own:ownKnob C.prog.godebug=none) (started:os.Started) (noInit:C.prog.inits.idxOf? f=none) (hfn:C.prog.funcs[f]? = some fn)
  (witness:∃(w:World) (tape:Tape) (i:Input),w.os=os/\(w.forCall tape i).Shaped C.prog/\i.vars=[]/\Input.okWide C.prog (w.forCall tape i) .any w.heap.size f i /\
   ((s.pre enc C.prog fn conds apart (w.forCall tape i).memory i.args/\X (w.forCall tape i).memory i.args)/\sizedMet enc C.prog fn (OpenSpec.ofChange s) apart (w.forCall tape i).memory i.args)/\a.holds C.prog (lone (Frame.enter C.prog f i.args .normal) [] (w.forCall tape i)))
  (contract:∀(W:World) (base:Nat) (args:Array Value) (ds gs:List (DataW H)) (before:List MemPlace),
   (∀(j:Nat) t v,fn.params[j]? = some t->args[j]? = some v->Value.okWide C.prog W .any base t v) ->
   DataW.Whole enc C.prog fn.params.toList s.vars apart W args.toList ds gs before->X W args->W.ShapedOpen C.prog ->
   Calls C.prog f args W fun e W'=>∃v,e=.returned v/\s.post enc C.prog fn apart fresh handsOn again W args v W') :
  ReturnsInHanded a C os f .any (fun w args=>(s.pre enc C.prog fn conds apart w args/\X w args)/\sizedMet enc C.prog fn (OpenSpec.ofChange s) apart w args) (s.post enc C.prog fn apart fresh handsOn again):=by
 refine returnsInHanded_of_calls own started noInit witness fun w tape i _ hsh _ hok hpre _=>?_
 obtain⟨_,_,_,fn',hfn',_,_,_,_,hval⟩:=hok
 obtain rfl:fn'=fn:=Option.some.inj (hfn'.symm.trans hfn)
 obtain⟨⟨⟨ds,gs,before,hw,_⟩,hx⟩,_⟩:=hpre
 refine(contract (w.forCall tape i) w.heap.size i.args ds gs before hval (DataW.Whole.of_heap (w':=w.forCall tape i) (by rfl) hw) (hX _ _ _ (by rfl) hx) hsh).mono fun e W' hp=>?_
 obtain⟨v,rfl,hp⟩:=hp
 exact ChangeSpec.post_blind hp
theorem ev_of_laid {W:World}(h:laidMetH Tryz.prog Rows.fnReprintedRow.laid W) (hs:W.ShapedOpen Tryz.prog):∃mb mo cp,Ev W mb mo cp:=by
 rw[MakeChecks.laidMetH_plain _ _ _ kR] at h
 have h3:=laidMet.tail (laidMet.tail h)
 obtain⟨mb,mo,cp,hm⟩:=mt_of (laidMet.tail (laidMet.tail h3)) hs
 exact⟨mb,mo,cp,hm,tab_of h3⟩
theorem laidWorld_met (os:Os) (args:Array Value):laidMetH Tryz.prog Rows.fnReprintedRow.laid ((laidWorld os).forCall (fun _ _=>0) ⟨#[],args,[]⟩).memory :=
 laidMetH_of_parts3 (fuel:=8) (laidMet_of_run' 8 kR kR) kR kR
theorem var_below {P:Program}{w w':World}{n:String}{g B:Nat}{cs:Array Value}(h:w.var? P n=some cs) (hg:P.globalNamed n=some g) (hb:Below B w w') (hlt:g<B):w'.var? P n=some cs:=by
 unfold World.var? at h ⊢
 rw[hg] at h ⊢
 simp only[Option.bind_some] at h ⊢
 rw[hb.block g hlt]
 exact h
theorem rdN_of_trod {H:Type}{enc:TypeId × Value->H}{W:World}{n:Nat}{v:Value}{y:DataW H × List MemPlace}(h:DataW.trod enc Tryz.prog W 0 (fun _=>true) true n 22 [v]=some y) :
  ∃(ao:Option Addr) (cap:Nat) (bs:List Nat),v=.slice ao bs.length cap/\bs.length<=cap/\cap<=9223372036854775807/\(∀x∈bs,x<=255)/\RdN W.heap.size W ao bs:=by
 rcases open_ints Tryz.underlying22 Tryz.underlying5 Tryz.cells5 h with ⟨hcs,_⟩|⟨x,l,c,zs,hcs,_,hl,hm,hz,_,hcell,hwf⟩
 ·simp at hcs
  subst hcs
  exact⟨none,0,[],rfl,Nat.le_refl _,by omega,by simp,.inl rfl⟩
 simp at hcs
 subst hcs
 simp at hz
 unfold maxLen at hm
 have wf:∀z∈zs,0<=z/\z<=255:=fun z hz=>by
  have h2:=hwf z hz
  unfold Lit.wf at h2
  rw[Bool.and_eq_true] at h2
  exact⟨of_decide_eq_true h2.1,of_decide_eq_true h2.2⟩
 have hlz:l<=zs.length:=by omega
 have hbl:((zs.take l).map Int.toNat).length=l:=by simp;omega
 refine⟨some x,c,(zs.take l).map Int.toNat,by rw[hbl],by omega,by omega,fun y hy=>?_,?_⟩
 ·obtain⟨z,hz,rfl⟩:=List.mem_map.1 hy
  have:=wf z (List.mem_of_mem_take hz)
  omega
 by_cases h0:l=0
 ·exact .inl (by subst h0;rfl)
 obtain⟨b,off,spot⟩:=x
 have hc:=hcell 0 oM
 have hspot:spot=none:=by simpa[Addr.add] using World.cell?_spot hc
 subst hspot
 refine .inr ⟨b,off,?_,rfl,fun i y hy=>?_⟩
 ·have:=World.block_lt_of_cell? _ _ hc
  simpa[Addr.add] using this
 have hil:i<l:=by have:=(List.getElem?_eq_some_iff.1 hy).1;omega
 have h1:=hcell i oM
 rw[Addr.add_lit] at h1
 have hlt:i<zs.length:=by omega
 have hz:zs.getD i 0=zs[i]:=by simp[List.getD,List.getElem?_eq_getElem hlt]
 have h3:=wf zs[i] (List.getElem_mem hlt)
 have he:y=(zs[i]).toNat:=by
  rw[List.getElem?_map,List.getElem?_take,if_pos hil,List.getElem?_eq_getElem hlt] at hy
  simpa using hy.symm
 rw[h1,hz,he,Int.toNat_of_nonneg h3.1]
theorem reprinted_lifted (os:Os) (started:os.Started) (H:Type) (enc:TypeId × Value->H) :
  ReturnsInHanded {} Tryz.checked os 3 .any (fun w args=>(Rows.fnReprintedSpec.pre enc Tryz.prog Tryz.f3 [] false w args/\laidMetH Tryz.prog Rows.fnReprintedRow.laid w)/\sizedMet enc Tryz.prog Tryz.f3 (OpenSpec.ofChange Rows.fnReprintedSpec) false w args)
   (Rows.fnReprintedSpec.post enc Tryz.prog Tryz.f3 false true false false):=by
 refine returns_both (C:=Tryz.checked) (X:=fun w _=>laidMetH Tryz.prog Rows.fnReprintedRow.laid w) (fun _ _ _ hh h=>h.of_heap hh) Tryz.own started kR Tryz.func3
  (ChangeSpec.witness_shaped (enc:=enc) (C:=Tryz.checked) (os:=os) (X:=fun w _=>laidMetH Tryz.prog Rows.fnReprintedRow.laid w) false (laidWorld os) #[.slice none 0 0] 8 rfl (World.shaped_of_RefB kR kR) kR kR kR (laidWorld_met os _)) ?_
 intro W base args ds gs before hval0 hW hL hsh
 have hval:∀(j:Nat) t v,Tryz.f3.params[j]? = some t->args[j]? = some v->Value.okWide Tryz.prog W .any base t v:=hval0
 have hW':=hW
 obtain⟨p,q,hA0,hV0,rfl,hfz,hnd⟩:=hW
 have hA:DataW.TrodAll enc Tryz.prog W 0 (fun _=>true) true Tryz.f3.params.toList args.toList ds p:=hA0
 have hV : DataW.TrodVars enc Tryz.prog W (fun _ => true) ["loop.example/s02135/impl.meanings"] gs q := hV0
 rw[Tryz.params3] at hA hval
 obtain⟨v0,vs0,d0,ds0,p0,q0,hargs,rfl,rfl,h0,r0⟩:=trodAll_cons hA
 obtain⟨rfl,rfl,rfl⟩:=trodAll_nil r0
 obtain rfl:args=#[v0]:=by cases args;simp_all
 obtain⟨g,t,cs,fuel,d1,p1,rfl,hg,ht,hvar,hd,rfl⟩:=trodVars_one hV
 obtain rfl:=Option.some.inj (Tryz.gMng.symm.trans hg)
 obtain rfl:=Option.some.inj (Tryz.tMng.symm.trans ht)
 have k0:=h0
 have lt0:∀x∈p0,x.block<W.heap.size:=by obtain⟨m,hm⟩:=k0;exact DataW.trod_lt m _ _ _ hm
 have lt1:∀x∈p1,x.block<W.heap.size:=DataW.trod_lt fuel _ _ _ hd
 obtain⟨ao,cap,bs,rfl,hc1,hc2,h8,rd⟩:∃(ao:Option Addr) (cap:Nat) (bs:List Nat),v0=.slice ao bs.length cap/\bs.length<=cap/\cap<=9223372036854775807/\(∀x∈bs,x<=255)/\RdN W.heap.size W ao bs:=by
  obtain⟨a0,len,cap,rfl⟩:=okWide_slice Tryz.underlying22 (hval 0 22 v0 rfl rfl)
  obtain⟨m,hm⟩:=h0
  exact rdN_of_trod hm
 obtain⟨mb,mo,cp,he⟩:=ev_of_laid hL hsh
 obtain⟨u,rfl⟩:∃u,cs=#[u]:=by
  obtain⟨l⟩:=cs
  rcases Go.Deep.open_slice Tryz.underlying165 hd with ⟨e,_⟩|⟨_,_,_,_,_,_,_,e,_⟩ <;> exact⟨_,by simp at e;rw[e]⟩
 have k1:DataW.Trod enc Tryz.prog W 0 (fun _=>true) true 165 u d1 p1:=by
  rcases Go.Deep.open_slice Tryz.underlying165 hd with ⟨e,_⟩|⟨_,_,_,_,_,_,_,e,_⟩ <;> (simp at e;subst e;exact⟨fuel,hd⟩)
 have hu:u.cells=#[u]:=by
  rcases Go.Deep.open_slice Tryz.underlying165 hd with ⟨e,_⟩|⟨_,_,_,_,_,_,_,e,_⟩ <;> (simp at e;subst e;rfl)
 clear hA0 hval0 hV0
 refine(reprinted_law ao cap mb mo cp bs W hc1 hc2 h8 rd he).mono fun e W' ⟨he',bel⟩=>?_
 subst he'
 obtain⟨f1,k2⟩:=Below.trod Tryz.laidOut kR (of_decide_eq_true kR) k1 bel lt1
 rw[hu] at k2
 exact⟨_,rfl,_,_,_,[],_,_,hW',trodAll_mk1 (shut_bool Tryz.underlying4 _),
  (trodAll_cons_mk (Below.trod Tryz.laidOut kR (of_decide_eq_true kR) k0 bel lt0) trodAll_mk0),
  trodVars_mk1 Tryz.gMng Tryz.tMng (var_below hvar Tryz.gMng bel (by have:=he.mt.z;omega)) k2,bel.frame _,fun h=>by cases h⟩
theorem reprinted_row:Rows.FnReprintedSaid :=
 OpenClaim.holds_of_wide 3 Tryz.f3 rfl rfl rfl rfl rfl rfl rfl ⟨rfl,rfl,rfl,rfl,rfl⟩ rfl rfl rfl rfl rfl kR Tryz.func3 kR
  (of_decide_eq_true kR) (by unfold Func.isWrapper;first | (rw[if_pos (by decide +kernel)];kernel_rfl) | (rw[if_neg (of_decide_eq_false kR)];exact⟨rfl,rfl⟩))
  (fun os started H enc _=>reprinted_lifted os started H enc)
theorem reprinted_card:Rows.FnReprintedCardSaid :=
 Claim7.holds_tied_plain_at .later [] [.data, .data, .data, .data, .data, .pinned] true (true, "f889dfa961066959e09507a118ef37f886c3d9f2f2642f602768fa0f683bec1d") true
  reprinted_row (fun _ h=>by cases h) kR (fun _ h=>by cases h) fnReprinted_row_tie rfl ⟨rfl,rfl⟩ kR rfl
  (fun f fn hf hfn=>by
   obtain rfl : f = 3 := Option.some.inj ((show Tryz.prog.funcNamed "loop.example/s02135/laws.FnReprinted" = some 3 by kernel_rfl).symm.trans hf) |>.symm
   obtain rfl:fn=Tryz.f3:=(Option.some.inj (Tryz.func3.symm.trans hfn)).symm
   exact⟨by kernel_rfl,fun j t ht=>by
    rw[Tryz.params3] at ht
    have h3:t=22:=by
     rcases j with _|j
     ·simpa using ht.symm
     simp at ht
    rw[h3]
    exact(show Tryz.prog.wantsStandIn 22=false by kernel_rfl)⟩)
  kR
#print axioms reprinted_card
end Go.Proofs.YtbiiicbfpcfgdaaGreatDoor
