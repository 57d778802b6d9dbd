import Derived.Test.YtiagfejlmafliaaGreatDoorBx
import Derived.Laws.BytesArg
import Derived.Lib.Join
import Derived.Laws.IdiomStrings
import Derived.Laws.StructEq
import Derived.Maps.OwnSet
import Derived.Maps.AppendAt
namespace Go.Proofs.YtiagfejlmafliaaGreatDoor
set_option linter.all false
open Go.Proofs.Tryz Pl
set_option maxHeartbeats 16000000
open Go.RowKit
open World renaming setCell->ez,alloc->ew
open List renaming range->eA,replicate->eE
open Option renaming some->a_,none->c_
open Bool renaming true->b_,false->d_
section
variable {c:List Sv}{t:Nd Sv}
namespace Pl
def xB(c:List Sv):Bool:=match nd c c.length with
 |some (t,0)=>c.all fj && decide (nest t<=40)
 |_=>d_
def anF(h:iZ c c.length ≠ 0):xB c=d_:=by
 unfold xB;unfold iZ at h;split
 ·rename_i e;rw[e] at h;exact absurd rfl h
 rfl
def alh{s:Sv}(hs:s∈c)(h:fj s=d_):xB c=d_:=by
 have:c.all fj=d_:=Bool.eq_false_iff.2 λe=>by have:=ga.1 e s hs;rw[h] at this;cases this
 unfold xB;split
 ·rw[this];rfl
 rfl
def σ(h:nd c c.length=a_ (t,0))(ha:∀s∈c,fj s=b_):xB c=decide (nest t<=40):=by
 unfold xB;rw[h,ga.2 ha];rfl
def υ:run ar c []=a_ [t] ↔ nd c c.length=a_ (t,0):=by
 rw[NR];unfold nd;rw[km]
 cases par ar c.length c.reverse with
 |none=>simp
 |some r=>obtain⟨t',q⟩:=r;cases q <;> simp
def alf(h:∀t,¬(c.all fj=b_/\run ar c []=a_ [t])):xB c=d_:=by
 unfold xB;split
 ·rename_i t e
  cases ha:c.all fj
  ·rfl
  exact absurd ⟨ha,υ.2 e⟩ (h t)
 rfl
def alg(h:xB c=b_):∃t,nd c c.length=a_ (t,0)/\∀s∈c,fj s=b_:=by
 unfold xB at h;split at h
 ·rename_i t e
  rw[fO] at h;exact⟨t,e,ga.1 h.1⟩
 cases h
def fA(s:Tv):Bool :=
 xB s.code && (decide (s.k=3) || decide (s.gs=[])) && (!(decide (s.k=1)) || decide (s.nm=[])) && (!(decide (s.k=2)) || decide (wk s.nm=2)) && (!(decide (s.k=3)) || (decide (wk s.nm=3) && !(decide (s.nm=lL)))) && decide (1<=s.k) && decide (s.k<=3) && s.gs.all (λg=>xB g.test && xB g.eT)
end Pl
def Sg(N:Nat)(w:Wd)(e:Ending)(w':Wd):Prop:=∃s:bA,e=rT (.string s)/\s.size<=N/\Below w.1.size w w'
def Sg.le{N M:Nat}{w w':Wd}{e:Ending}(h:Sg N w e w')(k:N<=M):Sg M w e w':=h.imp λ_ q=>⟨q.1,jT q.2.1 k,q.2.2⟩
end
set_option maxRecDepth 100000
section
variable {o:Oper}{i:Nat}
section
variable {ops:Array Oper} {Q:Exit->Act->Wd->Prop} {S:Wd->Prop} {fuel:Nat} {listed:Array Bool} {a:Act} {w:Wd}
def tk(i:Nat)(v:Va)(hi:ops[i]? = a_ o)(hS:S w)(hy:∀w,S w->(execOp a.eval o).run prog w=.ok (.value v) w)
  (h:wpAnyH prog .any ops Q S fuel (listed.setIfInBounds i b_) (a.put o.dst v) w) (hQ:∀c a w,Q (.panic c) (a.put o.dst v) w->Q (.panic c) a w:=by exact λ_ _ _ h=>h) (hs:Region.noSelect ops=b_:=by kernel_rfl) (hf:Region.free .any ops listed i=b_:=by kernel_rfl) (hr:(Region.ready .any ops listed).contains i=b_:=by kernel_rfl) (hw:Region.wanted o (yielded ops a.tmps)=b_:=by kernel_rfl):wpAnyH prog .any ops Q S (fuel+1) listed a w :=
 wpAnyH_take hi hs hf hr hQ (Or.inl ⟨hw,hy⟩) hS h
def tc(i f:Nat)(args:aV)(hi:ops[i]? = a_ o)(hg:o.guard=c_)(he:(execOp a.eval o).run prog w=.ok (.enter f args) w)
  (hc:Cp f args w λe w'=>(∃v,e=rT v/\S w'/\wpAnyH prog .any ops Q S fuel (listed.setIfInBounds i b_) (a.put o.dst v) w')\/∃c,e=.panicked c/\Q (.panic c) a w') (hr:Region.ready .any ops listed=[i]:=by kernel_rfl):wpAnyH prog .any ops Q S (fuel+1) listed a w:=by
 refine A5 hr sI (vF hi (λK' sh=>?_) A4);rw[eD JP];unfold Oper.wp;rw[he];refine hc.mono λe w' h=>?_;rcases h with ⟨v,rfl,hs,h⟩|⟨c,rfl,h⟩
 ·exact sh.o _ _ hs λ_=>h
 exact h
def tv(i:Nat)(v:Va)(w':Wd)(hi:ops[i]? = a_ o)(hg:o.guard=c_)(he:(execOp a.eval o).run prog w=.ok (.value v) w')(hS:S w')(h:wpAnyH prog .any ops Q S fuel (listed.setIfInBounds i b_) (a.put o.dst v) w')(hr:Region.ready .any ops listed=[i]:=by kernel_rfl):wpAnyH prog .any ops Q S (fuel+1) listed a w:=by
 refine A5 hr sI (vF hi (λK' sh=>?_) A4);rw[eD JP];unfold Oper.wp;rw[he];exact sh.o _ _ hS λ_=>h
def ts(i:Nat)(w':Wd)(hi:ops[i]? = a_ o)(hg:o.guard=c_)(hd:o.dst=c_)(he:(execOp a.eval o).run prog w=.ok .skip w')(hS:S w')(h:wpAnyH prog .any ops Q S fuel (listed.setIfInBounds i b_) a w')(hr:Region.ready .any ops listed=[i]:=by kernel_rfl):wpAnyH prog .any ops Q S (fuel+1) listed a w:=by
 refine A5 hr sI (vF hi (λK' sh=>?_) A4);rw[eD JP];unfold Oper.wp;rw[he];show K' (a.put o.dst undef) w';rw[hd];exact sh.o _ _ hS λ_=>h
def te(h:Q .normal a w)(hr:Region.ready .any ops listed=[]:=by kernel_rfl):wpAnyH prog .any ops Q S fuel listed a w:=wpAnyH_done hr h fuel
abbrev Sp(ops:Array Oper)(Q:Exit->Act->Wd->Prop)(S:Wd->Prop)(fuel:Nat)(listed:Array Bool)(i:Nat)(o:Oper)(a:Act)(w:Wd):Prop :=
 ∀K':Act->Wd->Prop,Shut (∀a w,S w->(S w->wpAnyH prog .any ops Q S fuel (listed.setIfInBounds i b_) a w)->K' a w)->if Region.wanted o (yielded ops a.tmps)=b_ then Oper.wp prog o a w K' Q else K' (a.put o.dst undef) w
def gT(i j:Nat){oi oj:Oper}(ei:ops[i]? = a_ oi)(ej:ops[j]? = a_ oj)(hi:Sp ops Q S fuel listed i oi a w)(hj:Sp ops Q S fuel listed j oj a w)(hr:Region.ready .any ops listed=[i,j]:=by kernel_rfl):wpAnyH prog .any ops Q S (fuel+1) listed a w :=
 A5 hr sI (vF ei hi (vF ej hj A4))
def iL(v:Va)(w':Wd)(hg:o.guard=c_)(he:(execOp a.eval o).run prog w=.ok (.value v) w')(hS:S w')(h:wpAnyH prog .any ops Q S fuel (listed.setIfInBounds i b_) (a.put o.dst v) w'):Sp ops Q S fuel listed i o a w:=λK' sh=>by
 rw[eD JP];unfold Oper.wp;rw[he];exact sh.o _ _ hS λ_=>h
def lC{f:Nat}{args:aV}(hg:o.guard=c_)(he:(execOp a.eval o).run prog w=.ok (.enter f args) w)(hc:Cp f args w λe w'=>∃v,e=rT v/\S w'/\wpAnyH prog .any ops Q S fuel (listed.setIfInBounds i b_) (a.put o.dst v) w'):Sp ops Q S fuel listed i o a w:=λK' sh=>by
 rw[eD JP];unfold Oper.wp;rw[he];refine hc.mono λe w' h=>?_;obtain⟨v,rfl,hs,h⟩:=h;exact sh.o _ _ hs λ_=>h
end
end
variable {ρ:Prop}
section
variable {p:Nat}{x:Int}
def aau{W:Wd}(h:W.cell? (Y p 0)=a_ (.int .u8 x)):(convert 114 9 (sX (sY p 0) 1 1)).run prog W=.ok (.string ⟨#[UInt8.ofNat x.toNat]⟩) W:=by
 have:=P4 (P:=prog) W 114 5 kF kF p 0 1 1 [x] rfl (λi hi=>by
  obtain rfl:i=0:=oM;simpa using h) 9 kF
 rw[this];simp[strOfNums]
def cv{o:Oper}{a:Act}{w:Wd}{u:UInt8}(hu:UInt8.ofNat x.toNat=u)(X:Operand)(ho:o.op=Op.convert 114 9 X)(hx:a.eval X=sX (sY p 0) 1 1)(b:Bx w p #[.int .u8 x] 5):(execOp a.eval o).run prog w=.ok (.value (.string ⟨#[u]⟩)) w:=by
 subst hu;simp[execOp,ho,hx,aau (b.cf.1 0),Result.andThen]
section
variable {ops:Array Oper} {Q:Exit->Act->Wd->Prop} {S:Wd->Prop} {fuel:Nat} {listed:Array Bool} {a:Act} {w:Wd}
def rcl(i j f:Nat)(v:Va)(args:aV){oi oj:Oper}(ei:ops[i]? = a_ oi)(ej:ops[j]? = a_ oj)(gi:oi.guard=c_)(gj:oj.guard=c_)(hS:S w)(hi:(execOp a.eval oi).run prog w=.ok (.enter f args) w)(hj:(execOp a.eval oj).run prog w=.ok (.value v) w)(Ez:(execOp (a.put oj.dst v).eval oi).run prog w=.ok (.enter f args) w)
  (hc:Cp f args w λe w'=>∃u,e=rT u/\S w'/\wpAnyH prog .any ops Q S (fuel+1) (listed.setIfInBounds i b_) (a.put oi.dst u) w'/\wpAnyH prog .any ops Q S fuel ((listed.setIfInBounds j b_).setIfInBounds i b_) ((a.put oj.dst v).put oi.dst u) w')
  (hr:Region.ready .any ops listed=[i,j]:=by kernel_rfl) (yb:Region.ready .any ops (listed.setIfInBounds j b_)=[i]:=by kernel_rfl):wpAnyH prog .any ops Q S (fuel+1+1) listed a w :=
 gT i j ei ej (lC gi hi (hc.mono λe w' ⟨u,he,hs,h1,_⟩=>⟨u,he,hs,h1⟩)) (iL v w gj hj hS (tc i f args ei gi Ez (hc.mono λe w' ⟨u,he,hs,_,h2⟩=>.inl ⟨u,he,hs,h2⟩) yb)) hr
end
def VO(n:Nat)(w:Wd)(h:n<10):Cp 96 #[I (n:Int)] w (Sg 1 w):=by
 have h1:¬((n:Int)<0):=oM;have h2:(n:Int)<10:=oM;have kc:=aau (p:=w.1.size) (x:=48+(n:Int)) (W:=w.alloc (.cells #[.int .u8 (48+(n:Int))] 5)) J5;go_enter func96,ntmps96;go_wp2;go_ret
 exact⟨_,rfl,jR _,gG⟩
def XH(h:ρ:=by
 refine tk 9 (.string (s++⟨#[u]⟩)) rfl gG (λw' _=>by go_simp) ?_;refine tk 10 (.string (s++⟨#[u]⟩)) rfl gG (λw' _=>kF) (te ?_);go_wp2;go_ret
 exact kX _ _ _ hs gG):ρ:=h
def Xt:∀(k n:Nat)(w:Wd),k<=11->n<10 ^ (k+1)->Cp 96 #[I (n:Int)] w (Sg (k+1) w):=by
 intro k;induction k with
 |zero=>exact λn w _ h=>VO n w h
 |succ k ih =>
  intro n w hk h;by_cases hn:n<10
  ·exact(VO n w hn).mono λ_ _ q=>q.le oM
  have hq:n / 10<10 ^ (k+1):=by rw[Nat.pow_succ] at h;omega
  have K:=zH λw=>ih (n / 10) w oM hq;have hb:n<10 ^ 13:=jL h (Nat.pow_le_pow_right oM oM);have h1:¬((n:Int)<0):=oM;have h2:decide ((n:Int)<10)=d_:=by rw[Bk];omega
  have e1:Int.tdiv (n:Int) 10=((n / 10:Nat):Int):=by rw[Bj oM];omega
  have e2:Int.tmod (n:Int) 10=((n % 10:Nat):Int):=by rw[zA oM];omega
  have hr:n % 10<10:=oM;have rm:n / 10<10 ^ 13:=oM;have⟨u,hu⟩:∃u,UInt8.ofNat (48+((n % 10:Nat):Int)).toNat=u:=⟨_,rfl⟩;generalize n / 10=q,n % 10=r at *;go_enter func96,ntmps96;go_upto_region 5 with fail
  refine Bi (S:=λw'=>Bl w w') kF ?_;change wpAnyH _ _ _ _ _ _ _ _ (World.drew _);have DW:Bl w w.drew:=gG;generalize World.drew w=wd at DW ⊢;refine tk 0 (I (n:Int)) rfl DW (λ_ _=>kF) ?_;refine tk 1 (I (q:Int)) rfl DW (λw' _=>by go_simp;rw[lj];omega) ?_;refine tk 3 (I (n:Int)) rfl DW (λ_ _=>kF) ?_;refine tk 4 (I (r:Int)) rfl DW (λw' _=>by go_simp) ?_;refine tk 5 (I (48+(r:Int))) rfl DW (λw' _=>by go_simp;rw[lj];omega) ?_;refine tk 6 (.int .u8 (48+(r:Int))) rfl DW (λw' _=>by go_simp;rw[IntKind.wrap_u8];omega) ?_;have zd:=DW.size;have kX:∀(w':Wd)(s:bA) (b:UInt8),s.size<=k+1->Bl w w'->Sg (k+1+1) w (rT (.string (s++⟨#[b]⟩))) w':=λw' s b h1 h2=>⟨_,rfl,by rw[rV];exact Nat.succ_le_succ h1,h2⟩;refine gT 2 7 rfl rfl (lC rfl kF ((K.o wd).mono ?_)) (iL (sX (sY wd.1.size 0) 1 1) (wd.alloc (.cells #[.int .u8 (48+(r:Int))] 5)) rfl kF gG ?_)
  ·rintro e w1 ⟨s,rfl,hs,hb1⟩
   have B1:Bl w w1:=DW.trans (hb1.mono DW.size);have z1:=B1.size;have hl:¬(9223372036854775807<s.size+1):=oM;refine⟨_,rfl,B1,tv 7 (sX (sY w1.1.size 0) 1 1) (w1.alloc (.cells #[.int .u8 (48+(r:Int))] 5)) rfl rfl kF gG (tv 8 _ _ rfl rfl (cv hu _ rfl kF (Bx.new w1 _ 5)) gG ?_)⟩;exact XH
  have B5:Bx (wd.alloc (.cells #[.int .u8 (48+(r:Int))] 5)) wd.1.size #[.int .u8 (48+(r:Int))] 5:=Bx.new wd _ _;have DA:Bl w (wd.alloc (.cells #[.int .u8 (48+(r:Int))] 5)):=gG;generalize wd.alloc _=wa at B5 DA ⊢;generalize wd.1.size=pd at B5 ⊢;refine rcl 2 8 96 (.string ⟨#[u]⟩) #[I (q:Int)] rfl rfl rfl rfl DA kF (cv hu (.tmp 23) rfl kF B5) kF ((K.o wa).mono ?_);rintro e w1 ⟨s,rfl,hs,hb1⟩;have B1:Bl w w1:=DA.trans (hb1.mono DA.size);have hl:¬(9223372036854775807<s.size+1):=oM;refine⟨_,rfl,B1,tv 8 (.string ⟨#[u]⟩) _ rfl rfl (cv hu (.tmp 23) rfl kF (B5.below hb1)) B1 ?_,?_⟩
  all_goals exact XH
end
section
def DO:prog.underlying 114=a_ (.slice 5):=kF
def byc{ys:lJ}{y:Va}(h:y∈Lib.byteCells ys):y.oneCell'=b_:=by
 obtain⟨z,_,rfl⟩:=mu.1 h;rfl
def Ob(B:Nat)(w:Wd)(v:Va)(n:Nat):Prop:=∃bs:lJ,bs.length=n/\w.ownsRow B 5 1 v n (Lib.byteCells bs)
def Rb(w:Wd)(u:Va)(m:Nat):Prop:=∃(ys:lJ)(b c:Nat),ys.length=m/\u=sX (sY b 0) m c/\∀j y,(Lib.byteCells ys)[j]? = a_ y->w.cell? (Y b j)=a_ y
section
variable {B n m:Nat} {w w':Wd} {u v:Va}
def Ob.form(h:Ob B w v n):∃x y,v=sX x n y:=by
 obtain⟨bs,hl,h⟩:=h;rcases h.2 with ⟨e,h0⟩|⟨g,cp,cur,e,_⟩
 ·exact⟨c_,0,by rw[h0];exact e⟩
 exact⟨_,_,e⟩
def Ob.below(h:Ob B w v n)(hb:Bl w w'):Ob B w' v n:=by
 obtain⟨bs,hl,h1,h⟩:=h;exact⟨bs,hl,h1,h.imp id λ⟨g,cap,cur,e,h1,h2,h3⟩=>⟨g,cap,cur,e,h1,(hb.block g (uB.1 h2).1).trans h2,h3⟩⟩
def Ob.emp:Ob w.1.size (w.alloc (.cells #[] 5)) (sX (sY w.1.size 0) 0 0) 0:=⟨[],rfl,zk w #[] 0 (jR _) J8 rfl⟩
def Rb.one(x:UInt8){z:Int}(hz:z=x.toNat):Rb (w.alloc (.cells #[.int .u8 z] 5)) (sX (sY w.1.size 0) 1 1) 1:=⟨[x],_,_,rfl,rfl,λj y hj=>by
 match j,hj with
 |0,hj=>simp[Lib.byteCells] at hj;subst hj;simp[go_sem,hz]⟩
def anT(sx:bA)(w:Wd):∃u w',(convert 9 114 (.string sx)).run prog w=.ok u w'/\Rb w' u sx.size/\Bl w w':=by
 refine⟨_,_,run_bytes_of_string w 9 114 5 sx kF kF kF,⟨sx.data.toList,_,_,by rw[sP],rfl,λj y hj=>?_⟩,(jD _ _).drew.alloc (jR _) _⟩;have h0:=PO w.drew (.cells (bytesRow sx (grownCap w sx.size 0 5)) 5 ((bytesRow sx (grownCap w sx.size 0 5)).size,(bytesRow sx (grownCap w sx.size 0 5)).size+1));refine(cell_of_row _ _ j _ 5 _ h0).trans ?_;unfold Lib.byteCells at hj;unfold bytesRow;rw[qo] at hj;obtain⟨z,hz,rfl⟩:=xG.1 hj;have eI:=(gQ.1 hz).1;rw[Array.getElem?_append_left (by simpa using eI),Array.getElem?_map,show sx.data[j]? = a_ z by simpa using hz];rfl
def GV{ops:Array Oper}{rest:List Oper}{o:Oper}{a:Act}{Q:Exit->Act->Wd->Prop}(hg:o.guard=c_)(s x:Operand)
  (gO:o.op=Op.call { callee:=Callee.builtin Builtin.append,args:=#[s,x],argTypes:=#[114,114] }) (hs:a.eval s=v) (hx:a.eval x=u) (h:Ob B w v n) (hu:Rb w u m) (kU:n+m<=16777216) (hB:B<=w.1.size)
  (hK:∀x' y' w',Ob B w' (sX x' (n+m) y') (n+m)->Below B w w'->wpList prog ops Q rest (a.put o.dst (sX x' (n+m) y')) w'):wpList prog ops Q (o::rest) a w:=by
 obtain⟨i0,hi,iC,gy,iS⟩:∃i,prog.info? 5=a_ i/\i.zero=a_ (.int .u8 0)/\i.size=1/\i.bytes=1:=info_parts kF;obtain⟨bs,hl,h⟩:=h;obtain⟨ys,b,cap,hm,rfl,hc⟩:=hu;have key:∃v' w',(Builtin.append_ #[114,114] o.type #[v,sX (sY b 0) m cap]).run prog w=.ok v' w'/\Ob B w' v' (n+m)/\Below B w w':=by
  by_cases h0:m=0
  ·subst h0
   refine⟨v,w,?_,⟨bs,hl,h⟩,jD _ _⟩;rcases h.2 with ⟨rfl,h0⟩|⟨g,cp,cur,rfl,_,_,zP,_⟩
   ·simp[Builtin.append_,Bn DO,sizeOf,typeInfo,hi,Builtin.lenOf,Builtin.firstCells,loadCells,loadCellsFrom]
   simp[Builtin.append_,Bn DO,sizeOf,typeInfo,hi,Builtin.lenOf,Builtin.firstCells,loadCells,loadCellsFrom,zP,storeCells]
  have⟨v',w',hr,ho,fR,_⟩:=PN (P:=prog) w B 114 o.type 5 i0 (.int .u8 0) 1 1 DO hi iC gy iS rfl dC v n _ h (Y b 0) m cap (Lib.byteCells ys) (by simp[Lib.byteCells,hm])
   (λj y hj=>by rw[vN,gY];exact hc j y hj) (λy=>byc) J8 oM hB
  exact⟨v',w',hr,⟨bs++ys,by simp[hl,hm],by simpa[Lib.byteCells] using ho⟩,(jD _ _).grown fR hB (λk hk=>(h.lt k hk).1)⟩
 obtain⟨v',w',hr,ho,hb⟩:=key;obtain⟨x',y',rfl⟩:=ho.form;refine Bm hg λK tS=>?_;unfold Oper.wp;simp[execOp,gO,resolve,invoke,builtin,hs,hx,hr,Result.andThen]
 exact tS _ _ (hK _ _ w' ho hb)
def Ob.str(h:Ob B w v n):∃s:bA,s.size=n/\(convert 114 9 v).run prog w=.ok (.string s) w:=by
 obtain⟨bs,rfl,h⟩:=h;rcases hh:h.2 with ⟨e,h0⟩|⟨g,cp,cur,e,hB,hg,h1,h2,h3,h4⟩
 ·rw[e,h0]
  exact⟨_,rfl,run_convert_bytes_nil w 114 5 kF kF 0 0 9 kF⟩
 rw[e];refine⟨_,?_,P4 (P:=prog) w 114 5 kF kF g 0 bs.length cp (bs.map (λb=>(b.toNat:Int))) sI (λi hi=>by
  rw[gY,cell_of_row w g i cur 5 (0,0) hg];have e2:(cur.toList.take (bs.length * 1))[i]? = (Lib.byteCells bs)[i]?:=by rw[h4]
  rw[Ix oM] at e2;rw[<- Array.getElem?_toList,e2];simp[Lib.byteCells,List.getD,hi]) 9 kF⟩
 rw[sP];simp[strOfNums]
end
end
def CG(N q:Nat)(w:Wd)(e:Ending)(w':Wd):Prop:=∃s:bA,e=rT (.tuple #[.string s,I (q:Int)])/\s.size<=N/\Below w.1.size w w'
def aaE(h:ρ:=by
 go_wp2_with fail;refine(K.o _).mono ?_;rintro e w1 ⟨t,rfl,ht,hb1⟩;have⟨u,w2,hr,hR,hb2⟩:=anT t w1;have b2:=bw.trans ((hb1.trans (hb2.mono hb1.size)).mono z0);have O2:=O.o.below (bv hb2 hb1);have z2:w.1.size+1<=w2.1.size:=by have:=b2.size;have:=kG.o;omega
 replace O2:=zH O2;replace hR:=zH hR;replace b2:=zH b2;clear hb1 hb2 bw O K hc z0;go_wp2_with (at_builtin;first | refine GV rfl (.tmp 57) (.tmp 64) rfl rfl rfl O2.o hR.o oM z2 ?_ | refine GV rfl (.tmp 47) (.tmp 55) rfl rfl rfl O2.o hR.o oM z2 ?_)
 intro x' y' W O3 b3;replace O3:=zH O3;replace b3:=zH (b2.o.trans b3);clear O2 hR hr b2;go_wp2;go_roundw
 case rel=>exact⟨k+1,_,0,_,_,oM,gN,rfl,oM,O3,b3⟩
 simp[intOf];omega):ρ:=h
def aaD(h:ρ:=by
 by_cases x0:x<0
 ·have K:Hid (∀w,Cp 96 #[I (-x)] w (Sg 10 w)):=λw=>by
   have:=Xt 9 (-x).toNat w oM oM;rwa [kl oM] at this
  go_wp2_with (at_builtin;refine GV rfl (.tmp 44) (.tmp 45) rfl rfl rfl (O.o.below gG) (Rb.one 95 rfl) oM J2 ?_)
  intro x' y' W O3 b3;replace bw:=bw.trans (AY gG b3);replace z0:w.1.size+1<=W.1.size:=by have:=bw.size;have:=kG.o;omega
  replace cx:=tY.o _ bw;replace cn:=hc _ bw;replace O:=zH O3;clear O3 b3;exact aaE
 have K:Hid (∀w,Cp 96 #[I x] w (Sg 10 w)):=λw=>by
  have:=Xt 9 x.toNat w oM oM;rwa [kl oM] at this
 have x1:decide (x<0)=d_:=fH x0;exact aaE):ρ:=h
def agk(b o cap L i:Nat)(s:Sv)(an:oA)(cn:Nat)(w:Wd)(hi:i<L)(hL:L<=1048576)(hk:s.k=1)(hb:b<w.1.size)(eL:jE w.1.size w b (o+i * 7) s an cn)(hv:∀x∈s.eF,-3000000000<=x/\x<=3000000000)(hl:s.eF.length<=1000):
  Cp 69 #[sX (sY b o) L cap,I i] w (CG 32768 0 w):=by
 obtain⟨c0,c1,c2,c3,c4,c5,c6,rD⟩:=eL;rw[hk] at c0;have⟨W0,nO⟩:∃W0,w.alloc (.cells #[I 1,sX an s.eF.length cn,.string (Pl.ba s.nm),I s.fn.k,I s.fn.a,I s.fn.b,.string (Pl.ba s.fn.nm)] 118)=W0:=⟨_,rfl⟩;have kG:W0.1.size=w.1.size+1:=by rw[<- nO];simp
 have tZ:Hid (Bl w W0):=by show Below _ _ _;rw[<- nO];go_grown
 have tY:Hid (∀wr,Below (w.1.size+1) W0 wr->cL wr w.1.size 1 (sX an s.eF.length cn)):=λwr h=>(h.cell (p:=(Y w.1.size 1)) (A6 _)).trans (by rw[<- nO];simp[go_sem]);have HNC:Hid (∀k,k<s.eF.length->∃x nb no,-3000000000<=x/\x<=3000000000/\an=sY nb no/\∀wr,Below (w.1.size+1) W0 wr->cL wr nb (no+k) (I x)):=λk hk=>by
  rcases rD with e|⟨nb,no,h1,h2,h3⟩
  ·rw[e] at hk;cases hk
  exact⟨s.eF[k],nb,no,(hv _ (lh hk)).1,(hv _ (lh hk)).2,h2,λwr h=>(h.cell (p:=(Y nb (no+k))) (Nat.lt_succ_of_lt h1)).trans ((tZ.o.cell (p:=(Y nb (no+k))) h1).trans (h3 k _ (fw hk)))⟩
 have OE:Hid (Ob (w.1.size+1) (W0.alloc (.cells #[] 5)) (sX (sY (w.1.size+1) 0) 0 0) 0/\Below (w.1.size+1) W0 (W0.alloc (.cells #[] 5))):=by rw[<- kG];exact⟨Ob.emp,gG⟩
 have Mo:=zH nO;clear nO rD hv hk;replace kG:=zH kG;generalize Pl.ba s.nm=nm,Pl.ba s.fn.nm=pR,s.fn.k=fk,s.fn.a=fa,s.fn.b=fb,s.eF.length=n at *;go_enter func69,ntmps69;go_wp2_with fail;rw[Mo.o];go_loopw [7,8] (λov iv wr=>∃k m x y:Nat,∃xo,k<=n/\iv=I k/\ov=sX xo m y/\m<=13 * k/\Hid (Ob (w.1.size+1) wr (sX xo m y) m)/\Hid (Below (w.1.size+1) W0 wr)) (λ_ iv _=>n-(intOf iv).toNat)
 case atStart=>exact⟨0,0,0,0,_,vZ _,rfl,rfl,vZ _,OE.o.1,OE.o.2⟩
 rename Wd=>wo
 obtain⟨k,m,-,y,xo,hk,rfl,rfl,hm,O,BB⟩:=hrel;have qC:=BB.o.size;by_cases eI:k<n
 rotate_left 1
 ·obtain rfl:k=n:=oM
  have cx:=tY.o _ BB.o;obtain⟨st,hs,hc⟩:=O.o.str;clear tY HNC;go_wp2;go_ret2
  exact⟨_,rfl,oM,tZ.o.trans (BB.o.mono oM)⟩
 obtain⟨x,nb,no,h1,h2,rfl,hc⟩:=HNC.o k eI;have cx:=tY.o _ BB.o;have cn:=hc _ BB.o;have bw:=BB.o;have z0:w.1.size+1<=wo.1.size:=by have:=kG.o;omega
 by_cases k0:k=0
 ·have t0:decide (0<k)=d_:=by rw[Bk];omega
  clear k0;exact aaD
 have t0:0<k:=oM;clear k0;go_wp2_with (at_builtin;refine GV rfl (.tmp 35) (.tmp 36) rfl rfl rfl (O.o.below gG) (Rb.one 32 rfl) oM J2 ?_)
 intro x' y' W O3 b3;replace bw:=bw.trans (AY gG b3);replace z0:w.1.size+1<=W.1.size:=by have:=bw.size;have:=kG.o;omega
 replace cx:=tY.o _ bw;replace cn:=hc _ bw;replace O:=zH O3;clear O3 b3;exact aaD
def ain{s t:bA}:s.toList=t.toList ↔ s=t:=by rw[uz,uz];exact(xt s t).symm
def BI(k1 k2 k3 k4 k5 k6:Int)(s t:bA)(w:Wd):(Op.equalIn 10000 116 (.agg #[I k1,I k2,I k3,.string s]) (.agg #[I k4,I k5,I k6,.string t])).run prog w=.ok (decide (k1=k4) && decide (k2=k5) && decide (k3=k6) && decide (s=t)) w:=by
 have u3:=underlying3;have a3:=isAgg3;have z3:=sizeOf3;have u9:=underlying9;have a9:=isAgg9;have z9:=sizeOf9;have hS:prog.underlying 116=a_ (.struct (prog.fieldsOf 116)):=kF;have hp:prog.stoodInHeld 116=d_:=kF;rw[show (10000:Nat)=9999+1 from rfl,P3 w 9999 116 _ _ hS hp];simp only[Program.fieldsOf,underlying116];go_simp;by_cases h1:k1=k4 <;> by_cases h2:k2=k5 <;> by_cases h3:k3=k6 <;> by_cases h4:s=t <;> simp[h1,h2,h3,h4,ain]
section
open Go.RowKit Go.Maps
open World renaming setCell->ez,alloc->ew
open List renaming range->eA,replicate->eE
open Option renaming some->a_,none->c_
open Bool renaming true->b_,false->d_
variable {t e:TypeId}
def IN(v:Va):Option (DataW Va × List MemPlace):=a_ (.held v,[])
def VH{v v':Va}{ps:List MemPlace}(h:IN v=a_ (.held v',ps)):v=v':=by
 simp[IN] at h;exact h.1
section
variable {P:Program} {k:TypeId} {w w':Wd} {b n:Nat} {F:lJ->Option Va}
def Om(P:Program)(k:TypeId)(w:Wd)(b n:Nat)(F:lJ->Option Va):Prop :=
 ∃D:DataW Va,w.ownsMap P k IN b n D/\∀x,match F x with
  |some v=>Maps.has D (.string x)=b_/\∀z,D.atKey (.string x) z=.held v
  |none=>Maps.has D (.string x)=d_/\∀z,D.atKey (.string x) z=z
def Om.new(P:Program)(k:TypeId)(w:Wd):Om P k (w.alloc (.map #[] 0)) w.1.size 0 λ_=>c_:=⟨.map [],World.ownsMap_made w P k IN,λx=>⟨rfl,λ_=>rfl⟩⟩
def Om.lt(h:Om P k w b n F):b<w.1.size:=let ⟨_,h,_⟩:=h;World.ownsMap.lt h
def Om.eX(h:Om P k w b n F)(e:w'.1[b]? = w.1[b]?):Om P k w' b n F:=by
 obtain⟨D,⟨es,cl,hb,r⟩,h⟩:=h;exact⟨D,⟨es,cl,e.trans hb,r⟩,h⟩
def Om.look(h:Om P k w b n F)(hk:P.underlying k=a_ .string)(ht:P.underlying t=a_ (.map k e)){z:Va}(hz:(zeroValue e).run P w=.ok z w)(x:lJ)(hx:x.length<=maxLen):
  (Instr.lookup t (.map (a_ b)) (.string (Pl.ba x)) b_).run P w=.ok (.tuple #[(F x).getD z,.bool (F x).isSome]) w:=by
 obtain⟨D,ho,h⟩:=h;have⟨v,ps,hr,hv⟩:=World.ownsMap.look_ok ho (string_keyed hk) ht hz (zd:=.held z) rfl (Z2 hk (s:=Pl.ba x) (by simpa[Pl.ba,ByteArray.size] using hx));rw[hr];have h:=h x;have e:(Pl.ba x).data.toList=x:=by simp[Pl.ba]
 rw[e] at hv ⊢
 cases hf:F x with
 |some u=>rw[hf] at h;rw[h.2] at hv;rw[VH hv,h.1];rfl
 |none=>rw[hf] at h;rw[h.2] at hv;rw[VH hv,h.1];rfl
def Om.store(h:Om P k w b n F)(hk:P.underlying k=a_ .string)(ht:P.underlying t=a_ (.map k e))(hn:n<maxLen)(x:lJ)(hx:x.length<=maxLen)(v:Va):
  ∃w',(Instr.mapUpdate t (.map (a_ b)) (.string (Pl.ba x)) v).run P w=.ok () w'/\Om P k w' b (n+1) (λy=>if y=x then a_ v else F y)/\w.mapTurned w' b:=by
 obtain⟨D,ho,h⟩:=h;have e:(Pl.ba x).data.toList=x:=by simp[Pl.ba]
 have⟨w',hr,ju,ht⟩:=World.ownsMap.store ho (string_keyed hk) ht hn (d:=.held v) (Z2 hk (s:=Pl.ba x) (by simpa[Pl.ba,ByteArray.size] using hx)) (val:=v) rfl;rw[e] at ju;refine⟨w',hr,⟨_,ju,λy=>?_⟩,ht⟩;by_cases hy:y=x
 ·subst hy
  simp only[kI];exact⟨has_put_same ho.isMap (k:=.string y) trivial _,λz=>atKey_put_same ho.isMap (k:=.string y) trivial _ z⟩
 have gu:Lit.string y ≠ .string x:=λe=>hy (by injection e);simp only[eB hy];have h:=h y
 cases hf:F y with
 |some u=>rw[hf] at h;exact⟨(has_put_other gu _).trans h.1,λz=>(atKey_put_other gu _ z).trans (h.2 z)⟩
 |none=>rw[hf] at h;exact⟨(has_put_other gu _).trans h.1,λz=>(atKey_put_other gu _ z).trans (h.2 z)⟩
end
end
section
variable {c:List Sv}{t:Nd Sv}{n:Nat}
namespace Pl
section
variable (k1:fS->Ar->Int × Ar) (k2:fS->Ar->Ar->Int × Ar) (L:Lm) (nm:lJ->Option Ar) (call:lJ->List Ar->Ms->Rs)
def XU(r:Rs)(k k':Ar->Ms->Rs):jl (jl r k) k'=jl r λa m=>jl (k a m) k':=by obtain⟨q,m⟩:=r;cases q <;> rfl
def al6(r:Rs):jl r (λa m=>(.ok a,m))=r:=by obtain⟨q,m⟩:=r;cases q <;> rfl
def NU(m:Ms)(k:Ms->Rs)(k':Ar->Ms->Rs):jl (iQ L m k) k'=iQ L m λm=>jl (k m) k':=by unfold iQ;split <;> rfl
def vO(s:Sv)(fr:List Ar)(m:Ms):Rs:=match fr with
 |[]=>tU L nm s m
 |[w]=>qG k1 L call s w m
 |a::w::_=>mi k2 L call s a w m
def r_:List Sv->List Ar->Ms->Rs
 |[],st,m=>match st with
  |a::_=>(.ok a,m)
  |[]=>(.error (0,0),m)
 |s::c,st,m=>iQ L m λm=>jl (vO k1 k2 L nm call s (st.take (ar s)) m) λa m=>r_ c (a::st.drop (ar s)) m
def agb:∀(t:Nd Sv),t.Wf ar->(∀s∈t.post,ar s<=2)->∀(c:List Sv)(st:List Ar) (m:Ms),r_ k1 k2 L nm call (t.post++c) st m=jl (oE k1 k2 L nm call t m) λa m=>r_ k1 k2 L nm call c (a::st) m:=by
 intro t;induction t with
 |«at» s =>
  intro w h c st m;simp only[Nd.Wf] at w;simp[Nd.post,r_,oE,NU,w,vO]
 |one s r ih =>
  intro w h c st m;simp only[Nd.Wf] at w;simp only[Nd.post,vG,oE,XU];rw[ih w.2 λx hx=>h x JY];congr 1
  funext a m
  simp[r_,w.1,NU,vO]
 |two s l r RW RU =>
  intro w h c st m;simp only[Nd.Wf] at w;have h2:ar s=2:=by have:=h s (by simp[Nd.post]);omega
  simp only[Nd.post,vG,oE,XU];rw[RU w.2.2 λx hx=>h x JY];congr 1
  funext a m
  rw[RW w.2.1 λx hx=>h x JY];congr 1
  funext b m
  simp[r_,h2,NU,vO]
def QJ(s:Sv):ar s<=2:=by
 unfold ar;repeat' split
 all_goals omega
def alK(h:nd c c.length=a_ (t,0)):run ar c []=a_ [t]:=by
 rw[NR];unfold nd at h;rw[km] at h;have⟨⟨a,q⟩,e,e2⟩:=xG.1 h;simp only[kH,lP] at e2;rw[e,e2.1,e2.2]
def ahE(h:nd c c.length=a_ (t,0))(m:Ms):r_ k1 k2 L nm call c [] m=oW k1 k2 L nm call c m:=by
 have h1:=xy h;rw[km,A7,qn] at h1;unfold oW;rw[h];simp only;have:=agb k1 k2 L nm call t h1.2.2.2 (λs _=>QJ s) [] [] m;rw[rU,<- h1.2.2.1] at this;rw[this];exact al6 _
def sO(c:List Sv)(n:Nat):Prop:=∃(ts:List (Nd Sv)) (t:Nd Sv),ts.length=n/\run ar c ts=a_ [t]
def sO.start(h:nd c c.length=a_ (t,0)):sO c 0:=⟨[],t,rfl,alK h⟩
def sO.step{s:Sv}(h:sO (s::c) n):ar s<=n/\sO c (n-ar s+1):=by
 obtain⟨ts,t,rfl,h⟩:=h;unfold run at h;split at h
 ·next h0=>exact⟨oM,_,t,by simp[h0],h⟩
 split at h
 ·next h1 =>
  cases ts with
  |nil=>cases h
  |cons x ts=>exact⟨by simp;omega,_,t,by simp[h1],h⟩
 have:=QJ s;have h2:ar s=2:=oM;match ts,h with
 |[],h=>cases h
 |[_],h=>cases h
 |a::b::ts,h=>exact⟨by simp;omega,_,t,by simp[h2],h⟩
def sO.nil(h:sO [] n):n=1:=by
 obtain⟨ts,t,rfl,h⟩:=h;simp only[run,kh] at h;rw[h];rfl
end
end Pl
end
open Pl (Ar)
abbrev iI(k x:Int):PanicEntry:={ v:=.iface 74 (.agg #[I k,I x]),recovered:=d_ }
abbrev gn(L:Lm)(m:Ms)(dp:Int):aV:=#[I L.f,I L.c,.bool L.r,I L.s,I m.f,I m.c,I m.s,I dp]
def yP(c:Int)(w:Wd):Cp 59 #[.bool d_,I c] w λe w'=>e=rT (.tuple #[])/\w'=w:=by
 go_enter func59,ntmps59;exact mM
def yN(c:Int)(w:Wd):Cp 59 #[.bool b_,I c] w λe w'=>e=.panicked [iI 2 c]/\w'=w:=by
 go_enter func59,ntmps59;go_wp2;exact⟨rfl,rfl,rfl⟩
def Vl(c:Int)(w:Wd):Cp 116 #[.bool d_,I c] w λe w'=>e=rT (.tuple #[])/\w'=w:=by
 go_enter func116,ntmps116;exact mM
def U1(c:Int)(w:Wd):Cp 116 #[.bool b_,I c] w λe w'=>e=.panicked [iI c 0]/\w'=w:=by
 go_enter func116,ntmps116;go_wp2;exact⟨rfl,rfl,rfl⟩
section
def ic(w:Wd)(b o:Nat)(v:Va):w.grownBy (w.setCell (Y b o) v) (a_ b):=⟨rfl,rfl,rfl,sI,λk _ hk=>zC _ _ _ _ (λe=>hk (by rw[e]))⟩
def iU{w w':Wd}{r:Option Nat}(k:Bl w w'):w.grownBy w' r:=⟨k.os,k.tape,k.output,k.size,λb hb _=>k.block b hb⟩
def C4{w w':Wd}{r:Option Nat}(h:w.drew.grownBy w' r):w.grownBy w' r:=⟨h.os,h.tape,h.output,h.size,h.block⟩
structure ib(L:Lm)(m:Ms):Prop where
 f0:0<=m.f
 f1:m.f<=L.f
 c0:0<=m.c
 c1:m.c<=L.c
 s0:0<=m.s
 s1:m.s<=2147483647
def gI(K:Ks)(P:nK)(M:Nat)(L:Lm)(dp:Int)(w:Wd)(r:Pl.Rs)(e:Ending)(w':Wd):Prop:=w.grownBy w' (a_ M)/\ib L r.2/\match r.1 with
 |.ok a=>Bx w' M (gn L r.2 dp) 72/\∃u0 u1,e=rT (.agg #[u0,u1])/\RO K (λb=>P b\/w.1.size<=b) w' u0 u1 a
 |.error (k,x)=>e=.panicked [iI k x]/\∃s',Bx w' M (gn L ⟨r.2.f,r.2.c,s'⟩ dp) 72
section
variable {L:Pl.Lm} {m:Pl.Ms} {dp:Int} {w:Wd} {M:Nat}
def ac8(h:Bx w M (gn L m dp) 72)(hm:ib L m)(hf:L.f<=m.f):Cp 88 #[pT M] w λe w'=>e=.panicked [iI 3 0]/\Bl w w':=by
 obtain⟨f,c,s⟩:=m;obtain⟨lf,lc,lr,ls⟩:=L;have e:lf=f:=by have:=hm.f1;simp only at hf this;omega
 subst e;obtain⟨d0,f0,z0⟩:=h.all;have KE:=zH (U1 3);go_enter func88,ntmps88;go_wp2_with fail;refine fT (S:=λw'=>cL w' M 4 (I lf)/\cL w' M 0 (I lf)) kF ⟨d0 4,d0 0⟩ (λhS=>?_);refine tk 0 (pT M) rfl hS (λ_ _=>kF) ?_;refine tk 1 (pT M) rfl hS (λ_ _=>kF) ?_;refine tk 2 (.pointer (sY M 4)) rfl hS (λ_ _=>kF) ?_;refine tk 3 (I lf) rfl hS (λw h=>by obtain⟨h0,h1⟩:=h;go_simp) ?_;refine tk 4 (pT M) rfl hS (λ_ _=>kF) ?_;refine tk 5 (pT M) rfl hS (λ_ _=>kF) ?_;refine tk 6 (pT M) rfl hS (λ_ _=>kF) ?_;refine tk 7 (pT M) rfl hS (λ_ _=>kF) ?_;refine tk 8 (I lf) rfl hS (λw h=>by obtain⟨h0,h1⟩:=h;go_simp) ?_;refine tk 9 (.bool b_) rfl hS (λ_ _=>by go_simp) ?_;refine tc 10 _ _ rfl rfl kF ((KE.o _).mono ?_);rintro e w' ⟨rfl,rfl⟩;exact .inr ⟨_,rfl,rfl,rfl,gG⟩
def ac7(h:Bx w M (gn L m dp) 72)(hm:ib L m)(hL:L.f<=100000)(hf:¬L.f<=m.f):Cp 88 #[pT M] w λe w'=>e=rT (.tuple #[])/\w.grownBy w' (a_ M)/\Bx w' M (gn L ⟨m.f+1,m.c,m.s⟩ dp) 72:=by
 obtain⟨f,c,s⟩:=m;obtain⟨lf,lc,lr,ls⟩:=L;have HH:=zH h;have h0:0<=f:=hm.f0;have h1:f<=100000:=IC hm.f1 hL;have eb:(f == lf)=d_:=by simp only at hf;rw[gR];omega
 obtain⟨d0,f0,z0⟩:=h.all;have KE:=zH (Vl 3);go_enter func88,ntmps88;go_wp2_with fail
 first | go_region_with (go_at_call 116;refine(KE.o _).mono ?_;rintro e w' ⟨rfl,rfl⟩) | (go_at_call 116;refine(KE.o _).mono ?_;rintro e w' ⟨rfl,rfl⟩)
 all_goals
  go_wp2;go_returns
  exact⟨rfl,JI,HH.o.set 4 _⟩
def acz(h:Bx w M (gn L m dp) 72)(hm:ib L m)(hL:L.c<=100000)(n:Nat)(hn:n<=1000)(hf:L.c<m.c+n):Cp 120 #[pT M,I n] w λe w'=>e=.panicked [iI 4 0]/\Bl w w':=by
 obtain⟨f,c,s⟩:=m;obtain⟨lf,lc,lr,ls⟩:=L;have h0:0<=c:=hm.c0;have h1:c<=100000:=IC hm.c1 hL;have hw:IntKind.i64.wrap (c+n)=c+n:=by go_arith
 have eb:decide (lc<c+n)=b_:=fM hf;obtain⟨d0,f0,z0⟩:=h.all;have KE:=zH (U1 4);go_enter func120,ntmps120;go_wp2_with fail;refine fT (S:=λw'=>cL w' M 5 (I c)/\cL w' M 1 (I lc)) kF ⟨d0 5,d0 1⟩ (λhS=>?_);refine tk 0 (pT M) rfl hS (λ_ _=>kF) ?_;refine tk 1 (pT M) rfl hS (λ_ _=>kF) ?_;refine tk 2 (.pointer (sY M 5)) rfl hS (λ_ _=>kF) ?_;refine tk 3 (I c) rfl hS (λw h=>by obtain⟨h0,h1⟩:=h;go_simp) ?_;refine tk 4 (I n) rfl hS (λ_ _=>kF) ?_;refine tk 5 (I (c+n)) rfl hS (λ_ _=>by go_simp) ?_;refine tk 6 (pT M) rfl hS (λ_ _=>kF) ?_;refine tk 7 (pT M) rfl hS (λ_ _=>kF) ?_;refine tk 8 (pT M) rfl hS (λ_ _=>kF) ?_;refine tk 9 (.pointer (sY M 1)) rfl hS (λ_ _=>kF) ?_;refine tk 10 (I lc) rfl hS (λw h=>by obtain⟨h0,h1⟩:=h;go_simp) ?_;refine tk 11 (.bool b_) rfl hS (λ_ _=>by go_simp) ?_;refine tc 12 _ _ rfl rfl kF ((KE.o _).mono ?_);rintro e w' ⟨rfl,rfl⟩;exact .inr ⟨_,rfl,rfl,rfl,gG⟩
def acy(h:Bx w M (gn L m dp) 72)(hm:ib L m)(hL:L.c<=100000)(n:Nat)(hn:n<=1000)(hf:¬L.c<m.c+n):Cp 120 #[pT M,I n] w λe w'=>e=rT (.tuple #[])/\w.grownBy w' (a_ M)/\Bx w' M (gn L ⟨m.f,m.c+n,m.s⟩ dp) 72:=by
 obtain⟨f,c,s⟩:=m;obtain⟨lf,lc,lr,ls⟩:=L;have HH:=zH h;have h0:0<=c:=hm.c0;have h1:c<=100000:=IC hm.c1 hL;have hw:IntKind.i64.wrap (c+n)=c+n:=by go_arith
 have eb:decide (lc<c+n)=d_:=fH hf;obtain⟨d0,f0,z0⟩:=h.all;have KE:=zH (Vl 4);go_enter func120,ntmps120;go_wp2_with fail
 first | go_region_with (go_at_call 116;refine(KE.o _).mono ?_;rintro e w' ⟨rfl,rfl⟩) | (go_at_call 116;refine(KE.o _).mono ?_;rintro e w' ⟨rfl,rfl⟩)
 all_goals
  go_wp2;go_returns
  exact⟨rfl,JI,HH.o.set 5 _⟩
def acx(h:Bx w M (gn L m 50) 72):Cp 153 #[pT M] w λe w'=>e=.panicked [iI 2 13]/\Bl w w':=by
 obtain⟨d0,f0,z0⟩:=h.all;have KE:=zH (yN 13);go_enter func153,ntmps153;go_wp2_with fail
 first | go_region_with (go_at_call 59;refine(KE.o _).mono ?_;rintro e w' ⟨rfl,rfl⟩;exact⟨rfl,rfl,gG⟩) | (go_at_call 59;refine(KE.o _).mono ?_;rintro e w' ⟨rfl,rfl⟩;exact⟨rfl,rfl,gG⟩)
def acw(h:Bx w M (gn L m dp) 72)(h0:0<=dp)(h1:dp<50):Cp 153 #[pT M] w λe w'=>e=rT (.tuple #[])/\w.grownBy w' (a_ M)/\Bx w' M (gn L m (dp+1)) 72:=by
 have HH:=zH h;have eb:(dp == 50)=d_:=by rw[gR];omega
 obtain⟨d0,f0,z0⟩:=h.all;have KE:=zH (yP 13);go_enter func153,ntmps153;go_wp2_with fail
 first | go_region_with (go_at_call 59;refine(KE.o _).mono ?_;rintro e w' ⟨rfl,rfl⟩) | (go_at_call 59;refine(KE.o _).mono ?_;rintro e w' ⟨rfl,rfl⟩)
 all_goals
  go_wp2;go_returns
  exact⟨rfl,JI,HH.o.set 7 _⟩
end
end
section
variable {ao:oA}{cap:Nat}
structure El(st et z:Nat):Prop where
 und:prog.underlying st=a_ (.slice et)
 ex:∃i zr bs,prog.info? et=a_ i/\i.zero=a_ zr/\i.size=z/\i.bytes=bs/\zr.cells.size=z/\bs<=1000/\0<z
def El.mk'{st et z bs:Nat}{zr:Va}(hu:prog.underlying st=a_ (.slice et))(hi:(prog.info? et).map (λi=>(i.zero,i.size,i.bytes))=a_ (a_ zr,z,bs))(hz:zr.cells.size=z)(hb:bs<=1000)(h0:0<z):El st et z:=by
 have⟨i0,h1,h2,h3,h4⟩:=info_parts hi;exact⟨hu,i0,zr,bs,h1,h2,h3,h4,hz,hb,h0⟩
def Q8:El 56 30 2:=El.mk' (bs:=48) (zr:=.agg nN) underlying56 kF rfl dC dC
def apf:El 55 9 1:=El.mk' (bs:=16) (zr:=.string ByteArray.empty) underlying55 kF rfl dC dC
def apg:El 34 60 4:=El.mk' (bs:=72) (zr:=.agg #[I 0,.string ByteArray.empty,nJ,nJ]) underlying34 kF rfl dC dC
section
variable {st et z:Nat} {B:Nat} {w:Wd} {v:Va} {n:Nat} {xs:List Va}
def Dh(E:El st et z)(h:w.ownsRow B et z v n xs)(b cap:Nat)(news:aV)(hl:news.size=z)
  (hc:∀o,w.cell? (Y b o)=news[o]?) (h1:∀u∈news.toList,u.oneCell'=b_) (kU:n+1<=16777216) (hB:B<=w.1.size) (ty:TypeId) :
  ∃v' w',(Builtin.append_ #[st,st] ty #[v,sX (sY b 0) 1 cap]).run prog w=.ok v' w'/\w'.ownsRow B et z v' (n+1) (xs++news.toList)/\w.grownBy w' v.ownBlock/\mY w v v':=by
 obtain⟨und,i0,zr,bs,hi,iC,gy,iS,hzs,qC,Tw⟩:=E;have⟨v',w',hr,ho,hg,_,wg⟩:=run_append_own_at (P:=prog) w B st ty et i0 zr z bs und hi iC gy iS hzs Tw v n xs h (Y b 0) 1 cap news.toList (by simp[hl])
  (by
   intro j x hj;rw[vN,gY,hc j];simpa using hj)
  h1 J8 (by have:=IF kU qC;omega) hB
 exact⟨v',w',hr,ho,hg,wg⟩
def anG{ops:Array Oper}{rest:List Oper}{o:Oper}{a:Act}{Q:Exit->Act->Wd->Prop}(E:El st et z)(hg:o.guard=c_)(s x:Operand)(gO:o.op=Op.call { callee:=Callee.builtin Builtin.append,args:=#[s,x],argTypes:=#[st,st] })(b cap:Nat)(hs:a.eval s=v)(hx:a.eval x=sX (sY b 0) 1 cap)
  (h:w.ownsRow B et z v n xs) (news:aV) (hl:news.size=z) (hc:∀o,w.cell? (Y b o)=news[o]?) (h1:∀u∈news.toList,u.oneCell'=b_) (kU:n+1<=16777216) (hB:B<=w.1.size)
  (hK:∀v' w',w'.ownsRow B et z v' (n+1) (xs++news.toList)->w.grownBy w' v.ownBlock->mY w v v'->wpList prog ops Q rest (a.put o.dst v') w'):wpList prog ops Q (o::rest) a w:=by
 have⟨v',w',hr,ho,fR,ha⟩:=Dh E h b cap news hl hc h1 kU hB o.type;exact ZI
def rL(h:w.ownsRow B et z v n xs):∃ao cap,v=sX ao n cap:=by
 rcases h.2 with ⟨rfl,rfl⟩|⟨g,cap,_,rfl,_⟩
 ·exact⟨c_,0,rfl⟩
 exact⟨_,cap,rfl⟩
def qi{w':Wd}(h:w.ownsRow B et z v n xs)(k:Kp (λb=>v.ownBlock=a_ b) w w'):w'.ownsRow B et z v n xs :=
 ⟨h.1,h.2.imp id λ⟨g,cap,cur,e,hb,hg,r⟩=>⟨g,cap,cur,e,hb,(k.bk g (by rw[e];rfl) (uB.1 hg).1).trans hg,r⟩⟩
def yT(h:w.ownsRow B et z (sX ao n cap) n xs)(hn:0<n):∃g,ao=sY g 0/\B<=g/\g<w.1.size/\∀j,j<n * z->w.cell? (Y g j)=xs[j]?:=by
 rcases h.2 with ⟨_,rfl⟩|⟨g,cp,cur,e,hb,hg,_⟩
 ·omega
 cases e
 exact⟨g,rfl,hb,(h.lt g rfl).2,λj hj=>h.cellAt j hj⟩
def af0{k:Nat}(h:w.ownsRow B et z (sX ao n cap) n xs)(hk:k<=n)(hz:0<z):w.ownsRow B et z (sX ao k cap) k (xs.take (k * z)):=by
 have hl:=h.1;have hm:k * z<=n * z:=gv z hk;refine⟨by rw[jH];omega,?_⟩;rcases h.2 with ⟨e,rfl⟩|⟨g,cp,cur,e,hb,hg,h1,h2,h3,h4⟩
 ·injection e with e1 e2 e3
  obtain rfl:k=0:=oM;subst e1 e3;exact .inl ⟨rfl,rfl⟩
 cases e
 refine .inr ⟨g,_,cur,rfl,hb,hg,oM,h2,h3,?_⟩;rw[<- h4,Bp,uA hm]
end
end
def sH{P:nK}(v:Va)(zs:lI)(w:Wd)(h:Rw P w v zs)(hl:zs.length<=1048576):Cp 76 #[v] w λe w'=>Bl w w'/\∃x0 y0 x1 y1,e=rT (.agg #[sX x0 1 y0,sX x1 zs.length y1])/\RA (w.1.size<=·) w' (sX x0 1 y0) (sX x1 zs.length y1) ([(zs.length:Int)],zs):=by
 have H:=zH h;obtain⟨x,y,rfl,_⟩:=h;go_enter func76,ntmps76;go_wp2_with fail;refine(lG _ zs _ (H.o.kp (.of gG)) hl).mono ?_;rintro e w1 ⟨hb,u,rfl,ho⟩;obtain⟨x1,y1,rfl⟩:=ho.form;have b0:Bx w1 w.1.size nN 30:=.below (.al (.eK rfl) _) hb;have o1:Oi w.1.size w1 (sX (sY (w.1.size+1) 0) 1 1) [(zs.length:Int)]:=by
  have:=(Oi.one (B:=w.1.size) (w:=w.alloc (.cells nN 30)) sI (zs.length:Int)).kp (.of hb);simpa using this
 have HR:=zH (jA (bv (w:=w) hb) (jA o1 (jA ho (jA (o1.ne b0 dC) (ho.ne b0 dC)))));obtain⟨c0,f0,z0⟩:=b0.all;go_wp2;refine eJ (by simp[results,results76,go_sem,c0];try rfl) rfl ?_;have⟨hb,o1,ho,n1,n2⟩:=HR.o;exact⟨gG,_,_,_,_,rfl,o1.out eY (jR _),ho.out eY J2⟩
def aeM(f c s d:Int)(L:Lm)(v0:Va)(a:oA)(n cp:Nat)(w:Wd)(h0:0<=c)(h1:c<=100000)(hn:n<=1048576)(h:L.c<c+n):Cp 80 #[eW f c s 0 d,jO L,.agg #[v0,sX a n cp]] w (rB (eW f c s 4 d) w):=by
 have:=Vc f c s 0 d L v0 a n cp w h0 h1 hn;rwa [eD rfl,eD h] at this
def aeL(f c s d:Int)(L:Lm)(v0:Va)(a:oA)(n cp:Nat)(w:Wd)(h0:0<=c)(h1:c<=100000)(hn:n<=1048576)(h:¬L.c<c+n):Cp 80 #[eW f c s 0 d,jO L,.agg #[v0,sX a n cp]] w (rB (eW f (c+n) s 0 d) w):=by
 have:=Vc f c s 0 d L v0 a n cp w h0 h1 hn;rwa [eD rfl,eB h] at this
def C9(f c s k d:Int)(w:Wd):Cp 24 #[eW f c s k d,I 0] w (rB (eW f c s k d) w):=by
 have:=Vb f c s k d 0 w;rwa [eD rfl] at this
def UY(f c s d:Int)(L:Lm)(v0:Va)(a:oA)(n cp:Nat)(w:Wd):Cp 80 #[eW f c s 2 d,jO L,.agg #[v0,sX a n cp]] w (rB (eW f c s 2 d) w):=by
 cases L with | mk lf lc lr ls =>
 go_enter func80,ntmps80;exact vD
section
variable {g off n i m j:Nat}{w w':Wd}{f:Nat->Int}
def fC(g off n:Nat)(f:Nat->Int)(w:Wd):Prop:=g<w.1.size/\∀t,t<n->w.cell? (Y g (off+t))=a_ (I (f t))/\w.frozen? (Y g (off+t))=d_
def Gr(g:Nat)(w w':Wd):Prop:=w.grownBy w' (a_ g)
def Gr.refl(g:Nat)(w:Wd):Gr g w w:=⟨rfl,rfl,rfl,jR _,λ_ _ _=>rfl⟩
def Gr.trans{zL:Wd}(h:Gr g w w')(h':Gr g w' zL):Gr g w zL :=
 ⟨h'.os.trans h.os,h'.tape.trans h.tape,h'.output.trans h.output,jT h.size h'.size,λk hk gu=>(h'.block k (jL hk h.size) gu).trans (h.block k hk gu)⟩
def Gr.below(h:Bl w w'):Gr g w w':=⟨h.os,h.tape,h.output,h.size,λk hk _=>h.block k hk⟩
def Gr.set(w:Wd)(g o:Nat)(v:Va):Gr g w (w.setCell (Y g o) v):=⟨rfl,rfl,rfl,sI,λk _ hk=>heap_setCell_other w (Y g o) k v (λe=>hk (by simp[e]))⟩
def Gr.drewN(n:Nat)(h:Gr g (w.drewN n) w'):Gr g w w':=⟨h.os,h.tape,h.output,h.size,h.block⟩
def Gr.eG{B:Nat}{w0:Wd}(h:Gr g w w')(hb:Below B w0 w)(hB:B<=g)(hw:B<=w.1.size):Below B w0 w' :=
 hb.trans ⟨h.os,h.tape,h.output,h.size,λk hk=>h.block k oM (λe=>by injection e with e;omega)⟩
def fC.eG(h:fC g off n f w)(hb:Bl w w'):fC g off n f w' :=
 ⟨jL h.1 hb.size,λt ht=>⟨(hb.cell (p:=(Y g (off+t))) h.1).trans (h.2 t ht).1,(hb.frozen (p:=(Y g (off+t))) h.1).trans (h.2 t ht).2⟩⟩
def fC.drew(h:fC g off n f w):fC g off n f w.drew:=h
def Gr.drew(h:Gr g w w'):Gr g w w'.drew:=⟨h.os,h.tape,h.output,h.size,h.block⟩
def fC.drewN(m:Nat)(h:fC g off n f w):fC g off n f (w.drewN m):=h
def jr(f:Nat->Int)(k:Nat)(x:Int):Nat->Int:=λt=>if t=k then x else f t
def fC.set{k:Nat}(x:Int)(h:fC g off n f w)(hk:k<n):fC g off n (jr f k x) (w.setCell (Y g (off+k)) (I x)):=by
 refine⟨by simpa using h.1,λt ht=>?_⟩;have⟨h1,h2⟩:=h.2 t ht;have⟨c1,c2⟩:=h.2 k hk;unfold jr;by_cases e:t=k
 ·subst e
  rw[eD rfl];exact⟨PR _ _ _ h1,by rw[Z1];exact h2⟩
 rw[eB e];exact⟨by rw[Il _ _ _ _ (by intro e';injection e' with _ e2 _;omega)];exact h1,by rw[Z1];exact h2⟩
def fC.congr{f':Nat->Int}(h:fC g off n f w)(e:∀t,t<n->f t=f' t):fC g off n f' w:=⟨h.1,λt ht=>by rw[<- e t ht];exact h.2 t ht⟩
def lv(f:Nat->Int)(a b k:Nat):Nat->Int:=λt=>if a<=t/\t<a+k then f (t+b-a) else if b<=t/\t<b+k then f (t+a-b) else f t
def afp(f:Nat->Int)(a b:Nat):lv f a b 0=f:=by
 funext t
 unfold lv;rw[eB oM,eB oM]
def afq{a b:Nat}(h:a+i<b):jr (jr (lv f a b i) (a+i) (lv f a b i (b+i))) (b+i) (lv f a b i (a+i))=lv f a b (i+1):=by
 have e1:lv f a b i (b+i)=f (b+i):=by unfold lv;rw[eB oM,eB oM]
 have e2:lv f a b i (a+i)=f (a+i):=by unfold lv;rw[eB oM,eB oM]
 rw[e1,e2];funext t
 unfold jr lv;by_cases h1:t=b+i
 ·subst h1
  rw[eD rfl,eB oM,eD oM];congr 1;omega
 rw[eB h1];by_cases h2:t=a+i
 ·subst h2
  rw[eD rfl,eD oM];congr 1;omega
 rw[eB h2];have h3:(a<=t/\t<a+i) ↔ (a<=t/\t<a+(i+1)):=oM;have h4:(b<=t/\t<b+i) ↔ (b<=t/\t<b+(i+1)):=oM;simp only[h3,h4]
def akQ.IG(h:ρ:=by
 have hbi:b+i<n:=oM;have Cn:a+i<n:=oM;have NW:Hid (fC g off n (lv f a b (i+1)) (((wr.setCell (Y g (off+(a+i))) (I (G (b+i)))).setCell (Y g (off+(b+i))) (I (G (a+i)))).drew)/\Gr g w (((wr.setCell (Y g (off+(a+i))) (I (G (b+i)))).setCell (Y g (off+(b+i))) (I (G (a+i)))).drew)):=by
  refine⟨?_,(GG.o.trans ((Gr.set _ _ _ _).trans (Gr.set _ _ _ _))).drew⟩;rw[<- SX.o];exact((RR.o.set _ Cn).set _ hbi).drew
 go_wp2_with fail;go_region
 all_goals go_wp2
 go_roundw
 case rel=>exact⟨i+1,oM,gN,NW.o.1,NW.o.2⟩
 case measure=>simp[intOf];omega
 ):ρ:=h
def MP(g off cap n a b k:Nat)(f:Nat->Int)(cv:Va)(w:Wd)(hR:fC g off n f w)(Co:a+k<=b)(hb:b+k<=n)(hn:n<=1000000):
  Cp 313 #[.slice (a_ (Y g off)) n cap,I (a:Int),I (b:Int),I (k:Int),cv] w λe w'=>e=.returned (.tuple #[])/\fC g off n (lv f a b k) w'/\Gr g w w':=by
 have HR:=zH hR;go_enter func313,ntmps313;go_wp2_with fail;go_loopw [10] (λv wr=>∃i:Nat,i<=k/\v=I (i:Int)/\Hid (fC g off n (lv f a b i) wr)/\Hid (Gr g w wr)) (λv _=>k-(intOf v).toNat)
 case atStart=>exact⟨0,vZ _,rfl,by show fC _ _ _ _ _;rw[afp];exact HR.o,Gr.refl _ _⟩
 obtain⟨i,hi,rfl,RR,GG⟩:=hrel;by_cases eI:i<k
 ·have nC:(i:Int)<(k:Int):=oM
  have SX:=zH (afq (f:=f) (a:=a) (b:=b) (i:=i) oM);have⟨G,hG⟩:∃G,lv f a b i=G:=⟨_,rfl⟩;rw[hG] at RR SX;open akQ in exact IV
 have nC:¬(i:Int)<(k:Int):=oM;obtain rfl:i=k:=oM;go_wp2_with fail;go_end0
 exact⟨rfl,RR.o,GG.o⟩
def fE(f:Nat->Int)(a m b:Nat):Nat->Int:=λt=>if a<=t/\t<a+(b-m) then f (t+(m-a)) else if a+(b-m)<=t/\t<b then f (t-(b-m)) else f t
def alz(f:Nat->Int)(hi:i<=m)(h:j<i)(hj:0<j):fE (lv f (m-i) m j) (m-(i-j)) m (m+j)=fE f (m-i) m (m+j):=by
 obtain⟨p,rfl⟩:∃p,m=p+i:=⟨m-i,oM⟩;obtain⟨d,rfl⟩:∃d,i=j+d:=⟨i-j,oM⟩;have e1:p+(j+d)-(j+d)=p:=oM;have e2:j+d-j=d:=oM;have e3:p+(j+d)-d=p+j:=oM;have e4:p+(j+d)+j-(p+(j+d))=j:=oM;have e5:p+(j+d)-(p+j)=d:=oM;have e6:p+(j+d)-p=j+d:=oM;exact Zz
def aly(f:Nat->Int)(hi:i<=m)(h:i<j)(hj:0<i):fE (lv f (m-i) (m+j-i) i) (m-i) m (m+(j-i))=fE f (m-i) m (m+j):=by
 obtain⟨p,rfl⟩:∃p,m=p+i:=⟨m-i,oM⟩;obtain⟨d,rfl⟩:∃d,j=i+d:=⟨j-i,oM⟩;have e1:p+i-i=p:=oM;have e2:i+d-i=d:=oM;have e3:p+i+(i+d)-i=p+i+d:=oM;have e4:p+i+d-(p+i)=d:=oM;have e5:p+i+(i+d)-(p+i)=i+d:=oM;have e6:p+i-p=i:=oM;exact Zz
def alA(f:Nat->Int)(hi:i<=m):lv f (m-i) m i=fE f (m-i) m (m+i):=by
 obtain⟨p,rfl⟩:∃p,m=p+i:=⟨m-i,oM⟩;have e1:p+i-i=p:=oM;have e5:p+i+i-(p+i)=i:=oM;have e6:p+i-p=i:=oM;funext t
 unfold fE lv;simp only[e1,e5,e6];repeat' split
 all_goals first | rfl | (congr 1;omega) | (exfalso;omega)
def ado(g off cap n a m b:Nat)(f:Nat->Int)(cv:Va)(w:Wd)(hR:fC g off n f w)(ham:a<m)(hmb:m<b)(hb:b<=n)(hn:n<=1000000):
  Cp 312 #[.slice (a_ (Y g off)) n cap,I (a:Int),I (m:Int),I (b:Int),cv] w λe w'=>e=.returned (.tuple #[])/\fC g off n (fE f a m b) w'/\Gr g w w':=by
 have HR:=zH hR;go_enter func312,ntmps312;go_wp2_with fail;go_loopw [10,11] (λvi vj wr=>∃(i j:Nat)(G:Nat->Int),0<i/\0<j/\i<=m/\m+j<=n/\vi=I (i:Int)/\vj=I (j:Int)/\Hid (fE G (m-i) m (m+j)=fE f a m b)/\Hid (fC g off n G wr)/\Hid (Gr g w wr)) (λvi vj _=>(intOf vi).toNat+(intOf vj).toNat)
 case atStart=>exact⟨m-a,b-m,f,by omega,by omega,by omega,by omega,by go_num,by go_num,by show _=_;rw[show m-(m-a)=a by omega,show m+(b-m)=b by omega],HR,Gr.refl _ _⟩
 obtain⟨i,j,G,SJ,SI,uT,gD,rfl,rfl,HF,RR,GG⟩:=hrel;by_cases he:i=j
 ·subst he
  have gu:((i:Int) != (i:Int))=d_:=sI;have KS:=zH (MP g off cap n (m-i) m i G cv wr RR.o oM oM hn);have e1:((m-i:Nat):Int)=(m:Int)-(i:Int):=oM;rw[e1] at KS;have HE:=zH (alA G uT);go_wp2_with fail;refine KS.o.mono ?_;rintro e w2 ⟨rfl,hr,hg⟩;have R2:Hid (fC g off n (fE f a m b) w2):=by
   rw[HE.o,HF.o] at hr;exact hr
  have G2:=zH (GG.o.trans hg);go_wp2_with fail;go_end0
  exact⟨rfl,R2.o,G2.o⟩
 have gu:((i:Int) != (j:Int))=b_:=by rw[iH];omega
 by_cases zU:j<i
 ·have ao1:(j:Int)<(i:Int):=oM
  have KS:=zH (MP g off cap n (m-i) m j G cv wr RR.o oM oM hn);have e1:((m-i:Nat):Int)=(m:Int)-(i:Int):=oM;rw[e1] at KS;have HE:=zH (alz G uT zU SI);go_wp2_with fail;refine KS.o.mono ?_;rintro e w2 ⟨rfl,hr,hg⟩;have R2:=zH hr;have G2:=zH (GG.o.trans hg);have H2:Hid (fE (lv G (m-i) m j) (m-(i-j)) m (m+j)=fE f a m b):=HE.o.trans HF.o;go_wp2;go_roundw
  case rel=>exact⟨i-j,j,_,oM,SI,oM,gD,gN,rfl,H2,R2,G2⟩
  simp[intOf];omega
 have ao1:¬(j:Int)<(i:Int):=oM;have KS:=zH (MP g off cap n (m-i) (m+j-i) i G cv wr RR.o oM oM hn);have e1:((m-i:Nat):Int)=(m:Int)-(i:Int):=oM;have e2:((m+j-i:Nat):Int)=(m:Int)+(j:Int)-(i:Int):=oM;rw[e1,e2] at KS;have HE:=zH (aly (f:=G) (m:=m) (i:=i) (j:=j) uT oM SJ);go_wp2_with fail;refine KS.o.mono ?_;rintro e w2 ⟨rfl,hr,hg⟩;have R2:=zH hr;have G2:=zH (GG.o.trans hg);have H2:Hid (fE (lv G (m-i) (m+j-i) i) (m-i) m (m+(j-i))=fE f a m b):=HE.o.trans HF.o;go_wp2;go_roundw
 case rel=>exact⟨i,j-i,_,SJ,oM,uT,oM,rfl,gN,H2,R2,G2⟩
 simp[intOf];omega
end
section
variable {F:Nat->Int}{i j t:Nat}
def ahI(x:Int)(w:Wd):Cp 297 #[I x] w λe w'=>e=rT (.bool d_)/\w'=w:=by
 go_enter func297,ntmps297;go_wp2;go_ret
 exact⟨sI,rfl⟩
def nU(x y:Int):Int:=if x<y then -1 else if y<x then 1 else 0
def GC{x y:Int}:nU x y<0 ↔ x<y:=by
 unfold nU;constructor
 ·intro h
  split at h
  ·assumption
  split at h <;> omega
 intro h;rw[eD h];omega
def ae7(x y:Int)(w:Wd):Cp 276 #[I x,I y] w λe w'=>e=rT (I (nU x y))/\w'=w:=by
 by_cases h:x<y
 ·have E:Hid (nU x y=-1):=by show _=_;unfold nU;rw[eD h]
  exact Qr
 by_cases h':y<x
 ·have E:Hid (nU x y=1):=by show _=_;unfold nU;rw[eB h,eD h']
  exact Qr
 have E:Hid (nU x y=0):=by show _=_;unfold nU;rw[eB h,eB h']
 exact Qr
def Ux(B0:Nat)(w0:Wd)(pa:Nat)(k:Int->Int)(ok:Int->Prop):Prop :=
 ∀(x y:Int)(W:Wd),ok x->ok y->Below B0 w0 W->Cp 281 #[I x,I y,pT pa] W λe w'=>e=rT (I (nU (k x) (k y)))/\∃q,w'=W.drewN q
abbrev cl(pa:Nat):Va:=.func (.func 281) #[] #[pT pa]
def GF(args:aV)(w:Wd):(callFunc 281 args).run prog w=.ok (.enter 281 args) w:=kF
def adU(pa b off cap:Nat)(u0:Va)(da:lI)(w0:Wd)(B0:Nat)(hb:b<B0)(Ln:pa<B0)(h0:w0.cell? (Y pa 1)=a_ (sX (sY b off) da.length cap))(hc:∀i,i<da.length->w0.cell? (Y b (off+i))=a_ (I (da.getD i 0))):
  Ux B0 w0 pa (λx=>da.getD x.toNat 0) (λx=>0<=x/\x<da.length):=by
 intro x y W hx hy hW;obtain⟨i,rfl⟩:=sZ hx.1;obtain⟨j,rfl⟩:=sZ hy.1;have c0:=(hW.cell (p:=(Y pa 1)) Ln).trans h0;have ci:=(hW.cell (p:=(Y b (off+i))) hb).trans (hc i oM);have cj:=(hW.cell (p:=(Y b (off+j))) hb).trans (hc j oM);simp only[qp];have hi:(i:Int)<(da.length:Int):=hx.2;have hj:(j:Int)<(da.length:Int):=hy.2;generalize da.getD i 0=di,da.getD j 0=dj,da.length=n at *;go_enter func281,ntmps281;go_wp2_with fail;go_quiet ((go_at_call 276;exact nA (ae7 _ _ _)))
 go_wp2;go_ret
 exact⟨rfl,_,rfl⟩
def Ws:fE F i i (i+1)=F:=by
 funext t
 unfold fE;rw[show i+1-i=1 by omega,show i-i=0 by omega];repeat' split
 all_goals first | rfl | (congr 1;omega) | (exfalso;omega)
def Wt(h0:0<j)(h:j<=i):jr (jr (fE F j i (i+1)) j (fE F j i (i+1) (j-1))) (j-1) (fE F j i (i+1) j)=fE F (j-1) i (i+1):=by
 obtain⟨p,rfl⟩:∃p,j=p+1:=⟨j-1,oM⟩;obtain⟨d,rfl⟩:∃d,i=p+1+d:=⟨i-(p+1),oM⟩;have e1:p+1+d+1-(p+1+d)=1:=oM;have e2:p+1+d-(p+1)=d:=oM;have e3:p+1-1=p:=oM;have e4:p+1+d-p=d+1:=oM;funext t
 unfold jr fE;simp only[e1,e2,e3,e4];repeat' split
 all_goals first | rfl | (congr 1;omega) | (exfalso;omega) | skip
 all_goals (subst_vars;first | rfl | (congr 1;omega) | (exfalso;omega))
def Yx(h:j<=i):fE F j i (i+1) j=F i:=by
 unfold fE;rw[eD oM];congr 1;omega
def WW(h:t<j):fE F j i (i+1) t=F t:=by
 exact Bs
def WV(hj:j<=i)(h:t<j\/i<t):fE F j i (i+1) t=F t:=by
 exact Bs
def Xv{k:Int->Int}{a:Nat}(ha:a<=j)(hj:j<=i)(h1:∀t,a<=t->t<j->k (F t)<=k (F i))(h2:∀t,j<=t->t<i->k (F i)<k (F t)):
  e_ (fE F j i (i+1)) a (i+1)=ins k (F i) (e_ F a i):=by
 rw[<- sJ F ha hj,VG (λp hp=>by obtain⟨t,t1,t2,rfl⟩:=vw hp;exact h1 t t1 t2) (λp hp=>by obtain⟨t,t1,t2,rfl⟩:=vw hp;exact h2 t t1 t2)];rw[<- sJ (fE F j i (i+1)) ha (show j<=i+1 by omega),<- sJ (fE F j i (i+1)) (show j<=j+1 by omega) (show j+1<=i+1 by omega),De,Yx hj];rw[wY (f:=fE F j i (i+1)) (f':=F) (a:=a) (b:=j) (λt _ h=>WW h)];rw[FX (f:=fE F j i (i+1)) (f':=F) (a:=j+1) (b:=i+1) (c:=j) (d:=i) oM (λt ht=>by
  unfold fE;rw[eB oM,eD oM];congr 1;omega)]
 rfl
structure Cx(B0:Nat)(w0:Wd)(pa g n:Nat)(k:Int->Int)(ok:Int->Prop):Prop where
 cmp:Ux B0 w0 pa k ok
 g:B0<=g
 ok:∀t:Nat,t<n->ok (t:Int)
def abN(B0:Nat)(w0:Wd)(pa g off cap n a b:Nat)(k:Int->Int)(ok:Int->Prop)(f:Nat->Int)(w:Wd)(hX:Cx B0 w0 pa g n k ok)(hR:fC g off n f w)(Co:a<=b)(hb:b<=n)(hn:n<=1000000)(hid:∀t,a<=t->t<b->f t=(t:Int))(hB:Below B0 w0 w):
  Cp 308 #[sX (sY g off) n cap,I (a:Int),I (b:Int),cl pa] w λe w'=>e=rT (.tuple #[])/\(∃f',fC g off n f' w'/\e_ f' a b=Pl.im k a (b-a)/\∀t,(t<a\/b<=t)->f' t=f t)/\Gr g w w':=by
 have HR:=zH hR;have HX:=zH hX;have HD:=zH hid;have HB:=zH hB;have sy:=GF;by_cases aaT:a<b
 rotate_left 1
 ·obtain rfl:a=b:=oM
  have nC:¬(a:Int)+1<(a:Int):=oM;go_enter func308,ntmps308;go_wp2_with fail;go_loopw [8,9] (λvi _ wr=>vi=I ((a:Int)+1)/\wr=w) (λ_ _ _=>0)
  case atStart=>exact⟨gN,rfl⟩
  obtain⟨rfl,rfl⟩:=hrel;go_wp2_with fail;go_end0
  exact⟨rfl,⟨f,HR.o,by rw[yU f (jR _),qt];rfl,λ_ _=>rfl⟩,Gr.refl _ _⟩
 go_enter func308,ntmps308;go_wp2_with fail;go_loopw [8,9] (λvi _ wr=>∃(i:Nat)(F:Nat->Int),a<i/\i<=b/\vi=I (i:Int)/\Hid (fC g off n F wr)/\Hid (e_ F a i=Pl.im k a (i-a))/\Hid (∀t,(t<a\/i<=t)->F t=f t)/\Hid (Gr g w wr)) (λvi _ _=>b-(intOf vi).toNat)
 case atStart =>
  refine⟨a+1,f,oM,oM,gN,HR,?_,λt _=>rfl,Gr.refl _ _⟩;show _=_;rw[De,show a+1-a=1 by omega,HD.o a (jR _) aaT];rfl
 obtain⟨i,F,Cn,hib,rfl,RR,HG,HO,GG⟩:=hrel;by_cases eI:i<b
 rotate_left 1
 ·have nC:¬(i:Int)<(b:Int):=oM
  obtain rfl:i=b:=oM;go_wp2_with fail;go_end0
  exact⟨rfl,⟨F,RR.o,HG.o,HO.o⟩,GG.o⟩
 have nC:(i:Int)<(b:Int):=oM;go_wp2_with fail;go_loopw [9] (λvj w2=>∃j:Nat,a<=j/\j<=i/\vj=I (j:Int)/\Hid (fC g off n (fE F j i (i+1)) w2)/\Hid (∀t,j<=t->t<i->k (F i)<k (F t))/\Hid (Gr g w w2)) (λvj _=>(intOf vj).toNat)
 case atStart=>exact⟨i,by omega,jR _,rfl,by show fC _ _ _ _ _;rw[Ws];exact RR.o,λt h1 h2=>by omega,GG⟩
 obtain⟨j,haj,Lt,rfl,R2,H2,G2⟩:=hrel;have mE:i<n:=oM;have eFi:Hid (F i=(i:Int)):=(HO.o i (.inr (jR _))).trans (HD.o i oM eI);have BW:=zH (G2.o.eG HB.o HX.o.g (jT HX.o.g (Bc (jL HR.o.1 (jR _)))));have wJ:Hid (∀w',Gr g w w'->fC g off n (fE F j i (i+1)) w'->(j=a\/¬k (F i)<k (F (j-1)))->∃(i':Nat)(F':Nat->Int),a<i'/\i'<=b/\Value.int .i64 ((i:Int)+1)=I (i':Int)/\Hid (fC g off n F' w')/\Hid (e_ F' a i'=Pl.im k a (i'-a))/\Hid (∀t,(t<a\/i'<=t)->F' t=f t)/\Hid (Gr g w w')):=λw' hg hr hs=>by
  have hsr:nE k F a i:=NM (by rw[HG.o];exact Dc _ _ _);refine⟨i+1,_,oM,oM,gN,hr,?_,λt ht=>?_,hg⟩
  ·show _=_
   rw[Xv haj Lt (λt t1 t2=>by
    rcases hs with hs|hs
    ·omega
    by_cases e:t=j-1
    ·subst e;omega
    have:=hsr t (j-1) t1 oM oM;omega) H2.o,HG.o,eFi.o,show i+1-a=(i-a)+1 by omega]
   show _=ins k ((a+(i-a):Nat):Int) (Pl.im k a (i-a));rw[show a+(i-a)=i by omega]
  rw[WV Lt oM];exact HO.o t oM
 have TJ:Hid (fE F j i (i+1) j=F i):=Yx Lt;by_cases hja:a<j
 rotate_left 1
 ·have ao0:decide ((a:Int)<(j:Int))=d_:=fH oM
  go_wp2_with fail;go_quiet (fail)
  go_wp2;go_roundw
  case rel=>exact wJ.o _ (G2.o.trans (Gr.below (gx (jD _ _) _))) (R2.o.drewN _) (.inl oM)
  simp[intOf];omega
 have ao0:decide ((a:Int)<(j:Int))=b_:=fM oM;have TH:Hid (fE F j i (i+1) (j-1)=F (j-1)):=WW oM;have SX:=zH (Wt (F:=F) (j:=j) (i:=i) oM Lt);have ok1:Hid (ok (F i)):=by show ok _;rw[eFi.o];exact HX.o.ok i mE
 have ok2:Hid (ok (F (j-1))):=by
  have hm:F (j-1)∈Pl.im k a (i-a):=by rw[<- HG.o];exact OF oM oM
  have hm:=Pl.N6 hm;have⟨t,ht⟩:=sZ (show 0<=F (j-1) by omega);show ok _;rw[ht];exact HX.o.ok t oM
 have⟨G,hG⟩:∃G,fE F j i (i+1)=G:=⟨_,rfl⟩;rw[hG] at R2 SX TJ TH wJ;have jS:∀t,t<n->cL wr g (off+t) (I (G t)):=λt ht=>(R2.o.2 t ht).1;have hfw:∀t,t<n->wr.frozen? (Y g (off+t))=d_:=λt ht=>(R2.o.2 t ht).2;have KC:Hid (∀m,Cp 281 #[I (G j),I (G (j-1)),pT pa] (wr.drewN m) λe w'=>e=rT (I (nU (k (F i)) (k (F (j-1)))))/\∃q,w'=(wr.drewN m).drewN q):=λm=>by
  rw[<- TJ.o,<- TH.o];exact HX.o.cmp (G j) (G (j-1)) (wr.drewN m) (by rw[TJ.o];exact ok1.o) (by rw[TH.o];exact ok2.o) (gx BW.o m)
 have⟨c,hc⟩:∃c,nU (k (F i)) (k (F (j-1)))=c:=⟨_,rfl⟩;have kQ:c<0 ↔ k (F i)<k (F (j-1)):=by rw[<- hc];exact GC
 rw[hc] at KC;have gD:j<n:=oM;have hj1:j-1<n:=oM;have zR:((j-1:Nat):Int)=(j:Int)-1:=oM;by_cases hl:k (F i)<k (F (j-1))
 ·have jy:c<0:=kQ.2 hl
  have HL:=zH hl;have NW:Hid (∀q,fC g off n (fE F (j-1) i (i+1)) (((wr.drewN q).setCell (Y g (off+j)) (I (G (j-1)))).setCell (Y g (off+(j-1))) (I (G j)))/\Gr g w (((wr.drewN q).setCell (Y g (off+j)) (I (G (j-1)))).setCell (Y g (off+(j-1))) (I (G j)))):=λq=>by
   refine⟨?_,G2.o.trans (Gr.drewN q ((Gr.set _ _ _ _).trans (Gr.set _ _ _ _)))⟩;rw[<- SX.o];exact((R2.o.drewN q).set _ gD).set _ hj1
  have HLL:Hid (∀t,j-1<=t->t<i->k (F i)<k (F t)):=λt h1 h2=>by
   by_cases e:t=j-1
   ·rw[e];exact HL.o
   exact H2.o t oM h2
  go_wp2_with fail;go_quiet (exact Ik (KC.o _))
  go_wp2_with fail;go_region
  all_goals go_wp2
  go_roundw
  case rel=>exact⟨j-1,oM,oM,by congr 1;omega,(NW.o _).1,HLL,(NW.o _).2⟩
  simp[intOf];omega
 have jy:¬c<0:=λh=>hl (kQ.1 h);have HL:=zH hl;go_wp2_with fail;go_quiet (exact Ik (KC.o _))
 go_wp2;go_roundw
 case rel=>exact wJ.o _ (G2.o.trans (Gr.below (gx (jD _ _) _))) (R2.o.drewN _) (.inr HL.o)
 simp[intOf];omega
end
variable {k:Int->Int}{f:Nat->Int}{a b c:Nat}
def Pl.Yr(h:nE k f a b):vf k (e_ f a b):=by
 unfold vf e_;rw[List.pairwise_map];refine List.Pairwise.imp_of_mem (R:=λx y=>x<y) (λ{x y} hx hy Le=>?_) List.pairwise_lt_range;have:=qV.1 hx;have:=qV.1 hy;exact h _ _ oM oM oM
def za(g off n a m b:Nat)(k:Int->Int)(f:Nat->Int)(w:Wd)(e:Ending)(w':Wd):Prop :=
 e=rT (.tuple #[])/\(∃f',fC g off n f' w'/\e_ f' a b=gW k (e_ f a m) (e_ f m b)/\∀t,(t<a\/b<=t)->f' t=f t)/\Gr g w w'
def afC:fE f a (a+1) (a+1)=f:=by
 funext t
 unfold fE;rw[show a+1-(a+1)=0 by omega];repeat' split
 all_goals first | rfl | (congr 1;omega) | (exfalso;omega)
def Yu(h:a<=c):fE f a (a+1) (c+1) c=f a:=by
 unfold fE;rw[eB oM,eD oM];congr 1;omega
def NO{t:Nat}(h:t<a\/c<t)(hc:a<=c):fE f a (a+1) (c+1) t=f t:=by
 exact Bs
def afD(h:a<=c):jr (jr (fE f a (a+1) (c+1)) c (fE f a (a+1) (c+1) (c+1))) (c+1) (fE f a (a+1) (c+1) c)=fE f a (a+1) (c+1+1):=by
 obtain⟨d,rfl⟩:∃d,c=a+d:=⟨c-a,oM⟩;rw[Yu oM,NO oM oM];have e1:a+d+1-(a+1)=d:=oM;have e2:a+1-a=1:=oM;have e3:a+d+1+1-(a+1)=d+1:=oM;funext t
 unfold jr fE;simp only[e1,e2,e3];repeat' split
 all_goals first | rfl | (congr 1;omega) | (exfalso;omega) | skip
 all_goals (subst_vars;first | rfl | (congr 1;omega) | (exfalso;omega))
def ahd{i:Nat}(h1:a+1<=i)(h2:i<=b)(hl:∀t,a+1<=t->t<i->k (f t)<k (f a))(hg:∀t,i<=t->t<b->k (f a)<=k (f t)):
  e_ (fE f a (a+1) i) a b=gW k (e_ f a (a+1)) (e_ f (a+1) b):=by
 obtain⟨c,rfl⟩:∃c,i=c+1:=⟨i-1,oM⟩;have e:=N5 (k:=k) (L1:=[]) (L2:=[f a]) (R1:=e_ f (a+1) (c+1)) (R2:=e_ f (c+1) b) sI (λx hx y hy=>by
  obtain⟨t,t1,t2,rfl⟩:=vw hx;simp at hy
  subst hy;exact hl t t1 t2)
 have e':=N5 (k:=k) (L1:=[f a]) (L2:=[]) (R1:=[]) (R2:=e_ f (c+1) b) (λx hx y hy=>by
  obtain⟨t,t1,t2,rfl⟩:=vw hy;simp at hx
  subst hx;exact hg t t1 t2) sI
 rw[qn,qM] at e;rw[rU,qn,qM,qe] at e';rw[De,<- sJ f (show a+1<=c+1 by omega) h2,e,e'];rw[<- sJ (fE f a (a+1) (c+1)) (show a<=c+1 by omega) h2,<- sJ (fE f a (a+1) (c+1)) (show a<=c by omega) (show c<=c+1 by omega),De,Yu oM];rw[wY (f:=fE f a (a+1) (c+1)) (f':=f) (a:=c+1) (b:=b) (λt t1 t2=>NO (.inr oM) oM)];rw[FX (f:=fE f a (a+1) (c+1)) (f':=f) (a:=a) (b:=c) (c:=a+1) (d:=c+1) oM (λt ht=>by
  unfold fE;rw[eD oM];congr 1;omega)]
 rw[vG]
def ak1.IG(h:ρ:=by
 have kQ:c<n:=oM;have aaW:c+1<n:=oM;have NW:Hid (fC g off n (fE f a (a+1) (c+1+1)) (((wr.setCell (Y g (off+c)) (I (G (c+1)))).setCell (Y g (off+(c+1))) (I (G c))).drew)/\Gr g w (((wr.setCell (Y g (off+c)) (I (G (c+1)))).setCell (Y g (off+(c+1))) (I (G c))).drew)):=by
  exact Y1
 go_wp2_with fail;go_region
 all_goals go_wp2
 go_roundw
 case rel=>exact⟨c+1,oM,oM,gN,NW.o.1,NW.o.2⟩
 case measure=>simp[intOf];omega
 ):ρ:=h
def ajJ.Ol(h:ρ:=by
 have jS:∀t,t<n->wr.cell? (Y g (off+t))=a_ (I (f t)):=λt ht=>(RR.o.2 t ht).1;have KC:Hid (∀m',Cp 281 #[I (f h),I (f a),pT pa] (wr.drewN m') λe w'=>e=rT (I (nU (k (f h)) (k (f a))))/\∃q,w'=(wr.drewN m').drewN q):=λm' =>
  HX.o.cmp (f h) (f a) (wr.drewN m') (HK.o _ oM) (HK.o _ oM) (gx BW.o m')
 have⟨c,hc⟩:∃c,nU (k (f h)) (k (f a))=c:=⟨_,rfl⟩;have kQ:c<0 ↔ k (f h)<k (f a):=by rw[<- hc];exact GC
 rw[hc] at KC;clear hc;by_cases hl:k (f h)<k (f a)
 ·have jy:c<0:=kQ.2 hl
  have kT:decide (c<0)=b_:=fM jy;have Up:Hid (∀t,m<=t->t<h+1->k (f t)<k (f a)):=λt h1 h2=>by
   by_cases e:t=h
   ·rw[e];exact hl
   have:=HS.o t h h1 oM oM;omega
  clear kQ hl;go_upto_region 5 with fail
  exact Qx
 ·have jy:¬c<0:=λh=>hl (kQ.1 h)
  have kT:decide (c<0)=d_:=fH jy;have Ur:Hid (∀t,h<=t->t<b->k (f a)<=k (f t)):=λt h1 h2=>by
   by_cases e:t=h
   ·rw[e];omega
   have:=HS.o h t oM oM h2;omega
  clear kQ hl;go_upto_region 5 with fail
  exact Qw
 ):ρ:=h
def ahc(B0:Nat)(w0:Wd)(pa g off cap n a m b:Nat)(k:Int->Int)(ok:Int->Prop)(f:Nat->Int)(w:Wd)(hX:Cx B0 w0 pa g n k ok)(hR:fC g off n f w)(hm:m=a+1)(hmb:m<b)(hb:b<=n)(hn:n<=1000000)(fF:∀t,t<n->ok (f t))(hs:nE k f m b)(hB:Below B0 w0 w):
  Cp 309 #[sX (sY g off) n cap,I (a:Int),I (m:Int),I (b:Int),cl pa] w (za g off n a m b k f w):=by
 have HR:=zH hR;have HX:=zH hX;have HB:=zH hB;have HK:=zH fF;have HS:=zH hs;have sy:=GF;have gJ:((m:Int)-(a:Int) == 1)=b_:=by rw[uy];omega
 have Hm:=zH hm;clear hR hX hB fF hs hm;have yH:Hid (B0<=w.1.size):=jT HX.o.g (Bc HR.o.1);have ham:a+1<=m:=by have:=Hm.o;omega
 have han:a<n:=oM;go_enter func309,ntmps309;go_wp2_with fail;go_loopw [10,11,12] (λvi vj _ wr=>∃i j:Nat,m<=i/\i<=j/\j<=b/\vi=I (i:Int)/\vj=I (j:Int)/\Hid (∀t,m<=t->t<i->k (f t)<k (f a))/\Hid (∀t,j<=t->t<b->k (f a)<=k (f t))/\Hid (fC g off n f wr)/\Hid (Gr g w wr)) (λvi vj _ _=>(intOf vj).toNat-(intOf vi).toNat)
 case atStart=>exact⟨m,b,jR _,oM,jR _,rfl,rfl,λt h1 h2=>oM,λt h1 h2=>oM,HR,Gr.refl _ _⟩
 obtain⟨i,j,yg,hij,Ex,rfl,rfl,HL,HG,RR,GG⟩:=hrel;by_cases eI:i<j
 ·open ajJ in exact Pd
 have nC:¬(i:Int)<(j:Int):=oM;obtain rfl:i=j:=oM;have HF:=zH (λx y=>ahd (k:=k) (f:=f) (a:=a) (i:=i) (b:=b) x Ex y);have R0:Hid (fC g off n (fE f a (a+1) (a+1)) wr):=by show fC _ _ _ _ _;rw[afC];exact RR.o
 go_wp2_with fail;go_loopw [13] (λvc w2=>∃c:Nat,a<=c/\c+1<=i/\vc=I (c:Int)/\Hid (fC g off n (fE f a (a+1) (c+1)) w2)/\Hid (Gr g w w2)) (λvc _=>i-(intOf vc).toNat)
 case atStart=>exact⟨a,jR _,oM,rfl,R0,GG⟩
 clear R0 RR GG;obtain⟨c,Tj,LL,rfl,RR,GG⟩:=hrel;by_cases gE:c+1<i
 ·have uG:(c:Int)<(i:Int)-1:=oM
  have SX:=zH (afD (f:=f) (a:=a) (c:=c) Tj);have⟨G,hG⟩:∃G,fE f a (a+1) (c+1)=G:=⟨_,rfl⟩;rw[hG] at RR SX;clear hG;open ak1 in exact IV
 have uG:¬(c:Int)<(i:Int)-1:=oM;obtain rfl:i=c+1:=oM;have HE:Hid (e_ (fE f a (a+1) (c+1)) a b=gW k (e_ f a m) (e_ f m b)):=by
  have qA:=Hm.o;subst qA;exact HF.o yg HL.o HG.o
 go_wp2_with fail;go_end0
 exact⟨rfl,⟨_,RR.o,HE.o,λt ht=>NO oM Tj⟩,GG.o⟩
def ak2.IG(h:ρ:=by
 have kQ:c<n:=oM;have aaW:c-1<n:=oM;have zR:((c-1:Nat):Int)=(c:Int)-1:=oM;have NW:Hid (fC g off n (fE f (c-1) m (m+1)) (((wr.setCell (Y g (off+c)) (I (G (c-1)))).setCell (Y g (off+(c-1))) (I (G c))).drew)/\Gr g w (((wr.setCell (Y g (off+c)) (I (G (c-1)))).setCell (Y g (off+(c-1))) (I (G c))).drew)):=by
  exact Y1
 go_wp2_with fail;go_region
 all_goals go_wp2
 go_roundw
 case rel=>exact⟨c-1,oM,oM,by congr 1;omega,NW.o.1,NW.o.2⟩
 case measure=>simp[intOf];omega
 ):ρ:=h
def ajK.Ol(h:ρ:=by
 have jS:∀t,t<n->wr.cell? (Y g (off+t))=a_ (I (f t)):=λt ht=>(RR.o.2 t ht).1;have KC:Hid (∀m',Cp 281 #[I (f m),I (f h),pT pa] (wr.drewN m') λe w'=>e=rT (I (nU (k (f m)) (k (f h))))/\∃q,w'=(wr.drewN m').drewN q):=λm' =>
  HX.o.cmp (f m) (f h) (wr.drewN m') (HK.o _ oM) (HK.o _ oM) (gx BW.o m')
 have⟨c,hc⟩:∃c,nU (k (f m)) (k (f h))=c:=⟨_,rfl⟩;have kQ:c<0 ↔ k (f m)<k (f h):=by rw[<- hc];exact GC
 rw[hc] at KC;clear hc;by_cases hl:k (f m)<k (f h)
 ·have jy:c<0:=kQ.2 hl
  have kT:decide (c<0)=b_:=fM jy;have Ur:Hid (∀t,h<=t->t<m->k (f m)<k (f t)):=λt h1 h2=>by
   by_cases e:t=h
   ·rw[e];exact hl
   have:=HS.o h t oM oM h2;omega
  clear kQ hl;go_upto_region 17 with fail
  exact Qw
 ·have jy:¬c<0:=λh=>hl (kQ.1 h)
  have kT:decide (c<0)=d_:=fH jy;have Up:Hid (∀t,a<=t->t<h+1->k (f t)<=k (f m)):=λt h1 h2=>by
   by_cases e:t=h
   ·rw[e];omega
   have:=HS.o t h h1 oM oM;omega
  clear kQ hl;go_upto_region 17 with fail
  exact Qx
 ):ρ:=h
def afB(B0:Nat)(w0:Wd)(pa g off cap n a m b:Nat)(k:Int->Int)(ok:Int->Prop)(f:Nat->Int)(w:Wd)(hX:Cx B0 w0 pa g n k ok)(hR:fC g off n f w)(gJ:a+1<m)(hm:b=m+1)(hb:b<=n)(hn:n<=1000000)(fF:∀t,t<n->ok (f t))(hs:nE k f a m)(hB:Below B0 w0 w):
  Cp 309 #[sX (sY g off) n cap,I (a:Int),I (m:Int),I (b:Int),cl pa] w (za g off n a m b k f w):=by
 have HR:=zH hR;have HX:=zH hX;have HB:=zH hB;have HK:=zH fF;have HS:=zH hs;have sy:=GF;have hma:((m:Int)-(a:Int) == 1)=d_:=by rw[gR];omega
 have oU:((b:Int)-(m:Int) == 1)=b_:=by rw[uy];omega
 have Hm:=zH hm;have Es:m<n:=oM;clear hR hX hB fF hs hm;have yH:Hid (B0<=w.1.size):=jT HX.o.g (Bc HR.o.1);go_enter func309,ntmps309;go_wp2_with fail;go_loopw [14,15,16] (λvi vj _ wr=>∃i j:Nat,a<=i/\i<=j/\j<=m/\vi=I (i:Int)/\vj=I (j:Int)/\Hid (∀t,a<=t->t<i->k (f t)<=k (f m))/\Hid (∀t,j<=t->t<m->k (f m)<k (f t))/\Hid (fC g off n f wr)/\Hid (Gr g w wr)) (λvi vj _ _=>(intOf vj).toNat-(intOf vi).toNat)
 case atStart=>exact⟨a,m,jR _,oM,jR _,rfl,rfl,λt h1 h2=>oM,λt h1 h2=>oM,HR,Gr.refl _ _⟩
 obtain⟨i,j,yg,hij,Ex,rfl,rfl,HL,HG,RR,GG⟩:=hrel;by_cases eI:i<j
 ·open ajK in exact Pd
 have nC:¬(i:Int)<(j:Int):=oM;obtain rfl:i=j:=oM;have R0:Hid (fC g off n (fE f m m (m+1)) wr):=by show fC _ _ _ _ _;rw[Ws];exact RR.o
 go_wp2_with fail;go_loopw [17] (λvc w2=>∃c:Nat,i<=c/\c<=m/\vc=I (c:Int)/\Hid (fC g off n (fE f c m (m+1)) w2)/\Hid (Gr g w w2)) (λvc _=>(intOf vc).toNat)
 case atStart=>exact⟨m,oM,jR _,rfl,R0,GG⟩
 clear R0 RR GG;obtain⟨c,Tj,LL,rfl,RR,GG⟩:=hrel;by_cases gE:i<c
 ·have uG:(i:Int)<(c:Int):=oM
  have SX:=zH (Wt (F:=f) (j:=c) (i:=m) oM LL);have⟨G,hG⟩:∃G,fE f c m (m+1)=G:=⟨_,rfl⟩;rw[hG] at RR SX;clear hG;open ak2 in exact IV
 have uG:¬(i:Int)<(c:Int):=oM;obtain rfl:i=c:=oM;have HE:Hid (e_ (fE f i m (m+1)) a b=gW k (e_ f a m) (e_ f m b)):=by
  have qA:=Hm.o;subst qA;show _=_;rw[Xv yg LL HL.o HG.o,De];have:=Xm k (f m) _ (e_ f a m) [] (jR _) (Yr HS.o) List.Pairwise.nil;rw[qe] at this;exact this.symm
 go_wp2_with fail;go_end0
 exact⟨rfl,⟨_,RR.o,HE.o,λt ht=>WV LL (by have:=Hm.o;omega)⟩,GG.o⟩
end Go.Proofs.YtiagfejlmafliaaGreatDoor
