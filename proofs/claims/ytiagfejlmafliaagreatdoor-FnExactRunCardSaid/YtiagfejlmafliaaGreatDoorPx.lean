import Derived.Test.YtiagfejlmafliaaGreatDoorRows
import Derived.LaidLaws
import Derived.LaidMore
import Derived.Lib.LaidTab
import Derived.Stop.LaidErr
import Derived.HandedShaped
import Derived.ChangeSame
import Derived.ChangeVars
import Derived.ChangeMaps5
import Derived.JoinedOf
import Derived.RowKit
import Derived.Test.YtiagfejlmafliaaGreatDoorNof
namespace Go.Proofs.YtiagfejlmafliaaGreatDoor
set_option linter.all false
open Go.Proofs.Tryz Pl
open Go.ChangeShapes Go.WideShapes Go.ChangeAt Go.RowKit Go.Joins
set_option maxRecDepth 100000
set_option maxHeartbeats 16000000
set_option maxRecDepth 100000
open World renaming setCell->ez,alloc->ew
open List renaming range->eA,replicate->eE
open Option renaming some->a_,none->c_
open Bool renaming true->b_,false->d_
def OP:List (DataW Unit)->List Va
 |.lit (.int k z)::r=>.int k z::OP r
 |.lit (.string b)::r=>.string ⟨b.toArray⟩::OP r
 |_=>[]
def cellsIn:DataW Unit->List Va
 |.agg l=>OP l
 |_=>[]
def Yw:DataW Unit->List Va
 |.agg l=>l.flatMap cellsIn
 |.slice l _=>l.flatMap cellsIn
 |_=>[]
noncomputable def FY(os:Os):Wd :=
 { World.holding prog os ⟨#[],#[],[]⟩ with heap:=([
   Obj.cells #[.slice (a_ ⟨12,0,c_⟩) 25 25] 232,
   Obj.cells #[.int .i64 0] 3,
   Obj.cells (Pinned.utf8FirstZ.map λz:Nat=>Value.int .u8 (z:Int)).toArray 275,
   Obj.cells (Yw Rows.laid_unicode_utf8_acceptRanges).toArray 278,
   Obj.cells (cellsIn Rows.laid_internal_strconv_uint64pow10).toArray 292,
   Obj.cells (cellsIn Rows.laid_math_bits_deBruijn32tab).toArray 298,
   Obj.cells (cellsIn Rows.laid_math_bits_deBruijn64tab).toArray 299]++(begin prog (λ_ _=>0) default).world.1.toList.drop 7++[Obj.cells (Yw Rows.laid_loop_example_s02135_impl_meanings).toArray 234]).toArray }
noncomputable abbrev Ca(os:Os)(args:Array Va):Wd:=((FY os).forCall (λ_ _=>0) ⟨#[],args,[]⟩).memory
abbrev QR:List (String × DataW Unit):=Rows.fnExactRunRow.laid.filter λx=>x.2.handleName?.isNone
def lw1(os:Os)(args:Array Va):(DataW.laidRun prog (Ca os args) 8 (QR.map (·.1))).map (·.1)=a_ QR:=kF
def lw2(os:Os)(args:Array Va):(DataW.laidRun prog (Ca os args) 8 (QR.map (·.1))).map (λx=>decide x.2.Nodup && laidRowsB prog (Ca os args) x.2)=a_ b_:=kF
def abI(os:Os)(args:Array Va):laidMetH prog Rows.fnExactRunRow.laid (Ca os args) :=
 laidMetH_of_parts3 (fuel:=8) (laidMet_of_run' 8 (lw1 os args) (lw2 os args)) kF kF
abbrev xC:Array Va:=#[.slice c_ 0 0,.agg #[.slice c_ 0 0,.slice c_ 0 0],.agg #[.int .i64 0,.int .i64 0,.bool d_,.int .i64 0]]
def aeI(os:Os):((FY os).forCall (λ_ _=>0) ⟨#[],xC,[]⟩).Shaped Tryz.checked.prog:=World.shaped_of_RefB kF kF
def anJ(os:Os):Input.okWideB Tryz.checked.prog ((FY os).forCall (λ_ _=>0) ⟨#[],xC,[]⟩) 3 ⟨#[],xC,[]⟩=b_:=kF
def alM(os:Os)(H:Type)(enc:TypeId × Va->H):Rows.fnExactRunSpec.preB enc Tryz.checked.prog Tryz.f3 [] d_ (Ca os xC) xC 8=b_:=kF
def anI(os:Os)(H:Type)(enc:TypeId × Va->H):Rows.fnExactRunSpec.sizedB enc Tryz.checked.prog Tryz.f3 d_ (Ca os xC) xC 8=b_:=kF
open Go.RowKit
set_option maxRecDepth 100000
set_option maxHeartbeats 16000000
open World renaming setCell->ez,alloc->ew
open List renaming range->eA,replicate->eE
open Option renaming some->a_,none->c_
open Bool renaming true->b_,false->d_
def wH(w0:Wd)(t:Nd Sv)(v:Va):Prop:=∀(w:Wd)(B n y:Nat) (x:oA),Below w0.1.size w0 w->w0.1.size<=B->B<=w.1.size->Ts B w (sX x n y) n->n+1000 * t.post.length<=2000000000->Cp 146 #[sX x n y,v] w (TkP B (n+1000 * t.post.length) w)
def acd(s:Sv)(an:oA)(cn mb mo cp:Nat)(w0:Wd)(he:Ev w0 mb mo cp)(hr:j' w0.1.size w0 an s.eF)(hv:∀x∈s.eF,-3000000000<=x/\x<=3000000000)(hln:s.eF.length<=1000):wH w0 (.at s) (.iface 218 (.agg #[sX an s.eF.length cn])):=by
 intro w B n y x hw b0 b1 T hl;have t1:∀w,(Instr.typeAssert (.iface 218 (.agg #[sX an s.eF.length cn])) 192 218 b_).run prog w=.ok (.tuple #[.agg #[sX an s.eF.length cn],.bool b_]) w:=λ_=>kF;have HI:Hid (∀k,k<s.eF.length->∃x nb no,an=sY nb no/\∀wr,Bl w0 wr->cL wr nb (no+k) (I x)/\Cp 175 #[I x] wr (Sg 30 wr)):=λk hk=>by
  rcases hr with e|⟨nb,no,h1,h2,h3⟩
  ·rw[e] at hk;cases hk
  have:=hv _ (lh hk);exact⟨s.eF[k],nb,no,h2,λwr h=>⟨(h.cell (p:=(Y nb (no+k))) h1).trans (h3 k _ (fw hk)),IK (abf _ mb mo cp wr oM oM (he.eG h)) (jT (alI _ oM oM) oM)⟩⟩
 replace hw:=zH hw;replace T:=zH T;have hp:(Nd.at s).post.length=1:=rfl;rw[hp] at hl ⊢;generalize s.eF.length=N at *;go_enter func146,ntmps146;go_wp2_with fail;go_loopw [0,18] (λsv iv wr=>∃k m y':Nat,∃x',k<=N/\iv=I k/\sv=sX x' m y'/\m<=n+k/\Hid (Ts B wr (sX x' m y') m)/\Hid (Below B w wr/\mj w wr)) (λ_ iv _=>N-(intOf iv).toNat)
 case atStart=>exact⟨0,n,y,x,vZ _,rfl,rfl,oM,T.o.below gG,gG,.of gG⟩
 rename Wd=>wo
 obtain⟨k,m,y',x',hk,rfl,rfl,hm,O,BB⟩:=hrel;have bw:=hw.o.trans (BB.o.1.mono b0);have hz:=BB.o.1.size;by_cases eI:k<N
 rotate_left 1
 ·obtain rfl:k=N:=oM
  go_wp2;go_ret
  exact⟨_,_,_,rfl,oM,O.o,BB.o.1,BB.o.2⟩
 obtain⟨z,nb,no,rfl,hc⟩:=HI.o k eI;have⟨cx,K⟩:=hc _ bw;replace K:=zH K;go_wp2_with fail;refine K.o.mono ?_;rintro e w2 ⟨t,rfl,ht,hb⟩;replace hb:=zH hb;have iS:=hb.o.size;go_wp2_with (at_builtin;refine AM rfl (.tmp 22) (.tmp 25) rfl rfl rfl ((O.o.below hb.o).below gG) (Rs.lit [t] J2) J2 J2 ?_)
 intro x3 y3 W T3 B3 Q3;have R:=zH (jA (BB.o.1.trans (((hb.o.alloc iS _).mono oM).trans B3)) (BB.o.2.trans ((mj.of (hb.o.alloc iS _)).trans Q3)));replace T3:=zH T3;go_wp2;go_roundw
 case rel=>exact⟨k+1,_,_,_,oM,gN,rfl,by first | omega | (simp;omega),T3,R⟩
 simp[intOf];omega
def ace(s:Sv)(w0:Wd)(hz:s.nm.length<=30):wH w0 (.at s) (.iface 220 (.agg #[.string (Pl.ba s.nm)])):=by
 intro w B n y x hw b0 b1 T hl;have t1:∀w,(Instr.typeAssert (.iface 220 (.agg #[.string (Pl.ba s.nm)])) 192 218 b_).run prog w=.ok (.tuple #[.agg #[nJ],.bool d_]) w:=λ_=>kF;have t2:∀w,(Instr.typeAssert (.iface 220 (.agg #[.string (Pl.ba s.nm)])) 192 220 b_).run prog w=.ok (.tuple #[.agg #[.string (Pl.ba s.nm)],.bool b_]) w:=λ_=>kF;rw[<- xf] at hz;replace T:=zH T;have hp:(Nd.at s).post.length=1:=rfl;rw[hp] at hl ⊢;generalize Pl.ba s.nm=nm at *;go_enter func146,ntmps146;go_wp2_with (at_builtin;refine AM rfl (.tmp 31) (.tmp 34) rfl rfl rfl (T.o.below gG) (Rs.lit [nm] J2) J2 J2 ?_)
 intro x3 y3 W T3 B3 Q3;have R:=zH (jA (AY (by go_grown:Below B w _) B3) (mj.trans (mj.of (by go_grown:Bl w _)) Q3));replace T3:=zH T3;go_wp2;go_ret
 exact⟨_,_,_,rfl,by simp <;> omega,T3.o,R.o.1,R.o.2⟩
def acg(s:Sv)(r:Nd Sv)(vr:Va)(mb mo cp:Nat)(w0:Wd)(he:Ev w0 mb mo cp)(hi:∃T p,vr=.iface T p)(hc:wH w0 r vr)(hn:s.fn.k=10->s.fn.nm.length<=30):wH w0 (.one s r) (.iface 222 (.agg #[I s.fn.k,I s.fn.a,I s.fn.b,.string (Pl.ba s.fn.nm),vr])):=by
 intro w B n y x hw b0 b1 T hl;obtain⟨Tr,p,rfl⟩:=hi;have KF:=zH λw' (h:Bl w0 w')=>Vi s.fn mb mo cp w' (he.eG h).mt hn;replace hc:=zH hc;have hp:(Nd.one s r).post.length=r.post.length+1:=by simp[Nd.post]
 rw[hp] at hl ⊢;generalize s.fn.k=fk,s.fn.a=fa,s.fn.b=fb,Pl.ba s.fn.nm=nm at *;generalize hv:Value.agg #[I fk,I fa,I fb,.string nm,.iface Tr p]=V;have t1:∀w,(Instr.typeAssert (.iface 222 V) 192 218 b_).run prog w=.ok (.tuple #[.agg #[nJ],.bool d_]) w:=λ_=>kF;have t2:∀w,(Instr.typeAssert (.iface 222 V) 192 220 b_).run prog w=.ok (.tuple #[.agg #[.string ⟨#[]⟩],.bool d_]) w:=λ_=>kF;have t3:∀w,(Instr.typeAssert (.iface 222 V) 192 222 b_).run prog w=.ok (.tuple #[V,.bool b_]) w:=λ_=>kF;subst hv;replace hw:=zH hw;replace T:=zH T;go_enter func146,ntmps146;go_wp2_with fail;refine(KF.o _ (hw.o.trans gG)).mono ?_;rintro e w1 ⟨x1,m,y1,rfl,hm,R,hb⟩;have B1:Bx w1 w.1.size _ _:=.below (.eK rfl) hb;have T1:=(T.o.below gG).below hb;replace hb:=zH (bv (w:=w) hb);have hz:=hb.o.size;replace T1:=zH T1;replace R:=zH R;replace B1:=zH B1;go_wp2_with (at_builtin;refine AM rfl (.tmp 39) (.tmp 42) rfl rfl rfl T1.o R.o oM oM ?_)
 intro x3 y3 W T3 B3 Q3;obtain⟨c2,f2,z2⟩:=(Q3.2 _ _ _ B1.o dC).all;have RR:=zH (jA ((hb.o.mono b1).trans B3) ((mj.of hb.o).trans Q3));have K:=zH (hc.o W B (n+m) y3 x3 (hw.o.trans (RR.o.1.mono b0)) b0 (jT b1 RR.o.2.1) T3 oM);exact Ο
def abe(w0:Wd)(t:Nd Sv)(v:Va)(hk:CJ t v)(hc:wH w0 t v)(w:Wd)(B n y:Nat)(x:oA)(hw:Bl w0 w)(b0:w0.1.size<=B)(b1:B<=w.1.size)(T:Ts B w (sX x n y) n)(hl:n+1000 * t.post.length+2<=2000000000):Cp 177 #[sX x n y,v] w (TkP B (n+1000 * t.post.length+2) w):=by
 obtain⟨T',p,fn,fb,rfl,m1,m2,e1,e2,k1,k2⟩:=hk;have KB:=zH k2;replace hc:=zH hc;replace hw:=zH hw;replace T:=zH T;generalize sV t=bb at *
 cases bb
 rotate_left 1
 ·go_enter func177,ntmps177
  go_wp2_with fail;refine(KB.o _).k λw1 hb=>?_;have K:=zH (hc.o w1 B n y x (hw.o.trans (hb.mono (jT b0 b1))) b0 (jT b1 hb.size) (T.o.below hb) oM);replace hb:=zH hb;go_wp2_with fail;refine K.o.mono ?_;rintro e w4 ⟨x4,m4,y4,rfl,nI,T4,B4,Q4⟩;have R4:=zH (jA T4 (jA ((hb.o.mono b1).trans B4) ((mj.of hb.o).trans Q4)));go_wp2;go_ret
  exact⟨_,_,_,rfl,oM,R4.o⟩
 go_enter func177,ntmps177;go_wp2_with fail;refine(KB.o _).k λw1 hb=>?_;have T1:=zH (T.o.below hb);replace hb:=zH hb;have hz:=hb.o.size;go_wp2_with (at_builtin;refine AM rfl (.tmp 10) (.tmp 11) rfl rfl rfl (T1.o.below gG) (Rs.lit [⟨#[40]⟩] (by simp[tD])) J2 J2 ?_)
 intro x3 y3 W T3 B3 Q3;have RR:=zH (jA (AY (((hb.o.alloc hz _).mono b1):Below B w _) B3) (mj.trans (mj.of (hb.o.alloc hz _)) Q3));have K:=zH (hc.o W B (n+1) y3 x3 (hw.o.trans (RR.o.1.mono b0)) b0 (jT b1 RR.o.2.1) T3 oM);go_wp2_with fail;refine K.o.mono ?_;rintro e w4 ⟨x4,m4,y4,rfl,nI,T4,B4,Q4⟩;have R4:=zH (jA (RR.o.1.trans B4) (RR.o.2.trans Q4));have hz4:=R4.o.2.1;replace T4:=zH T4;go_wp2_with (at_builtin;refine AM rfl (.tmp 14) (.tmp 15) rfl rfl rfl (T4.o.below gG) (Rs.lit [⟨#[41]⟩] (by simp[tD])) J2 J2 ?_)
 intro x3 y3 W5 T3 B3 Q3;have RR:=zH (jA T3 (jA (R4.o.1.trans (AY gG B3)) (R4.o.2.trans (mj.trans (mj.of gG) Q3))));go_wp2;go_ret
 exact⟨_,_,_,rfl,by simp <;> omega,RR.o⟩
def acf(s:Sv)(l r:Nd Sv)(vl vr:Va)(mb mo cp:Nat)(w0:Wd)(he:Ev w0 mb mo cp)(hk:CJ l vl)(hi:∃T p,vr=.iface T p)(jy:wH w0 l vl)(hc:wH w0 r vr)(hn:s.fn.k=10->s.fn.nm.length<=30):wH w0 (.two s l r) (.iface 225 (.agg #[vl,I s.fn.k,I s.fn.a,I s.fn.b,.string (Pl.ba s.fn.nm),vr])):=by
 intro w B n y x hw b0 b1 T hl;obtain⟨Tr,p,rfl⟩:=hi;have KF:=zH λw' (h:Bl w0 w')=>Vi s.fn mb mo cp w' (he.eG h).mt hn;replace hc:=zH hc;have KO:=zH λw' (h:Bl w w')=>abe w0 l vl hk jy w' B n y x (hw.trans (h.mono (jT b0 b1))) b0 (jT b1 h.size) (T.below h) (by simp[Nd.post] at hl;omega);have hp:(Nd.two s l r).post.length=r.post.length+l.post.length+1:=by simp[Nd.post];omega
 rw[hp] at hl ⊢;obtain⟨Tl,pl,_,_,rfl,_⟩:=hk;generalize s.fn.k=fk,s.fn.a=fa,s.fn.b=fb,Pl.ba s.fn.nm=nm at *;generalize hv:Value.agg #[.iface Tl pl,I fk,I fa,I fb,.string nm,.iface Tr p]=V;have t1:∀w,(Instr.typeAssert (.iface 225 V) 192 218 b_).run prog w=.ok (.tuple #[.agg #[nJ],.bool d_]) w:=λ_=>kF;have t2:∀w,(Instr.typeAssert (.iface 225 V) 192 220 b_).run prog w=.ok (.tuple #[.agg #[.string ⟨#[]⟩],.bool d_]) w:=λ_=>kF;have t3:∀w,(Instr.typeAssert (.iface 225 V) 192 222 b_).run prog w=.ok (.tuple #[.agg #[I 0,I 0,I 0,.string ⟨#[]⟩,.nilIface],.bool d_]) w:=λ_=>kF;have t4:∀w,(Instr.typeAssert (.iface 225 V) 192 225 b_).run prog w=.ok (.tuple #[V,.bool b_]) w:=λ_=>kF;subst hv;replace hw:=zH hw;go_enter func146,ntmps146;go_wp2_with fail;have B0:=zH (Bx.new w #[.iface Tl pl,I fk,I fa,I fb,.string nm,.iface Tr p] 225);refine(KO.o _ gG).mono ?_;rintro e w5 ⟨x5,m5,y5,rfl,hm5,T5,B5,Q5⟩;have X5:=Q5.2 _ _ _ B0.o dC;have R5:=zH (jA (AY (by go_grown:Below B w _) B5) (mj.trans (mj.of (by go_grown:Bl w _)) Q5));have hz5:=R5.o.2.1;obtain⟨c5,f5,z5⟩:=X5.all;replace X5:=zH X5;replace T5:=zH T5;go_wp2_with fail;refine(KF.o _ (hw.o.trans (R5.o.1.mono b0))).mono ?_;rintro e w1 ⟨x1,m,y1,rfl,hm,R,hb⟩;have B1:=zH (X5.o.below hb);have T1:=zH (T5.o.below hb);replace hb:=zH hb;have hz:=hb.o.size;replace R:=zH R;go_wp2_with (at_builtin;refine AM rfl (.tmp 55) (.tmp 58) rfl rfl rfl T1.o R.o oM oM ?_)
 intro x3 y3 W T3 B3 Q3;obtain⟨c2,f2,z2⟩:=(Q3.2 _ _ _ B1.o dC).all;have RR:=zH (jA (R5.o.1.trans ((hb.o.mono oM).trans B3)) (R5.o.2.trans ((mj.of hb.o).trans Q3)));have K:=zH (hc.o W B (m5+m) y3 x3 (hw.o.trans (RR.o.1.mono b0)) b0 (jT b1 RR.o.2.1) T3 oM);exact Ο
def aaq{s:Sv}(h:Pl.fj s=b_)(h0:Pl.ar s ≠ 0):s.fn.k=10->s.fn.nm.length<=30:=λe=>jT (GW (by rw[ah0 h h0 e];decide)) oM
def acb(mb mo cp:Nat)(w0:Wd)(he:Ev w0 mb mo cp):∀(t:Nd Sv)(v:Va),ia w0.1.size w0 t v->t.Wf Pl.ar->t.post.length<=1048576->(∀s∈t.post,Pl.fj s=b_)->wH w0 t v:=by
 intro t;induction t with
 |«at» s =>
  intro v hv _ hl hs;have oN:=hs s (by simp[Nd.post]);rcases hv with ⟨hk,an,cn,rfl,hr⟩|⟨hk,rfl⟩
  ·exact acd s an cn mb mo cp w0 he hr (Gf oN hk).1 (Gf oN hk).2
  refine ace s w0 (jT (GW ?_) oM);unfold Pl.fj at oN;rw[eB oM,eD hk] at oN;simp only[fO,fQ] at oN;rw[oN.1.1];decide
 |one s r ih =>
  intro v hv hw hl hs;obtain⟨vr,rfl,hr⟩:=hv;simp only[Nd.post,hJ,fW,iA] at hl;exact acg s r vr mb mo cp w0 he hr.iface (ih vr hr hw.2 oM (λx hx=>hs x JY)) (aaq (hs s (by simp[Nd.post])) (by rw[hw.1];decide))
 |two s l r il ir =>
  intro v hv hw hl hs;obtain⟨vl,vr,rfl,hvl,hvr⟩:=hv;simp only[Nd.post,hJ,fW,iA] at hl;exact acf s l r vl vr mb mo cp w0 he (hvl.nsk oM) hvr.iface (il vl hvl hw.2.1 oM (λx hx=>hs x JY)) (ir vr hvr hw.2.2 oM (λx hx=>hs x JY)) (aaq (hs s (by simp[Nd.post])) (by have:=hw.1;omega))
def rG(N:Nat)(b:Bool)(w:Wd)(e:Ending)(w':Wd):Prop:=∃s:bA,e=rT (.tuple #[.string s,.bool b])/\s.size<=N/\Below w.1.size w w'
def rG.mk{N:Nat}{r b:Bool}{w w':Wd}(s:bA)(h:r=b)(hs:s.size<=N)(hb:Bl w w'):rG N r w (rT (.tuple #[.string s,.bool b])) w':=⟨s,by rw[h],hs,hb⟩
def ia.up{B B':Nat}{w:Wd}(hb:B<=B'):∀{t:Nd Sv}{v:Va},ia B w t v->ia B' w t v:=by
 intro t;induction t with
 |«at» s=>exact λh=>h.imp (λ⟨h1,an,cn,h2,h3⟩=>⟨h1,an,cn,h2,h3.up hb⟩) id
 |one s r ih=>exact λ⟨vr,h1,h2⟩=>⟨vr,h1,ih h2⟩
 |two s l r il ir=>exact λ⟨vl,vr,h1,h2,h3⟩=>⟨vl,vr,h1,il h2,ir h3⟩
def Pl.aei{c:List Sv}{t:Nd Sv}(h:run Pl.ar c []=a_ [t]):c=t.post/\t.Wf Pl.ar:=by
 have⟨hp,hw⟩:=C_ _ _ _ _ ((NR c t).1 h);exact⟨by simpa using lQ List.reverse hp,hw⟩
def Nf(c:List Sv)(ao:oA)(cap mb mo cp:Nat)(fJ:Small c)(w:Wd)(he:Ev w mb mo cp)(hR:gf w.1.size w ao c):
  Cp 112 #[sX ao c.length cap] w (rG (31000 * c.length) (xB c) w):=by
 have K:=zH (ady c ao cap mb mo cp fJ w he.mt hR);have HL:=fJ.len;replace he:=zH he;have⟨r,hr⟩:=jN (xB c);rw[hr.o];generalize jy:c.length=L at *;replace jy:=zH jy;go_enter func112,ntmps112;go_wp2_with fail;refine K.o.mono ?_;rintro e w1 ⟨hb1,⟨t,v,lV,zE,rfl,hv⟩|⟨sr,rfl⟩⟩
 rotate_left 1
 ·have nH:=zH (hr.o.symm.trans (alf sr))
  replace hb1:=zH hb1;go_wp2;go_ret2
  exact .mk ⟨#[]⟩ nH.o (vZ _) hb1.o
 have⟨hp,hwf⟩:=aei zE;have HX:=zH (hr.o.symm.trans (σ (υ.1 zE) (ga.1 lV)));have hL:t.post.length=L:=by rw[<- hp,jy.o]
 have hl:t.post.length<=1048576:=oM;have xZ:=hv.up hb1.size;have TC:=zH (acb mb mo cp w1 (he.o.eG hb1) t v xZ hwf hl (by rw[<- hp];exact ga.1 lV));obtain⟨T,p,fn,fb,rfl,m1,m2,e1,e2,k1,k2⟩:=xZ.nsk hl;have KN:=zH k1;have hq:=Gw t;replace hb1:=zH hb1;generalize nest t=q at *;go_wp2_with fail;refine(KN.o _).k λw2 hb2=>?_;have K2:=zH (TC.o w2 w1.1.size 0 0 c_ hb2 (jR _) hb2.size ⟨[],rfl,sI,IE _ _ _ _⟩ oM);have BB:=zH (bv hb2 hb1.o);by_cases hq4:q<=40
 ·have nH:=zH (HX.o.trans (fM hq4))
  have Cg:¬((q:Int) > 40):=oM;go_wp2_with fail;refine K2.o.mono ?_;rintro e w3 ⟨x3,n3,y3,rfl,hm,T3,B3,_⟩;have K3:=zH (afz x3 n3 y3 w3 oM T3.cells);replace BB:=zH (BB.o.trans (B3.mono hb1.o.size));go_wp2_with fail;refine K3.o.mono ?_;rintro e w4 ⟨s,rfl,hs,hb⟩;replace hb:=zH (bv hb BB.o);go_wp2;go_ret2
  exact .mk s nH.o oM hb.o
 have nH:=zH (HX.o.trans (fH hq4));have Cg:(q:Int) > 40:=oM;go_wp2;go_ret2
 exact .mk ⟨#[]⟩ nH.o (vZ _) BB.o
def Pl.ND(c:List Sv):c.length<=h_ c:=by have:=AX c;omega
def tC(x y:UInt8):(⟨#[x,y]⟩:bA).size=2:=rfl
def tB(x y z:UInt8):(⟨#[x,y,z]⟩:bA).size=3:=rfl
def acs(gs:List Gv)(ao:oA)(cap mb mo cp:Nat)(fJ:∀g∈gs,Small g.test/\Small g.eT)(hz:gs.length+gw gs gs.length<=1048576)(w:Wd)(he:Ev w mb mo cp)(hR:iG w.1.size w ao gs):
  Cp 113 #[sX ao gs.length cap] w (rG (31000 * gw gs gs.length+5 * gs.length) (gs.all gB) w):=by
 have⟨r,hr⟩:=jN (gs.all gB);rw[hr.o];have HG:Hid (∀k,k<gs.length->∃(g:Gv)(b off:Nat) (a1 a2:oA) (c1 c2:Nat),ao=sY b off/\(gB g=d_->r=d_)/\(gs.take (k+1)).all gB=((gs.take k).all gB && gB g)/\gw gs (k+1)=gw gs k+qE g/\gw gs (k+1)<=gw gs gs.length/\∀w',Bl w w'->cL w' b (off+k * 2) (sX a1 g.test.length c1)/\cL w' b (off+k * 2+1) (sX a2 g.eT.length c2)/\Cp 112 #[sX a1 g.test.length c1] w' (rG (31000 * g.test.length) (xB g.test) w')/\Cp 112 #[sX a2 g.eT.length c2] w' (rG (31000 * g.eT.length) (xB g.eT) w')):=λk hk=>by
  rcases hR with rfl|⟨b,off,hb,rfl,hc⟩
  ·cases hk
  have hg:=fw hk;have hm:=lh hk;have⟨a1,a2,c1,c2,h⟩:=hc k gs[k] hg;refine⟨gs[k],b,off,a1,a2,c1,c2,rfl,λe=>hr.o.symm.trans (ZJ hm e),XA hg,No hg,N_ _ _,λw' hw=>?_⟩;have⟨g0,g1,r0,r1⟩:=h.eG hb hw;exact⟨g0,g1,Nf _ a1 c1 mb mo cp (fJ _ hm).1 w' (he.eG hw) (r0.up hw.size),Nf _ a2 c2 mb mo cp (fJ _ hm).2 w' (he.eG hw) (r1.up hw.size)⟩
 have HE:Hid ((gs.take gs.length).all gB=b_->r=b_):=λh=>by rw[km] at h;rw[<- hr.o,h]
 have T0:=zH (oX.new w);have h0:Hid ((gs.take 0).all gB=b_/\gw gs 0=0):=⟨rfl,rfl⟩;generalize gw gs gs.length=N at *;generalize gs.length=n at *;go_enter func113,ntmps113;go_wp2_with fail;go_loopw [13] (λiv wr=>∃k m:Nat,k<=n/\iv=I k/\Hid (m<=31000 * gw gs k+5 * k/\gw gs k<=N/\(gs.take k).all gB=b_)/\Hid (oX w.1.size w.1.size m wr)/\Hid (Bl w wr)) (λiv _=>n-(intOf iv).toNat)
 case atStart=>exact⟨0,0,vZ _,rfl,⟨vZ _,by rw[h0.o.2];omega,h0.o.1⟩,T0,by show Below _ _ _;go_grown⟩
 rename Wd=>wo
 obtain⟨k,m,hk,rfl,hm,X,BX⟩:=hrel;by_cases eI:k<n
 rotate_left 1
 ·obtain rfl:k=n:=oM
  have K:=zH (OC X.o);have HR:=zH (HE.o hm.o.2.2);go_wp2_with fail;refine K.o.mono ?_;rintro e w' ⟨⟨s,rfl,hs⟩,hb⟩;replace hb:=zH (BX.o.trans hb);go_wp2;go_ret2
  exact .mk s HR.o (by have:=hm.o;omega) hb.o
 obtain⟨g,b,off,a1,a2,c1,c2,rfl,hbad,lV,tf,hN,hc⟩:=HG.o k eI;obtain⟨g0,g1,-,-⟩:=hc _ BX.o;have K:=zH λw' h=>hc w' (BX.o.trans (ID h BX.o.size));have F:=zH (jA hbad (jA lV (jA tf hN)));have Ly:Hid (g.test.length+g.eT.length<=qE g):=Nat.add_le_add (ND _) (ND _);have Lz:Hid ((xB g.test && xB g.eT)=gB g):=rfl;generalize gB g=gb at *;generalize xB g.test=x1,xB g.eT=x2,g.test.length=l1,g.eT.length=l2,qE g=z at *;go_wp2_with fail;refine(K.o _ gG).2.2.1.mono ?_;rintro e w2 ⟨s1,rfl,z1,hb2⟩;obtain⟨d2,f2,y2⟩:=(Bx.below (.eK rfl) hb2:Bx w2 wo.1.size _ _).all;replace hb2:=zH (bv (w:=wo) hb2);go_wp2_with fail;refine(K.o _ hb2.o).2.2.2.mono ?_;rintro e w3 ⟨s2,rfl,z2,eV⟩;replace eV:=zH (bv eV hb2.o);have BW:=zH (BX.o.trans (eV.o.mono BX.o.size));have X3:=zH (X.o.eG eV.o)
 cases x1
 ·have HR:=zH (F.o.1 Lz.o.symm)
  go_wp2;go_ret2
  exact .mk ⟨#[]⟩ HR.o (vZ _) BW.o
 cases x2
 ·have HR:=zH (F.o.1 Lz.o.symm)
  go_wp2;go_ret2
  exact .mk ⟨#[]⟩ HR.o (vZ _) BW.o
 have lV:=F.o.2.1;have tf:=F.o.2.2.1;have hN:=F.o.2.2.2;have oQ:=hm.o;have apN:=Ly.o;have m1:¬(9223372036854775807<s1.size+3):=oM;have m2:¬(9223372036854775807<s1.size+3+s2.size):=oM;have m3:¬(9223372036854775807<s1.size+3+s2.size+2):=oM;have KW:=zH (Oz (s1++⟨#[32,58,32]⟩++s2++⟨#[59,32]⟩) X3.o (by simp[rV,tC,tB];omega) BW.o.size);have hL:(s1++⟨#[32,58,32]⟩++s2++⟨#[59,32]⟩:bA).size<=31000 * z+5:=by simp[rV,tC,tB];omega
 have NX:=zH (show (gs.take (k+1)).all gB=b_ by rw[lV,oQ.2.2,<- Lz.o];rfl);have SX:Hid (∀q,q<=31000 * z+5->m+q<=31000 * gw gs (k+1)+5 * (k+1)/\gw gs (k+1)<=N):=λq hq=>⟨oM,oM⟩;replace hL:=zH hL;go_wp2_with fail;refine KW.o.mono ?_;rintro e w4 ⟨rfl,h1,h2⟩;have X4:=zH h1;have B4:=zH (BW.o.trans h2);have S4:=zH (SX.o _ hL.o);go_wp2;go_roundw
 case rel=>exact⟨k+1,_,oM,gN,⟨S4.o.1,S4.o.2,NX.o⟩,X4,B4⟩
 simp[intOf];omega
variable {ρ:Prop}
section
section
variable {ops:Array Oper} {Q:Exit->Act->Wd->Prop} {S:Wd->Prop} {fuel:Nat} {listed:Array Bool} {a:Act} {w:Wd}
def tn(i:Nat){o:Oper}(hi:ops[i]? = a_ o)(hS:S w)(h:wpAnyH prog .any ops Q S fuel (listed.setIfInBounds i b_) (a.put o.dst undef) w)(hQ:∀c a w,Q (.panic c) (a.put o.dst undef) w->Q (.panic c) a w:=by exact λ_ _ _ h=>h)(hs:Region.noSelect ops=b_:=by kernel_rfl)(hf:Region.free .any ops listed i=b_:=by kernel_rfl)(hr:(Region.ready .any ops listed).contains i=b_:=by kernel_rfl)(hw:Region.wanted o (yielded ops a.tmps)=d_:=by kernel_rfl):wpAnyH prog .any ops Q S (fuel+1) listed a w :=
 wpAnyH_take hi hs hf hr hQ (Or.inr ⟨hw,rfl⟩) hS h
end
def sz4(x y z u:UInt8):(⟨#[x,y,z,u]⟩:bA).size=4:=rfl
def I'(h:ρ:=by
 replace Z:=zH Z;go_simp;go_wp2;go_ret2
 exact Z.o):ρ:=h
def sz5(x y z u v:UInt8):(⟨#[x,y,z,u,v]⟩:bA).size=5:=rfl
def gz(G:Nat):((G:Int) == 0)=decide (G=0):=by by_cases h:G=0 <;> simp[h]
def adi(s:Pl.Tv)(a1 a2:oA)(c1 c2 mb mo cp:Nat)(fJ:DN s)(hz:s.gs.length+gw s.gs s.gs.length<=1048576)(w:Wd)(he:Ev w mb mo cp)(hc:gf w.1.size w a1 s.code)(hg:iG w.1.size w a2 s.gs):
  Cp 84 #[.agg #[I s.k,.string (Pl.ba s.nm),sX a1 s.code.length c1,sX a2 s.gs.length c2]] w (rG (31005 * jX s+1048600) (Pl.fA s) w):=by
 have⟨r,hr⟩:=jN (Pl.fA s);rw[hr.o];have HR:Hid (r=(xB s.code && (decide (s.k=3) || decide (s.gs.length=0)) && (!(decide (s.k=1)) || decide (s.nm=[])) && (!(decide (s.k=2)) || decide (Pl.wk s.nm=2)) && (!(decide (s.k=3)) || (decide (Pl.wk s.nm=3) && !(decide (s.nm=lL)))) && decide (1<=s.k) && decide (s.k<=3) && s.gs.all gB)):=by
  show r=_;rw[<- hr.o,show decide (s.gs.length=0)=decide (s.gs=[]) by simp[lP]];rfl
 have K1:=zH λw' h=>Nf s.code a1 c1 mb mo cp fJ.code w' (he.eG h) ((hc.eG h).up (DC h));have K2:=zH λw' h=>acs s.gs a2 c2 mb mo cp fJ.gs hz w' (he.eG h) ((hg.eG h).up (DC h));have KW:=zH λw' h=>MU (Pl.ba s.nm) mb mo cp w' (he.eG h).mt (by rw[xf];have:=fJ.nm;omega);rw[Xq] at KW;have oP:=xu s.nm;have Ll:=VY s.nm;have Lp:(Pl.ba s.nm).size<=1048576:=fJ.nm;have hL:31000 * s.code.length+(31000 * gw s.gs s.gs.length+5 * s.gs.length)<=31005 * jX s:=by have:=AO s;have:=ND s.code;omega
 have jy:=fJ.code.len;generalize xB s.code=x1,s.gs.all gB=x2,Pl.wk s.nm=z,decide (s.nm=[])=n0,decide (s.nm=lL)=ns,gw s.gs s.gs.length=gm,jX s=M,s.gs.length=G,s.code.length=cl,s.k=kk,Pl.ba s.nm=nm at *;go_enter func84,ntmps84;go_wp2_with fail;refine(K1.o _ gG).mono ?_;rintro e w2 ⟨se,rfl,z1,hb2⟩;have B2:Bx w2 w.1.size _ _:=.below (.eK rfl) hb2;obtain⟨d2,f2,y2⟩:=B2.all;replace B2:=zH B2;replace hb2:=zH (bv (w:=w) hb2);go_wp2_with fail;refine(K2.o _ hb2.o).mono ?_;rintro e w3 ⟨sg,rfl,z2,eV⟩;have B3:=zH (B2.o.below eV);replace eV:=zH (bv eV hb2.o);obtain⟨d3,f3,y3⟩:=B3.o.all
 cases x1
 ·go_wp2
  go_ret2
  exact .mk ⟨#[]⟩ (by rw[HR.o];rfl) (vZ _) eV.o
 cases x2
 ·go_wp2
  go_ret2
  exact .mk ⟨#[]⟩ (by rw[HR.o,H_]) (vZ _) eV.o
 have m1:¬(9223372036854775807<nm.size+4):=oM;have m2:¬(9223372036854775807<nm.size+4+se.size):=oM;have m3:¬(9223372036854775807<nm.size+5):=oM;have m4:¬(9223372036854775807<nm.size+5+sg.size):=oM;have m5:¬(9223372036854775807<nm.size+5+sg.size+se.size):=oM;have m6:¬(9223372036854775807<nm.size+5+sg.size+se.size+1):=oM;by_cases k1:kk=1
 ·subst k1
  cases n0
  all_goals
   go_wp2_with fail;go_quiet (fail)
   go_wp2;go_ret2
   exact .mk se (by rw[HR.o];simp[gz]) oM (gx eV.o _)
 by_cases k2:kk=2
 ·subst k2
  go_wp2_with fail;refine Bi (S:=λW=>Bx W w.1.size #[I 2,.string nm,sX a1 cl c1,sX a2 G c2] 60/\Bl w W) kF ?_;change wpAnyH _ _ _ _ _ _ _ _ (World.drew _);have hS:Bx w3.drew w.1.size #[I 2,.string nm,sX a1 cl c1,sX a2 G c2] 60/\Bl w w3.drew:=⟨B3.o,eV.o.drew⟩;generalize World.drew w3=wd at hS ⊢;refine tk 0 (.pointer (sY w.1.size 1)) rfl hS (λ_ _=>kF) ?_;refine tk 1 (.string nm) rfl hS (λW h=>by have:=h.1.cf.1 1;go_simp) ?_;refine tk 2 (.string (nm++⟨#[32,58,61,32]⟩)) rfl hS (λ_ _=>by go_simp) ?_;refine tk 3 (.string se) rfl hS (λ_ _=>kF) ?_;refine tk 4 (.string (nm++⟨#[32,58,61,32]⟩++se)) rfl hS (λ_ _=>by go_simp) ?_;refine tk 5 (.pointer (sY w.1.size 1)) rfl hS (λ_ _=>kF) ?_;refine tk 6 (.string nm) rfl hS (λW h=>by have:=h.1.cf.1 1;go_simp) ?_;refine tc 7 _ _ rfl rfl kF ((KW.o _ hS.2).mono ?_);rintro e w4 ⟨rfl,fZ⟩;have S4:=jA (hS.1.below fZ) (bv fZ hS.2);refine .inl ⟨_,rfl,S4,?_⟩
  cases hz:(z == 2)
  ·refine tk 8 (.bool d_) rfl S4 (λ_ _=>by go_simp) ?_
   refine tk 9 (.bool d_) rfl S4 (λ_ _=>kF) ?_;refine tn 10 rfl S4 (tn 11 rfl S4 (tn 12 rfl S4 (tn 13 rfl S4 ?_)));refine tk 14 (.bool d_) rfl S4 (λ_ _=>kF) ?_;refine tk 15 (.string (nm++⟨#[32,58,61,32]⟩++se)) rfl S4 (λ_ _=>kF) ?_;refine tk 16 (.bool d_) rfl S4 (λ_ _=>kF) (te ?_);have Z:rG (31005 * M+1048600) r w (rT (.tuple #[.string (nm++⟨#[32,58,61,32]⟩++se),.bool d_])) w4:=.mk _ (by rw[HR.o];simp at hz;simp[hz]) (by simp[rV,sz4];omega) S4.2;exact I'
  refine tk 8 (.bool b_) rfl S4 (λ_ _=>by go_simp) ?_;refine tk 9 (.bool b_) rfl S4 (λ_ _=>kF) ?_;refine tk 10 (.pointer (sY w.1.size 3)) rfl S4 (λ_ _=>kF) ?_;refine tk 11 (sX a2 G c2) rfl S4 (λW h=>by have:=h.1.cf.1 3;go_simp) ?_;refine tk 12 (I (G:Int)) rfl S4 (λ_ _=>by go_simp) ?_;refine tk 13 (.bool ((G:Int) == 0)) rfl S4 (λ_ _=>by go_simp) ?_;refine tk 14 (.bool ((G:Int) == 0)) rfl S4 (λ_ _=>kF) ?_;refine tk 15 (.string (nm++⟨#[32,58,61,32]⟩++se)) rfl S4 (λ_ _=>kF) ?_;refine tk 16 (.bool ((G:Int) == 0)) rfl S4 (λ_ _=>kF) (te ?_);have Z:rG (31005 * M+1048600) r w (rT (.tuple #[.string (nm++⟨#[32,58,61,32]⟩++se),.bool ((G:Int) == 0)])) w4:=.mk _ (by rw[HR.o];simp at hz;simp[hz,gz]) (by simp[rV,sz4];omega) S4.2;exact I'
 by_cases k3:kk=3
 ·subst k3
  go_wp2_with fail;refine Bi (S:=λW=>Bx W w.1.size #[I 3,.string nm,sX a1 cl c1,sX a2 G c2] 60/\Bl w W) kF ?_;change wpAnyH _ _ _ _ _ _ _ _ (World.drew _);have hS:Bx w3.drew w.1.size #[I 3,.string nm,sX a1 cl c1,sX a2 G c2] 60/\Bl w w3.drew:=⟨B3.o,eV.o.drew⟩;generalize World.drew w3=wd at hS ⊢;refine tk 0 (.pointer (sY w.1.size 1)) rfl hS (λ_ _=>kF) ?_;refine tk 1 (.string nm) rfl hS (λW h=>by have:=h.1.cf.1 1;go_simp) ?_;refine tk 2 (.string (nm++⟨#[32,58,61,32,123]⟩)) rfl hS (λ_ _=>by go_simp) ?_;refine tk 3 (.string sg) rfl hS (λ_ _=>kF) ?_;refine tk 4 (.string (nm++⟨#[32,58,61,32,123]⟩++sg)) rfl hS (λ_ _=>by go_simp) ?_;refine tk 5 (.string se) rfl hS (λ_ _=>kF) ?_;refine tk 6 (.string (nm++⟨#[32,58,61,32,123]⟩++sg++se)) rfl hS (λ_ _=>by go_simp) ?_;refine tk 7 (.string (nm++⟨#[32,58,61,32,123]⟩++sg++se++⟨#[125]⟩)) rfl hS (λ_ _=>by go_simp) ?_;refine tk 8 (.pointer (sY w.1.size 1)) rfl hS (λ_ _=>kF) ?_;refine tk 9 (.string nm) rfl hS (λW h=>by have:=h.1.cf.1 1;go_simp) ?_;refine tc 10 _ _ rfl rfl kF ((KW.o _ hS.2).mono ?_);rintro e w4 ⟨rfl,fZ⟩;have S4:=jA (hS.1.below fZ) (bv fZ hS.2);have zz:(nm++⟨#[32,58,61,32,123]⟩++sg++se++⟨#[125]⟩).size<=31005 * M+1048600:=by simp[rV,tD,sz5];omega
  refine .inl ⟨_,rfl,S4,?_⟩
  cases hz:(z == 3)
  ·refine tk 11 (.bool d_) rfl S4 (λ_ _=>by go_simp) ?_
   refine tk 12 (.bool d_) rfl S4 (λ_ _=>kF) ?_;refine tn 13 rfl S4 (tn 14 rfl S4 (tn 15 rfl S4 ?_));refine tk 16 (.bool d_) rfl S4 (λ_ _=>kF) ?_;refine tk 17 (.string (nm++⟨#[32,58,61,32,123]⟩++sg++se++⟨#[125]⟩)) rfl S4 (λ_ _=>kF) ?_;refine tk 18 (.bool d_) rfl S4 (λ_ _=>kF) (te ?_);have Z:rG (31005 * M+1048600) r w (rT (.tuple #[.string (nm++⟨#[32,58,61,32,123]⟩++sg++se++⟨#[125]⟩),.bool d_])) w4:=.mk _ (by rw[HR.o];simp at hz;simp[hz]) zz S4.2;exact I'
  refine tk 11 (.bool b_) rfl S4 (λ_ _=>by go_simp) ?_;refine tk 12 (.bool b_) rfl S4 (λ_ _=>kF) ?_;refine tk 13 (.pointer (sY w.1.size 1)) rfl S4 (λ_ _=>kF) ?_;refine tk 14 (.string nm) rfl S4 (λW h=>by have:=h.1.cf.1 1;go_simp) ?_;refine tk 15 (.bool (!ns)) rfl S4 (λ_ _=>by go_simp) ?_;refine tk 16 (.bool (!ns)) rfl S4 (λ_ _=>kF) ?_;refine tk 17 (.string (nm++⟨#[32,58,61,32,123]⟩++sg++se++⟨#[125]⟩)) rfl S4 (λ_ _=>kF) ?_;refine tk 18 (.bool (!ns)) rfl S4 (λ_ _=>kF) (te ?_);have Z:rG (31005 * M+1048600) r w (rT (.tuple #[.string (nm++⟨#[32,58,61,32,123]⟩++sg++se++⟨#[125]⟩),.bool (!ns)])) w4:=.mk _ (by rw[HR.o];simp at hz;simp[hz]) zz S4.2;exact I'
 have f1:(kk == 1)=d_:=by simp[k1]
 have f2:(kk == 2)=d_:=by simp[k2]
 have f3:(kk == 3)=d_:=by simp[k3]
 have HR':=zH (show r=d_ by rw[HR.o];simp[k1,k2,k3];omega);go_wp2;go_ret2
 exact .mk ⟨#[]⟩ HR'.o (vZ _) eV.o
end
def acp(p:List Pl.Tv)(ao:oA)(cap:Nat)(fJ:qk p)(w:Wd)(hR:jF w.1.size w ao p):
  Cp 83 #[sX ao p.length cap] w (rB (.bool (decide (oe p<=16000))) w):=by
 have HG:Hid (∀k,k<p.length->∃s b off,p[k]? = a_ s/\s∈p/\ao=sY b off/\b<w.1.size/\∃a1 a2 c1 c2,∀w',Bl w w'->Sm w.1.size w' b (off+k * 4) s a1 a2 c1 c2):=λk hk=>by
  rcases hR with rfl|⟨b,off,hb,rfl,hc⟩
  ·cases hk
  have⟨a1,a2,c1,c2,h⟩:=hc k p[k] (fw hk);exact⟨p[k],b,off,fw hk,lh hk,rfl,hb,a1,a2,c1,c2,λw' hw=>h.eG hb hw⟩
 have HS:Hid (∀k s,p[k]? = a_ s->fV p (k+1)=fV p k+jX s):=λk s=>Ni;have HM:Hid (∀k,fV p k<=fV p p.length):=NT p;have HZ:Hid (∀s∈p,jX s<=1048576/\h_ s.code<=1048576/\∀g∈s.gs,h_ g.test<=1048576/\h_ g.eT<=1048576):=λs hs=>by
  have h1:jX s<=oe p:=by
   have:jX s<=(p.map jX).sum:=by
    clear HG HS HM hR fJ;induction p with
    |nil=>cases hs
    |cons x p ih =>
     exact Ε
   unfold oe;omega
  have h2:=fJ.sz;exact⟨oM,(fJ.st s hs).code.sz,λg hg=>⟨((fJ.st s hs).gs g hg).1.sz,((fJ.st s hs).gs g hg).2.sz⟩⟩
 have E0:=zH (AQ p);have hl:=fJ.sz;rw[E0.o] at hl;rw[E0.o];clear E0 hR fJ;have H0:Hid (fV p 0=0):=rfl;generalize hL:p.length=L at *;clear hL;generalize hT:fV p L=T at *;have HT:=zH hT;clear hT;go_enter func83,ntmps83;go_wp2;go_loopw [3,4] (λu v wr=>∃(k:Nat)(r:Int),k<=L/\v=I k/\u=I r/\(-5000000<=r/\r<=16000)/\Hid ((0<=(16000:Int)-L-(fV p k:Nat)->r=16000-L-(fV p k:Nat))/\((16000:Int)-L-(fV p k:Nat)<0->r<0))/\Hid (Bl w wr)) (λ_ v _=>L-(intOf v).toNat)
 case atStart=>exact⟨0,_,vZ _,rfl,rfl,oM,⟨λ_=>by rw[H0.o];simp,λh=>by rw[H0.o] at h;simp at h;omega⟩,jD _ _⟩
 rename Wd=>wo
 obtain⟨k,r,hk,rfl,rfl,⟨yb,eN⟩,HV,BB⟩:=hrel;have M0:=HM.o k;by_cases Si:0<=r
 rotate_left 1
 ·have⟨v1,v2⟩:=HV.o
  have HR:Hid (decide (L+T<=16000)=d_):=by
   show _=_;rw[Bk];intro h;have:=v1 oM;omega
  have Sh:decide (0<=r)=d_:=fH Si;clear HG HS HM HZ v1 v2 HV;by_cases eI:k<L
  ·go_wp2
   go_ret
   exact kj HR.o BB.o
  go_wp2;go_ret
  exact kj HR.o BB.o
 by_cases eI:k<L
 rotate_left 1
 ·obtain rfl:k=L:=oM
  have⟨v1,v2⟩:=HV.o;rw[HT.o] at v1 v2;have HR:Hid (decide (k+T<=16000)=b_):=by
   show _=_;rw[fQ];by_cases hp:0<=(16000:Int)-k-(T:Nat)
   ·omega
   have:=v2 oM;omega
  clear HG HS HM HZ v1 v2 HV;go_wp2;go_ret
  exact kj HR.o BB.o
 obtain⟨s,b,off,hs,hm,rfl,hb,a1,a2,c1,c2,fJ⟩:=HG.o k eI;have⟨d0,d1,d2,d3,rc,rg⟩:=fJ _ BB.o;have⟨z1,z2,z3⟩:=HZ.o s hm;have N:=zH (HS.o k s hs);have M1:=HM.o (k+1);have MC:=AO s;have SP:=zH (@NH r s.code);have K:Hid (∀m,Cp 111 #[I r,sX a1 s.code.length c1] (wo.drewN m) λe w'=>e=rT (I (nG r s.code))/\w'=wo.drewN m):=λm=>MT r s.code a1 c1 w.1.size oM oM z2 (wo.drewN m) (rc.eG (gx (jD _ _) m));have Fj:Hid (∀w',Below w.1.size wo w'->iG w.1.size w' a2 s.gs):=λw' h=>rg.eG h;have Fw:Hid (∀w',Below w.1.size wo w'->cL w' b (off+k * 4+3) (sX a2 s.gs.length c2)):=λw' h=>(h.cell (p:=(Y b (off+k * 4+3))) hb).trans d3;have Ft:Hid (∀j,j<s.gs.length->∃g,s.gs[j]? = a_ g/\g∈s.gs/\s.gs ≠ []):=λj hj=>⟨s.gs[j],fw hj,lh hj,λe=>by rw[e] at hj;cases hj⟩;have wQ:Hid (∀j g,s.gs[j]? = a_ g->gw s.gs (j+1)=gw s.gs j+qE g):=λj g=>No;have Fs:Hid (∀j,gw s.gs j<=gw s.gs s.gs.length):=N_ s.gs;have HG0:Hid (gw s.gs 0=0):=rfl;have Ug:=zH z3;have BR:Hid (∀m,Below w.1.size wo (wo.drewN m)):=λm=>gx (jD _ _) m;rw[N.o] at M1;clear rc rg HG HS HM HZ hs hm fJ z3 d0 d1;generalize j9:h_ s.code=cs at *;generalize s.code.length=cl,SK:s.gs.length=G at *;clear j9 SK;generalize zU:gw s.gs G=GT at *;have Uq:=zH zU;clear zU;generalize su:nG r s.code=r1 at *;clear su;obtain⟨s1,s2,s3,s4⟩:=SP.o;have⟨v1,v2⟩:=HV.o;have v3:r=(16000:Int)-L-(fV p k:Nat):=by
  by_cases hp:0<=(16000:Int)-L-(fV p k:Nat)
  ·exact v1 hp
  have:=v2 oM;omega
 have HV1:Hid ((0<=(16000:Int)-L-(fV p k:Nat)-cs-G-(0:Nat)->r1-G=(16000:Int)-L-(fV p k:Nat)-cs-G-(0:Nat))/\((16000:Int)-L-(fV p k:Nat)-cs-G-(0:Nat)<0->r1-G<0)):=by
  refine⟨λh=>?_,λh=>?_⟩
  ·have:=s2 oM;omega
  by_cases hp:0<=r-(cs:Int)
  ·have:=s2 hp;omega
  have:=s3 oM;omega
 have gC:-5000000<=r1-G/\r1-G<=16000:=oM;clear v1 v2 v3 s1 s2 s3 s4 HV SP;have Tg:∀m,(wo.drewN m).cell? (Y b (off+k * 4+2))=a_ (sX a1 cl c1):=λm=>d2;go_wp2;go_quiet ((go_at_call 111;exact nA (K.o _)))
 go_wp2;go_loopw [3,5] (λu v wr=>∃(j:Nat)(q:Int),j<=G/\v=I j/\u=I q/\(-5000000<=q/\q<=16000)/\Hid ((0<=(16000:Int)-L-(fV p k:Nat)-cs-G-(gw s.gs j:Nat)->q=(16000:Int)-L-(fV p k:Nat)-cs-G-(gw s.gs j:Nat))/\((16000:Int)-L-(fV p k:Nat)-cs-G-(gw s.gs j:Nat)<0->q<0))/\Hid (Below w.1.size wo wr)) (λ_ v _=>G-(intOf v).toNat)
 case atStart=>exact⟨0,_,vZ _,rfl,rfl,gC,by rw[HG0.o];exact HV1,BR.o _⟩
 obtain⟨j,q,hj,rfl,rfl,⟨oB,rm⟩,HW,BX⟩:=hrel;have e3:=Fw.o _ BX.o;have MG:=Fs.o j;by_cases yh:j<G
 rotate_left 1
 ·obtain rfl:j=G:=oM
  have p9:Hid (Bl w wr):=BB.o.trans BX.o;have HV2:Hid ((0<=(16000:Int)-L-(fV p (k+1):Nat)->q=16000-L-(fV p (k+1):Nat))/\((16000:Int)-L-(fV p (k+1):Nat)<0->q<0)):=by
   rw[N.o,MC];have⟨w1,w2⟩:=HW.o;rw[Uq.o] at w1 w2;refine⟨λh=>?_,λh=>w2 oM⟩;have:=w1 oM;omega
  exact Α
 by_cases yf:0<=q
 rotate_left 1
 ·have p9:Hid (Bl w wr):=BB.o.trans BX.o
  have HV2:Hid ((0<=(16000:Int)-L-(fV p (k+1):Nat)->q=16000-L-(fV p (k+1):Nat))/\((16000:Int)-L-(fV p (k+1):Nat)<0->q<0)):=by
   rw[N.o,MC];have⟨w1,w2⟩:=HW.o;refine⟨λh=>?_,λh=>oM⟩;have:=w1 oM;omega
  have hqd:decide (0<=q)=d_:=fH yf;exact Α
 have⟨g,hg,uU,aaV⟩:=Ft.o j yh;obtain⟨b2,o2,hb2,rfl,uX⟩:=(Fj.o _ BX.o).resolve_left aaV;have⟨t1,t2,u1,u2,Cm⟩:=uX j g hg;have NG:=zH (wQ.o j g hg);obtain⟨g0,g1,r0,BO⟩:=Cm;have⟨y1,y2⟩:=Ug.o g uU;have P1:=@NH q g.test;have P2:=@NH (nG q g.test) g.eT;have EG:qE g=h_ g.test+h_ g.eT:=rfl;have K1:Hid (Cp 111 #[I q,sX t1 g.test.length u1] wr λe w'=>e=rT (I (nG q g.test))/\w'=wr):=MT q g.test t1 u1 w.1.size oM oM y1 wr r0;have K2:Hid (Cp 111 #[I (nG q g.test),sX t2 g.eT.length u2] wr λe w'=>e=rT (I (nG (nG q g.test) g.eT))/\w'=wr):=MT _ g.eT t2 u2 w.1.size oM oM y2 wr BO;clear Fj Fw Ft wQ Fs hg uU aaV uX r0 BO K Ug BR;generalize gr:nG q g.test=q1 at *;clear gr;generalize rq:nG q1 g.eT=q2 at *;clear rq;rw[EG] at NG;generalize h_ g.test=x1,h_ g.eT=x2,g.test.length=l1,g.eT.length=l2 at *;have⟨w1,w2⟩:=HW.o;obtain⟨p1,p2,p3,p4⟩:=P1;obtain⟨p5,p6,p7,p8⟩:=P2;have w3:q=(16000:Int)-L-(fV p k:Nat)-cs-G-(gw s.gs j:Nat):=by
  by_cases hp:0<=(16000:Int)-L-(fV p k:Nat)-cs-G-(gw s.gs j:Nat)
  ·exact w1 hp
  have:=w2 oM;omega
 have Ff:Hid ((0<=(16000:Int)-L-(fV p k:Nat)-cs-G-(gw s.gs j+(x1+x2):Nat)->q2=(16000:Int)-L-(fV p k:Nat)-cs-G-(gw s.gs j+(x1+x2):Nat))/\((16000:Int)-L-(fV p k:Nat)-cs-G-(gw s.gs j+(x1+x2):Nat)<0->q2<0)):=by
  refine⟨λh=>?_,λh=>?_⟩
  ·have h1:=p2 oM
   have h2:=p6 oM;omega
  by_cases hp:0<=q-(x1:Int)
  ·have h1:=p2 hp
   have h2:=p7 oM;exact h2
  have h1:=p3 oM;omega
 have hq3:-5000000<=q2/\q2<=16000:=oM;clear w1 w2 w3 p1 p2 p3 p4 p5 p6 p7 p8 HW;go_wp2_with fail;refine K1.o.mono ?_;rintro e w' ⟨rfl,rfl⟩;go_wp2_with fail;refine K2.o.mono ?_;rintro e w' ⟨rfl,rfl⟩;go_wp2;go_roundw
 case rel=>exact⟨j+1,_,oM,gN,rfl,hq3,by rw[NG.o];exact Ff,BX⟩
 simp[intOf];omega
def abG(p:List Pl.Tv)(ao:oA)(cap mb mo cp:Nat)(fJ:qk p)(w:Wd)(he:Ev w mb mo cp)(hR:jF w.1.size w ao p):
  Cp 56 #[sX ao p.length cap] w (rG 100000000000 (l_ p) w):=by
 have K0:=zH (acp p ao cap fJ w hR);have hln:=fJ.len;by_cases hz:oe p<=16000
 rotate_left 1
 ·rw[fH hz] at K0
  have HR:=zH (show l_ p=d_ by unfold l_;rw[fH hz];rfl);generalize l_ p=x,p.length=n at *;go_enter func56,ntmps56;go_wp2_with fail;refine K0.o.k λw1 hb1=>?_;replace hb1:=zH hb1;go_wp2;go_ret2
  exact .mk ⟨#[]⟩ HR.o (vZ _) hb1.o
 rw[fM hz] at K0;have⟨r,hr⟩:=jN (l_ p);rw[hr.o];have HG:Hid (∀k,k<p.length->∃(s:Pl.Tv)(b off:Nat) (a1 a2:oA) (c1 c2:Nat),ao=sY b off/\(Pl.fA s=d_->r=d_)/\(p.take (k+1)).all Pl.fA=((p.take k).all Pl.fA && Pl.fA s)/\fV p (k+1)=fV p k+jX s/\fV p (k+1)<=16000/\∀w',Bl w w'->cL w' b (off+k * 4) (I s.k)/\cL w' b (off+k * 4+1) (.string (Pl.ba s.nm))/\cL w' b (off+k * 4+2) (sX a1 s.code.length c1)/\cL w' b (off+k * 4+3) (sX a2 s.gs.length c2)/\Cp 84 #[.agg #[I s.k,.string (Pl.ba s.nm),sX a1 s.code.length c1,sX a2 s.gs.length c2]] w' (rG (31005 * jX s+1048600) (Pl.fA s) w')):=λk hk=>by
  rcases hR with rfl|⟨b,off,hb,rfl,hc⟩
  ·cases hk
  have hg:=fw hk;have hm:=lh hk;have⟨a1,a2,c1,c2,h⟩:=hc k p[k] hg;have hp:=NT p (k+1);have hs:=Ni hg;have he1:=AQ p;have LI:=AO p[k];refine⟨p[k],b,off,a1,a2,c1,c2,rfl,λe=>hr.o.symm.trans (Xf hm e),Wk hg,hs,oM,λw' hw=>?_⟩;have⟨g0,g1,g2,g3,r0,r1⟩:=h.eG hb hw;exact⟨g0,g1,g2,g3,adi _ a1 a2 c1 c2 mb mo cp (fJ.st _ hm) oM w' (he.eG hw) (r0.up hw.size) (r1.up hw.size)⟩
 have HE:Hid ((p.take p.length).all Pl.fA=b_->r=b_):=λh=>hr.o.symm.trans (Xg hz rfl h);have h0:Hid ((p.take 0).all Pl.fA=b_/\fV p 0=0):=⟨rfl,rfl⟩;have hn:p.length<=16000:=by have:=AQ p;omega
 generalize p.length=n at *;go_enter func56,ntmps56;go_wp2_with fail;refine K0.o.k λw1 hb1=>?_;have T0:=zH (oX.new w1);have BA:Hid (Bl w1 (w1.alloc (.cells #[.pointer c_,nJ] 147))):=by show Below _ _ _;go_grown
 replace hb1:=zH hb1;have gy:=hb1.o.size;go_wp2_with fail;go_loopw [14] (λiv wr=>∃k m:Nat,k<=n/\iv=I k/\Hid (m<=31005 * fV p k+1048601 * k/\fV p k<=16000/\(p.take k).all Pl.fA=b_)/\Hid (oX w1.1.size w1.1.size m wr)/\Hid (Bl w1 wr)) (λiv _=>n-(intOf iv).toNat)
 case atStart=>exact⟨0,0,vZ _,rfl,⟨vZ _,by rw[h0.o.2];omega,h0.o.1⟩,T0,BA⟩
 rename Wd=>wo
 obtain⟨k,m,hk,rfl,hm,X,BX⟩:=hrel;have BW:=zH (hb1.o.trans (BX.o.mono gy));by_cases eI:k<n
 rotate_left 1
 ·obtain rfl:k=n:=oM
  have K:=zH (OC X.o);have HR:=zH (HE.o hm.o.2.2);go_wp2_with fail;refine K.o.mono ?_;rintro e w' ⟨⟨s,rfl,hs⟩,hb⟩;replace hb:=zH (hb1.o.trans ((BX.o.trans hb).mono gy));go_wp2;go_ret2
  exact .mk s HR.o (by have:=hm.o;omega) hb.o
 obtain⟨s,b,off,a1,a2,c1,c2,rfl,hbad,lV,tf,hN,hc⟩:=HG.o k eI;obtain⟨g0,g1,g2,g3,-⟩:=hc _ BW.o;have K:=zH λw' h=>(hc w' (BW.o.trans (ID h BW.o.size))).2.2.2.2;have F:=zH (jA hbad (jA lV (jA tf hN)));generalize Pl.fA s=gb,s.k=kk,Pl.ba s.nm=nm,s.code.length=l1,s.gs.length=l2,jX s=z at *;go_wp2_with fail;refine(K.o _ gG).mono ?_;rintro e w2 ⟨s1,rfl,z1,hb2⟩;replace hb2:=zH (bv (w:=wo) hb2);have B3:=zH (BX.o.trans (hb2.o.mono BX.o.size));have X3:=zH (X.o.eG hb2.o);have W3:=zH (bv hb2.o BW.o)
 cases gb
 ·have HR:=zH (F.o.1 rfl)
  go_wp2;go_ret2
  exact .mk ⟨#[]⟩ HR.o (vZ _) W3.o
 have lV:=F.o.2.1;have tf:=F.o.2.2.1;have hN:=F.o.2.2.2;have oQ:=hm.o;have NX:=zH (show (p.take (k+1)).all Pl.fA=b_ by rw[lV,oQ.2.2];rfl);have SX:Hid (m+s1.size+1<=31005 * fV p (k+1)+1048601 * (k+1)/\fV p (k+1)<=16000):=⟨oM,oM⟩;have hq:m+s1.size<=10000000000000:=oM;go_wp2_with fail;refine(Oz s1 X3.o oM B3.o.size).mono ?_;rintro e w4 ⟨rfl,h1,h2⟩;have X4:=zH h1;have B4:=zH (B3.o.trans h2);go_wp2_with fail;refine(WR 10 rfl X4.o oM B4.o.size).mono ?_;rintro e w5 ⟨rfl,h1,h2⟩;have X5:=zH h1;have B5:=zH (B4.o.trans h2);go_wp2;go_roundw
 case rel=>exact⟨k+1,_,oM,gN,⟨SX.o.1,SX.o.2,NX.o⟩,X5,B5⟩
 simp[intOf];omega
end Go.Proofs.YtiagfejlmafliaaGreatDoor
