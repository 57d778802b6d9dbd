import Derived.Test.YtbiiicbfpcfgdaaGreatDoorFnc1
import Derived.Test.YtbiiicbfpcfgdaaGreatDoorFnc2
import Derived.Test.YtbiiicbfpcfgdaaGreatDoorExv
import Derived.Test.YtbiiicbfpcfgdaaGreatDoorStw
namespace Go.Proofs.YtbiiicbfpcfgdaaGreatDoor
open Go.RowKit
set_option maxRecDepth 100000
set_option maxHeartbeats 16000000
set_option linter.unusedVariables false
theorem l3Func_any (l:List Pl.Tok) (ao:Option Addr) (cap:Nat) (hi:Nat) (w:World) (hl:l.length<=1048576) (h1:1<=hi) (h2:hi<=l.length) (hk:∀t∈l,Pl.kOk t.k) (hR:RdK w.heap.size w ao l) :
  Calls Tryz.prog 53 #[.slice ao l.length cap,.int .i64 hi] w fun e w'=>e=.returned (.tuple #[.int .i64 (Pl.fnR (Pl.rfun (Pl.rv l hi))).1,agF (Pl.fnR (Pl.rfun (Pl.rv l hi))).2.1,agF (Pl.fnR (Pl.rfun (Pl.rv l hi))).2.2])/\Below w.heap.size w w':=by
 rw[<- Pl.fn_rfun hk h1 h2]
 by_cases hs:Pl.isV l ((hi:Int)-1) ⟨#[47]⟩=true\/Pl.isV l ((hi:Int)-1) ⟨#[92]⟩=true
 ·exact l3Func_s l ao cap hi w hl h1 h2 hR hs
 exact l3Func_e l ao cap hi w hl h1 h2 hR hs
theorem l3Expr_upto:∀n k,k<=n->HE k
 |0,k,h=>by
  obtain rfl:k=0:=by omega
  intro l ao cap w _ _ _ h5
  omega
 |n+1,k,h=>by
  by_cases hk:k<=n
  ·exact l3Expr_upto n k hk
  obtain rfl:k=n+1:=by omega
  exact l3Expr_step (fun l ao cap hi w h1 h2 h3 h4 h5=>l3Func_any l ao cap hi w h1 h2 h3 h4 h5) n (l3Expr_upto n)
theorem l3Expr_all (n:Nat):HE n:=l3Expr_upto n n (Nat.le_refl _)
theorem uPrw1 {P:Prop}(h:P:=by simp[results,Tryz.results5,go_sem]):P:=h
theorem cellsT_at:∀(l:List Pl.Tok) (i:Nat) (t:Pl.Tok) (k:Nat),l[i]? = some t->k<4->(Pl.cellsT l)[i * 4+k]? = t.cells[k]?
 |[],i,t,k,h,_=>by simp at h
 |x::l,0,t,k,h,hk=>by
  simp at h
  subst h
  have e:Pl.cellsT (x::l)=x.cells++Pl.cellsT l:=rfl
  rw[e,Nat.zero_mul,Nat.zero_add,List.getElem?_append_left (by simp[Pl.Tok.cells];omega)]
 |x::l,i+1,t,k,h,hk=>by
  have e:Pl.cellsT (x::l)=x.cells++Pl.cellsT l:=rfl
  rw[e,List.getElem?_append_right (by simp[Pl.Tok.cells];omega),<- cellsT_at l i t k h hk]
  congr 1
  simp[Pl.Tok.cells]
  omega
theorem RdK.of_own {w:World}{base:Nat}{ao:Option Addr}{cap:Nat}{l:List Pl.Tok}(h:w.ownsRow base 37 4 (.slice ao l.length cap) l.length (Pl.cellsT l)):RdK w.heap.size w ao l:=by
 by_cases h0:l=[]
 ·exact .inl h0
 obtain⟨g,rfl,_,hlt,hc⟩:=owns_cell h (List.length_pos_iff.2 h0)
 refine .inr ⟨g,0,hlt,rfl,fun i t hi=>?_⟩
 have hil:i<l.length:=(List.getElem?_eq_some_iff.1 hi).1
 have c (k:Nat) (hk:k<4):w.cell? ⟨g,0+i * 4+k,none⟩=t.cells[k]?:=by
  rw[Nat.zero_add,hc _ oM,cellsT_at l i t k hi hk]
 exact⟨c 0 oM,c 1 oM,c 2 oM,c 3 oM⟩
theorem Pl.rall_cons (n:Nat) (p:List Pl.T) (ps:List (List Pl.T)):Pl.rall n (p::ps)=match Pl.rstmt n p,Pl.rall n ps with | some s,some l=>some (s::l) | _,_=>none:=rfl
def Ip (l:List Pl.Tok) (n:Nat) (R:Option (List Pl.S)) (B:Nat) (qs:List (Nat × Nat)) (b off cap:Nat) (pv:Value) (Fp:List Nat) (i:Nat) (v8:Value) (fi:Bool) (wr:World):Prop :=
 ∃(dn:List Pl.S) (F:List Nat),R=(Pl.rall n ((qs.drop i).map (Pl.PT l))).map (fun q=>dn++q)/\fi=dn.all Pl.S.fine/\dn.length=i/\OwP wr v8 (dn.map Pl.S.tv) F/\Inb B wr F/\Own 34 1 (Qk b off cap) wr pv qs Fp/\Inb B wr Fp/\∀x∈F,x ∉ Fp
theorem tPrw1 {P:Prop}(h:P:=by
 go_wp2_with (at_builtin;refine wpList_append_o el22 Qt.lives _ rfl _ _ rfl _ _ _ _ _ rfl rfl (dn.map Pl.S.tv) [st.tv] F (F1++F2) [.int .i64 st.tv.k,.string (Pl.ba st.tv.nm),.slice ac nc cc,.slice ag ng cg] w2.heap.size ?ho ?hi ?hy ?hG ?hn ?hd rfl rfl ?hc ?h1 ?hbd ?hB ?_)
 case ho=>exact(HO.out.below Qt.lives HIF.out HBW.out (Nat.le_refl _)).below Qt.lives (HIF.out.up (Nat.le_refl _) z4) (((Below.refl _ _).alloc (Nat.le_refl _) _).alloc sI _) (Nat.le_refl _)
 case hi=>exact HIF.out.up (Nat.le_refl _) (by simp;omega)
 case hy=>exact RowQ.one ⟨_,_,F1,F2,rfl,rfl,HG1.out.below Qs.lives HG3.out (((Below.refl _ _).alloc (Nat.le_refl _) _).alloc sI _) (Nat.le_refl _),HG2.out.below Qg.lives HG4.out (((Below.refl _ _).alloc (Nat.le_refl _) _).alloc sI _) (Nat.le_refl _)⟩
 case hG =>
  intro x hx
  rcases List.mem_append.1 hx with h|h
  ·have:=HG3.out x h;simp;omega
  have:=HG4.out x h;simp;omega
 case hn =>
  rw[List.nodup_append]
  refine⟨by obtain⟨_,_,_,_,_,h⟩:=HG1.out;exact h,by obtain⟨_,_,_,_,_,h⟩:=HG2.out;exact h,fun x hx y hy e=>HG5.out x hx (e ▸ hy)⟩
 case hd =>
  intro x hx hm
  have h0:=(HIF.out x hm).2
  rcases List.mem_append.1 hx with h|h
  ·have:=(HG3.out x h).1;omega
  have:=(HG4.out x h).1;omega
 case hc=>exact cells_new (l:=[.int .i64 st.tv.k,.string (Pl.ba st.tv.nm),.slice ac nc cc,.slice ag ng cg]) sI
 case h1=>simp[Value.oneCell']
 case hbd=>simp;have:=HDL.out;omega
 case hB=>simp;omega
 intro v9 w9 F9 ho9 hi9 hg9 _ hs9
 have HF:=zH (HNX.out _ w9 v9 F9 rfl ho9 hi9 hg9 hs9)
 clear ho9 hi9 hg9 hs9 HNX
 go_wp2_with fail
 go_roundw
 case rel=>exact⟨j+1,_,by omega,by go_num,rfl,HF.out.1,HF.out.2⟩
 case measure=>simp[intOf] <;> omega
 ):P:=h
theorem specParse_any (s:ByteArray) (w:World) (hsz:s.size<=1048576):Calls Tryz.prog 5 #[.string s] w fun e w'=>∃v F,e=.returned (.tuple #[v,.int .i64 (Pl.prsS s).2.1,.int .i64 (Pl.prsS s).2.2])/\Below w.heap.size w w'/\OwP w' v (Pl.prsS s).1 F/\Inb w.heap.size w' F:=by
 have B0:Hid (Below w.heap.size w (w.alloc (.cells #[] 43))):=(Below.refl _ _).alloc (Nat.le_refl _) _
 have N0:Hid (OwP (w.alloc (.cells #[] 43)) (.slice (some ⟨w.heap.size,0,none⟩) 0 0) [] [w.heap.size]):=Own.emp _ _ rfl
 have NI:Hid (Inb w.heap.size (w.alloc (.cells #[] 43)) [w.heap.size]):=fun x hx=>by simp at hx ⊢;omega
 have NK:Hid (∀W,Below (w.alloc (.cells #[] 43)).heap.size (w.alloc (.cells #[] 43)) W->Below w.heap.size w W/\OwP W (.slice (some ⟨w.heap.size,0,none⟩) 0 0) [] [w.heap.size]/\Inb w.heap.size W [w.heap.size]):=fun W hW=>⟨B0.out.trans (hW.mono sI),N0.out.below Qt.lives NI.out hW (Nat.le_refl _),NI.out.up (Nat.le_refl _) hW.size⟩
 by_cases h4:4000<s.size
 ·have HP:Hid (Pl.prsS s=([],1,0)):=by show _=_;unfold Pl.prsS;rw[if_pos h4]
  generalize Pl.prsS s=P at *
  have h4i:(4000:Int)<(s.size:Int):=by omega
  go_enter Tryz.func5,Tryz.ntmps5
  go_wp2_with fail
  refine bodyPost_ret (v:=.tuple #[.slice (some ⟨w.heap.size,0,none⟩) 0 0,.int .i64 1,.int .i64 0]) uPrw1 rfl ⟨_,[w.heap.size],by rw[HP.out],B0.out,by rw[HP.out];exact N0.out,NI.out⟩
 have h4i:¬(4000:Int)<(s.size:Int):=by omega
 have hll:(Pl.lxT s 0).length<=4000:=by have:=Pl.len_le s.size s 0 oM;omega
 have HPB:Hid (∀p,Pl.fb (Pl.lxT s 0)=some p->Pl.prsS s=([],2,(p:Int))):=fun p hp=>by unfold Pl.prsS;rw[if_neg h4,hp]
 have HPN:Hid (Pl.fb (Pl.lxT s 0)=none->Pl.prsS s=match Pl.rall (2 * (Pl.lxT s 0).length+1) (Pl.rsp 0 [] ((Pl.lxT s 0).map Pl.tkT)) with | none=>([],3,0) | some ss=>if ss.all Pl.S.fine=true then (ss.map Pl.S.tv,0,0) else ([],4,0)):=fun hp=>by
  unfold Pl.prsS
  rw[if_neg h4,hp]
  rfl
 have HOK:Hid (Pl.fb (Pl.lxT s 0)=none->∀t∈Pl.lxT s 0,Pl.tOk t):=fun hp=>Pl.lx_ok hp
 have K9:=zH (l3Lex_any s (w.alloc (.cells #[] 43)) oM)
 have hs4:s.size<=4000:=by omega
 generalize Pl.prsS s=P at *
 generalize hlx:Pl.lxT s 0=l at *
 clear hlx h4
 go_enter Tryz.func5,Tryz.ntmps5
 go_wp2_with fail
 refine K9.out.mono ?_
 rintro e' w2 ⟨ao,cap,rfl,hown,hb2⟩
 have hRK:=RdK.of_own hown
 have hcc:l.length<=cap/\cap<=9223372036854775807:=by
  rcases hown.2 with ⟨e,h0⟩|⟨g,cp,cur,e,_,_,h1,h2,_⟩
  ·simp only[Value.slice.injEq] at e;omega
  simp only[Value.slice.injEq] at e;simp[maxLen] at h2;omega
 have hform:(ao=none/\l=[]/\cap=0)\/∃g,ao=some ⟨g,0,none⟩:=by
  rcases hown.2 with ⟨e,h0⟩|⟨g,cp,cur,e,_⟩
  ·simp only[Value.slice.injEq] at e;exact .inl ⟨e.1,List.length_eq_zero_iff.1 h0,e.2.2⟩
  simp only[Value.slice.injEq] at e;exact .inr ⟨g,e.1⟩
 have HFM:=zH hform
 clear hform
 have N2:=zH (NK.out w2 hb2)
 have HB2:=zH hb2
 have HB2low:Hid (w.heap.size<=w2.heap.size):=by have:=hb2.size;simp at this;show _<=_;omega
 have HRK:=zH hRK
 clear hown hb2 hRK K9
 have HFD:Hid (∀i,i<l.length->Pl.fb (l.drop i)=if (Pl.tq l i).k=120 then some (Pl.tq l i).pos else Pl.fb (l.drop (i+1))):=fun i hi=>Pl.fb_drop l i hi
 have HFE:Hid (∀i,l.length<=i->Pl.fb (l.drop i)=none):=fun i hi=>by rw[List.drop_eq_nil_of_le hi];rfl
 have HT:Hid (∀k,k<l.length->∃b off,ao=some ⟨b,off,none⟩/\b<w2.heap.size/\w2.cell? ⟨b,off+k * 4,none⟩=some (.int .u8 (Pl.tq l k).k)/\w2.cell? ⟨b,off+k * 4+3,none⟩=some (.int .i64 (Pl.tq l k).pos)):=fun k hk=>by
  rcases HRK.out with rfl|⟨b,off,hbw,e,hc⟩
  ·simp at hk
  have:=hc k (Pl.tq l k) (by unfold Pl.tq;rw[List.getElem?_eq_getElem hk];rfl)
  exact⟨b,off,e,hbw,this.1,this.2.2.2⟩
 generalize hn:l.length=n at *
 go_wp2_with fail
 go_loopw [7] (fun v7 wr=>∃i:Nat,wr=w2/\i<=n/\v7=.int .i64 i/\Hid (Pl.fb l=Pl.fb (l.drop i))) (fun v7 _=>n-(intOf v7).toNat)
 case atStart=>exact⟨0,rfl,Nat.zero_le _,rfl,rfl⟩
 obtain⟨i,hw2,hi,rfl,hst⟩:=hrel
 have hw2':=hw2.symm
 subst hw2'
 clear hw2
 by_cases hlt:i<n
 ·obtain⟨b,off,rfl,hbw,d0,d3⟩:=HT.out i hlt
  have hfd:=HFD.out i hlt
  by_cases hb:(Pl.tq l i).k=120
  ·rw[if_pos hb] at hfd
   have HP:=zH (HPB.out _ (hst.out.trans hfd))
   rw[hb] at d0
   clear HT HFD HFE HOK HPN HPB hfd hst
   generalize (Pl.tq l i).pos=pos at *
   go_wp2_with fail
   go_region
   all_goals go_wp2_with fail
   all_goals refine bodyPost_ret (v:=.tuple #[.slice (some ⟨w.heap.size,0,none⟩) 0 0,.int .i64 2,.int .i64 pos]) uPrw1 rfl ⟨_,[w.heap.size],by rw[HP.out],?_,?_,?_⟩
   all_goals (have hq:=NK.out _ (HB2.out.drew);first | exact hq.1 | (rw[HP.out];exact hq.2.1) | exact hq.2.2)
  rw[if_neg hb] at hfd
  have hkb:((Pl.tq l i).k == 120)=false:=by simpa using hb
  have HS:=zH (hst.out.trans hfd)
  clear HT HFD HFE HOK HPN HPB hfd hst
  generalize (Pl.tq l i).k=kk at *
  go_wp2_with fail
  go_roundw
  case rel=>exact⟨i+1,by first | rfl | trivial,by omega,by go_num,HS⟩
  simp[intOf] <;> omega
 obtain rfl:i=n:=by omega
 have hfn:=hst.out.trans (HFE.out i oM)
 have HP:=HPN.out hfn
 have hok:=HOK.out hfn
 clear HT HFD HFE HPN HPB HOK hst
 have hsp:=Pl.split_T l
 rw[hsp] at HP
 have K10:∃b,(l=[]\/ao=some ⟨b,0,none⟩)/\Hid (∀W,Below w2.heap.size w2 W->Calls Tryz.prog 13 #[.slice ao i cap] W fun e w'=>∃v F,e=.returned v/\Below W.heap.size W w'/\Own 34 1 (Qk b 0 cap) w' v (Pl.spl l l.length 0 0 0) F/\Inb W.heap.size w' F):=by
  rcases HFM.out with ⟨h0,h1,h2⟩|⟨g,h0⟩
  ·refine⟨0,.inl h1,fun W hW=>?_⟩
   have hi0:i=0:=by rw[<- hn,h1];rfl
   rw[h0,h2,hi0,h1]
   exact l3Split_nil 0 0 0 W
  refine⟨g,.inr h0,fun W hW=>?_⟩
  have hR:=(HRK.out.keep hW).up hW.size
  rw[h0] at hR
  have:=l3Split_any l g 0 cap W oM oM oM hok hR
  rw[h0,<- hn]
  exact this
 obtain⟨b,hlb,K10⟩:=K10
 have HQI:Hid (∀q∈Pl.spl l l.length 0 0 0,q.1<q.2/\q.2<=l.length):=fun q hq=>by have:=Pl.spl_in l l.length 0 0 0 rfl (Nat.zero_le _) (Nat.le_refl _) q hq;omega
 have HQL:Hid ((Pl.spl l l.length 0 0 0).length<=l.length+1):=Pl.spl_len l _ _ _ _
 have KS:Hid (∀(q:Nat × Nat),q.1<q.2->q.2<=l.length->∀W:World,Below w2.heap.size w2 W->Calls Tryz.prog 14 #[.slice (some ⟨b,0+q.1 * 4,none⟩) (q.2-q.1) (cap-q.1)] W fun e w'=>∃v,e=.returned v/\Below W.heap.size W w'/\ReadR W.heap.size w' v (Pl.rstmt (2 * i+1) (Pl.PT l q))):=fun q hq1 hq2 W hW=>by
  have hlen:(Pl.pieceT l q).length=q.2-q.1:=Pl.piece_len hq2
  have hao:ao=some ⟨b,0,none⟩:=hlb.resolve_left (fun e=>by rw[e] at hq2;simp at hq2;omega)
  have hR:=(HRK.out.keep hW).up hW.size
  rw[hao] at hR
  have:=l3Stmt_of (2 * i+1) (l3Expr_all _) (Pl.pieceT l q) b (0+q.1 * 4) (cap-q.1) W oM oM oM oM oM (fun t ht=>hok t (List.mem_of_mem_take (List.mem_of_mem_drop ht))) (hR.part q.1 q.2)
  rw[hlen] at this
  exact this
 have HPI:Hid (P=match Pl.rall (2 * i+1) ((Pl.spl l l.length 0 0 0).map (Pl.PT l)) with | none=>([],3,0) | some ss=>if ss.all Pl.S.fine=true then (ss.map Pl.S.tv,0,0) else ([],4,0)):=HP
 have B3:Hid (Below w2.heap.size w2 (w2.alloc (.cells #[] 43))):=(Below.refl _ _).alloc (Nat.le_refl _) _
 have K10':=zH (K10.out _ B3.out)
 clear hok HP hsp K10 HRK HFM hlb
 generalize hqs:Pl.spl l l.length 0 0 0=qs at *
 clear hqs
 generalize hRR:Pl.rall (2 * i+1) (qs.map (Pl.PT l))=R at *
 go_wp2_with fail
 refine K10'.out.mono ?_
 rintro e' w3 ⟨pv,Fp,rfl,hb3,hOP,hIP⟩
 obtain⟨apv,cpv,rfl⟩:=hOP.slice
 generalize hql:qs.length=ql at *
 have z3:=hb3.size
 simp at z3
 have I0:Hid (Ip l (2 * i+1) R w2.heap.size qs b 0 cap (.slice apv ql cpv) Fp 0 (.slice (some ⟨w2.heap.size,0,none⟩) 0 0) true w3):=by
  refine⟨[],[w2.heap.size],?_,rfl,rfl,?_,fun x hx=>by simp at hx;subst hx;omega,hOP,hIP.up sI (Nat.le_refl _),fun x hx hm=>by simp at hx;subst hx;have:=(hIP _ hm).1;simp at this;omega⟩
  ·rw[List.drop_zero,hRR]
   cases R <;> simp
  exact(Own.emp (et:=43) (z:=4) (Q:=Qt) w2 w2.heap.size rfl).below (B:=0) Qt.lives (fun x hx=>by simp at hx ⊢;omega) hb3 (Nat.le_refl _)
 have BW3:Hid (Below w2.heap.size w2 w3):=B3.out.trans (hb3.mono sI)
 clear hb3 hOP hIP K10'
 go_wp2_with fail
 go_loopw [8,9,11] (fun v8 v9 v11 wr=>∃(j:Nat) (fi:Bool),j<=ql/\v11=.int .i64 j/\v9=.bool fi/\Hid (Ip l (2 * i+1) R w2.heap.size qs b 0 cap (.slice apv ql cpv) Fp j v8 fi wr)/\Hid (Below w2.heap.size w2 wr)) (fun _ _ v11 _=>ql-(intOf v11).toNat)
 case atStart=>exact⟨0,true,Nat.zero_le _,rfl,rfl,I0,BW3⟩
 rename World=>wr
 obtain⟨j,fi,hj,rfl,rfl,HI,HB⟩:=hrel
 obtain⟨dn,F,hRd,hfi,hdl,hO,hIF,hOP,hIP,hdis⟩:=HI.out
 obtain⟨ao8,cap8,e8⟩:=hO.slice
 rw[List.length_map,hdl] at e8
 subst e8
 have NW:=zH (NK.out wr (HB2.out.trans (HB.out.mono HB2.out.size)))
 have hzw:=HB.out.size
 by_cases hlt:j<ql
 rotate_left 1
 ·obtain rfl:j=ql:=by omega
  have hRs:R=some dn:=by
   rw[hRd,List.drop_eq_nil_of_le oM]
   simp[Pl.rall]
  rw[hRs] at HPI
  simp only at HPI
  cases fi
  ·have HP':=zH (show P=([],4,0) by rw[HPI.out,if_neg (by rw[<- hfi];simp)])
   clear HPI hRd hRs hfi hdl hO hIF hOP hIP hdis HI KS HQI HQL I0
   have hjj:¬((j:Int)<(j:Int)):=by omega
   go_wp2_with fail
   refine bodyPost_ret (v:=.tuple #[.slice (some ⟨w.heap.size,0,none⟩) 0 0,.int .i64 4,.int .i64 0]) uPrw1 rfl ?_
   first | exact⟨_,[w.heap.size],by rw[HP'.out],NW.out.1,by rw[HP'.out];exact NW.out.2.1,NW.out.2.2⟩ | exact⟨_,by rw[HP'.out],NW.out.1,[w.heap.size],by rw[HP'.out];exact NW.out.2.1,NW.out.2.2⟩
  have HP':=zH (show P=(dn.map Pl.S.tv,0,0) by rw[HPI.out,if_pos hfi.symm])
  have HO:=zH hO
  have HIF:=zH hIF
  clear HPI hRd hRs hfi hdl hO hIF hOP hIP hdis HI KS HQI HQL I0
  have hjj:¬((j:Int)<(j:Int)):=by omega
  go_wp2_with fail
  refine bodyPost_ret (v:=.tuple #[.slice ao8 j cap8,.int .i64 0,.int .i64 0]) uPrw1 rfl ?_
  first | exact⟨_,F,by rw[HP'.out],NW.out.1,by rw[HP'.out];exact HO.out,HIF.out.up HB2low.out (Nat.le_refl _)⟩ | exact⟨_,by rw[HP'.out],NW.out.1,F,by rw[HP'.out];exact HO.out,HIF.out.up HB2low.out (Nat.le_refl _)⟩
 have hjb:j<=4001:=by have:=HQL.out;omega
 obtain⟨q,hq⟩:∃q,qs[j]? = some q:=⟨qs[j],List.getElem?_eq_getElem oM⟩
 have hqm:=HQI.out q (List.mem_of_getElem? hq)
 obtain⟨g,cp,epv,hgl,hgc⟩:=Qk.cell hOP hq
 simp only[Value.slice.injEq] at epv
 obtain⟨rfl,hcl0,rfl⟩:=epv
 clear hcl0
 have KQ0:=KS.out q hqm.1 oM wr HB.out
 rw[Nat.zero_add] at KQ0 hgc
 have KQ:=zH KQ0
 clear KQ0
 have hdrop:qs.drop j=q::qs.drop (j+1):=by
  rw[List.drop_eq_getElem_cons oM]
  congr 1
  rw[List.getElem?_eq_getElem oM] at hq
  exact Option.some.inj hq
 rw[hdrop,List.map_cons,Pl.rall_cons] at hRd
 have HRD:=zH hRd
 have HO:=zH hO
 have HIF:=zH hIF
 have HOP:=zH hOP
 have HIP:=zH hIP
 have HDS:=zH hdis
 have HFI:=zH hfi
 have HDL:=zH hdl
 clear hRd hO hIF hOP hIP hdis hfi hdl hdrop HI KS HQI HQL I0 hq
 generalize q.2-q.1=pl at *
 go_wp2_with fail
 refine KQ.out.mono ?_
 rintro e' w4 ⟨v,rfl,hb4,hrd⟩
 obtain⟨k4,nm4,ac,nc,cc,ag,ng,cg,ok4,fi4,rfl⟩:=hrd.form
 have z4:=hb4.size
 have N4:=zH (NK.out w4 (HB2.out.trans ((HB.out.trans (hb4.mono hzw)).mono HB2.out.size)))
 have N5:Hid (∀o,Below w.heap.size w (w4.alloc o)/\OwP (w4.alloc o) (.slice (some ⟨w.heap.size,0,none⟩) 0 0) [] [w.heap.size]/\Inb w.heap.size (w4.alloc o) [w.heap.size]):=fun o=>NK.out _ (HB2.out.trans (((HB.out.trans (hb4.mono hzw)).alloc oM o).mono HB2.out.size))
 cases hst:Pl.rstmt (2 * i+1) (Pl.PT l q) with
 |none =>
  rw[hst] at hrd
  obtain⟨_,_,_,_,_,_,_,_,_,e5⟩:=hrd
  simp only[Value.agg.injEq] at e5
  have hok4:ok4=false:=by simp at e5;exact e5.2.2.2.2.1
  subst hok4
  have HP':=zH (show P=([],3,0) by rw[HPI.out,HRD.out,hst];rfl)
  clear HPI HRD hst e5 hb4
  go_wp2_with fail
  refine bodyPost_ret (v:=.tuple #[.slice (some ⟨w.heap.size,0,none⟩) 0 0,.int .i64 3,.int .i64 0]) uPrw1 rfl ?_
  first | exact⟨_,[w.heap.size],by rw[HP'.out],(N5.out _).1,by rw[HP'.out];exact(N5.out _).2.1,(N5.out _).2.2⟩ | exact⟨_,by rw[HP'.out],(N5.out _).1,[w.heap.size],by rw[HP'.out];exact(N5.out _).2.1,(N5.out _).2.2⟩
 |some st =>
  rw[hst] at hrd
  obtain⟨ac',nc',cc',ag',ng',cg',F1,F2,e5,g1,g2,g3,g4,g5⟩:=hrd
  have hrec:k4=st.tv.k/\nm4=Pl.ba st.tv.nm/\ok4=true/\fi4=st.fine/\ac=ac'/\nc=nc'/\cc=cc'/\ag=ag'/\ng=ng'/\cg=cg':=by
   simp at e5
   obtain⟨h1,h2,⟨h3,h4,h5⟩,⟨h6,h7,h8⟩,h9,h10⟩:=e5
   exact⟨h1,h2,h9,h10,h3,h4,h5,h6,h7,h8⟩
  obtain⟨rfl,rfl,rfl,rfl,rfl,rfl,rfl,rfl,rfl,rfl⟩:=hrec
  clear e5
  have hbw:Below wr.heap.size wr w4:=hb4
  have HNX:Hid (∀(W w9:World) (v9:Value) (F9:List Nat),W=(w4.alloc (.cells #[.int .i64 st.tv.k,.string (Pl.ba st.tv.nm),.slice ac nc cc,.slice ag ng cg,.bool true,.bool st.fine] 45)).alloc (.cells #[.int .i64 st.tv.k,.string (Pl.ba st.tv.nm),.slice ac nc cc,.slice ag ng cg] 43)->OwP w9 v9 (dn.map Pl.S.tv++[st.tv]) F9->Inb w2.heap.size w9 F9->W.grownBy w9 (Value.slice ao8 j cap8).ownBlock->(∀x∈F9,x∈F\/(x∈F1\/x∈F2)\/x=w4.heap.size+1+1)->Ip l (2 * i+1) R w2.heap.size qs b 0 cap (.slice (some ⟨g,0,none⟩) ql cpv) Fp (j+1) v9 (fi && st.fine) w9/\Below w2.heap.size w2 w9):=fun W w9 v9 F9 hW h1 h2 h3 h4=>by
   subst hW
   have hbA:Below wr.heap.size wr ((w4.alloc (.cells #[.int .i64 st.tv.k,.string (Pl.ba st.tv.nm),.slice ac nc cc,.slice ag ng cg,.bool true,.bool st.fine] 45)).alloc (.cells #[.int .i64 st.tv.k,.string (Pl.ba st.tv.nm),.slice ac nc cc,.slice ag ng cg] 43)):=(hbw.alloc z4 _).alloc (by simp;omega) _
   have hown:∀x,(Value.slice ao8 j cap8).ownBlock=some x->x∈F:=fun x hx=>(HO.out.lt x hx).1
   refine⟨⟨dn++[st],F9,?_,?_,by simp[HDL.out],by rw[List.map_append];exact h1,h2,(HOP.out.below (Qk.lives b 0 cap) HIP.out hbA (Nat.le_refl _)).grown (Qk.lives b 0 cap) (HIP.out.up (Nat.le_refl _) hbA.size) h3 (fun x hx=>HDS.out x (hown x hx)),HIP.out.up (Nat.le_refl _) (Nat.le_trans hbA.size h3.size),fun x hx hm=>?_⟩,(HB.out.trans (hbA.mono hzw)).grown h3 (Nat.le_trans hzw hbA.size) (fun x hx=>(HIF.out x (hown x hx)).1)⟩
   ·rw[HRD.out,hst]
    cases Pl.rall (2 * i+1) ((qs.drop (j+1)).map (Pl.PT l)) with
    |none=>rfl
    |some r=>simp
   ·rw[HFI.out];simp
   have hz:=(HIP.out x hm).2
   rcases h4 x hx with h|(h|h)|h
   ·exact HDS.out x h hm
   ·have:=(g3 x h).1;omega
   ·have:=(g4 x h).1;omega
   omega
  have HG1:=zH g1
  have HG2:=zH g2
  have HG3:=zH g3
  have HG4:=zH g4
  have HG5:=zH g5
  have HBW:=zH hbw
  clear hst hb4 hbw HPI HRD g1 g2 g3 g4 g5 N4 N5
  cases fi
  ·exact tPrw1
  exact tPrw1
end Go.Proofs.YtbiiicbfpcfgdaaGreatDoor
