import Derived.Test.YtbiiicbfpcfgdaaGreatDoorDr8
import Derived.Test.YtbiiicbfpcfgdaaGreatDoorNto
import Derived.Lib.FrozenHead2
namespace Go.Proofs.YtbiiicbfpcfgdaaGreatDoor
open Go.RowKit
set_option maxRecDepth 100000
set_option maxHeartbeats 16000000
set_option linter.unusedVariables false
namespace Pl
def gsts (bs:List Nat) (p:Nat):Nat->List Tv × Nat
 |0=>([],p)
 |n+1=>((gsts bs p n).1++[(gst bs (gsts bs p n).2).1],(gst bs (gsts bs p n).2).2)
theorem gsts_len (bs:List Nat) (p:Nat):∀n,(gsts bs p n).1.length=n
 |0=>rfl
 |n+1=>by simp[gsts,gsts_len bs p n]
def gpr (bs:List Nat) (p:Nat):List Tv × Nat:=gsts bs (nx bs p).2 (1+(nx bs p).1 % 4)
end Pl
theorem genProg_any (B P:Nat) (w:World) (bs:List Nat) (pos:Nat) (h:Rr B P w bs pos):Calls Tryz.prog 22 #[.pointer (some ⟨P,0,none⟩)] w fun e w'=>∃v F,e=.returned v/\Dn 43 4 Qt B P w w' bs (Pl.gpr bs pos).2 [] v (Pl.gpr bs pos).1 F:=by
 have hlt:=h.lt
 have hbp:=h.bp
 have K1:=zH (nextx_any B P _ bs pos h)
 have hk:(Pl.nx bs pos).1<=255:=Pl.nx_le h.by_
 have HG:=zH (show Pl.gpr bs pos=Pl.gsts bs (Pl.nx bs pos).2 (1+(Pl.nx bs pos).1 % 4) from rfl)
 generalize Pl.gpr bs pos=R at *
 clear h
 generalize Pl.nx bs pos=q at *
 obtain⟨k,p1⟩:=q
 simp only at hk K1 HG
 have m4:Int.tmod (k:Int) 4=((k % 4:Nat):Int):=by rw[Int.tmod_eq_emod_of_nonneg oM];omega
 have l4:k % 4<=3:=by omega
 generalize k % 4=x at *
 go_enter Tryz.func22,Tryz.ntmps22
 go_wp2_with fail
 refine K1.out.mono ?_
 rintro e w1 ⟨rfl,hd⟩
 have I0:=zH (fun q hq=>Dn.emp (w0:=w) 43 4 Qt hd.r (Kx.grown (A:=[P]) hd.g sI) q hq)
 have KC:=zH (fun (X:World) (p:Nat) (h:Rr B P X bs p)=>genStmt_any B P X bs p h)
 have HN:Hid (∀i,(Pl.gsts bs p1 i).1.length=i):=Pl.gsts_len bs p1
 have HCS:Hid (∀i,Pl.gsts bs p1 (i+1)=((Pl.gsts bs p1 i).1++[(Pl.gst bs (Pl.gsts bs p1 i).2).1],(Pl.gst bs (Pl.gsts bs p1 i).2).2)):=fun _=>rfl
 clear hd K1
 go_wp2_with fail
 go_loopw [4,5] (fun v4 v5 wr=>∃(i:Nat) (F:List Nat),v5=.int .i64 (i:Int)/\i<=1+x/\Hid (Dn 43 4 Qt B P w wr bs (Pl.gsts bs p1 i).2 [] v4 (Pl.gsts bs p1 i).1 F)) (fun v4 v5 wr=>1+x-(intOf v5).toNat)
 case atStart=>exact⟨0,_,rfl,by omega,I0.out _ rfl⟩
 rename World=>wr
 obtain⟨i,F,rfl,hi,HD⟩:=hrel
 obtain⟨ao,cap,e4⟩:=HD.out.o.slice
 rw[HN.out i] at e4
 subst e4
 by_cases hlast:i<1+x
 rotate_left 1
 ·have hl':¬(i:Int)<1+(x:Int):=by omega
  obtain rfl:i=1+x:=by omega
  go_wp2_with fail
  refine bodyPost_ret (v:=.slice ao (1+x) cap) (by simp[results,Tryz.results22,go_sem]) rfl ?_
  rw[HG.out]
  first
   |exact⟨_,F,rfl,HD.out⟩
   |exact⟨_,rfl,F,HD.out⟩
 have hl':(i:Int)<1+(x:Int):=by omega
 have KK:=zH (KC.out wr _ HD.out.r)
 have HS:=HCS.out i
 generalize Pl.gst bs (Pl.gsts bs p1 i).2=c9 at *
 obtain⟨⟨tk,tn,tc,tg⟩,pi⟩:=c9
 simp only at KK HS
 go_wp2_with fail
 refine KK.out.mono ?_
 rintro e w2 ⟨v1,v2,F1,F2,rfl,d1,d2,dj⟩
 have E1:=zH (HD.out.with_ Qt.lives d1)
 have E2:=zH (HD.out.with_ Qt.lives d2).2
 have H1:=zH d1
 have H2:=zH d2
 obtain⟨a1,n1,rfl⟩:=d1.o.slice
 obtain⟨a2,n2,rfl⟩:=d2.o.slice
 clear d1 d2 KK
 generalize hl1:tc.length=l1 at *
 generalize hl2:tg.length=l2 at *
 go_wp2_with (at_builtin;refine wpList_append_o el22 Qt.lives _ rfl _ _ rfl _ _ _ _ _ rfl rfl (Pl.gsts bs p1 i).1 [⟨tk,tn,tc,tg⟩] F (F1++F2) [.int .i64 tk,.string (Pl.ba tn),.slice a1 l1 n1,.slice a2 l2 n2] B ?ho ?hi ?hy ?hG ?hn ?hd rfl rfl ?hc ?h1 ?hbd ?hB ?_)
 case ho=>exact(E1.out.1.alloc Qt.lives _).o
 case hi=>exact(E1.out.1.alloc Qt.lives _).i
 case hy=>exact RowQ.one ⟨_,_,F1,F2,rfl,rfl,(H1.out.alloc Qs.lives _).o,(H2.out.alloc Qg.lives _).o⟩
 case hG=>exact(H1.out.alloc Qs.lives _).i.app (H2.out.alloc Qg.lives _).i
 case hn=>rw[List.nodup_append];exact⟨H1.out.nd,H2.out.nd,fun x hx y hy e=>dj x hx (e ▸ hy)⟩
 case hd=>exact fun x hx=>by rcases List.mem_append.1 hx with r | r;exact E1.out.2.1 x r;exact E2.out.1 x r
 case hc=>exact cells_new (l:=[.int .i64 tk,.string (Pl.ba tn),.slice a1 l1 n1,.slice a2 l2 n2]) rfl
 case h1=>simp[Value.oneCell']
 case hbd=>simp[HN.out i];omega
 case hB=>have:=E1.out.1.r.bp;have:=E1.out.1.r.lt;simp;omega
 intro v9 w9 F9 ho9 hi9 hg9 _ hf9
 have D9:=zH ((E1.out.1.alloc Qt.lives _).app' ho9 hi9 hg9 (G:=F1++F2) (fun x hx=>by have:=hf9 x hx;simp at this ⊢;rcases this with r | r | r;exact .inl r;exact .inr (.inl r);exact .inr (.inr oM)) (fun x hx=>by rcases List.mem_append.1 hx with r | r;exact E1.out.2.2 x r;exact E2.out.2 x r))
 have hone:=ho9.one
 clear ho9 hi9 hg9 hf9 HD E1 E2 H1 H2
 go_wp2_with fail
 go_roundw
 case rel=>exact⟨i+1,F9,by simp,by omega,by rw[HS];exact D9.out⟩
 simp[intOf];omega
theorem Hd.at {α:Type}{z:Nat}{Q:World->List Value->α->List Nat->Prop}(L:Lives Q) (hz:∀{w:World}{x:List Value}{a:α}{f:List Nat},Q w x a f->x.length=z) {w:World}{ao:Option Addr}{n cap:Nat}{c:List α}{F:List Nat}(h:Hd z Q w (.slice ao n cap) c F) :
  c=[]\/∃b off,b<w.heap.size/\ao=some ⟨b,off,none⟩/\∀(i:Nat) (a:α),c[i]? = some a->∃x f,Q w x a f/\∀j u,x[j]? = some u->w.cell? ⟨b,off+i * z+j,none⟩=some u:=by
 obtain⟨ao',cap',e,h'⟩:=id h
 have e1:=(Value.slice.inj e).1
 subst e1
 rcases h' with h'|⟨g,xs,fp,rfl,rfl,_,_,h3,_,_⟩
 ·exact .inl h'
 refine .inr ⟨g,0,h3 g sI,rfl,fun i a hi=>?_⟩
 obtain⟨hil,hia⟩:=List.getElem?_eq_some_iff.1 hi
 have ec:c=c.take i++(a::c.drop (i+1)):=by rw[<- hia,<- List.drop_eq_getElem_cons hil,List.take_append_drop]
 have hh:=h
 rw[ec] at hh
 obtain⟨g',cap2,x,f,hv,hQ,hS,_⟩:=hh.focus L hz
 have hg:g=g':=by
  have:=(Value.slice.inj hv).1
  simpa using this
 subst hg
 have hl:(c.take i).length=i:=by rw[List.length_take];omega
 refine⟨x,f,hQ,fun j u hu=>?_⟩
 have:=hS.cur j u hu
 rw[hl] at this
 rw[Nat.zero_add]
 exact this
theorem HdI.rd {w:World}{ao:Option Addr}{n cap:Nat}{c:List Int}{F:List Nat}(h:HdI w (.slice ao n cap) c F):RdI w.heap.size w ao c:=by
 rcases h.at Qi.lives Qi.len' with h|⟨b,off,hb,rfl,hc⟩
 ·exact .inl h
 refine .inr ⟨b,off,hb,rfl,fun i a hi=>?_⟩
 obtain⟨x,f,⟨rfl,rfl⟩,h⟩:=hc i a hi
 have:=h 0 _ rfl
 simpa using this
theorem HdS.rd {w:World}{ao:Option Addr}{n cap:Nat}{c:List Pl.Sv}{F:List Nat}(h:HdS w (.slice ao n cap) c F):RdS w.heap.size w ao c:=by
 rcases h.at Qs'.lives Qs'.len with h|⟨b,off,hb,rfl,hc⟩
 ·exact .inl h
 refine .inr ⟨b,off,hb,rfl,fun i a hi=>?_⟩
 obtain⟨x,f,⟨v,rfl,hI⟩,h⟩:=hc i a hi
 obtain⟨an,cn,rfl⟩:=hI.form
 exact⟨an,cn,h 0 _ rfl,h 1 _ rfl,h 2 _ rfl,h 3 _ rfl,h 4 _ rfl,h 5 _ rfl,h 6 _ rfl,hI.rd⟩
theorem HdG.rd {w:World}{ao:Option Addr}{n cap:Nat}{c:List Pl.Gv}{F:List Nat}(h:HdG w (.slice ao n cap) c F):RdG w.heap.size w ao c:=by
 rcases h.at Qg'.lives Qg'.len with h|⟨b,off,hb,rfl,hc⟩
 ·exact .inl h
 refine .inr ⟨b,off,hb,rfl,fun i a hi=>?_⟩
 obtain⟨x,f,⟨v1,v2,f1,f2,rfl,_,hA,hB⟩,h⟩:=hc i a hi
 obtain⟨a1,c1,rfl⟩:=hA.form
 obtain⟨a2,c2,rfl⟩:=hB.form
 exact⟨a1,a2,c1,c2,h 0 _ rfl,h 1 _ rfl,hA.rd,hB.rd⟩
theorem HdP.rd {w:World}{ao:Option Addr}{n cap:Nat}{c:List Pl.Tv}{F:List Nat}(h:HdP w (.slice ao n cap) c F):RdP w.heap.size w ao c:=by
 rcases h.at Qt'.lives Qt'.len with h|⟨b,off,hb,rfl,hc⟩
 ·exact .inl h
 refine .inr ⟨b,off,hb,rfl,fun i a hi=>?_⟩
 obtain⟨x,f,⟨v1,v2,f1,f2,rfl,_,hA,hB⟩,h⟩:=hc i a hi
 obtain⟨a1,c1,rfl⟩:=hA.form
 obtain⟨a2,c2,rfl⟩:=hB.form
 exact⟨a1,a2,c1,c2,h 0 _ rfl,h 1 _ rfl,h 2 _ rfl,h 3 _ rfl,hA.rd,hB.rd⟩
theorem l2Same_same (l:List Int) (a1 a2:Option Addr) (c1 c2:Nat) (w:World) (hl:l.length<=1048576) (R1:RdI w.heap.size w a1 l) (R2:RdI w.heap.size w a2 l) :
  Calls Tryz.prog 40 #[.slice a1 l.length c1,.slice a2 l.length c2] w fun e w'=>e=.returned (.bool true)/\∃q,w'=w.drewN q:=by
 have HG:Hid (∀k,k<l.length->∃x b1 o1 b2 o2,a1=some ⟨b1,o1,none⟩/\a2=some ⟨b2,o2,none⟩/\w.cell? ⟨b1,o1+k,none⟩=some (.int .i64 x)/\w.cell? ⟨b2,o2+k,none⟩=some (.int .i64 x)):=fun k hk=>by
  rcases R1 with rfl|⟨b1,o1,h1,rfl,hc1⟩
  ·cases hk
  rcases R2 with rfl|⟨b2,o2,h2,rfl,hc2⟩
  ·cases hk
  exact⟨l[k],b1,o1,b2,o2,rfl,rfl,hc1 k l[k] (List.getElem?_eq_getElem hk),hc2 k l[k] (List.getElem?_eq_getElem hk)⟩
 clear R1 R2
 generalize l.length=n at *
 go_enter Tryz.func40,Tryz.ntmps40
 go_wp2
 go_loopw [5] (fun i wr=>∃k q:Nat,k<=n/\i=.int .i64 k/\wr=w.drewN q) (fun i _=>n-(intOf i).toNat)
 case atStart=>exact⟨0,0,Nat.zero_le _,rfl,rfl⟩
 obtain⟨k,q,hk,rfl,rfl⟩:=hrel
 by_cases hlt:k<n
 ·obtain⟨x,b1,o1,b2,o2,rfl,rfl,hck1,hck2⟩:=HG.out k hlt
  have hlt':(k:Int)<(n:Int):=by omega
  clear HG
  go_wp2
  go_quiet (fail)
  go_wp2
  go_roundw
  case rel=>exact⟨k+1,q+nq,by omega,by go_num,by simp⟩
  simp[intOf];omega
 clear HG
 go_wp2
 go_ret
 exact⟨rfl,q,rfl⟩
theorem storeCells_free (P:Program) (g o:Nat) (t:TypeId) (fz:Nat × Nat):∀(vs:List Value) (i:Nat) (cur:Array Value) (w:World),w.heap[g]? = some (.cells cur t fz)->(∀k,k<cur.size->¬(fz.1<=k/\k<fz.2))->o+i+vs.length<=cur.size->(∀v∈vs,v.oneCell'=true) ->
  (storeCells ⟨g,o,none⟩ vs i).run P w=.ok () (w.setRow g (cur.toList.take (o+i)++vs++cur.toList.drop (o+i+vs.length)).toArray)
 |[],i,cur,w,hg,_,_,_=>by
  simp only[storeCells,List.append_nil,List.length_nil,Nat.add_zero,List.take_append_drop,Array.toArray_toList]
  rw[setRow_self w g cur t fz hg]
  rfl
 |v::rest,i,cur,w,hg,hfz,hl,h1=>by
  have hi:o+i<cur.size:=by simp at hl;omega
  have hadd:(⟨g,o,none⟩:Addr).add i=⟨g,o+i,none⟩:=by unfold Addr.add;split <;> simp_all
  have hcell:w.cell? ⟨g,o+i,none⟩=some cur[o+i]:=by simp[World.cell?,hg,hi]
  have hfro:w.frozen? ⟨g,o+i,none⟩=false:=by
   have:=hfz (o+i) hi
   obtain⟨lo,hi'⟩:=fz
   simp only[World.frozen?,hg,Bool.and_eq_false_iff,decide_eq_false_iff_not]
   simp only at this
   omega
  have hst:(store ((⟨g,o,none⟩:Addr).add i) v).run P w=.ok () (w.setRow g (cur.setIfInBounds (o+i) v)):=by
   rw[hadd,run_store P w _ v _ (h1 v sI),hcell]
   simp[hfro,setCell_eq_setRow w g (o+i) cur t fz v hg]
  have ih:=storeCells_free P g o t fz rest (i+1) (cur.setIfInBounds (o+i) v) (w.setRow g (cur.setIfInBounds (o+i) v)) (setRow_heap w g cur _ t _ hg) (by simpa using hfz) (by simp at hl ⊢;omega) (fun x hx=>h1 x (by simp[hx]))
  simp only[storeCells,Sem.run_bind,hst,Result.andThen_ok,ih,setRow_setRow]
  congr 3
  have e:=list_seg_step cur.toList (o+i) v rest (by simp at hl ⊢;omega)
  simpa[Array.toList_setIfInBounds,Nat.add_assoc] using e
def OwB (w:World) (B:Nat) (v:Value) (bs:List UInt8):Prop :=
 ∃g cap cur fz,v=.slice (some ⟨g,0,none⟩) bs.length cap/\B<=g/\w.heap[g]? = some (.cells cur 5 fz)/\(∀k,k<cur.size->¬(fz.1<=k/\k<fz.2))/\bs.length<=cap/\cap<=maxLen/\cur.size=cap/\cur.toList.take bs.length=Lib.byteCells bs
theorem OwB.form {w:World}{B:Nat}{v:Value}{bs:List UInt8}(h:OwB w B v bs):∃ao cap,v=.slice ao bs.length cap:=by
 obtain⟨g,cap,_,_,rfl,_⟩:=h
 exact⟨_,cap,rfl⟩
theorem OwB.one {w:World}{B:Nat}{v:Value}{bs:List UInt8}(h:OwB w B v bs):v.oneCell'=true:=by
 obtain⟨g,cap,_,_,rfl,_⟩:=h
 rfl
theorem OwB.empty (w:World) (B:Nat) (hB:B<=w.heap.size):OwB (w.alloc (.cells #[] 5)) B (.slice (some ⟨w.heap.size,0,none⟩) 0 0) [] :=
 ⟨w.heap.size,0,#[],(0,0),rfl,hB,heap_alloc_new w _,by simp,Nat.le_refl _,by simp[maxLen],rfl,rfl⟩
theorem OwB.conv (sx:ByteArray) (w:World) (B:Nat) (hB:B<=w.heap.size) (hs:sx.size<=1048576):OwB (w.drew.alloc (.cells (bytesRow sx (grownCap w sx.size 0 5)) 5 ((bytesRow sx (grownCap w sx.size 0 5)).size,(bytesRow sx (grownCap w sx.size 0 5)).size+1))) B (.slice (some ⟨w.heap.size,0,none⟩) sx.size (grownCap w sx.size 0 5)) sx.data.toList:=by
 have hge:=grownCap_ge w sx.size 0 5
 have hm:grownCap w sx.size 0 5<=maxLen:=grownCap_le_maxLen w sx.size 0 5 (by unfold maxLen;omega)
 have hz:(bytesRow sx (grownCap w sx.size 0 5)).size=grownCap w sx.size 0 5:=by
  unfold bytesRow
  have:sx.data.size=sx.size:=rfl
  simp
  omega
 have hl:sx.data.toList.length=sx.size:=by simp
 refine⟨w.heap.size,grownCap w sx.size 0 5,_,_,by rw[hl],hB,heap_alloc_new w.drew _,fun k hk=>by omega,by omega,hm,hz,?_⟩
 rw[hl]
 unfold bytesRow Lib.byteCells
 simp
theorem OwB.keep {w w':World}{B:Nat}{v:Value}{bs:List UInt8}(h:OwB w B v bs) (hb:Below w.heap.size w w'):OwB w' B v bs:=by
 obtain⟨g,cap,cur,fz,rfl,h1,h2,h3⟩:=h
 exact⟨g,cap,cur,fz,rfl,h1,(hb.block g (Array.getElem?_eq_some_iff.1 h2).1).trans h2,h3⟩
theorem OwB.append {w:World}{B:Nat}{v:Value}{bs ys:List UInt8}{b cap:Nat}(h:OwB w B v bs) (hB:B<=w.heap.size) (hc:∀j y,(Lib.byteCells ys)[j]? = some y->w.cell? ⟨b,j,none⟩=some y) (hbd:bs.length+ys.length<=16777216) (ty:TypeId) :
  ∃v' w',(Builtin.append_ #[22,22] ty #[v,.slice (some ⟨b,0,none⟩) ys.length cap]).run Tryz.prog w=.ok v' w'/\OwB w' B v' (bs++ys)/\Below B w w':=by
 obtain⟨i0,hi,hz0,hz1,hz2⟩:=info_parts Tryz.info5
 obtain⟨g,cp,cur,fz,rfl,hBg,hg,hfr,hn,hcm,hcs,htk⟩:=h
 have hl:(Lib.byteCells ys).length=ys.length:=by simp[Lib.byteCells]
 have hlb:(Lib.byteCells bs).length=bs.length:=by simp[Lib.byteCells]
 have h1:∀u∈Lib.byteCells ys,u.oneCell'=true:=fun u hu=>by
  unfold Lib.byteCells at hu
  obtain⟨z,_,rfl⟩:=List.mem_map.1 hu
  rfl
 have hnews:∀j u,(Lib.byteCells ys)[j]? = some u->w.cell? ((⟨b,0,none⟩:Addr).add j)=some u:=fun j u hu=>by
  rw[Addr.add_lit,Nat.zero_add]
  exact hc j u hu
 have happ:Lib.byteCells (bs++ys)=Lib.byteCells bs++Lib.byteCells ys:=by simp[Lib.byteCells]
 by_cases hroom:bs.length+ys.length<=cp
 ·have hf:=run_firstCells_some (P:=Tryz.prog) w i0.size ys.length ⟨b,0,none⟩ ys.length cap (Lib.byteCells ys) (by rw[hl,hz1,Nat.mul_one]) hnews
  have hst:=storeCells_free Tryz.prog g (bs.length * i0.size) 5 fz (Lib.byteCells ys) 0 cur w hg hfr (by rw[hl,hz1];omega) h1
  simp only[Nat.add_zero] at hst
  have hr:(Builtin.append_ #[22,22] ty #[.slice (some ⟨g,0,none⟩) bs.length cp,.slice (some ⟨b,0,none⟩) ys.length cap]).run Tryz.prog w=.ok (.slice (some ⟨g,0,none⟩) (bs.length+ys.length) cp) (w.setRow g (cur.toList.take (bs.length * i0.size)++Lib.byteCells ys++cur.toList.drop (bs.length * i0.size+(Lib.byteCells ys).length)).toArray):=by
   simp[Builtin.append_,run_underlying und36,sizeOf,typeInfo,hi,Builtin.lenOf,hroom,hf,Addr.add_lit,hst]
  refine⟨_,_,hr,⟨g,cp,_,fz,by rw[List.length_append],hBg,setRow_heap w g cur _ 5 _ hg,?_,by rw[List.length_append];exact hroom,hcm,?_,?_⟩,⟨rfl,rfl,rfl,by simp,fun k hk=>setRow_other w g k _ (fun e=>by omega)⟩⟩
  ·intro k hk
   refine hfr k ?_
   simp[hz1,hl] at hk
   omega
  ·simp[hz1,hl]
   omega
  rw[happ,hz1,Nat.mul_one,htk,List.length_append,<- hl,<- hlb,<- List.length_append]
  exact List.take_left
 have holds:∀j u,(Lib.byteCells bs)[j]? = some u->w.cell? ((⟨g,0,none⟩:Addr).add j)=some u:=fun j u hu=>by
  rw[Addr.add_lit,Nat.zero_add,cell_of_row w g j cur 5 fz hg]
  rw[<- htk,List.getElem?_take] at hu
  split at hu
  ·simpa using hu
  cases hu
 have hr:=run_append_grow (P:=Tryz.prog) w 22 ty 5 i0 (.int .u8 0) und36 hi hz0 ⟨g,0,none⟩ bs.length cp (Lib.byteCells bs) (by rw[hlb,hz1,Nat.mul_one]) holds ⟨b,0,none⟩ ys.length cap (Lib.byteCells ys) (by rw[hl,hz1,Nat.mul_one]) hnews oM oM (growslice_fits oM (by rw[hz2];omega))
 have hge:=grownCap_ge w (bs.length+ys.length) cp 5
 have hcm2:grownCap w (bs.length+ys.length) cp 5<=maxLen:=grownCap_le_maxLen w (bs.length+ys.length) cp 5 (by unfold maxLen;omega)
 refine⟨_,_,hr,⟨w.heap.size,_,_,(0,0),by rw[List.length_append],hB,heap_alloc_new w.drew _,by simp,by rw[List.length_append];exact hge,hcm2,?_,?_⟩,(Below.refl B w).drew.alloc hB _⟩
 ·simp only[Array.size_append,List.size_toArray,size_zeroCells,hl,hlb]
  have:(Value.int IntKind.u8 0).cells.size=1:=rfl
  rw[this]
  omega
 rw[happ]
 simp only[Array.toList_append,List.append_assoc]
 rw[<- List.append_assoc,List.length_append,<- hl,<- hlb,<- List.length_append]
 exact List.take_left
theorem OwB.text {w:World}{B:Nat}{v:Value}{bs:List UInt8}(h:OwB w B v bs):(convert 22 9 v).run Tryz.prog w=.ok (.string ⟨bs.toArray⟩) w:=by
 obtain⟨g,cp,cur,fz,rfl,hBg,hg,hfr,hn,hcm,hcs,htk⟩:=h
 have:=run_convert_bytes_arg (P:=Tryz.prog) w 22 5 kR kR g 0 bs.length cp (bs.map (fun b=>(b.toNat:Int))) sI (fun i hi=>by
  rw[Nat.zero_add,cell_of_row w g i cur 5 fz hg]
  have e2:(cur.toList.take bs.length)[i]? = (Lib.byteCells bs)[i]?:=by rw[htk]
  rw[List.getElem?_take_of_lt oM] at e2
  rw[<- Array.getElem?_toList,e2]
  simp[Lib.byteCells,List.getD,hi]) 9 kR
 have e3:strOfNums (bs.map (fun b=>(b.toNat:Int)))=⟨bs.toArray⟩:=by
  unfold strOfNums
  rw[List.map_map]
  have e4:bs.map ((fun n:Int=>UInt8.ofNat n.toNat) ∘ fun b:UInt8=>(b.toNat:Int))=bs:=by
   have:((fun n:Int=>UInt8.ofNat n.toNat) ∘ fun b:UInt8=>(b.toNat:Int))=id:=by
    funext b
    simp
   rw[this,List.map_id]
  rw[e4]
 rw[this,e3]
theorem piece_tab (i:Nat) (h:i<36):∃s:ByteArray,s.size<=64/\([.string ⟨#[119]⟩,.string ⟨#[97]⟩,.string ⟨#[49]⟩,.string ⟨#[95,50]⟩,.string ⟨#[32]⟩,.string ⟨#[43]⟩,.string ⟨#[45]⟩,.string ⟨#[47]⟩,.string ⟨#[92]⟩,.string ⟨#[64]⟩,.string ⟨#[46]⟩,.string ⟨#[40]⟩,.string ⟨#[41]⟩,.string ⟨#[123]⟩,.string ⟨#[125]⟩,.string ⟨#[58]⟩,.string ⟨#[58,61]⟩,.string ⟨#[59]⟩,.string ⟨#[10]⟩,.string ⟨#[70]⟩,.string ⟨#[115,101,108,102]⟩,.string ⟨#[105,111,116,97]⟩,.string ⟨#[114,104,111]⟩,.string ⟨#[120,49]⟩,.string ⟨#[51,48,48,48,48,48,48,48,48,49]⟩,.string ⟨#[95]⟩,.string ⟨#[49,50,51,52,53,54,55,56,57,48,49]⟩,.string ⟨#[36]⟩,.string ⟨#[35,32,99,10]⟩,.string ⟨#[49,97]⟩,.string ⟨#[114,111,108,108]⟩,.string ⟨#[97,98,99,100,101,102,103,104,105,106,97,98,99,100,101,102,103,104,105,106,107]⟩,.string ⟨#[126]⟩,.string ⟨#[109,97,120]⟩,.string ⟨#[51,32,52,32,53]⟩,.string ⟨#[116,97,107,101]⟩]:List Value)[i]? = some (.string s):=by
 match i,h with
 |0,_=>exact⟨_,by decide,rfl⟩
 |1,_=>exact⟨_,by decide,rfl⟩
 |2,_=>exact⟨_,by decide,rfl⟩
 |3,_=>exact⟨_,by decide,rfl⟩
 |4,_=>exact⟨_,by decide,rfl⟩
 |5,_=>exact⟨_,by decide,rfl⟩
 |6,_=>exact⟨_,by decide,rfl⟩
 |7,_=>exact⟨_,by decide,rfl⟩
 |8,_=>exact⟨_,by decide,rfl⟩
 |9,_=>exact⟨_,by decide,rfl⟩
 |10,_=>exact⟨_,by decide,rfl⟩
 |11,_=>exact⟨_,by decide,rfl⟩
 |12,_=>exact⟨_,by decide,rfl⟩
 |13,_=>exact⟨_,by decide,rfl⟩
 |14,_=>exact⟨_,by decide,rfl⟩
 |15,_=>exact⟨_,by decide,rfl⟩
 |16,_=>exact⟨_,by decide,rfl⟩
 |17,_=>exact⟨_,by decide,rfl⟩
 |18,_=>exact⟨_,by decide,rfl⟩
 |19,_=>exact⟨_,by decide,rfl⟩
 |20,_=>exact⟨_,by decide,rfl⟩
 |21,_=>exact⟨_,by decide,rfl⟩
 |22,_=>exact⟨_,by decide,rfl⟩
 |23,_=>exact⟨_,by decide,rfl⟩
 |24,_=>exact⟨_,by decide,rfl⟩
 |25,_=>exact⟨_,by decide,rfl⟩
 |26,_=>exact⟨_,by decide,rfl⟩
 |27,_=>exact⟨_,by decide,rfl⟩
 |28,_=>exact⟨_,by decide,rfl⟩
 |29,_=>exact⟨_,by decide,rfl⟩
 |30,_=>exact⟨_,by decide,rfl⟩
 |31,_=>exact⟨_,by decide,rfl⟩
 |32,_=>exact⟨_,by decide,rfl⟩
 |33,_=>exact⟨_,by decide,rfl⟩
 |34,_=>exact⟨_,by decide,rfl⟩
 |35,_=>exact⟨_,by decide,rfl⟩
 |k+36,h=>exact absurd h oM
theorem piece_any (k:Nat) (hk:k<=100000) (w:World):Calls Tryz.prog 24 #[.int .i64 (k:Int)] w fun e w'=>∃s:ByteArray,e=.returned (.string s)/\s.size<=64/\Below w.heap.size w w':=by
 obtain⟨s,hs,ht⟩:=piece_tab (k % 36) (Nat.mod_lt _ oM)
 have c:=cells_new (w:=w) (t:=9) (l:=[.string ⟨#[119]⟩,.string ⟨#[97]⟩,.string ⟨#[49]⟩,.string ⟨#[95,50]⟩,.string ⟨#[32]⟩,.string ⟨#[43]⟩,.string ⟨#[45]⟩,.string ⟨#[47]⟩,.string ⟨#[92]⟩,.string ⟨#[64]⟩,.string ⟨#[46]⟩,.string ⟨#[40]⟩,.string ⟨#[41]⟩,.string ⟨#[123]⟩,.string ⟨#[125]⟩,.string ⟨#[58]⟩,.string ⟨#[58,61]⟩,.string ⟨#[59]⟩,.string ⟨#[10]⟩,.string ⟨#[70]⟩,.string ⟨#[115,101,108,102]⟩,.string ⟨#[105,111,116,97]⟩,.string ⟨#[114,104,111]⟩,.string ⟨#[120,49]⟩,.string ⟨#[51,48,48,48,48,48,48,48,48,49]⟩,.string ⟨#[95]⟩,.string ⟨#[49,50,51,52,53,54,55,56,57,48,49]⟩,.string ⟨#[36]⟩,.string ⟨#[35,32,99,10]⟩,.string ⟨#[49,97]⟩,.string ⟨#[114,111,108,108]⟩,.string ⟨#[97,98,99,100,101,102,103,104,105,106,97,98,99,100,101,102,103,104,105,106,107]⟩,.string ⟨#[126]⟩,.string ⟨#[109,97,120]⟩,.string ⟨#[51,32,52,32,53]⟩,.string ⟨#[116,97,107,101]⟩]) rfl (k % 36) _ ht
 rw[Nat.zero_add] at c
 have HB:Hid (∀o,Below w.heap.size w (w.alloc o)):=fun o=>(Below.refl _ _).alloc (Nat.le_refl _) _
 have m:Int.tmod (k:Int) 36=((k % 36:Nat):Int):=by rw[Int.tmod_eq_emod_of_nonneg oM];omega
 have hl:((k % 36:Nat):Int)<36:=by omega
 clear ht
 generalize k % 36=j at *
 go_enter Tryz.func24,Tryz.ntmps24
 go_wp2_with fail
 refine bodyPost_ret (v:=.string s) (by simp[results,Tryz.results24,go_sem]) rfl ?_
 first
  |exact⟨s,rfl,hs,HB.out _⟩
  |exact⟨rfl,hs,HB.out _⟩
theorem classic_tab (i:Nat) (h:i<24):∃s:ByteArray,s.size<=64/\([.string ⟨#[43,47,32,119]⟩,.string ⟨#[119,32,43,32,49]⟩,.string ⟨#[70,32,58,61,32,123,119,32,60,32,50,32,58,32,49,59,32,119,32,42,32,115,101,108,102,32,119,32,45,32,49,125,10,70,32,119]⟩,.string ⟨#[120,32,58,61,32,105,111,116,97,32,99,111,117,110,116,32,119,59,32,40,119,32,102,114,111,109,32,120,41,32,109,97,116,99,104,32,119]⟩,.string ⟨#[43,47,32,119,32,42,32,119]⟩,.string ⟨#[40,103,114,97,100,101,32,119,41,32,102,114,111,109,32,119]⟩,.string ⟨#[119,32,64,42,32,119]⟩,.string ⟨#[119,32,43,46,42,32,119]⟩,.string ⟨#[114,101,118,32,119]⟩,.string ⟨#[114,111,108,108,32,54,32,54,32,54]⟩,.string ⟨#[70,32,58,61,32,123,40,99,111,117,110,116,32,119,41,32,61,32,48,32,58,32,48,59,32,40,48,32,102,114,111,109,32,119,41,32,43,32,115,101,108,102,32,49,32,100,114,111,112,32,119,125,59,32,70,32,119]⟩,.string ⟨#[71,99,100,32,58,61,32,123,119,32,61,32,48,32,58,32,97,59,32,119,32,115,101,108,102,32,119,32,124,32,97,125,59,32,49,50,32,71,99,100,32,49,56]⟩,.string ⟨#[119,32,37,32,48]⟩,.string ⟨#[70,32,58,61,32,123,115,101,108,102,32,119,125,59,32,70,32,119]⟩,.string ⟨#[109,97,120,47,32,119]⟩,.string ⟨#[95,49,32,116,97,107,101,32,119]⟩,.string ⟨#[51,32,51,32,114,104,111,32,105,111,116,97,32,57]⟩,.string ⟨#[71,32,58,61,32,123,97,32,43,32,119,125,10,49,32,71,32,119]⟩,.string ⟨#[102,108,105,112,32,50,32,51,32,114,104,111,32,105,111,116,97,32,54]⟩,.string ⟨#[119,32,58,61,32,119,44,32,119]⟩,.string ⟨#[43,92,32,119]⟩,.string ⟨#[49,48,48,48,32,114,104,111,32,49]⟩,.string ⟨#[120]⟩,.string ⟨#[70,32,58,61,32,123,119,125]⟩]:List Value)[i]? = some (.string s):=by
 match i,h with
 |0,_=>exact⟨_,by decide,rfl⟩
 |1,_=>exact⟨_,by decide,rfl⟩
 |2,_=>exact⟨_,by decide,rfl⟩
 |3,_=>exact⟨_,by decide,rfl⟩
 |4,_=>exact⟨_,by decide,rfl⟩
 |5,_=>exact⟨_,by decide,rfl⟩
 |6,_=>exact⟨_,by decide,rfl⟩
 |7,_=>exact⟨_,by decide,rfl⟩
 |8,_=>exact⟨_,by decide,rfl⟩
 |9,_=>exact⟨_,by decide,rfl⟩
 |10,_=>exact⟨_,by decide,rfl⟩
 |11,_=>exact⟨_,by decide,rfl⟩
 |12,_=>exact⟨_,by decide,rfl⟩
 |13,_=>exact⟨_,by decide,rfl⟩
 |14,_=>exact⟨_,by decide,rfl⟩
 |15,_=>exact⟨_,by decide,rfl⟩
 |16,_=>exact⟨_,by decide,rfl⟩
 |17,_=>exact⟨_,by decide,rfl⟩
 |18,_=>exact⟨_,by decide,rfl⟩
 |19,_=>exact⟨_,by decide,rfl⟩
 |20,_=>exact⟨_,by decide,rfl⟩
 |21,_=>exact⟨_,by decide,rfl⟩
 |22,_=>exact⟨_,by decide,rfl⟩
 |23,_=>exact⟨_,by decide,rfl⟩
 |k+24,h=>exact absurd h oM
theorem classic_any (k:Nat) (hk:k<=100000) (w:World):Calls Tryz.prog 23 #[.int .i64 (k:Int)] w fun e w'=>∃s:ByteArray,e=.returned (.string s)/\s.size<=64/\Below w.heap.size w w':=by
 obtain⟨s,hs,ht⟩:=classic_tab (k % 24) (Nat.mod_lt _ oM)
 have c:=cells_new (w:=w) (t:=9) (l:=[.string ⟨#[43,47,32,119]⟩,.string ⟨#[119,32,43,32,49]⟩,.string ⟨#[70,32,58,61,32,123,119,32,60,32,50,32,58,32,49,59,32,119,32,42,32,115,101,108,102,32,119,32,45,32,49,125,10,70,32,119]⟩,.string ⟨#[120,32,58,61,32,105,111,116,97,32,99,111,117,110,116,32,119,59,32,40,119,32,102,114,111,109,32,120,41,32,109,97,116,99,104,32,119]⟩,.string ⟨#[43,47,32,119,32,42,32,119]⟩,.string ⟨#[40,103,114,97,100,101,32,119,41,32,102,114,111,109,32,119]⟩,.string ⟨#[119,32,64,42,32,119]⟩,.string ⟨#[119,32,43,46,42,32,119]⟩,.string ⟨#[114,101,118,32,119]⟩,.string ⟨#[114,111,108,108,32,54,32,54,32,54]⟩,.string ⟨#[70,32,58,61,32,123,40,99,111,117,110,116,32,119,41,32,61,32,48,32,58,32,48,59,32,40,48,32,102,114,111,109,32,119,41,32,43,32,115,101,108,102,32,49,32,100,114,111,112,32,119,125,59,32,70,32,119]⟩,.string ⟨#[71,99,100,32,58,61,32,123,119,32,61,32,48,32,58,32,97,59,32,119,32,115,101,108,102,32,119,32,124,32,97,125,59,32,49,50,32,71,99,100,32,49,56]⟩,.string ⟨#[119,32,37,32,48]⟩,.string ⟨#[70,32,58,61,32,123,115,101,108,102,32,119,125,59,32,70,32,119]⟩,.string ⟨#[109,97,120,47,32,119]⟩,.string ⟨#[95,49,32,116,97,107,101,32,119]⟩,.string ⟨#[51,32,51,32,114,104,111,32,105,111,116,97,32,57]⟩,.string ⟨#[71,32,58,61,32,123,97,32,43,32,119,125,10,49,32,71,32,119]⟩,.string ⟨#[102,108,105,112,32,50,32,51,32,114,104,111,32,105,111,116,97,32,54]⟩,.string ⟨#[119,32,58,61,32,119,44,32,119]⟩,.string ⟨#[43,92,32,119]⟩,.string ⟨#[49,48,48,48,32,114,104,111,32,49]⟩,.string ⟨#[120]⟩,.string ⟨#[70,32,58,61,32,123,119,125]⟩]) rfl (k % 24) _ ht
 rw[Nat.zero_add] at c
 have HB:Hid (∀o,Below w.heap.size w (w.alloc o)):=fun o=>(Below.refl _ _).alloc (Nat.le_refl _) _
 have m:Int.tmod (k:Int) 24=((k % 24:Nat):Int):=by rw[Int.tmod_eq_emod_of_nonneg oM];omega
 have hl:((k % 24:Nat):Int)<24:=by omega
 clear ht
 generalize k % 24=j at *
 go_enter Tryz.func23,Tryz.ntmps23
 go_wp2_with fail
 refine bodyPost_ret (v:=.string s) (by simp[results,Tryz.results23,go_sem]) rfl ?_
 first
  |exact⟨s,rfl,hs,HB.out _⟩
  |exact⟨rfl,hs,HB.out _⟩
end Go.Proofs.YtbiiicbfpcfgdaaGreatDoor
