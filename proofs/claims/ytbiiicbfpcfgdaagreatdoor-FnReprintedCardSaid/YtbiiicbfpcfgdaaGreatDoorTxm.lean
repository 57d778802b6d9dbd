import Derived.Test.YtbiiicbfpcfgdaaGreatDoorFnt
import Derived.Test.YtbiiicbfpcfgdaaGreatDoorSok
import Derived.Lib.Join
import Derived.Laws.IdiomStrings
namespace Go.Proofs.YtbiiicbfpcfgdaaGreatDoor
open Go.RowKit
set_option maxRecDepth 100000
set_option maxHeartbeats 16000000
set_option linter.unusedVariables false
theorem Tryz.info5:(Tryz.prog.info? 5).map (fun i=>(i.zero,i.size,i.bytes))=some (some (.int .u8 0),1,1):=by kernel_rfl
theorem und36:Tryz.prog.underlying 22=some (.slice 5):=by kernel_rfl
theorem owns8_keep {base n:Nat}{w w':World}{v:Value}{xs:List Value}(h:w.ownsRow base 5 1 v n xs) (hb:Below w.heap.size w w'):w'.ownsRow base 5 1 v n xs:=by
 refine⟨h.1,?_⟩
 rcases h.2 with h|⟨g,cap,cur,e,h1,h2,h3⟩
 ·exact .inl h
 exact .inr ⟨g,cap,cur,e,h1,(hb.block g (Array.getElem?_eq_some_iff.1 h2).1).trans h2,h3⟩
theorem owns8_form {base n:Nat}{w:World}{v:Value}{xs:List Value}(h:w.ownsRow base 5 1 v n xs):∃xo yo,v=.slice xo n yo:=by
 rcases h.2 with ⟨e,h0⟩|⟨g,cp,cur,e,_⟩
 ·exact⟨none,0,by rw[h0];exact e⟩
 exact⟨_,_,e⟩
theorem wpList_append8 {base:Nat}(w:World) {ops:Array Oper}{rest:List Oper}{o:Oper}{a:Act}{Q:Exit->Act->World->Prop}(hg:o.guard=none) (s x:Operand)
  (hop:o.op=Op.call { callee:=Callee.builtin Builtin.append,args:=#[s,x],argTypes:=#[22,22] }) (v u:Value) (hs:a.eval s=v) (hx:a.eval x=u) (n:Nat) (bs ys:List UInt8) (b cap:Nat) (hu:u=.slice (some ⟨b,0,none⟩) ys.length cap)
  (hown:w.ownsRow base 5 1 v n (Lib.byteCells bs)) (hc:∀j y,(Lib.byteCells ys)[j]? = some y->w.cell? ⟨b,j,none⟩=some y) (hy:0<ys.length) (hbd:n+ys.length<=16777216) (hbase:base<=w.heap.size)
  (hK:∀v' w',w'.ownsRow base 5 1 v' (n+ys.length) (Lib.byteCells (bs++ys))->w.grownBy w' v.ownBlock->wpList Tryz.prog ops Q rest (a.put o.dst v') w'):wpList Tryz.prog ops Q (o::rest) a w:=by
 obtain⟨i0,hi,hz0,hz1,hz2⟩:=info_parts Tryz.info5
 subst hu
 obtain⟨v',w',hr,ho,hg',_⟩:=run_append_own (P:=Tryz.prog) w base 22 o.type 5 i0 (.int .u8 0) 1 1 und36 hi hz0 hz1 hz2 rfl (by decide) v n _ hown ⟨b,0,none⟩ ys.length cap (Lib.byteCells ys) (by simp[Lib.byteCells])
  (by
   intro j y hj
   rw[Addr.add_lit,Nat.zero_add]
   exact hc j y hj)
  (by
   intro y hy
   unfold Lib.byteCells at hy
   obtain⟨z,_,rfl⟩:=List.mem_map.1 hy
   rfl) (by unfold maxLen;omega) oM hbase
 refine wpList_plain hg fun K hK'=>?_
 unfold Oper.wp
 simp[execOp,hop,resolve,invoke,builtin,hs,hx,hr,Result.andThen]
 exact hK' _ _ (hK v' w' (by simpa[Lib.byteCells] using ho) hg')
theorem conv8 (sx:ByteArray) (w:World):(convert 9 22 (.string sx)).run Tryz.prog w=.ok (.slice (some ⟨w.heap.size,0,none⟩) sx.size (grownCap w sx.size 0 5)) (w.drew.alloc (.cells (bytesRow sx (grownCap w sx.size 0 5)) 5 ((bytesRow sx (grownCap w sx.size 0 5)).size,(bytesRow sx (grownCap w sx.size 0 5)).size+1))) :=
 run_bytes_of_string w 9 22 5 sx kR kR kR
theorem conv8_cells (sx:ByteArray) (w:World):∀j y,(Lib.byteCells sx.data.toList)[j]? = some y->(w.drew.alloc (.cells (bytesRow sx (grownCap w sx.size 0 5)) 5 ((bytesRow sx (grownCap w sx.size 0 5)).size,(bytesRow sx (grownCap w sx.size 0 5)).size+1))).cell? ⟨w.heap.size,j,none⟩=some y:=by
 intro j y hj
 have h0:(w.drew.alloc (.cells (bytesRow sx (grownCap w sx.size 0 5)) 5 ((bytesRow sx (grownCap w sx.size 0 5)).size,(bytesRow sx (grownCap w sx.size 0 5)).size+1))).heap[w.heap.size]? = some (.cells (bytesRow sx (grownCap w sx.size 0 5)) 5 ((bytesRow sx (grownCap w sx.size 0 5)).size,(bytesRow sx (grownCap w sx.size 0 5)).size+1)):=heap_alloc_new w.drew _
 rw[cell_of_row _ _ j _ 5 _ h0]
 unfold Lib.byteCells at hj
 unfold bytesRow
 rw[List.getElem?_map] at hj
 obtain⟨z,hz,rfl⟩:=Option.map_eq_some_iff.1 hj
 have hlt:=(List.getElem?_eq_some_iff.1 hz).1
 rw[Array.getElem?_append_left (by simpa using hlt),Array.getElem?_map]
 have:sx.data[j]? = some z:=by simpa using hz
 rw[this]
 rfl
theorem conv8_below (sx:ByteArray) (w:World):Below w.heap.size w (w.drew.alloc (.cells (bytesRow sx (grownCap w sx.size 0 5)) 5 ((bytesRow sx (grownCap w sx.size 0 5)).size,(bytesRow sx (grownCap w sx.size 0 5)).size+1))):=(Below.refl _ _).drew.alloc (Nat.le_refl _) _
theorem conv_row {base:Nat}(bs:List UInt8) (v:Value) (w:World) (h:w.ownsRow base 5 1 v bs.length (Lib.byteCells bs)):(convert 22 9 v).run Tryz.prog w=.ok (.string ⟨bs.toArray⟩) w:=by
 rcases hh:h.2 with ⟨e,h0⟩|⟨g,cp,cur,e,hB,hg,h1,h2,h3,h4⟩
 ·obtain rfl:bs=[]:=List.eq_nil_of_length_eq_zero h0
  rw[e]
  exact run_convert_bytes_nil w 22 5 kR kR 0 0 9 kR
 rw[e]
 have:=run_convert_bytes_arg (P:=Tryz.prog) w 22 5 kR kR g 0 bs.length cp (bs.map (fun b=>(b.toNat:Int))) sI (fun i hi=>by
  rw[Nat.zero_add,cell_of_row w g i cur 5 (0,0) hg]
  have e2:(cur.toList.take (bs.length * 1))[i]? = (Lib.byteCells bs)[i]?:=by rw[h4]
  rw[List.getElem?_take_of_lt oM] at e2
  rw[<- Array.getElem?_toList,e2]
  simp[Lib.byteCells,List.getD,hi]) 9 kR
 have e3:strOfNums (bs.map (fun b=>(b.toNat:Int)))=⟨bs.toArray⟩:=by
  unfold strOfNums
  rw[List.map_map]
  have e4:bs.map ((fun n:Int=>UInt8.ofNat n.toNat) ∘ fun b:UInt8=>(b.toNat:Int))=bs:=by
   have:((fun n:Int=>UInt8.ofNat n.toNat) ∘ fun b:UInt8=>(b.toNat:Int))=id:=by
    funext b
    simp
   rw[this,List.map_id]
  rw[e4]
 rw[this,e3]
namespace Pl
def jt (l:List Int) (k:Nat):List UInt8:=sp tg ((l.take k).map nt)
theorem sp_snoc (l:List Int) (x:Int) (h:l ≠ []):sp tg ((l++[x]).map nt)=sp tg (l.map nt)++[32]++nt x:=by
 match l,h with
 |y::r,_ =>
  rw[List.map_append,List.map_cons,List.map_cons,List.map_nil,sp_append]
  have:tg (lst (nt y) (r.map nt)) (nt x)=false:=by
   unfold tg
   rw[lst_map nt (fun n=>(nt_fine n).1) r y,(nt_fine x).2]
   rfl
  rw[this]
  simp[sp,spt,bl]
theorem jt_succ {l:List Int}{k:Nat}{x:Int}(h:l[k]? = some x):jt l (k+1)=jt l k++(if k=0 then [] else [32])++nt x:=by
 unfold jt
 have hk:=(List.getElem?_eq_some_iff.1 h).1
 rw[List.take_add_one,h]
 by_cases k0:k=0
 ·subst k0
  simp[sp,spt]
 rw[if_neg k0]
 exact sp_snoc (l.take k) x (by intro e;have:=congrArg List.length e;rw[List.length_take,List.length_nil] at this;omega)
theorem jt_len {l:List Int}(h:∀x∈l,-3000000000<=x/\x<=3000000000) (k:Nat) (hl:l.length<=1000):(jt l k).length<=22000:=by
 have:=sp_len (tg:=tg) (n:=21) ((l.take k).map nt) (by
  intro t ht
  obtain⟨x,hx,rfl⟩:=List.mem_map.1 ht
  have:=h x (List.mem_of_mem_take hx)
  exact nt_len x oM oM)
 have h2:((l.take k).map nt).length<=1000:=by rw[List.length_map,List.length_take];omega
 unfold jt
 omega
end Pl
theorem uTxm1 {P:Prop}(h:P:=by have:=B3.out.size;have:=HS0.out;omega):P:=h
theorem tTxm1 {P:Prop}(h:P:=by
 intro v' w5 ho5 hg5
 have B5:Hid (Below (w.heap.size+1) W0 w5):=B4.out.grown hg5 hs4 (fun k hk=>(O4.out.lt k hk).1)
 have O5:Hid (w5.ownsRow (w.heap.size+1) 5 1 v' (Pl.jt s.nums (k+1)).length (Lib.byteCells (Pl.jt s.nums (k+1)))):=by
  show World.ownsRow _ _ _ _ _ _ _
  rw[JN.out,HLN.out]
  exact ho5
 clear ho5 hg5 kc
 go_wp2_with fail
 go_roundw
 case rel=>exact⟨k+1,by omega,by go_num,O5,B5⟩
 case measure=>simp[intOf];omega
 ):P:=h
theorem l3Text_nums (b o cap L i:Nat) (s:Pl.Sv) (an:Option Addr) (cn:Nat) (w:World) (hi:i<L) (hL:L<=1048576) (hk:s.k=1) (hb:b<w.heap.size) (hst:Stp w.heap.size w b (o+i * 7) s an cn) (hv:∀x∈s.nums,-3000000000<=x/\x<=3000000000) (hl:s.nums.length<=1000) :
  Calls Tryz.prog 44 #[.slice (some ⟨b,o,none⟩) L cap,.int .i64 i] w fun e w'=>e=.returned (.tuple #[.string (Pl.ba (Pl.jt s.nums s.nums.length)),.int .i64 0])/\Below w.heap.size w w':=by
 obtain⟨c0,c1,c2,c3,c4,c5,c6,crd⟩:=hst
 rw[hk] at c0
 have HRd:=zH crd
 clear crd
 generalize Pl.ba s.nm=nm at *
 generalize Pl.ba s.fn.nm=fnm at *
 generalize s.fn.k=fk at *
 generalize s.fn.a=fa at *
 generalize s.fn.b=fb at *
 have HV:=zH hv
 have HLEN:Hid (∀k,(Pl.jt s.nums k).length<=22000):=fun k=>Pl.jt_len hv k hl
 have HJ:Hid (∀k x,s.nums[k]? = some x->Pl.jt s.nums (k+1)=Pl.jt s.nums k++(if k=0 then [] else [32])++Pl.nt x):=fun k x=>Pl.jt_succ
 have HI:Hid (∀k,k<s.nums.length->∃x,s.nums[k]? = some x/\-3000000000<=x/\x<=3000000000):=fun k hk=>⟨s.nums[k],List.getElem?_eq_getElem hk,hv _ (List.getElem_mem hk)⟩
 clear hv hk
 have HN0:Hid (∀k,k<s.nums.length->s.nums ≠ []):=fun k hk e=>by rw[e] at hk;cases hk
 generalize hn:s.nums.length=n at *
 obtain⟨W0,hW0⟩:∃W0,w.alloc (.cells #[.int .i64 1,.slice an n cn,.string nm,.int .i64 fk,.int .i64 fa,.int .i64 fb,.string fnm] 90)=W0:=⟨_,rfl⟩
 have HS0:Hid (W0.heap.size=w.heap.size+1):=by show _=_;rw[<- hW0];simp
 have HB0:Hid (Below w.heap.size w W0):=by show Below _ _ _;rw[<- hW0];exact(Below.refl _ _).alloc (Nat.le_refl _) _
 have HBX:Hid (∀wr,Below (w.heap.size+1) W0 wr->wr.cell? ⟨w.heap.size,1,none⟩=some (.slice an n cn)):=fun wr h=>(h.cell (p:=⟨w.heap.size,1,none⟩) (Nat.lt_succ_self _)).trans (by rw[<- hW0];simp[go_sem])
 have HNC:Hid (∀k x,s.nums[k]? = some x->∃nb no,an=some ⟨nb,no,none⟩/\∀wr,Below (w.heap.size+1) W0 wr->wr.cell? ⟨nb,no+k,none⟩=some (.int .i64 x)):=fun k x hx=>by
  obtain⟨nb,no,h1,h2,h3⟩:=HRd.out.resolve_left (HN0.out k (by rw[<- hn];exact(List.getElem?_eq_some_iff.1 hx).1))
  exact⟨nb,no,h2,fun wr h=>(h.cell (p:=⟨nb,no+k,none⟩) (Nat.lt_succ_of_lt h1)).trans ((HB0.out.cell (p:=⟨nb,no+k,none⟩) h1).trans (h3 k x hx))⟩
 have OE:Hid ((W0.alloc (.cells #[] 5)).ownsRow (w.heap.size+1) 5 1 (.slice (some ⟨w.heap.size+1,0,none⟩) 0 0) 0 (Lib.byteCells [])):=by
  have:=World.ownsRow_lit (base:=W0.heap.size) (e:=5) (size:=1) W0 #[] 0 (Nat.le_refl _) (by unfold maxLen;omega) rfl
  rw[HS0.out] at this
  exact this
 have BE:Hid (Below (w.heap.size+1) W0 (W0.alloc (.cells #[] 5))):=(Below.refl _ _).alloc (by rw[HS0.out];exact Nat.le_refl _) _
 have HN:=zH hn
 have HW0:=zH hW0
 clear hn HRd HN0 hW0
 go_enter Tryz.func44,Tryz.ntmps44
 go_wp2_with fail
 rw[HW0.out]
 go_loopw [7,8] (fun ov iv wr=>∃k:Nat,k<=n/\iv=.int .i64 k/\Hid (wr.ownsRow (w.heap.size+1) 5 1 ov (Pl.jt s.nums k).length (Lib.byteCells (Pl.jt s.nums k)))/\Hid (Below (w.heap.size+1) W0 wr)) (fun _ iv _=>n-(intOf iv).toNat)
 case atStart=>exact⟨0,Nat.zero_le _,rfl,OE,BE⟩
 obtain⟨k,hk,rfl,hO,BB⟩:=hrel
 obtain⟨xo,yo,eo⟩:=owns8_form hO.out
 subst eo
 by_cases hlt:k<n
 rotate_left 1
 ·obtain rfl:k=n:=by omega
  have hbx:=HBX.out _ BB.out
  have kc:=conv_row (Pl.jt s.nums k) _ wr hO.out
  have BF:=zH (HB0.out.trans (BB.out.mono (Nat.le_succ _)))
  clear HNC HI HJ HLEN HV OE BE
  go_wp2_with fail
  go_ret2
  exact⟨rfl,BF.out⟩
 obtain⟨x,hx,hx1,hx2⟩:=HI.out k hlt
 obtain⟨nb,no,rfl,hnc⟩:=HNC.out k x hx
 have HX:=zH hnc
 have J:=zH (HJ.out k x hx)
 have hlk:=HLEN.out k
 obtain⟨sx,hsx⟩:∃sx:ByteArray,(⟨(Lib.decDigits x.natAbs).toArray⟩:ByteArray)=sx:=⟨_,rfl⟩
 have hd1:(Lib.decDigits x.natAbs).length<=20:=by rw[Lib.decDigits_length];exact Lib.nDigits_le20 _ oM
 have hd0:0<(Lib.decDigits x.natAbs).length:=List.length_pos_iff.2 (Pl.dig_ne _)
 have KD:Hid (∀w,Calls Tryz.prog 72 #[.int .i64 (x.natAbs:Int)] w fun e w'=>e=.returned (.string sx)/\Below w.heap.size w w'):=fun w=>by
  have:=l1Dec_any (x.natAbs:Int) w oM oM
  rw[Lib.itoa_nonneg,hsx] at this
  exact this
 have ES:sx.size=(Lib.decDigits x.natAbs).length:=by rw[<- hsx];show (Lib.decDigits x.natAbs).toArray.size=_;simp
 have ED:sx.data.toList=Lib.decDigits x.natAbs:=by rw[<- hsx]
 have CV8:Hid (∀w3:World,∀j y,(Lib.byteCells (Lib.decDigits x.natAbs))[j]? = some y->(w3.drew.alloc (.cells (bytesRow sx (grownCap w3 sx.size 0 5)) 5 ((bytesRow sx (grownCap w3 sx.size 0 5)).size,(bytesRow sx (grownCap w3 sx.size 0 5)).size+1))).cell? ⟨w3.heap.size,j,none⟩=some y):=fun w3=>by
  have:=conv8_cells sx w3
  rw[ED] at this
  exact this
 have EL:Hid (∀p c:Nat,(Value.slice (some ⟨p,0,none⟩) sx.size c)=.slice (some ⟨p,0,none⟩) (Lib.decDigits x.natAbs).length c):=fun p c=>by rw[ES]
 have HD0:=zH hd0
 have HNT:Hid (Pl.nt x=if x<0 then 95::Lib.decDigits x.natAbs else Lib.decDigits x.natAbs):=by
  show _=_
  unfold Pl.nt
  split
  ·rfl
  congr 1;omega
 have hbx:=HBX.out _ BB.out
 have hcx:=HX.out _ BB.out
 have HBXX:=HBX
 clear hsx ES ED hnc HNC HI HJ HLEN HV hx OE BE hd0 c0 c1 c2 c3 c4 c5 c6 hi hL hb
 generalize Lib.decDigits x.natAbs=D at *
 generalize hP:Pl.jt s.nums k=P at *
 by_cases k0:k=0
 ·by_cases hneg:x<0
  rotate_left 1
  ·skip
   have JN:Hid (Pl.jt s.nums (k+1)=P++D):=by
    show _=_
    rw[J.out,HNT.out]
    simp[hneg,k0]
   have HLN:Hid ((P++D).length=P.length+D.length):=by show _=_;simp
   have HQ1:Hid (P.length+1<=16777216):=by show _<=_;omega
   have HQ2:Hid (P.length+1+1<=16777216):=by show _<=_;omega
   have HQ3:Hid (P.length+D.length<=16777216):=by show _<=_;omega
   have KE:Hid (∀w,Calls Tryz.prog 72 #[.int .i64 x] w fun e w'=>e=.returned (.string sx)/\Below w.heap.size w w'):=fun w=>by have h:=KD.out w;rwa [show (x.natAbs:Int)=x by omega] at h
   have hge:¬(x<0):=hneg
   have t0:decide (0<k)=false:=by rw[decide_eq_false_iff_not];omega
   clear J HNT hlk hd1 k0 KD
   go_wp2_with fail
   refine(KE.out _).mono ?_
   rintro e w3 ⟨rfl,hb3⟩
   have B3:=zH (BB.out.trans (hb3.mono (by have:=BB.out.size;have:=HS0.out;omega)))
   have O3:=zH (owns8_keep hO.out hb3)
   have kc:=conv8 sx w3
   obtain⟨cp,ecp⟩:∃cp,grownCap w3 sx.size 0 5=cp:=⟨_,rfl⟩
   have CC:=zH (CV8.out w3)
   have BC:=zH (conv8_below sx w3)
   rw[ecp] at kc CC BC
   generalize (w3.drew.alloc (.cells (bytesRow sx cp) 5 ((bytesRow sx cp).size,(bytesRow sx cp).size+1)))=w4 at kc CC BC
   have O4:=zH (owns8_keep O3.out BC.out)
   have B4:=zH (B3.out.trans (BC.out.mono uTxm1))
   have hs4:w.heap.size+1<=w4.heap.size:=by have:=B4.out.size;have:=HS0.out;omega
   clear hb3 ecp
   go_wp2_with (at_builtin;refine wpList_append8 (base:=w.heap.size+1) w4 rfl (.tmp 57) (.tmp 64) rfl (.slice xo (P.length) yo) (.slice (some ⟨w3.heap.size,0,none⟩) sx.size cp) rfl rfl (P.length) (P) D w3.heap.size cp (EL.out _ _) O4.out CC.out HD0.out HQ3.out hs4 ?_)
   exact tTxm1
  skip
  have JN:Hid (Pl.jt s.nums (k+1)=P++95::D):=by
   show _=_
   rw[J.out,HNT.out]
   simp[hneg,k0]
  have HLN:Hid ((P++95::D).length=P.length+1+D.length):=by show _=_;simp;omega
  have HQ1:Hid (P.length+1<=16777216):=by show _<=_;omega
  have HQ2:Hid (P.length+1+1<=16777216):=by show _<=_;omega
  have HQ3:Hid (P.length+1+D.length<=16777216):=by show _<=_;omega
  have KE:Hid (∀w,Calls Tryz.prog 72 #[.int .i64 (-x)] w fun e w'=>e=.returned (.string sx)/\Below w.heap.size w w'):=fun w=>by have h:=KD.out w;rwa [show (x.natAbs:Int)=-x by omega] at h
  have t0:decide (0<k)=false:=by rw[decide_eq_false_iff_not];omega
  clear J HNT hlk hd1 k0 KD
  have AL2:Hid (Below wr.heap.size wr (wr.alloc (.cells #[.int .u8 95] 5))):=(Below.refl _ _).alloc (Nat.le_refl _) _
  have OA2:=zH (owns8_keep hO.out AL2.out)
  have BA2:=zH (BB.out.trans (AL2.out.mono (by have:=BB.out.size;have:=HS0.out;omega)))
  have hsA2:w.heap.size+1<=(wr.alloc (.cells #[.int .u8 95] 5)).heap.size:=by have:=BA2.out.size;have:=HS0.out;omega
  have CA2:Hid (∀j y,(Lib.byteCells [95])[j]? = some y->(wr.alloc (.cells #[.int .u8 95] 5)).cell? ⟨wr.heap.size,j,none⟩=some y):=fun j y hj=>by
   match j,hj with
   |0,hj =>
    simp[Lib.byteCells] at hj
    subst hj
    simp[go_sem]
   |j+1,hj=>simp[Lib.byteCells] at hj
  go_wp2_with (at_builtin;refine wpList_append8 (base:=w.heap.size+1) (wr.alloc (.cells #[.int .u8 95] 5)) rfl (.tmp 44) (.tmp 45) rfl (.slice xo (P.length) yo) (.slice (some ⟨wr.heap.size,0,none⟩) 1 1) rfl rfl (P.length) (P) [95] wr.heap.size 1 rfl OA2.out CA2.out (by decide) HQ1.out hsA2 ?_)
  intro v2 w2a ho2 hg2
  have B2:Hid (Below (w.heap.size+1) W0 w2a):=BA2.out.grown hg2 hsA2 (fun k hk=>(OA2.out.lt k hk).1)
  have O2:Hid (w2a.ownsRow (w.heap.size+1) 5 1 v2 (P.length+1) (Lib.byteCells (P++[95]))):=ho2
  obtain⟨x2,y2,e2⟩:=owns8_form O2.out
  subst e2
  have hbx2:=HBXX.out _ B2.out
  have hcx2:=HX.out _ B2.out
  clear ho2 hg2 OA2 AL2 CA2 hsA2 BA2
  go_wp2_with fail
  refine(KE.out _).mono ?_
  rintro e w3 ⟨rfl,hb3⟩
  have B3:=zH (B2.out.trans (hb3.mono (by have:=B2.out.size;have:=HS0.out;omega)))
  have O3:=zH (owns8_keep O2.out hb3)
  have kc:=conv8 sx w3
  obtain⟨cp,ecp⟩:∃cp,grownCap w3 sx.size 0 5=cp:=⟨_,rfl⟩
  have CC:=zH (CV8.out w3)
  have BC:=zH (conv8_below sx w3)
  rw[ecp] at kc CC BC
  generalize (w3.drew.alloc (.cells (bytesRow sx cp) 5 ((bytesRow sx cp).size,(bytesRow sx cp).size+1)))=w4 at kc CC BC
  have O4:=zH (owns8_keep O3.out BC.out)
  have B4:=zH (B3.out.trans (BC.out.mono uTxm1))
  have hs4:w.heap.size+1<=w4.heap.size:=by have:=B4.out.size;have:=HS0.out;omega
  clear hb3 ecp
  go_wp2_with (at_builtin;refine wpList_append8 (base:=w.heap.size+1) w4 rfl (.tmp 47) (.tmp 55) rfl (.slice x2 (P.length+1) y2) (.slice (some ⟨w3.heap.size,0,none⟩) sx.size cp) rfl rfl (P.length+1) (P++[95]) D w3.heap.size cp (EL.out _ _) O4.out CC.out HD0.out HQ3.out hs4 ?_)
  exact tTxm1
 by_cases hneg:x<0
 rotate_left 1
 ·skip
  have JN:Hid (Pl.jt s.nums (k+1)=P++32::D):=by
   show _=_
   rw[J.out,HNT.out]
   simp[hneg,k0]
  have HLN:Hid ((P++32::D).length=P.length+1+D.length):=by show _=_;simp;omega
  have HQ1:Hid (P.length+1<=16777216):=by show _<=_;omega
  have HQ2:Hid (P.length+1+1<=16777216):=by show _<=_;omega
  have HQ3:Hid (P.length+1+D.length<=16777216):=by show _<=_;omega
  have KE:Hid (∀w,Calls Tryz.prog 72 #[.int .i64 x] w fun e w'=>e=.returned (.string sx)/\Below w.heap.size w w'):=fun w=>by have h:=KD.out w;rwa [show (x.natAbs:Int)=x by omega] at h
  have hge:¬(x<0):=hneg
  have k1:0<k:=by omega
  clear J HNT hlk hd1 k0 KD
  have AL2:Hid (Below wr.heap.size wr (wr.alloc (.cells #[.int .u8 32] 5))):=(Below.refl _ _).alloc (Nat.le_refl _) _
  have OA2:=zH (owns8_keep hO.out AL2.out)
  have BA2:=zH (BB.out.trans (AL2.out.mono (by have:=BB.out.size;have:=HS0.out;omega)))
  have hsA2:w.heap.size+1<=(wr.alloc (.cells #[.int .u8 32] 5)).heap.size:=by have:=BA2.out.size;have:=HS0.out;omega
  have CA2:Hid (∀j y,(Lib.byteCells [32])[j]? = some y->(wr.alloc (.cells #[.int .u8 32] 5)).cell? ⟨wr.heap.size,j,none⟩=some y):=fun j y hj=>by
   match j,hj with
   |0,hj =>
    simp[Lib.byteCells] at hj
    subst hj
    simp[go_sem]
   |j+1,hj=>simp[Lib.byteCells] at hj
  go_wp2_with (at_builtin;refine wpList_append8 (base:=w.heap.size+1) (wr.alloc (.cells #[.int .u8 32] 5)) rfl (.tmp 35) (.tmp 36) rfl (.slice xo (P.length) yo) (.slice (some ⟨wr.heap.size,0,none⟩) 1 1) rfl rfl (P.length) (P) [32] wr.heap.size 1 rfl OA2.out CA2.out (by decide) HQ1.out hsA2 ?_)
  intro v2 w2a ho2 hg2
  have B2:Hid (Below (w.heap.size+1) W0 w2a):=BA2.out.grown hg2 hsA2 (fun k hk=>(OA2.out.lt k hk).1)
  have O2:Hid (w2a.ownsRow (w.heap.size+1) 5 1 v2 (P.length+1) (Lib.byteCells (P++[32]))):=ho2
  obtain⟨x2,y2,e2⟩:=owns8_form O2.out
  subst e2
  have hbx2:=HBXX.out _ B2.out
  have hcx2:=HX.out _ B2.out
  clear ho2 hg2 OA2 AL2 CA2 hsA2 BA2
  go_wp2_with fail
  refine(KE.out _).mono ?_
  rintro e w3 ⟨rfl,hb3⟩
  have B3:=zH (B2.out.trans (hb3.mono (by have:=B2.out.size;have:=HS0.out;omega)))
  have O3:=zH (owns8_keep O2.out hb3)
  have kc:=conv8 sx w3
  obtain⟨cp,ecp⟩:∃cp,grownCap w3 sx.size 0 5=cp:=⟨_,rfl⟩
  have CC:=zH (CV8.out w3)
  have BC:=zH (conv8_below sx w3)
  rw[ecp] at kc CC BC
  generalize (w3.drew.alloc (.cells (bytesRow sx cp) 5 ((bytesRow sx cp).size,(bytesRow sx cp).size+1)))=w4 at kc CC BC
  have O4:=zH (owns8_keep O3.out BC.out)
  have B4:=zH (B3.out.trans (BC.out.mono uTxm1))
  have hs4:w.heap.size+1<=w4.heap.size:=by have:=B4.out.size;have:=HS0.out;omega
  clear hb3 ecp
  go_wp2_with (at_builtin;refine wpList_append8 (base:=w.heap.size+1) w4 rfl (.tmp 57) (.tmp 64) rfl (.slice x2 (P.length+1) y2) (.slice (some ⟨w3.heap.size,0,none⟩) sx.size cp) rfl rfl (P.length+1) (P++[32]) D w3.heap.size cp (EL.out _ _) O4.out CC.out HD0.out HQ3.out hs4 ?_)
  exact tTxm1
 skip
 have JN:Hid (Pl.jt s.nums (k+1)=P++32::95::D):=by
  show _=_
  rw[J.out,HNT.out]
  simp[hneg,k0]
 have HLN:Hid ((P++32::95::D).length=P.length+1+1+D.length):=by show _=_;simp;omega
 have HQ1:Hid (P.length+1<=16777216):=by show _<=_;omega
 have HQ2:Hid (P.length+1+1<=16777216):=by show _<=_;omega
 have HQ3:Hid (P.length+1+1+D.length<=16777216):=by show _<=_;omega
 have KE:Hid (∀w,Calls Tryz.prog 72 #[.int .i64 (-x)] w fun e w'=>e=.returned (.string sx)/\Below w.heap.size w w'):=fun w=>by have h:=KD.out w;rwa [show (x.natAbs:Int)=-x by omega] at h
 have k1:0<k:=by omega
 clear J HNT hlk hd1 k0 KD
 have AL2:Hid (Below wr.heap.size wr (wr.alloc (.cells #[.int .u8 32] 5))):=(Below.refl _ _).alloc (Nat.le_refl _) _
 have OA2:=zH (owns8_keep hO.out AL2.out)
 have BA2:=zH (BB.out.trans (AL2.out.mono (by have:=BB.out.size;have:=HS0.out;omega)))
 have hsA2:w.heap.size+1<=(wr.alloc (.cells #[.int .u8 32] 5)).heap.size:=by have:=BA2.out.size;have:=HS0.out;omega
 have CA2:Hid (∀j y,(Lib.byteCells [32])[j]? = some y->(wr.alloc (.cells #[.int .u8 32] 5)).cell? ⟨wr.heap.size,j,none⟩=some y):=fun j y hj=>by
  match j,hj with
  |0,hj =>
   simp[Lib.byteCells] at hj
   subst hj
   simp[go_sem]
  |j+1,hj=>simp[Lib.byteCells] at hj
 go_wp2_with (at_builtin;refine wpList_append8 (base:=w.heap.size+1) (wr.alloc (.cells #[.int .u8 32] 5)) rfl (.tmp 35) (.tmp 36) rfl (.slice xo (P.length) yo) (.slice (some ⟨wr.heap.size,0,none⟩) 1 1) rfl rfl (P.length) (P) [32] wr.heap.size 1 rfl OA2.out CA2.out (by decide) HQ1.out hsA2 ?_)
 intro v2 w2a ho2 hg2
 have B2:Hid (Below (w.heap.size+1) W0 w2a):=BA2.out.grown hg2 hsA2 (fun k hk=>(OA2.out.lt k hk).1)
 have O2:Hid (w2a.ownsRow (w.heap.size+1) 5 1 v2 (P.length+1) (Lib.byteCells (P++[32]))):=ho2
 obtain⟨x2,y2,e2⟩:=owns8_form O2.out
 subst e2
 have hbx2:=HBXX.out _ B2.out
 have hcx2:=HX.out _ B2.out
 clear ho2 hg2 OA2 AL2 CA2 hsA2 BA2
 have AL3:Hid (Below w2a.heap.size w2a (w2a.alloc (.cells #[.int .u8 95] 5))):=(Below.refl _ _).alloc (Nat.le_refl _) _
 have OA3:=zH (owns8_keep O2.out AL3.out)
 have BA3:=zH (B2.out.trans (AL3.out.mono (by have:=B2.out.size;have:=HS0.out;omega)))
 have hsA3:w.heap.size+1<=(w2a.alloc (.cells #[.int .u8 95] 5)).heap.size:=by have:=BA3.out.size;have:=HS0.out;omega
 have CA3:Hid (∀j y,(Lib.byteCells [95])[j]? = some y->(w2a.alloc (.cells #[.int .u8 95] 5)).cell? ⟨w2a.heap.size,j,none⟩=some y):=fun j y hj=>by
  match j,hj with
  |0,hj =>
   simp[Lib.byteCells] at hj
   subst hj
   simp[go_sem]
  |j+1,hj=>simp[Lib.byteCells] at hj
 go_wp2_with (at_builtin;refine wpList_append8 (base:=w.heap.size+1) (w2a.alloc (.cells #[.int .u8 95] 5)) rfl (.tmp 44) (.tmp 45) rfl (.slice x2 (P.length+1) y2) (.slice (some ⟨w2a.heap.size,0,none⟩) 1 1) rfl rfl (P.length+1) (P++[32]) [95] w2a.heap.size 1 rfl OA3.out CA3.out (by decide) HQ2.out hsA3 ?_)
 intro v3 w3a ho3 hg3
 have B3:Hid (Below (w.heap.size+1) W0 w3a):=BA3.out.grown hg3 hsA3 (fun k hk=>(OA3.out.lt k hk).1)
 have O3:Hid (w3a.ownsRow (w.heap.size+1) 5 1 v3 (P.length+1+1) (Lib.byteCells (P++[32,95]))):=ho3
 obtain⟨x3,y3,e3⟩:=owns8_form O3.out
 subst e3
 have hbx3:=HBXX.out _ B3.out
 have hcx3:=HX.out _ B3.out
 clear ho3 hg3 OA3 AL3 CA3 hsA3 BA3
 go_wp2_with fail
 refine(KE.out _).mono ?_
 rintro e w3 ⟨rfl,hb3⟩
 have B3:=zH (B3.out.trans (hb3.mono uTxm1))
 have O3:=zH (owns8_keep O3.out hb3)
 have kc:=conv8 sx w3
 obtain⟨cp,ecp⟩:∃cp,grownCap w3 sx.size 0 5=cp:=⟨_,rfl⟩
 have CC:=zH (CV8.out w3)
 have BC:=zH (conv8_below sx w3)
 rw[ecp] at kc CC BC
 generalize (w3.drew.alloc (.cells (bytesRow sx cp) 5 ((bytesRow sx cp).size,(bytesRow sx cp).size+1)))=w4 at kc CC BC
 have O4:=zH (owns8_keep O3.out BC.out)
 have B4:=zH (B3.out.trans (BC.out.mono uTxm1))
 have hs4:w.heap.size+1<=w4.heap.size:=by have:=B4.out.size;have:=HS0.out;omega
 clear hb3 ecp
 go_wp2_with (at_builtin;refine wpList_append8 (base:=w.heap.size+1) w4 rfl (.tmp 47) (.tmp 55) rfl (.slice x3 (P.length+1+1) y3) (.slice (some ⟨w3.heap.size,0,none⟩) sx.size cp) rfl rfl (P.length+1+1) (P++[32,95]) D w3.heap.size cp (EL.out _ _) O4.out CC.out HD0.out HQ3.out hs4 ?_)
 exact tTxm1
end Go.Proofs.YtbiiicbfpcfgdaaGreatDoor
