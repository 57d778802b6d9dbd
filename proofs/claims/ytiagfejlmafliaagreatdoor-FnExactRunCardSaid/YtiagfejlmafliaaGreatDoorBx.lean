import Derived.Test.YtiagfejlmafliaaGreatDoorKs
import Derived.Lib.Replace
import Derived.Lib.ItoaLen
namespace Go.Proofs.YtiagfejlmafliaaGreatDoor
set_option linter.all false
open Go.Proofs.Tryz Pl
open Go.RowKit
set_option maxRecDepth 100000
set_option maxHeartbeats 16000000
open World renaming setCell->ez,alloc->ew
open List renaming range->eA,replicate->eE
open Option renaming some->a_,none->c_
open Bool renaming true->b_,false->d_
namespace Pl
def lN(s:bA)(kd:Int):Bool:=decide (s.size ≠ 0) && ku (bt s 0) && decide (ij s (s.size-0) 0=s.size) && decide (uI s=kd)
end Pl
def H8{s:bA}:(s.toList == [])=decide (s.size=0):=by
 rw[uz]
 cases s with
 |mk d =>
  cases d with
  |mk l=>cases l <;> simp[ByteArray.size]
def MV(s:bA)(kd:Int)(w:Wd)(hl:s.size<=9223372036854775807):
  Cp 46 #[.string s,.int .u8 kd] w (rB (.bool (lN s kd)) w):=by
 by_cases h0:s.size=0
 ·have hq:(s.toList == [])=b_:=by rw[H8];exact fM h0
  have HR:=zH (show lN s kd=d_ by simp[lN,h0]);go_enter func46,ntmps46;go_wp2;go_ret
  exact⟨iD HR.o.symm,jD _ _⟩
 have hq:(s.toList == [])=d_:=by rw[H8];exact fH h0
 have Lu:∀w,(Instr.index 9 (.string s) (I 0)).run prog w=.ok (.int .u8 (Pl.bt s 0)) w:=Dg s 0 oM;have HW:Hid (lN s kd=(ku (Pl.bt s 0) && decide (ij s (s.size-0) 0=s.size) && decide (uI s=kd))):=by show _=_;simp[lN,h0]
 have K:Hid (∀w,Cp 70 #[.int .u8 (Pl.bt s 0)] w λe w'=>e=rT (.bool (ku (Pl.bt s 0)))/\w'=w):=UG _;have K2:Hid (∀w,Cp 71 #[.string s,I 0] w λe w'=>e=rT (I (ij s (s.size-0) 0:Nat))/\w'=w):=λw=>abL s 0 w (vZ _) hl;have K3:Hid (∀w,Cp 72 #[.string s] w (rB (.int .u8 (uI s)) w)):=λw=>abu s w oM hl;generalize lN s kd=r,uI s=y,ij s (s.size-0) 0=z,Pl.bt s 0=x at *
 cases h1:ku x
 ·rw[h1] at K
  have HR:=zH (show r=d_ by rw[HW.o,h1];rfl);exact Ξ
 rw[h1] at K;have HW:=zH (show r=(decide (z=s.size) && decide (y=kd)) by rw[HW.o,h1,vI]);generalize hn:s.size=n at *;by_cases h2:z=n
 ·have h2':((z:Int) != n)=d_:=by simp[h2]
  have HW:=zH (show r=decide (y=kd) by rw[HW.o,fM h2,vI]);go_enter func46,ntmps46;go_wp2_with (first | (go_at_call 70;refine(K.o _).mono ?_;rintro e w' ⟨rfl,rfl⟩) | (go_at_call 71;refine(K2.o _).mono ?_;rintro e w' ⟨rfl,rfl⟩) | (go_at_call 72;refine(K3.o _).mono ?_;rintro e w' ⟨rfl,hb⟩))
  go_ret
  exact⟨iD (by rw[HW.o];rfl),hb⟩
 have h2':((z:Int) != n)=b_:=by simp;omega
 have HR:=zH (show r=d_ by rw[HW.o,fH h2];rfl);exact Ξ
section
variable {c:List Sv}{i:Nat}{s:Sv}
namespace Pl
def iZ(c:List Sv)(n:Nat):Int:=match nd c n with | a_ (_,m)=>m | c_=>-1
def alp(h:c[i]? = a_ s)(hk:s.k=1\/s.k=2):iZ c (i+1)=i:=by
 unfold iZ;rw[Df c i s h,eD (by simp[ar,hk])]
def afx(h:c[i]? = a_ s)(h1:s.k ≠ 1)(h2:s.k ≠ 2):(s.k=3\/iZ c i<0->iZ c (i+1)=iZ c i)/\(s.k ≠ 3->0<=iZ c i->∃m:Nat,iZ c i=m/\m<i/\iZ c (i+1)=iZ c m):=by
 have e:=Df c i s h;rw[eB (by simp[ar,h1,h2];split <;> simp)] at e;unfold iZ
 cases en:nd c i with
 |none =>
  rw[en] at e;rw[e];exact⟨λ_=>rfl,λ_ h=>absurd h dC⟩
 |some r =>
  obtain⟨t,m⟩:=r;rw[en] at e;simp only[] at e;have hm:=(xy en).1;by_cases h3:s.k=3
  ·rw[eD (by simp[ar,h3])] at e
   rw[e];exact⟨λ_=>rfl,λh=>absurd h3 h⟩
  rw[eB (by simp[ar,h1,h2,h3])] at e;refine⟨λh=>?_,λ_ _=>⟨m,rfl,hm,?_⟩⟩
  ·rcases h with h|h
   ·exact absurd h h3
   simp only[] at h;omega
  rw[e]
  cases nd c m with
  |none=>rfl
  |some r=>rfl
end Pl
def M7(c:List Sv)(b o cap:Nat)(hl:c.length<=1048576)(w:Wd)(hc:∀(i:Nat)(s:Sv),c[i]? = a_ s->w.cell? (Y b (o+i * 7))=a_ (I s.k)):
  ∀n:Nat,n<=c.length->Cp 67 #[sX (sY b o) c.length cap,I ((n:Int)-1)] w λe w'=>e=rT (I (iZ c n))/\w'=w:=by
 intro n;induction n using Nat.strongRecOn with
 |_ n ih =>
  intro hn
  cases n with
  |zero =>
   go_enter func67,ntmps67;go_wp2;go_ret
   exact⟨rfl,rfl⟩
  |succ i =>
   have hi:i<c.length:=hn;have⟨s,hs⟩:∃s,c[i]? = a_ s:=⟨c[i],fw hi⟩;have vC:=hc i s hs;have HA:=zH (alp hs);have HR:=zH (λh1 h2=>afx hs h1 h2);have IH:=zH ih;have K:Hid (Cp 67 #[sX (sY b o) c.length cap,I ((i:Int)-1)] w λe w'=>e=rT (I (iZ c i))/\w'=w):=ih i oM oM;clear ih hc;have hx:(((i+1:Nat):Int)-1)=(i:Int):=oM;rw[hx];clear hx;generalize hk:s.k=k at *;generalize hL:c.length=L at *;by_cases h1:k=1
   ·have HX:=zH (HA.o (.inl h1))
    subst h1;clear HA HR;go_enter func67,ntmps67;go_wp2;go_ret
    exact⟨jq HX.o.symm,rfl⟩
   by_cases h2:k=2
   ·have HX:=zH (HA.o (.inr h2))
    subst h2;clear HA HR;go_enter func67,ntmps67;go_wp2;go_ret
    exact⟨jq HX.o.symm,rfl⟩
   have R:=zH (HR.o h1 h2);clear HA HR;by_cases h3:k=3
   ·have E:=zH (R.o.1 (.inl h3))
    subst h3;clear R h1 h2;exact Μ
   have hb1:(k == 1)=d_:=by simp[h1]
   have hb2:(k == 2)=d_:=by simp[h2]
   have eV:(k == 3)=d_:=by simp[h3]
   by_cases Bv:iZ c i<0
   ·have E:=zH (R.o.1 (.inr Bv))
    clear R h1 h2 h3;exact Μ
   have⟨m,e1,hm,e2⟩:=R.o.2 h3 oM;have K2:Hid (Cp 67 #[sX (sY b o) L cap,I ((m:Int)-1)] w λe w'=>e=rT (I (iZ c m))/\w'=w):=IH.o m oM oM;rw[e1] at K;have E:=zH e2;clear R e1 e2 Bv IH h1 h2 h3;generalize iZ c m=y,iZ c (i+1)=z at *;go_enter func67,ntmps67;go_wp2_with fail;refine K.o.mono ?_;rintro e w' ⟨rfl,rfl⟩;go_wp2_with fail;refine K2.o.mono ?_;rintro e zL ⟨rfl,rfl⟩;go_wp2;go_ret
   exact⟨jq E.o.symm,rfl⟩
end
namespace Pl
def ko(c:List Sv)(k:Nat):Nat:=((c.take k).map λs=>s.eF.length).sum
def Vy{c:List Sv}{k:Nat}{s:Sv}(h:c[k]? = a_ s):ko c (k+1)=ko c k+s.eF.length:=by
 unfold ko;rw[pB,h];simp
def Xh(c:List Sv):∀k,ko c k<=ko c c.length:=by
 intro k;unfold ko;rw[km];have e:c=c.take k++c.drop k:=(vM k c).symm;have:=lQ (λl=>(l.map λs:Sv=>s.eF.length).sum) e;simp only[mP,Ib] at this;omega
def AX(c:List Sv):h_ c=c.length+ko c c.length:=by unfold h_ ko;rw[km]
end Pl
def adL(c:List Sv)(b o cap:Nat)(hl:h_ c<=4611686018427387904)(w:Wd)(hc:∀(i:Nat)(s:Sv),c[i]? = a_ s->∃a cp,w.cell? (Y b (o+i * 7+1))=a_ (sX a s.eF.length cp)):
  Cp 66 #[sX (sY b o) c.length cap] w λe w'=>e=rT (I (h_ c:Nat))/\w'=w:=by
 have HS:Hid (∀k s,c[k]? = a_ s->ko c (k+1)=ko c k+s.eF.length):=λk s=>Vy;have HM:Hid (∀k,ko c k<=ko c c.length):=Xh c;have HG:Hid (∀k,k<c.length->∃s,c[k]? = a_ s):=λk hk=>⟨c[k],fw hk⟩;have HC:=zH hc;clear hc;have E0:=zH (AX c);rw[E0.o] at hl;rw[E0.o];clear E0;generalize hL:c.length=L at *;generalize hT:ko c L=T at *;have HT:=zH hT;clear hT;go_enter func66,ntmps66;go_wp2;go_loop [3,4] (λu v=>∃k:Nat,k<=L/\v=I k/\u=I (L+ko c k:Nat)) (λu v=>L-(intOf v).toNat)
 case atStart=>exact⟨0,vZ _,rfl,by simp[ko]⟩
 obtain⟨k,hk,rfl,rfl⟩:=hrel;by_cases eI:k<L
 ·have⟨s,hs⟩:=HG.o k eI
  have⟨a,cp,vC⟩:=HC.o k s hs;have N:=zH (HS.o k s hs);have M1:=HM.o (k+1);rw[N.o] at M1;clear HS HM HG HC hs;generalize s.eF.length=q,ko c k=y at *;go_wp2;go_round
  case rel=>exact⟨k+1,oM,gN,by rw[N.o];go_num⟩
  simp[intOf];omega
 obtain rfl:k=L:=oM;clear HS HM HG HC;go_wp2;go_ret
 exact⟨jq (by rw[HT.o]),rfl⟩
variable {ρ:Prop}
def ak5.ui(h:ρ:=by
 generalize hr:(if k=3 then 1 else if k=4 then 2 else 0:Int)=r;by_cases h3:k=3
 ·have HR:=zH (show (1:Int)=r by rw[<- hr,eD h3])
  subst h3;go_enter func89,ntmps89;go_wp2;go_ret
  exact⟨jq HR.o,HB.o _⟩
 by_cases h4:k=4
 ·have HR:=zH (show (2:Int)=r by rw[<- hr,eB h3,eD h4])
  subst h4;go_enter func89,ntmps89;go_wp2;go_ret
  exact⟨jq HR.o,HB.o _⟩
 have eV:(k == 3)=d_:=by simp[h3]
 have fZ:(k == 4)=d_:=by simp[h4]
 have HR:=zH (show (0:Int)=r by rw[<- hr,eB h3,eB h4]);go_enter func89,ntmps89;go_wp2;go_ret
 exact⟨jq HR.o,HB.o _⟩
 ):ρ:=h
def Vq(k fk fx fb:Int)(a:oA)(n cp:Nat)(nm fn:bA)(w:Wd):
  Cp 89 #[.agg #[I k,sX a n cp,.string nm,I fk,I fx,I fb,.string fn]] w (rB (I (if k=3 then 1 else if k=4 then 2 else 0)) w):=by
 open ak5 in exact uq
section
variable {B B' b o cap c1 c2:Nat}{w w':Wd}{ao a1 a2:oA}{l:lI}{g:Gv}
namespace Pl
def al(c:UInt8):Bool:=qy c || Ef c
def ON(c:UInt8):ku (c.toNat:Int)=qy c:=by
 rw[mz];simp only[ku,qy,Cc,zn,fO,fQ,PQ];simp
 omega
def ZU(c:UInt8):(65<=(c.toNat:Int)/\(c.toNat:Int)<=90) ↔ Cc c=b_:=by
 simp only[Cc,fO,fQ,PQ];simp
 omega
def anK(c:UInt8):pJ (c.toNat:Int)=al c:=by
 rw[mz];simp only[pJ,tj,al,ON,Ef,zn,fO,fQ,PQ];simp
 constructor
 ·rintro (h|h)
  ·right;omega
  left;exact h
 rintro (h|h)
 ·right;exact h
 left;omega
def aav(s:bA)(k:Nat)(h:k<s.data.toList.length):bt s k=((s.data.toList[k]'h).toNat:Int):=by
 unfold bt;have h':k<s.data.size:=by simpa using h
 rw[getElem!_pos s.data k h'];simp
def Vs(s:bA):∀n k,s.data.toList.length=k+n->decide (ij s n k=s.data.toList.length)=(s.data.toList.drop k).all al:=by
 intro n;induction n with
 |zero=>intro k h;rw[h,Be oM];simp[ij]
 |succ n ih =>
  intro k h;have hk:k<s.data.toList.length:=oM;rw[qW hk,vJ,ij,aav s k hk,anK];split
  ·rename_i e
   rw[ih (k+1) oM,e,vI]
  rename_i e
  rw[Bool.eq_false_iff.2 e,Bool.false_and];exact fH oM
def ag7(s:bA):∀n k,k<=ij s n k/\ij s n k<=k+n:=by
 intro n;induction n with
 |zero=>intro k;simp[ij]
 |succ n ih =>
  intro k;unfold ij;split
  ·have:=ih (k+1);omega
  omega
def Of(s:bA)(h:s.data.toList ≠ []):bt s 0=((s.data.toList.headD 0).toNat:Int):=by
 have hl:0<s.data.toList.length:=List.length_pos_iff.2 h;rw[aav s 0 hl];have key:∀(l:lJ)(hl:0<l.length),((l[0]'hl).toNat:Int)=((l.headD 0).toNat:Int):=by
  intro l hl
  cases l with
  |nil=>cases hl
  |cons x l=>rfl
 exact key _ hl
def sP(s:bA):s.size=s.data.toList.length:=by cases s with | mk d=>simp[ByteArray.size]
def xt(s t:bA):s=t ↔ s.data.toList=t.data.toList:=by
 cases s with | mk a=>cases t with | mk b=>cases a with | mk a=>cases b with | mk b=>simp
def ad5(s:bA)(hs:s.data.toList ≠ lL)(hL:qy (s.data.toList.headD 0)=b_):hasB words s 17=fX.any (λm=>decide (m.t=s.data.toList)):=by
 have h1:∀x∈words,x.data.toList=lL\/fX.any (λm=>decide (m.t=x.data.toList))=b_:=dC;have h2:∀m∈fX,qy (m.t.headD 0)=b_->words.any (λx=>decide (x.data.toList=m.t))=b_:=dC;have e:words.take 17=words:=rfl;unfold hasB;rw[e,mz];constructor
 ·intro h
  have⟨x,hx,e⟩:=Bh.1 h;have e:=rS e;subst e;rcases h1 _ hx with h|h
  ·exact absurd h hs
  exact h
 intro h;have⟨m,hm,e⟩:=Bh.1 h;have e:=rS e;have⟨x,hx,ex⟩:=Bh.1 (h2 m hm (by rw[e];exact hL));rw[Bh];refine⟨x,hx,?_⟩;rw[fQ,xt,rS ex];exact e
def af8(s:bA)(kd:Int):lN s kd=(decide (s.data.toList ≠ []) && qy (s.data.toList.headD 0) && s.data.toList.all al && decide (uI s=kd)):=by
 unfold lN;rw[sP];by_cases h:s.data.toList=[]
 ·simp[h]
 have:=Vs s (s.data.toList.length-0) 0 oM;have hn:s.data.toList.length ≠ 0:=λe=>h (Z6 e);rw[this,Of s h,ON,vK,fM hn,fM (p:=s.data.toList ≠ []) h]
def Nu(s:bA):s=⟨#[115,101,108,102]⟩ ↔ s.data.toList=lL:=by rw[xt];rfl
def alj(s:bA)(h:s.data.toList ≠ [])(hL:qy (s.data.toList.headD 0)=b_):uI s=if 20<s.data.toList.length then 120 else if s.data.toList=lL\/Cc (s.data.toList.headD 0)=b_ then 70 else if fX.any (λm=>decide (m.t=s.data.toList))=b_ then 115 else 119:=by
 unfold uI;rw[sP,Of s h];by_cases hs:s.data.toList=lL
 ·simp only[Nu,hs,true_or,kI]
 rw[ad5 s hs hL];simp only[Nu,ZU]
def Xk(s:bA):lN s 70=decide (wk s.data.toList=3):=by
 exact aac
def Xj(s:bA):lN s 119=decide (wk s.data.toList=2):=by
 exact aac
end Pl
namespace Pl
def aoa(s:bA)(h0:s.size ≠ 0):wk s.data.toList=if 20<s.size then 0 else if ku (bt s 0)=d_ then 0 else if ij s (s.size-1) 1<s.size then 0 else if s=⟨#[115,101,108,102]⟩\/(65<=bt s 0/\bt s 0<=90) then 3 else if fX.any (λm=>decide (m.t=s.data.toList))=b_ then 4 else 2:=by
 rw[sP] at h0;have h:s.data.toList ≠ []:=λe=>h0 (by rw[e];rfl);have hs:=Vs s (s.data.toList.length-1) 1 oM;have hle:=(ag7 s (s.data.toList.length-1) 1).2;rw[sP,Of s h,ON];unfold wk;rw[eB h,show (λc=>qy c || Ef c)=al from rfl];simp only[Nu,ZU];by_cases h20:20<s.data.toList.length
 ·rw[eD h20,eD h20]
 rw[eB h20,eB h20]
 cases hL:qy (s.data.toList.headD 0)
 ·rfl
 have ha:s.data.toList.all al=(s.data.toList.drop 1).all al:=by
  cases e:s.data.toList with
  |nil=>exact absurd e h
  |cons x l =>
   rw[e] at hL;have hx:al x=b_:=by unfold al;rw[show qy x=b_ from hL];rfl
   rw[vJ,hx];rfl
 rw[ha,<- hs];by_cases hq:ij s (s.data.toList.length-1) 1=s.data.toList.length
 ·have hl:¬ij s (s.data.toList.length-1) 1<s.data.toList.length:=oM
  simp only[fM hq,hl,oJ,Bool.true_eq_false]
 have hl:ij s (s.data.toList.length-1) 1<s.data.toList.length:=oM;simp only[fH hq,hl,oJ,kI,Bool.true_eq_false]
end Pl
namespace Pl
def nt(n:Int):lJ:=if n<0 then 95::Lib.decDigits n.natAbs else Lib.decDigits n.toNat
def ah7(u:Nat):∀c∈Lib.decDigits u,48<=c.toNat/\c.toNat<=57:=by
 induction u using Nat.strongRecOn with
 |_ u ih =>
  intro c hc;rw[Lib.decDigits] at hc;split at hc
  ·have e:c=UInt8.ofNat (48+u):=by simpa using hc
   rw[e];have:(UInt8.ofNat (48+u)).toNat=48+u:=by
    rw[UInt8.toNat_ofNat'];omega
   omega
  rcases zq.1 hc with h|h
  ·exact ih _ oM c h
  have e:c=UInt8.ofNat (48+u % 10):=by simpa using h
  rw[e];have:(UInt8.ofNat (48+u % 10)).toNat=48+u % 10:=by
   rw[UInt8.toNat_ofNat'];omega
  omega
def Gj(l:lJ)(h:∀c∈l,c ≠ 45):Lib.index l [45]=-1:=by
 induction l with
 |nil=>rfl
 |cons b l ih =>
  have hb:=h b (Ij ..);have:=ih λc hc=>h c (mx _ hc);unfold Lib.index;rw[this];have:([45]:lJ).isPrefixOf (b::l)=d_:=by
   simp[List.isPrefixOf]
   exact λe=>hb e.symm
  rw[this];rfl
def Hw(u:Nat):∀c∈Lib.decDigits u,c ≠ 45:=by
 intro c hc e;have:=ah7 u c hc;rw[e] at this;simp at this
def alB(n:Int):Lib.replace (Lib.itoa n) [45] [95] 1=nt n:=by
 unfold Lib.replace Lib.itoa nt;rw[eB dC];split
 ·have hi:Lib.index (45::Lib.decDigits n.natAbs) [45]=0:=by
   unfold Lib.index;simp[List.isPrefixOf]
  have hr:=Gj _ (Hw n.natAbs);have hc:Lib.count (45::Lib.decDigits n.natAbs) [45]=1:=by
   unfold Lib.count Lib.countFrom;rw[hi];simp only[fW];unfold Lib.countFrom;simp[hr]
  unfold Lib.replaceNum;rw[hc,eB dC];show Lib.replaceK _ _ 1 _=_;unfold Lib.replaceK;rw[hi];rfl
 have hr:=Gj _ (Hw n.toNat);have hc:Lib.count (Lib.decDigits n.toNat) [45]=0:=by
  unfold Lib.count Lib.countFrom;rw[hr];rfl
 unfold Lib.replaceNum;rw[hc,eD dC];rfl
def agF(n:Int):Lib.count (Lib.itoa n) [45]<=1:=by
 unfold Lib.itoa;split
 ·have hi:Lib.index (45::Lib.decDigits n.natAbs) [45]=0:=by
   unfold Lib.index;simp[List.isPrefixOf]
  have hr:=Gj _ (Hw n.natAbs);unfold Lib.count Lib.countFrom;rw[hi];simp only[fW];unfold Lib.countFrom;simp[hr]
 have hr:=Gj _ (Hw n.toNat);unfold Lib.count Lib.countFrom;rw[hr];simp
def alI(n:Int)(h1:-9223372036854775808<=n)(h2:n<=9223372036854775807):(nt n).length<=21:=by
 unfold nt;split
 ·rw[fW,Lib.decDigits_length]
  have:=Lib.nDigits_le20 n.natAbs oM;omega
 rw[Lib.decDigits_length];have:=Lib.nDigits_le20 n.toNat oM;omega
end Pl
namespace Pl
def NQ(f:fS):(kA f).length<=5:=by
 unfold kA;split
 ·rename_i m e
  have hm:=Z5 e;have:∀m∈fX,m.t.length<=5:=dC;exact this m hm
 decide
def GW{s:lJ}(h:wk s ≠ 0):s.length<=20:=by
 unfold wk at h;split at h
 ·exact absurd rfl h
 split at h
 ·exact absurd rfl h
 omega
end Pl
namespace Pl
def ba(l:lJ):bA:=⟨⟨l⟩⟩
def Xq(l:lJ):(ba l).data.toList=l:=rfl
def xf(l:lJ):(ba l).size=l.length:=rfl
end Pl
def j'(B:Nat)(w:Wd)(ao:oA)(l:lI):Prop :=
 l=[]\/∃b off,b<B/\ao=sY b off/\∀(i:Nat)(x:Int),l[i]? = a_ x->w.cell? (Y b (off+i))=a_ (I x)
def j'.eG(h:j' B w ao l)(hb:Below B w w'):j' B w' ao l:=by
 rcases h with h|⟨b,off,hB,rfl,hc⟩
 ·exact .inl h
 exact .inr ⟨b,off,hB,rfl,λi x hi=>(hb.cell (p:=(Y b (off+i))) hB).trans (hc i x hi)⟩
def j'.up(h:j' B w ao l)(hb:B<=B'):j' B' w ao l:=by
 rcases h with h|⟨b,off,hB,rfl,hc⟩
 ·exact .inl h
 exact .inr ⟨b,off,oM,rfl,hc⟩
structure jE(B:Nat)(w:Wd)(b o:Nat)(s:Sv)(ao:oA)(cap:Nat):Prop where
 k:w.cell? (Y b o)=a_ (I s.k)
 n:w.cell? (Y b (o+1))=a_ (sX ao s.eF.length cap)
 nm:w.cell? (Y b (o+2))=a_ (.string (Pl.ba s.nm))
 fk:w.cell? (Y b (o+3))=a_ (I s.fn.k)
 fa:w.cell? (Y b (o+4))=a_ (I s.fn.a)
 fb:w.cell? (Y b (o+5))=a_ (I s.fn.b)
 fn:w.cell? (Y b (o+6))=a_ (.string (Pl.ba s.fn.nm))
 rd:j' B w ao s.eF
def jE.eG{s:Sv}(h:jE B w b o s ao cap)(hB:b<B)(hb:Below B w w'):jE B w' b o s ao cap :=
 ⟨(hb.cell (p:=(Y b o)) hB).trans h.k,(hb.cell (p:=(Y b (o+1))) hB).trans h.n,(hb.cell (p:=(Y b (o+2))) hB).trans h.nm,(hb.cell (p:=(Y b (o+3))) hB).trans h.fk,(hb.cell (p:=(Y b (o+4))) hB).trans h.fa,(hb.cell (p:=(Y b (o+5))) hB).trans h.fb,(hb.cell (p:=(Y b (o+6))) hB).trans h.fn,h.rd.eG hb⟩
def jE.up{s:Sv}(h:jE B w b o s ao cap)(hb:B<=B'):jE B' w b o s ao cap :=
 ⟨h.k,h.n,h.nm,h.fk,h.fa,h.fb,h.fn,h.rd.up hb⟩
def gf(B:Nat)(w:Wd)(ao:oA)(c:List Sv):Prop :=
 c=[]\/∃b off,b<B/\ao=sY b off/\∀(i:Nat)(s:Sv),c[i]? = a_ s->∃an cn,jE B w b (off+i * 7) s an cn
def gf.eG{c:List Sv}(h:gf B w ao c)(hb:Below B w w'):gf B w' ao c:=by
 rcases h with h|⟨b,off,hB,rfl,hc⟩
 ·exact .inl h
 refine .inr ⟨b,off,hB,rfl,λi x hi=>?_⟩;have⟨an,cn,h⟩:=hc i x hi;exact⟨an,cn,h.eG hB hb⟩
def gf.up{c:List Sv}(h:gf B w ao c)(hb:B<=B'):gf B' w ao c:=by
 rcases h with h|⟨b,off,hB,rfl,hc⟩
 ·exact .inl h
 refine .inr ⟨b,off,oM,rfl,λi x hi=>?_⟩;have⟨an,cn,h⟩:=hc i x hi;exact⟨an,cn,h.up hb⟩
structure Gd(B:Nat)(w:Wd)(b o:Nat)(g:Gv)(a1 a2:oA)(c1 c2:Nat):Prop where
 t:w.cell? (Y b o)=a_ (sX a1 g.test.length c1)
 h:w.cell? (Y b (o+1))=a_ (sX a2 g.eT.length c2)
 rt:gf B w a1 g.test
 rh:gf B w a2 g.eT
def Gd.eG(h:Gd B w b o g a1 a2 c1 c2)(hB:b<B)(hb:Below B w w'):Gd B w' b o g a1 a2 c1 c2 :=
 ⟨(hb.cell (p:=(Y b o)) hB).trans h.t,(hb.cell (p:=(Y b (o+1))) hB).trans h.h,h.rt.eG hb,h.rh.eG hb⟩
def Gd.up(h:Gd B w b o g a1 a2 c1 c2)(hb:B<=B'):Gd B' w b o g a1 a2 c1 c2 :=
 ⟨h.t,h.h,h.rt.up hb,h.rh.up hb⟩
def iG(B:Nat)(w:Wd)(ao:oA)(c:List Gv):Prop :=
 c=[]\/∃b off,b<B/\ao=sY b off/\∀(i:Nat)(g:Gv),c[i]? = a_ g->∃a1 a2 c1 c2,Gd B w b (off+i * 2) g a1 a2 c1 c2
def iG.eG{c:List Gv}(h:iG B w ao c)(hb:Below B w w'):iG B w' ao c:=by
 exact ω
def iG.up{c:List Gv}(h:iG B w ao c)(hb:B<=B'):iG B' w ao c:=by
 exact Β
structure Sm(B:Nat)(w:Wd)(b o:Nat)(s:Pl.Tv)(a1 a2:oA)(c1 c2:Nat):Prop where
 k:w.cell? (Y b o)=a_ (I s.k)
 nm:w.cell? (Y b (o+1))=a_ (.string (Pl.ba s.nm))
 c:w.cell? (Y b (o+2))=a_ (sX a1 s.code.length c1)
 g:w.cell? (Y b (o+3))=a_ (sX a2 s.gs.length c2)
 rc:gf B w a1 s.code
 rg:iG B w a2 s.gs
def Sm.eG{s:Pl.Tv}(h:Sm B w b o s a1 a2 c1 c2)(hB:b<B)(hb:Below B w w'):Sm B w' b o s a1 a2 c1 c2 :=
 ⟨(hb.cell (p:=(Y b o)) hB).trans h.k,(hb.cell (p:=(Y b (o+1))) hB).trans h.nm,(hb.cell (p:=(Y b (o+2))) hB).trans h.c,(hb.cell (p:=(Y b (o+3))) hB).trans h.g,h.rc.eG hb,h.rg.eG hb⟩
def Sm.up{s:Pl.Tv}(h:Sm B w b o s a1 a2 c1 c2)(hb:B<=B'):Sm B' w b o s a1 a2 c1 c2 :=
 ⟨h.k,h.nm,h.c,h.g,h.rc.up hb,h.rg.up hb⟩
def jF(B:Nat)(w:Wd)(ao:oA)(p:List Pl.Tv):Prop :=
 p=[]\/∃b off,b<B/\ao=sY b off/\∀(i:Nat)(s:Pl.Tv),p[i]? = a_ s->∃a1 a2 c1 c2,Sm B w b (off+i * 4) s a1 a2 c1 c2
def jF.eG{c:List Pl.Tv}(h:jF B w ao c)(hb:Below B w w'):jF B w' ao c:=by
 exact ω
def jF.up{c:List Pl.Tv}(h:jF B w ao c)(hb:B<=B'):jF B' w ao c:=by
 exact Β
end
abbrev eW(f c s k d:Int):Va:=.agg #[I f,I c,I s,I k,I d]
abbrev jO(L:Lm):Va:=.agg #[I L.f,I L.c,.bool L.r,I L.s]
def Vb(f c s k d x:Int)(w:Wd):Cp 24 #[eW f c s k d,I x] w (rB (if x=0 then eW f c s k d else eW f c s 2 x) w):=by
 by_cases hx:x=0
 ·subst hx
  go_enter func24,ntmps24;exact vD
 rw[eB hx];go_enter func24,ntmps24;exact vD
def wZ(f c s k d x:Int)(w:Wd)(hx:¬x=0:=by omega):Cp 24 #[eW f c s k d,I x] w (rB (eW f c s 2 x) w):=by
 have:=Vb f c s k d x w;rwa [eB hx] at this
def Ay(f c s k d:Int)(L:Lm)(w:Wd)(h0:0<=f)(h1:f<=100000):Cp 73 #[eW f c s k d,jO L] w (rB (if L.f<=f then eW f c s 3 d else eW (f+1) c s k d) w):=by
 cases L with | mk lf lc lr ls =>
 by_cases hx:lf<=f
 all_goals
  simp only[hx,kI,oJ];go_enter func73,ntmps73;go_wp2;go_returns
  exact⟨rfl,gG⟩
def Vc(f c s k d:Int)(L:Lm)(v0:Va)(a:oA)(n cp:Nat)(w:Wd)(h0:0<=c)(h1:c<=100000)(hn:n<=1048576):Cp 80 #[eW f c s k d,jO L,.agg #[v0,sX a n cp]] w (rB (if k=0 then (if L.c<c+n then eW f c s 4 d else eW f (c+n) s k d) else eW f c s k d) w):=by
 cases L with | mk lf lc lr ls =>
 by_cases hk:k=0
 ·by_cases hx:lc<c+n
  all_goals
   have Ew:(k == 0)=b_:=by simpa using hk
   simp only[hx,hk,kI,oJ];go_enter func80,ntmps80;go_wp2;go_returns
   exact⟨rfl,gG⟩
 simp only[hk,oJ];go_enter func80,ntmps80;exact vD
section
namespace Pl
def uh(x y:lJ):((ba x).toList == y)=decide (x=y):=by
 have:∀l,(ba l).toList=l:=λl=>by simp[ba]
 rw[this];by_cases h:x=y <;> simp[h]
def aaw(x y:lJ):((ba x).toList == (ba y).toList)=decide (x=y):=by rw[uh];simp[ba]
end Pl
structure Kp(P:nK)(w w':Wd):Prop where
 sz:w.1.size<=w'.1.size
 bk:∀b,P b->b<w.1.size->w'.1[b]? = w.1[b]?
namespace Kp
variable {P:nK} {w w1 w2:Wd}
def refl(P:nK)(w:Wd):Kp P w w:=⟨jR _,λ_ _ _=>rfl⟩
def trans(h:Kp P w w1)(k:Kp P w1 w2):Kp P w w2:=⟨jT h.sz k.sz,λb p hb=>(k.bk b p (jL hb h.sz)).trans (h.bk b p hb)⟩
def of(h:Bl w w1):Kp P w w1:=⟨h.size,λb _ hb=>h.block b hb⟩
def below(h:Kp P w w1)(k:Bl w1 w2):Kp P w w2:=h.trans (of k)
def alloc(h:Kp P w w1)(o:Obj):Kp P w (w1.alloc o):=h.below gG
def drew(h:Kp P w w1):Kp P w w1.drew:=h.below gG
def set(h:Kp P w w1){p:Addr}(hp:¬P p.block)(u:Va):Kp P w (w1.setCell p u) :=
 h.trans ⟨by simp[ez],λb pb _=>zC _ _ _ _ (λe=>hp (e ▸ pb))⟩
def cell(h:Kp P w w1){b o:Nat}(hp:P b)(hb:b<w.1.size):w1.cell? (Y b o)=w.cell? (Y b o):=zy (w:=w) (h.bk b hp hb)
end Kp
def Ri(P:nK)(w:Wd)(v:Va)(zs:lI):Prop :=
 ∃a k,v=sX a zs.length k/\zs.length<=k/\k<=9223372036854775807/\(zs=[]\/∃b o,a=sY b o/\(P b/\b<w.1.size)/\∀(i:Nat)(x:Int),zs[i]? = a_ x->w.cell? (Y b (o+i))=a_ (I x))
section
variable {P Q:nK} {w w':Wd} {v v0 v1:Va} {zs:lI} {a:Pl.Ar}
def Ri.kp(h:Ri P w v zs)(hb:Kp P w w'):Ri P w' v zs:=by
 obtain⟨a,k,e,h1,h2,h⟩:=h;exact⟨a,k,e,h1,h2,h.imp id λ⟨b,o,e,hl,hc⟩=>⟨b,o,e,⟨hl.1,jL hl.2 hb.sz⟩,λi x hx=>(hb.cell hl.1 hl.2).trans (hc i x hx)⟩⟩
def Ri.mono(h:Ri P w v zs)(hq:∀b,P b->b<w.1.size->Q b):Ri Q w v zs:=by
 obtain⟨a,k,e,h1,h2,h⟩:=h;exact⟨a,k,e,h1,h2,h.imp id λ⟨b,o,e,hl,hc⟩=>⟨b,o,e,⟨hq b hl.1 hl.2,hl.2⟩,hc⟩⟩
def Rw(P:nK)(w:Wd)(v:Va)(zs:lI):Prop :=
 ∃a k,v=sX a zs.length k/\(zs=[]\/∃b o,a=sY b o/\(P b/\b<w.1.size)/\∀(i:Nat)(x:Int),zs[i]? = a_ x->w.cell? (Y b (o+i))=a_ (I x))
def Ri.rw(h:Ri P w v zs):Rw P w v zs:=let ⟨a,k,e,_,_,h⟩:=h;⟨a,k,e,h⟩
def Rw.kp(h:Rw P w v zs)(hb:Kp P w w'):Rw P w' v zs:=by
 obtain⟨a,k,e,h⟩:=h;exact⟨a,k,e,h.imp id λ⟨b,o,e,hl,hc⟩=>⟨b,o,e,⟨hl.1,jL hl.2 hb.sz⟩,λi x hx=>(hb.cell hl.1 hl.2).trans (hc i x hx)⟩⟩
def j'.rw{a:oA}{k:Nat}(h:j' w.1.size w a zs):Rw (·<w.1.size) w (sX a zs.length k) zs:=⟨a,k,rfl,h.imp id λ⟨b,o,hl,e,hc⟩=>⟨b,o,e,⟨hl,hl⟩,hc⟩⟩
def RA(P:nK)(w:Wd)(v0 v1:Va)(a:Pl.Ar):Prop:=Ri P w v0 a.1/\Ri P w v1 a.2
def RA.kp(h:RA P w v0 v1 a)(hb:Kp P w w'):RA P w' v0 v1 a:=⟨h.1.kp hb,h.2.kp hb⟩
def RA.mono(h:RA P w v0 v1 a)(hq:∀b,P b->b<w.1.size->Q b):RA Q w v0 v1 a:=⟨h.1.mono hq,h.2.mono hq⟩
def RA.eS(h:RA P w v0 v1 a):(∃x y,v0=sX x a.1.length y)/\∃x y,v1=sX x a.2.length y:=by
 obtain⟨⟨x,y,e,_⟩,x',y',e',_⟩:=h;exact⟨⟨x,y,e⟩,x',y',e'⟩
end
def Rn(P:nK)(w:Wd)(a a':oA)(ns:List (lJ × Pl.Ar)):Prop :=
 ns=[]\/∃b o b' o',a=sY b o/\a'=sY b' o'/\b<w.1.size/\b'<w.1.size/\∀(i:Nat) p,ns[i]? = a_ p->w.cell? (Y b (o+i))=a_ (.string (Pl.ba p.1))/\∃u0 u1,w.cell? (Y b' (o'+i * 2))=a_ u0/\w.cell? (Y b' (o'+i * 2+1))=a_ u1/\RA P w u0 u1 p.2
def Rn.kp{P:nK}{w w':Wd}{a a':oA}{ns:List (lJ × Pl.Ar)}(h:Rn P w a a' ns)(k:Bl w w'):Rn P w' a a' ns :=
 h.imp id λ⟨b,o,b',o',e,e',hb,hb',hc⟩=>⟨b,o,b',o',e,e',jL hb k.size,jL hb' k.size,λi p hp =>
  let ⟨c0,u0,u1,c1,c2,r⟩:=hc i p hp
  ⟨(k.cell (p:=(Y b (o+i))) hb).trans c0,u0,u1,(k.cell (p:=(Y b' (o'+i * 2))) hb').trans c1,(k.cell (p:=(Y b' (o'+i * 2+1))) hb').trans c2,r.kp (.of k)⟩⟩
structure UV where
 ns:Va
 vs:Va
 fs:Va
 w0:Va
 w1:Va
 a0:Va
 a1:Va
 own:Int
 sk:Int
 sn:bA
 sc:Va
 sg:Va
 cl:Int
abbrev uV(L:Lm)(u:UV):Va:=.agg #[I L.f,I L.c,.bool L.r,I L.s,u.ns,u.vs,u.fs,u.w0,u.w1,u.a0,u.a1,I u.own,I u.sk,.string u.sn,u.sc,u.sg,I u.cl]
def NC{α:Type}(k:α->List UInt8)(l:List α)(x:lJ)(i:Nat)(p:α)(h:l[i]? = a_ p):jP k l x (i+1)=if k p=x then a_ p else jP k l x i:=by simp[jP,h]
def anW(P:nK)(w:Wd)(r:Option Pl.Ar)(e:Ending)(w':Wd):Prop:=Below w.1.size w w'/\match r with
 |some a=>∃u0 u1,e=rT (.tuple #[.agg #[u0,u1],.bool b_])/\RA P w' u0 u1 a
 |none=>e=rT (.tuple #[.agg nN,.bool d_])
def agh{P:nK}(L:Lm)(u:UV)(x:lJ)(w:Wd)(ns:List (lJ × Pl.Ar))(a a':oA)(c c':Nat)(e0:u.ns=sX a ns.length c)(e1:u.vs=sX a' ns.length c')(h:Rn P w a a' ns)(hl:ns.length<=1048576)(ho:(decide (0<u.own) && decide (x=[119]))=d_)(ju:(decide (1<u.own) && decide (x=[97]))=d_):
  Cp 74 #[uV L u,.string (Pl.ba x)] w (anW P w (mr ns x)):=by
 cases L with | mk lf lc lr ls =>
 cases u with | mk Km Kl Ko w0 w1 a0 a1 own sk sn sc sg cl =>
 simp only at e0 e1 ho ju;subst e0 e1;have Ep:decide (0<own)=b_->((Pl.ba x).toList == [119])=d_:=λh=>by rw[uh];simpa[h] using ho
 have ho2:decide (1<own)=b_->((Pl.ba x).toList == [97])=d_:=λh=>by rw[uh];simpa[h] using ju
 have HS:=zH (NC (λp:lJ × Pl.Ar=>p.1) ns x);have⟨r,HN⟩:∃r,Hid (r=(jP (·.1) ns x ns.length).map (·.2)):=⟨_,rfl⟩;unfold mr;rw[<- HN.o];have HX:Hid (∀i,i<ns.length->∃b o b' o' p u0 u1,a=sY b o/\a'=sY b' o'/\b<w.1.size/\b'<w.1.size/\ns[i]? = a_ p/\cL w b (o+i) (.string (Pl.ba p.1))/\cL w b' (o'+i * 2) u0/\cL w b' (o'+i * 2+1) u1/\RA P w u0 u1 p.2):=λi hi=>by
  rcases h with h|⟨b,o,b',o',e,e',hb,hb',hc⟩
  ·simp[h] at hi
  have⟨c1,u0,u1,c2,c3,c4⟩:=hc i _ (fw hi);exact⟨b,o,b',o',_,u0,u1,e,e',hb,hb',fw hi,c1,c2,c3,c4⟩
 generalize ns.length=n at *;go_enter func74,ntmps74;have pQ:own<=0\/own=1\/1<own:=oM;rcases pQ with h0|rfl|h0
 all_goals
  go_wp2;go_loop [6] (λi=>∃m:Nat,m<=n/\i=I ((m:Int)-1)/\Hid (r=(jP (·.1) ns x m).map (·.2))) (λi=>(intOf i+1).toNat)
  case atStart=>exact⟨n,jR _,rfl,HN⟩
  obtain⟨m,hm,rfl,hr⟩:=hrel
  cases m with
  |zero =>
   go_wp2;go_returns
   rw[hr.o];exact⟨gG,rfl⟩
  |succ i =>
   obtain⟨b,o,b',o',p,u0,u1,rfl,rfl,hb,hb',hp,k0,k1,k2,ra⟩:=HX.o i oM;have h2:=HS.o i p hp;have eq:=aaw p.1 x;obtain⟨⟨x0,y0,rfl⟩,x1,y1,rfl⟩:=ra.eS;have RR:=zH ra;have e1:(((i+1:Nat):Int)-1)=(i:Int):=oM;rw[e1];by_cases hx:p.1=x
   ·rw[eD hx] at h2
    have eN:Hid (r=a_ p.2):=by rw[hr.o,h2];rfl
    rw[fM hx] at eq;go_wp2;go_returns
    rw[eN.o];exact⟨gG,_,_,rfl,RR.o.kp (.of gG)⟩
   rw[eB hx] at h2;rw[fH hx] at eq;have eN:Hid (r=(jP (·.1) ns x i).map (·.2)):=by rw[hr.o,h2];exact rfl
   go_wp2;go_round
   case rel=>exact⟨i,oM,gN,eN⟩
   simp[intOf]
end
section
variable {w w':Wd}{a:oA}
def gf.kp{c:List Sv}(h:gf w.1.size w a c)(hb:Bl w w'):gf w'.1.size w' a c:=(h.eG hb).up hb.size
def iG.kp{c:List Gv}(h:iG w.1.size w a c)(hb:Bl w w'):iG w'.1.size w' a c:=(h.eG hb).up hb.size
abbrev D9(f:Pl.Tv)(a1:oA)(c1:Nat)(a2:oA)(c2:Nat):Va:=.agg #[I f.k,.string (Pl.ba f.nm),sX a1 f.code.length c1,sX a2 f.gs.length c2]
end
open Pl (Ar)
section
structure Ks where
 e1:Int->Ar->Int × Ar
 rd:Int->Ar->Int × Ar
 sc:Int->Ar->Int × Ar
 mo:Int->Ar->Int × Ar
 e2:Int->Ar->Ar->Int × Ar
 ou:Int->Ar->Ar->Int × Ar
 dy:Int->Ar->Ar->Int × Ar
 mC:Int->Int->Ar->Ar->Int × Ar
 ok:Ar->Prop
def Ks.k1(K:Ks)(f:fS)(w:Ar):Int × Ar:=if f.k=1 then K.e1 f.a w else if f.k=3 then K.rd f.a w else if f.k=4 then K.sc f.a w else K.mo f.a w
def Ks.k2(K:Ks)(f:fS)(a w:Ar):Int × Ar:=if f.k=5 then K.e2 f.a a w else if f.k=7 then K.ou f.a a w else if f.k=8 then K.mC f.a f.b a w else K.dy f.a a w
def RO(K:Ks)(P:nK)(w:Wd)(v0 v1:Va)(a:Ar):Prop:=RA P w v0 v1 a/\K.ok a
section
variable {K:Ks} {P Q:nK} {w w':Wd} {v0 v1:Va} {a:Ar}
def RO.kp(h:RO K P w v0 v1 a)(hb:Kp P w w'):RO K P w' v0 v1 a:=⟨h.1.kp hb,h.2⟩
def RO.mono(h:RO K P w v0 v1 a)(hq:∀b,P b->b<w.1.size->Q b):RO K Q w v0 v1 a:=⟨h.1.mono hq,h.2⟩
end
def KF(K:Ks)(w:Wd)(r:Int × Ar)(e:Ending)(w':Wd):Prop:=Below w.1.size w w'/\∃u0 u1,e=rT (.tuple #[.agg #[u0,u1],I r.1])/\RA (w.1.size<=·) w' u0 u1 r.2/\(r.1=0->K.ok r.2)
def K1(K:Ks)(n:Nat)(F:Int->Ar->Int × Ar):Prop:=∀(P:nK)(op:Int) (v0 v1:Va) (a:Ar) (w:Wd),RO K P w v0 v1 a->Cp n #[I op,.agg #[v0,v1]] w (KF K w (F op a))
def K2(K:Ks)(n:Nat)(F:Int->Ar->Ar->Int × Ar):Prop:=∀(P:nK)(op:Int) (v0 v1 v2 v3:Va) (a b:Ar) (w:Wd),RO K P w v0 v1 a->RO K P w v2 v3 b->Cp n #[I op,.agg #[v0,v1],.agg #[v2,v3]] w (KF K w (F op a b))
def K3(K:Ks)(n:Nat)(F:Int->Int->Ar->Ar->Int × Ar):Prop:=∀(P:nK)(f g:Int) (v0 v1 v2 v3:Va) (a b:Ar) (w:Wd),RO K P w v0 v1 a->RO K P w v2 v3 b->Cp n #[I f,I g,.agg #[v0,v1],.agg #[v2,v3]] w (KF K w (F f g a b))
structure KS(K:Ks):Prop where
 e1:K1 K 102 K.e1
 rd:K1 K 103 K.rd
 sc:K1 K 104 K.sc
 mo:K1 K 105 K.mo
 e2:K2 K 106 K.e2
 ou:K2 K 107 K.ou
 dy:K2 K 109 K.dy
 mC:K3 K 108 K.mC
def Gn{w w':Wd}(h:Bl w w'):(∀b o,b<w.1.size->w'.cell? (Y b o)=w.cell? (Y b o))/\(∀b o,b<w.1.size->w'.frozen? (Y b o)=w.frozen? (Y b o))/\(∀b,b<w.1.size->b<w'.1.size)/\(∀b,b<=w.1.size->b<=w'.1.size) :=
 ⟨λb o hb=>h.cell (p:=(Y b o)) hb,λb o hb=>h.frozen (p:=(Y b o)) hb,λb hb=>jL hb h.size,λb hb=>jT hb h.size⟩
def bv{w w1 w2:Wd}(h2:Bl w1 w2)(h:Bl w w1:=by go_grown):Bl w w2:=h.trans (h2.mono h.size)
def KF.open{K:Ks}{w w':Wd}{r:Int × Ar}{e:Ending}(h:KF K w r e w'):∃x0 y0 x1 y1,e=rT (.tuple #[.agg #[sX x0 r.2.1.length y0,sX x1 r.2.2.length y1],I r.1])/\Hid (RA (w.1.size<=·) w' (sX x0 r.2.1.length y0) (sX x1 r.2.2.length y1) r.2/\(r.1=0->K.ok r.2))/\Bl w w':=by
 obtain⟨hb,u0,u1,rfl,ra,hk⟩:=h;obtain⟨⟨x,y,rfl⟩,x',y',rfl⟩:=ra.eS;exact⟨x,y,x',y',rfl,⟨ra,hk⟩,hb⟩
abbrev EP(f:fS):Va:=.agg #[I f.k,I f.a,I f.b,.string (Pl.ba f.nm)]
def KF.put{K:Ks}{w w0 w1:Wd}{r:Int × Ar}{v0 v1:Va}{c:Nat}(hr:RA (w0.1.size<=·) w1 v0 v1 r.2/\(r.1=0->K.ok r.2))(hb:Bl w w1)(h0:w.1.size<=c)(h1:c<w0.1.size)(x y:Va):
  KF K w r (rT (.tuple #[.agg #[v0,v1],I r.1])) ((w1.setCell (Y c 0) x).setCell (Y c 1) y) :=
 ⟨gG,_,_,rfl,(hr.1.kp (((Kp.refl _ _).set J2 _).set J2 _)).mono λb h _=>oM,hr.2⟩
def aeK{K:Ks}{P:nK}(H:KS K)(f:fS)(v0 v1:Va)(a:Ar)(w:Wd)(h:RO K P w v0 v1 a):Cp 78 #[EP f,.agg #[v0,v1]] w (KF K w (K.k1 f a)):=by
 obtain⟨⟨x,y,rfl⟩,x',y',rfl⟩:=h.1.eS;obtain⟨k,fa,fb,nm⟩:=f;have HH:=zH h;unfold Ks.k1;by_cases h1:k=1
 rotate_left
 by_cases h3:k=3
 rotate_left
 by_cases h4:k=4
 rotate_left
 all_goals
  simp only[*,kI,oJ];go_enter func78,ntmps78;go_wp2_with fail
  first | refine(H.e1 _ fa _ _ a _ (HH.o.kp (.of gG))).mono ?_ | refine(H.rd _ fa _ _ a _ (HH.o.kp (.of gG))).mono ?_ | refine(H.sc _ fa _ _ a _ (HH.o.kp (.of gG))).mono ?_ | refine(H.mo _ fa _ _ a _ (HH.o.kp (.of gG))).mono ?_
  rintro e w1 h;obtain⟨x0,y0,x1,y1,rfl,RR,hb⟩:=h.open;have⟨hc,hf,hs,iF⟩:=Gn hb;have HB:=zH (bv (w:=w) hb);generalize K.e1 fa a=r at *;generalize K.rd fa a=r at *;generalize K.sc fa a=r at *;generalize K.mo fa a=r at *;go_wp2;refine eJ (by simp[results,results78,go_sem,hc];try rfl) rfl ?_;exact KF.put RR.o HB.o oM sI _ _
def aeJ{K:Ks}{P:nK}(H:KS K)(f:fS)(v0 v1 v2 v3:Va)(a b:Ar)(w:Wd)(h:RO K P w v0 v1 a)(h':RO K P w v2 v3 b):Cp 79 #[EP f,.agg #[v0,v1],.agg #[v2,v3]] w (KF K w (K.k2 f a b)):=by
 obtain⟨⟨x,y,rfl⟩,x',y',rfl⟩:=h.1.eS;obtain⟨⟨x2,y2,rfl⟩,x3,y3,rfl⟩:=h'.1.eS;obtain⟨k,fa,fb,nm⟩:=f;have HH:=zH (jA h h');unfold Ks.k2;by_cases h1:k=5
 rotate_left
 by_cases h3:k=7
 rotate_left
 by_cases h4:k=8
 rotate_left
 all_goals
  simp only[*,kI,oJ];go_enter func79,ntmps79;go_wp2_with fail
  first | refine(H.e2 _ fa _ _ _ _ a b _ (HH.o.1.kp (.of gG)) (HH.o.2.kp (.of gG))).mono ?_ | refine(H.ou _ fa _ _ _ _ a b _ (HH.o.1.kp (.of gG)) (HH.o.2.kp (.of gG))).mono ?_ | refine(H.mC _ fa fb _ _ _ _ a b _ (HH.o.1.kp (.of gG)) (HH.o.2.kp (.of gG))).mono ?_ | refine(H.dy _ fa _ _ _ _ a b _ (HH.o.1.kp (.of gG)) (HH.o.2.kp (.of gG))).mono ?_
  rintro e w1 h;obtain⟨x0,y0,x1,y1,rfl,RR,hb⟩:=h.open;have⟨hc,hf,hs,iF⟩:=Gn hb;have HB:=zH (bv (w:=w) hb);generalize K.e2 fa a b=r at *;generalize K.ou fa a b=r at *;generalize K.mC fa fb a b=r at *;generalize K.dy fa a b=r at *;go_wp2;refine eJ (by simp[results,results79,go_sem,hc];try rfl) rfl ?_;exact KF.put RR.o HB.o oM sI _ _
end
section
def Oi(B:Nat)(w:Wd)(v:Va)(zs:lI):Prop:=w.ownsRow B 3 1 v zs.length (zs.map (Value.int .i64))
section
variable {B:Nat} {P:nK} {w w':Wd} {u v v':Va} {zs ys:lI}
def Oi.lt(h:Oi B w v zs){b:Nat}(e:v.ownBlock=a_ b):B<=b/\b<w.1.size:=by
 rcases h.2 with ⟨rfl,_⟩|⟨g,cap,cur,rfl,hb,hg,_⟩
 ·simp[Value.ownBlock] at e
 obtain rfl:g=b:=by simpa[Value.ownBlock] using e
 exact⟨hb,(uB.1 hg).1⟩
def Oi.ri(h:Oi B w v zs):Ri (λb=>v.ownBlock=a_ b) w v zs:=by
 rcases h.2 with ⟨rfl,h0⟩|⟨g,cap,cur,rfl,hb,hg,h1,h2,h3,h4⟩
 ·obtain rfl:=lP.1 h0
  exact⟨c_,0,rfl,sI,oM,.inl rfl⟩
 refine⟨_,cap,rfl,h1,by unfold maxLen at h2;omega,.inr ⟨g,0,rfl,⟨rfl,(uB.1 hg).1⟩,λi x hx=>?_⟩⟩;have:(zs.map (Value.int .i64))[i]? = a_ (I x):=by rw[qo,hx];rfl
 rw[<- h4,PM] at this;split at this
 ·rw[gY];simp[World.cell?,hg];simpa using this
 cases this
def Oi.kp(h:Oi B w v zs)(k:Kp (λb=>v.ownBlock=a_ b) w w'):Oi B w' v zs:=by
 refine⟨h.1,h.2.imp id λ⟨g,cap,cur,e,hb,hg,r⟩=>⟨g,cap,cur,e,hb,(k.bk g (by rw[e];rfl) (uB.1 hg).1).trans hg,r⟩⟩
def Oi.form(h:Oi B w v zs):∃x y,v=sX x zs.length y:=by have⟨x,y,e,_⟩:=h.ri;exact⟨x,y,e⟩
def Oi.base(h:Oi B w v zs){B':Nat}(hb:B'<=B):Oi B' w v zs:=⟨h.1,h.2.imp id λ⟨g,cap,cur,e,h1,r⟩=>⟨g,cap,cur,e,jT hb h1,r⟩⟩
def Kp.grown(h:w.grownBy w' v.ownBlock)(hp:∀b,v.ownBlock=a_ b->¬P b):Kp P w w':=⟨h.size,λb pb hb=>h.block b hb (λe=>hp b e.symm pb)⟩
def Oi.nil(w:Wd):Oi B w (nJ) []:=IE _ _ _ _
def Oi.emp(hb:B<=w.1.size):Oi B (w.alloc (.cells #[] 3)) (sX (sY w.1.size 0) 0 0) []:=zk w #[] 0 hb J8 rfl
def Oi.one(hb:B<=w.1.size)(x:Int):Oi B (w.alloc (.cells #[I x] 3)) (sX (sY w.1.size 0) 1 1) [x]:=zk w #[I x] 1 hb J8 rfl
def info_parts{P:Program}{t:Nat}{z:Va}{s b:Nat}(h:(P.info? t).map (λi=>(i.zero,i.size,i.bytes))=a_ (a_ z,s,b)):∃i,P.info? t=a_ i/\i.zero=a_ z/\i.size=s/\i.bytes=b:=by
 cases e:P.info? t with
 |none=>rw[e] at h;cases h
 |some i=>rw[e] at h;simp only[vH,kh,kH] at h;exact⟨i,rfl,h⟩
def ajl.GN(h:ρ:=by
 obtain⟨ao,cap,rfl,hc⟩:=hu;rcases hc with rfl|⟨b,off,rfl,Ab,hc⟩
 ·refine⟨v,w,?_,by simpa[Oi] using h,⟨rfl,rfl,rfl,jR _,λ_ _ _=>rfl⟩,.inl rfl⟩
  rcases h.2 with ⟨rfl,h0⟩|⟨g,cp,cur,rfl,_,_,zP,_⟩
  ·cases ao <;> simp[Builtin.append_,Bn underlying23,sizeOf,typeInfo,hi,Builtin.lenOf,Builtin.firstCells,loadCells,loadCellsFrom]
  cases ao <;> simp[Builtin.append_,Bn underlying23,sizeOf,typeInfo,hi,Builtin.lenOf,Builtin.firstCells,loadCells,loadCellsFrom,zP,storeCells]
 ·have⟨v',w',hr,ho,hg,_,ha⟩:=run_append_own_at (P:=prog) w B 23 ty 3 i0 (I 0) 1 8 underlying23 hi iC gy iS rfl dC v zs.length _ h (Y b off) ys.length cap (ys.map (Value.int .i64)) sI
   (by
    intro j x hj;rw[qo] at hj;obtain⟨y,hy,rfl⟩:=xG.1 hj;rw[vN,hc j y hy])
   (λx hx=>by obtain⟨y,_,rfl⟩:=mu.1 hx;rfl) J8 oM hB
  exact⟨v',w',hr,by simpa[Oi] using ho,hg,ha⟩
 ):ρ:=h
def XY(ty:TypeId)(h:Oi B w v zs)(hu:Rw P w u ys)(kU:zs.length+ys.length<=16777216)(hB:B<=w.1.size):
  ∃v' w',(Builtin.append_ #[23,23] ty #[v,u]).run prog w=.ok v' w'/\Oi B w' v' (zs++ys)/\w.grownBy w' v.ownBlock/\(v'.ownBlock=v.ownBlock\/v'.ownBlock=a_ w.1.size):=by
 open ajl in exact Hf
def mY(w:Wd)(v v':Va):Prop:=v'.ownBlock=v.ownBlock\/v'.ownBlock=a_ w.1.size
def nu{ops:Array Oper}{rest:List Oper}{o:Oper}{a:Act}{Q:Exit->Act->Wd->Prop}(hg:o.guard=c_)(s x:Operand)(gO:o.op=Op.call { callee:=Callee.builtin Builtin.append,args:=#[s,x],argTypes:=#[23,23] })(hs:a.eval s=v)(hx:a.eval x=u)
  (h:Oi B w v zs) (hu:Rw P w u ys) (kU:zs.length+ys.length<=16777216) (hB:B<=w.1.size) (hK:∀v' w',Oi B w' v' (zs++ys)->w.grownBy w' v.ownBlock->mY w v v'->wpList prog ops Q rest (a.put o.dst v') w'):wpList prog ops Q (o::rest) a w:=by
 have⟨v',w',hr,ho,fR,ha⟩:=XY o.type h hu kU hB;exact ZI
def AI{ops:Array Oper}{o:Oper}{a:Act}{K:Act->Wd->Prop}{Q:Exit->Act->Wd->Prop}{E:Prop}(hg:o.guard=c_)(s x:Operand)(gO:o.op=Op.call { callee:=Callee.builtin Builtin.append,args:=#[s,x],argTypes:=#[23,23] })(hs:a.eval s=v)(hx:a.eval x=u)
  (h:Oi B w v zs) (hu:Rw P w u ys) (kU:zs.length+ys.length<=16777216) (hB:B<=w.1.size) (hK:∀v' w',Oi B w' v' (zs++ys)->w.grownBy w' v.ownBlock->mY w v v'->K (a.put o.dst v') w'):if Region.wanted o (yielded ops a.tmps)=b_ then Oper.wp prog o a w K Q else E:=by
 have⟨v',w',hr,ho,fR,ha⟩:=XY o.type h hu kU hB;rw[eD JP];unfold Oper.wp;simp[execOp,gO,resolve,invoke,builtin,hs,hx,hr,Result.andThen]
 exact hK v' w' ho fR ha
end
def lG{P:nK}(v:Va)(zs:lI)(w:Wd)(h:Rw P w v zs)(hl:zs.length<=1048576):Cp 25 #[v] w λe w'=>Bl w w'/\∃u,e=rT u/\Oi w.1.size w' u zs:=by
 have H:=zH h;obtain⟨x,y,rfl,_⟩:=h;go_enter func25,ntmps25;go_wp2_with (at_builtin;refine nu rfl (.tmp 5) (.tmp 6) rfl rfl rfl (Oi.emp (B:=w.1.size) (jR _)) (H.o.kp (.of gG)) J2 sI ?_)
 intro v' w' ho hg ha;have HO:=zH ho;have HB:=zH (qu (B:=w.1.size) (a:=w) gG hg sI (λk hk=>by have:=Oi.lt (Oi.emp (B:=w.1.size) (w:=w) (jR _)) hk;exact this.1));go_wp2;go_returns
 exact⟨HB.o,_,rfl,HO.o⟩
end
variable {B:Nat}{v:Va}{zs:lI}
def Bx(w:Wd)(b:Nat)(cs:aV)(t:TypeId):Prop:=w.1[b]? = a_ (.cells cs t (0,0))
section
variable {P:nK} {w w':Wd} {b:Nat} {cs:aV} {t:TypeId}
def Bx.lt(h:Bx w b cs t):b<w.1.size:=(uB.1 h).1
def Bx.cf(h:Bx w b cs t):(∀o,w.cell? (Y b o)=cs[o]?)/\(∀o,w.frozen? (Y b o)=d_):=by
 unfold Bx at h;refine⟨λo=>by simp[World.cell?,h],λo=>by simp[World.frozen?,h]⟩
def Bx.kp(h:Bx w b cs t)(k:Kp P w w')(hp:P b):Bx w' b cs t:=(k.bk b hp h.lt).trans h
def Bx.eC(h:Bx w b cs t){p:Addr}(hp:¬b=p.block)(u:Va):Bx (w.setCell p u) b cs t:=(zC _ _ _ _ hp).trans h
def Bx.set(h:Bx w b cs t)(i:Nat)(u:Va):Bx (w.setCell (Y b i) u) b (cs.setIfInBounds i u) t:=heap_setCell_same w b i cs t u h
def Bx.new(w:Wd)(cs:aV)(t:TypeId):Bx (w.alloc (.cells cs t)) w.1.size cs t:=by
 show (w.1.push _)[w.1.size]? = _;rw[Array.getElem?_push,eD rfl]
def Bx.below(h:Bx w b cs t)(k:Bl w w'):Bx w' b cs t:=(k.block b h.lt).trans h
def Bx.al(h:Bx w b cs t)(o:Obj):Bx (w.alloc o) b cs t:=h.below gG
def Bx.eK(e:b=w.1.size):Bx (w.alloc (.cells cs t)) b cs t:=by subst e;exact Bx.new w cs t
def Bx.all(h:Bx w b cs t):(∀o,w.cell? (Y b o)=cs[o]?)/\(∀o,w.frozen? (Y b o)=d_)/\b<w.1.size:=⟨h.cf.1,h.cf.2,h.lt⟩
end
def Oi.ne{w:Wd}(h:Oi B w v zs){b:Nat}{cs:aV}{t:TypeId}(hb:Bx w b cs t)(ht:¬t=3):¬v.ownBlock=a_ b:=λe=>by
 rcases h.2 with ⟨rfl,_⟩|⟨g,cap,cur,rfl,_,hg,_⟩
 ·simp[Value.ownBlock] at e
 obtain rfl:g=b:=by simpa[Value.ownBlock] using e
 unfold Bx at hb;rw[hg] at hb;injection hb with hb;injection hb with _ hb;exact ht hb.symm
def eY{P:nK}{w w':Wd}(h:Kp P w w':=by repeat' (first | with_reducible exact Kp.refl _ _ | with_reducible assumption | with_reducible refine Kp.set ?_ ?_ _ | with_reducible refine Kp.drew ?_ | with_reducible refine Kp.alloc ?_ _)):Kp P w w':=h
def Oi.o{B0:Nat}{w w':Wd}(h:Oi B w v zs)(k:Kp (λb=>v.ownBlock=a_ b) w w')(hB:B0<=B):Ri (B0<=·) w' v zs:=(h.ri.kp k).mono λb e _=>jT hB (h.lt e).1
def Oi.out:=@Oi.o
def iq{w w':Wd}(h:Below w.drew.1.size w.drew w'):Bl w w':=⟨h.os,h.tape,h.output,h.size,h.block⟩
section
variable {w w':Wd} {c0 c1 c2 c3 c4 c5 c6:aV} {t0 t1 t2 t3 t4 t5 t6:TypeId}
def al5(h:Below (((((w.alloc (.cells c0 t0)).alloc (.cells c1 t1)).alloc (.cells c2 t2)).alloc (.cells c3 t3)).alloc (.cells c4 t4)).1.size (((((w.alloc (.cells c0 t0)).alloc (.cells c1 t1)).alloc (.cells c2 t2)).alloc (.cells c3 t3)).alloc (.cells c4 t4)) w'):
  Bx w' w.1.size c0 t0/\Bx w' (w.1.size+1) c1 t1/\Bx w' (w.1.size+1+1) c2 t2/\Bx w' (w.1.size+1+1+1) c3 t3/\Bx w' (w.1.size+1+1+1+1) c4 t4 :=
 ⟨.below (.al (.al (.al (.al (.eK rfl) _) _) _) _) h,.below (.al (.al (.al (.eK sI) _) _) _) h,.below (.al (.al (.eK sI) _) _) h,.below (.al (.eK sI) _) h,.below (.eK sI) h⟩
end
end Go.Proofs.YtiagfejlmafliaaGreatDoor
