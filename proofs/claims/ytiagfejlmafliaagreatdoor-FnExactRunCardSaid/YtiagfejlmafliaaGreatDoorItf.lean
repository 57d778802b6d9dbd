import Derived.Test.YtiagfejlmafliaaGreatDoorSzp
import Derived.Test.YtiagfejlmafliaaGreatDoorFok
import Derived.Shelf.Strings.Builder1
import Derived.Shelf.Strings.Builder2
import Derived.Shelf.Strings.BuilderF
import Derived.Shelf.Utf8.RuneCount
import Derived.Shelf.Strconv.Itoa0
import Derived.Shelf.Strconv.Itoa1
import Derived.Shelf.LaysM
import Derived.Shelf.Strconv.Itoa2
import Derived.Shelf.Strconv.Itoa3
import Derived.Shelf.Strings.Search1
import Derived.Shelf.Strings.Search2
import Derived.Shelf.Strings.Search3
import Derived.Shelf.Strings.Count
import Derived.Shelf.Strings.Shaped
import Derived.Shelf.Strings.Split
import Derived.Shelf.Strings.Replace
import Derived.Shelf.Strings.SplitShaped
import Derived.Shelf.Unicode.Decode
import Derived.Shelf.Strings.RuneCount
import Derived.Shelf.Unicode.DecodeSlow
import Derived.Shelf.Unicode.DecodeAny
import Derived.Lib.AppendIntMem
import Derived.Lib.FrozenHead2
import Derived.Lib.OthersKept
import Derived.Lib.BufferKept
import Derived.Lib.MakeNoZero
import Derived.Shelf.RegionOpenPlain
namespace Go.Proofs.YtiagfejlmafliaaGreatDoor
set_option linter.all false
open Go.Proofs.Tryz Pl
open Go.RowKit
set_option maxRecDepth 100000
set_option maxHeartbeats 16000000
open World renaming setCell->ez,alloc->ew
open List renaming range->eA,replicate->eE
open Option renaming some->a_,none->c_
open Bool renaming true->b_,false->d_
variable {ρ:Prop}
section
variable {c:List Sv}{s:Sv}{t:Nd Sv}{m:Nat}
namespace Pl
def ahz{j:Nat}(hs:c[j]? = a_ s)(h:nd c (j+1)=a_ (t,m)):sV t=decide (ar s=0):=by
 rw[Df c j s hs] at h;by_cases h0:ar s=0
 ·rw[eD h0] at h
  simp only[kh,kH] at h;rw[<- h.1];simp[sV,h0]
 rw[eB h0] at h;rw[fH h0]
 cases e:nd c j with
 |none=>rw[e] at h;cases h
 |some r =>
  obtain⟨t1,m1⟩:=r;rw[e] at h;simp only[] at h;split at h
  ·simp only[kh,kH] at h
   rw[<- h.1];rfl
  cases e2:nd c m1 with
  |none=>rw[e2] at h;cases h
  |some r2 =>
   rw[e2] at h;simp only[kh,kH] at h;rw[<- h.1];rfl
def Gw:∀t:Nd Sv,nest t+1<=t.post.length:=by
 intro t;induction t with
 |«at» s=>simp[nest,Nd.post]
 |one s r ih=>simp only[nest,Nd.post,hJ,fW,iA];omega
 |two s l r il ir =>
  simp only[nest,Nd.post,hJ,fW,iA]
  cases sV l <;> simp only[] <;> omega
def Xi{n:Nat}(h:nd c n=a_ (t,m)):nest t<c.length:=by
 have⟨h1,h2,h3,h4⟩:=xy h;have e:=lQ List.length h3;rw[hJ,jH] at e;have:=Gw t;omega
def aap(h:fj s=b_):(s.k=3->jk s.fn d_=b_)/\(s.k=4->jk s.fn b_=b_):=by
 rw[Ys] at h;unfold Bt at h;refine⟨λk=>?_,λk=>?_⟩
 all_goals
  rw[k] at h;rw[eB dC] at h;split at h
  ·cases h
  rw[eB dC] at h;simp only[fO] at h;exact h.2
def Gf(h:fj s=b_)(hk:s.k=1):(∀x∈s.eF,-3000000000<=x/\x<=3000000000)/\s.eF.length<=1000:=by
 unfold fj at h;rw[eD hk] at h;simp only[k_,fO,fQ,ga] at h;exact⟨λx hx=>h.1.1.1.1 x hx,h.1.1.2⟩
end Pl
def I8(h:ρ:=by
 go_enter func69,ntmps69;go_wp2_with fail;refine(K.o _ gG).mono ?_;rintro e' w2 ⟨r1,rfl,z1,hb2⟩;have B2:Bx w2 w.1.size _ _:=.below (.eK rfl) hb2;replace hb2:=zH (bv (w:=w) hb2);have l1:¬(9223372036854775807<1+r1.size):=oM;have l2:¬(9223372036854775807<1+r1.size+1):=oM;have l3:¬(9223372036854775807<r1.size+1):=oM;have l4:¬(9223372036854775807<1+r1.size+1+1):=oM;have cc:=Uu.o _ hb2.o;obtain⟨c2,f2,y2⟩:=B2.all;replace B2:=zH B2;go_wp2_with (go_at_call 67;refine(KS.o _ hb2.o).mono ?_;rintro e' w3 ⟨rfl,rfl⟩)
 refine(K2.o _ hb2.o).mono ?_;rintro e' w3 ⟨r3,rfl,z3,eV⟩;have B3:=B2.o.below eV;replace eV:=zH (bv eV hb2.o);obtain⟨c2,f2,y2⟩:=B3.all;go_wp2_with fail;refine(KF.o _).mono ?_;rintro e' w4 ⟨r2,rfl,z2,fZ⟩;replace fZ:=zH (bv fZ eV.o);have l5:¬(9223372036854775807<r1.size+1+r2.size):=oM;have l6:¬(9223372036854775807<r1.size+1+r2.size+1):=oM;have l7:¬(9223372036854775807<r1.size+1+r2.size+1+r3.size):=oM;have l8:¬(9223372036854775807<1+r1.size+1+1+r2.size):=oM;have l9:¬(9223372036854775807<1+r1.size+1+1+r2.size+1):=oM;have lA:¬(9223372036854775807<1+r1.size+1+1+r2.size+1+r3.size):=oM;go_wp2;go_ret2
 exact⟨_,rfl,by simp[rV,tD];omega,fZ.o⟩):ρ:=h
def agl(b o cap L j m1 q1 q2 N1 N2:Nat)(an:oA)(sn cn:Nat)(kk fk fa fb:Int)(nm pR:bA)(w:Wd)(hi:j+1<L)(hL:L<=1048576)(hb:b<w.1.size)(h1:N1<=68719476736)(h2:N2<=68719476736)(oB:q1<=1048576)(rm:q2<=1048576)(hm:m1<=1048576)
  (c0:w.cell? (Y b (o+(j+1) * 7))=a_ (I 4)) (c1:w.cell? (Y b (o+(j+1) * 7+1))=a_ (sX an sn cn)) (c2:w.cell? (Y b (o+(j+1) * 7+2))=a_ (.string nm)) (c3:w.cell? (Y b (o+(j+1) * 7+3))=a_ (I fk)) (c4:w.cell? (Y b (o+(j+1) * 7+4))=a_ (I fa)) (c5:w.cell? (Y b (o+(j+1) * 7+5))=a_ (I fb)) (c6:w.cell? (Y b (o+(j+1) * 7+6))=a_ (.string pR))
  (Uu:Hid (∀w',Bl w w'->w'.cell? (Y b (o+j * 7))=a_ (I kk))) (hk:(kk=1\/kk=2)\/kk=3\/kk=4)
  (K:Hid (∀w',Bl w w'->Cp 69 #[sX (sY b o) L cap,I (j:Int)] w' (CG N1 q1 w')))
  (K2:Hid (∀w',Bl w w'->Cp 69 #[sX (sY b o) L cap,I ((m1:Int)-1)] w' (CG N2 q2 w')))
  (KS:Hid (∀w',Bl w w'->Cp 67 #[sX (sY b o) L cap,I (j:Int)] w' λe w2=>e=rT (I (m1:Int))/\w2=w'))
  (KF:Hid (∀w',Cp 97 #[.agg #[I fk,I fa,I fb,.string pR]] w' (Sg 20 w'))) :
  Cp 69 #[sX (sY b o) L cap,I ((j+1:Nat):Int)] w (CG (N1+N2+30) (max (if kk=1\/kk=2 then q1 else q1+1) q2) w):=by
 rcases hk with hk|hk
 ·rw[eD hk]
  by_cases hd:q1<q2
  ·rw[Nat.max_eq_right oM]
   rcases hk with rfl|rfl
   all_goals exact I8
  rw[Nat.max_eq_left oM];rcases hk with rfl|rfl
  all_goals exact I8
 rw[eB oM];by_cases hd:(q1:Int)+1<q2
 ·rw[Nat.max_eq_right oM]
  rcases hk with rfl|rfl
  all_goals exact I8
 rw[Nat.max_eq_left oM];rcases hk with rfl|rfl
 all_goals exact I8
def agj(c:List Sv)(B b o cap:Nat)(jy:c.length<=1048576)(fF:∀s∈c,Pl.fj s=b_)(hb:b<B):
  ∀n t m,Pl.nd c n=a_ (t,m)->n<=c.length->∀w:Wd,B<=w.1.size->(∀(i:Nat)(s:Sv),c[i]? = a_ s->∃an cn,jE B w b (o+i * 7) s an cn) ->
   Cp 69 #[sX (sY b o) c.length cap,I ((n:Int)-1)] w (CG (32768 * (n-m)) (nest t) w):=by
 intro n;induction n using Nat.strongRecOn with
 |_ n ih =>
  intro t m jh hn w hB hR
  cases n with
  |zero=>cases jh
  |succ i =>
   have hi:i<c.length:=hn;have⟨s,hs⟩:∃s,c[i]? = a_ s:=⟨c[i],fw hi⟩;have oN:=fF s (my hs);have⟨an,cn,eL⟩:=hR i s hs;rw[show (((i+1:Nat):Int)-1)=(i:Int) by omega];have apG:=jh;have LM:∀w',Bl w w'->∀(i:Nat)(s:Sv),c[i]? = a_ s->∃an cn,jE B w' b (o+i * 7) s an cn:=λw' h i s hi=>by
    have⟨an,cn,q⟩:=hR i s hi;exact⟨an,cn,q.eG hb (h.mono hB)⟩
   rw[Df c i s hs] at jh;rcases vt oN with hk|hk|hk|hk
   ·rw[eD Jn] at jh
    simp only[kh,kH] at jh;obtain⟨rfl,rfl⟩:=jh;rw[Iw];exact agk b o cap c.length i s an cn w hi jy hk oM (eL.up hB) (Gf oN hk).1 (Gf oN hk).2
   ·rw[eD Jn] at jh
    simp only[kh,kH] at jh;obtain⟨rfl,rfl⟩:=jh;have hz:(Pl.ba s.nm).size<=20:=GW (by
     unfold Pl.fj at oN;rw[eB oM,eD hk] at oN;simp only[fO,fQ] at oN;rw[oN.1.1];decide)
    obtain⟨c0,c1,c2,c3,c4,c5,c6,rD⟩:=eL;rw[hk] at c0;rw[Iw];generalize Pl.ba s.nm=nm,Pl.ba s.fn.nm=pR,s.fn.k=fk,s.fn.a=fa,s.fn.b=fb,s.eF.length=sn,c.length=L at *;go_enter func69,ntmps69;go_wp2;go_ret2
    exact⟨_,rfl,oM,gG⟩
   ·rw[eB Jn] at jh
    cases e1:Pl.nd c i with
    |none=>rw[e1] at jh;cases jh
    |some r1 =>
     obtain⟨t1,m1⟩:=r1;rw[e1] at jh;simp only[] at jh;rw[eD Jn] at jh;simp only[kh,kH] at jh;obtain⟨rfl,rfl⟩:=jh;obtain⟨c0,c1,c2,c3,c4,c5,c6,rD⟩:=eL;have K:=zH λw' h=>ih i (A6 _) t1 m1 e1 oM w' (jT hB (DC h)) (LM w' h);have KF:=zH (Vd s.fn.k s.fn.a s.fn.b s.fn.nm d_ ((aap oN).1 hk));have hm:=(xy e1).1;rw[hk] at c0;rw[show nest (.one s t1)=nest t1 from rfl];generalize Pl.ba s.nm=nm,Pl.ba s.fn.nm=pR,s.fn.k=fk,s.fn.a=fa,s.fn.b=fb,s.eF.length=sn,nest t1=q,c.length=L at *;go_enter func69,ntmps69;go_wp2_with fail;refine(K.o _ gG).mono ?_;rintro e' w2 ⟨r1,rfl,z1,hb2⟩;obtain⟨d2,f2,y2⟩:=(Bx.below (.eK rfl) hb2:Bx w2 w.1.size _ _).all;replace hb2:=zH (bv (w:=w) hb2);go_wp2_with fail;refine(KF.o _).mono ?_;rintro e' w4 ⟨r2,rfl,z2,fZ⟩;replace fZ:=zH (bv fZ hb2.o);have l1:¬(9223372036854775807<r2.size+1):=oM;have l2:¬(9223372036854775807<r2.size+1+r1.size):=oM;go_wp2;go_ret2
     exact⟨_,rfl,by simp[rV,tD];omega,fZ.o⟩
   rw[eB Jn] at jh
   cases e1:Pl.nd c i with
   |none=>rw[e1] at jh;cases jh
   |some r1 =>
    obtain⟨t1,m1⟩:=r1;rw[e1] at jh;simp only[] at jh;rw[eB Jn] at jh
    cases e2:Pl.nd c m1 with
    |none=>rw[e2] at jh;cases jh
    |some r2 =>
     obtain⟨t2,m2⟩:=r2;rw[e2] at jh;simp only[kh,kH] at jh;obtain⟨rfl,rfl⟩:=jh;obtain⟨j,rfl⟩:∃j,i=j+1:=⟨i-1,by have:=(xy e1).1;omega⟩;have gJ:=(xy e1).1;have fY:=(xy e2).1;obtain⟨s1,Em⟩:∃s1,c[j]? = a_ s1:=⟨c[j],fw oM⟩;have anP:=ahz Em e1;have hk1:=vt (fF s1 (my Em));have⟨an1,cn1,aoN⟩:=hR j s1 Em;have jx:(((j+1:Nat):Int)-1)=(j:Int):=oM;have K:=zH λw' h=>ih (j+1) (A6 _) t1 m1 e1 oM w' (jT hB (DC h)) (LM w' h);rw[jx] at K;have KS:=zH λw' h=>M7 c b o cap jy w' (λi s hi=>(LM w' h i s hi).choose_spec.choose_spec.k) (j+1) oM;rw[jx,show iZ c (j+1)=m1 by unfold iZ;rw[e1]] at KS;have:=agl b o cap c.length j m1 (nest t1) (nest t2) _ _ an s.eF.length cn s1.k s.fn.k s.fn.a s.fn.b (Pl.ba s.nm) (Pl.ba s.fn.nm) w hi jy oM oM oM (by have:=Xi e1;omega) (by have:=Xi e2;omega) oM (hk ▸ eL.k) eL.n eL.nm eL.fk eL.fa eL.fb eL.fn (λw' h=>(h.cell (p:=(Y b (o+j * 7))) (jL hb hB)).trans aoN.k) oM K (λw' h=>ih m1 oM t2 m2 e2 oM w' (jT hB (DC h)) (LM w' h)) KS (Vd s.fn.k s.fn.a s.fn.b s.fn.nm b_ ((aap oN).2 hk));refine this.mono λe w' ⟨r,h1,h2,h3⟩=>⟨r,?_,oM,h3⟩;rw[h1];show _=Ending.returned (.tuple #[.string r,I ((max (match sV t1 with | b_=>nest t1 | d_=>nest t1+1) (nest t2):Nat):Int)]);rw[anP];unfold Pl.ar;rcases hk1 with h|h|h|h <;> simp[h]
end
section
variable {l:lI}{k:Nat}{x:Int}
namespace Pl
def ot(x:Int):Bool:=decide (-3000000000<=x) && decide (x<=3000000000)
def pre(l:lI)(k:Nat):Bool:=(l.take k).all ot
def Wi(h:l[k]? = a_ x):pre l (k+1)=(pre l k && ot x):=by
 unfold pre;rw[pB,h,DL];simp
def Xa(h:l[k]? = a_ x)(hx:ot x=d_):k_ l=d_:=by
 have:l.all ot=d_:=by
  cases e:l.all ot with
  |false=>rfl
  |true =>
   have:=ga.1 e x (my h);rw[hx] at this;cases this
 show (l.all ot && _ && _)=d_;rw[this];rfl
def Xb(hk:k=l.length)(h:pre l k=b_):k_ l=(decide (1<=l.length) && decide (l.length<=1000)):=by
 have:l.all ot=b_:=by unfold pre at h;rw[hk,km] at h;exact h
 show (l.all ot && _ && _)=_;rw[this];rfl
def ZO(f:fS):decide (f=f0)=(decide (f.k=0) && decide (f.a=0) && decide (f.b=0) && decide (ba f.nm=⟨#[]⟩)):=by
 obtain⟨k,a,b,nm⟩:=f;rw[mz];have:ba nm=⟨#[]⟩ ↔ nm=[]:=by rw[xt];exact DE
 simp only[f0,fS.mk.injEq,fQ,fO,this];exact IU
end Pl
def xu(l:lJ):((Pl.ba l).toList == [])=decide (l=[]):=by
 rw[uz];show (l == [])=_
 cases l <;> simp
def ajw.ud(h:ρ:=by
 have K:Hid (∀w,Cp 46 #[.string (Pl.ba s.nm),.int .u8 119] w (rB (.bool (lN (Pl.ba s.nm) 119)) w)):=λw=>MV (Pl.ba s.nm) 119 w (by rw[xf];omega);have KF:Hid (∀(b:Bool) w,Cp 95 #[.agg #[I s.fn.k,I s.fn.a,I s.fn.b,.string (Pl.ba s.fn.nm)],.bool b] w (rB (.bool (Pl.jk s.fn b)) w)):=λb w=>adM s.fn.k s.fn.a s.fn.b (Pl.ba s.fn.nm) b w (by rw[xf];omega);have heq:=BI s.fn.k s.fn.a s.fn.b 0 0 0 (Pl.ba s.fn.nm) ⟨#[]⟩;rw[<- ZO] at heq;have tO:=xu s.nm;have HP:Hid (∀k x,s.eF[k]? = a_ x->pre s.eF (k+1)=(pre s.eF k && ot x)):=λk x=>Wi;have HQ:Hid (∀k x,s.eF[k]? = a_ x->ot x=d_->k_ s.eF=d_):=λk x=>Xa;have HA:Hid (∀k,k=s.eF.length->pre s.eF k=b_->k_ s.eF=(decide (1<=s.eF.length) && decide (s.eF.length<=1000))):=λk=>Xb;have HN:Hid (s.eF ≠ [] ↔ s.eF.length ≠ 0):=by show _ ↔ _;exact⟨λh e=>h (lP.1 e),λh e=>h (by rw[e];rfl)⟩
 have HI:Hid (∀k,k<s.eF.length->∃x,s.eF[k]? = a_ x):=λk hk=>⟨s.eF[k],fw hk⟩;have An:=zH hr;generalize Bt s=r at *;generalize lN (Pl.ba s.nm) 119=q at *;generalize Pl.ba s.nm=nm at *;generalize Pl.ba s.fn.nm=pR at *;generalize Td:decide (s.fn=Pl.f0)=f0 at *;generalize hn0:decide (s.nm=[])=n0 at *;have Hn0:=zH hn0;generalize s.fn.k=fk at *;generalize s.fn.a=fa at *;generalize s.fn.b=fb at *;generalize s.k=k at *;generalize hL:s.eF.length=L at *;have HL:=zH hL;by_cases k1:k=1
 ·subst k1
  have Fv:=zH (show r=(k_ s.eF && n0 && f0) by rw[HF.o,eD rfl]);go_enter func68,ntmps68;go_wp2;go_loop [3] (λv=>∃k:Nat,k<=L/\v=I k/\Hid (pre s.eF k=b_)) (λv=>L-(intOf v).toNat)
  case atStart=>exact⟨0,vZ _,rfl,rfl⟩
  obtain⟨j,hj,rfl,eL⟩:=hrel;by_cases eI:j<L
  ·have⟨x,hx⟩:=HI.o j eI
   have S:=zH (HP.o j x hx);have Q:=zH (HQ.o j x hx);obtain⟨b,off,hb,rfl,hc⟩:=An.o.resolve_left (λe=>HN.o.2 oM e);have alS:=hc j x hx;have vC:∀o,(w.alloc o).cell? (Y b (off+j))=a_ (I x):=λo=>((HB.o o).cell (p:=(Y b (off+j))) hb).trans alS;by_cases g1:x < -3000000000
   ·have HR:=zH (show r=d_ by rw[Fv.o,Q.o (by simp[ot];omega)];rfl)
    go_wp2;exact qP
   by_cases g2:x > 3000000000
   ·have HR:=zH (show r=d_ by rw[Fv.o,Q.o (by simp[ot];omega)];rfl)
    go_wp2;exact qP
   have HR:=zH (show pre s.eF (j+1)=b_ by rw[S.o,eL.o];simp[ot];omega);go_wp2;go_round
   case rel=>exact⟨j+1,oM,gN,HR.o⟩
   simp[intOf];omega
  obtain rfl:j=L:=oM;have HF:=zH (show r=(decide (1<=j) && decide (j<=1000) && n0 && f0) by rw[Fv.o,HA.o j rfl eL.o]);by_cases g1:1<=j
  ·by_cases g2:j<=1000
   ·cases n0
    ·have HR:=zH (show r=d_ by rw[HF.o];simp)
     go_wp2;exact qP
    have HR:=zH (show r=f0 by rw[HF.o];simp[g1,g2]);go_wp2;exact qP
   have HR:=zH (show r=d_ by rw[HF.o];simp[g2]);go_wp2;exact qP
  have HR:=zH (show r=d_ by rw[HF.o];simp[g1]);go_wp2;exact qP
 have f1:(k == 1)=d_:=by simp[k1]
 have HF:=zH (show r=if L ≠ 0 then d_ else if k=2 then q && f0 else n0 && (decide (k=3) || decide (k=4)) && Pl.jk s.fn (decide (k=4)) by
  rw[HF.o,eB k1];by_cases h:L=0
  ·rw[eB (λe=>HN.o.1 e h),eB (c:=L ≠ 0) (λe=>e h)]
  rw[eD (HN.o.2 h),eD h])
 by_cases h0:L=0
 ·subst h0
  have HF:=zH (show r=if k=2 then q && f0 else n0 && (decide (k=3) || decide (k=4)) && Pl.jk s.fn (decide (k=4)) by rw[HF.o,eB sI]);by_cases k2:k=2
  ·subst k2
   cases q
   ·have HR:=zH (show r=d_ by rw[HF.o];simp)
    go_enter func68,ntmps68;go_wp2_with (go_at_call 46;refine(K.o _).mono ?_;rintro e w' ⟨rfl,hb⟩)
    exact Qi
   have HR:=zH (show r=f0 by rw[HF.o];simp);have C:Hid (∀(o:Obj)(j:Nat) (v:Va) (w':Wd),Below (w.alloc o).1.size (w.alloc o) w'->(w.alloc o).cell? (Y w.1.size j)=a_ v->w'.cell? (Y w.1.size j)=a_ v):=λo j v w' hb h=>(hb.cell (p:=(Y w.1.size j)) sI).trans h;go_enter func68,ntmps68;go_wp2_with fail;refine(K.o _).k λw' hb=>?_;have c3:=C.o _ 3 _ _ hb J3;have c4:=C.o _ 4 _ _ hb J3;have c5:=C.o _ 5 _ _ hb J3;have c6:=C.o _ 6 _ _ hb J3;have pZ:=zH ((HB.o _).trans (hb.mono sI));go_wp2;go_ret
   exact kj HR.o pZ.o
  have f2:(k == 2)=d_:=by simp[k2]
  have HF:=zH (show r=(n0 && (decide (k=3) || decide (k=4)) && Pl.jk s.fn (decide (k=4))) by rw[HF.o,eB k2])
  cases n0
  ·have HR:=zH (show r=d_ by rw[HF.o];simp)
   go_enter func68,ntmps68;go_wp2;exact qP
  by_cases k3:k=3
  ·subst k3
   have HR:=zH (show r=Pl.jk s.fn d_ by rw[HF.o];simp);have KK:=zH (KF.o d_);exact YG
  have f3:(k == 3)=d_:=by simp[k3]
  by_cases k4:k=4
  ·subst k4
   have HR:=zH (show r=Pl.jk s.fn b_ by rw[HF.o];simp);have KK:=zH (KF.o b_);exact YG
  have f4:(k == 4)=d_:=by simp[k4]
  have HR:=zH (show r=d_ by rw[HF.o];simp[k3,k4]);go_enter func68,ntmps68;go_wp2;exact qP
 ·have kE:((L:Int) == 0)=d_:=by simp[h0]
  have HR:=zH (show r=d_ by rw[HF.o,eD h0]);go_enter func68,ntmps68;go_wp2;exact qP
 ):ρ:=h
def acm(s:Sv)(ao:oA)(cap:Nat)(w:Wd)(hr:j' w.1.size w ao s.eF)(hl:s.eF.length<=1048576)(hn1:s.nm.length<=1048576)(Sw:s.fn.nm.length<=1048576):
  Cp 68 #[.agg #[I s.k,sX ao s.eF.length cap,.string (Pl.ba s.nm),I s.fn.k,I s.fn.a,I s.fn.b,.string (Pl.ba s.fn.nm)]] w (rB (.bool (Bt s)) w):=by
 have HF:Hid (Bt s=if s.k=1 then k_ s.eF && decide (s.nm=[]) && decide (s.fn=Pl.f0) else if s.eF ≠ [] then d_ else if s.k=2 then lN (Pl.ba s.nm) 119 && decide (s.fn=Pl.f0) else decide (s.nm=[]) && (decide (s.k=3) || decide (s.k=4)) && Pl.jk s.fn (decide (s.k=4))):=by show _=_;rw[Xj];rfl
 open ajw in exact ug
end
section
variable {c:List Sv}{s:Sv}{k:Nat}
def WX{a b:bA}(h:a=b):Ending.returned (.string a)=rT (.string b):=by rw[h]
namespace Pl
structure Small(c:List Sv):Prop where
 sz:h_ c<=1048576
 nm:∀s∈c,s.nm.length<=1048576/\s.fn.nm.length<=1048576
def Small.len(h:Small c):c.length<=1048576:=by have:=AX c;have:=h.sz;omega
def Small.eF(h:Small c)(hs:s∈c):s.eF.length<=1048576:=by
 have h2:=h.sz;unfold h_ at h2;have:s.eF.length<=(c.map λs=>s.eF.length).sum:=by
  clear h h2;induction c with
  |nil=>cases hs
  |cons x c ih =>
   exact Ε
 omega
def ab5{n:Nat}(h:iZ c n=0):∃t,nd c n=a_ (t,0):=by
 unfold iZ at h
 cases e:nd c n with
 |none=>rw[e] at h;exact absurd h dC
 |some r =>
  obtain⟨t,m⟩:=r;rw[e] at h;simp only[] at h;obtain rfl:m=0:=oM;exact⟨t,rfl⟩
def aip(h:(c.take k).all fj=b_)(hk:k=c.length):∀s∈c,fj s=b_:=by
 rw[hk,km] at h;exact ga.1 h
def all_succ(h:c[k]? = a_ s):(c.take (k+1)).all fj=((c.take k).all fj && fj s):=by
 rw[pB,h,DL];simp
end Pl
def ami.uj(h:ρ:=by
 generalize s.k=kk,s.eF.length=sn at *
 cases hq:Pl.fj s
 ·rw[hq] at KK X
  have HR:=zH (X.o rfl);clear hq;go_wp2_with (go_at_call 68;refine KK.o.mono ?_;rintro e w2 ⟨rfl,hb2⟩)
  go_ret
  exact kj HR.o (je.o.trans (hb2.mono je.o.size))
 ·rw[hq] at KK A
  have HR:=zH (show (c.take (k+1)).all Pl.fj=b_ by rw[A.o,lV.o];rfl);clear hq;go_wp2_with (go_at_call 68;refine KK.o.mono ?_;rintro e w2 ⟨rfl,hb2⟩)
  go_roundw
  case rel=>exact⟨k+1,oM,gN,HR.o,je.o.trans (hb2.mono je.o.size)⟩
  simp[intOf];omega
 ):ρ:=h
def MW(c:List Sv)(ao:oA)(cap:Nat)(fJ:Small c)(w:Wd)(hR:gf w.1.size w ao c):
  Cp 45 #[sX ao c.length cap] w (rB (.bool (xB c)) w):=by
 have hlen:=fJ.len;rcases hR with rfl|⟨b,off,hb,rfl,hc⟩
 ·go_enter func45,ntmps45
  go_wp2;go_ret
  exact⟨rfl,jD _ _⟩
 by_cases h0:c=[]
 ·subst h0
  go_enter func45,ntmps45;go_wp2;go_ret
  exact⟨rfl,jD _ _⟩
 have zF:0<c.length:=List.length_pos_iff.2 h0;have K:Hid (Cp 67 #[sX (sY b off) c.length cap,I ((c.length:Int)-1)] w λe w'=>e=rT (I (iZ c c.length))/\w'=w):=M7 c b off cap hlen w (λi s hi=>(hc i s hi).choose_spec.choose_spec.k) c.length (jR _);by_cases eL:iZ c c.length=0
 rotate_left 1
 ·have HR:=zH (anF eL)
  have gu:(iZ c c.length != 0)=b_:=by simp[eL]
  clear hc eL h0 fJ;generalize xB c=r,iZ c c.length=z,c.length=L at *;go_enter func45,ntmps45;go_wp2_with (go_at_call 67;refine K.o.mono ?_;rintro e w' ⟨rfl,rfl⟩)
  go_ret
  exact kj HR.o (jD _ _)
 have⟨t,ht⟩:=ab5 eL;rw[eL] at K;have HC:Hid (∀i s,c[i]? = a_ s->∃an cn,jE w.1.size w b (off+i * 7) s an cn):=hc;have HG:Hid (∀i,i<c.length->∃s,c[i]? = a_ s/\s∈c):=λi hi=>⟨c[i],fw hi,lh hi⟩;have HX:Hid (∀s∈c,Pl.fj s=d_->xB c=d_):=λs hs h=>alh hs h;have HA:Hid (∀k s,c[k]? = a_ s->(c.take (k+1)).all Pl.fj=((c.take k).all Pl.fj && Pl.fj s)):=λk s=>all_succ;have HE:Hid (∀k,k=c.length->(c.take k).all Pl.fj=b_->∀s∈c,Pl.fj s=b_):=λk hk h=>aip h hk;have HY:Hid ((∀s∈c,Pl.fj s=b_)->xB c=decide (nest t<=40)):=σ ht;have HK:Hid (∀s∈c,∀(an:oA)(cn:Nat) (w':Wd),j' w'.1.size w' an s.eF->Cp 68 #[.agg #[I s.k,sX an s.eF.length cn,.string (Pl.ba s.nm),I s.fn.k,I s.fn.a,I s.fn.b,.string (Pl.ba s.fn.nm)]] w' λe w2=>e=rT (.bool (Pl.fj s))/\Bl w' w2):=λs hs an cn w' hr=>by
  rw[Ys];exact acm s an cn w' hr (fJ.eF hs) (fJ.nm s hs).1 (fJ.nm s hs).2
 have HT:Hid ((∀s∈c,Pl.fj s=b_)->∀w',Bl w w'->Cp 69 #[sX (sY b off) c.length cap,I ((c.length:Int)-1)] w' (CG (32768 * (c.length-0)) (nest t) w')):=λfF w' hw=>agj c w.1.size b off cap hlen fF hb c.length t 0 ht (jR _) w' hw.size (λi s hi=>by
  have⟨an,cn,h⟩:=hc i s hi;exact⟨an,cn,h.eG hb hw⟩)
 generalize nest t=q at *;clear hc ht eL h0 fJ;generalize xB c=r,hL:c.length=L at *;go_enter func45,ntmps45;go_wp2_with (go_at_call 67;refine K.o.mono ?_;rintro e w' ⟨rfl,rfl⟩)
 go_loopw [4] (λv wr=>∃k:Nat,k<=L/\v=I k/\Hid ((c.take k).all Pl.fj=b_)/\Hid (Bl w' wr)) (λv _=>L-(intOf v).toNat)
 case atStart=>exact⟨0,vZ _,rfl,rfl,jD _ _⟩
 obtain⟨k,hk,rfl,lV,je⟩:=hrel;by_cases eI:k<L
 ·have⟨s,hs,hm⟩:=HG.o k eI
  have⟨an,cn,eL⟩:=HC.o k s hs;have⟨c0,c1,c2,c3,c4,c5,c6,rD⟩:=eL.eG hb je.o;have A:=zH (HA.o k s hs);have X:=zH (HX.o s hm);have KK:=zH (HK.o s hm an cn wr (rD.up je.o.size));clear HC HG HX HA HE HY HK HT hs hm eL rD;open ami in exact uu
 obtain rfl:k=L:=oM;have HO:=zH (HE.o k rfl lV.o);have KK:=zH (HT.o HO.o wr je.o);have HR:=zH (HY.o HO.o);clear HC HG HX HA HE HY HK HT;go_wp2_with (go_at_call 69;refine KK.o.mono ?_;rintro e w2 ⟨tx,rfl,_,hb2⟩)
 go_ret
 exact kj (HR.o.trans (by rw[mz];simp only[fQ];omega)) (je.o.trans (hb2.mono je.o.size))
end
def Nn(c:List Sv)(ao:oA)(cap B:Nat)(hl:h_ c<=4611686018427387904)(w:Wd)(hR:gf B w ao c):
  Cp 66 #[sX ao c.length cap] w λe w'=>e=rT (I (h_ c:Nat))/\w'=w:=by
 rcases hR with rfl|⟨b,off,hb,rfl,hc⟩
 ·go_enter func66,ntmps66
  go_wp2;go_loop [3,4] (λu v=>v=I 0/\u=I 0) (λu v=>0)
  case atStart=>exact⟨rfl,rfl⟩
  obtain⟨rfl,rfl⟩:=hrel;go_wp2;go_ret
  exact⟨rfl,rfl⟩
 exact adL c b off cap hl w (λi s hi=>by
  have⟨an,cn,h⟩:=hc i s hi;exact⟨an,cn,h.n⟩)
namespace Pl
def fV(p:List Tv)(i:Nat):Nat:=((p.take i).map jX).sum
def Ni{p:List Tv}{i:Nat}{s:Tv}(h:p[i]? = a_ s):fV p (i+1)=fV p i+jX s:=by
 unfold fV;rw[pB,h];simp
def NT(p:List Tv)(i:Nat):fV p i<=fV p p.length:=by
 unfold fV;rw[km];have e:p=p.take i++p.drop i:=(vM i p).symm;have:=lQ (λl=>(l.map jX).sum) e;simp only[mP,Ib] at this;omega
def AQ(p:List Tv):oe p=p.length+fV p p.length:=by unfold oe fV;rw[km]
def gw(p:List Gv)(i:Nat):Nat:=((p.take i).map qE).sum
def No{p:List Gv}{i:Nat}{s:Gv}(h:p[i]? = a_ s):gw p (i+1)=gw p i+qE s:=by
 unfold gw;rw[pB,h];simp
def N_(p:List Gv)(i:Nat):gw p i<=gw p p.length:=by
 unfold gw;rw[km];have e:p=p.take i++p.drop i:=(vM i p).symm;have:=lQ (λl=>(l.map qE).sum) e;simp only[mP,Ib] at this;omega
def AO(s:Tv):jX s=h_ s.code+s.gs.length+gw s.gs s.gs.length:=by unfold jX gw;rw[km]
end Pl
def acn(p:List Pl.Tv)(ao:oA)(cap:Nat)(hl:oe p<=1048576)(w:Wd)(hR:jF w.1.size w ao p):
  Cp 44 #[sX ao p.length cap] w (rB (.bool (decide (oe p<=16000))) w):=by
 rcases hR with rfl|⟨b,off,hb,rfl,hc⟩
 ·go_enter func44,ntmps44
  go_wp2;go_loop [3,4] (λu v=>v=I 0/\u=I 0) (λu v=>0)
  case atStart=>exact⟨rfl,rfl⟩
  obtain⟨rfl,rfl⟩:=hrel;go_wp2;go_ret
  exact⟨rfl,jD _ _⟩
 have HS:Hid (∀k s,p[k]? = a_ s->fV p (k+1)=fV p k+jX s):=λk s=>Ni;have HM:Hid (∀k,fV p k<=fV p p.length):=NT p;have HG:Hid (∀k,k<p.length->∃s,p[k]? = a_ s):=λk hk=>⟨p[k],fw hk⟩;have HC:=zH hc;have E0:=zH (AQ p);rw[E0.o] at hl;rw[E0.o];generalize hL:p.length=L at *;have hL2:L<=1048576:=oM;go_enter func44,ntmps44;go_wp2;go_loopw [3,4] (λu v wr=>∃k:Nat,k<=L/\v=I k/\u=I (L+fV p k:Nat)/\Hid (Bl w wr)) (λ_ v _=>L-(intOf v).toNat)
 case atStart=>exact⟨0,vZ _,rfl,by simp[fV],jD _ _⟩
 rename Wd=>wo
 obtain⟨k,hk,rfl,rfl,je⟩:=hrel;by_cases eI:k<L
 rotate_left 1
 ·obtain rfl:k=L:=oM
  go_wp2;go_ret
  exact⟨iD (by rw[mz];simp only[fQ];omega),je.o⟩
 have⟨s,hs⟩:=HG.o k eI;have⟨a1,a2,c1,c2,fJ⟩:=HC.o k s hs;have N:=zH (HS.o k s hs);have M1:=HM.o (k+1);rw[N.o,AO] at M1;have fJ:=fJ.eG hb je.o;obtain⟨d0,d1,d2,d3,rc,rg⟩:=fJ;have MC:=zH (AO s);have K:Hid (∀m,Cp 66 #[sX a1 s.code.length c1] (wo.drewN m) λe w'=>e=rT (I (h_ s.code:Nat))/\w'=wo.drewN m):=λm=>Nn s.code a1 c1 w.1.size oM (wo.drewN m) (rc.eG (gx (jD _ _) m));have Fj:Hid (∀w',Below w.1.size wo w'->iG w.1.size w' a2 s.gs):=λw' h=>rg.eG h;have Fw:Hid (∀w',Below w.1.size wo w'->cL w' b (off+k * 4+3) (sX a2 s.gs.length c2)):=λw' h=>(h.cell (p:=(Y b (off+k * 4+3))) hb).trans d3;have Ft:Hid (∀j,j<s.gs.length->∃g,s.gs[j]? = a_ g):=λj hj=>⟨s.gs[j],fw hj⟩;have wQ:Hid (∀j g,s.gs[j]? = a_ g->gw s.gs (j+1)=gw s.gs j+qE g):=λj g=>No;have Fs:Hid (∀j,gw s.gs j<=gw s.gs s.gs.length):=N_ s.gs;have HNE:Hid (∀j,j<s.gs.length->s.gs ≠ []):=λj hj e=>by rw[e] at hj;cases hj
 have BR:Hid (∀m,Below w.1.size wo (wo.drewN m)):=λm=>gx (jD _ _) m;generalize h_ s.code=cs,s.code.length=cl,SK:s.gs.length=G at *;generalize zU:gw s.gs G=T at *;generalize fV p k=y at *;have Uq:=zH zU;go_wp2;go_quiet ((go_at_call 66;exact nA (K.o _)))
 go_wp2;go_loopw [3,5] (λu v wr=>∃j:Nat,j<=G/\v=I j/\u=I (L+y+cs+G+gw s.gs j:Nat)/\Hid (Below w.1.size wo wr)) (λ_ v _=>G-(intOf v).toNat)
 case atStart=>exact⟨0,vZ _,rfl,by simp[gw];omega,BR.o _⟩
 obtain⟨j,hj,rfl,rfl,mh⟩:=hrel;have e3:=Fw.o _ mh.o;by_cases yh:j<G
 rotate_left 1
 ·obtain rfl:j=G:=oM
  have HF:Hid (Bl w wr):=je.o.trans mh.o;have EY:Hid (L+fV p (k+1)=L+y+cs+j+gw s.gs j):=by show _=_;rw[N.o,MC.o,Uq.o];omega
  go_wp2;go_roundw
  case rel=>exact⟨k+1,oM,gN,by rw[EY.o],HF.o⟩
  simp[intOf];omega
 have⟨g,hg⟩:=Ft.o j yh;obtain⟨b2,o2,hb2,rfl,uX⟩:=(Fj.o _ mh.o).resolve_left (HNE.o j yh);have⟨t1,t2,u1,u2,Cm⟩:=uX j g hg;have NG:=zH (wQ.o j g hg);have MG:=Fs.o (j+1);rw[NG.o] at MG;obtain⟨g0,g1,r0,r1⟩:=Cm;have EG:qE g=h_ g.test+h_ g.eT:=rfl;rw[EG] at NG MG;have K1:Hid (∀m,Cp 66 #[sX t1 g.test.length u1] (wr.drewN m) λe w'=>e=rT (I (h_ g.test:Nat))/\w'=wr.drewN m):=λm=>Nn g.test t1 u1 w.1.size oM (wr.drewN m) (r0.eG (gx (jD _ _) m));have K2:Hid (∀m,Cp 66 #[sX t2 g.eT.length u2] (wr.drewN m) λe w'=>e=rT (I (h_ g.eT:Nat))/\w'=wr.drewN m):=λm=>Nn g.eT t2 u2 w.1.size oM (wr.drewN m) (r1.eG (gx (jD _ _) m));have BX:Hid (∀m,Below w.1.size wo (wr.drewN m)):=λm=>gx mh.o m;generalize h_ g.test=x1,h_ g.eT=x2,g.test.length=l1,g.eT.length=l2,gw s.gs j=z at *;go_wp2;go_quiet (first | (go_at_call 66;with_reducible exact nA (K1.o _)) | (go_at_call 66;with_reducible exact nA (K2.o _)))
 go_wp2;go_roundw
 case rel=>exact⟨j+1,oM,gN,by rw[NG.o];go_num,BX.o _⟩
 simp[intOf];omega
section
variable {w:Wd}{b k:Nat}{cs:aV}{t:TypeId}{l:lJ}{m:Mg}
structure Mt(w:Wd)(mb mo cp:Nat):Prop where
 g:w.cell? (Y 0 0)=a_ (sX (sY mb mo) 25 cp)
 b:mb<w.1.size
 z:1<w.1.size
 c:∀(k:Nat)(m:Mg),Pl.fX[k]? = a_ m->w.cell? (Y mb (mo+k * 5))=a_ (.string (Pl.ba m.t))/\w.cell? (Y mb (mo+k * 5+1))=a_ (I m.ok)/\w.cell? (Y mb (mo+k * 5+2))=a_ (I m.ow)/\w.cell? (Y mb (mo+k * 5+3))=a_ (I m.tk)/\w.cell? (Y mb (mo+k * 5+4))=a_ (I m.tw)
 ml:∃x,w.cell? (Y 1 0)=a_ (I x)
def Mt.eG{w':Wd}{mb mo cp:Nat}(h:Mt w mb mo cp)(hb:Bl w w'):Mt w' mb mo cp:=by
 obtain⟨h1,h2,h3,h4,x,h5⟩:=h;refine⟨(hb.cell (p:=(Y 0 0)) (show 0<w.1.size by omega)).trans h1,jL h2 hb.size,jL h3 hb.size,λk m hm=>?_,x,(hb.cell (p:=(Y 1 0)) h3).trans h5⟩;have⟨a,b,c,d,e⟩:=h4 k m hm;exact⟨(hb.cell (p:=(Y mb (mo+k * 5))) h2).trans a,(hb.cell (p:=(Y mb (mo+k * 5+1))) h2).trans b,(hb.cell (p:=(Y mb (mo+k * 5+2))) h2).trans c,(hb.cell (p:=(Y mb (mo+k * 5+3))) h2).trans d,(hb.cell (p:=(Y mb (mo+k * 5+4))) h2).trans e⟩
def VR(t:bA)(a b c d:Int)(w:Wd):
  Cp 200 #[.agg #[.string t,I a,I b,I c,I d]] w (rB (.agg #[I a,I b,I 0,.string ⟨#[]⟩,I c,I d,I 0,.string ⟨#[]⟩]) w):=by
 have HB:Hid (∀o o2,Bl w ((w.alloc o).alloc o2)):=λo o2=>((jD _ _).alloc (jR _) _).alloc sI _;go_enter func200,ntmps200;go_wp2;refine eJ (v:=.agg #[I a,I b,I 0,.string ⟨#[]⟩,I c,I d,I 0,.string ⟨#[]⟩]) (by simp[results,results200,go_sem]) rfl ⟨rfl,HB.o _ _⟩
def Vh(h:w.1[b]? = a_ (.cells cs t))(j:Nat):w.frozen? (Y b j)=d_:=by
 simp[World.frozen?,h]
def mn{f:Nat × Nat}(h:w.1[b]? = a_ (.cells cs t f))(j:Nat):w.cell? (Y b j)=cs[j]?:=by
 simp[World.cell?,h]
namespace Pl
def rowOf(l:lJ):Option Mg:=fX.find? (λm=>decide (m.t=l))
def aej(hk:fX[k]? = a_ m)(hb:∀x∈fX.take k,x.t ≠ l)(hm:m.t=l):rowOf l=a_ m:=by
 unfold rowOf;have eI:=(gQ.1 hk).1;have e:fX=fX.take k++m::fX.drop (k+1):=by
  exact ZD
 rw[e,List.find?_append];have:(fX.take k).find? (λm=>decide (m.t=l))=c_:=by
  rw[DF];intro x hx;simpa using hb x hx
 rw[this];simp[hm]
def adn(hb:∀x∈fX.take 25,x.t ≠ l):rowOf l=c_:=by
 unfold rowOf;rw[DF];intro x hx;have:fX.take 25=fX:=rfl;rw[this] at hb;simpa using hb x hx
def ad9(hk:fX[k]? = a_ m)(hb:∀x∈fX.take k,x.t ≠ l)(hm:m.t ≠ l):∀x∈fX.take (k+1),x.t ≠ l:=by
 exact ZH
def Wl(k:Nat)(h:k<25):∃m,fX[k]? = a_ m:=⟨fX[k]'h,fw (show k<fX.length from h)⟩
end Pl
def aio(l:lJ)(s:bA):((Pl.ba l).toList == s.toList)=decide (l=s.data.toList):=by
 rw[zi,mz];simp only[fQ];rw[xt];exact DE
def D8(l:lJ):Va:=match rowOf l with
 |some m=>.agg #[I m.ok,I m.ow,I 0,.string ⟨#[]⟩,I m.tk,I m.tw,I 0,.string ⟨#[]⟩]
 |none=>.agg #[I 0,I 0,I 0,.string ⟨#[]⟩,I 0,I 0,I 0,.string ⟨#[]⟩]
def VS(h:rowOf l=a_ m):D8 l=.agg #[I m.ok,I m.ow,I 0,.string ⟨#[]⟩,I m.tk,I m.tw,I 0,.string ⟨#[]⟩]:=by unfold D8;rw[h]
def VT(h:rowOf l=c_):D8 l=.agg #[I 0,I 0,I 0,.string ⟨#[]⟩,I 0,I 0,I 0,.string ⟨#[]⟩]:=by unfold D8;rw[h]
def amR.μ(h:ρ:=by
 go_enter func179,ntmps179;go_wp2_with fail;rw[Mo.o];go_loopw [7] (λv wr=>∃k:Nat,k<=25/\v=I k/\Hid (∀x∈Pl.fX.take k,x.t ≠ s.data.toList)/\Hid (Below (w.1.size+1) W0 wr)) (λv _=>25-(intOf v).toNat)
 case atStart=>exact⟨0,oM,rfl,λx hx=>by simp at hx,HR0⟩
 case round =>
  obtain⟨k,hk,rfl,sr,mh⟩:=hrel;have j8:w.1.size+1<=wr.1.size:=by have:=mh.o.size;have:=kG.o;omega
  by_cases eI:k<25
  rotate_left 1
  ·obtain rfl:k=25:=oM
   have Uk:=zH (adn sr.o);have kx:wr.1[w.1.size]? = a_ (.cells #[I 0,I 0,I 0,.string ⟨#[]⟩,I 0,I 0,I 0,.string ⟨#[]⟩] 227):=(mh.o.block w.1.size (A6 _)).trans Mr.o;have fz:=Vh kx;have Aq:=zH (tZ.o.trans (mh.o.mono (DG _)));have z0:=mn kx 0;have z1:=mn kx 1;have z2:=mn kx 2;have z3:=mn kx 3;have z4:=mn kx 4;have z5:=mn kx 5;have z6:=mn kx 6;have z7:=mn kx 7;simp at z0 z1 z2 z3 z4 z5 z6 z7
   go_wp2;refine eJ (v:=.agg #[I 0,I 0,I 0,.string ⟨#[]⟩,I 0,I 0,I 0,.string ⟨#[]⟩]) (by simp[results,results179,go_sem,z0,z1,z2,z3,z4,z5,z6,z7]) rfl ⟨by rw[VT Uk.o],((((((((Aq.o.setCell sI _).setCell sI _).setCell sI _).setCell sI _).setCell sI _).setCell sI _).setCell sI _).setCell sI _)⟩
  have⟨m,hm⟩:=Wl k eI;have⟨c0,c1,c2,c3,c4⟩:=HC.o k m wr hm mh.o;have hq:=aio m.t s;by_cases he:m.t=s.data.toList
  rotate_left 1
  ·rw[fH he] at hq
   have Fo:=zH (ad9 hm sr.o he);generalize Pl.ba m.t=t at *;have tY:Hid (∀o,Below (w.1.size+1) W0 (wr.alloc o)):=λo=>mh.o.alloc j8 o;go_wp2;go_roundw
   case rel=>exact⟨k+1,oM,gN,Fo.o,tY.o _⟩
   simp[intOf];omega
  have Uk:=zH (aej hm sr.o he);rw[fM he] at hq;have K:=zH (VR (Pl.ba m.t) m.ok m.ow m.tk m.tw);generalize Pl.ba m.t=t at *;have tY:Hid (∀o w',Below (wr.alloc o).1.size (wr.alloc o) w'->w'.1[w.1.size]? = a_ (.cells #[I 0,I 0,I 0,.string ⟨#[]⟩,I 0,I 0,I 0,.string ⟨#[]⟩] 227)/\Below (w.1.size) w w'):=λo w' hb=>by
   have hb2:Below (w.1.size+1) W0 w':=(mh.o.alloc j8 o).trans (hb.mono J2);exact⟨(hb2.block w.1.size (A6 _)).trans Mr.o,tZ.o.trans (hb2.mono (DG _))⟩
  go_wp2_with fail;refine(K.o _).k λw2 hb2=>?_;have⟨kx,rz⟩:=tY.o _ _ hb2;have fz:=Vh kx;have Aq:=zH rz;have z0:=mn kx 0;have z1:=mn kx 1;have z2:=mn kx 2;have z3:=mn kx 3;have z4:=mn kx 4;have z5:=mn kx 5;have z6:=mn kx 6;have z7:=mn kx 7;simp at z0 z1 z2 z3 z4 z5 z6 z7
  go_wp2;refine eJ (v:=.agg #[I m.ok,I m.ow,I 0,.string ⟨#[]⟩,I m.tk,I m.tw,I 0,.string ⟨#[]⟩]) (by simp[results,results179,go_sem,z0,z1,z2,z3,z4,z5,z6,z7]) rfl ⟨by rw[VS Uk.o],((((((((Aq.o.setCell sI _).setCell sI _).setCell sI _).setCell sI _).setCell sI _).setCell sI _).setCell sI _).setCell sI _)⟩
 ):ρ:=h
def ac6(s:bA)(mb mo cp:Nat)(w:Wd)(hm:Mt w mb mo cp):
  Cp 179 #[.string s] w (rB (D8 s.data.toList) w):=by
 obtain⟨h1,h2,h3,h4,h5⟩:=hm;have HT:=zH h4;have⟨W0,nO⟩:∃W0,w.alloc (.cells #[I 0,I 0,I 0,.string ⟨#[]⟩,I 0,I 0,I 0,.string ⟨#[]⟩] 227)=W0:=⟨_,rfl⟩;have kG:Hid (W0.1.size=w.1.size+1):=by show _=_;rw[<- nO];simp
 have tZ:Hid (Bl w W0):=by show Below _ _ _;rw[<- nO];exact(jD _ _).alloc (jR _) _
 have Mr:Hid (W0.1[w.1.size]? = a_ (.cells #[I 0,I 0,I 0,.string ⟨#[]⟩,I 0,I 0,I 0,.string ⟨#[]⟩] 227)):=by show _=_;rw[<- nO];exact PO w _
 open amR in exact aak
end
def aas(a b c d:Int)(w:Wd):(Op.equalIn 10000 227 (.agg #[I a,I b,I 0,.string ⟨#[]⟩,I c,I d,I 0,.string ⟨#[]⟩]) (.agg #[I 0,I 0,I 0,.string ⟨#[]⟩,I 0,I 0,I 0,.string ⟨#[]⟩])).run prog w=.ok (decide (a=0) && decide (b=0) && decide (c=0) && decide (d=0)) w:=by
 have u3:=underlying3;have a3:=isAgg3;have z3:=sizeOf3;have u9:=underlying9;have a9:=isAgg9;have z9:=sizeOf9;have a78:=isAgg116;have z78:=sizeOf116;have hS:prog.underlying 227=a_ (.struct (prog.fieldsOf 227)):=kF;have hp:prog.stoodInHeld 227=d_:=kF;have hS2:prog.underlying 116=a_ (.struct (prog.fieldsOf 116)):=kF;have hp2:prog.stoodInHeld 116=d_:=kF;have e2:∀(x y:Int)(w:Wd),(Op.equalIn 9999 116 (.agg #[I x,I y,I 0,.string ⟨#[]⟩]) (.agg #[I 0,I 0,I 0,.string ⟨#[]⟩])).run prog w=.ok (decide (x=0) && decide (y=0)) w:=by
  intro x y w;rw[show (9999:Nat)=9998+1 from rfl,P3 w 9998 116 _ _ hS2 hp2];simp only[Program.fieldsOf,underlying116];go_simp;by_cases h1:x=0 <;> by_cases h2:y=0 <;> simp[h1,h2]
 rw[show (10000:Nat)=9999+1 from rfl,P3 w 9999 227 _ _ hS hp];simp only[Program.fieldsOf,underlying227];clear hS2;go_simp;by_cases h1:a=0 <;> by_cases h2:b=0 <;> by_cases h3:c=0 <;> by_cases h4:d=0 <;> simp[h1,h2,h3,h4]
namespace Pl
def aek(l:lJ):(rowOf l).isSome=fX.any (λm=>decide (m.t=l)):=by
 unfold rowOf;rw[mz,List.find?_isSome,Bh]
def alw{l:lJ}{m:Mg}(h:rowOf l=a_ m):(decide (m.ok=0) && decide (m.ow=0) && decide (m.tk=0) && decide (m.tw=0))=d_:=by
 have hm:=Z5 h;have:∀m∈fX,(decide (m.ok=0) && decide (m.ow=0) && decide (m.tk=0) && decide (m.tw=0))=d_:=dC;exact this m hm
end Pl
def abw(s:bA)(mb mo cp:Nat)(w:Wd)(hm:Mt w mb mo cp):
  Cp 150 #[.string s] w (rB (.bool (Pl.fX.any (λm=>decide (m.t=s.data.toList)))) w):=by
 have K:=zH (ac6 s mb mo cp w hm);rw[<- aek]
 cases h:rowOf s.data.toList with
 |none =>
  rw[VT h] at K;have heq:=aas 0 0 0 0;exact ZF
 |some m =>
  rw[VS h] at K;have heq:=aas m.ok m.ow m.tk m.tw;rw[alw h] at heq;exact ZF
def MU(s:bA)(mb mo cp:Nat)(w:Wd)(hm:Mt w mb mo cp)(hl:s.size<=9223372036854775807):
  Cp 114 #[.string s] w (rB (I (Pl.wk s.data.toList)) w):=by
 by_cases h0:s.size=0
 ·have hq:(s.toList == [])=b_:=by rw[H8];exact fM h0
  have HR:Hid (Pl.wk s.data.toList=0):=by
   show _=_;rw[sP] at h0;rw[Z6 h0];rfl
  clear h0;generalize Pl.wk s.data.toList=r at *;go_enter func114,ntmps114;go_wp2;exact xz
 have hq:(s.toList == [])=d_:=by rw[H8];exact fH h0
 have Lu:∀w,(Instr.index 9 (.string s) (I 0)).run prog w=.ok (.int .u8 (Pl.bt s 0)) w:=Dg s 0 oM;have HW:=zH (aoa s h0);have K:Hid (∀w,Cp 147 #[.int .u8 (Pl.bt s 0)] w λe w'=>e=rT (.bool (ku (Pl.bt s 0)))/\w'=w):=UI _;have K2:Hid (∀w,Cp 148 #[.string s,I 0] w λe w'=>e=rT (I (ij s (s.size-1) 1:Nat))/\w'=w):=λw=>abm s 0 w oM hl;have K3:Hid (∀w,Cp 149 #[.int .u8 (Pl.bt s 0)] w λe w'=>e=rT (.bool (decide (65<=Pl.bt s 0/\Pl.bt s 0<=90)))/\w'=w):=UE _;have K4:=zH (abw s mb mo cp w hm);clear hm;generalize Pl.wk s.data.toList=r,Pl.fX.any (λm=>decide (m.t=s.data.toList))=q,ij s (s.size-1) 1=z,v_:decide (65<=Pl.bt s 0/\Pl.bt s 0<=90)=cx at *;have Mw:=zH v_;clear v_;generalize Pl.bt s 0=x at *;generalize hlx:ku x=lx at *;clear hlx;have Hs:Hid (∀n,s.size=n->s.size=n):=λ_ h=>h;generalize hn:s.size=n at *;by_cases g1:(20:Int)<n
 ·have HR:=zH (show r=0 by rw[HW.o,eD oM])
  go_enter func114,ntmps114;go_wp2;exact xz
 have Uh:=zH (show r=if lx=d_ then 0 else if z<n then 0 else if s=⟨#[115,101,108,102]⟩\/(65<=x/\x<=90) then 3 else if q=b_ then 4 else 2 by rw[HW.o,eB oM]);clear HW
 cases lx
 ·have HR:=zH (show r=0 by rw[Uh.o,eD rfl])
  go_enter func114,ntmps114;go_wp2_with (first | (go_at_call 147;refine(K.o _).mono ?_;rintro e w' ⟨rfl,rfl⟩))
  exact xz
 have Ff:=zH (show r=if z<n then 0 else if s=⟨#[115,101,108,102]⟩\/(65<=x/\x<=90) then 3 else if q=b_ then 4 else 2 by rw[Uh.o,eB dC]);clear Uh;by_cases g2:(z:Int)<n
 ·have HR:=zH (show r=0 by rw[Ff.o,eD oM])
  exact Zc
 have vh:=zH (show r=if s=⟨#[115,101,108,102]⟩\/(65<=x/\x<=90) then 3 else if q=b_ then 4 else 2 by rw[Ff.o,eB oM]);clear Ff;by_cases g3:s=⟨#[115,101,108,102]⟩
 ·have HR:=zH (show r=3 by rw[vh.o,eD (.inl g3)])
  have Ll:(s.toList == [115,101,108,102])=b_:=by rw[<- FW,zi];exact fM g3
  clear g3;exact Zc
 have Ll:(s.toList == [115,101,108,102])=d_:=by rw[<- FW,zi];exact fH g3
 cases cx
 ·have zP:=of_decide_eq_false Mw.o
  have wL:=zH (show r=if q=b_ then 4 else 2 by rw[vh.o,eB (by rintro (h | h);exact g3 h;exact zP h)]);clear g3 zP vh Mw
  cases q
  ·have HR:=zH (show r=2 by rw[wL.o];rfl)
   exact aab
  have HR:=zH (show r=4 by rw[wL.o];rfl);exact aab
 have hc:=rS Mw.o;have HR:=zH (show r=3 by rw[vh.o,eD (.inr hc)]);clear g3 hc Mw vh;go_enter func114,ntmps114;go_wp2_with (first | (go_at_call 147;refine(K.o _).mono ?_;rintro e w' ⟨rfl,rfl⟩) | (go_at_call 148;refine(K2.o _).mono ?_;rintro e w' ⟨rfl,rfl⟩) | (go_at_call 149;refine(K3.o _).mono ?_;rintro e w' ⟨rfl,rfl⟩))
 exact xz
namespace Pl
def ti(f:fS)(m:Mg):Bool:=decide (f=m.one) || decide (f=m.two)
def ahe{f:fS}{k:Nat}{m:Mg}(hk:fX[k]? = a_ m)(hb:∀x∈fX.take k,ti f x=d_)(hm:ti f m=b_):kA f=m.t:=by
 unfold kA;have eI:=(gQ.1 hk).1;have e:fX=fX.take k++m::fX.drop (k+1):=by
  exact ZD
 have:fX.find? (λm=>decide (f=m.one) || decide (f=m.two))=a_ m:=by
  rw[e,List.find?_append];have h0:(fX.take k).find? (λm=>decide (f=m.one) || decide (f=m.two))=c_:=by
   rw[DF];intro x hx;have:=hb x hx;unfold ti at this;rw[this];decide
  rw[h0];unfold ti at hm;simp[hm]
 rw[this]
def afF{f:fS}(hb:∀x∈fX.take 25,ti f x=d_):kA f=[]:=by
 have h0:fX.find? (λm=>decide (f=m.one) || decide (f=m.two))=c_:=by
  rw[DF];intro x hx;have:fX.take 25=fX:=rfl;rw[this] at hb;have:=hb x hx;unfold ti at this;rw[this];decide
 unfold kA;rw[h0]
def agq{f:fS}{k:Nat}{m:Mg}(hk:fX[k]? = a_ m)(hb:∀x∈fX.take k,ti f x=d_)(hm:ti f m=d_):∀x∈fX.take (k+1),ti f x=d_:=by
 exact ZH
def ahu(f:fS)(m:Mg):decide (f=m.one)=(decide (f.k=m.ok) && decide (f.a=m.ow) && decide (f.b=0) && decide (ba f.nm=⟨#[]⟩)):=by
 obtain⟨k,a,b,nm⟩:=f;rw[mz];have:ba nm=⟨#[]⟩ ↔ nm=[]:=by rw[xt];exact DE
 simp only[Mg.one,fS.mk.injEq,fQ,fO,this];exact IU
def ag2(f:fS)(m:Mg):decide (f=m.two)=(decide (f.k=m.tk) && decide (f.a=m.tw) && decide (f.b=0) && decide (ba f.nm=⟨#[]⟩)):=by
 obtain⟨k,a,b,nm⟩:=f;rw[mz];have:ba nm=⟨#[]⟩ ↔ nm=[]:=by rw[xt];exact DE
 simp only[Mg.two,fS.mk.injEq,fQ,fO,this];exact IU
end Pl
def amQ.μ(h:ρ:=by
 go_enter func198,ntmps198;go_wp2_with fail;rw[Mo.o];go_loopw [8] (λv wr=>∃k:Nat,k<=25/\v=I k/\Hid (∀x∈Pl.fX.take k,ti f x=d_)/\Hid (Below (w.1.size+1) W0 wr)) (λv _=>25-(intOf v).toNat)
 case atStart=>exact⟨0,oM,rfl,λx hx=>by simp at hx,HR0⟩
 case round =>
  obtain⟨k,hk,rfl,sr,mh⟩:=hrel;have j8:w.1.size+1<=wr.1.size:=by have:=mh.o.size;have:=kG.o;omega
  by_cases eI:k<25
  rotate_left 1
  ·obtain rfl:k=25:=oM
   have HN:=zH (wN.o sr.o);have Aq:=zH (tZ.o.trans (mh.o.mono (DG _)));go_wp2;go_ret
   exact⟨WX (by rw[HN.o];rfl),Aq.o⟩
  have⟨m,hm⟩:=Wl k eI;have⟨c0,c1,c2,c3,c4⟩:=HC.o k m wr hm mh.o;have K:=zH (VR (Pl.ba m.t) m.ok m.ow m.tk m.tw);have oB:=HE1.o m;have rm:=HE2.o m;have HIT:=zH (Uj.o k m hm sr.o);have apo:=zH (Fo.o k m hm sr.o);have HDF:Hid (ti f m=(decide (f=m.one) || decide (f=m.two))):=rfl;have tY:Hid (∀o w',Below (wr.alloc o).1.size (wr.alloc o) w'->w'.1[w.1.size]? = a_ (.cells #[I fk,I fa,I fb,.string nm] 116)/\Below (w.1.size+1) W0 w'/\wr.1.size<w'.1.size/\∀j v,(wr.alloc o).cell? (Y wr.1.size j)=a_ v->w'.cell? (Y wr.1.size j)=a_ v):=λo w' hb=>by
   have hb2:Below (w.1.size+1) W0 w':=(mh.o.alloc j8 o).trans (hb.mono J2);exact⟨(hb2.block w.1.size (A6 _)).trans Mr.o,hb2,jL sI hb.size,λj v h=>(hb.cell (p:=(Y wr.1.size j)) sI).trans h⟩
  generalize Sy:Pl.ba m.t=t at *;have HMT:=zH Sy;generalize decide (f=m.one)=d1,decide (f=m.two)=d2 at *;go_wp2_with fail;refine(K.o _).k λw2 hb2=>?_;have⟨kx,rz,By,oT⟩:=tY.o _ _ hb2;have y0:=oT 0 _ J3;have z0:=mn kx 0;have z1:=mn kx 1;have z2:=mn kx 2;have z3:=mn kx 3;simp at z0 z1 z2 z3
  have Aq:=zH rz;have y0':∀o,(w2.alloc o).cell? (Y wr.1.size 0)=a_ (.string t):=λo=>(((jD w2.1.size w2).alloc (jR _) o).cell (p:=(Y wr.1.size 0)) By).trans y0;have hws:w.1.size<w2.1.size:=oM;have AL:Hid (∀o j v,w2.cell? (Y w.1.size j)=a_ v->(w2.alloc o).cell? (Y w.1.size j)=a_ v):=λo j v h=>(((jD w2.1.size w2).alloc (jR _) o).cell (p:=(Y w.1.size j)) hws).trans h;have z0':=λo=>AL.o o 0 _ z0;have D7:=λo=>AL.o o 1 _ z1;have z2':=λo=>AL.o o 2 _ z2;have z3':=λo=>AL.o o 3 _ z3;have HBA:Hid (∀o,Below (w.1.size+1) W0 (w2.alloc o)):=λo=>Aq.o.alloc oM o
  cases d1
  ·cases d2
   ·have HN:=zH (apo.o (by rw[HDF.o];rfl))
    go_wp2;go_roundw
    case rel=>exact⟨k+1,oM,gN,HN.o,HBA.o _⟩
    simp[intOf];omega
   exact Y9
  exact Y9
 ):ρ:=h
def M9(f:fS)(mb mo cp:Nat)(w:Wd)(hm:Mt w mb mo cp):
  Cp 198 #[.agg #[I f.k,I f.a,I f.b,.string (Pl.ba f.nm)]] w (rB (.string (Pl.ba (kA f))) w):=by
 obtain⟨h1,h2,h3,h4,h5⟩:=hm;have HT:=zH h4;have Uj:=λk m=>@ahe f k m;have wN:=@afF f;have Fo:=λk m=>@agq f k m;have HE1:Hid (∀(m:Mg)(w:Wd),(Op.equalIn 10000 116 (.agg #[I f.k,I f.a,I f.b,.string (Pl.ba f.nm)]) (.agg #[I m.ok,I m.ow,I 0,.string ⟨#[]⟩])).run prog w=.ok (decide (f=m.one)) w):=λm w=>by rw[ahu];exact BI _ _ _ _ _ _ _ _ w
 have HE2:Hid (∀(m:Mg)(w:Wd),(Op.equalIn 10000 116 (.agg #[I f.k,I f.a,I f.b,.string (Pl.ba f.nm)]) (.agg #[I m.tk,I m.tw,I 0,.string ⟨#[]⟩])).run prog w=.ok (decide (f=m.two)) w):=λm w=>by rw[ag2];exact BI _ _ _ _ _ _ _ _ w
 have Uj:=zH Uj;have wN:=zH wN;have Fo:=zH Fo;generalize kA f=sg,Pl.ba f.nm=nm,f.k=fk,f.a=fa,f.b=fb at *;have⟨W0,nO⟩:∃W0,w.alloc (.cells #[I fk,I fa,I fb,.string nm] 116)=W0:=⟨_,rfl⟩;have kG:Hid (W0.1.size=w.1.size+1):=by show _=_;rw[<- nO];simp
 have tZ:Hid (Bl w W0):=by show Below _ _ _;rw[<- nO];exact(jD _ _).alloc (jR _) _
 have Mr:Hid (W0.1[w.1.size]? = a_ (.cells #[I fk,I fa,I fb,.string nm] 116)):=by show _=_;rw[<- nO];exact PO w _
 open amQ in exact aak
def FD(n:Int)(mb mo cp:Nat)(w:Wd)(hm:Mt w mb mo cp):
  Cp 197 #[I n] w (rB (.string (Pl.ba (i_ n))) w):=by
 have K:Hid (Cp 198 #[.agg #[I 5,I n,I 0,.string ⟨#[]⟩]] w (rB (.string (Pl.ba (i_ n))) w)):=M9 ⟨5,n,0,[]⟩ mb mo cp w hm;generalize Pl.ba (i_ n)=r at *;go_enter func197,ntmps197;go_wp2_with (go_at_call 198;refine K.o.mono ?_;rintro e w' ⟨rfl,hb⟩)
 go_ret
 exact⟨rfl,hb⟩
end Go.Proofs.YtiagfejlmafliaaGreatDoor
namespace Go.Proofs
open Go.Shelf Tryz
theorem kq{α:Type}{x:Option α}{a b:α}(h:x=some a)(k:a=b:=by kernel_rfl):x=some b:=k▸h
def Tryz.ack:Ren:=⟨fun | 171=>196 | 243=>227 | 246=>275 | 283=>293 | 284=>294 | 285=>295 | 286=>296 | 129=>304 | 317=>303 | 318=>305 | 319=>306 | 320=>307 | 337=>310 | 338=>311 | n=>n,fun | 3=>3 | 9=>9 | 2=>2 | 4=>4 | 171=>279 | 0=>0 | 53=>280 | 37=>114 | 5=>5 | 173=>283 | 212=>292 | 51=>286 | 20=>20 | 213=>293 | 46=>271 | 232=>298 | 233=>299 | n=>n,fun | 17=>4 | 18=>5 | 19=>6 | n=>n⟩
theorem Tryz.agd:LaysM.n171 prog ack:={
 mixed:=by kernel_rfl
 f129:=kq func304,f171:=kq func196,f243:=kq func227,f246:=kq func275,f283:=kq func293,f284:=kq func294,f285:=kq func295,f286:=kq func296,f317:=kq func303,f318:=kq func305,f319:=kq func306,f320:=kq func307,f337:=kq func310,f338:=kq func311,t0:=underlying0,a0:=isAgg0,z0:=sizeOf0,v0:=zeroValue0,t2:=underlying2,a2:=isAgg2,z2:=sizeOf2,v2:=zeroValue2,t3:=underlying3,a3:=isAgg3,z3:=sizeOf3,v3:=zeroValue3,t4:=underlying4,a4:=isAgg4,z4:=sizeOf4,v4:=zeroValue4,t5:=underlying5,a5:=isAgg5,z5:=sizeOf5,v5:=zeroValue5,t9:=underlying9,a9:=isAgg9,z9:=sizeOf9,v9:=zeroValue9,t20:=underlying20,a20:=isAgg20,z20:=sizeOf20,v20:=zeroValue20,t37:=underlying114,a37:=isAgg114,z37:=sizeOf114,v37:=zeroValue114,t46:=underlying271,a46:=isAgg271,z46:=sizeOf271,v46:=zeroValue271,t51:=underlying286,a51:=isAgg286,z51:=sizeOf286,v51:=zeroValue286,t53:=underlying280,a53:=isAgg280,z53:=sizeOf280,v53:=zeroValue280,t171:=underlying279,a171:=isAgg279,z171:=sizeOf279,v171:=zeroValue279,t173:=underlying283,a173:=isAgg283,z173:=sizeOf283,v173:=zeroValue283,t212:=underlying292,a212:=isAgg292,z212:=sizeOf292,v212:=zeroValue292,t213:=underlying293,a213:=isAgg293,z213:=sizeOf293,t232:=underlying298,a232:=isAgg298,z232:=sizeOf298,v232:=zeroValue298,t233:=underlying299,a233:=isAgg299,z233:=sizeOf299,v233:=zeroValue299,g17:=by kernel_rfl,g18:=by kernel_rfl,g19:=by kernel_rfl,i0:=by kernel_rfl,i2:=by kernel_rfl,i3:=by kernel_rfl,i4:=by kernel_rfl,i5:=by kernel_rfl,i9:=by kernel_rfl,i20:=by kernel_rfl,i37:=by kernel_rfl,i46:=by kernel_rfl,i51:=by kernel_rfl,i53:=by kernel_rfl,i171:=by kernel_rfl,i173:=by kernel_rfl,i212:=by kernel_rfl,i232:=by kernel_rfl,i233:=by kernel_rfl,m17:=by kernel_rfl,m18:=by kernel_rfl,m19:=by kernel_rfl }
open Go.RowKit Go.Sort Go.Lib in
theorem Tryz.strconv_Itoa (n : Int) (h0 : -9223372036854775808 <= n) (h1 : n <= 9223372036854775807) (w : World) (aoL : Lib.TabIs prog w "internal/strconv.uint64pow10" .u64 Lib.pow10Tab) :
  Calls prog 196 #[.int .i64 n] w fun e w'=>e=.returned (.string ⟨(Lib.itoa n).toArray⟩)/\∃k os,w'=grow (w.drewN k) os:=Any.strconv_Itoa agd n h0 h1 w aoL
def Tryz.UU:Ren:=⟨fun | 154=>195 | 138=>223 | 165=>224 | 143=>225 | 166=>85 | 197=>226 | 169=>87 | 195=>270 | 218=>271 | 240=>115 | 241=>272 | 219=>273 | 260=>274 | 276=>151 | 277=>288 | 217=>289 | 225=>290 | 224=>291 | 267=>292 | 266=>301 | 314=>302 | n=>n,fun | 9=>9 | 3=>3 | 4=>4 | 72=>147 | 0=>0 | 76=>151 | 105=>252 | 21=>21 | 5=>5 | 70=>145 | 20=>20 | 37=>114 | 75=>150 | 127=>175 | 164=>199 | 46=>271 | 119=>275 | 139=>278 | 138=>277 | 146=>287 | 51=>286 | 80=>154 | n=>n,fun | 1=>1 | 3=>2 | 4=>3 | n=>n⟩
theorem Tryz.ahH:Go.Proofs.Lays.n154 prog UU:={
 mixed:=by kernel_rfl
 f138:=kq func223,f143:=kq func225,f154:=kq func195,f165:=kq func224,f166:=kq func85,f169:=kq func87,f195:=kq func270,f197:=kq func226,f217:=kq func289,f218:=kq func271,f219:=kq func273,f224:=kq func291,f225:=kq func290,f240:=kq func115,f241:=kq func272,f260:=kq func274,f266:=kq func301,f267:=kq func292,f276:=kq func151,f277:=kq func288,f314:=kq func302,t0:=underlying0,a0:=isAgg0,z0:=sizeOf0,v0:=zeroValue0,t3:=underlying3,a3:=isAgg3,z3:=sizeOf3,v3:=zeroValue3,t4:=underlying4,a4:=isAgg4,z4:=sizeOf4,v4:=zeroValue4,t5:=underlying5,a5:=isAgg5,z5:=sizeOf5,v5:=zeroValue5,t9:=underlying9,a9:=isAgg9,z9:=sizeOf9,v9:=zeroValue9,t20:=underlying20,a20:=isAgg20,z20:=sizeOf20,v20:=zeroValue20,t21:=underlying21,a21:=isAgg21,z21:=sizeOf21,v21:=zeroValue21,t37:=underlying114,a37:=isAgg114,z37:=sizeOf114,v37:=zeroValue114,t46:=underlying271,a46:=isAgg271,z46:=sizeOf271,v46:=zeroValue271,t51:=underlying286,a51:=isAgg286,z51:=sizeOf286,v51:=zeroValue286,t70:=underlying145,a70:=isAgg145,z70:=sizeOf145,v70:=zeroValue145,t72:=underlying147,a72:=isAgg147,z72:=sizeOf147,v72:=zeroValue147,t75:=underlying150,a75:=isAgg150,z75:=sizeOf150,v75:=zeroValue150,t76:=underlying151,a76:=isAgg151,z76:=sizeOf151,v76:=zeroValue151,t105:=underlying252,a105:=isAgg252,z105:=sizeOf252,v105:=zeroValue252,t119:=underlying275,a119:=isAgg275,z119:=sizeOf275,t127:=underlying175,a127:=isAgg175,z127:=sizeOf175,v127:=zeroValue175,t138:=underlying277,a138:=isAgg277,z138:=sizeOf277,v138:=zeroValue277,t139:=underlying278,a139:=isAgg278,z139:=sizeOf278,v139:=zeroValue278,t146:=underlying287,a146:=isAgg287,z146:=sizeOf287,v146:=zeroValue287,t164:=underlying199,a164:=isAgg199,z164:=sizeOf199,v164:=zeroValue199,g1:=by kernel_rfl,g3:=by kernel_rfl,g4:=by kernel_rfl }
theorem Tryz.aba:Builder.Extra prog UU:={
 sizeBuilder:=by kernel_rfl
 liesBuilder:=by kernel_rfl
 t5:=underlying5,a5:=isAgg5,z5:=sizeOf5,v5:=zeroValue5
 infoByte:=by kernel_rfl
 cellsByte:=by kernel_rfl
 sizeByte:=by kernel_rfl
 neB5:=by decide }
open Go.RowKit Go.Sort Go.Lib in
theorem Tryz.strings_Replace (s Eb new:ByteArray) (n:Int) (m:Int) (w:World) (hs:s.size<4294967281) (hm:w.cell? ⟨1,0,none⟩=some (.int .i64 m)) (h1:1<=Eb.size) (hlen:s.size+Lib.countB s Eb * new.size<=140737488355328) :
  Calls prog 195 #[.string s,.string Eb,.string new,.int .i64 n] w fun e w' =>
   e=.returned (.string ⟨(Lib.replace s.data.toList Eb.data.toList new.data.toList n).toArray⟩)/\Below w.heap.size w w':=Any.strings_Replace ahH aba s Eb new n m w hs hm h1 hlen
end Go.Proofs
namespace Go.Proofs.YtiagfejlmafliaaGreatDoor
set_option linter.all false
open Go.Proofs.Tryz Pl
open Go.RowKit
set_option maxRecDepth 100000
set_option maxHeartbeats 16000000
open World renaming setCell->ez,alloc->ew
open List renaming range->eA,replicate->eE
open Option renaming some->a_,none->c_
open Bool renaming true->b_,false->d_
section
variable {w w':Wd}
abbrev E7 (w : World) : Prop := Lib.TabIs Tryz.prog w "internal/strconv.uint64pow10" .u64 Lib.pow10Tab
def E7.eG(h:E7 w)(hb:Bl w w'):E7 w':=Lib.tabBelow_of_tabIs h w' hb
structure Ev(w:Wd)(mb mo cp:Nat):Prop where
 mt:Mt w mb mo cp
 tb:E7 w
def Ev.eG{mb mo cp:Nat}(h:Ev w mb mo cp)(hb:Bl w w'):Ev w' mb mo cp:=⟨h.mt.eG hb,h.tb.eG hb⟩
def ago(x:Int)(h0:-9223372036854775808<=x)(h1:x<=9223372036854775807):(Lib.itoa x).length<=21:=by
 unfold Lib.itoa;split
 ·rw[fW,Lib.decDigits_length]
  have:=Lib.nDigits_le20 x.natAbs oM;omega
 rw[Lib.decDigits_length];have:=Lib.nDigits_le20 x.toNat oM;omega
def abf(x:Int)(mb mo cp:Nat)(w:Wd)(h0:-9223372036854775808<=x)(h1:x<=9223372036854775807)(he:Ev w mb mo cp):
  Cp 175 #[I x] w (rB (.string (Pl.ba (Pl.nt x))) w):=by
 have K1:Hid (Cp 196 #[I x] w (rB (.string ⟨(Lib.itoa x).toArray⟩) w)):=by
  refine(Tryz.strconv_Itoa x h0 h1 w he.tb).mono ?_;rintro e w' ⟨rfl,k,os,rfl⟩;exact⟨rfl,Lib.below_grow _ _ (jR _) _ _⟩
 have hlen:=ago x h0 h1;have K2:Hid (∀w',Bl w w'->Cp 195 #[.string ⟨(Lib.itoa x).toArray⟩,.string ⟨#[45]⟩,.string ⟨#[95]⟩,I 1] w' λe w2=>e=rT (.string (Pl.ba (Pl.nt x)))/\Bl w' w2):=λw' h=>by
  have⟨m,hm⟩:=(he.eG h).mt.ml;have hs:(⟨(Lib.itoa x).toArray⟩:bA).size=(Lib.itoa x).length:=by show (Lib.itoa x).toArray.size=_;simp
  have hc:Lib.countB ⟨(Lib.itoa x).toArray⟩ ⟨#[45]⟩<=1:=agF x;have hz:(⟨#[95]⟩:bA).size=1:=rfl;have:=Tryz.strings_Replace ⟨(Lib.itoa x).toArray⟩ ⟨#[45]⟩ ⟨#[95]⟩ 1 m w' (by rw[hs];omega) hm dC (by rw[hs,hz];omega);have e:Lib.replace (⟨(Lib.itoa x).toArray⟩:bA).data.toList (⟨#[45]⟩:bA).data.toList (⟨#[95]⟩:bA).data.toList 1=Pl.nt x:=alB x;rw[e] at this;exact this
 generalize (⟨(Lib.itoa x).toArray⟩:bA)=s at *;generalize Pl.ba (Pl.nt x)=r at *;go_enter func175,ntmps175;go_wp2_with fail;refine K1.o.k λw1 hb1=>?_;have H1:=zH hb1;go_wp2_with (go_at_call 195;refine(K2.o _ H1.o).mono ?_;rintro e w2 ⟨rfl,hb2⟩)
 go_ret
 exact⟨rfl,H1.o.trans (hb2.mono H1.o.size)⟩
end
variable {ρ:Prop}
section
def mj(w w':Wd):Prop:=w.1.size<=w'.1.size/\∀(b:Nat)(cs:Array Va) (t:TypeId),Bx w b cs t->t ≠ 9->Bx w' b cs t
def mj.trans{a b c:Wd}(h1:mj a b)(h2:mj b c):mj a c:=⟨jT h1.1 h2.1,λk cs t h ht=>h2.2 k cs t (h1.2 k cs t h ht) ht⟩
def mj.of{w w':Wd}(h:Bl w w'):mj w w':=⟨h.size,λb cs t hb _=>hb.below h⟩
def Ts(B:Nat)(w:Wd)(v:Va)(n:Nat):Prop:=∃xs:List ByteArray,xs.length=n/\(∀x∈xs,x.size<=30)/\w.ownsRow B 9 1 v n (xs.map Value.string)
def Rs(w:Wd)(u:Va)(m:Nat):Prop:=∃(ys:List ByteArray)(b c:Nat),ys.length=m/\(∀y∈ys,y.size<=30)/\u=.slice (a_ (Y b 0)) m c/\∀j y,ys[j]? = a_ y->w.cell? (Y b j)=a_ (.string y)
def TkP(B n:Nat)(w:Wd)(e:Ending)(w':Wd):Prop:=∃x m y,e=.returned (.slice x m y)/\m<=n/\Ts B w' (.slice x m y) m/\Below B w w'/\mj w w'
section
variable {B n m:Nat} {w w':Wd} {u v:Va}
def Ts.below(h:Ts B w v n)(hb:Bl w w'):Ts B w' v n:=by
 obtain⟨xs,hl,hx,h1,h⟩:=h;exact⟨xs,hl,hx,h1,h.imp id λ⟨g,cap,cur,e,h1,h2,h3⟩=>⟨g,cap,cur,e,h1,(hb.block g (uB.1 h2).1).trans h2,h3⟩⟩
def Rs.lit{b:Nat}(xs:List ByteArray)(hx:∀x∈xs,x.size<=30)(hb:b=w.1.size:=by simp):Rs (w.alloc (.cells (xs.map Value.string).toArray 9)) (.slice (a_ (Y b 0)) xs.length xs.length) xs.length:=⟨xs,_,_,rfl,hx,rfl,λj y hj=>by
 rw[hb,(Bx.new w _ 9).cf.1 j];simp[hj]⟩
def AM{ops:Array Oper}{rest:List Oper}{o:Oper}{a:Act}{Q:Exit->Act->Wd->Prop}(hg:o.guard=c_)(s x:Operand)
  (gO:o.op=Op.call { callee:=Callee.builtin Builtin.append,args:=#[s,x],argTypes:=#[55,55] }) (hs:a.eval s=v) (hx:a.eval x=u) (h:Ts B w v n) (hu:Rs w u m) (kU:n+m<=4000000000) (hB:B<=w.1.size)
  (hK:∀x' y' w',Ts B w' (.slice x' (n+m) y') (n+m)->Below B w w'->mj w w'->wpList prog ops Q rest (a.put o.dst (.slice x' (n+m) y')) w'):wpList prog ops Q (o::rest) a w:=by
 obtain⟨i0,hi,iC,gy,iS⟩:∃i,prog.info? 9=a_ i/\i.zero=a_ (.string ByteArray.empty)/\i.size=1/\i.bytes=16:=info_parts kF;obtain⟨bs,hl,hb,h⟩:=h;obtain⟨ys,b,cap,hm,hy,rfl,hc⟩:=hu;have⟨v',w',hr,ho,fR,_⟩:=PN (P:=prog) w B 55 o.type 9 i0 (.string ByteArray.empty) 1 16 kF hi iC gy iS rfl dC v n _ h (Y b 0) m cap (ys.map Value.string) (by simp[hm])
  (λj y hj=>by
   rw[vN,gY];rw[qo] at hj;obtain⟨t,ht,rfl⟩:=xG.1 hj;exact hc j t ht)
  (λy hy=>by obtain⟨z,_,rfl⟩:=mu.1 hy;rfl) J8 oM hB
 have O:Ts B w' v' (n+m):=⟨bs++ys,by simp[hl,hm],λx hx=>(zq.1 hx).elim (hb x) (hy x),by simpa using ho⟩;obtain⟨x',y',rfl⟩:∃x' y',v'=.slice x' (n+m) y':=by
  rcases ho.2 with ⟨e,h0⟩|⟨g,cp,cur,e,_⟩
  ·exact⟨c_,0,by rw[h0];exact e⟩
  exact⟨_,_,e⟩
 refine Bm hg λK tS=>?_;unfold Oper.wp;simp[execOp,gO,resolve,invoke,builtin,hs,hx,hr,Result.andThen]
 refine tS _ _ (hK _ _ w' O ((jD _ _).grown fR hB (λk hk=>(h.lt k hk).1)) ⟨fR.size,λb cs t hb ht=>(fR.block b hb.lt λe=>?_).trans hb⟩);rcases h.2 with ⟨rfl,_⟩|⟨g,cp,cur,rfl,_,kO,_⟩
 ·cases e
 obtain rfl:b=g:=qT e;unfold Bx at hb;rw[kO] at hb;injection hb with hb;injection hb with _ hb _;exact ht hb.symm
def IK{f:FuncId}{a:Array Va}{x:ByteArray}{N:Nat}(h:Cp f a w λe w'=>e=.returned (.string x)/\Bl w w')(hx:x.size<=N):Cp f a w (Sg N w):=h.mono λ_ _ q=>⟨x,q.1,hx,q.2⟩
end
def FkP(w:Wd)(e:Ending)(w':Wd):Prop:=∃x m y,e=.returned (.slice x m y)/\m<=3/\Rs w' (.slice x m y) m/\Below w.1.size w w'
def J'(h:ρ:=by
 go_enter func176,ntmps176;go_wp2_with fail;refine(KO.o _ gG).mono ?_;rintro e w2 ⟨s,rfl,hs,hb⟩;replace hb:=zH (bv (w:=w) hb);have hz:=hb.o.size;go_wp2;go_ret
 first
  |exact⟨_,1,_,rfl,oM,Rs.lit [s] J2,.alloc hb.o hz _⟩
  |exact⟨_,2,_,rfl,oM,Rs.lit [s,_] (by simp[tD];omega),.alloc hb.o hz _⟩
  |exact⟨_,2,_,rfl,oM,Rs.lit [_,s] (by simp[tD];omega),.alloc hb.o hz _⟩):ρ:=h
def Vi(f:fS)(mb mo cp:Nat)(w:Wd)(hm:Mt w mb mo cp)(hn:f.k=10->f.nm.length<=30):
  Cp 176 #[.agg #[I f.k,I f.a,I f.b,.string (Pl.ba f.nm)]] w (FkP w):=by
 have KS:=zH λw' h=>IK (M9 f mb mo cp w' (hm.eG h)) (NQ f);have KO:=zH λw' h=>IK (FD f.a mb mo cp w' (hm.eG h)) (NQ _);have Ml:=zH λw' h=>IK (FD f.b mb mo cp w' (hm.eG h)) (NQ _);rw[<- xf] at hn;generalize f.k=fk,f.a=fa,f.b=fb,Pl.ba f.nm=nm at *;by_cases k3:fk=3
 ·subst k3
  exact J'
 by_cases k4:fk=4
 ·subst k4
  exact J'
 by_cases k7:fk=7
 ·subst k7
  exact J'
 by_cases k8:fk=8
 ·subst k8
  go_enter func176,ntmps176;go_wp2;have hS:Bx (World.drew (ew w (.cells #[I 8,I fa,I fb,.string nm] 116))) w.1.size #[I 8,I fa,I fb,.string nm] 116/\Bl w (World.drew (ew w (.cells #[I 8,I fa,I fb,.string nm] 116))):=⟨Bx.new w _ _,gG⟩;refine Bi (S:=λW=>Bx W w.1.size #[I 8,I fa,I fb,.string nm] 116/\Bl w W) kF ?_;change wpAnyH _ _ _ _ _ _ _ _ (World.drew _);generalize World.drew _=wd at hS ⊢;refine tk 0 (.pointer (a_ (Y w.1.size 1))) rfl hS (λ_ _=>kF) ?_;refine tk 1 (I fa) rfl hS (λW h=>by have:=h.1.cf.1 1;go_simp) ?_;refine tk 3 (.pointer (a_ (Y w.1.size 2))) rfl hS (λ_ _=>kF) ?_;refine tk 4 (I fb) rfl hS (λW h=>by have:=h.1.cf.1 2;go_simp) ?_;refine tc 2 _ _ rfl rfl kF ((KO.o _ hS.2).mono ?_);rintro e w1 ⟨s,rfl,hs,hb1⟩;have S1:=jA (hS.1.below hb1) (bv hb1 hS.2);refine .inl ⟨_,rfl,S1,tc 5 197 #[I fb] rfl rfl kF ((Ml.o _ S1.2).mono ?_)⟩;rintro e w2 ⟨s2,rfl,vV,hb2⟩;have S2:=jA (S1.1.below hb2) (bv hb2 S1.2);have hz:=S2.2.size;refine .inl ⟨_,rfl,S2,tv 6 (.slice (a_ (Y w2.1.size 0)) 3 3) (w2.alloc (.cells #[.string s,.string ⟨#[46]⟩,.string s2] 9)) rfl rfl kF ⟨S2.1.al _,.alloc S2.2 hz _⟩ (tk 7 (.slice (a_ (Y w2.1.size 0)) 3 3) rfl ⟨S2.1.al _,.alloc S2.2 hz _⟩ (λ_ _=>kF) (te ?_))⟩;go_simp;go_wp2;go_ret
  exact⟨_,3,_,rfl,oM,Rs.lit [s,_,s2] (by simp[tD];omega),.alloc S2.2 hz _⟩
 by_cases om:fk=10
 ·subst om
  have hz:=hn rfl;go_enter func176,ntmps176;go_wp2;go_ret
  exact⟨_,1,_,rfl,oM,Rs.lit [nm] J2,gG⟩
 have f3:(fk == 3)=d_:=by simp[k3]
 have f4:(fk == 4)=d_:=by simp[k4]
 have f7:(fk == 7)=d_:=by simp[k7]
 have f8:(fk == 8)=d_:=by simp[k8]
 have f10:(fk == 10)=d_:=by simp[om]
 replace KO:=KS;exact J'
end
def ahN(b n cap:Nat)(s:bA)(w:Wd)(hl:n<=1000000)(hc:Hid (∀j,j<n->∃t,w.cell? (Y b j)=a_ (.string t))):
  Cp 222 #[sX (sY b 0) n cap,.string s] w λe w'=>(∃z:Int,e=rT (I z))/\w'=w:=by
 go_enter func222,ntmps222;go_wp2;go_loop [8] (λv=>∃k:Nat,k<=n/\v=I k) (λv=>n-(intOf v).toNat)
 case atStart=>exact⟨0,vZ _,rfl⟩
 obtain⟨k,hk,rfl⟩:=hrel;by_cases eI:k<n
 ·have⟨t,ht⟩:=hc.o k eI
  cases hq:(s.toList == t.toList)
  ·go_wp2
   go_round
   case rel=>exact⟨k+1,oM,gN⟩
   simp[intOf];omega
  go_wp2;go_ret
  exact⟨⟨_,rfl⟩,rfl⟩
 obtain rfl:k=n:=oM;go_wp2;go_ret
 exact⟨⟨_,rfl⟩,rfl⟩
def Vm(b n cap:Nat)(s:bA)(w:Wd)(hl:n<=1000000)(hc:Hid (∀j,j<n->∃t,w.cell? (Y b j)=a_ (.string t))):
  Cp 194 #[sX (sY b 0) n cap,.string s] w λe w'=>(∃z:Bool,e=rT (.bool z))/\w'=w:=by
 have K:=zH (ahN b n cap s w hl hc);go_enter func194,ntmps194;go_wp2_with fail;refine K.o.mono ?_;rintro e w' ⟨⟨z,rfl⟩,rfl⟩;go_wp2;go_ret
 exact⟨⟨_,rfl⟩,rfl⟩
def lits{w:Wd}{b:Nat}(xs:List bA)(hb:b=w.1.size):Hid (∀j,j<xs.length->∃t,(w.alloc (.cells (xs.map Value.string).toArray 9)).cell? (Y b j)=a_ (.string t)):=λj hj=>⟨xs[j],by rw[hb,(Bx.new w _ 9).cf.1 j];simp[hj]⟩
def ac9(a c:bA)(w:Wd):Cp 174 #[.string a,.string c] w λe w'=>(∃z:Bool,e=rT (.bool z))/\Bl w w':=by
 go_enter func174,ntmps174;go_wp2_with fail;refine(Vm _ 3 _ a _ dC (lits [⟨#[40]⟩,⟨#[64]⟩,⟨#[46]⟩] rfl)).mono ?_;rintro e w1 ⟨⟨z,rfl⟩,rfl⟩
 cases z
 ·go_wp2_with fail
  refine(Vm _ 4 _ c _ dC (lits [⟨#[41]⟩,⟨#[47]⟩,⟨#[92]⟩,⟨#[46]⟩] sI)).mono ?_;rintro e w1 ⟨⟨z,rfl⟩,rfl⟩;go_wp2;go_ret
  exact⟨⟨_,rfl⟩,gG⟩
 go_wp2;go_ret
 exact⟨⟨_,rfl⟩,gG⟩
def Tryz.Yt:(prog.info? 147).map (·.size)=a_ 2:=kF
def Tryz.alN:liesAt prog prog.depth 147 (2 / prog.cellsOf 147) 0 147 1=b_:=kF
def Tryz.al2:prog.cellsOf 5=1:=kF
def Tryz.YA:(prog.info? 5).map (λi=>(i.zero,i.size,i.bytes))=a_ (a_ (.int .u8 0),1,1):=kF
def adZ(b:Nat)(w:Wd)(h0:w.cell? (Y b 0)=a_ (.pointer c_))(pL:w.shape? b=a_ (147,2))(LD:w.frozen? (Y b 0)=d_):
  Cp 115 #[pT b] w λe w'=>e=rT (.tuple #[])/\w'=w.setCell (Y b 0) (pT b):=by
 have⟨j,hj,SF⟩:=xG.1 Tryz.Yt;go_enter func115,ntmps115;go_wp2;rw[Lib.run_to_unsafe w (Y b 0) underlying145 underlying199 hj (by rw[SF];decide) pL (Nat.zero_lt_succ 1)];simp only[Result.andThen];rw[P7];go_wp2;rw[run_callFunc_extern func151 kF kF kF (e:=Extern.AbiNoEscape.same) kF];rw[Lib.run_noEscape];simp only[Result.andThen];rw[P7];go_wp2;rw[Lib.run_from_unsafe w (Y b 0) underlying199 underlying145 hj pL Tryz.alN];simp only[Result.andThen];rw[P7];go_wp2;go_end0
 exact⟨rfl,rfl⟩
def ae6(b:Nat)(w:Wd)(h0:w.cell? (Y b 0)=a_ (pT b)):
  Cp 115 #[pT b] w λe w'=>e=rT (.tuple #[])/\w'=w:=by
 have⟨j,hj,_⟩:=xG.1 Tryz.Yt;go_enter func115,ntmps115;go_wp2;rw[Lib.run_neq_ptr_same w _ underlying145 hj];go_wp2;go_end0
 exact⟨rfl,rfl⟩
def agG(B b:Nat)(bs:List Va)(w:Wd)(h:Lib.IsBuilderF 147 5 B b bs w):
  Cp 115 #[pT b] w λe w'=>e=rT (.tuple #[])/\(Lib.BuilderAtF 147 5 B b (pT b) bs w'/\Below B w w'/\Lib.OthersKept 5 (a_ b) w w'):=by
 rcases h with h|h
 ·refine(adZ b w h.cell0 h.shape h.frozen0).mono ?_
  rintro e w' ⟨rfl,rfl⟩;exact⟨rfl,h.used _,(jD B w).setCell (p:=(Y b 0)) h.1 _,(Lib.OthersKept.refl _ _ w).setCell (Y b 0) rfl _⟩
 refine(ae6 b w h.cell0).mono ?_;rintro e w' ⟨rfl,rfl⟩;exact⟨rfl,h,jD B _,Lib.OthersKept.refl _ _ _⟩
def akJ.θ(h:ρ:=by
 go_ret
 refine⟨rfl,?_,?_,?_⟩
 ·exact Lib.BuilderAtF.put (T:=147) (e:=5) hB hb2 (bs':=bs++[.int .u8 c]) (by simpa using IM) dC
 ·exact((hb1.alloc (by have:=hb1.size;omega) _).grown ph (by have:=hb1.size;simp;omega) (λk hk=>(lu.lt k hk).1)).setCell (p:=(Y b 1)) hB _
 ·exact((hk1.alloc _).grown ph (Lib.ownsRowF_kind (lu.alloc _))).setCell (Y b 1) rfl _
 ):ρ:=h
def ajj.Yg(h:ρ:=by
 go_wp2_with (at_builtin;refine wpList_append_ownF _ rfl _ _ 114 rfl B 5 i0 (.int .u8 0) 1 1 DO hi iC gy iS rfl dC _ _ _ rfl (lu.alloc _) (Y w1.1.size 0) 1 1 [.int .u8 c] rfl rfl ?c1 ?c2 ?c3 ?c4 ?c5 ?_)
 case c1 =>
  intro j u hj;match j,hj with
  |0,hj=>simp at hj;subst hj;simp[Addr.add]
 case c2=>intro u hu;simp at hu;subst hu;rfl
 case c3=>unfold maxLen;omega
 case c4=>omega
 case c5=>have:=hb1.size;simp;omega
 intro v' w2 IM ph _;have eI:b<w1.1.size:=by
  rcases P6 b w1.1.size with h'|h'
  ·exact h'
  simp[δ h'] at sA
 have hb2:w2.1[b]? = a_ (.cells #[pT b,v] 147 (0,0)):=by
  rw[ph.block b J2 (λe=>gu e.symm),Below.heap_alloc w1 _ b eI];exact sA
 open akJ in exact Φ
 ):ρ:=h
def abz(B b:Nat)(bs:List Va)(c:Int)(w:Wd)(h:Lib.IsBuilderF 147 5 B b bs w)(hlen:bs.length+1<=140737488355328)(wB:B<=w.1.size):
  Cp 86 #[pT b,.int .u8 c] w λe w'=>e=rT .nilIface/\(Lib.BuilderAtF 147 5 B b (pT b) (bs++[.int .u8 c]) w'/\Below B w w'/\Lib.OthersKept 5 (a_ b) w w'):=by
 obtain⟨i0,hi,iC,gy,iS⟩:=info_parts Tryz.YA;go_enter func86,ntmps86;open ajj in exact Za
def akK.θ(h:ρ:=by
 go_ret2
 refine⟨rfl,?_,?_,(hk1.grown ph (Lib.ownsRowF_kind lu)).setCell (Y b 1) rfl _⟩
 ·exact Lib.BuilderAtF.put (T:=147) (e:=5) hB hb2 (bs':=bs++Lib.strCells s) (by simpa[Lib.strCells_length] using IM) dC
 ·exact(hb1.grown ph (by have:=hb1.size;omega) (λk hk=>(lu.lt k hk).1)).setCell (p:=(Y b 1)) hB _
 ):ρ:=h
def ajk.Yg(h:ρ:=by
 go_wp2_with (at_builtin;refine Lib.wpList_append_own_stringF _ rfl _ _ 114 9 rfl B 5 i0 DO underlying9 hi iC gy iS _ _ _ rfl lu s rfl ?c3 ?c4 ?c5 ?_)
 case c3=>unfold maxLen;omega
 case c4=>omega
 case c5=>have:=hb1.size;omega
 intro v' w2 IM ph _;have eI:b<w1.1.size:=by
  rcases P6 b w1.1.size with h'|h'
  ·exact h'
  simp[δ h'] at sA
 have hb2:w2.1[b]? = a_ (.cells #[pT b,v] 147 (0,0)):=by
  rw[ph.block b eI (λe=>gu e.symm)];exact sA
 open akK in exact Φ
 ):ρ:=h
def abd(B b:Nat)(bs:List Va)(s:bA)(w:Wd)(h:Lib.IsBuilderF 147 5 B b bs w)(hlen:bs.length+s.size<=140737488355328)(wB:B<=w.1.size):
  Cp 85 #[pT b,.string s] w λe w'=>e=rT (.tuple #[I s.size,.nilIface])/\(Lib.BuilderAtF 147 5 B b (pT b) (bs++Lib.strCells s) w'/\Below B w w'/\Lib.OthersKept 5 (a_ b) w w'):=by
 obtain⟨i0,hi,iC,gy,iS⟩:=info_parts Tryz.YA;go_enter func85,ntmps85;open ajk in exact Za
def adh(B b:Nat)(l:lJ)(w:Wd)(h:Lib.IsBuilderF 147 5 B b (Lib.byteCells l) w)(h0:l ≠ []):
  Cp 87 #[pT b] w λe w'=>e=rT (.string ⟨l.toArray⟩)/\Below B w w':=by
 have⟨p,hp,LR⟩:∃p,(p=.pointer c_\/p=pT b)/\Lib.BuilderAtF 147 5 B b p (Lib.byteCells l) w:=by
  rcases h with h|h
  ·exact⟨_,.inl rfl,h⟩
  exact⟨_,.inr rfl,h⟩
 obtain⟨hB,v,sA,lu,gu⟩:=LR;have gK:l.length ≠ 0:=by simpa using h0
 rw[P5] at lu;obtain⟨g,cap,cur,fz,rfl,hbg,hg,LD,zP,hcm,j9,apu⟩:∃g cap cur fz,v=sX (sY g 0) l.length cap/\B<=g/\w.1[g]? = a_ (.cells cur 5 fz)/\fz.2<=l.length * 1/\l.length<=cap/\cap<=maxLen/\cur.size=cap * 1/\cur.toList.take (l.length * 1)=Lib.byteCells l:=by
  rcases lu.2 with ⟨_,hz⟩|⟨g,cap,cur,fz,hv,r⟩
  ·exact absurd hz gK
  exact⟨g,cap,cur,fz,hv,r⟩
 have c1:w.drew.cell? (Y b 1)=a_ (sX (sY g 0) l.length cap):=by
  have:w.drew.1[b]? = a_ (.cells #[p,sX (sY g 0) l.length cap] 147 (0,0)):=sA;rw[Bo this];rfl
 have hSD:(Builtin.unsafeSliceData_ #[114] 175 #[sX (sY g 0) l.length cap]).run prog w.drew=.ok (pT g) w.drew :=
  Z' _ _ _ _ _ _ oM
 have hUS:(Builtin.unsafeString_ #[175,3] 9 #[pT g,I l.length]).run prog w.drew=.ok (.string ⟨l.toArray⟩) (w.drew.freeze (Y g 0) l.length):=by
  refine Lib.run_unsafeString_row w.drew 175 3 9 5 underlying175 Tryz.al2 g cur.size (by have fR:w.drew.1[g]? = a_ (.cells cur 5 fz):=hg;simp[World.shape?,fR]) l h0 oM (by unfold maxLen at hcm;omega) ?_;intro j x hx;have:=lu.cells (g:=g) rfl j (.int .u8 x.toNat) (by simp[Lib.byteCells,hx]);exact this
 have BF:Hid (Below B w (w.drew.freeze (Y g 0) l.length)):=Lib.below_freeze (Below.drew (jD B w)) (p:=(Y g 0)) hbg _;have mixed:prog.follows .mixedOrders=b_:=kF;go_enter func87,ntmps87;go_wp2;go_region_o
 all_goals (go_wp2;go_ret;exact⟨rfl,BF.o⟩)
section
def oX(B b n:Nat)(w:Wd):Prop:=∃l:List UInt8,l.length=n/\Lib.IsBuilderF 147 5 B b (Lib.byteCells l) w
section
variable {B b n:Nat} {w w':Wd}
def oX.eG(h:oX B b n w)(hb:Bl w w'):oX B b n w':=by
 obtain⟨l,hl,h⟩:=h;have key:∀p,Lib.BuilderAtF 147 5 B b p (Lib.byteCells l) w->Lib.BuilderAtF 147 5 B b p (Lib.byteCells l) w':=λp hp=>by
  have eI:=hp.lt;obtain⟨hB,v,sA,lu,gu⟩:=hp;refine⟨hB,v,(hb.block b eI).trans sA,lu.kept (row:=c_) ⟨hb.os,hb.tape,hb.output,hb.size,λb hb' _=>hb.block b hb'⟩ ?_,gu⟩
  cases v.ownBlock <;> simp
 exact⟨l,hl,h.imp (key _) (key _)⟩
def oX.new(w:Wd):oX w.1.size w.1.size 0 (w.alloc (.cells #[.pointer c_,nJ] 147)):=⟨[],rfl,Lib.IsBuilderF.of (Lib.fresh_isBuilder 147 5 w)⟩
def WR(c:UInt8){ci:Int}(hc:ci=c.toNat)(h:oX B b n w)(hl:n<=100000000000000)(hB:B<=w.1.size):
  Cp 86 #[pT b,.int .u8 ci] w λe w'=>e=.returned .nilIface/\oX B b (n+1) w'/\Below B w w':=by
 obtain⟨l,hn,h⟩:=h;refine(abz B b (Lib.byteCells l) ci w h (by rw[P5];omega) hB).mono ?_;rintro e w' ⟨rfl,h1,h2,_⟩;exact⟨rfl,⟨l++[c],by simp[hn],.inr (by simpa[Lib.byteCells,hc] using h1)⟩,h2⟩
def Oz(s:ByteArray)(h:oX B b n w)(hl:n+s.size<=100000000000000)(hB:B<=w.1.size):
  Cp 85 #[pT b,.string s] w λe w'=>e=.returned (.tuple #[I s.size,.nilIface])/\oX B b (n+s.size) w'/\Below B w w':=by
 obtain⟨l,hn,h⟩:=h;refine(abd B b (Lib.byteCells l) s w h (by rw[P5];omega) hB).mono ?_;rintro e w' ⟨rfl,h1,h2,_⟩;exact⟨rfl,⟨l++s.data.toList,by rw[hJ,hn,sP],.inr (by simpa[Lib.byteCells,Lib.strCells] using h1)⟩,h2⟩
def aln(x:Option Addr)(y:Nat)(h1:w.cell? (Y b 1)=a_ (.slice x 0 y))(hS:∃p w',(Builtin.unsafeSliceData_ #[114] 175 #[.slice x 0 y]).run prog w.drew=.ok (.pointer p) w'/\w'.cell? (Y b 1)=a_ (.slice x 0 y)/\Bl w w'):
  Cp 87 #[pT b] w λe w'=>(∃s:ByteArray,e=.returned (.string s)/\s.size<=0)/\Bl w w':=by
 have c1:w.drew.cell? (Y b 1)=a_ (.slice x 0 y):=h1;obtain⟨p,wz,hSD,c2,hb⟩:=hS;replace hb:=zH hb;have mixed:prog.follows .mixedOrders=b_:=kF;have hUS:∀w,(Builtin.unsafeString_ #[175,3] 9 #[.pointer p,I 0]).run prog w=.ok (.string .empty) w:=λw=>Lib.run_unsafeString_none ..;go_enter func87,ntmps87;go_wp2;go_region_o
 all_goals (go_wp2;go_ret;exact⟨⟨_,rfl,jR _⟩,hb.o⟩)
def OC(h:oX B b n w):Cp 87 #[pT b] w λe w'=>(∃s:ByteArray,e=.returned (.string s)/\s.size<=n)/\Below B w w':=by
 obtain⟨l,rfl,h⟩:=h;by_cases h0:l=[]
 rotate_left 1
 ·refine(adh B b l w h h0).mono λe w' q=>⟨⟨_,q.1,?_⟩,q.2⟩
  rw[sP];simp
 subst h0;have⟨p,LR⟩:∃p,Lib.BuilderAtF 147 5 B b p (Lib.byteCells []) w:=h.elim (λh=>⟨_,h⟩) λh=>⟨_,h⟩;have eI:=LR.lt;obtain⟨hB,v,sA,lu,gu⟩:=LR;have c1:w.cell? (Y b 1)=a_ v:=by rw[Bo sA];rfl
 have key:∃x y,v=.slice x 0 y/\∃p w',(Builtin.unsafeSliceData_ #[114] 175 #[.slice x 0 y]).run prog w.drew=.ok (.pointer p) w'/\Bl w w':=by
  rcases lu.2 with ⟨hv,_⟩|⟨g,cap,cur,fz,hv,_,hg,_⟩
  ·exact⟨_,_,hv,_,_,Lib.run_unsafeSliceData_nil ..,gG⟩
  by_cases hc:cap=0
  ·subst hc
   exact⟨_,_,hv,_,_,Lib.run_unsafeSliceData_zero _ _ _ 5 underlying175 _ _ (5,cur.size) (by have fR:w.drew.1[g]? = a_ (.cells cur 5 fz):=hg;simp[World.shape?,fR]),gG⟩
  exact⟨_,_,hv,_,_,Z' _ _ _ _ _ _ hc,gG⟩
 obtain⟨x,y,rfl,p,w',hr,hb⟩:=key;exact(aln x y c1 ⟨p,w',hr,(hb.cell (p:=(Y b 1)) eI).trans c1,hb⟩).mono λe w' q=>⟨q.1,q.2.mono oM⟩
end
end
def Ts.cells{B n y:Nat}{x:oA}{w:Wd}(h:Ts B w (sX x n y) n):∀j,j<n->∃g t,x=sY g 0/\t.size<=30/\∀w',Bl w w'->w'.cell? (Y g j)=a_ (.string t):=λj hj=>by
 obtain⟨xs,rfl,hx,h⟩:=h;rcases h.2 with ⟨_,h0⟩|⟨g,cp,cur,e,hr⟩
 ·omega
 injection e with e;subst e;have eI:=(h.lt g rfl).2;exact⟨g,xs[j],rfl,hx _ (lh hj),λw' hb=>(hb.cell (p:=(Y g j)) eI).trans (by rw[h.cellAt j (by simpa using hj)];simp[hj])⟩
def QN(h:ρ:=by
 go_wp2_with fail;refine(Oz t X.o oM z).mono ?_;rintro e w3 ⟨rfl,h1,h2⟩;have X3:=zH h1;have B3:=zH (BX.o.trans h2);clear h1 h2 X BX;go_wp2;go_roundw
 case rel=>exact⟨k+1,_,oM,gN,oM,X3,B3⟩
 simp[intOf];omega):ρ:=h
def afz(x:oA)(n cap:Nat)(w:Wd)(hl:n<=2000000000)(hc:Hid (∀j,j<n->∃g t,x=sY g 0/\t.size<=30/\∀w',Bl w w'->w'.cell? (Y g j)=a_ (.string t))):Cp 145 #[sX x n cap] w (Sg (31 * n) w):=by
 have T0:=zH (oX.new w);go_enter func145,ntmps145;go_wp2_with fail;go_loopw [8] (λiv wr=>∃k m:Nat,k<=n/\iv=I k/\m<=31 * k/\Hid (oX w.1.size w.1.size m wr)/\Hid (Bl w wr)) (λiv _=>n-(intOf iv).toNat)
 case atStart=>exact⟨0,0,vZ _,rfl,vZ _,T0,by show Below _ _ _;go_grown⟩
 obtain⟨k,m,hk,rfl,hm,X,BX⟩:=hrel;have z:=BX.o.size;by_cases eI:k<n
 rotate_left 1
 ·obtain rfl:k=n:=oM
  have K:=zH (OC X.o);clear hc;go_wp2_with fail;refine K.o.mono ?_;rintro e w' ⟨⟨s,rfl,hs⟩,hb⟩;replace hb:=zH (BX.o.trans hb);go_wp2;go_ret
  exact⟨_,rfl,oM,hb.o⟩
 obtain⟨g,t,rfl,ht,oT⟩:=hc.o k eI;have cx:=oT _ BX.o;clear oT;by_cases k0:k=0
 ·have t0:decide (0<k)=d_:=by rw[Bk];omega
  clear k0;exact QN
 have t0:0<k:=oM;have⟨g',t',e,ht',oT⟩:=hc.o (k-1) oM;injection e with e;injection e with e;subst e;have cp:=oT _ BX.o;have K:=zH (ac9 t' t wr);clear oT k0;go_wp2_with fail;refine K.o.mono ?_;rintro e w1 ⟨⟨zb,rfl⟩,hb⟩;replace X:=zH (X.o.eG hb);replace BX:=zH (bv hb BX.o);have z:=BX.o.size;clear hb K cx cp
 cases zb
 ·go_wp2_with fail
  refine(WR 32 rfl X.o oM z).mono ?_;rintro e w2 ⟨rfl,h1,h2⟩;replace X:=zH h1;replace BX:=zH (BX.o.trans h2);have z:=BX.o.size;clear h1 h2;exact QN
 exact QN
variable {y:Int}{c:List Sv}
namespace Pl
def iE(y:Int)(c:List Sv):Nat->Int
 |0=>y
 |k+1=>if 0<=iE y c k then iE y c k-((c.getD k ⟨0,[],[],f0⟩).eF.length:Nat) else iE y c k
def nG(x:Int)(c:List Sv):Int:=iE (x-c.length) c c.length
def agc{k:Nat}(h:iE y c k<0):∀d,iE y c (k+d)=iE y c k:=by
 intro d;induction d with
 |zero=>rfl
 |succ d ih =>
  show (if 0<=iE y c (k+d) then iE y c (k+d)-((c.getD (k+d) ⟨0,[],[],f0⟩).eF.length:Nat) else iE y c (k+d))=_;rw[ih,eB oM]
def Wp:∀k,k<=c.length->y-(ko c k:Nat)<=iE y c k/\(0<=y-(ko c k:Nat)->iE y c k=y-(ko c k:Nat))/\(y-(ko c k:Nat)<0->iE y c k<0\/(k=0))/\iE y c k<=y:=by
 intro k;induction k with
 |zero=>intro _;simp[iE,ko]
 |succ k ih =>
  intro hk;have eI:k<c.length:=hk;have⟨h1,h2,h3,h4⟩:=ih oM;have hs:=Vy (fw eI);have hd:c.getD k ⟨0,[],[],f0⟩=c[k]:=by rw[ig,fw eI];rfl
  unfold iE;rw[hd,hs];split
  ·rename_i h0
   refine⟨oM,λh=>?_,λh=>?_,oM⟩
   ·have:=h2 oM;omega
   left
   by_cases hp:0<=y-(ko c k:Nat)
   ·have:=h2 hp;omega
   rcases h3 oM with h|h
   ·omega
   subst h;have e:iE y c 0=y:=rfl;have e2:ko c 0=0:=rfl;omega
  rename_i h0
  refine⟨oM,λh=>?_,λh=>by left;omega,oM⟩;have:=h2 oM;omega
def NH{x:Int}{c:List Sv}:x-(h_ c:Nat)<=nG x c/\(0<=x-(h_ c:Nat)->nG x c=x-(h_ c:Nat))/\(x-(h_ c:Nat)<0->nG x c<0)/\nG x c<=x:=by
 have⟨h1,h2,h3,h4⟩:=Wp (y:=x-c.length) (c:=c) c.length (jR _);have e:=AX c;unfold nG;refine⟨oM,λh=>by have:=h2 oM;omega,λh=>?_,oM⟩;rcases h3 oM with h|h
 ·exact h
 have:iE (x-c.length) c c.length=x-c.length:=by rw[h];rfl
 have e2:ko c c.length=0:=by rw[h];rfl
 omega
end Pl
def MT(x:Int)(c:List Sv)(ao:oA)(cap B:Nat)(me:-1000000000<=x)(Ei:x<=1000000000)(hl:h_ c<=1048576)(w:Wd)(hR:gf B w ao c):
  Cp 111 #[I x,sX ao c.length cap] w λe w'=>e=rT (I (nG x c))/\w'=w:=by
 have HG:Hid (∀k,k<c.length->∃b off a cp,ao=sY b off/\cL w b (off+k * 7+1) (.slice a (c.getD k ⟨0,[],[],Pl.f0⟩).eF.length cp)):=λk hk=>by
  rcases hR with rfl|⟨b,off,hb,rfl,hc⟩
  ·cases hk
  have⟨an,cn,h⟩:=hc k c[k] (fw hk);refine⟨b,off,an,cn,rfl,?_⟩;have hd:c.getD k ⟨0,[],[],Pl.f0⟩=c[k]:=by rw[ig,fw hk];rfl
  rw[hd];exact h.n
 have HB:Hid (∀k,k<=c.length->-10000000000<=iE (x-c.length) c k/\iE (x-c.length) c k<=10000000000):=λk hk=>by
  have h:=Wp (y:=x-c.length) (c:=c) k hk;have h2:=Xh c k;have h3:=AX c;omega
 have HS:Hid (∀k,iE (x-c.length) c k<0->k<=c.length->nG x c=iE (x-c.length) c k):=λk h hk=>by
  have:=agc h (c.length-k);rw[show k+(c.length-k)=c.length by omega] at this;exact this
 have HN:Hid (∀k,0<=iE (x-c.length) c k->iE (x-c.length) c (k+1)=iE (x-c.length) c k-((c.getD k ⟨0,[],[],Pl.f0⟩).eF.length:Nat)):=λk h=>by
  show (if 0<=iE (x-c.length) c k then _ else _)=_;rw[eD h]
 have HE:Hid (nG x c=iE (x-c.length) c c.length):=rfl;have H0:Hid (iE (x-c.length) c 0=x-c.length):=rfl;have hln:c.length<=1048576:=by have:=AX c;omega
 generalize nG x c=r,hL:c.length=L at *;go_enter func111,ntmps111;go_wp2;go_loop [0,5] (λu v=>∃k:Nat,k<=L/\v=I k/\u=I (iE (x-L) c k)) (λu v=>L-(intOf v).toNat)
 case atStart=>exact⟨0,vZ _,rfl,by rw[H0.o]⟩
 obtain⟨k,hk,rfl,rfl⟩:=hrel;have⟨b1,b2⟩:=HB.o k hk;by_cases eI:k<L
 rotate_left 1
 ·obtain rfl:k=L:=oM
  go_wp2;go_ret
  exact⟨jq HE.o.symm,rfl⟩
 by_cases h0:0<=iE (x-L) c k
 ·obtain⟨b,off,a,cp,rfl,vC⟩:=HG.o k eI
  have N:=zH (HN.o k h0);have bb:=HB.o (k+1) oM;rw[N.o] at bb;generalize (c.getD k ⟨0,[],[],Pl.f0⟩).eF.length=q,iE (x-L) c k=y at *;go_wp2;go_round
  case rel=>exact⟨k+1,oM,gN,by rw[N.o]⟩
  simp[intOf];omega
 have HR:=zH (HS.o k oM hk);generalize iE (x-L) c k=y at *;go_wp2;go_ret
 exact⟨jq HR.o.symm,rfl⟩
end Go.Proofs.YtiagfejlmafliaaGreatDoor
