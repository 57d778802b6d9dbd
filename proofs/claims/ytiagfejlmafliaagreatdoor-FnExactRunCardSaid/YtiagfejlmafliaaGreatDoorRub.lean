import Derived.Test.YtiagfejlmafliaaGreatDoorNdv
import Derived.ProofKit
import Derived.OpenShut
import Derived.ChangeOld
import Derived.Lib.SmallJoins
import Derived.Deep.SlicePairs
import Derived.Test.YtiagfejlmafliaaGreatDoorRl
namespace Go.Proofs.YtiagfejlmafliaaGreatDoor
set_option linter.all false
open Go.Proofs.Tryz Pl
set_option maxHeartbeats 16000000
open World renaming setCell->ez,alloc->ew
open List renaming range->eA,replicate->eE
open Option renaming some->a_,none->c_
open Bool renaming true->b_,false->d_
section
variable {s:Tv}{p:List Tv}
namespace Pl
def GY{α:Type}{f g:α->Nat}:∀(c:List α),(∀x∈c,f x<=g x)->(c.map f).sum<=(c.map g).sum
 |[],_=>jR _
 |x::c,h=>by
  rw[oH,oH,yZ,yZ];have:=h x sI;have:=GY c (λy hy=>h y (by simp[hy]));omega
def Dl{α:Type}{f:α->Nat}{x:α}:∀{c:List α},x∈c->f x<=(c.map f).sum
 |y::c,h=>by
  rw[oH,yZ];rcases qR.1 h with rfl|h
  ·omega
  have:=Dl (f:=f) h;omega
def Hx(c:List Sv):h_ c<=wC c:=by
 unfold h_ wC;have:=GY (f:=λs:Sv=>s.eF.length) (g:=iK) c (λx _=>by unfold iK;omega);omega
def alT(g:Gv):qE g<=wG g:=by
 unfold qE wG;have:=Hx g.test;have:=Hx g.eT;omega
def alq(s:Tv):jX s<=wT s:=by
 unfold jX wT tu;have:=Hx s.code;have:=GY (f:=qE) (g:=wG) s.gs (λx _=>alT x);omega
def alC(p:List Tv):oe p<=wP p:=by
 unfold oe wP;have:=GY (f:=jX) (g:=wT) p (λx _=>alq x);omega
def Nt{c:List Sv}(h:wC c<=1048576):Small c:=by
 refine⟨by have:=Hx c;omega,λs hs=>?_⟩;have:=Dl (f:=iK) hs;have e:iK s=s.eF.length+s.nm.length+s.fn.nm.length:=rfl;unfold wC at h;omega
def aee(h:wT s<=1048576):DN s:=by
 unfold wT tu at h;refine⟨Nt oM,oM,λg hg=>?_⟩;have:=Dl (f:=wG) hg;have e:wG g=wC g.test+wC g.eT:=rfl;exact⟨Nt oM,Nt oM⟩
def aef(h:wP p<=1048576):qk p:=by
 refine⟨by have:=alC p;omega,λs hs=>aee ?_⟩;have:=Dl (f:=wT) hs;unfold wP at h;omega
def afA(h:¬sb 1048576 (wP p)<0):qk p:=by
 refine aef ?_;unfold sb at h;split at h <;> omega
def DN.gl(h:DN s)(hp:jX s<=1048576):s.gs.length<=1048576:=by
 unfold jX at hp;omega
def qk.gl(h:qk p)(hs:s∈p):s.gs.length<=1048576:=by
 have h1:=h.sz;unfold oe at h1;have:=Dl (f:=jX) hs;exact(h.st s hs).gl oM
end Pl
end
open Go.RowKit
set_option maxRecDepth 100000
variable {ρ:Prop}
section
variable {b B j:Nat}{v:Va}{W w1:Wd}
def eC{w:Wd}{p:Addr}{o:Nat}(h:p.block ≠ b):(w.setCell p v).cell? (Y b o)=w.cell? (Y b o):=Il _ _ _ _ (λe=>h (by rw[e]))
def fG(hb:Below B W w1)(h:b<B)(hc:W.cell? (Y b j)=a_ v):w1.cell? (Y b j)=a_ v:=(hb.cell (p:=(Y b j)) h).trans hc
def xA(hb:Below B W w1)(h:b<B)(hc:W.frozen? (Y b j)=d_):w1.frozen? (Y b j)=d_:=(hb.frozen (p:=(Y b j)) h).trans hc
def ala.uj(h:ρ:=by
 generalize s.k=kk at *;go_enter func81,ntmps81;go_wp2_with fail;refine(K.o _ _ _).mono ?_;rintro e w1 ⟨rfl,hx,hb1,aaS⟩;have a2:=fG hb1 (b:=w.1.size) (j:=2) oM J3;have a3:=fG hb1 (b:=w.1.size) (j:=3) oM J3;have a4:=fG hb1 (b:=w.1.size) (j:=4) oM J3;have a5:=fG hb1 (b:=w.1.size) (j:=5) oM J3;have a6:=fG hb1 (b:=w.1.size) (j:=6) oM J3;have r0:=fG hb1 (b:=w.1.size+1) (j:=0) oM J3;have r1:=fG hb1 (b:=w.1.size+1) (j:=1) oM J3;have r2:=fG hb1 (b:=w.1.size+1) (j:=2) oM J3;have r3:=fG hb1 (b:=w.1.size+1) (j:=3) oM J3;have r4:=fG hb1 (b:=w.1.size+1) (j:=4) oM J3;have r5:=fG hb1 (b:=w.1.size+1) (j:=5) oM J3;have r6:=fG hb1 (b:=w.1.size+1) (j:=6) oM J3;have o0:=fG hb1 (b:=w.1.size+1+1) (j:=0) oM J3;have o1:=fG hb1 (b:=w.1.size+1+1) (j:=1) oM J3;have o2:=fG hb1 (b:=w.1.size+1+1) (j:=2) oM J3;have o3:=fG hb1 (b:=w.1.size+1+1) (j:=3) oM J3;have o4:=fG hb1 (b:=w.1.size+1+1) (j:=4) oM J3;have o5:=fG hb1 (b:=w.1.size+1+1) (j:=5) oM J3;have o6:=fG hb1 (b:=w.1.size+1+1) (j:=6) oM J3;have fr:∀j,w1.frozen? (Y (w.1.size+1) j)=d_:=λj=>xA hb1 oM J5;have fo:∀j,w1.frozen? (Y (w.1.size+1+1) j)=d_:=λj=>xA hb1 oM J5;have B1:=zH ((HB.o _ _ _).trans (hb1.mono oM));have HX:=zH hx;go_wp2_with fail;refine(afi _ _ _ _ _).k λw2 hb2=>?_;have tC:w1.1.size<=w2.1.size:=by have:=hb2.size;simpa[Bl]using this
 have Kv:=fG hb2 (b:=w.1.size+1) (j:=0) J2 (by simp[go_sem,r0] <;> rfl);have Ku:=fG hb2 (b:=w.1.size+1) (j:=1) J2 (by simp[go_sem,r1] <;> rfl);have Rp:=fG hb2 (b:=w.1.size+1) (j:=2) J2 (by simp[go_sem,r2] <;> rfl);have Ro:=fG hb2 (b:=w.1.size+1) (j:=3) J2 (by simp[go_sem,r3] <;> rfl);have r'4:=fG hb2 (b:=w.1.size+1) (j:=4) J2 (by simp[go_sem,r4] <;> rfl);have r'5:=fG hb2 (b:=w.1.size+1) (j:=5) J2 (by simp[go_sem,r5] <;> rfl);have r'6:=fG hb2 (b:=w.1.size+1) (j:=6) J2 (by simp[go_sem,r6] <;> rfl);have o'0:=fG hb2 (b:=w.1.size+1+1) (j:=0) J2 (by simp[go_sem,o0] <;> rfl);have o'1:=fG hb2 (b:=w.1.size+1+1) (j:=1) J2 (by simp[go_sem,o1] <;> rfl);have o'2:=fG hb2 (b:=w.1.size+1+1) (j:=2) J2 (by simp[go_sem,o2] <;> rfl);have o'3:=fG hb2 (b:=w.1.size+1+1) (j:=3) J2 (by simp[go_sem,o3] <;> rfl);have o'4:=fG hb2 (b:=w.1.size+1+1) (j:=4) J2 (by simp[go_sem,o4] <;> rfl);have o'5:=fG hb2 (b:=w.1.size+1+1) (j:=5) J2 (by simp[go_sem,o5] <;> rfl);have o'6:=fG hb2 (b:=w.1.size+1+1) (j:=6) J2 (by simp[go_sem,o6] <;> rfl);have fr':∀j,w2.frozen? (Y (w.1.size+1) j)=d_:=λj=>xA hb2 J2 (by simp[go_sem,fr]);have fo':∀j,w2.frozen? (Y (w.1.size+1+1) j)=d_:=λj=>xA hb2 J2 (by simp[go_sem,fo]);have B2:Hid (Bl w w2):=((B1.o.setCell J2 _).setCell J2 _).trans (hb2.mono J2);have M2:Hid (∀b,w.1.size+1+1+1<=b->b<w1.1.size->∀o,w2.cell? (Y b o)=w1.cell? (Y b o)):=λb h1 h2 o=>by
  rw[hb2.cell (p:=(Y b o)) (by simpa using h2),eC (by simp only[ne_eq];omega),eC (by simp only[ne_eq];omega)]
 have Ub:Hid (∀b,b<w1.1.size->∀o,w2.frozen? (Y b o)=w1.frozen? (Y b o)):=λb h2 o=>by
  rw[hb2.frozen (p:=(Y b o)) (by simpa using h2)];simp[go_sem]
 go_wp2_with fail;have E:Hid (∀(b1 o1 b2 o2:Nat)(l1 l2:List Va) (w3:Wd),w3=(w2.setCells b1 o1 l1).setCells b2 o2 l2->w.1.size<=b1->w.1.size<=b2->b1<w.1.size+1+1+1->b2<w.1.size+1+1+1->XI (Fr w.1.size w3) w3 (sY (w.1.size+1+1+1) 0) s.eF/\Bl w w3):=λb1 o1 b2 o2 l1 l2 w3 e h1 h2 h3 h4=>by
  subst e;refine⟨X.o _ _ _ oM HX.o (λb hb=>⟨⟨by have:=hb.1;omega,by have:=hb.2.1;rw[vn,vn];omega,λo=>by rw[xE,xE,Ub.o b hb.2.1 o];exact hb.2.2 o⟩,λo=>?_⟩),Av _ h2 _ _ _ (Av _ h1 _ _ _ B2.o)⟩;have g1:=hb.1;rw[<- M2.o b g1 hb.2.1 o,zo _ _ _ _ _ (λe _=>by have:b=b2:=e;omega),zo _ _ _ _ _ (λe _=>by have:b=b1:=e;omega)]
 refine eJ (v:=.agg #[.int .i64 kk,sX (sY (w.1.size+1+1+1) 0) sn sn,.string nm,.int .i64 fk,.int .i64 fa,.int .i64 fb,.string pR]) (by simp[results,results81,go_sem,Kv,Ku,Rp,Ro,r'4,r'5,r'6]) rfl ⟨_,rfl,E.o (w.1.size+1+1) 3 (w.1.size+1) 0 [.int .i64 fk,.int .i64 fa,.int .i64 fb,.string pR] [.int .i64 kk,sX (sY (w.1.size+1+1+1) 0) sn sn,.string nm,.int .i64 fk,.int .i64 fa,.int .i64 fb,.string pR] _ rfl oM oM oM oM⟩
 ):ρ:=h
def adb(s:Sv)(ao:oA)(cap:Nat)(w:Wd)(hn:s.eF.length<=1048576)(hR:j' w.1.size w ao s.eF):
  Cp 81 #[.agg #[.int .i64 s.k,sX ao s.eF.length cap,.string (Pl.ba s.nm),.int .i64 s.fn.k,.int .i64 s.fn.a,.int .i64 s.fn.b,.string (Pl.ba s.fn.nm)]] w λe w'=>∃an,e=rT (.agg #[.int .i64 s.k,sX an s.eF.length s.eF.length,.string (Pl.ba s.nm),.int .i64 s.fn.k,.int .i64 s.fn.a,.int .i64 s.fn.b,.string (Pl.ba s.fn.nm)])/\XI (Fr w.1.size w') w' an s.eF/\Bl w w':=by
 have HB:=zH (H7 w);have K:Hid (∀o1 o2 o3,Cp 27 #[sX ao s.eF.length cap] (((w.alloc o1).alloc o2).alloc o3) λe w'=>e=rT (sX (sY (w.1.size+1+1+1) 0) s.eF.length s.eF.length)/\XI (Fr (w.1.size+1+1+1) w') w' (sY (w.1.size+1+1+1) 0) s.eF/\Below (w.1.size+1+1+1) (((w.alloc o1).alloc o2).alloc o3) w'/\w.1.size+1+1+1<w'.1.size):=λo1 o2 o3=>by
  have:=ade s.eF ao cap (((w.alloc o1).alloc o2).alloc o3) hn ((hR.eG (HB.o _ _ _)).up (HB.o _ _ _).size);simpa[Bl]using this
 have X:Hid (∀b w1 w2,b<=w.1.size+1+1+1->XI (Fr (w.1.size+1+1+1) w1) w1 (sY (w.1.size+1+1+1) 0) s.eF->Mv (Fr (w.1.size+1+1+1) w1) (Fr b w2) w1 w2->XI (Fr b w2) w2 (sY (w.1.size+1+1+1) 0) s.eF):=λb w1 w2 hb h m=>h.mv m;generalize s.eF.length=sn at *;open ala in exact uu
def Tryz.anL:(prog.info? 118).map (λi=>(i.zero,i.size,i.bytes))=a_ (a_ (.agg #[.int .i64 0,nJ,.string ByteArray.empty,.int .i64 0,.int .i64 0,.int .i64 0,.string ByteArray.empty]),7,88):=kF
def alb.uj(h:ρ:=by
 generalize s.k=kk at *;go_wp2_with fail;refine K.o.mono ?_;rintro e w2 ⟨Cz,rfl,hx,hb2⟩;have I2:=zH (hI.o.eG mS hb2);have By:=hI.o.lt;have f0:=I2.o.fz (k * 7);have⟨v0,g0⟩:=I2.o.cl (k * 7) oM;have f1:=I2.o.fz (k * 7+1);have⟨v1,g1⟩:=I2.o.cl (k * 7+1) oM;have f2:=I2.o.fz (k * 7+2);have⟨v2,g2⟩:=I2.o.cl (k * 7+2) oM;have f3:=I2.o.fz (k * 7+3);have⟨v3,g3⟩:=I2.o.cl (k * 7+3) oM;have f4:=I2.o.fz (k * 7+4);have⟨v4,g4⟩:=I2.o.cl (k * 7+4) oM;have f5:=I2.o.fz (k * 7+5);have⟨v5,g5⟩:=I2.o.cl (k * 7+5) oM;have f6:=I2.o.fz (k * 7+6);have⟨v6,g6⟩:=I2.o.cl (k * 7+6) oM;have R2:=zH (R.o w2 Cz I2.o (hx.mv λb h=>⟨⟨oM,h.2⟩,λ_=>rfl⟩));go_wp2;go_roundw
 case rel=>exact⟨k+1,oM,gN,R2⟩
 case measure=>simp[intOf];omega
 ):ρ:=h
def MZ(c:List Sv)(ao:oA)(cap:Nat)(w:Wd)(hl:c.length<=1048576)(hk:∀s∈c,s.eF.length<=1048576)(hR:gf w.1.size w ao c):
  Cp 50 #[sX ao c.length cap] w λe w'=>e=rT (sX (sY w.1.size 0) c.length c.length)/\XL QS 7 (Fr w.1.size w') w' (sY w.1.size 0) c/\Bl w w'/\w.1.size<w'.1.size:=by
 obtain⟨i0,hi,iC,gy,iS⟩:=info_parts Tryz.anL;have HG:Hid (∀k,k<c.length->∃s b off,c[k]? = a_ s/\s∈c/\ao=sY b off/\b<w.1.size/\∃an cn,∀w',Bl w w'->jE w.1.size w' b (off+k * 7) s an cn):=λk hk=>by
  rcases hR with rfl|⟨b,off,hb,rfl,hc⟩
  ·cases hk
  have⟨an,cn,h⟩:=hc k c[k] (fw hk);exact⟨c[k],b,off,fw hk,lh hk,rfl,hb,an,cn,λw' hw=>h.eG hb hw⟩
 have HK:=zH hk;generalize hn:c.length=n at *;have Hn:Hid (c.length=n):=hn;go_enter func50,ntmps50;go_wp2_with (at_make;refine Ia _ rfl _ _ 57 rfl w.1.size 118 i0 (.agg #[.int .i64 0,nJ,.string ByteArray.empty,.int .i64 0,.int .i64 0,.int .i64 0,.string ByteArray.empty]) 7 underlying57 hi iC gy _ _ _ _ n rfl rfl rfl rfl ?b2 ?b3 ?b4 ?_)
 case b2=>rw[iS];omega
 case b3=>unfold maxLen;omega
 case b4=>exact jR _
 intro w1 lu ph;have I0:Hid (Inv QS 7 w c n 0 w1):=Inv.made lu Jq ((jD _ _).grown ph (jR _) (by intro k h;cases h));go_wp2;go_loopw [4] (λi wr=>∃k:Nat,k<=n/\i=.int .i64 k/\Hid (Inv QS 7 w c n k wr)) (λi _=>n-(intOf i).toNat)
 case atStart=>exact⟨0,vZ _,rfl,I0⟩
 obtain⟨k,hk,rfl,hI⟩:=hrel;by_cases eI:k<n
 ·obtain⟨s,b,off,hs,hm,rfl,hb,an,cn,eL⟩:=HG.o k eI
  have⟨c0,c1,c2,c3,c4,c5,c6,rD⟩:=eL _ hI.o.fI;have hle:=hI.o.fI.size;have K:=zH (adb s an cn wr (HK.o s hm) (rD.up hle));have R:Hid (∀w2 Cz,Inv QS 7 w c n k w2->XI (Fr (w.1.size+1) w2) w2 Cz s.eF->Inv QS 7 w c n (k+1) (w2.setCells w.1.size (k * 7) [.int .i64 s.k,sX Cz s.eF.length s.eF.length,.string (Pl.ba s.nm),.int .i64 s.fn.k,.int .i64 s.fn.a,.int .i64 s.fn.b,.string (Pl.ba s.fn.nm)])):=λw2 Cz I hx=>I.put mS _ rfl eI hs (λw3 hc hm=>⟨Cz,hc 0 sI,hc 1 sI,hc 2 sI,hc 3 sI,hc 4 sI,hc 5 sI,hc 6 sI,hx.mv hm⟩);generalize s.eF.length=sn at *;open alb in exact uu
 have R:Hid (XL QS 7 (Fr w.1.size wr) wr (sY w.1.size 0) c/\Bl w wr/\w.1.size<wr.1.size):=⟨hI.o.done mS (by rw[Hn.o];omega),hI.o.fI,hI.o.lt⟩;go_wp2;go_ret
 exact⟨rfl,R.o⟩
end
namespace Pl
def Sz(c:List Sv):Prop:=c.length<=1048576/\∀s∈c,s.eF.length<=1048576
def E_(c:List Gv):Prop:=c.length<=1048576/\∀s∈c,Sz s.test/\Sz s.eT
def SzT(c:List Tv):Prop:=c.length<=1048576/\∀s∈c,Sz s.code/\E_ s.gs
end Pl
open Go.RowKit
def aj8.Yo(h:ρ:=by
 go_wp2_with fail;have E:Hid (∀(b1 o1 b2 o2:Nat)(l1 l2:List Va) (w3:Wd),w3=(w2.setCells b1 o1 l1).setCells b2 o2 l2->w.1.size<=b1->w.1.size<=b2->b1<w.1.size+1+1+1->b2<w.1.size+1+1+1->XL QS 7 (Fr w.1.size w3) w3 (sY (w.1.size+1+1+1) 0) s.test/\XL QS 7 (Fr w.1.size w3) w3 (sY w1.1.size 0) s.eT/\Bl w w3):=λb1 o1 b2 o2 l1 l2 w3 e h1 h2 h3 h4=>by
  exact aaj
 refine eJ (v:=.agg #[sX (sY (w.1.size+1+1+1) 0) n1 n1,sX (sY w1.1.size 0) n2 n2]) (by simp[results,results82,go_sem,Kv,Ku]) rfl ⟨_,_,_,_,rfl,E.o (w.1.size+1+1) 1 (w.1.size+1) 0 [sX (sY w1.1.size 0) n2 n2] [sX (sY (w.1.size+1+1+1) 0) n1 n1,sX (sY w1.1.size 0) n2 n2] _ rfl oM oM oM oM⟩
 ):ρ:=h
def ai1.Yc(h:ρ:=by
 have o'0:=fG hb2 (b:=w.1.size+1+1) (j:=0) oM (by simp[go_sem,o0] <;> rfl);have o'1:=fG hb2 (b:=w.1.size+1+1) (j:=1) oM (by simp[go_sem,o1] <;> rfl);open aj8 in exact Zu
 ):ρ:=h
def acB(s:Gv)(a1:oA)(c1:Nat)(a2:oA)(c2:Nat)(w:Wd)(hk1:Sz s.test)(ji:Sz s.eT)(r1:gf w.1.size w a1 s.test)(r2:gf w.1.size w a2 s.eT):
  Cp 82 #[.agg #[sX a1 s.test.length c1,sX a2 s.eT.length c2]] w λe w'=>∃b1 d1 b2 d2,e=rT (.agg #[sX b1 s.test.length d1,sX b2 s.eT.length d2])/\XL QS 7 (Fr w.1.size w') w' b1 s.test/\XL QS 7 (Fr w.1.size w') w' b2 s.eT/\Bl w w':=by
 have HB:=zH (H7 w);have K1:Hid (∀o1 o2 o3,Cp 50 #[sX a1 s.test.length c1] (((w.alloc o1).alloc o2).alloc o3) λe w'=>e=rT (sX (sY (w.1.size+1+1+1) 0) s.test.length s.test.length)/\XL QS 7 (Fr (w.1.size+1+1+1) w') w' (sY (w.1.size+1+1+1) 0) s.test/\Below (w.1.size+1+1+1) (((w.alloc o1).alloc o2).alloc o3) w'/\w.1.size+1+1+1<w'.1.size):=λo1 o2 o3=>by
  have:=MZ s.test a1 c1 (((w.alloc o1).alloc o2).alloc o3) hk1.1 hk1.2 ((r1.eG (HB.o _ _ _)).up (HB.o _ _ _).size);simpa[Bl]using this
 have K2:Hid (∀w1 o v,Bl w w1->Cp 50 #[sX a2 s.eT.length c2] (w1.setCell (Y (w.1.size+1+1) o) v) λe w'=>e=rT (sX (sY w1.1.size 0) s.eT.length s.eT.length)/\XL QS 7 (Fr w1.1.size w') w' (sY w1.1.size 0) s.eT/\Below w1.1.size (w1.setCell (Y (w.1.size+1+1) o) v) w'/\w1.1.size<w'.1.size):=λw1 o v hb=>by
  have hb':Bl w (w1.setCell (Y (w.1.size+1+1) o) v):=hb.setCell (by simp only;omega) _;have:=MZ s.eT a2 c2 (w1.setCell (Y (w.1.size+1+1) o) v) ji.1 ji.2 ((r2.eG hb').up hb'.size);simpa[Bl]using this
 have X1:Hid (∀w1 w2,XL QS 7 (Fr (w.1.size+1+1+1) w1) w1 (sY (w.1.size+1+1+1) 0) s.test->Mv (Fr (w.1.size+1+1+1) w1) (Fr w.1.size w2) w1 w2->XL QS 7 (Fr w.1.size w2) w2 (sY (w.1.size+1+1+1) 0) s.test):=λw1 w2 h m=>h.mv mS m;have X2:Hid (∀n w1 w2,XL QS 7 (Fr n w1) w1 (sY n 0) s.eT->Mv (Fr n w1) (Fr w.1.size w2) w1 w2->XL QS 7 (Fr w.1.size w2) w2 (sY n 0) s.eT):=λn w1 w2 h m=>h.mv mS m;generalize s.test.length=n1,s.eT.length=n2 at *;go_enter func82,ntmps82;go_wp2_with fail;refine(K1.o _ _ _).mono ?_;rintro e w1 ⟨rfl,hx,hb1,aaS⟩;have a1:=fG hb1 (b:=w.1.size) (j:=1) oM J3;have r0:=fG hb1 (b:=w.1.size+1) (j:=0) oM J3;have r1:=fG hb1 (b:=w.1.size+1) (j:=1) oM J3;have o0:=fG hb1 (b:=w.1.size+1+1) (j:=0) oM J3;have o1:=fG hb1 (b:=w.1.size+1+1) (j:=1) oM J3;open ai1 in exact YX
def Tryz.anM:(prog.info? 91).map (λi=>(i.zero,i.size,i.bytes))=a_ (a_ (.agg nN),2,48):=kF
def abY(c:List Gv)(ao:oA)(cap:Nat)(w:Wd)(hl:c.length<=1048576)(hk:∀s∈c,Sz s.test/\Sz s.eT)(hR:iG w.1.size w ao c):
  Cp 51 #[sX ao c.length cap] w λe w'=>e=rT (sX (sY w.1.size 0) c.length c.length)/\XL QG 2 (Fr w.1.size w') w' (sY w.1.size 0) c/\Bl w w'/\w.1.size<w'.1.size:=by
 obtain⟨i0,hi,iC,gy,iS⟩:=info_parts Tryz.anM;have HG:Hid (∀k,k<c.length->∃s b off,c[k]? = a_ s/\s∈c/\ao=sY b off/\b<w.1.size/\∃a1 a2 c1 c2,∀w',Bl w w'->Gd w.1.size w' b (off+k * 2) s a1 a2 c1 c2):=λk hk=>by
  exact Ρ
 have HK:=zH hk;generalize hn:c.length=n at *;have Hn:Hid (c.length=n):=hn;go_enter func51,ntmps51;go_wp2_with (at_make;refine Ia _ rfl _ _ 58 rfl w.1.size 91 i0 (.agg nN) 2 underlying58 hi iC gy _ _ _ _ n rfl rfl rfl rfl ?b2 ?b3 ?b4 ?_)
 case b2=>rw[iS];omega
 case b3=>unfold maxLen;omega
 case b4=>exact jR _
 intro w1 lu ph;have I0:Hid (Inv QG 2 w c n 0 w1):=Inv.made lu Jq ((jD _ _).grown ph (jR _) (by intro k h;cases h));go_wp2;go_loopw [4] (λi wr=>∃k:Nat,k<=n/\i=.int .i64 k/\Hid (Inv QG 2 w c n k wr)) (λi _=>n-(intOf i).toNat)
 case atStart=>exact⟨0,vZ _,rfl,I0⟩
 obtain⟨k,hk,rfl,hI⟩:=hrel;by_cases eI:k<n
 rotate_left 1
 ·have R:Hid (XL QG 2 (Fr w.1.size wr) wr (sY w.1.size 0) c/\Bl w wr/\w.1.size<wr.1.size):=⟨hI.o.done mG (by rw[Hn.o];omega),hI.o.fI,hI.o.lt⟩
  go_wp2;go_ret
  exact⟨rfl,R.o⟩
 obtain⟨s,b,off,hs,hm,rfl,hb,a1,a2,c1,c2,eL⟩:=HG.o k eI;have⟨c0',yz,r1,r2⟩:=eL _ hI.o.fI;have hle:=hI.o.fI.size;have K:=zH (acB s a1 c1 a2 c2 wr (HK.o s hm).1 (HK.o s hm).2 (r1.up hle) (r2.up hle));have R:Hid (∀w2 b1 d1 b2 d2,Inv QG 2 w c n k w2->XL QS 7 (Fr (w.1.size+1) w2) w2 b1 s.test->XL QS 7 (Fr (w.1.size+1) w2) w2 b2 s.eT->Inv QG 2 w c n (k+1) (w2.setCells w.1.size (k * 2) [sX b1 s.test.length d1,sX b2 s.eT.length d2])):=λw2 b1 d1 b2 d2 I hx hy=>I.put mG _ rfl eI hs (λw3 hc hm=>⟨b1,d1,b2,d2,hc 0 sI,hc 1 sI,hx.mv mS hm,hy.mv mS hm⟩);generalize s.test.length=n1,s.eT.length=n2 at *;go_wp2_with fail;refine K.o.mono ?_;rintro e w2 ⟨b1,d1,b2,d2,rfl,hx,hy,hb2⟩;have I2:=zH (hI.o.eG mG hb2);have By:=hI.o.lt;have f0:=I2.o.fz (k * 2);have⟨v0,g0⟩:=I2.o.cl (k * 2) oM;have f1:=I2.o.fz (k * 2+1);have⟨v1,g1⟩:=I2.o.cl (k * 2+1) oM;have R2:=zH (R.o w2 b1 d1 b2 d2 I2.o (hx.mv mS λb h=>⟨⟨oM,h.2⟩,λ_=>rfl⟩) (hy.mv mS λb h=>⟨⟨oM,h.2⟩,λ_=>rfl⟩));exact ZE
def aj7.Yo(h:ρ:=by
 go_wp2_with fail;have E:Hid (∀(b1 o1 b2 o2:Nat)(l1 l2:List Va) (w3:Wd),w3=(w2.setCells b1 o1 l1).setCells b2 o2 l2->w.1.size<=b1->w.1.size<=b2->b1<w.1.size+1+1+1->b2<w.1.size+1+1+1->XL QS 7 (Fr w.1.size w3) w3 (sY (w.1.size+1+1+1) 0) s.code/\XL QG 2 (Fr w.1.size w3) w3 (sY w1.1.size 0) s.gs/\Bl w w3):=λb1 o1 b2 o2 l1 l2 w3 e h1 h2 h3 h4=>by
  exact aaj
 refine eJ (v:=.agg #[.int .i64 kk,.string (nm),sX (sY (w.1.size+1+1+1) 0) n1 n1,sX (sY w1.1.size 0) n2 n2]) (by simp[results,results26,go_sem,Kv,Ku,Rp,Ro]) rfl ⟨_,_,_,_,rfl,E.o (w.1.size+1+1) 3 (w.1.size+1) 0 [sX (sY w1.1.size 0) n2 n2] [.int .i64 kk,.string (nm),sX (sY (w.1.size+1+1+1) 0) n1 n1,sX (sY w1.1.size 0) n2 n2] _ rfl oM oM oM oM⟩
 ):ρ:=h
def ai0.Yc(h:ρ:=by
 have Rp:=fG hb2 (b:=w.1.size+1) (j:=2) oM (by simp[go_sem,r2] <;> rfl);have Ro:=fG hb2 (b:=w.1.size+1) (j:=3) oM (by simp[go_sem,r3] <;> rfl);have o'0:=fG hb2 (b:=w.1.size+1+1) (j:=0) oM (by simp[go_sem,o0] <;> rfl);have o'1:=fG hb2 (b:=w.1.size+1+1) (j:=1) oM (by simp[go_sem,o1] <;> rfl);have o'2:=fG hb2 (b:=w.1.size+1+1) (j:=2) oM (by simp[go_sem,o2] <;> rfl);have o'3:=fG hb2 (b:=w.1.size+1+1) (j:=3) oM (by simp[go_sem,o3] <;> rfl);open aj7 in exact Zu
 ):ρ:=h
def ada(s:Pl.Tv)(a1:oA)(c1:Nat)(a2:oA)(c2:Nat)(w:Wd)(hk1:Sz s.code)(ji:E_ s.gs)(r1:gf w.1.size w a1 s.code)(r2:iG w.1.size w a2 s.gs):
  Cp 26 #[.agg #[.int .i64 s.k,.string (Pl.ba s.nm),sX a1 s.code.length c1,sX a2 s.gs.length c2]] w λe w'=>∃b1 d1 b2 d2,e=rT (.agg #[.int .i64 s.k,.string (Pl.ba s.nm),sX b1 s.code.length d1,sX b2 s.gs.length d2])/\XL QS 7 (Fr w.1.size w') w' b1 s.code/\XL QG 2 (Fr w.1.size w') w' b2 s.gs/\Bl w w':=by
 have HB:=zH (H7 w);have K1:Hid (∀o1 o2 o3,Cp 50 #[sX a1 s.code.length c1] (((w.alloc o1).alloc o2).alloc o3) λe w'=>e=rT (sX (sY (w.1.size+1+1+1) 0) s.code.length s.code.length)/\XL QS 7 (Fr (w.1.size+1+1+1) w') w' (sY (w.1.size+1+1+1) 0) s.code/\Below (w.1.size+1+1+1) (((w.alloc o1).alloc o2).alloc o3) w'/\w.1.size+1+1+1<w'.1.size):=λo1 o2 o3=>by
  have:=MZ s.code a1 c1 (((w.alloc o1).alloc o2).alloc o3) hk1.1 hk1.2 ((r1.eG (HB.o _ _ _)).up (HB.o _ _ _).size);simpa[Bl]using this
 have K2:Hid (∀w1 o v,Bl w w1->Cp 51 #[sX a2 s.gs.length c2] (w1.setCell (Y (w.1.size+1+1) o) v) λe w'=>e=rT (sX (sY w1.1.size 0) s.gs.length s.gs.length)/\XL QG 2 (Fr w1.1.size w') w' (sY w1.1.size 0) s.gs/\Below w1.1.size (w1.setCell (Y (w.1.size+1+1) o) v) w'/\w1.1.size<w'.1.size):=λw1 o v hb=>by
  have hb':Bl w (w1.setCell (Y (w.1.size+1+1) o) v):=hb.setCell (by simp only;omega) _;have:=abY s.gs a2 c2 (w1.setCell (Y (w.1.size+1+1) o) v) ji.1 ji.2 ((r2.eG hb').up hb'.size);simpa[Bl]using this
 have X1:Hid (∀w1 w2,XL QS 7 (Fr (w.1.size+1+1+1) w1) w1 (sY (w.1.size+1+1+1) 0) s.code->Mv (Fr (w.1.size+1+1+1) w1) (Fr w.1.size w2) w1 w2->XL QS 7 (Fr w.1.size w2) w2 (sY (w.1.size+1+1+1) 0) s.code):=λw1 w2 h m=>h.mv mS m;have X2:Hid (∀n w1 w2,XL QG 2 (Fr n w1) w1 (sY n 0) s.gs->Mv (Fr n w1) (Fr w.1.size w2) w1 w2->XL QG 2 (Fr w.1.size w2) w2 (sY n 0) s.gs):=λn w1 w2 h m=>h.mv mG m;generalize s.code.length=n1,s.gs.length=n2,Pl.ba s.nm=nm,s.k=kk at *;go_enter func26,ntmps26;go_wp2_with fail;refine(K1.o _ _ _).mono ?_;rintro e w1 ⟨rfl,hx,hb1,aaS⟩;have a3:=fG hb1 (b:=w.1.size) (j:=3) oM J3;have r0:=fG hb1 (b:=w.1.size+1) (j:=0) oM J3;have r1:=fG hb1 (b:=w.1.size+1) (j:=1) oM J3;have r2:=fG hb1 (b:=w.1.size+1) (j:=2) oM J3;have r3:=fG hb1 (b:=w.1.size+1) (j:=3) oM J3;have o0:=fG hb1 (b:=w.1.size+1+1) (j:=0) oM J3;have o1:=fG hb1 (b:=w.1.size+1+1) (j:=1) oM J3;have o2:=fG hb1 (b:=w.1.size+1+1) (j:=2) oM J3;have o3:=fG hb1 (b:=w.1.size+1+1) (j:=3) oM J3;open ai0 in exact YX
def Tryz.anN:(prog.info? 60).map (λi=>(i.zero,i.size,i.bytes))=a_ (a_ (.agg #[.int .i64 0,.string ByteArray.empty,nJ,nJ]),4,72):=kF
def acA(c:List Pl.Tv)(ao:oA)(cap:Nat)(w:Wd)(hl:c.length<=1048576)(hk:∀s∈c,Sz s.code/\E_ s.gs)(hR:jF w.1.size w ao c):
  Cp 7 #[sX ao c.length cap] w λe w'=>e=rT (sX (sY w.1.size 0) c.length c.length)/\XL QT 4 (Fr w.1.size w') w' (sY w.1.size 0) c/\Bl w w'/\w.1.size<w'.1.size:=by
 obtain⟨i0,hi,iC,gy,iS⟩:=info_parts Tryz.anN;have HG:Hid (∀k,k<c.length->∃s b off,c[k]? = a_ s/\s∈c/\ao=sY b off/\b<w.1.size/\∃a1 a2 c1 c2,∀w',Bl w w'->Sm w.1.size w' b (off+k * 4) s a1 a2 c1 c2):=λk hk=>by
  exact Ρ
 have HK:=zH hk;generalize hn:c.length=n at *;have Hn:Hid (c.length=n):=hn;go_enter func7,ntmps7;go_wp2_with (at_make;refine Ia _ rfl _ _ 34 rfl w.1.size 60 i0 (.agg #[.int .i64 0,.string ByteArray.empty,nJ,nJ]) 4 underlying34 hi iC gy _ _ _ _ n rfl rfl rfl rfl ?b2 ?b3 ?b4 ?_)
 case b2=>rw[iS];omega
 case b3=>unfold maxLen;omega
 case b4=>exact jR _
 intro w1 lu ph;have I0:Hid (Inv QT 4 w c n 0 w1):=Inv.made lu Jq ((jD _ _).grown ph (jR _) (by intro k h;cases h));go_wp2;go_loopw [4] (λi wr=>∃k:Nat,k<=n/\i=.int .i64 k/\Hid (Inv QT 4 w c n k wr)) (λi _=>n-(intOf i).toNat)
 case atStart=>exact⟨0,vZ _,rfl,I0⟩
 obtain⟨k,hk,rfl,hI⟩:=hrel;by_cases eI:k<n
 rotate_left 1
 ·have R:Hid (XL QT 4 (Fr w.1.size wr) wr (sY w.1.size 0) c/\Bl w wr/\w.1.size<wr.1.size):=⟨hI.o.done mT (by rw[Hn.o];omega),hI.o.fI,hI.o.lt⟩
  go_wp2;go_ret
  exact⟨rfl,R.o⟩
 obtain⟨s,b,off,hs,hm,rfl,hb,a1,a2,c1,c2,eL⟩:=HG.o k eI;have⟨q0,q1,q2,q3,r1,r2⟩:=eL _ hI.o.fI;have hle:=hI.o.fI.size;have K:=zH (ada s a1 c1 a2 c2 wr (HK.o s hm).1 (HK.o s hm).2 (r1.up hle) (r2.up hle));have R:Hid (∀w2 b1 d1 b2 d2,Inv QT 4 w c n k w2->XL QS 7 (Fr (w.1.size+1) w2) w2 b1 s.code->XL QG 2 (Fr (w.1.size+1) w2) w2 b2 s.gs->Inv QT 4 w c n (k+1) (w2.setCells w.1.size (k * 4) [.int .i64 s.k,.string (Pl.ba s.nm),sX b1 s.code.length d1,sX b2 s.gs.length d2])):=λw2 b1 d1 b2 d2 I hx hy=>I.put mT _ rfl eI hs (λw3 hc hm=>⟨b1,d1,b2,d2,hc 0 sI,hc 1 sI,hc 2 sI,hc 3 sI,hx.mv mS hm,hy.mv mG hm⟩);generalize s.code.length=n1,s.gs.length=n2,Pl.ba s.nm=nm,s.k=kk at *;go_wp2_with fail;refine K.o.mono ?_;rintro e w2 ⟨b1,d1,b2,d2,rfl,hx,hy,hb2⟩;have I2:=zH (hI.o.eG mT hb2);have By:=hI.o.lt;have f0:=I2.o.fz (k * 4);have⟨v0,g0⟩:=I2.o.cl (k * 4) oM;have f1:=I2.o.fz (k * 4+1);have⟨v1,g1⟩:=I2.o.cl (k * 4+1) oM;have f2:=I2.o.fz (k * 4+2);have⟨v2,g2⟩:=I2.o.cl (k * 4+2) oM;have f3:=I2.o.fz (k * 4+3);have⟨v3,g3⟩:=I2.o.cl (k * 4+3) oM;have R2:=zH (R.o w2 b1 d1 b2 d2 I2.o (hx.mv mS λb h=>⟨⟨oM,h.2⟩,λ_=>rfl⟩) (hy.mv mG λb h=>⟨⟨oM,h.2⟩,λ_=>rfl⟩));exact ZE
def ah9(p:Nat)(x:Int)(b:UInt8)(W:Wd)(hb:UInt8.ofNat x.toNat=b)(h:W.cell? (Y p 0)=a_ (.int .u8 x)):(convert 114 9 (sX (sY p 0) 1 1)).run prog W=.ok (.string ⟨#[b]⟩) W:=by
 have:=P4 (P:=prog) W 114 5 kF kF p 0 1 1 [x] rfl (λi hi=>by
  have:i=0:=oM;subst this;simpa using h) 9 kF
 rw[this,<- hb];simp[strOfNums]
def MR(k0:Nat)(w:Wd)(h0:1<=k0)(h1:k0<=1099511627776):Cp 37 #[I (k0:Int)] w λe w'=>(∃s,e=rT (.string s))/\Bl w w':=by
 have g0:¬(k0:Int)<=0:=oM;go_enter func37,ntmps37;go_wp2;go_loopw [0,3] (λi o wr=>∃(k:Nat)(out:bA),i=I k/\o=.string out/\out.size+k<=k0/\Hid (Bl w wr)) (λi _ _=>(intOf i).toNat)
 case atStart=>exact⟨k0,ByteArray.empty,rfl,rfl,sI,jD _ _⟩
 obtain⟨k,out,rfl,rfl,j8,je⟩:=hrel;by_cases hk:k=0
 ·subst hk
  have hz:¬(9223372036854775807<1+out.size):=oM;go_wp2;go_ret
  exact⟨⟨_,rfl⟩,je.o⟩
 have Ew:(0:Int)<k:=oM;generalize hq:k / 10=q at *;generalize hr:k % 10=r at *;have eq1:Int.tdiv (k:Int) 10=(q:Int):=by rw[Bj oM];omega
 have er1:Int.tmod (k:Int) 10=(r:Int):=by rw[zA oM];omega
 have hr9:r<10:=oM;have⟨bu,hbu⟩:∃bu,UInt8.ofNat (48+r)=bu:=⟨_,rfl⟩;have kc:(convert 114 9 (sX (sY wr.1.size 0) 1 1)).run prog (wr.alloc (.cells #[.int .u8 (48+(r:Int))] 5))=.ok (.string ⟨#[bu]⟩) (wr.alloc (.cells #[.int .u8 (48+(r:Int))] 5)):=ah9 wr.1.size (48+(r:Int)) bu _ (by rw[<- hbu];congr 1) J5;have hz:¬(9223372036854775807<1+out.size):=oM;have hqk:q<k:=oM;go_wp2;go_roundw
 case rel=>exact⟨q,_,rfl,rfl,by rw[rV];show 1+out.size+q<=k0;omega,je.o.alloc je.o.size _⟩
 simp[intOf];omega
section
def kd(v v':Option Va):Prop:=(∀z,v=a_ (I z)->∃z',v'=a_ (I z'))/\(∀s,v=a_ (.string s)->∃s',v'=a_ (.string s'))/\(∀x n y,v=a_ (sX x n y)->v'=v)
def kd.refl(v:Option Va):kd v v:=⟨λz e=>⟨z,e⟩,λs e=>⟨s,e⟩,λ_ _ _ _=>rfl⟩
def kd.trans{a b c:Option Va}(h:kd a b)(k:kd b c):kd a c:=⟨λz e=>by have⟨z',e'⟩:=h.1 z e;exact k.1 z' e',λs e=>by have⟨s',e'⟩:=h.2.1 s e;exact k.2.1 s' e',λx n y e=>by have e':=h.2.2 x n y e;exact(k.2.2 x n y (e'.trans e)).trans e'⟩
structure Kn(B:Nat × Nat)(w w':Wd):Prop where
 fI:Below B.1 w w'
 hi:∀b,B.2<=b->b<w.1.size->w'.1[b]? = w.1[b]?
 cl:∀b o,b<w.1.size->kd (w.cell? (Y b o)) (w'.cell? (Y b o))
 fz:∀b o,b<w.1.size->w'.frozen? (Y b o)=w.frozen? (Y b o)
section
variable {B:Nat × Nat} {w w' w2:Wd}
def Kn.refl:Kn B w w:=⟨jD _ _,λ_ _ _=>rfl,λ_ _ _=>kd.refl _,λ_ _ _=>rfl⟩
def Kn.trans(h:Kn B w w')(k:Kn B w' w2):Kn B w w2:=⟨h.fI.trans k.fI,λb hb hl=>(k.hi b hb (jL hl h.fI.size)).trans (h.hi b hb hl),λb o hb=>(h.cl b o hb).trans (k.cl b o (jL hb h.fI.size)),λb o hb=>(k.fz b o (jL hb h.fI.size)).trans (h.fz b o hb)⟩
def Kn.of(h:Bl w w')(hB:B.1<=w.1.size):Kn B w w':=⟨h.mono hB,λb _ hl=>h.block b hl,λb o hb=>by rw[h.cell (p:=(Y b o)) hb];exact kd.refl _,λb o hb=>h.frozen (p:=(Y b o)) hb⟩
def Kn.set{b o:Nat}{v v':Va}(hB:B.1<=b/\b<B.2)(hc:w.cell? (Y b o)=a_ v)(hk:kd (a_ v) (a_ v')):Kn B w (w.setCell (Y b o) v'):=by
 refine⟨(jD _ _).setCell hB.1 _,λb2 h2 _=>zC _ _ _ _ (by simp only;omega),λb2 o2 hb=>?_,λb2 o2 hb=>by simp[go_sem]⟩;by_cases e:b2=b/\o2=o
 ·obtain⟨rfl,rfl⟩:=e
  rw[PR _ _ _ hc,hc];exact hk
 rw[Il _ _ _ _ (by intro q;injection q with q1 q2 _;exact e ⟨q1.symm,q2.symm⟩)];exact kd.refl _
def AU(x y:Int):kd (a_ (Value.int .i64 x)) (a_ (Value.int .i64 y)):=by
 refine⟨λ_ _=>⟨y,rfl⟩,λs e=>?_,λ_ _ _ e=>?_⟩ <;> cases e
def OQ(x y:bA):kd (a_ (Value.string x)) (a_ (Value.string y)):=by
 refine⟨λz e=>?_,λ_ _=>⟨y,rfl⟩,λ_ _ _ e=>?_⟩ <;> cases e
def Ki(B:Nat × Nat)(w:Wd)(b o:Nat):Prop:=(∃z,w.cell? (Y b o)=a_ (I z))/\w.frozen? (Y b o)=d_/\(B.1<=b/\b<B.2)/\b<w.1.size
def Kt(B:Nat × Nat)(w:Wd)(b o:Nat):Prop:=(∃s,w.cell? (Y b o)=a_ (.string s))/\w.frozen? (Y b o)=d_/\(B.1<=b/\b<B.2)/\b<w.1.size
def Ki.kn{b o:Nat}(h:Ki B w b o)(k:Kn B w w'):Ki B w' b o:=by
 obtain⟨⟨z,hz⟩,hf,h1,h2⟩:=h;exact⟨(k.cl b o h2).1 z hz,(k.fz b o h2).trans hf,h1,jL h2 k.fI.size⟩
def Kt.kn{b o:Nat}(h:Kt B w b o)(k:Kn B w w'):Kt B w' b o:=by
 obtain⟨⟨z,hz⟩,hf,h1,h2⟩:=h;exact⟨(k.cl b o h2).2.1 z hz,(k.fz b o h2).trans hf,h1,jL h2 k.fI.size⟩
def MI(B:Nat × Nat)(w:Wd)(x:oA)(n:Nat):Prop:=n=0\/∃g off,x=sY g off/\∀i,i<n->Ki B w g (off+i)
def MI.kn{x:oA}{n:Nat}(h:MI B w x n)(k:Kn B w w'):MI B w' x n:=h.imp id λ⟨g,off,e,h⟩=>⟨g,off,e,λi hi=>(h i hi).kn k⟩
def adD(x:oA)(n y:Nat)(m:Int)(h:MI B w x n)(hn:n<=1048576)(h0:0<=m)(h1:m<=1099511627776):Cp 40 #[sX x n y,I m] w λe w'=>e=rT (I (m+n))/\Kn B w w':=by
 have H:=zH h;go_enter func40,ntmps40;go_wp2_with fail;go_loopw [1,5] (λk i wr=>∃j:Nat,j<=n/\i=I j/\k=I (m+j)/\Hid (Kn B w wr)) (λ_ i _=>n-(intOf i).toNat)
 case atStart=>exact⟨0,vZ _,rfl,gN,Kn.refl⟩
 obtain⟨j,hj,rfl,rfl,hK⟩:=hrel;by_cases eI:j<n
 ·have hM:=H.o.kn hK.o
  rcases hM with e|⟨g,off,rfl,hc⟩
  ·omega
  have⟨⟨z,hz⟩,hf,hB,hs⟩:=hc j eI;have K9:=zH (hK.o.trans (Kn.set hB hz (AU z (m+j))));have qB:(j:Int)<(n:Int):=oM;go_wp2;go_roundw
  case rel=>exact⟨j+1,oM,gN,gN,K9⟩
  simp[intOf];omega
 have jn:j=n:=oM;subst jn;go_wp2;go_ret
 exact⟨rfl,hK.o⟩
end
end
section
variable {c:List Sv}
def Mh(B:Nat × Nat)(w:Wd)(b o:Nat)(s:Sv):Prop:=Ki B w b o/\(∃an,w.cell? (Y b (o+1))=a_ (sX an s.eF.length s.eF.length)/\MI B w an s.eF.length)/\Kt B w b (o+2)/\Ki B w b (o+3)/\Ki B w b (o+4)/\Ki B w b (o+5)/\Kt B w b (o+6)
def yG(B:Nat × Nat)(w:Wd)(x:oA)(c:List Sv):Prop:=c=[]\/∃g off,x=sY g off/\∀i s,c[i]? = a_ s->Mh B w g (off+i * 7) s
section
variable {B:Nat × Nat} {w w':Wd}
def Mh.kn{b o:Nat}{s:Sv}(h:Mh B w b o s)(k:Kn B w w'):Mh B w' b o s:=by
 obtain⟨h0,⟨an,h1,hm⟩,h2,h3,h4,h5,h6⟩:=h;exact⟨h0.kn k,⟨an,((k.cl b (o+1) h0.2.2.2).2.2 _ _ _ h1).trans h1,hm.kn k⟩,h2.kn k,h3.kn k,h4.kn k,h5.kn k,h6.kn k⟩
def yG.kn{x:oA}(h:yG B w x c)(k:Kn B w w'):yG B w' x c:=h.imp id λ⟨g,off,e,h⟩=>⟨g,off,e,λi s hi=>(h i s hi).kn k⟩
def XL.ms{ao:oA}{B:Nat}(h:XL QS 7 (Fr B w) w ao c):yG (B,w.1.size) w ao c:=by
 rcases h with h|⟨b,off,hB,rfl,hc⟩
 ·exact .inl h
 refine .inr ⟨b,off,rfl,λi s hs=>?_⟩;have⟨an,h0,h1,h2,h3,h4,h5,h6,h7⟩:=hc i s hs;refine⟨⟨⟨_,h0⟩,hB.2.2 _,⟨hB.1,hB.2.1⟩,hB.2.1⟩,⟨an,h1,?_⟩,⟨⟨_,h2⟩,hB.2.2 _,⟨hB.1,hB.2.1⟩,hB.2.1⟩,⟨⟨_,h3⟩,hB.2.2 _,⟨hB.1,hB.2.1⟩,hB.2.1⟩,⟨⟨_,h4⟩,hB.2.2 _,⟨hB.1,hB.2.1⟩,hB.2.1⟩,⟨⟨_,h5⟩,hB.2.2 _,⟨hB.1,hB.2.1⟩,hB.2.1⟩,⟨⟨_,h6⟩,hB.2.2 _,⟨hB.1,hB.2.1⟩,hB.2.1⟩⟩;rcases h7 with h|⟨g,o2,hG,rfl,hk⟩
 ·exact .inl (by rw[h];rfl)
 exact .inr ⟨g,o2,rfl,λj hj=>⟨⟨_,hk j _ (fw hj)⟩,hG.2.2 _,⟨hG.1,hG.2.1⟩,hG.2.1⟩⟩
end
def jg(s:Sv):Nat:=6+s.eF.length
section
variable {B:Nat × Nat} {w:Wd}
def M6(x:oA)(c:List Sv)(y m:Nat)(h:yG B w x c)(hB:B.1<=w.1.size)(hl:c.length<=1048576)(hn:∀s∈c,s.eF.length<=1048576)(h0:1<=m)(hb:m+(c.map jg).sum<=1099511627776):Cp 38 #[sX x c.length y,I (m:Int)] w λe w'=>e=rT (I ((m+(c.map jg).sum:Nat):Int))/\Kn B w w':=by
 have H:=zH h;have HN:=zH hn;have TS:=zH λ(k:Nat)(s:Sv) (hs:c[k]? = a_ s)=>CY jg hs;have TL:=zH λk=>C3 jg c k;have TE:Hid (∀k,k=c.length->((c.take k).map jg).sum=(c.map jg).sum):=λk e=>by rw[e,km]
 have⟨n,EN⟩:=jN (c.length);rw[EN.o] at hl TE ⊢;generalize (c.map jg).sum=Rg at *;go_enter func38,ntmps38;go_wp2_with fail;go_loopw [1,5] (λk i wr=>∃j q:Nat,j<=n/\i=I (j:Int)/\k=I (q:Int)/\Hid (q=m+((c.take j).map jg).sum)/\Hid (Kn B w wr)) (λ_ i _=>n-(intOf i).toNat)
 case atStart=>exact⟨0,m,vZ _,rfl,rfl,by simp[Hid],Kn.refl⟩
 obtain⟨j,q,hj,rfl,rfl,hq,hK⟩:=hrel;by_cases eI:j<n
 rotate_left 1
 ·exact Qq
 have qB:(j:Int)<(n:Int):=oM;have⟨s,hs⟩:∃s,c[j]? = a_ s:=⟨_,fw (by have:=EN.o;omega)⟩;have hns:=HN.o s (my hs);have e1:=TS.o j s hs;have e2:=TL.o (j+1);have oB:q+6+s.eF.length<=1099511627776/\1<=q/\Hid (q+6+s.eF.length=m+((c.take (j+1)).map jg).sum):=by
  have:=hq.o;rw[e1] at e2;refine⟨?_,oM,?_⟩
  ·unfold jg at e2;unfold jg at this;omega
  show _=_;rw[e1];unfold jg;unfold jg at this;omega
 obtain⟨b1,b2,EQ⟩:=oB;rcases H.o.kn hK.o with e|⟨g,off,rfl,hM⟩
 ·rw[e] at hs;cases hs
 have M0:=hM j s hs;have MM:=zH M0;obtain⟨⟨⟨z0,c0⟩,f0,yx,En⟩,⟨an,c1,yg⟩,-⟩:=M0;have K1:=zH (Kn.set (w:=wr) yx c0 (AU z0 (q:Int)));have HI:=zH yg;go_wp2_with fail;generalize wr.setCell _ _=W1 at *;refine(adD (B:=B) an s.eF.length s.eF.length ((q:Int)+1) (HI.o.kn K1.o) hns oM oM).k λw2 k2=>?_;have K2:=zH (K1.o.trans k2);obtain⟨-,-,⟨⟨s2,c2⟩,f2,nQ,vV⟩,-⟩:=MM.o.kn K2.o;have⟨q2,rJ⟩:=jN (q+1+s.eF.length);have rm:(q:Int)+1+(s.eF.length:Int)=(q2:Int):=by rw[<- rJ.o];simp
 have l2:1<=q2/\q2+5<=1099511627776:=by have:=rJ.o;omega
 have⟨q6,Uw⟩:=jN (q2+4);have hq6:(q2:Int)+1+1+1+1=(q6:Int):=by rw[<- Uw.o];omega
 have l6:1<=q6/\q6+1<=1099511627776:=by have:=Uw.o;omega
 have EE:Hid (q6+1=m+((c.take (j+1)).map jg).sum):=by show _=_;have:=EQ.o;have:=rJ.o;have:=Uw.o;omega
 go_wp2_with fail;refine(MR q2 w2 l2.1 oM).mono ?_;rintro e w3 ⟨⟨tx,rfl⟩,b3⟩;have K3:=zH (K2.o.trans (Kn.of b3 (by have:=K2.o.fI.size;have:=hK.o.fI.size;omega)));obtain⟨-,-,⟨⟨s2,c2⟩,f2,nQ,vV⟩,⟨⟨z3,c3⟩,f3,-,-⟩,⟨⟨z4,c4⟩,f4,-,-⟩,⟨⟨z5,c5⟩,f5,-,-⟩,⟨⟨s6,c6⟩,f6,-,-⟩⟩:=MM.o.kn K3.o;go_wp2_with fail;have K7:Hid (Kn B wr ((((w3.setCell (Y g (off+j * 7+2)) (.string tx)).setCell (Y g (off+j * 7+3)) (I ((q2:Int)+1))).setCell (Y g (off+j * 7+3+1)) (I ((q2:Int)+1+1))).setCell (Y g (off+j * 7+3+2)) (I ((q2:Int)+1+1+1)))):=by
  have K4:=K3.o.trans (Kn.set nQ c2 (OQ s2 tx));have⟨z,hz⟩:=(MM.o.kn K4).2.2.2.1.1;have K5:=K4.trans (Kn.set nQ hz (AU z ((q2:Int)+1)));have⟨z,hz⟩:=(MM.o.kn K5).2.2.2.2.1.1;have K6:=K5.trans (Kn.set nQ hz (AU z ((q2:Int)+1+1)));have⟨z,hz⟩:=(MM.o.kn K6).2.2.2.2.2.1.1;exact K6.trans (Kn.set nQ hz (AU z ((q2:Int)+1+1+1)))
 generalize ez (ez (ez (ez w3 _ _) _ _) _ _) _ _=W7 at *;refine(MR q6 W7 l6.1 oM).mono ?_;rintro e w8 ⟨⟨ty,rfl⟩,b8⟩;have K8:=zH (K7.o.trans (Kn.of b8 (by have:=K7.o.fI.size;have:=hK.o.fI.size;omega)));obtain⟨-,-,-,-,-,-,⟨⟨s6,c6⟩,f6,LQ,Li⟩⟩:=MM.o.kn K8.o;have K9:=zH (hK.o.trans (K8.o.trans (Kn.set (o:=off+j * 7+3+3) LQ c6 (OQ s6 ty))));go_wp2;go_roundw
 case rel=>exact⟨j+1,q6+1,oM,gN,gN,EE,K9⟩
 simp[intOf];omega
end
end
section
variable {c:List Gv}
def Mj(B:Nat × Nat)(w:Wd)(b o:Nat)(g:Gv):Prop:=(∃a y,w.cell? (Y b o)=a_ (sX a g.test.length y)/\yG B w a g.test)/\(∃a y,w.cell? (Y b (o+1))=a_ (sX a g.eT.length y)/\yG B w a g.eT)/\b<w.1.size
def CM(B:Nat × Nat)(w:Wd)(x:oA)(c:List Gv):Prop:=c=[]\/∃g off,x=sY g off/\∀i s,c[i]? = a_ s->Mj B w g (off+i * 2) s
def nR(g:Gv):Nat:=(g.test.map jg).sum+(g.eT.map jg).sum
def D_(c:List Sv):Prop:=c.length<=1048576/\∀s∈c,s.eF.length<=1048576
section
variable {B:Nat × Nat} {w w':Wd}
def Mj.kn{b o:Nat}{g:Gv}(h:Mj B w b o g)(k:Kn B w w'):Mj B w' b o g:=by
 obtain⟨⟨a,y,h0,m0⟩,⟨a',y',h1,m1⟩,hl⟩:=h;exact⟨⟨a,y,((k.cl b o hl).2.2 _ _ _ h0).trans h0,m0.kn k⟩,⟨a',y',((k.cl b (o+1) hl).2.2 _ _ _ h1).trans h1,m1.kn k⟩,jL hl k.fI.size⟩
def CM.kn{x:oA}(h:CM B w x c)(k:Kn B w w'):CM B w' x c:=h.imp id λ⟨g,off,e,h⟩=>⟨g,off,e,λi s hi=>(h i s hi).kn k⟩
def XL.mg{ao:oA}{B:Nat}(h:XL QG 2 (Fr B w) w ao c):CM (B,w.1.size) w ao c:=by
 rcases h with h|⟨b,off,hB,rfl,hc⟩
 ·exact .inl h
 refine .inr ⟨b,off,rfl,λi s hs=>?_⟩;have⟨a1,c1,a2,c2,h0,h1,h2,h3⟩:=hc i s hs;exact⟨⟨a1,c1,h0,h2.ms⟩,⟨a2,c2,h1,h3.ms⟩,hB.2.1⟩
def acj(x:oA)(c:List Gv)(y m:Nat)(h:CM B w x c)(hB:B.1<=w.1.size)(hl:c.length<=1048576)(hn:∀g∈c,D_ g.test/\D_ g.eT)(h0:1<=m)(hb:m+(c.map nR).sum<=1099511627776):Cp 39 #[sX x c.length y,I (m:Int)] w λe w'=>e=rT (I ((m+(c.map nR).sum:Nat):Int))/\Kn B w w':=by
 have H:=zH h;have HN:=zH hn;clear h hn;have TS:=zH λ(k:Nat)(s:Gv) (hs:c[k]? = a_ s)=>CY nR hs;have TL:=zH λk=>C3 nR c k;have TE:Hid (∀k,k=c.length->((c.take k).map nR).sum=(c.map nR).sum):=λk e=>by rw[e,km]
 have⟨n,EN⟩:=jN (c.length);rw[EN.o] at hl TE ⊢;generalize (c.map nR).sum=Rg at *;go_enter func39,ntmps39;go_wp2_with fail;go_loopw [1,5] (λk i wr=>∃j q:Nat,j<=n/\i=I (j:Int)/\k=I (q:Int)/\Hid (q=m+((c.take j).map nR).sum)/\Hid (Kn B w wr)) (λ_ i _=>n-(intOf i).toNat)
 case atStart=>exact⟨0,m,vZ _,rfl,rfl,by simp[Hid],Kn.refl⟩
 obtain⟨j,q,hj,rfl,rfl,hq,hK⟩:=hrel;by_cases eI:j<n
 rotate_left 1
 ·exact Qq
 have qB:(j:Int)<(n:Int):=oM;have⟨s,hs⟩:∃s,c[j]? = a_ s:=⟨_,fw (by have:=EN.o;omega)⟩;have⟨n1,n2⟩:=HN.o s (my hs);have e1:=TS.o j s hs;have e2:=TL.o (j+1);have⟨b1,b2,EQ⟩:q+(s.test.map jg).sum+(s.eT.map jg).sum<=1099511627776/\1<=q/\Hid (q+(s.test.map jg).sum+(s.eT.map jg).sum=m+((c.take (j+1)).map nR).sum):=by
  have:=hq.o;rw[e1] at e2;refine⟨?_,oM,?_⟩
  ·simp only[nR] at e2 this;omega
  show _=_;rw[e1];simp only[nR] at this ⊢;omega
 rcases H.o.kn hK.o with e|⟨g,off,rfl,hM⟩
 ·rw[e] at hs;cases hs
 have MM:=zH (hM j s hs);have⟨⟨a1,y1,c1,m1⟩,⟨a2,y2,c2,m2⟩,hg⟩:=MM.o;have K1:=zH (M6 (B:=B) (w:=wr) a1 s.test y1 q m1 (jT hB hK.o.fI.size) n1.1 n1.2 b2 oM);have M2:=zH m2;have wB:=jT hB hK.o.fI.size;have⟨q1,sG⟩:=jN (q+(s.test.map jg).sum);have K2:Hid (∀W,Kn B wr W->Cp 38 #[sX a2 s.eT.length y2,I (q1:Int)] W λe w'=>e=rT (I ((q1+(s.eT.map jg).sum:Nat):Int))/\Kn B W w'):=λW k=>M6 (B:=B) (w:=W) a2 s.eT y2 q1 (M2.o.kn k) (jT wB k.fI.size) n2.1 n2.2 (by have:=sG.o;omega) (by have:=sG.o;omega);rw[sG.o] at K1;have⟨q2,rJ⟩:=jN (q1+(s.eT.map jg).sum);rw[rJ.o] at K2;have EE:Hid (q2=m+((c.take (j+1)).map nR).sum):=by show _=_;have:=EQ.o;have:=sG.o;have:=rJ.o;omega
 clear hM e1 e2 hq hs m1 m2 n1 n2 H HN TS TL TE EQ;generalize s.test.length=t1 at *;go_wp2_with fail;refine K1.o.k λw1 k1=>?_;have KK:=zH k1;obtain⟨-,⟨a2',y2',c2',-⟩,fR⟩:=MM.o.kn k1;have e3:=(k1.cl g _ hg).2.2 _ _ _ c2;rw[c2] at e3;clear k1 c1 c2 c2' K1;go_wp2_with fail;refine(K2.o _ KK.o).k λw2 k2=>?_;have K9:=zH (hK.o.trans (KK.o.trans k2));clear k2 e3 K2 KK hK MM;go_wp2;go_roundw
 case rel=>exact⟨j+1,q2,oM,gN,rfl,EE,K9⟩
 simp[intOf];omega
end
end
section
variable {c:List Pl.Tv}
def Mf(B:Nat × Nat)(w:Wd)(b o:Nat)(t:Pl.Tv):Prop:=Ki B w b o/\Kt B w b (o+1)/\(∃a y,w.cell? (Y b (o+2))=a_ (sX a t.code.length y)/\yG B w a t.code)/\(∃a y,w.cell? (Y b (o+3))=a_ (sX a t.gs.length y)/\CM B w a t.gs)
def CK(B:Nat × Nat)(w:Wd)(x:oA)(c:List Pl.Tv):Prop:=c=[]\/∃g off,x=sY g off/\∀i s,c[i]? = a_ s->Mf B w g (off+i * 4) s
def pI(t:Pl.Tv):Nat:=2+(t.code.map jg).sum+(t.gs.map nR).sum
def smT(t:Pl.Tv):Prop:=D_ t.code/\t.gs.length<=1048576/\∀g∈t.gs,D_ g.test/\D_ g.eT
section
variable {B:Nat × Nat} {w w':Wd}
def Mf.kn{b o:Nat}{t:Pl.Tv}(h:Mf B w b o t)(k:Kn B w w'):Mf B w' b o t:=by
 obtain⟨h0,h1,⟨a,y,h2,m2⟩,⟨a',y',h3,m3⟩⟩:=h;exact⟨h0.kn k,h1.kn k,⟨a,y,((k.cl b (o+2) h0.2.2.2).2.2 _ _ _ h2).trans h2,m2.kn k⟩,⟨a',y',((k.cl b (o+3) h0.2.2.2).2.2 _ _ _ h3).trans h3,m3.kn k⟩⟩
def CK.kn{x:oA}(h:CK B w x c)(k:Kn B w w'):CK B w' x c:=h.imp id λ⟨g,off,e,h⟩=>⟨g,off,e,λi s hi=>(h i s hi).kn k⟩
def XL.mt{ao:oA}{B:Nat}(h:XL QT 4 (Fr B w) w ao c):CK (B,w.1.size) w ao c:=by
 rcases h with h|⟨b,off,hB,rfl,hc⟩
 ·exact .inl h
 refine .inr ⟨b,off,rfl,λi s hs=>?_⟩;have⟨a1,c1,a2,c2,h0,h1,h2,h3,h4,h5⟩:=hc i s hs;exact⟨⟨⟨_,h0⟩,hB.2.2 _,⟨hB.1,hB.2.1⟩,hB.2.1⟩,⟨⟨_,h1⟩,hB.2.2 _,⟨hB.1,hB.2.1⟩,hB.2.1⟩,⟨a1,c1,h2,h4.ms⟩,⟨a2,c2,h3,h5.mg⟩⟩
def acK(x:oA)(c:List Pl.Tv)(y m:Nat)(h:CK B w x c)(hB:B.1<=w.1.size)(hl:c.length<=1048576)(hn:∀t∈c,smT t)(h0:1<=m)(hb:m+(c.map pI).sum<=1099511627776):Cp 14 #[sX x c.length y,I (m:Int)] w λe w'=>e=rT (I ((m+(c.map pI).sum:Nat):Int))/\Kn B w w':=by
 have H:=zH h;have HN:=zH hn;have TS:=zH λ(k:Nat)(s:Pl.Tv) (hs:c[k]? = a_ s)=>CY pI hs;have TL:=zH λk=>C3 pI c k;have TE:Hid (∀k,k=c.length->((c.take k).map pI).sum=(c.map pI).sum):=λk e=>by rw[e,km]
 have⟨n,EN⟩:=jN (c.length);rw[EN.o] at hl TE ⊢;generalize (c.map pI).sum=Rg at *;go_enter func14,ntmps14;go_wp2_with fail;go_loopw [1,5] (λk i wr=>∃j q:Nat,j<=n/\i=I (j:Int)/\k=I (q:Int)/\Hid (q=m+((c.take j).map pI).sum)/\Hid (Kn B w wr)) (λ_ i _=>n-(intOf i).toNat)
 case atStart=>exact⟨0,m,vZ _,rfl,rfl,by simp[Hid],Kn.refl⟩
 obtain⟨j,q,hj,rfl,rfl,hq,hK⟩:=hrel;by_cases eI:j<n
 rotate_left 1
 ·exact Qq
 have qB:(j:Int)<(n:Int):=oM;have⟨s,hs⟩:∃s,c[j]? = a_ s:=⟨_,fw (by have:=EN.o;omega)⟩;have⟨n1,n2,n3⟩:=HN.o s (my hs);have e1:=TS.o j s hs;have e2:=TL.o (j+1);have⟨b1,b2,EQ⟩:q+2+(s.code.map jg).sum+(s.gs.map nR).sum<=1099511627776/\1<=q/\Hid (q+2+(s.code.map jg).sum+(s.gs.map nR).sum=m+((c.take (j+1)).map pI).sum):=by
  have:=hq.o;rw[e1] at e2;refine⟨?_,oM,?_⟩
  ·simp only[pI] at e2 this;omega
  show _=_;rw[e1];simp only[pI] at this ⊢;omega
 rcases H.o.kn hK.o with e|⟨g,off,rfl,hM⟩
 ·rw[e] at hs;cases hs
 have MM:=zH (hM j s hs);obtain⟨⟨⟨z0,c0⟩,f0,yx,En⟩,-,⟨a1,y1,c1,m1⟩,⟨a2,y2,c2,m2⟩⟩:=MM.o;have wB:=jT hB hK.o.fI.size;have M1:=zH m1;have M2:=zH m2;have MH:=zH (jA c1 c2);have⟨q1,sG⟩:=jN (q+1);have⟨q2,rJ⟩:=jN (q1+1);have i1:(q:Int)+1=(q1:Int):=by rw[<- sG.o];simp
 have i2:(q1:Int)+1=(q2:Int):=by rw[<- rJ.o];simp
 have⟨q3,ME⟩:=jN (q2+(s.code.map jg).sum);have⟨q4,EQ4⟩:=jN (q3+(s.gs.map nR).sum);have K1:Hid (∀W,Kn B wr W->Cp 38 #[sX a1 s.code.length y1,I (q2:Int)] W λe w'=>e=rT (I (q3:Int))/\Kn B W w'):=λW k=>by
  have:=M6 (B:=B) (w:=W) a1 s.code y1 q2 (M1.o.kn k) (jT wB k.fI.size) n1.1 n1.2 (by have:=sG.o;have:=rJ.o;omega) (by have:=sG.o;have:=rJ.o;omega);rw[ME.o] at this;exact this
 have K2:Hid (∀W,Kn B wr W->Cp 39 #[sX a2 s.gs.length y2,I (q3:Int)] W λe w'=>e=rT (I (q4:Int))/\Kn B W w'):=λW k=>by
  have:=acj (B:=B) (w:=W) a2 s.gs y2 q3 (M2.o.kn k) (jT wB k.fI.size) n2 n3 (by have:=sG.o;have:=rJ.o;have:=ME.o;omega) (by have:=sG.o;have:=rJ.o;have:=ME.o;omega);rw[EQ4.o] at this;exact this
 have EE:Hid (q4=m+((c.take (j+1)).map pI).sum):=by show _=_;have:=EQ.o;have:=sG.o;have:=rJ.o;have:=ME.o;have:=EQ4.o;omega
 have lq:1<=q1/\q1<=1099511627776:=by have:=sG.o;omega
 have KA:=zH (Kn.set (w:=wr) yx c0 (AU z0 (q:Int)));go_wp2_with fail;generalize wr.setCell _ _=W1 at *;refine(MR q1 W1 lq.1 lq.2).mono ?_;rintro e w2 ⟨⟨tx,rfl⟩,b2⟩;have KB:=zH (KA.o.trans (Kn.of b2 (jT wB KA.o.fI.size)));obtain⟨-,⟨⟨s1,d1⟩,f1,EO,Em⟩,-⟩:=MM.o.kn KB.o;have KC:=zH (KB.o.trans (Kn.set EO d1 (OQ s1 tx)));have X1:=((KB.o.cl g _ En).2.2 _ _ _ MH.o.1).trans MH.o.1;go_wp2_with fail;generalize w2.setCell _ _=W3 at *;refine(K1.o _ KC.o).k λw4 k4=>?_;have KD:=zH (KC.o.trans k4);have X2:=((KD.o.cl g _ En).2.2 _ _ _ MH.o.2).trans MH.o.2;have hs4:=jL En KD.o.fI.size;go_wp2_with fail;refine(K2.o _ KD.o).k λw5 k5=>?_;have K9:=zH (hK.o.trans (KD.o.trans k5));go_wp2;go_roundw
 case rel=>exact⟨j+1,q4,oM,gN,rfl,EE,K9⟩
 simp[intOf];omega
end
end
section
variable {p:List Pl.Tv}
def Pl.AB{c:List Sv}(h:Small c):Sz c:=⟨h.len,λs hs=>h.eF hs⟩
def Pl.aea(h:qk p):SzT p:=⟨h.len,λs hs=>⟨AB (h.st s hs).code,h.gl hs,λg hg=>⟨AB ((h.st s hs).gs g hg).1,AB ((h.st s hs).gs g hg).2⟩⟩⟩
def aeg(h:qk p):∀t∈p,smT t:=λt ht=>⟨AB (h.st t ht).code,h.gl ht,λg hg=>⟨AB ((h.st t ht).gs g hg).1,AB ((h.st t ht).gs g hg).2⟩⟩
def I9{α:Type}{f g:α->Nat}(h:∀x,f x<=6+6 * g x):∀c:List α,(c.map f).sum<=6 * (c.length+(c.map g).sum)
 |[]=>sI
 |x::c=>by
  rw[oH,oH,yZ,yZ,fW];have:=h x;have:=I9 h c;omega
def alk(h:¬Pl.sb 1048576 (wP p)<0):(p.map pI).sum<=6291456:=by
 have hs (c:List Sv):(c.map jg).sum<=6 * wC c:=I9 (g:=iK) (λs=>by unfold jg iK;omega) c;have hg (c:List Gv):(c.map nR).sum<=6 * tu c:=I9 (g:=wG) (λg=>by have:=hs g.test;have:=hs g.eT;unfold nR wG;omega) c;have hp:(p.map pI).sum<=6 * wP p:=I9 (g:=wT) (λt=>by have:=hs t.code;have:=hg t.gs;unfold pI wT;omega) p;unfold Pl.sb at h;split at h <;> omega
end
section
open Go.ChangeShapes Go.WideShapes Go.ChangeAt Go.RowKit Go.Joins
set_option maxRecDepth 100000
set_option maxHeartbeats 16000000
set_option maxRecDepth 100000
open World renaming setCell->ez,alloc->ew
open List renaming range->eA,replicate->eE
open Option renaming some->a_,none->c_
open Bool renaming true->b_,false->d_
variable {n base:Nat}{v:Va}{cs:List Va}{q:List MemPlace}
def Tryz.Dt:prog.cellsOf 3=1:=kF
def Tryz.Hz:prog.cellsOf 9=1:=kF
def Tryz.aic:prog.cellsOf 23=1:=kF
def Tryz.XK:prog.cellsOf 47=1:=kF
def Tryz.aib:prog.cellsOf 48=1:=kF
def Tryz.agJ:prog.cellsOf 120=4:=kF
def Tryz.WK:prog.cellsOf 122=7:=kF
def Tryz.WJ:prog.cellsOf 125=2:=kF
def Tryz.XJ:prog.cellsOf 50=4:=kF
def FH{H:Type}{enc:TypeId × Va->H}{W:Wd}{held:Bool}{α:Type}(α0:α){t e:TypeId}{z:Nat}(hu:prog.underlying t=a_ (.slice e))(hz:prog.cellsOf e=z)(Tw:0<z)(F:List Va->α->Prop)
  (hF:∀n cs y,DataW.trod enc prog W 0 (λ_=>b_) held n e cs=a_ y->∃s,F cs s) {n:Nat} {v:Va} {y:DataW H × List MemPlace} (h:DataW.trod enc prog W 0 (λ_=>b_) held n t [v]=a_ y) :
  ∃(ao:oA)(cap:Nat) (c:List α),v=sX ao c.length cap/\(c.length<=cap/\cap<=9223372036854775807)/\(∀s∈c,∃cs,F cs s)/\(c=[]\/∃b off,b<W.1.size/\ao=sY b off/\∀(i:Nat)(s:α),c[i]? = a_ s->∃cs,F cs s/\∀j,j<z->W.cell? (Y b (off+i * z+j))=cs[j]?):=by
 rcases Go.Deep.open_slice hu h with ⟨j9,_⟩|⟨a,len,cap,m,n',D,P,j9,_,hl,hm,qA,_,hx⟩
 ·simp at j9
  subst j9;exact⟨c_,0,[],rfl,sI,(λs hs=>by cases hs),.inl rfl⟩
 simp at j9
 subst j9;simp only[kI] at qA;unfold maxLen at hm;have each:∀i,∃s:α,i<len->∃cs,cs.length=z/\F cs s/\∀j,j<z->W.cell? (a.add (i * z+j))=cs[j]?:=by
  intro i;by_cases hi:i<len
  ·have⟨Ae,h1,h2⟩:=hx i oM
   have⟨s,hs⟩:=hF _ _ _ h2;rw[hz] at h1;have⟨_,hlen,vC⟩:=World.cells?_some h1;refine⟨s,λ_=>⟨Ae,hlen,hs,λj hj=>?_⟩⟩;have:=vC j hj;rwa [Go.Deep.add_add] at this
  exact⟨α0,λh=>absurd h hi⟩
 have⟨f,hf⟩:∃f:Nat->α,∀i,i<len->∃cs,cs.length=z/\F cs (f i)/\∀j,j<z->W.cell? (a.add (i * z+j))=cs[j]?:=⟨λi=>Classical.choose (each i),λi=>Classical.choose_spec (each i)⟩;have hlen:((eA len).map f).length=len:=sI;have wg:∀i s,((eA len).map f)[i]? = a_ s->i<len/\f i=s:=by
  intro i s hs;have hi:i<((eA len).map f).length:=(gQ.1 hs).1;rw[hlen] at hi;refine⟨hi,?_⟩;simp[hi] at hs
  exact hs
 refine⟨a_ a,cap,(eA len).map f,by rw[hlen],⟨by rw[hlen];exact hl,oM⟩,λs hs=>?_,?_⟩
 ·obtain⟨i,hi,rfl⟩:=mu.1 hs
  have⟨cs,_,h1,_⟩:=hf i (qV.1 hi);exact⟨cs,h1⟩
 by_cases h0:len=0
 ·subst h0
  exact .inl rfl
 obtain⟨b,off,spot⟩:=a;have⟨cs,gK,_,hc⟩:=hf 0 oM;have hc:=hc 0 Tw;rw[fw oM] at hc;have Qg:spot=c_:=by simpa[Addr.add] using World.cell?_spot hc
 subst Qg;refine .inr ⟨b,off,?_,rfl,λi s hi=>?_⟩
 ·have:=PL _ _ hc
  simpa[Addr.add] using this
 obtain⟨eI,rfl⟩:=wg i s hi;have⟨cs,_,h1,h2⟩:=hf i eI;refine⟨cs,h1,λj hj=>?_⟩;have:=h2 j hj;rw[vN] at this;rw[PV];exact this
section
variable {H:Type} {enc:TypeId × Va->H} {W:Wd} {held:Bool}
def UF{y:DataW H × List MemPlace}(h:DataW.trod enc prog W 0 (λ_=>b_) held n 23 [v]=a_ y):
  ∃(ao:oA)(cap:Nat) (c:lI),v=sX ao c.length cap/\(c.length<=cap/\cap<=9223372036854775807)/\j' W.1.size W ao c:=by
 obtain⟨ao,cap,c,e,hl,_,hr⟩:=FH (0:Int) underlying23 Tryz.Dt dC (λcs x=>cs=[I x]) (λn cs y h=>by
  have⟨x,e,_,_⟩:=qS underlying3 h;exact⟨x,e⟩) h
 refine⟨ao,cap,c,e,hl,?_⟩;rcases hr with hr|⟨b,off,hb,ea,hc⟩
 ·exact .inl hr
 refine .inr ⟨b,off,hb,ea,λi x hi=>?_⟩;obtain⟨cs,rfl,h1⟩:=hc i x hi;simpa using h1 0 dC
def FS(W:Wd)(cs:List Va)(s:Sv):Prop:=Kx s/\∃an cn,cs=[I s.k,sX an s.eF.length cn,.string (Pl.ba s.nm),I s.fn.k,I s.fn.a,I s.fn.b,.string (Pl.ba s.fn.nm)]/\j' W.1.size W an s.eF
def ab2{y:DataW H × List MemPlace}(h:DataW.trod enc prog W 0 (λ_=>b_) held n 122 cs=a_ y):∃s,FS W cs s:=by
 have⟨y0,y1,y2,y3,n,_,hl,h0,h1,h2,h3⟩:=trod_struct4 underlying122 h;rw[Tryz.WK] at hl;match cs,hl with
 |[c0,c1,c2,c3,c4,c5,c6],_ =>
  simp[Tryz.Dt,Tryz.Hz,Tryz.aic,Tryz.agJ] at h0 h1 h2 h3
  have⟨z0,z1,z2,z3,n2,_,_,g0,g1,g2,g3⟩:=trod_struct4 underlying120 h3;simp[Tryz.Dt,Tryz.Hz] at g0 g1 g2 g3
  obtain⟨k,e0,_,_⟩:=qS underlying3 h0;obtain⟨an,cn,l,rfl,hl,hr⟩:=UF h1;obtain⟨s2,e2,_,z2⟩:=Ig underlying9 h2;have⟨fk,e3,_,_⟩:=qS underlying3 g0;obtain⟨fa,e4,_,_⟩:=qS underlying3 g1;have⟨fb,e5,_,_⟩:=qS underlying3 g2;have⟨s6,e6,_,z6⟩:=Ig underlying9 g3;simp at e0 e2 e3 e4 e5 e6
  unfold maxLen at z2 z6;rw[sP] at z2 z6;exact⟨⟨k,l,s2.data.toList,⟨fk,fa,fb,s6.data.toList⟩⟩,⟨by simp only;omega,by simp only;omega,by simp only;omega⟩,an,cn,by rw[e0,e2,e3,e4,e5,e6];rfl,hr⟩
def MY{y:DataW H × List MemPlace}(h:DataW.trod enc prog W 0 (λ_=>b_) held n 47 [v]=a_ y):
  ∃(ao:oA)(cap:Nat) (c:List Sv),v=sX ao c.length cap/\Ec c/\gf W.1.size W ao c:=by
 obtain⟨ao,cap,c,e,hl,ho,hr⟩:=FH (⟨0,[],[],⟨0,0,0,[]⟩⟩:Sv) underlying47 Tryz.WK dC (FS W) (λn cs y h=>ab2 h) h;refine⟨ao,cap,c,e,⟨oM,λs hs=>(ho s hs).choose_spec.1⟩,?_⟩;rcases hr with hr|⟨b,off,hb,ea,hc⟩
 ·exact .inl hr
 refine .inr ⟨b,off,hb,ea,λi s hi=>?_⟩;obtain⟨cs,⟨_,an,cn,rfl,hr⟩,h1⟩:=hc i s hi;exact⟨an,cn,h1 0 dC,h1 1 dC,h1 2 dC,h1 3 dC,h1 4 dC,h1 5 dC,h1 6 dC,hr⟩
def FG(W:Wd)(cs:List Va)(s:Gv):Prop:=Ky s/\∃a1 c1 a2 c2,cs=[sX a1 s.test.length c1,sX a2 s.eT.length c2]/\gf W.1.size W a1 s.test/\gf W.1.size W a2 s.eT
def abU{y:DataW H × List MemPlace}(h:DataW.trod enc prog W 0 (λ_=>b_) held n 125 cs=a_ y):∃s,FG W cs s:=by
 have⟨y0,y1,n,_,hl,h0,h1⟩:=trod_struct2 underlying125 h;rw[Tryz.WJ] at hl;match cs,hl with
 |[c0,c1],_ =>
  simp[Tryz.XK] at h0 h1
  obtain⟨a1,d1,l1,rfl,o1,r1⟩:=MY h0;obtain⟨a2,d2,l2,rfl,o2,r2⟩:=MY h1;exact⟨⟨l1,l2⟩,⟨o1,o2⟩,a1,d1,a2,d2,rfl,r1,r2⟩
def abx{y:DataW H × List MemPlace}(h:DataW.trod enc prog W 0 (λ_=>b_) held n 48 [v]=a_ y):
  ∃(ao:oA)(cap:Nat) (c:List Gv),v=sX ao c.length cap/\QQ c/\iG W.1.size W ao c:=by
 obtain⟨ao,cap,c,e,hl,ho,hr⟩:=FH (⟨[],[]⟩:Gv) underlying48 Tryz.WJ dC (FG W) (λn cs y h=>abU h) h;refine⟨ao,cap,c,e,⟨oM,λs hs=>(ho s hs).choose_spec.1⟩,?_⟩;rcases hr with hr|⟨b,off,hb,ea,hc⟩
 ·exact .inl hr
 refine .inr ⟨b,off,hb,ea,λi s hi=>?_⟩;obtain⟨cs,⟨_,a1,c1,a2,c2,rfl,r1,r2⟩,h1⟩:=hc i s hi;exact⟨a1,a2,c1,c2,h1 0 dC,h1 1 dC,r1,r2⟩
def FT(W:Wd)(cs:List Va)(s:Pl.Tv):Prop:=Kw s/\∃a1 c1 a2 c2,cs=[I s.k,.string (Pl.ba s.nm),sX a1 s.code.length c1,sX a2 s.gs.length c2]/\gf W.1.size W a1 s.code/\iG W.1.size W a2 s.gs
def ab1{y:DataW H × List MemPlace}(h:DataW.trod enc prog W 0 (λ_=>b_) held n 50 cs=a_ y):∃s,FT W cs s:=by
 have⟨y0,y1,y2,y3,n,_,hl,h0,h1,h2,h3⟩:=trod_struct4 underlying50 h;rw[Tryz.XJ] at hl;match cs,hl with
 |[c0,c1,c2,c3],_ =>
  simp[Tryz.Dt,Tryz.Hz,Tryz.XK,Tryz.aib] at h0 h1 h2 h3
  obtain⟨k,e0,_,_⟩:=qS underlying3 h0;obtain⟨s1,e1,_,z1⟩:=Ig underlying9 h1;obtain⟨a1,d1,l1,rfl,o1,r1⟩:=MY h2;obtain⟨a2,d2,l2,rfl,o2,r2⟩:=abx h3;simp at e0 e1
  unfold maxLen at z1;rw[sP] at z1;exact⟨⟨k,s1.data.toList,l1,l2⟩,⟨by simp only;omega,o1,o2⟩,a1,d1,a2,d2,by rw[e0,e1];rfl,r1,r2⟩
def ab9{y:DataW H × List MemPlace}(h:DataW.trod enc prog W 0 (λ_=>b_) held n 22 [v]=a_ y):
  ∃(ao:oA)(cap:Nat) (c:List Pl.Tv),v=sX ao c.length cap/\DX c/\jF W.1.size W ao c:=by
 obtain⟨ao,cap,c,e,hl,ho,hr⟩:=FH (⟨0,[],[],[]⟩:Pl.Tv) underlying22 Tryz.XJ dC (FT W) (λn cs y h=>ab1 h) h;refine⟨ao,cap,c,e,⟨oM,λs hs=>(ho s hs).choose_spec.1⟩,?_⟩;rcases hr with hr|⟨b,off,hb,ea,hc⟩
 ·exact .inl hr
 refine .inr ⟨b,off,hb,ea,λi s hi=>?_⟩;obtain⟨cs,⟨_,a1,c1,a2,c2,rfl,r1,r2⟩,h1⟩:=hc i s hi;exact⟨a1,a2,c1,c2,h1 0 dC,h1 1 dC,h1 2 dC,h1 3 dC,r1,r2⟩
open Pl (Ar) in
def ac5{d:DataW H}(hv:Value.okWide prog W .any base 25 v)(h:DataW.Trod enc prog W 0 (λ_=>b_) held 25 v d q):∃(v0 v1:Va)(a:Ar),v=.agg #[v0,v1]/\RA (λb=>b<W.1.size) W v0 v1 a:=by
 have r {n:Nat} {v:Va} {y:DataW H × List MemPlace} (h:DataW.trod enc prog W 0 (λ_=>b_) held n 23 [v]=a_ y):∃c,Ri (λb=>b<W.1.size) W v c:=by
  obtain⟨ao,cap,c,e,hl,hr⟩:=UF h;exact⟨c,ao,cap,e,hl.1,hl.2,hr.imp id λ⟨b,o,hb,e,hc⟩=>⟨b,o,e,⟨hb,hb⟩,hc⟩⟩
 obtain⟨c0,c1,y0,y1,m,rfl,_,_,hy0,hy1⟩:=open_agg2 underlying25 kF kF hv h;have⟨x,h0⟩:=r hy0;have⟨y,h1⟩:=r hy1;exact⟨c0,c1,(x,y),rfl,h0,h1⟩
def acL{d:DataW H}(hv:Value.okWide prog W .any base 27 v)(h:DataW.Trod enc prog W 0 (λ_=>b_) held 27 v d q):∃L:Lm,v=jO L:=by
 obtain⟨u0,u1,u2,u3,y0,y1,y2,y3,m,rfl,_,_,t0,t1,t2,t3⟩:=open_agg4 underlying27 kF kF hv h;have⟨f,e0,_,_⟩:=qS underlying3 t0;have⟨c,e1,_,_⟩:=qS underlying3 t1;have⟨b,e2,_⟩:=DataW.trod_bool underlying4 t2;have⟨s,e3,_,_⟩:=qS underlying3 t3;simp only[List.cons.injEq,and_true] at e0 e1 e2 e3;exact⟨⟨f,c,b,s⟩,by rw[e0,e1,e2,e3]⟩
end
end
section
def CT(B:Nat)(w:Wd)(r:Option Pl.Tv)(e:Ending)(w':Wd):Prop:=Below w.1.size w w'/\match r with
 |some f=>∃a1 c1 a2 c2,e=rT (.tuple #[D9 f a1 c1 a2 c2,.bool b_])/\gf B w' a1 f.code/\iG B w' a2 f.gs
 |none=>∃k s a1 n1 c1 a2 n2 c2,e=rT (.tuple #[.agg #[I k,.string s,sX a1 n1 c1,sX a2 n2 c2],.bool d_])
def aeO{B:Nat}(L:Lm)(u:UV)(x:lJ)(w:Wd)(fs:List Pl.Tv)(a:oA)(c:Nat)(e0:u.fs=sX a fs.length c)(hB:B<=w.1.size)(h:jF B w a fs)(hl:fs.length<=1048576)(hx:¬x=lL):
  Cp 101 #[uV L u,.string (Pl.ba x)] w (CT B w (jP (·.nm) fs x fs.length)):=by
 cases L with | mk lf lc lr ls =>
 cases u with | mk Km Kl Ko w0 w1 a0 a1 own sk sn sc sg cl =>
 simp only at e0;subst e0;have Ep:((Pl.ba x).toList == [115,101,108,102])=d_:=by rw[uh];exact fH hx
 have HS:=zH (NC (λp:Pl.Tv=>p.nm) fs x);have⟨r,HN⟩:∃r,Hid (r=jP (·.nm) fs x fs.length):=⟨_,rfl⟩;rw[<- HN.o];clear hx;have HX:Hid (∀i,i<fs.length->∃b o p a1 a2 c1 c2,a=sY b o/\b<w.1.size/\fs[i]? = a_ p/\Sm B w b (o+i * 4) p a1 a2 c1 c2):=λi hi=>by
  rcases h with h|⟨b,o,hb,e,hc⟩
  ·simp[h] at hi
  obtain⟨a1,a2,c1,c2,k⟩:=hc i _ (fw hi);exact⟨b,o,_,a1,a2,c1,c2,e,jL hb hB,fw hi,k⟩
 generalize fs.length=n at *;clear h;go_enter func101,ntmps101;go_wp2;go_loop [6] (λi=>∃m:Nat,m<=n/\i=I ((m:Int)-1)/\Hid (r=jP (·.nm) fs x m)) (λi=>(intOf i+1).toNat)
 case atStart=>exact⟨n,jR _,rfl,HN⟩
 obtain⟨m,hm,rfl,hr⟩:=hrel
 cases m with
 |zero =>
  go_wp2;go_returns
  rw[hr.o];exact⟨gG,_,_,_,_,_,_,_,_,rfl⟩
 |succ i =>
  obtain⟨b,o,p,a1,a2,c1,c2,rfl,hb,hp,sm⟩:=HX.o i oM;have h2:=HS.o i p hp;have eq:=aaw p.nm x;have RR:=zH sm;have k0:=sm.k;have k1:=sm.nm;have k2:=sm.c;have k3:=sm.g;have e1:(((i+1:Nat):Int)-1)=(i:Int):=oM;rw[e1];clear e1 sm;by_cases hx:p.nm=x
  ·rw[eD hx] at h2
   have eN:Hid (r=a_ p):=by rw[hr.o,h2];rfl
   rw[fM hx] at eq;clear h2 hx;go_wp2;go_returns
   rw[eN.o];exact⟨gG,_,_,_,_,rfl,RR.o.rc.eG gG,RR.o.rg.eG gG⟩
  rw[eB hx] at h2;rw[fH hx] at eq;have eN:Hid (r=jP (·.nm) fs x i):=by rw[hr.o,h2];exact rfl
  clear h2 hx;go_wp2;go_round
  case rel=>exact⟨i,oM,gN,eN⟩
  simp[intOf]
def aeN{B:Nat}(L:Lm)(u:UV)(w:Wd)(self:Option Pl.Tv)(hB:B<=w.1.size) (h:match self with
  |some f=>f.k=3/\u.sk=f.k/\u.sn=Pl.ba f.nm/\∃a1 c1 a2 c2,u.sc=sX a1 f.code.length c1/\u.sg=sX a2 f.gs.length c2/\gf B w a1 f.code/\iG B w a2 f.gs
  |none=>¬u.sk=3/\∃a1 n1 c1 a2 n2 c2,u.sc=sX a1 n1 c1/\u.sg=sX a2 n2 c2) :
  Cp 101 #[uV L u,.string (Pl.ba lL)] w (CT B w self):=by
 cases L with | mk lf lc lr ls =>
 cases u with | mk Km Kl Ko w0 w1 a0 a1 own sk sn sc sg cl =>
 have Ep:((Pl.ba lL).toList == [115,101,108,102])=b_:=by rw[uh];rfl
 cases self with
 |none =>
  obtain⟨hk,a1,n1,c1,a2,n2,c2,e1,e2⟩:=h;simp only at e1 e2 hk;subst e1 e2;have Ew:(sk == 3)=d_:=gR.2 hk;go_enter func101,ntmps101;go_wp2;go_region
  all_goals
   go_wp2;go_returns
   exact⟨gG,_,_,_,_,_,_,_,_,rfl⟩
 |some f =>
  obtain⟨hk,e0,e3,a1,c1,a2,c2,e1,e2,r1,r2⟩:=h;simp only at e0 e1 e2 e3;subst e0 e1 e2 e3;have R1:=zH r1;have R2:=zH r2;have Ew:(f.k == 3)=b_:=by simpa using hk
  clear r1 r2 hk;go_enter func101,ntmps101;go_wp2;go_region
  all_goals
   go_wp2;go_returns
   exact⟨gG,_,_,_,_,rfl,R1.o.eG gG,R2.o.eG gG⟩
section
open Pl (Ar)
variable {K:Ks} {P:nK} {w W:Wd} {u:UV} {G:Pl.Gb} {own:List Ar} {eO:Option Pl.Tv} {d:Nat}
def Wr(L:Lm)(x:lJ)(h:Eu K P w u G own eO d)(hW:Bl w W):Cp 101 #[uV L u,.string (Pl.ba x)] W (CT w.1.size W (mX G.fs eO x)):=by
 unfold mX;by_cases hx:x=lL
 ·subst hx
  rw[eD rfl];refine aeN L u W eO hW.size ?_;have:=h.sf
  cases eO with
  |none=>exact this
  |some f=>obtain⟨h1,h2,h3,a1,c1,a2,c2,e1,e2,r1,r2⟩:=this;exact⟨h1.1,h2,h3,a1,c1,a2,c2,e1,e2,r1.eG hW,r2.eG hW⟩
 rw[eB hx];have⟨a,c,e,hf⟩:=h.fn;exact aeO L u x W G.fs a c e hW.size (hf.eG hW) h.fl.1 hx
def ahZ(x:lJ)(h:Eu K P w u G own eO d){f:Pl.Tv}(hf:mX G.fs eO x=a_ f):t_ f:=by
 unfold mX at hf;split at hf
 ·subst hf
  exact h.sf.1
 exact h.fl.2 f (N7 hf)
end
end
open Pl (Ar)
section
structure Fc(w:Wd)(c0 c1 c2 c3:aV)(W:Wd):Prop where
 bl:Below w.1.size w W
 b0:Bx W w.1.size c0 64
 b1:Bx W (w.1.size+1) c1 62
 b2:Bx W (w.1.size+1+1) c2 30
 b3:Bx W (w.1.size+1+1+1) c3 30
 b4:Bx W (w.1.size+1+1+1+1) nN 30
 b5:Bx W (w.1.size+1+1+1+1+1) (fA 0 0 0 0 0) 64
section
variable {w W W':Wd} {c0 c1 c2 c3:aV}
def Fc.call(h:Fc w c0 c1 c2 c3 W)(hb:Bl W W'):Fc w c0 c1 c2 c3 W' :=
 ⟨bv hb h.bl,h.b0.below hb,h.b1.below hb,h.b2.below hb,h.b3.below hb,h.b4.below hb,h.b5.below hb⟩
def Fc.new(c0 c1 c2 c3:aV):Fc w c0 c1 c2 c3 ((((((w.alloc (.cells c0 64)).alloc (.cells c1 62)).alloc (.cells c2 30)).alloc (.cells c3 30)).alloc (.cells nN 30)).alloc (.cells (fA 0 0 0 0 0) 64)) :=
 ⟨gG,.al (.al (.al (.al (.al (.eK rfl) _) _) _) _) _,.al (.al (.al (.al (.eK sI) _) _) _) _,.al (.al (.al (.eK sI) _) _) _,.al (.al (.eK sI) _) _,.al (.eK sI) _,.eK sI⟩
end
def aji.Yf(h:ρ:=by
 rintro e w1 ⟨hb,k,s,a1,p1,c1,a2,p2,c2,rfl⟩;have F1:=zH ((F0.o.call hb).call (W':=w1.alloc (.cells #[I k,.string s,sX a1 p1 c1,sX a2 p2 c2] 60)) gG);go_wp2_with fail;generalize w1.alloc _=W2 at *;have KK:=zH λW=>wZ mf mc ms 0 0 10 W;exact aam
 ):ρ:=h
def UZ{K:Ks}{P:nK}{w:Wd}{u:UV}(L:Lm)(m:Ms)(nm:lJ)(ow:Int)(x0 x1 x2 x3:oA)(n0 n1 n2 n3 y0 y1 y2 y3:Nat)(hm:gL m)
  (KF:∀W,Bl w W->Cp 101 #[uV L u,.string (Pl.ba nm)] W (CT w.1.size W c_)) :
  Cp 75 #[eW m.f m.c m.s 0 0,uV L u,.string (Pl.ba nm),I ow,.agg #[sX x0 n0 y0,sX x1 n1 y1],.agg #[sX x2 n2 y2,sX x3 n3 y3]] w (EPost K P w (.error (2,10),m)):=by
 open aji in exact Y_
end
def ajh.Yf(h:ρ:=by
 rintro e w1 ⟨hb,a1,c1,a2,c2,rfl,_,_⟩;have F1:=zH ((F0.o.call hb).call (W':=w1.alloc (.cells #[I f.k,.string (Pl.ba f.nm),sX a1 f.code.length c1,sX a2 f.gs.length c2] 60)) gG);obtain⟨d1,f1,z1⟩:=(F0.o.call hb).b1.all;go_wp2_with fail;generalize w1.alloc _=W2 at *;have KK:=zH λW=>wZ mf mc ms 0 0 13 W;exact aam
 ):ρ:=h
def acM{K:Ks}{P:nK}{w:Wd}{u:UV}(L:Lm)(m:Ms)(nm:lJ)(ow:Int)(x0 x1 x2 x3:oA)(n0 n1 n2 n3 y0 y1 y2 y3:Nat)(hm:gL m)(f:Pl.Tv)(jy:50<=u.cl)
  (KF:∀W,Bl w W->Cp 101 #[uV L u,.string (Pl.ba nm)] W (CT w.1.size W (a_ f))) :
  Cp 75 #[eW m.f m.c m.s 0 0,uV L u,.string (Pl.ba nm),I ow,.agg #[sX x0 n0 y0,sX x1 n1 y1],.agg #[sX x2 n2 y2,sX x3 n3 y3]] w (EPost K P w (.error (2,13),m)):=by
 open ajh in exact Y_
end Go.Proofs.YtiagfejlmafliaaGreatDoor
