import Derived.Test.YtiagfejlmafliaaGreatDoorBx
namespace Go.Proofs.YtiagfejlmafliaaGreatDoor
set_option linter.all false
open Go.Proofs.Tryz Pl
open Go.RowKit
set_option maxRecDepth 100000
set_option maxHeartbeats 16000000
open Pl (Ar)
open World renaming setCell->ez,alloc->ew
open List renaming range->eA,replicate->eE
open Option renaming some->a_,none->c_
open Bool renaming true->b_,false->d_
section
variable {x:oA}{n y:Nat}
section
variable {P:nK} {w w':Wd} {zs:lI}
def Rw.at(h:Rw P w (sX x n y) zs){i:Nat}{v:Int}(hi:zs[i]? = a_ v):∃b o,x=sY b o/\b<w.1.size/\w.cell? (Y b (o+i))=a_ (I v):=by
 obtain⟨a,k,e,h|⟨b,o,e',hb,hc⟩⟩:=h
 ·rw[h] at hi;cases hi
 simp only[s7] at e;exact⟨b,o,e.1.trans e',hb.2,hc i v hi⟩
def gF{α:Type}{l:List α}{k:Nat}(h:l.length=n)(hk:k<n):∃x,l[k]? = a_ x:=⟨_,fw oM⟩
def Rw.len(h:Rw P w (sX x n y) zs):zs.length=n:=by
 obtain⟨a,k,e,_⟩:=h;simp only[s7] at e;exact e.2.1.symm
def wU(v:Va)(h:Rw P w v zs)(hl:zs.length<=1048576)(hr:zs.all Pl.jc=b_):Cp 48 #[v] w λe w'=>e=rT (I (Pl.mq zs))/\w'=w:=by
 have⟨n,HN⟩:=jN (zs.length);have H:=zH h;obtain⟨x,y,rfl,_⟩:=h;have HR:=zH hr;rw[HN.o] at hl H ⊢;go_enter func48,ntmps48;go_wp2;go_loop [3,4] (λp i=>∃k:Nat,k<=n/\i=I k/\∃q,p=I q/\Hid (q=Pl.mq (zs.take k))) (λ_ i=>n-(intOf i).toNat)
 case atStart=>exact⟨0,vZ _,rfl,1,rfl,rfl⟩
 obtain⟨k,hk,rfl,q,rfl,hq⟩:=hrel;by_cases eI:k<n
 rotate_left 1
 ·go_wp2
  go_returns
  refine⟨jq ?_,rfl⟩;rw[hq.o,mR JH]
 have⟨z,hz⟩:=gF HN.o eI;obtain⟨b,o,rfl,hb,hc⟩:=H.o.at hz;obtain⟨x0,x1⟩:=Pl.rM (Pl.oG HR.o hz);obtain⟨p0,p1⟩:=Pl.Nw _ (Pl.Gp HR.o k);rw[<- hq.o] at p0 p1;have⟨m0,m1⟩:=Pl.AT p0 p1 x0 x1;have HS:Hid (Pl.mq (zs.take (k+1))=if 1000<q * z then 1001 else q * z):=by
  show _=_;rw[Pl.vq hz,Pl.ads,<- hq.o];rfl
 by_cases hg:1000<q * z
 all_goals
  go_wp2;go_round
  case rel=>exact⟨k+1,by omega,by go_num,_,rfl,by show _=_;rw[HS.o];simp[hg]⟩
  simp[intOf];omega
def Nc(v:Va)(h:Rw P w v zs):Cp 47 #[v] w λe w'=>e=rT (.bool (Pl.fy zs))/\w'=w:=by
 have⟨n,HN⟩:=jN (zs.length);have K:=zH λhl hr=>wU v h hl hr;have H:=zH h;obtain⟨x,y,rfl,_⟩:=h;have⟨r,HF⟩:=jN (Pl.fy zs);rw[HF.o];rw[HN.o] at H K ⊢;by_cases h3:3<n
 ·have:r=d_:=by rw[<- HF.o];simp[Pl.fy,Pl.gV,HN.o];omega
  subst this;go_enter func47,ntmps47;exact mM
 go_enter func47,ntmps47;go_wp2;go_loop [3] (λi=>∃k:Nat,k<=n/\i=I k/\Hid ((zs.take k).all Pl.jc=b_)) (λi=>n-(intOf i).toNat)
 case atStart=>exact⟨0,vZ _,rfl,rfl⟩
 obtain⟨k,hk,rfl,hA⟩:=hrel;by_cases eI:k<n
 ·exact aag
 have HA:Hid (zs.all Pl.jc=b_):=by
  have:=hA.o;rw[mR JH] at this;exact this
 go_wp2_with (go_at_call 48;refine(K.o oM HA.o).mono ?_;rintro e w' ⟨rfl,rfl⟩)
 go_returns
 refine⟨iD ?_,rfl⟩;rw[<- HF.o,Pl.al0 (by simp[Pl.gV,HA.o,HN.o];omega)]
def qJ(v:Va)(h:Rw P w v zs)(hr:Pl.gV zs=b_):Cp 54 #[v] w λe w'=>e=rT (I (Pl.eR zs))/\w'=w:=by
 have⟨n,HN⟩:=jN (zs.length);have H:=zH h;obtain⟨x,y,rfl,_⟩:=h;have hl:zs.length<=3:=by simp only[Pl.gV,fO,fQ] at hr;exact hr.1
 have HR:=zH hr;rw[HN.o] at hl H ⊢;go_enter func54,ntmps54;go_wp2;go_loop [3,5,8] (λp _ i=>∃k:Nat,k<=n/\i=I k/\∃q,p=I q/\Hid (q=Pl.eR (zs.take k))) (λ_ _ i=>n-(intOf i).toNat)
 case atStart=>exact⟨0,vZ _,rfl,1,rfl,rfl⟩
 obtain⟨k,hk,rfl,q,rfl,hq⟩:=hrel;by_cases eI:k<n
 ·have⟨z,hz⟩:=gF HN.o eI
  obtain⟨b,o,rfl,hb,hc⟩:=H.o.at hz;have⟨m0,m1⟩:=(Pl.uc _ (Pl.afb HR.o (k+1))).1;have HS:Hid (Pl.eR (zs.take (k+1))=q * z):=by
   show _=_;rw[Pl.vq hz,Pl.M_,<- hq.o]
  rw[HS.o] at m0 m1;go_wp2;go_round
  case rel=>exact⟨k+1,oM,gN,_,rfl,HS.o.symm⟩
  simp[intOf];omega
 go_wp2;go_returns
 refine⟨jq ?_,rfl⟩;rw[hq.o,mR JH]
def UA(v:Va)(h:Rw P w v zs):Cp 53 #[v] w λe w'=>e=rT (.bool (Pl.fy zs))/\w'=w:=by
 have⟨n,HN⟩:=jN (zs.length);have K:=zH λhr=>qJ v h hr;have H:=zH h;obtain⟨x,y,rfl,_⟩:=h;have⟨r,HF⟩:=jN (Pl.fy zs);rw[HF.o];rw[HN.o] at H K ⊢;by_cases h3:3<n
 ·have:r=d_:=by rw[<- HF.o];simp[Pl.fy,Pl.gV,HN.o];omega
  subst this;go_enter func53,ntmps53;exact mM
 go_enter func53,ntmps53;go_wp2;go_loop [4,10] (λ_ i=>∃k:Nat,k<=n/\i=I k/\Hid ((zs.take k).all Pl.jc=b_)) (λ_ i=>n-(intOf i).toNat)
 case atStart=>exact⟨0,vZ _,rfl,rfl⟩
 obtain⟨k,hk,rfl,hA⟩:=hrel;by_cases eI:k<n
 ·exact aag
 have HA:Hid (Pl.gV zs=b_):=by
  have:=hA.o;rw[mR JH] at this;show _=_;simp[Pl.gV,this,HN.o];omega
 go_wp2_with (go_at_call 54;refine(K.o HA.o).mono ?_;rintro e w' ⟨rfl,rfl⟩)
 go_returns
 refine⟨iD ?_,rfl⟩;rw[<- HF.o];simp[Pl.fy,HA.o]
end
end
variable {ρ:Prop}
section
section
variable {P:nK} {w w':Wd} {a:Ar}
def Kp.drewN(h:Kp P w w')(n:Nat):Kp P w (w'.drewN n):=h.below (gx (jD _ _) _)
def ajo.Yh(h:ρ:=by
 have K1:Hid (∀n',Cp 47 #[sX x0 n0 y0] ((w.alloc (.cells #[sX x0 n0 y0,sX x1 n y1] 30)).drewN n') λe w'=>e=rT (.bool f)/\w'=(w.alloc (.cells #[sX x0 n0 y0,sX x1 n y1] 30)).drewN n'):=λn'=>by
  rw[<- HG.o];exact Nc _ (H.o.1.rw.kp ((eY (w:=w)).drewN n'))
 cases f with
 |false =>
  have:r=d_:=by rw[<- HF.o];simp[Pl.okB,HG.o]
  subst this;go_enter func21,ntmps21;go_wp2;go_quiet ((go_at_call 47;exact nA (K1.o _)))
  exact IT
 |true =>
  have ff:=Pl.g_ HG.o;have⟨q,HQ⟩:=jN (Pl.eR a.1);have⟨q0,q1⟩:0<=q/\q<=1000:=by rw[<- HQ.o];exact⟨ff.2.1,ff.2.2.1⟩
  have K2:Hid (∀n',Cp 48 #[sX x0 n0 y0] ((w.alloc (.cells #[sX x0 n0 y0,sX x1 n y1] 30)).drewN n') λe w'=>e=rT (I q)/\w'=(w.alloc (.cells #[sX x0 n0 y0,sX x1 n y1] 30)).drewN n'):=λn'=>by
   rw[<- HQ.o,<- ff.1];exact wU _ (H.o.1.rw.kp ((eY (w:=w)).drewN n')) oM ff.2.2.2.2.1
  by_cases hn:(n:Int)=q
  rotate_left 1
  ·have gu:((n:Int) != q)=b_:=by rw[iH];exact hn
   have:r=d_:=by rw[<- HF.o];simp[Pl.okB,HN.o,HQ.o,hn]
   subst this;go_enter func21,ntmps21;go_wp2;go_quiet ((first | (go_at_call 47;exact nA (K1.o _)) | (go_at_call 48;exact nA (K2.o _))))
   exact IT
  have gu:((n:Int) != q)=d_:=by simp[hn]
  have HO:Hid (r=a.2.all Pl.fB):=by show _=_;rw[<- HF.o];simp[Pl.okB,HG.o,HN.o,HQ.o,hn]
  have hn1:n<=1000:=oM;go_enter func21,ntmps21;go_wp2;go_quiet ((first | (go_at_call 47;exact nA (K1.o _)) | (go_at_call 48;exact nA (K2.o _))))
  go_wp2;go_loopw [3] (λi wr=>∃k:Nat,k<=n/\i=I k/\Hid ((a.2.take k).all Pl.fB=b_)/\Bx wr w.1.size #[sX x0 n0 y0,sX x1 n y1] 30/\Hid (Bl w wr)) (λi _=>n-(intOf i).toNat)
  case atStart=>exact⟨0,vZ _,rfl,rfl,(Bx.eK rfl).below (gx (jD _ _) _),gx ((jD _ _).alloc (jR _) _) _⟩
  obtain⟨k,hk,rfl,hA,hx,hB⟩:=hrel;obtain⟨c0,f0,z0⟩:=hx.all;replace hx:=zH hx;by_cases eI:k<n
  rotate_left 1
  ·exact ψ
  have⟨z,hz⟩:=gF HN.o eI;obtain⟨b,o,rfl,hb,hc⟩:=(H.o.2.rw.kp (.of hB.o)).at hz;have HS:=zH (Pl.Db Pl.fB hz);have HX:Hid (Pl.fB z=d_->r=d_):=λhf=>by rw[HO.o];exact Pl.Du hz hf
  by_cases me:z < -3000000000
  ·go_wp2
   go_returns
   exact⟨hB.o,iD (HX.o (by simp[Pl.fB];omega)).symm⟩
  by_cases Ei:3000000000<z
  ·go_wp2
   go_returns
   exact⟨hB.o,iD (HX.o (by simp[Pl.fB];omega)).symm⟩
  go_wp2;go_roundw
  case rel=>exact⟨k+1,by omega,by go_num,by show _=_;rw[HS.o,hA.o];simp[Pl.fB];omega,hx.o,hB⟩
  simp[intOf];omega
 ):ρ:=h
def yQ(v0 v1:Va)(h:RA P w v0 v1 a):Cp 21 #[.agg #[v0,v1]] w (rC (.bool (Pl.okB a)) w):=by
 open ajo in exact Ze
def ajp.Yh(h:ρ:=by
 have K1:Hid (∀n',Cp 53 #[sX x0 n0 y0] ((w.alloc (.cells #[sX x0 n0 y0,sX x1 n y1] 30)).drewN n') λe w'=>e=rT (.bool f)/\w'=(w.alloc (.cells #[sX x0 n0 y0,sX x1 n y1] 30)).drewN n'):=λn'=>by
  rw[<- HG.o];exact UA _ (H.o.1.rw.kp ((eY (w:=w)).drewN n'))
 cases f with
 |false =>
  have:r=d_:=by rw[<- HF.o];simp[Pl.okB,HG.o]
  subst this;go_enter func29,ntmps29;go_wp2;go_quiet ((go_at_call 53;exact nA (K1.o _)))
  exact IT
 |true =>
  have ff:=Pl.g_ HG.o;have⟨q,HQ⟩:=jN (Pl.eR a.1);have⟨q0,q1⟩:0<=q/\q<=1000:=by rw[<- HQ.o];exact⟨ff.2.1,ff.2.2.1⟩
  have K2:Hid (∀n',Cp 54 #[sX x0 n0 y0] ((w.alloc (.cells #[sX x0 n0 y0,sX x1 n y1] 30)).drewN n') λe w'=>e=rT (I q)/\w'=(w.alloc (.cells #[sX x0 n0 y0,sX x1 n y1] 30)).drewN n'):=λn'=>by
   rw[<- HQ.o];exact qJ _ (H.o.1.rw.kp ((eY (w:=w)).drewN n')) ff.2.2.2.2.2
  by_cases hn:(n:Int)=q
  rotate_left 1
  ·have gu:((n:Int) != q)=b_:=by rw[iH];exact hn
   have:r=d_:=by rw[<- HF.o];simp[Pl.okB,HN.o,HQ.o,hn]
   subst this;go_enter func29,ntmps29;go_wp2;go_quiet ((first | (go_at_call 53;exact nA (K1.o _)) | (go_at_call 54;exact nA (K2.o _))))
   exact IT
  have gu:((n:Int) != q)=d_:=by simp[hn]
  have HO:Hid (r=a.2.all Pl.fB):=by show _=_;rw[<- HF.o];simp[Pl.okB,HG.o,HN.o,HQ.o,hn]
  have hn1:n<=1000:=oM;have KV:Hid (∀z W,Cp 55 #[I z] W λe w'=>e=rT (.bool (Pl.fB z))/\w'=W):=λz W=>MO z W;go_enter func29,ntmps29;go_wp2;go_quiet ((first | (go_at_call 53;exact nA (K1.o _)) | (go_at_call 54;exact nA (K2.o _))))
  go_wp2;go_loopw [4,21] (λ_ i wr=>∃k:Nat,k<=n/\i=I k/\Hid ((a.2.take k).all Pl.fB=b_)/\Hid (Bl w wr)) (λ_ i _=>n-(intOf i).toNat)
  case atStart=>exact⟨0,vZ _,rfl,rfl,gx ((jD _ _).alloc (jR _) _) _⟩
  obtain⟨k,hk,rfl,hA,hB⟩:=hrel;by_cases eI:k<n
  rotate_left 1
  ·exact ψ
  have⟨z,hz⟩:=gF HN.o eI;obtain⟨b,o,rfl,hb,hc⟩:=(H.o.2.rw.kp (.of hB.o)).at hz;have HS:=zH (Pl.Db Pl.fB hz);have HX:Hid (Pl.fB z=d_->r=d_):=λhf=>by rw[HO.o];exact Pl.Du hz hf
  cases hv:Pl.fB z
  ·have HV:Hid (Cp 55 #[I z] wr λe w'=>e=rT (.bool d_)/\w'=wr):=by have:=KV.o z wr;rw[hv] at this;exact this
   go_wp2_with (go_at_call 55;refine HV.o.mono ?_;rintro e w' ⟨rfl,rfl⟩)
   go_returns
   exact⟨hB.o,iD (HX.o hv).symm⟩
  have HV:Hid (Cp 55 #[I z] wr λe w'=>e=rT (.bool b_)/\w'=wr):=by have:=KV.o z wr;rw[hv] at this;exact this
  go_wp2_with (go_at_call 55;refine HV.o.mono ?_;rintro e w' ⟨rfl,rfl⟩)
  go_roundw
  case rel=>exact⟨k+1,by omega,by go_num,by show _=_;rw[HS.o,hA.o,hv];rfl,hB⟩
  simp[intOf];omega
 ):ρ:=h
def Vf(v0 v1:Va)(h:RA P w v0 v1 a):Cp 29 #[.agg #[v0,v1]] w (rC (.bool (Pl.okB a)) w):=by
 open ajp in exact Ze
end
end
section
abbrev lR(c:Int):PanicEntry:={ v:=.iface 254 (I c),recovered:=d_ }
def CI(w:Wd)(r:Except Int Int)(e:Ending)(w':Wd):Prop:=w'=w/\match r with
 |.ok v=>e=rT (I v)
 |.error c=>e=.panicked [lR c]
def CS(w:Wd)(r:Except Int Int)(e:Ending)(w':Wd):Prop:=e=rT (.tuple #[I (Pl.vl r),I (Pl.cd r)])/\w'=w
section
variable {w:Wd}
def FU(q:Bool)(w:Wd):Cp 141 #[.bool q] w λe w'=>e=rT (I (Pl.nW q))/\w'=w:=by
 cases q <;>
 ·go_enter func141,ntmps141
  exact mM
def Vo(q:Bool)(w:Wd):Cp 285 #[.bool q] w λe w'=>e=rT (I (Pl.nW q))/\w'=w:=by
 cases q <;>
 ·go_enter func285,ntmps285
  exact mM
def iV(c:Int)(w:Wd):Cp 229 #[.bool d_,I c] w λe w'=>e=rT (.tuple #[])/\w'=w:=by
 go_enter func229,ntmps229;exact mM
def kY(c:Int)(w:Wd):Cp 229 #[.bool b_,I c] w λe w'=>e=.panicked [lR c]/\w'=w:=by
 go_enter func229,ntmps229;go_wp2;exact⟨rfl,rfl,rfl⟩
def agn(v:Int)(w:Wd):Cp 168 #[I v] w (CS w (Pl.lE v)):=by
 have⟨r,HR⟩:=jN (Pl.lE v);rw[HR.o];by_cases h:-3000000000<=v
 ·by_cases h':v<=3000000000
  ·have:r=.ok v:=by rw[<- HR.o];simp[Pl.lE,h,h']
   subst this;go_enter func168,ntmps168;exact mM
  ·have:r=.error 5:=by rw[<- HR.o];simp[Pl.lE,h']
   subst this;go_enter func168,ntmps168;exact mM
 ·have:r=.error 5:=by rw[<- HR.o];simp[Pl.lE,h]
  subst this;go_enter func168,ntmps168;exact mM
def acT(v:Int)(w:Wd):Cp 284 #[I v] w (CI w (Pl.lE v)):=by
 have K:Hid (∀W,Cp 55 #[I v] W λe w'=>e=rT (.bool (decide (-3000000000<=v/\v<=3000000000)))/\w'=W):=λW=>by
  have:=MO v W;rw[<- Bool.decide_and] at this;exact this
 unfold Pl.lE;by_cases h:-3000000000<=v/\v<=3000000000
 ·rw[eD h]
  rw[fM h] at K;clear h;go_enter func284,ntmps284;go_wp2_with (first | (go_at_call 55;refine(K.o _).mono ?_;rintro e w' ⟨rfl,rfl⟩) | (go_at_call 229;refine(iV _ _).mono ?_;rintro e w' ⟨rfl,rfl⟩))
  exact pq
 ·rw[eB h]
  rw[fH h] at K;clear h;go_enter func284,ntmps284;go_wp2_with (first | (go_at_call 55;refine(K.o _).mono ?_;rintro e w' ⟨rfl,rfl⟩) | (go_at_call 229;refine(kY _ _).mono ?_;rintro e w' ⟨rfl,rfl⟩))
  exact⟨rfl,rfl,rfl⟩
section
variable (x y:Int) (hx:Pl.fB x=true) (hy:Pl.fB y=true)
include hx
def Vj(h0:¬y=0)(w:Wd):Cp 169 #[I x,I y] w (λe w'=>e=rT (I (Pl.jI x y))/\w'=w)/\Cp 251 #[I x,I y] w λe w'=>e=rT (I (Pl.jI x y))/\w'=w:=by
 obtain⟨x0,x1⟩:=Pl.qh hx;have⟨b0,b1⟩:=Pl.WQ (y:=y) x0 x1;have⟨c0,c1⟩:=Pl.ag4 (y:=y) x0 x1;have hq:=Pl.aog x y;have Sj:=Pl.VU x y;have d0:-6000000000<=x.tdiv y * y:=by rw[Sj];omega
 have d1:x.tdiv y * y<=6000000000:=by rw[Sj];omega
 have Ce:(y == 0)=d_:=by simp[h0]
 have⟨r,HR⟩:=jN (Pl.jI x y);rw[HR.o];have eP:Hid ((if ((x.tmod y != 0) && (decide (x<0) != decide (y<0)))=b_ then x.tdiv y-1 else x.tdiv y)=r):=HR.o;clear x0 x1 Sj hx HR
 cases hm:(x.tmod y != 0) <;> rw[hm] at hq eP <;> cases hs:(decide (x<0) != decide (y<0)) <;> rw[hs] at eP
 all_goals
  have vV:(!(decide (x<0) == decide (y<0)))=(decide (x<0) != decide (y<0)):=rfl;rw[hs] at vV;clear hs;constructor
  ·go_enter func169,ntmps169
   go_wp2;go_returns
   exact⟨jq (by rw[<- eP.o];rfl),rfl⟩
  ·go_enter func251,ntmps251
   go_wp2_with (go_at_call 229;refine(iV _ _).mono ?_;rintro e w' ⟨rfl,rfl⟩)
   go_returns
   exact⟨jq (by rw[<- eP.o];rfl),rfl⟩
include hy
def VF(op:Int)(ho:Pl.fN op=b_)(w:Wd):Cp 136 #[I op,I x,I y] w (CS w (Pl.two op x y)):=by
 obtain⟨x0,x1⟩:=Pl.qh hx;have⟨y0,y1⟩:=Pl.qh hy;have⟨m0,m1⟩:=Pl.Xl x0 x1 y0 y1;have KI:=zH agn;have KB:=zH FU;have KF:=zH λh0 W=>(Vj x y hx h0 W).1;rcases Pl.Nl ho with rfl|rfl|rfl|rfl|rfl|rfl|rfl|rfl|rfl|rfl
 case inl | inr.inl | inr.inr.inl =>
  first | rw[show Pl.two 1 x y=Pl.lE (x+y) from rfl] | rw[show Pl.two 2 x y=Pl.lE (x-y) from rfl] | rw[show Pl.two 3 x y=Pl.lE (x * y) from rfl]
  clear KB KF;go_enter func136,ntmps136;go_wp2_with (go_at_call 168;refine(KI.o _ _).mono ?_;rintro e w' ⟨rfl,rfl⟩)
  exact pq
 case inr.inr.inr.inl | inr.inr.inr.inr.inl =>
  by_cases h0:y=0
  ·subst h0
   exact O7
  ·have KF:=zH (KF.o h0)
   have⟨d0,d1⟩:=Pl.Hv h0 x0 x1;have⟨e0,e1⟩:=Pl.G9 h0 x0 x1 y0 y1;have f0:-6000000000<=y * Pl.jI x y:=oM;have f1:y * Pl.jI x y<=6000000000:=oM;have Ce:(y == 0)=d_:=by simp[h0]
   have I1:Hid (∀W,Cp 168 #[I (Pl.jI x y)] W λe w'=>e=rT (.tuple #[I (Pl.jI x y),I 0])/\w'=W):=λW=>by have:=KI.o (Pl.jI x y) W;rw[Pl.YE d0 d1] at this;exact this
   have I2:Hid (∀W,Cp 168 #[I (x-y * Pl.jI x y)] W λe w'=>e=rT (.tuple #[I (x-y * Pl.jI x y),I 0])/\w'=W):=λW=>by have:=KI.o (x-y * Pl.jI x y) W;rw[Pl.YE e0 e1] at this;exact this
   first | rw[show Pl.two 4 x y=.ok (Pl.jI x y) from eB h0] | rw[show Pl.two 5 x y=.ok (x-y * Pl.jI x y) from eB h0]
   clear KI;generalize Pl.jI x y=q at *;go_enter func136,ntmps136;go_wp2_with (first | (go_at_call 169;refine(KF.o _).mono ?_;rintro e w' ⟨rfl,rfl⟩) | (go_at_call 168;with_reducible refine(I1.o _).mono ?_;rintro e w' ⟨rfl,rfl⟩) | (go_at_call 168;with_reducible refine(I2.o _).mono ?_;rintro e w' ⟨rfl,rfl⟩))
   exact pq
 case inr.inr.inr.inr.inr.inl | inr.inr.inr.inr.inr.inr.inl =>
  first | rw[show Pl.two 6 x y=.ok (min x y) from rfl] | rw[show Pl.two 7 x y=.ok (max x y) from rfl]
  have E1:=zH (show x<y->min x y=x/\max x y=y by omega);have E2:=zH (show ¬x<y->min x y=y/\max x y=x by omega);by_cases h:x<y
  ·first | rw[(E1.o h).1] | rw[(E1.o h).2]
   skip
   ·exact O7
  ·first | rw[(E2.o h).1] | rw[(E2.o h).2]
   skip
   ·exact O7
 all_goals
  clear KI KF;go_enter func136,ntmps136;go_wp2_with (go_at_call 141;refine(KB.o _ _).mono ?_;rintro e w' ⟨rfl,rfl⟩)
  go_returns
  exact⟨rfl,rfl⟩
end
end
end
section
variable {w w' W w9 w0:Wd}{N Z:Nat}{u0 dv v':Va}{sh acc acc':lI}{t:TypeId}{cs:aV}
def Kp.xw{P Q:nK}(h:Kp P w w')(hq:∀b,Q b->P b):Kp Q w w':=⟨h.sz,λb q=>h.bk b (hq b q)⟩
structure Ou(N:Nat)(w:Wd)(Z:Nat)(u0 dv:Va)(sh acc:lI):Prop where
 bx:Bx w Z #[u0,dv] 30
 o0:Oi N w u0 sh
 o1:Oi N w dv acc
 ap:∀b,u0.ownBlock=a_ b->dv.ownBlock=a_ b->False
 hz:N<=Z
def Ou.below(h:Ou N w Z u0 dv sh acc)(k:Bl w w'):Ou N w' Z u0 dv sh acc:=⟨h.bx.below k,h.o0.kp (.of k),h.o1.kp (.of k),h.ap,h.hz⟩
def Ou.new(o:Oi N w u0 sh)(hN:N<=w.1.size)(hz:Z=w.1.size+1):Ou N ((w.alloc (.cells #[] 3)).alloc (.cells #[u0,sX (sY w.1.size 0) 0 0] 30)) Z u0 (sX (sY w.1.size 0) 0 0) sh [] :=
 ⟨.eK (by simp[hz]),o.kp (.of gG),(Oi.emp hN).kp (.of gG),λb e e'=>by have:=(o.lt e).2;simp[Value.ownBlock] at e';omega,oM⟩
def Ou.app(h:Ou N w Z u0 dv sh acc)(k:Bl w W)(g:W.grownBy w9 dv.ownBlock)(ho:Oi N w9 v' acc')(ha:mY W dv v'):Ou N (w9.setCell (Y Z 1) v') Z u0 v' sh acc':=by
 have h1:=h.below k;have kw:Kp (λb=>¬dv.ownBlock=a_ b) W w9:=Kp.grown g λb e q=>q e;have bZ:=h1.bx.kp kw (h1.o1.ne h1.bx dC);have nZ:=ho.ne bZ dC;have mZ:=h1.o0.ne h1.bx dC;refine⟨bZ.set 1 _,(h1.o0.kp (kw.xw λb e e'=>h1.ap b e e')).kp eY,ho.kp eY,λb e e'=>?_,h.hz⟩;rcases ha with ha|ha
 ·exact h1.ap b e (ha ▸ e')
 ·have:=(h1.o0.lt e).2
  rw[ha] at e';injection e' with e';omega
def Ou.fI{v':Va}{acc':lI}(h:Ou N w Z u0 dv sh acc)(k0:Below N w0 w)(k:Bl w W)(g:W.grownBy w9 dv.ownBlock)(hN:N<=w.1.size)(v:Va):Below N w0 (w9.setCell (Y Z 1) v) :=
 (qu (B:=N) (a:=w0) (k0.trans (k.mono hN)) g (by have:=k.size;omega) (λb e=>(h.o1.lt e).1)).setCell h.hz _
def Ou.fin(h:Ou N w Z u0 dv sh acc){r B:Nat}(hb:Bx w r cs t)(ht:¬t=3)(hB:B<=N)(x y:Va):RA (B<=·) ((w.setCell (Y r 0) x).setCell (Y r 1) y) u0 dv (sh,acc):=by
 have m0:=h.o0.ne hb ht;have m1:=h.o1.ne hb ht;exact⟨h.o0.out eY hB,h.o1.out eY hB⟩
def mV(w:Wd)(x:Int):Rw (λ_=>True) (w.alloc (.cells #[I x] 3)) (sX (sY w.1.size 0) 1 1) [x]:=by
 obtain⟨a,k,e,h⟩:=(Oi.one (B:=w.1.size) (w:=w) (jR _) x).ri.rw;exact⟨a,k,e,h.imp id λ⟨b,o,e,hb,hc⟩=>⟨b,o,e,⟨trivial,hb.2⟩,hc⟩⟩
def nV(h:Below N w0 w)(k:Bl w w')(hn:N<=w.1.size):Below N w0 w':=h.trans (k.mono hn)
def Bx.bn{b:Nat}(h:Bx w0 b cs t)(k:Below N w0 w)(hb:b<N):Bx w b cs t:=(k.block b hb).trans h
def SP(w:Wd)(r:Except Int Ar)(e:Ending)(w':Wd):Prop:=Below w.1.size w w'/\∃u0 u1,e=rT (.tuple #[.agg #[u0,u1],I (f_ r).1])/\RA (w.1.size<=·) w' u0 u1 (f_ r).2
def RA.zz{P:nK}:RA P w (nJ) (nJ) ([],[]):=⟨⟨.none,0,rfl,vZ _,oM,.inl rfl⟩,⟨.none,0,rfl,vZ _,oM,.inl rfl⟩⟩
def SP.err{c:Int}(h:Bl w w'):SP w (.error c) (rT (.tuple #[.agg nN,I c])) w':=⟨h,_,_,rfl,RA.zz⟩
def aeT(op x:Int)(h0:1<=op)(h1:op<=4)(hx:Pl.fB x=b_)(w:Wd):Cp 125 #[I op,I x] w (CS w (Pl.one op x)):=by
 obtain⟨x0,x1⟩:=Pl.qh hx;have KB:=zH FU;have⟨r,HR⟩:=jN (Pl.one op x);rw[HR.o];have hk:op=1\/op=2\/op=3\/op=4:=oM;rcases hk with rfl|rfl|rfl|rfl
 ·have:r=.ok (-x):=HR.o.symm
  exact Dp
 ·have hr:r=.ok (max x (-x)):=HR.o.symm
  by_cases h:x<0
  ·have:r=.ok (-x):=by rw[hr];congr 1;omega
   clear hr;exact Dp
  ·have:r=.ok x:=by rw[hr];congr 1;omega
   clear hr;exact Dp
 ·have:r=.ok (Pl.nW (decide (0<x))-Pl.nW (decide (x<0))):=HR.o.symm
  subst this;obtain⟨p0,p1⟩:=Pl.xq (decide (0<x));have⟨q0,q1⟩:=Pl.xq (decide (x<0));go_enter func125,ntmps125;go_wp2_with (go_at_call 141;refine(KB.o _ _).mono ?_;rintro e w' ⟨rfl,rfl⟩)
  exact pq
 ·have eP:Hid ((if x=0\/x=1 then .ok (1-x) else .error 1)=r):=HR.o
  clear HR;by_cases h:x=0
  ·subst h
   have:r=.ok 1:=eP.o.symm;exact Dp
  ·by_cases h':x=1
   ·subst h'
    have:r=.ok 0:=eP.o.symm;exact Dp
   ·have:r=.error 1:=by rw[<- eP.o,eB oM]
    subst this;have e0:(x != 0)=b_:=by rw[iH];exact h
    have e1:(x != 1)=b_:=by rw[iH];exact h'
    clear h h';go_enter func125,ntmps125;exact mM
def abE{P:nK}(op:Int)(v0 v1:Va)(a:Ar)(w:Wd)(h:RA P w v0 v1 a)(ho:Pl.okB a=b_):Cp 102 #[I op,.agg #[v0,v1]] w (SP w (Pl.qQ op a)):=by
 have HH:=zH h;have HO:=zH ho;obtain⟨⟨x0,y0,rfl⟩,x1,y1,rfl⟩:=h.eS;have⟨_,_,hv,gK,gr⟩:=Pl.ok_eq ho;have HV:=zH hv;clear h ho hv;have⟨r,HR⟩:∃r,Hid (r=Pl.qQ op a):=⟨_,rfl⟩;rw[<- HR.o];by_cases gO:op<1\/4<op
 ·have:r=.error 9:=by rw[HR.o,Pl.qQ,eD gO]
  subst this;have h2:op<1\/(¬op<1/\4<op):=oM;clear gO;rcases h2 with h|⟨h,h'⟩ <;>
  ·go_enter func102,ntmps102
   go_wp2;refine eJ (by simp[results,results102,go_sem];try rfl) rfl ?_;exact pk
 ·have eP:Hid (r=Pl.wS a.1 (Pl.eU (Pl.one op) a.2)):=by show _=_;rw[HR.o,Pl.qQ,eB gO]
  have p0:1<=op:=oM;have p1:op<=4:=oM;have KO:=zH λx (hx:Pl.fB x=b_) W=>aeT op x p0 p1 hx W;clear HR gO;obtain⟨sh,da⟩:=a;simp only at gK gr HV eP ⊢;have⟨n0,N0⟩:=jN (sh.length);have⟨n,N1⟩:=jN (da.length);rw[N0.o] at gK ⊢;rw[N1.o] at gr ⊢;simp only[N0.o,N1.o] at HH;go_enter func102,ntmps102;go_wp2_with fail;have V0:Hid (∀W,Below (w.1.size+2) ((w.alloc (.cells #[sX x0 n0 y0,sX x1 n y1] 30)).alloc (.cells nN 30)) W->Bx W w.1.size #[sX x0 n0 y0,sX x1 n y1] 30/\Bx W (w.1.size+1) nN 30):=λW k=>⟨.bn (.al (.eK rfl) _) k oM,.bn (.eK sI) k oM⟩;have V1:Hid (Bl w ((w.alloc (.cells #[sX x0 n0 y0,sX x1 n y1] 30)).alloc (.cells nN 30))/\((w.alloc (.cells #[sX x0 n0 y0,sX x1 n y1] 30)).alloc (.cells nN 30)).1.size=w.1.size+2):=⟨gG,sI⟩;generalize ew (ew w _) _=W0 at *;refine(yQ _ _ (HH.o.kp (.of V1.o.1))).l λw1 hb=>?_;rw[HO.o];rw[V1.o.2] at hb;have⟨b0,b1⟩:=V0.o _ hb;obtain⟨c0,f0,z0⟩:=b0.all;have H1:=zH hb;clear hb f0 b0 b1;go_wp2_with fail;refine(lG _ sh _ (HH.o.1.rw.kp (.of (V1.o.1.trans (H1.o.mono oM)))) (by rw[N0.o];omega)).mono ?_;rintro e w2 ⟨hb,u,rfl,o⟩;have⟨x2,y2,e2⟩:=o.form;rw[N0.o] at e2;subst e2;have s1:=H1.o.size;rw[V1.o.2] at s1;have s2:=hb.size;have R0:=zH (Ou.new (o.base s1) oM rfl);have H2:=zH (H1.o.trans (hb.mono s1));have⟨b0,b1⟩:=V0.o _ H2.o;obtain⟨c0,f0,z0⟩:=b0.all;clear hb o f0 b0 b1 H1;go_wp2_with fail;have H3:Hid (Below (w.1.size+2) W0 ((w2.alloc (.cells #[] 3)).alloc (.cells #[sX x2 n0 y2,sX (sY w2.1.size 0) 0 0] 30))):=nV H2.o gG oM;go_loopw [7,8,9] (λi _ _ wr=>∃(k:Nat)(acc:lI) (dv:Va),i=I (k:Int)/\k<=n/\Hid (acc.length=k/\Pl.eU (Pl.one op) da=gM (Pl.one op) da k acc)/\Hid (Below (w.1.size+2) W0 wr)/\Hid (Ou (w.1.size+2) wr (w2.1.size+1) (sX x2 n0 y2) dv sh acc)) (λi _ _ _=>n-(intOf i).toNat)
  case atStart=>exact⟨0,[],_,rfl,vZ _,⟨rfl,(p_ _ _).symm⟩,H3,R0⟩
  case round =>
   obtain⟨k,acc,dv,rfl,hk,hE,hB,hU⟩:=hrel;obtain⟨xd,yd,rfl⟩:=hU.o.o1.form;have⟨b0,b1⟩:=V0.o _ hB.o;clear c0 z0 R0 H3 H2;obtain⟨c0,f0,z0⟩:=b0.all;obtain⟨c1,f1,z1⟩:=b1.all;obtain⟨c2,f2,z2⟩:=hU.o.bx.all;have jo:=zH b1;have BW:=zH (V1.o.1.trans (hB.o.mono oM));clear f0 b0 b1;by_cases fK:k=n
   ·have eN:r=.ok (sh,acc):=by rw[eP.o,hE.o.2,qf _ _ _ _ (by rw[N1.o];omega)];rfl
    subst eN fK;go_wp2;refine eJ (by simp[results,results102,go_sem, *];try rfl) rfl ?_;have:=BW.o;exact⟨gG,_,_,rfl,hU.o.fin jo.o dC oM _ _⟩
   ·have eI:(k:Int)<(n:Int):=oM
    have⟨z,hz⟩:=gF N1.o (show k<n by omega);obtain⟨bd,od,rfl,kU,kT⟩:=(HH.o.2.rw.kp (.of BW.o)).at hz;have hv:=Pl.oG HV.o hz;have KK:=zH (KO.o z hv wr);have eL:=zH (qc (Pl.one op) da k acc z hz);have xL:=zH (λc=>@Pl.Xe op z c);clear hv;generalize Pl.one op z=q at *
    cases q with
    |error c =>
     have hc:(c != 0)=b_:=by rw[iH];exact xL.o c rfl
     have eN:r=.error c:=by rw[eP.o,hE.o.2,eL.o];rfl
     subst eN;clear xL eL;replace KK:Hid (Cp 125 #[I op,I z] wr λe w'=>e=rT (.tuple #[I 0,I c])/\w'=wr):=KK.o;go_wp2_with (go_at_call 125;refine KK.o.mono ?_;rintro e w' ⟨rfl,rfl⟩)
     refine eJ (by simp[results,results102,go_sem, *];try rfl) rfl ?_;have:=BW.o;exact pk
    |ok y =>
     clear xL;replace KK:Hid (Cp 125 #[I op,I z] wr λe w'=>e=rT (.tuple #[I y,I 0])/\w'=wr):=KK.o;have hN:w.1.size+2<=wr.1.size:=oM;have UB:Hid (acc.length+[y].length<=16777216):=by have:=hE.o.1;show _<=_;simp;omega
     go_wp2_with (first | (go_at_call 125;refine KK.o.mono ?_;rintro e wr ⟨rfl,rfl⟩) | (at_builtin;refine nu rfl (.tmp 49) (.tmp 51) rfl rfl rfl (hU.o.o1.kp eY) (mV _ y) UB.o J2 ?_))
     intro v' w9 ho hg ha;have KW:Below (w.1.size+2) W0 w9:=qu (B:=w.1.size+2) (a:=W0) (nV hB.o gG hN) hg J2 (λb e=>(hU.o.o1.lt e).1);have R9:=zH (hU.o.app gG hg ho ha);have B9:=zH (KW.setCell (p:=(Y (w2.1.size+1) 1)) hU.o.hz v');obtain⟨xv,yv,rfl⟩:=ho.form;have bz:=(hU.o.bx.al (.cells #[I y] 3)).kp (Kp.grown (P:=λb=>¬(Value.slice xd acc.length yd).ownBlock=a_ b) hg λb e q=>q e) ((hU.o.o1.kp (w':=wr.alloc (.cells #[I y] 3)) eY).ne (hU.o.bx.al _) dC);have⟨d2,g2,l2⟩:=bz.all;have j_:Hid ((acc++[y]).length=k+1/\Pl.eU (Pl.one op) da=gM (Pl.one op) da (k+1) (acc++[y])):=⟨by simp[hE.o.1],by rw[hE.o.2,eL.o]⟩;clear ho hg ha KW bz;exact Γ
end
section
def Ou.step{N Z:Nat}{w0 wr W w9:Wd}{u0 dv v':Va}{sh acc acc':lI}(h:Ou N wr Z u0 dv sh acc)(hB:Below N w0 wr)(hN:N<=wr.1.size)(hg:W.grownBy w9 dv.ownBlock)(ho:Oi N w9 v' acc')(ha:mY W dv v')(k:Below wr.1.size wr W:=by go_grown):
  Hid (Ou N (w9.setCell (Y Z 1) v') Z u0 v' sh acc')/\Hid (Below N w0 (w9.setCell (Y Z 1) v'))/\Bx w9 Z #[u0,dv] 30 :=
 ⟨h.app k hg ho ha,h.fI (v':=v') (acc':=acc') hB k hg hN v',(h.bx.below k).kp (Kp.grown (P:=λb=>¬dv.ownBlock=a_ b) hg λb e q=>q e) ((h.o1.kp (.of k)).ne (h.bx.below k) dC)⟩
section
variable {P:nK} {w:Wd}
def ajW.Oo(h:ρ:=by
 by_cases qz:n=m
 ·subst qz
  go_enter func142,ntmps142;exact YS
 ·have hr:r=d_:=by
   exact Qh
  have gu:((n:Int) != (m:Int))=b_:=by rw[iH];omega
  subst hr;go_enter func142,ntmps142;exact vD
 ):ρ:=h
def FO(v v':Va)(xs ys:lI)(h:Rw P w v xs)(h':Rw P w v' ys)(hl:xs.length<=1048576)(uS:ys.length<=1048576):Cp 142 #[v,v'] w λe w'=>e=rT (.bool (decide (xs=ys)))/\Below w.1.size w w':=by
 open ajW in exact Ph
def Ax(v v':Va)(sh da:lI)(h:Rw P w v sh){x':oA}{n' y':Nat}(hv:v'=sX x' n' y'):Cp 135 #[v,v'] w λe w'=>Below w.1.size w w'/\e=rT (.tuple #[if Pl.fy sh=b_ then .agg #[v,v'] else .agg nN,I (if Pl.fy sh=b_ then 0 else 6)]):=by
 have K:Hid (∀W,Below w.1.size w W->Cp 47 #[v] W λe w'=>e=rT (.bool (Pl.fy sh))/\w'=W):=λW k=>Nc v (h.kp (.of k));obtain⟨x,y,rfl,_⟩:=h;subst hv
 cases hf:Pl.fy sh
 all_goals
  rw[hf] at K;go_enter func135,ntmps135;go_wp2_with (go_at_call 47;refine(K.o _ gG).mono ?_;rintro e w' ⟨rfl,rfl⟩)
  refine eJ (by simp[results,results135,go_sem];try rfl) rfl ?_;exact⟨gG,rfl⟩
def FN(u v:Va)(zs sh:lI)(z:Int)(s:Va){x0:oA}{n0 y0:Nat}(hu:u=sX x0 n0 y0)(h:Rw P w v zs)(hz:zs[0]? = a_ z)(h':Rw P w s sh)(hf:Pl.fy sh=b_):Cp 163 #[.agg #[u,v],s] w λe w'=>Below w.1.size w w'/\∃u0 u1,e=rT (.agg #[u0,u1])/\RA (w.1.size<=·) w' u0 u1 (sh,eE (Pl.eR sh).toNat z):=by
 obtain⟨fc,f0,f1,f2,f3,f4⟩:=Pl.g_ hf;have HS:=zH h';have HV:=zH h;obtain⟨b,o,hx,hb,hc⟩:∃b o,(∃n y,v=sX (sY b o) (n+1) y)/\b<w.1.size/\cL w b o (I z):=by
  obtain⟨x,y,rfl,_⟩:=h;obtain⟨b,o,rfl,hb,hc⟩:=HV.o.at hz
  cases zs with
  |nil=>cases hz
  |cons z' zs=>exact⟨b,o,⟨zs.length,y,rfl⟩,hb,hc⟩
 obtain⟨n1,y1,rfl⟩:=hx;obtain⟨x,y,rfl,_⟩:=h';subst hu;have HC:=zH (jA hb hc);have⟨n,HN⟩:∃n:Nat,Hid (Pl.eR sh=n):=⟨(Pl.eR sh).toNat,by show _=_;omega⟩;rw[HN.o] at f1;have K:Hid (∀W,Below w.1.size w W->Cp 48 #[sX x sh.length y] W λe w'=>e=rT (I (n:Int))/\w'=W):=λW k=>by
  have:=wU _ (HS.o.kp (.of k)) oM f3;rw[fc,HN.o] at this;exact this
 have KC:Hid (∀W,Below w.1.size w W->Cp 25 #[sX x sh.length y] W λe w'=>Below W.1.size W w'/\∃u,e=rT u/\Oi W.1.size w' u sh):=λW k=>lG _ sh W (HS.o.kp (.of k)) oM;rw[show (Pl.eR sh).toNat=n by rw[HN.o];simp];have⟨m,HM⟩:=jN (sh.length);rw[HM.o] at K KC ⊢;go_enter func163,ntmps163;go_wp2_with fail;have V0:Hid (∀W,Below (w.1.size+2) ((w.alloc (.cells #[sX x0 n0 y0,sX (sY b o) (n1+1) y1] 30)).alloc (.cells nN 30)) W->Bx W w.1.size #[sX x0 n0 y0,sX (sY b o) (n1+1) y1] 30/\Bx W (w.1.size+1) nN 30):=λW k=>⟨.bn (.al (.eK rfl) _) k oM,.bn (.eK sI) k oM⟩;have V1:Hid (Below w.1.size w ((w.alloc (.cells #[sX x0 n0 y0,sX (sY b o) (n1+1) y1] 30)).alloc (.cells nN 30))/\((w.alloc (.cells #[sX x0 n0 y0,sX (sY b o) (n1+1) y1] 30)).alloc (.cells nN 30)).1.size=w.1.size+2):=⟨gG,sI⟩;generalize ew (ew w _) _=W0 at *;refine(KC.o W0 V1.o.1).mono ?_;rintro e w2 ⟨hb,u,rfl,o2⟩;have⟨x2,y2,e2⟩:=o2.form;rw[HM.o] at e2;subst e2;rw[V1.o.2] at hb o2;have s2:=hb.size;rw[V1.o.2] at s2;have R0:=zH (Ou.new o2 s2 rfl);have H2:=zH hb;go_wp2_with fail;have H3:Hid (Below (w.1.size+2) W0 ((w2.alloc (.cells #[] 3)).alloc (.cells #[sX x2 m y2,sX (sY w2.1.size 0) 0 0] 30))):=nV H2.o gG s2;go_loopw [6] (λi wr=>∃(k:Nat)(dv:Va),i=I (k:Int)/\k<=n/\Hid (Below (w.1.size+2) W0 wr)/\Hid (Ou (w.1.size+2) wr (w2.1.size+1) (sX x2 m y2) dv sh (eE k z))) (λi _=>n-(intOf i).toNat)
 case atStart=>exact⟨0,_,rfl,vZ _,H3,R0⟩
 obtain⟨k,dv,rfl,hk,hB,hU⟩:=hrel;have⟨xd,yd,e3⟩:=hU.o.o1.form;rw[vE] at e3;subst e3;have⟨b0,b1⟩:=V0.o _ hB.o;obtain⟨c0,f0,z0⟩:=b0.all;have⟨c1,Ty,z1⟩:=b1.all;obtain⟨c2,f2,z2⟩:=hU.o.bx.all;have jo:=zH b1;have BW:=zH (V1.o.1.trans (hB.o.mono oM));have kT:=(BW.o.cell (p:=(Y b o)) HC.o.1).trans HC.o.2;have KK:=zH (K.o wr BW.o);have zb:b<wr.1.size:=jL HC.o.1 BW.o.size;by_cases fK:k=n
 ·subst fK
  go_wp2_with (go_at_call 48;refine KK.o.mono ?_;rintro e wr ⟨rfl,rfl⟩)
  refine eJ (by simp[results,results163,go_sem, *];try rfl) rfl ?_;have:=BW.o;exact⟨gG,_,_,rfl,hU.o.fin jo.o dC oM _ _⟩
 have eI:(k:Int)<(n:Int):=oM;have hN:w.1.size+2<=wr.1.size:=oM;have UB:Hid ((eE k z).length+[z].length<=16777216):=by show _<=_;simp;omega
 have OA:=zH (hU.o.o1.kp (w':=(wr.alloc (.cells #[I z] 3)).drew) eY);have RX:=zH ((mV wr z).kp (w':=(wr.alloc (.cells #[I z] 3)).drew) eY);have HZ:Hid (w.1.size+2<=((wr.alloc (.cells #[I z] 3)).drew).1.size):=by show _<=_;simp;omega
 have er:=zH (show eE k z++[z]=eE (k+1) z by rw[List.replicate_succ']);go_wp2_with (go_at_call 48;refine KK.o.mono ?_;rintro e wr ⟨rfl,rfl⟩)
 go_region_law (refine AI rfl (.tmp 18) (.tmp 23) rfl rfl rfl OA.o RX.o UB.o HZ.o ?_;intro v' w9 ho hg ha;have⟨R9,B9,bz⟩:=hU.o.step hB.o hN hg ho ha;have⟨xv,yv,e4⟩:=ho.form;rw[er.o] at R9 e4;rw[vE] at e4;subst e4;have⟨d2,g2,l2⟩:=bz.all)
 all_goals
  go_wp2;go_roundw
  case rel=>exact⟨k+1,_,gN,oM,B9,R9⟩
  simp[intOf];omega
end
end
variable {F:Int->Int->Except Int Int}{a b:Ar}{x:Int}
namespace Pl
def qH(F:Int->Int->Except Int Int)(a b:Ar):Except Int Ar:=if ¬a.1.length=b.1.length then .error 2 else if ¬a.1=b.1 then .error 3 else wS a.1 (eU (jK F) (a.2.zip b.2))
def Da(F:Int->Int->Except Int Int)(sh d e:lI):qH F (sh,d) (sh,e)=wS sh (eU (jK F) (d.zip e)):=by simp[qH]
def ah4(h:a.1=[])(hb:okB b=b_):el F a b=qH F (b.1,eE (eR b.1).toNat (a.2.getD 0 0)) b:=by
 have:=(ok_eq hb).2.1;obtain⟨sb,db⟩:=b;rw[Da,el,eD h,aff _ _ _ (by simp only at this ⊢;omega),NA]
def agD(h:¬a.1=[])(h':b.1=[])(ha:okB a=b_):el F a b=qH F a (a.1,eE (eR a.1).toNat (b.2.getD 0 0)):=by
 have:=(ok_eq ha).2.1;obtain⟨sa,da⟩:=a;rw[Da,el,eB h,eD h',afe _ _ _ (by simp only at this ⊢;omega),NA]
def Od(h:¬a.1=[])(h':¬b.1=[]):el F a b=qH F a b:=by rw[el,eB h,eB h',qH]
def OI{sh:lI}(h:fy sh=b_)(hx:fB x=b_):okB (sh,eE (eR sh).toNat x)=b_:=by
 have:=g_ h;simp only[okB,h,vI,fO,fQ,vE,ga];exact⟨oM,λy hy=>by rw[(List.mem_replicate.1 hy).2];exact hx⟩
def ok_one(h:okB a=b_)(h0:a.1=[]):∃x,a.2[0]? = a_ x/\a.2.getD 0 0=x/\fB x=b_:=by
 have e:=(ok_eq h).2.1;have hv:=(ok_eq h).2.2.1;rw[h0] at e;obtain⟨sa,da⟩:=a;match da,e,hv with
 |[x],_,hv=>exact⟨x,rfl,rfl,by simpa using hv⟩
def Gq{l m:lI}{k:Nat}{y:Int}(h:l[k]? = a_ x)(h':m[k]? = a_ y):(l.zip m)[k]? = a_ (x,y):=by
 rw[List.getElem?_zip_eq_some];exact⟨h,h'⟩
end Pl
def aiS.X'(h:ρ:=by
 have DB:=λn'=>zH (gx BW.o n');have dc:=λn'=>((jo.o.below (gx (jD _ _) n')).all);go_wp2;refine eJ JL rfl ?_;have:=(DB nq).o;exact pk
 ):ρ:=h
def Np{X:Prop}(h:X:=by
 obtain⟨_,_,va,la,ma⟩:=Pl.ok_eq OJ.o.1;have⟨_,_,vb,lb,mb⟩:=Pl.ok_eq OJ.o.2;have E0:=zH RJ.o.1.1.rw.len;have E1:=zH RJ.o.1.2.rw.len;have E2:=zH RJ.o.2.1.rw.len;have E3:=zH RJ.o.2.2.rw.len;have VA:=zH va;have VB:=zH vb;rw[E0.o] at la;rw[E1.o] at ma;rw[E2.o] at lb;rw[E3.o] at mb;obtain⟨c0,f0,z0⟩:=J.o.1.all;obtain⟨c1,f1,z1⟩:=J.o.2.1.all;obtain⟨c2,f2,z2⟩:=J.o.2.2.1.all;by_cases hm:m0=m2
 rotate_left
 ·have gu:((m0:Int) != (m2:Int))=b_:=by rw[iH];omega
  have hr:r=.error 2:=by rw[HE.o,qH,eD (by rw[E0.o,E2.o];exact hm)]
  subst hr;go_wp2;refine eJ JL rfl ?_;have:=J.o.2.2.2;exact pk
 subst hm;have gu:((m0:Int) != (m0:Int))=d_:=sI;go_wp2_with fail;refine(FO _ _ A.1 B.1 RJ.o.1.1.rw RJ.o.2.1.rw JO (by rw[E2.o];omega)).k λw1 hb=>?_;have J1:Hid (Bx w1 w.1.size _ 30/\Bx w1 (w.1.size+1) _ 30/\Bx w1 (w.1.size+1+1) _ 30/\Bl w w1):=⟨J.o.1.below hb,J.o.2.1.below hb,J.o.2.2.1.below hb,bv hb J.o.2.2.2⟩;have Mb:=zH (jA (RJ.o.1.kp (.of hb)) (RJ.o.2.kp (.of hb)));obtain⟨c0,f0,z0⟩:=J1.o.1.all;obtain⟨c1,f1,z1⟩:=J1.o.2.1.all;obtain⟨c2,f2,z2⟩:=J1.o.2.2.1.all;by_cases hs:A.1=B.1
 rotate_left
 ·rw[fH hs]
  have hr:r=.error 3:=by rw[HE.o,qH,eB (by rw[E0.o,E2.o];simp),eD hs]
  subst hr;go_wp2;refine eJ JL rfl ?_;have:=J1.o.2.2.2;exact pk
 rw[fM hs];obtain⟨sh,da⟩:=A;obtain⟨sb,db⟩:=B;simp only at hs E0 E1 E2 E3 VA VB Mb HE OJ;subst hs;have jw:m3=m1:=by
  have h1:=(Pl.ok_eq OJ.o.1).2.1;have h2:=(Pl.ok_eq OJ.o.2).2.1;have:=E1.o;have:=E3.o;simp only at h1 h2;omega
 subst jw;rw[Pl.Da] at HE;go_wp2_with fail;refine(lG _ sh _ Mb.o.1.1.rw JO).mono ?_;rintro e w2 ⟨hb,u,rfl,o⟩;have⟨x9,y9,e2⟩:=o.form;rw[E0.o] at e2;subst e2;have R0:=zH (Ou.new o hb.size rfl);have H2:=zH hb;have s2:=hb.size;have⟨d0,g0,l0⟩:=(J1.o.1.below hb).all;have⟨d1,g1,l1⟩:=(J1.o.2.1.below hb).all;go_wp2_with fail;have H3:Hid (Bl w1 ((w2.alloc (.cells #[] 3)).alloc (.cells #[sX x9 m0 y9,sX (sY w2.1.size 0) 0 0] 30))):=bv (w:=w1) gG H2.o;go_loopw [9,10,11] (λi _ _ wr=>∃(k:Nat)(acc:lI) (dv:Va),i=I (k:Int)/\k<=m3/\Hid (acc.length=k/\Pl.eU (Pl.jK (Pl.two op)) (da.zip db)=gM (Pl.jK (Pl.two op)) (da.zip db) k acc)/\Hid (Bl w1 wr)/\Hid (Ou w1.1.size wr (w2.1.size+1) (sX x9 m0 y9) dv sh acc)) (λi _ _ _=>m3-(intOf i).toNat)
 case atStart=>exact⟨0,[],_,rfl,vZ _,⟨rfl,(p_ _ _).symm⟩,H3,R0⟩
 obtain⟨k,acc,dv,rfl,hk,hE,hB,hU⟩:=hrel;obtain⟨xd,yd,rfl⟩:=hU.o.o1.form;obtain⟨c0,f0,z0⟩:=(J1.o.1.below hB.o).all;obtain⟨c1,f1,z1⟩:=(J1.o.2.1.below hB.o).all;obtain⟨c2,f2,z2⟩:=(J1.o.2.2.1.below hB.o).all;obtain⟨c3,f3,z3⟩:=hU.o.bx.all;have jo:=zH (J1.o.2.2.1.below hB.o);have BW:=zH (bv hB.o J1.o.2.2.2);by_cases fK:k=m3
 ·have eN:r=.ok (sh,acc):=by rw[HE.o,hE.o.2,qf _ _ _ _ (by simp[E1.o,E3.o];omega)];rfl
  subst eN fK;go_wp2;refine eJ JL rfl ?_;have:=BW.o;have sz:=J1.o.2.2.2.size;exact⟨gG,_,_,rfl,hU.o.fin jo.o dC sz _ _⟩
 have eI:(k:Int)<(m3:Int):=oM;have⟨z,hz⟩:=gF E1.o (show k<m3 by omega);have⟨z',gX⟩:=gF E3.o (show k<m3 by omega);obtain⟨ba,oa,rfl,yq,zY⟩:=(Mb.o.1.2.rw.kp (.of hB.o)).at hz;obtain⟨bb,ob,rfl,we,EI⟩:=(Mb.o.2.2.rw.kp (.of hB.o)).at gX;have KK:=zH λn'=>KT.o z z' (Pl.oG VA.o hz) (Pl.oG VB.o gX) (wr.drewN n');have eL:=zH (qc (Pl.jK (Pl.two op)) (da.zip db) k acc (z,z') (Gq hz gX));have xL:=zH (KE.o z z');simp only[Pl.jK] at eL;generalize Pl.two op z z'=q at *;have hN:w1.1.size<=wr.1.size:=hB.o.size
 cases q with
 |error c =>
  have hc:(c != 0)=b_:=by rw[iH];exact xL.o c rfl
  have eN:r=.error c:=by rw[HE.o,hE.o.2,eL.o];rfl
  open aiS in exact YP
 |ok y =>
  replace KK:Hid (∀n',Cp 136 #[I op,I z,I z'] (wr.drewN n') λe w'=>e=rT (.tuple #[I y,I 0])/\w'=wr.drewN n'):=KK.o;have UB:Hid (acc.length+[y].length<=16777216):=by have:=hE.o.1;show _<=_;simp;omega
  have j_:Hid ((acc++[y]).length=k+1/\Pl.eU (Pl.jK (Pl.two op)) (da.zip db)=gM (Pl.jK (Pl.two op)) (da.zip db) (k+1) (acc++[y])):=⟨by simp[hE.o.1],by rw[hE.o.2,eL.o]⟩;go_wp2_with fail;go_quiet ((go_at_call 136;exact nA (KK.o _)))
  have uZ:=zH (hU.o.below (gx (jD _ _) nq));have nQ:=zH (bv (gx (jD _ _) nq) hB.o);generalize wr.drewN nq=W at *;obtain⟨c3,f3,z3⟩:=uZ.o.bx.all;have Tq:w1.1.size<=W.1.size:=nQ.o.size;go_wp2_with (at_builtin;refine nu rfl (.tmp 75) (.tmp 77) rfl rfl rfl (uZ.o.o1.kp eY) (mV _ y) UB.o J2 ?_)
  intro v' w9 ho hg ha;have⟨R9,B9,bz⟩:=uZ.o.step nQ.o Tq hg ho ha;obtain⟨xv,yv,rfl⟩:=ho.form;have⟨d2,g2,l2⟩:=bz.all;exact Γ
):X:=h
def ajF.Yl(h:ρ:=by
 have J:Hid (Bx ((w1.setCell (Y (w.1.size+1) 0) (sX s2 m2 t2)).setCell (Y (w.1.size+1) 1) (sX s3 m3 t3)) w.1.size _ 30/\Bx ((w1.setCell (Y (w.1.size+1) 0) (sX s2 m2 t2)).setCell (Y (w.1.size+1) 1) (sX s3 m3 t3)) (w.1.size+1) _ 30/\Bx ((w1.setCell (Y (w.1.size+1) 0) (sX s2 m2 t2)).setCell (Y (w.1.size+1) 1) (sX s3 m3 t3)) (w.1.size+1+1) _ 30/\Bl w ((w1.setCell (Y (w.1.size+1) 0) (sX s2 m2 t2)).setCell (Y (w.1.size+1) 1) (sX s3 m3 t3))):=⟨(V1.o.1.eC JF _).eC JF _,(V1.o.2.1.set 0 _).set 1 _,(V1.o.2.2.1.eC JF _).eC JF _,by have:=V1.o.2.2.2;go_grown⟩;have kq:Kp (λb=>w.1.size+2<b) w1 ((w1.setCell (Y (w.1.size+1) 0) (sX s2 m2 t2)).setCell (Y (w.1.size+1) 1) (sX s3 m3 t3)):=((Kp.refl _ _).set JF _).set JF _;have RP:Kp P w ((w1.setCell (Y (w.1.size+1) 0) (sX s2 m2 t2)).setCell (Y (w.1.size+1) 1) (sX s3 m3 t3)):=.of J.o.2.2.2;have RJ:Hid (RA (λ_=>True) ((w1.setCell (Y (w.1.size+1) 0) (sX s2 m2 t2)).setCell (Y (w.1.size+1) 1) (sX s3 m3 t3)) (sX s0 m0 t0) (sX s1 m1 t1) A/\RA (λ_=>True) ((w1.setCell (Y (w.1.size+1) 0) (sX s2 m2 t2)).setCell (Y (w.1.size+1) 1) (sX s3 m3 t3)) (sX s2 m2 t2) (sX s3 m3 t3) B):=⟨(H.o.kp RP).mono λ_ _ _=>trivial,(RAw.o.kp kq).mono λ_ _ _=>trivial⟩;generalize ez (ez w1 _ _) _ _=W0 at *;skip
 exact Np
 ):ρ:=h
def ajE.Yl(h:ρ:=by
 have J:Hid (Bx ((w1.setCell (Y w.1.size 0) (sX s0 m0 t0)).setCell (Y w.1.size 1) (sX s1 m1 t1)) w.1.size _ 30/\Bx ((w1.setCell (Y w.1.size 0) (sX s0 m0 t0)).setCell (Y w.1.size 1) (sX s1 m1 t1)) (w.1.size+1) _ 30/\Bx ((w1.setCell (Y w.1.size 0) (sX s0 m0 t0)).setCell (Y w.1.size 1) (sX s1 m1 t1)) (w.1.size+1+1) _ 30/\Bl w ((w1.setCell (Y w.1.size 0) (sX s0 m0 t0)).setCell (Y w.1.size 1) (sX s1 m1 t1))):=⟨(V1.o.1.set 0 _).set 1 _,(V1.o.2.1.eC JF _).eC JF _,(V1.o.2.2.1.eC JF _).eC JF _,by have:=V1.o.2.2.2;go_grown⟩;have kq:Kp (λb=>w.1.size+2<b) w1 ((w1.setCell (Y w.1.size 0) (sX s0 m0 t0)).setCell (Y w.1.size 1) (sX s1 m1 t1)):=((Kp.refl _ _).set JF _).set JF _;have RP:Kp P w ((w1.setCell (Y w.1.size 0) (sX s0 m0 t0)).setCell (Y w.1.size 1) (sX s1 m1 t1)):=.of J.o.2.2.2;have RJ:Hid (RA (λ_=>True) ((w1.setCell (Y w.1.size 0) (sX s0 m0 t0)).setCell (Y w.1.size 1) (sX s1 m1 t1)) (sX s0 m0 t0) (sX s1 m1 t1) A/\RA (λ_=>True) ((w1.setCell (Y w.1.size 0) (sX s0 m0 t0)).setCell (Y w.1.size 1) (sX s1 m1 t1)) (sX s2 m2 t2) (sX s3 m3 t3) B):=⟨(RAw.o.kp kq).mono λ_ _ _=>trivial,(H'.o.kp RP).mono λ_ _ _=>trivial⟩;generalize ez (ez w1 _ _) _ _=W0 at *;skip
 exact Np
 ):ρ:=h
def amG.lH(h:ρ:=by
 have KT:=zH λx y (hx:Pl.fB x=b_) (hy:Pl.fB y=b_) W=>VF x y hx hy op gO W;have KE:=zH λx y c=>@Pl.AH op x y c;have⟨r,HR⟩:∃r,Hid (r=Pl.el (Pl.two op) a b):=⟨_,rfl⟩;rw[<- HR.o];have⟨p0,A0⟩:=jN (a.1.length);obtain⟨p1,A1⟩:=jN (a.2.length);have⟨p2,B0⟩:=jN (b.1.length);have⟨p3,B1⟩:=jN (b.2.length);rw[A0.o,A1.o] at H;rw[B0.o,B1.o] at H';rw[A0.o,A1.o,B0.o,B1.o];rcases rR p0 with Ln|Ln
 ·subst Ln
  generalize x2=s2,y2=t2,p2=m2,x3=s3,y3=t3,p3=m3 at *;have⟨B,EB⟩:∃B,B=b:=⟨_,rfl⟩;subst EB;have ea:a.1=[]:=lP.1 A0.o;have⟨z,hz,gX,hv⟩:=Pl.ok_one HA.o ea;have⟨A,EA⟩:∃A:Ar,Hid (A=(B.1,eE (Pl.eR B.1).toNat z)):=⟨_,rfl⟩;have HE:Hid (r=qH (Pl.two op) A B):=by show _=_;rw[HR.o,ah4 ea HB.o,gX,EA.o]
  have KW:Hid (∀W,Bl w W->Cp 163 #[.agg #[sX x0 0 y0,sX x1 p1 y1],sX s2 m2 t2] W λe w'=>Bl W w'/\∃u0 u1,e=rT (.agg #[u0,u1])/\RA (W.1.size<=·) w' u0 u1 A):=λW k=>by
   rw[EA.o];exact FN (w:=W) (P:=P) (sX x0 0 y0) (sX x1 p1 y1) a.2 B.1 z (sX s2 m2 t2) rfl (H.o.2.rw.kp (.of k)) hz (H'.o.1.rw.kp (.of k)) (Pl.ok_eq HB.o).1
  have OJ:Hid (Pl.okB A=b_/\Pl.okB B=b_):=⟨by rw[EA.o];exact Pl.OI (Pl.ok_eq HB.o).1 hv,HB.o⟩;go_enter func134,ntmps134;go_upto_region 5 with fail
  have V0:Hid (Bx (((w.alloc (.cells #[sX x0 0 y0,sX x1 p1 y1] 30)).alloc (.cells #[sX s2 m2 t2,sX s3 m3 t3] 30)).alloc (.cells nN 30)) w.1.size #[sX x0 0 y0,sX x1 p1 y1] 30/\Bx (((w.alloc (.cells #[sX x0 0 y0,sX x1 p1 y1] 30)).alloc (.cells #[sX s2 m2 t2,sX s3 m3 t3] 30)).alloc (.cells nN 30)) (w.1.size+1) #[sX s2 m2 t2,sX s3 m3 t3] 30/\Bx (((w.alloc (.cells #[sX x0 0 y0,sX x1 p1 y1] 30)).alloc (.cells #[sX s2 m2 t2,sX s3 m3 t3] 30)).alloc (.cells nN 30)) (w.1.size+1+1) nN 30/\Bl w (((w.alloc (.cells #[sX x0 0 y0,sX x1 p1 y1] 30)).alloc (.cells #[sX s2 m2 t2,sX s3 m3 t3] 30)).alloc (.cells nN 30))):=⟨.al (.al (.eK rfl) _) _,.al (.eK sI) _,.eK sI,gG⟩;generalize ew (ew (ew w _) _) _=W0 at *;refine(KW.o W0 V0.o.2.2.2).mono ?_;rintro e w1 ⟨hb,u0,u1,rfl,ra⟩;obtain⟨⟨s0,t0,rfl⟩,s1,t1,rfl⟩:=ra.eS;have⟨m0,M0⟩:=jN (A.1.length);have⟨m1,M1⟩:=jN (A.2.length);rw[M0.o,M1.o] at ra ⊢;open ajE in exact Zn
 ·have na:¬a.1=[]:=λe=>by have:=A0.o;rw[e] at this;simp at this;omega
  rcases rR p2 with Ci|Ci
  ·subst Ci
   generalize x0=s0,y0=t0,p0=m0,x1=s1,y1=t1,p1=m1 at *;have⟨A,EB⟩:∃A,A=a:=⟨_,rfl⟩;subst EB;have eb:b.1=[]:=lP.1 B0.o;have⟨z,hz,gX,hv⟩:=Pl.ok_one HB.o eb;have⟨B,EB⟩:∃B:Ar,Hid (B=(A.1,eE (Pl.eR A.1).toNat z)):=⟨_,rfl⟩;have HE:Hid (r=qH (Pl.two op) A B):=by show _=_;rw[HR.o,agD na eb HA.o,gX,EB.o]
   have KW:Hid (∀W,Bl w W->Cp 163 #[.agg #[sX x2 0 y2,sX x3 p3 y3],sX s0 m0 t0] W λe w'=>Bl W w'/\∃u0 u1,e=rT (.agg #[u0,u1])/\RA (W.1.size<=·) w' u0 u1 B):=λW k=>by
    rw[EB.o];exact FN (w:=W) (P:=P) (sX x2 0 y2) (sX x3 p3 y3) b.2 A.1 z (sX s0 m0 t0) rfl (H'.o.2.rw.kp (.of k)) hz (H.o.1.rw.kp (.of k)) (Pl.ok_eq HA.o).1
   have OJ:Hid (Pl.okB A=b_/\Pl.okB B=b_):=⟨HA.o,by rw[EB.o];exact Pl.OI (Pl.ok_eq HA.o).1 hv⟩;go_enter func134,ntmps134;go_upto_region 5 with fail
   have V0:Hid (Bx (((w.alloc (.cells #[sX s0 m0 t0,sX s1 m1 t1] 30)).alloc (.cells #[sX x2 0 y2,sX x3 p3 y3] 30)).alloc (.cells nN 30)) w.1.size #[sX s0 m0 t0,sX s1 m1 t1] 30/\Bx (((w.alloc (.cells #[sX s0 m0 t0,sX s1 m1 t1] 30)).alloc (.cells #[sX x2 0 y2,sX x3 p3 y3] 30)).alloc (.cells nN 30)) (w.1.size+1) #[sX x2 0 y2,sX x3 p3 y3] 30/\Bx (((w.alloc (.cells #[sX s0 m0 t0,sX s1 m1 t1] 30)).alloc (.cells #[sX x2 0 y2,sX x3 p3 y3] 30)).alloc (.cells nN 30)) (w.1.size+1+1) nN 30/\Bl w (((w.alloc (.cells #[sX s0 m0 t0,sX s1 m1 t1] 30)).alloc (.cells #[sX x2 0 y2,sX x3 p3 y3] 30)).alloc (.cells nN 30))):=⟨.al (.al (.eK rfl) _) _,.al (.eK sI) _,.eK sI,gG⟩;generalize ew (ew (ew w _) _) _=W0 at *;refine(KW.o W0 V0.o.2.2.2).mono ?_;rintro e w1 ⟨hb,u0,u1,rfl,ra⟩;obtain⟨⟨s2,t2,rfl⟩,s3,t3,rfl⟩:=ra.eS;obtain⟨m2,M2⟩:=jN (B.1.length);have⟨m3,M3⟩:=jN (B.2.length);rw[M2.o,M3.o] at ra ⊢;open ajF in exact Zn
  have nb:¬b.1=[]:=λe=>by have:=B0.o;rw[e] at this;simp at this;omega
  have HE:Hid (r=qH (Pl.two op) a b):=by show _=_;rw[HR.o,Pl.Od na nb]
  have OJ:Hid (Pl.okB a=b_/\Pl.okB b=b_):=⟨HA.o,HB.o⟩;generalize x2=s2,y2=t2,p2=m2,x3=s3,y3=t3,p3=m3 at *;have⟨B,EB⟩:∃B,B=b:=⟨_,rfl⟩;subst EB;generalize x0=s0,y0=t0,p0=m0,x1=s1,y1=t1,p1=m1 at *;have⟨A,EB⟩:∃A,A=a:=⟨_,rfl⟩;subst EB;go_enter func134,ntmps134;go_upto_region 5 with fail
  have V0:Hid (Bx (((w.alloc (.cells #[sX s0 m0 t0,sX s1 m1 t1] 30)).alloc (.cells #[sX s2 m2 t2,sX s3 m3 t3] 30)).alloc (.cells nN 30)) w.1.size #[sX s0 m0 t0,sX s1 m1 t1] 30/\Bx (((w.alloc (.cells #[sX s0 m0 t0,sX s1 m1 t1] 30)).alloc (.cells #[sX s2 m2 t2,sX s3 m3 t3] 30)).alloc (.cells nN 30)) (w.1.size+1) #[sX s2 m2 t2,sX s3 m3 t3] 30/\Bx (((w.alloc (.cells #[sX s0 m0 t0,sX s1 m1 t1] 30)).alloc (.cells #[sX s2 m2 t2,sX s3 m3 t3] 30)).alloc (.cells nN 30)) (w.1.size+1+1) nN 30/\Bl w (((w.alloc (.cells #[sX s0 m0 t0,sX s1 m1 t1] 30)).alloc (.cells #[sX s2 m2 t2,sX s3 m3 t3] 30)).alloc (.cells nN 30))):=⟨.al (.al (.eK rfl) _) _,.al (.eK sI) _,.eK sI,gG⟩;generalize ew (ew (ew w _) _) _=W0 at *;have J:=V0;have RJ:Hid (RA (λ_=>True) W0 (sX s0 m0 t0) (sX s1 m1 t1) A/\RA (λ_=>True) W0 (sX s2 m2 t2) (sX s3 m3 t3) B):=⟨(H.o.kp (.of J.o.2.2.2)).mono λ_ _ _=>trivial,(H'.o.kp (.of J.o.2.2.2)).mono λ_ _ _=>trivial⟩;skip
  exact Np
 ):ρ:=h
def Na{P:nK}{w:Wd}(op:Int)(gO:Pl.fN op=b_)(v0 v1 v2 v3:Va)(a b:Ar)(h:RA P w v0 v1 a)(h':RA P w v2 v3 b)(ha:Pl.okB a=b_)(hb:Pl.okB b=b_):Cp 134 #[I op,.agg #[v0,v1],.agg #[v2,v3]] w (SP w (Pl.el (Pl.two op) a b)):=by
 have H:=zH h;have H':=zH h';have HA:=zH ha;have HB:=zH hb;open amG in exact lO
end Go.Proofs.YtiagfejlmafliaaGreatDoor
