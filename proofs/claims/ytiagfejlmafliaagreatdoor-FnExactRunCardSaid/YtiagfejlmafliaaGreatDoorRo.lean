import Derived.Test.YtiagfejlmafliaaGreatDoorRl
namespace Go.Proofs.YtiagfejlmafliaaGreatDoor
set_option linter.all false
open Go.Proofs.Tryz Pl
open Go.RowKit
set_option maxRecDepth 100000
set_option maxHeartbeats 16000000
open Pl (Ar)
open World renaming setCell->ez,alloc->ew
open List renaming range->eA,replicate->eE
open Option renaming some->a_,none->c_
open Bool renaming true->b_,false->d_
variable {ρ:Prop}
def anm.ο(h:ρ:=by
 simp only at k0 k1 k2 k3 k4 k5 k6 hk;subst hk;have⟨q1,q2,q3,q4⟩:b<w.1.size+1/\b<w.1.size+1+1/\b<w.1.size+1+1+1/\b<w.1.size+1+1+1+1:=oM;have wi:IntKind.i64.wrap ((i:Int)-1)=(i:Int)-1:=by rw[lj];omega
 have wj:IntKind.i64.wrap ((j:Int)-1)=(j:Int)-1:=by rw[lj];omega
 rw[<- wi] at HS;rw[<- wj] at IH;clear wi wj;replace IH:=zH IH;replace HS:=zH HS;have F0:=zH (Fe.new (w:=w) (fA mf mc ms 0 0) (uC ⟨lf,lc,lr,ls⟩ u) (tE ⟨4,eF,nm,⟨fk,fa,fb,fn⟩⟩ an cn) nN nN);go_enter func49,ntmps49;go_upto_region 7 with fail
 have j8:w.1.size+7<=(((((((w.alloc (.cells (fA mf mc ms 0 0) 64)).alloc (.cells (uC ⟨lf,lc,lr,ls⟩ u) 62)).alloc (.cells nN 30)).alloc (.cells (fA 0 0 0 0 0) 64)).alloc (.cells (tE ⟨4,eF,nm,⟨fk,fa,fb,fn⟩⟩ an cn) 118)).alloc (.cells nN 30)).alloc (.cells nN 30)).1.size:=sI;have Bl:=zH F0.o.bl;clear k0 k1 k2 k3 k4 k5 k6;generalize ew (ew (ew (ew (ew (ew (ew w _) _) _) _) _) _) _=W0 at *;obtain⟨⟨d0,f0,z0⟩,⟨d1,f1,z1⟩,⟨d2,f2,z2⟩,⟨d3,f3,z3⟩,⟨d4,f4,z4⟩,⟨d5,f5,z5⟩,⟨d6,f6,z6⟩⟩:=F0.o.all;clear d2 f2 z2 d3 f3 z3 d6 f6 d4 f4 z4;go_cut [49] from 38 to 49 (λ_ wy=>∃a0 n0 c0 a1 n1 c1 s1,Fe w (fA m'.f m'.c s1 kd x) (uC ⟨lf,lc,lr,ls⟩ u) (tE ⟨4,eF,nm,⟨fk,fa,fb,fn⟩⟩ an cn) #[sX a0 n0 c0,sX a1 n1 c1] nN wy/\gL m'/\¬kd=0)
 case first =>
  go_region_with (first | (go_at_call 67;with_reducible refine(HS.o _ Bl.o.drew).mono ?_;rintro e w1 ⟨rfl,rfl⟩) | (go_at_call 49;refine(IH.o _ Bl.o.drew).mono ?_;rintro e w1 ⟨hb1,gJ,ru,a0,n0,c0,a1,n1,c1,s1,rfl⟩;have F1:=zH (F0.o.call (iq hb1));clear d0 f0 z0 d1 f1 z1 d5 f5 z5 hb1;obtain⟨d0,f0,z0⟩:=F1.o.b0.all;obtain⟨d5,f5,z5⟩:=F1.o.b5.all))
  all_goals
   go_wp2;go_meet
   exact⟨_,_,_,_,_,_,_,(F1.o.pw _ _).st _ _ _ _ _,gJ,ru⟩
 case rest =>
  obtain⟨a0,n0,c0,a1,n1,c1,s1,F2,gJ,ru⟩:=hcut;replace F2:=zH F2;have gp:(kd == 0)=d_:=gR.2 ru;clear F0 Bl IH HS d0 f0 z0 d1 f1 z1 d5 f5 z5 j8;obtain⟨⟨d0,f0,z0⟩,⟨d1,f1,z1⟩,⟨d2,f2,z2⟩,⟨d3,f3,z3⟩,⟨d4,f4,z4⟩,⟨d5,f5,z5⟩,⟨d6,f6,z6⟩⟩:=F2.o.all;clear d1 f1 z1 d4 f4 z4 d6 f6 z6;go_wp2_with fail;go_region
  all_goals
   clear d0 f0 z0 f2 z2 f3 z3 d5 f5 z5;go_wp2;refine eJ J9 rfl ?_;have:=F2.o.bl;exact⟨gG,gJ,ru,_,_,_,_,_,_,_,rfl⟩
 ):ρ:=h
def abK{K:Ks}{P:nK}{w:Wd}{u:UV}{G:Gb}{own:List Ar}{eO:Option Pl.Tv}{d:Nat}(L:Lm)(m:Ms)(hP:∀b,P b->b<w.1.size)(c:List Sv)(b o cp i:Nat)(s:Sv)(hs:c[i]? = a_ s)(pN:c.length<=1048576)(hk:s.k=4)(hb:b<w.1.size)(an:oA)(cn:Nat)(sp:jE w.1.size w b (o+i * 7) s an cn)
  (kd x:Int) (m':Ms) (j:Nat) (hj:j<=1048576) (HS:∀W,Bl w W->Cp 67 #[sX (sY b o) c.length cp,I ((i:Int)-1)] W λe w'=>e=rT (I (j:Int))/\w'=W) (IH:∀W,Bl w W->Cp 49 #[eW m.f m.c m.s 0 0,uV L u,sX (sY b o) c.length cp,I ((j:Int)-1)] W (EPost K P W (.error (kd,x),m'))) :
  Cp 49 #[eW m.f m.c m.s 0 0,uV L u,sX (sY b o) c.length cp,I (i:Int)] w (EPost K P w (.error (kd,x),m')):=by
 open anm in exact aao
end Go.Proofs.YtiagfejlmafliaaGreatDoor
