import Derived.Test.YtacapaiadggemaaGreatS5
namespace Go.Proofs.YtacapaiadggemaaGreat
open Go.RowKit
set_option maxRecDepth 100000
set_option maxHeartbeats 16000000
set_option linter.unusedVariables false
theorem symMerge_any (B0:Nat) (w0:World) (pa g off cap n:Nat) (k:Int->Int) (ok:Int->Prop) (hX:Cx B0 w0 pa g n k ok) (hn:n<=1000000):∀(K a m b:Nat) (f:Nat->Int) (w:World),b-a<=K->a<m->m<b->b<=n->Rw g off n f w->(∀t,t<n->ok (f t))->Pl.SrtF k f a m->Pl.SrtF k f m b->Below B0 w0 w ->
  Calls Tryz.prog 152 #[.slice (some ⟨g,off,none⟩) n cap,.int .i64 (a:Int),.int .i64 (m:Int),.int .i64 (b:Int),cl pa] w (SmPost g off n a m b k f w):=by
 intro K
 induction K with
 |zero=>intro a m b f w h1 h2 h3; omega
 |succ K ih =>
  intro a m b f w h1 h2 h3 h4 hR hok sL sR hB
  by_cases e1:m=a+1
  ·exact sm_left B0 w0 pa g off cap n a m b k ok f w hX hR e1 h3 h4 hn hok sR hB
  by_cases e2:b=m+1
  ·exact sm_right B0 w0 pa g off cap n a m b k ok f w hX hR (by omega) e2 h4 hn hok sL hB
  exact sm_gen B0 w0 pa g off cap n a m b k ok f w hX hR (by omega) (by omega) h4 hn hok sL sR hB (fun a' m' b' f' w' q1 q2 q3 q4 q5 q6 q7 q8 q9=>ih a' m' b' f' w' (by omega) q2 q3 q4 q5 q6 q7 q8 q9)
namespace Pl
def Dn (k:Int->Int) (F:Nat->Int) (x y:Nat):Prop:=seg F x y=grd k x (y-x)
theorem Dn.congr {k:Int->Int} {F G:Nat->Int} {x y:Nat} (h:Dn k F x y) (e:∀t,x<=t->t<y->G t=F t):Dn k G x y:=(seg_congr e).trans h
theorem Dn.srt {k:Int->Int} {F:Nat->Int} {x y:Nat} (h:Dn k F x y):SrtF k F x y:=srtF_of (by rw [h]; exact srt_grd _ _ _)
theorem Dn.mrg {k:Int->Int} {F G:Nat->Int} {x y z:Nat} (h1:Dn k F x y) (h2:Dn k F y z) (hxy:x<=y) (hyz:y<=z) (e:seg G x z=Pl.mrg k (seg F x y) (seg F y z)):Dn k G x z:=by
 unfold Dn at h1 h2 ⊢
 rw [e,h1,h2]
 have:=mrg_grd k x (y-x) (z-y)
 rw [show x+(y-x)=y by omega,show y-x+(z-y)=z-x by omega] at this
 exact this
def Al (B x:Nat):Prop:=∃r,x=r * B
theorem al_step {B x y:Nat} (hx:Al B x) (hy:Al B y) (h:x<y):x+B<=y:=by
 obtain ⟨r,rfl⟩:=hx
 obtain ⟨q,rfl⟩:=hy
 have:r<q:=Nat.lt_of_mul_lt_mul_right h
 have:=Nat.mul_le_mul_right B (show r+1<=q by omega)
 rw [Nat.succ_mul] at this
 exact this
theorem al_zero (B:Nat):Al B 0:=⟨0,by simp⟩
theorem al_add {B x:Nat} (h:Al B x):Al B (x+B):=by
 obtain ⟨r,rfl⟩:=h
 exact ⟨r+1,by rw [Nat.succ_mul]⟩
theorem al_two {B x:Nat} (h:Al (2 * B) x):Al B x:=by
 obtain ⟨r,rfl⟩:=h
 exact ⟨2 * r,by rw [Nat.mul_comm 2 r,Nat.mul_assoc]⟩
def Blk (k:Int->Int) (F:Nat->Int) (n B p:Nat):Prop:=∀x,Al B x->p<=x->x<n->Dn k F x (min (x+B) n)
def Blo (k:Int->Int) (F:Nat->Int) (n B p:Nat):Prop:=∀x,Al B x->x<p->x<n->Dn k F x (min (x+B) n)
end Pl
theorem grd_ok {k:Int->Int} {ok:Int->Prop} {n x y:Nat} (h:∀t:Nat,t<n->ok (t:Int)) (hy:y<=n):∀z∈Pl.grd k x (y-x),ok z:=by
 intro z hz
 have:=Pl.mem_grd hz
 by_cases hxy:x<=y
 ·obtain ⟨t,rfl⟩:=Int.eq_ofNat_of_zero_le (show 0<=z by omega)
  exact h t (by omega)
 rw [show y-x=0 by omega] at hz
 cases hz
theorem dn_ok {k:Int->Int} {ok:Int->Prop} {F G:Nat->Int} {n x y:Nat} (h:∀t:Nat,t<n->ok (t:Int)) (hy:y<=n) (hF:∀t,t<n->ok (F t)) (hd:Pl.Dn k G x y) (ho:∀t,(t<x\/y<=t)->G t=F t):∀t,t<n->ok (G t):=by
 intro t ht
 by_cases hin:x<=t/\t<y
 ·have hm:G t∈Pl.seg G x y:=Pl.seg_in hin.1 hin.2
  rw [hd] at hm
  exact grd_ok h hy _ hm
 rw [ho t (by omega)]
 exact hF t ht
structure Sx (B0:Nat) (w0:World) (g off n:Nat) (ok:Int->Prop) (w:World) (F:Nat->Int) (wr:World):Prop where
 r:Rw g off n F wr
 o:∀t,t<n->ok (F t)
 g:Gr g w wr
 b:Below B0 w0 wr
theorem stable_any (B0:Nat) (w0:World) (pa g off cap n:Nat) (k:Int->Int) (ok:Int->Prop) (f:Nat->Int) (w:World) (hX:Cx B0 w0 pa g n k ok) (hR:Rw g off n f w) (hn:n<=1000000) (hid:∀t,t<n->f t=(t:Int)) (hB:Below B0 w0 w) :
  Calls Tryz.prog 149 #[.slice (some ⟨g,off,none⟩) n cap,.int .i64 (n:Int),cl pa] w fun e w'=>e=.returned (.tuple #[])/\(∃f',Rw g off n f' w'/\Pl.seg f' 0 n=Pl.grd k 0 n)/\Gr g w w':=by
 have HX:=hideP hX
 have HSW:Hid (B0<=w.heap.size):=Nat.le_trans hX.g (Nat.le_of_lt hR.1)
 have S0:Hid (Sx B0 w0 g off n ok w f w):=⟨hR,fun t ht=>by rw [hid t ht]; exact hX.ok t ht,Gr.refl _ _,hB⟩
 have HID:=hideP hid
 have KI:Hid (∀(F:Nat->Int) (W:World) (p q:Nat),Sx B0 w0 g off n ok w F W->p<=q->q<=n->(∀t,p<=t->t<n->F t=(t:Int))->Calls Tryz.prog 151 #[.slice (some ⟨g,off,none⟩) n cap,.int .i64 (p:Int),.int .i64 (q:Int),cl pa] W fun e w'=>e=.returned (.tuple #[])/\∃F',Sx B0 w0 g off n ok w F' w'/\Pl.Dn k F' p q/\∀t,(t<p\/q<=t)->F' t=F t):=fun F W p q hs hpq hq hd =>
  (insertion_any B0 w0 pa g off cap n p q k ok F W HX.out hs.r hpq hq hn (fun t h1 h2=>hd t h1 (by omega)) hs.b).mono fun e w' ⟨he,⟨F',r',d',o'⟩,g'⟩ =>
   ⟨he,F',⟨r',dn_ok HX.out.ok hq hs.o d' o',hs.g.trans g',g'.keep hs.b HX.out.g (Nat.le_trans HSW.out hs.g.size)⟩,d',o'⟩
 have KM:Hid (∀(F:Nat->Int) (W:World) (x y z:Nat),Sx B0 w0 g off n ok w F W->x<y->y<z->z<=n->Pl.Dn k F x y->Pl.Dn k F y z->Calls Tryz.prog 152 #[.slice (some ⟨g,off,none⟩) n cap,.int .i64 (x:Int),.int .i64 (y:Int),.int .i64 (z:Int),cl pa] W fun e w'=>e=.returned (.tuple #[])/\∃F',Sx B0 w0 g off n ok w F' w'/\Pl.Dn k F' x z/\∀t,(t<x\/z<=t)->F' t=F t):=fun F W x y z hs hxy hyz hz d1 d2 =>
  (symMerge_any B0 w0 pa g off cap n k ok HX.out hn (z-x) x y z F W (Nat.le_refl _) hxy hyz hz hs.r hs.o d1.srt d2.srt hs.b).mono fun e w' ⟨he,⟨F',r',d',o'⟩,g'⟩=>by
   have dd:=d1.mrg d2 (by omega) (by omega) d'
   exact ⟨he,F',⟨r',dn_ok HX.out.ok hz hs.o dd o',hs.g.trans g',g'.keep hs.b HX.out.g (Nat.le_trans HSW.out hs.g.size)⟩,dd,o'⟩
 clear hX hR hid hB HSW
 go_enter Tryz.func149,Tryz.ntmps149
 go_wp2_with fail
 go_loopw [7,8] (fun va vb wr=>∃(p:Nat) (F:Nat->Int),Hid (Pl.Al 20 p)/\p<=n/\va=.int .i64 (p:Int)/\vb=.int .i64 ((p:Int)+20)/\Hid (Sx B0 w0 g off n ok w F wr)/\Hid (Pl.Blo k F n 20 p)/\Hid (∀t,p<=t->t<n->F t=(t:Int))) (fun va _ _=>n-(intOf va).toNat)
 case atStart=>exact ⟨0,f,Pl.al_zero _,Nat.zero_le _,rfl,rfl,S0,fun x _ h=>by omega,fun t _ ht=>HID.out t ht⟩
 obtain ⟨p,F,hAl,hpn,rfl,rfl,SX,hBl,hI⟩:=hrel
 clear S0
 by_cases hle:p+20<=n
 ·have hle':(p:Int)+20<=(n:Int):=by omega
  have KI':=hideP (KI.out F wr p (p+20) SX.out (by omega) hle hI.out)
  rw [show ((p+20:Nat):Int)=(p:Int)+20 by omega] at KI'
  go_wp2_with fail
  refine KI'.out.mono ?_
  rintro e w2 ⟨rfl,F',hs',hd',ho'⟩
  have S2:=hideP hs'
  have B2:Hid (Pl.Blo k F' n 20 (p+20)):=fun x hx hlt hxn=>by
   by_cases hxp:x<p
   ·have:=Pl.al_step hx hAl.out hxp
    exact (hBl.out x hx hxp hxn).congr fun t _ t2=>ho' t (.inl (by omega))
   have:x=p:=by
    by_cases h:p<x
    ·have:=Pl.al_step hAl.out hx h; omega
    omega
   subst this
   rw [Nat.min_eq_left hle]
   exact hd'
  have I2:Hid (∀t,p+20<=t->t<n->F' t=(t:Int)):=fun t h1 h2=>(ho' t (.inr h1)).trans (hI.out t (by omega) h2)
  have A2:=hideP (Pl.al_add hAl.out)
  clear hs' hd' ho' KI'
  go_wp2_with fail
  go_roundw
  case rel=>exact ⟨p+20,F',A2,hle,by go_num,by go_num,S2,B2,I2⟩
  simp [intOf]; omega
 have hle':¬(p:Int)+20<=(n:Int):=by omega
 have KI':=hideP (KI.out F wr p n SX.out hpn (Nat.le_refl _) hI.out)
 go_wp2_with fail
 refine KI'.out.mono ?_
 rintro e w2 ⟨rfl,F',hs',hd',ho'⟩
 have S2:=hideP hs'
 have B2:Hid (Pl.Blk k F' n 20 0):=fun x hx _ hxn=>by
  by_cases hxp:x<p
  ·have:=Pl.al_step hx hAl.out hxp
   exact (hBl.out x hx hxp hxn).congr fun t _ t2=>ho' t (.inl (by omega))
  have:x=p:=by
   by_cases h:p<x
   ·have:=Pl.al_step hAl.out hx h; omega
   omega
  subst this
  rw [Nat.min_eq_right (by omega)]
  exact hd'
 clear hs' hd' ho' KI' SX hBl hI hAl
 go_wp2_with fail
 go_loopw [6,7,8,9] (fun vB _ _ _ wr=>∃(B:Nat) (F:Nat->Int),0<B/\B<=2 * n+20/\vB=.int .i64 (B:Int)/\Hid (Sx B0 w0 g off n ok w F wr)/\Hid (Pl.Blk k F n B 0)) (fun vB _ _ _ _=>n-(intOf vB).toNat)
 case atStart=>exact ⟨20,F',by omega,by omega,rfl,S2,B2⟩
 clear S2 B2
 obtain ⟨B,F,hB0,hBn,rfl,SX,hBl⟩:=hrel
 by_cases hlt:B<n
 rotate_left 1
 ·have hlt':¬(B:Int)<(n:Int):=by omega
  have HE:Hid (Pl.seg F 0 n=Pl.grd k 0 n):=by
   show _=_
   by_cases h0:0<n
   ·have:=hBl.out 0 (Pl.al_zero _) (Nat.le_refl _) h0
    rw [Nat.min_eq_right (by omega)] at this
    exact this
   rw [Pl.seg_nil F (by omega),show n=0 by omega]
   rfl
  go_wp2_with fail
  go_end0
  exact ⟨rfl,⟨F,SX.out.r,HE.out⟩,SX.out.g⟩
 have hlt':(B:Int)<(n:Int):=by omega
 go_wp2_with fail
 go_loopw [7,8] (fun va vb wr=>∃(p:Nat) (F:Nat->Int),Hid (Pl.Al (2 * B) p)/\p<=n/\va=.int .i64 (p:Int)/\vb=.int .i64 ((p:Int)+2 * (B:Int))/\Hid (Sx B0 w0 g off n ok w F wr)/\Hid (Pl.Blo k F n (2 * B) p)/\Hid (Pl.Blk k F n B p)) (fun va _ _=>n-(intOf va).toNat)
 case atStart=>exact ⟨0,F,Pl.al_zero _,Nat.zero_le _,rfl,by go_num,SX,fun x _ h=>by omega,hBl⟩
 clear SX hBl
 obtain ⟨p,F,hAl,hpn,rfl,rfl,SX,hBo,hBl⟩:=hrel
 have D1:Hid (p<n->Pl.Dn k F p (min (p+B) n)):=fun h=>hBl.out p (Pl.al_two hAl.out) (Nat.le_refl _) h
 have D2:Hid (p+B<n->Pl.Dn k F (p+B) (min (p+B+B) n)):=fun h=>hBl.out (p+B) (Pl.al_add (Pl.al_two hAl.out)) (by omega) h
 by_cases hle:p+2 * B<=n
 ·have hle':(p:Int)+2 * (B:Int)<=(n:Int):=by omega
  have KM':=hideP (KM.out F wr p (p+B) (p+2 * B) SX.out (by omega) (by omega) hle (by have:=D1.out (by omega); rw [Nat.min_eq_left (by omega)] at this; exact this) (by have:=D2.out (by omega); rw [Nat.min_eq_left (by omega),show p+B+B=p+2 * B by omega] at this; exact this))
  rw [show ((p+B:Nat):Int)=(p:Int)+(B:Int) by omega,show ((p+2 * B:Nat):Int)=(p:Int)+2 * (B:Int) by omega] at KM'
  go_wp2_with fail
  refine KM'.out.mono ?_
  rintro e w3 ⟨rfl,F',hs',hd',ho'⟩
  have S2:=hideP hs'
  have B2:Hid (Pl.Blo k F' n (2 * B) (p+2 * B)):=fun x hx hlt hxn=>by
   by_cases hxp:x<p
   ·have:=Pl.al_step hx hAl.out hxp
    exact (hBo.out x hx hxp hxn).congr fun t _ t2=>ho' t (.inl (by omega))
   have:x=p:=by
    by_cases h:p<x
    ·have:=Pl.al_step hAl.out hx h; omega
    omega
   subst this
   rw [Nat.min_eq_left hle]
   exact hd'
  have B3:Hid (Pl.Blk k F' n B (p+2 * B)):=fun x hx hlt hxn=>(hBl.out x hx (by omega) hxn).congr fun t t1 _=>ho' t (.inr (by omega))
  have A2:=hideP (Pl.al_add hAl.out)
  clear hs' hd' ho' KM'
  go_wp2_with fail
  go_roundw
  case rel=>exact ⟨p+2 * B,F',A2,hle,by go_num,by go_num,S2,B2,B3⟩
  simp [intOf]; omega
 have hle':¬(p:Int)+2 * (B:Int)<=(n:Int):=by omega
 have OUT:Hid (∀F',Pl.Dn k F' p n->(∀t,t<p->F' t=F t)->Pl.Blk k F' n (2 * B) 0):=fun F' hd' ho' x hx _ hxn=>by
  by_cases hxp:x<p
  ·have:=Pl.al_step hx hAl.out hxp
   exact (hBo.out x hx hxp hxn).congr fun t _ t2=>ho' t (by omega)
  have:x=p:=by
   by_cases h:p<x
   ·have:=Pl.al_step hAl.out hx h; omega
   omega
  subst this
  rw [Nat.min_eq_right (by omega)]
  exact hd'
 by_cases hm:p+B<n
 ·have hm':(p:Int)+(B:Int)<(n:Int):=by omega
  have KM':=hideP (KM.out F wr p (p+B) n SX.out (by omega) hm (Nat.le_refl _) (by have:=D1.out (by omega); rw [Nat.min_eq_left (by omega)] at this; exact this) (by have:=D2.out hm; rw [Nat.min_eq_right (by omega)] at this; exact this))
  rw [show ((p+B:Nat):Int)=(p:Int)+(B:Int) by omega] at KM'
  go_wp2_with fail
  refine KM'.out.mono ?_
  rintro e w3 ⟨rfl,F',hs',hd',ho'⟩
  have S2:=hideP hs'
  have B2:=hideP (OUT.out F' hd' (fun t ht=>ho' t (.inl ht)))
  clear hs' hd' ho' KM'
  go_wp2_with fail
  go_roundw
  case rel=>exact ⟨2 * B,F',by omega,by omega,by congr 1; omega,S2,B2⟩
  simp [intOf]; omega
 have hm':¬(p:Int)+(B:Int)<(n:Int):=by omega
 have B2:Hid (Pl.Blk k F n (2 * B) 0):=OUT.out F (by
  by_cases hp:p<n
  ·have:=D1.out hp
   rw [Nat.min_eq_right (by omega)] at this
   exact this
  unfold Pl.Dn
  rw [Pl.seg_nil F (by omega),show n-p=0 by omega]
  rfl) (fun _ _=>rfl)
 go_wp2_with fail
 go_roundw
 case rel=>exact ⟨2 * B,F,by omega,by omega,by congr 1; omega,SX,B2⟩
 simp [intOf]; omega
theorem sortStable_any (B0:Nat) (w0:World) (pa g off cap n:Nat) (k:Int->Int) (ok:Int->Prop) (f:Nat->Int) (w:World) (hX:Cx B0 w0 pa g n k ok) (hR:Rw g off n f w) (hn:n<=1000000) (hid:∀t,t<n->f t=(t:Int)) (hB:Below B0 w0 w) :
  Calls Tryz.prog 138 #[.slice (some ⟨g,off,none⟩) n cap,cl pa] w fun e w'=>e=.returned (.tuple #[])/\(∃f',Rw g off n f' w'/\Pl.seg f' 0 n=Pl.grd k 0 n)/\Gr g w w':=by
 have K:=hideP (stable_any B0 w0 pa g off cap n k ok f w hX hR hn hid hB)
 clear hX hR hid hB
 go_enter Tryz.func138,Tryz.ntmps138
 go_wp2_with fail
 refine K.out.mono ?_
 rintro e w' ⟨rfl,h,hg⟩
 have H:=hideP h
 have HG:=hideP hg
 clear h hg
 go_wp2_with fail
 go_end0
 exact ⟨rfl,H.out,HG.out⟩
namespace Pl
def key (da:List Int) (x:Int):Int:=da.getD x.toNat 0
def gradeM (sh da:List Int):Int × List Int × List Int:=if sh.length=1 then (0,[(da.length:Int)],grd (key da) 0 da.length) else (2,[],[])
end Pl
theorem own_of_rw {B g n:Nat} {f:Nat->Int} {w:World} {zs:List Int} (h:Rw g 0 n f w) (hB:B<=g) (e:Pl.seg f 0 n=zs) (hn:n<=9223372036854775807):Own B w (.slice (some ⟨g,0,none⟩) n n) zs:=by
 subst e
 have hl:(Pl.seg f 0 n).length=n:=by rw [Pl.seg_len]; rfl
 refine ⟨some ⟨g,0,none⟩,n,by rw [hl],.inr ⟨g,0,⟨hB,by omega,hn,rfl⟩,h.1,rfl,fun i hi=>?_⟩⟩
 rw [hl] at hi
 have:=h.2 i hi
 have e1:(Pl.seg f 0 n).getD i 0=f i:=by
  rw [List.getD,Pl.seg_get (by omega),Nat.zero_add]
  rfl
 rw [e1]
 exact this
theorem rw_of_own {base g n cap:Nat} {w:World} {zs:List Int} (h:w.ownsRow base 3 1 (.slice (some ⟨g,0,none⟩) n cap) n (zs.map (Value.int .i64))) (hl:zs.length=n):Rw g 0 n (fun t=>zs.getD t 0) w:=by
 rcases h.2 with ⟨e,_⟩ | ⟨g',cap',cur,e,_,hg,_⟩
 ·injection e with e1 _ _; cases e1
 injection e with e1 _ _
 injection e1 with e1
 injection e1 with e1 _ _
 subst e1
 refine ⟨(Array.getElem?_eq_some_iff.1 hg).1,fun t ht=>⟨?_,frozen_of_row w g (0+t) cur 3 hg⟩⟩
 show _=some (Value.int .i64 (zs.getD t 0))
 rw [Nat.zero_add,h.cellAt t (by omega),List.getElem?_map,List.getD,List.getElem?_eq_getElem (by omega)]
 rfl
theorem grade_any (v0 v1:Value) (sh da:List Int) (w:World) (hok:Pl.okB sh da=true) (h0:Rd w.heap.size w v0 sh) (h1:Rd w.heap.size w v1 da) (c:Int) (S D:List Int) (hres:Pl.gradeM sh da=(c,S,D)) :
  Calls Tryz.prog 110 #[.agg #[v0,v1]] w (KPost w c S D):=by
 have hmf:∀(fn:Fn) (first cap:Array Value) (w:World),(Instr.makeFunc fn first cap).run Tryz.prog w=.ok (.func fn first cap) w:=fun _ _ _ _=>rfl
 obtain ⟨hm0,hm1⟩:=Pl.ok_max hok
 obtain ⟨a0,d0,e0⟩:=h0.form
 obtain ⟨a1,d1,b1,o1,e1,hao1,hb1,hc1⟩:=h1.parts
 subst e0 e1
 have PB:Hid (∀W,Below (w.heap.size+1+1) ((w.alloc (.cells #[.slice a0 sh.length d0,.slice a1 da.length d1] 25)).alloc (.cells #[.slice none 0 0,.slice none 0 0] 25)) W->(W.cell? ⟨w.heap.size,0,none⟩=some (.slice a0 sh.length d0)/\W.cell? ⟨w.heap.size,1,none⟩=some (.slice a1 da.length d1))/\(W.cell? ⟨w.heap.size+1,0,none⟩=some (.slice none 0 0)/\W.cell? ⟨w.heap.size+1,1,none⟩=some (.slice none 0 0)/\∀o,W.frozen? ⟨w.heap.size+1,o,none⟩=false)/\Below w.heap.size w W):=fun W hb=>boxes2 hb
 unfold Pl.gradeM at hres
 by_cases hsl:sh.length=1
 rotate_left 1
 ·rw [if_neg hsl] at hres
  simp only [Prod.mk.injEq] at hres
  obtain ⟨rfl,rfl,rfl⟩:=hres
  have hne:((sh.length:Int) != 1)=true:=by rw [bne_iff_ne]; omega
  have X1:=hideP (PB.out _ (Below.refl _ _))
  clear h0 h1 hok hsl hao1 hb1 hc1 hm0 hm1
  generalize sh.length=L at *
  generalize da.length=M at *
  go_enter Tryz.func110,Tryz.ntmps110
  go_wp2_with (go_at_call 73; refine (refuse_yes _ _).mono ?_; rintro e w1 ⟨rfl,rfl⟩)
  exact ⟨rfl,X1.out.2.2,.inr ⟨by decide,rfl,rfl,rfl⟩⟩
 rw [if_pos hsl] at hres
 simp only [Prod.mk.injEq] at hres
 obtain ⟨rfl,rfl,rfl⟩:=hres
 have hne:((sh.length:Int) != 1)=false:=by rw [bne_eq_false_iff_eq]; omega
 obtain ⟨wb,hwb⟩:∃wb,wb=(w.alloc (.cells #[.slice a0 sh.length d0,.slice a1 da.length d1] 25)).alloc (.cells #[.slice none 0 0,.slice none 0 0] 25):=⟨_,rfl⟩
 have WS:wb.heap.size=w.heap.size+1+1:=by rw [hwb]; simp
 rw [<- hwb] at PB
 have HC:Hid (Cmp (w.heap.size+1+1) wb w.heap.size (Pl.key da) (fun x=>0<=x/\x<da.length)):=by
  obtain ⟨⟨_,q1⟩,_,q3⟩:=PB.out wb (Below.refl _ _)
  by_cases hz:da.length=0
  ·intro x y W hx
   omega
  have hao:=hao1 (by omega)
  have hbl:=hb1 (by omega)
  rw [hao] at q1
  exact grade1_any w.heap.size b1 o1 d1 (.slice a0 sh.length d0) da wb (w.heap.size+1+1) (by omega) (by omega) q1 (fun i hi=>(q3.cell (p:=⟨b1,o1+i,none⟩) hbl).trans (hc1 i hi))
 have hn:da.length<=1000:=hm1
 generalize Pl.key da=kk at *
 clear h0 h1 hok hsl hao1 hb1 hc1 hm0 hm1
 generalize sh.length=L at *
 generalize da.length=n at *
 have c00:=(PB.out wb (Below.refl _ _)).1.1
 have c01:=(PB.out wb (Below.refl _ _)).1.2
 go_enter Tryz.func110,Tryz.ntmps110
 go_wp2_with (go_at_call 73; refine (refuse_no 2 _).mono ?_; rintro e w1 ⟨rfl,rfl⟩)
 rw [<- hwb]
 refine (positions_any n _ hn).mono ?_
 rintro e w2 ⟨rfl,ho2,hb2⟩
 have hs2:=hb2.size
 rw [WS] at ho2 hb2
 have B2:=hideP (show Below (w.heap.size+1+1) wb w2 from hb2)
 have R2:Hid (Rw (w.heap.size+1+1) 0 n (fun t=>(Pl.iotaL n).getD t 0) w2):=rw_of_own ho2 (Pl.iotaL_len n)
 have KS:=hideP (sortStable_any (w.heap.size+1+1) wb w.heap.size (w.heap.size+1+1) 0 n n kk (fun x=>0<=x/\x<n) _ w2 ⟨HC.out,Nat.le_refl _,fun t ht=>⟨by omega,by omega⟩⟩ R2.out (by omega) (fun t ht=>by
  show (Pl.iotaL n).getD t 0=_
  unfold Pl.iotaL
  rw [List.getD,List.getElem?_map,List.getElem?_range ht]
  rfl) B2.out)
 clear ho2 hb2 R2 HC
 go_wp2_with fail
 refine KS.out.mono ?_
 rintro e w3 ⟨rfl,⟨f3,hr3,hs3⟩,hg3⟩
 have B3:=hideP (hg3.keep B2.out (Nat.le_refl _) (by omega))
 have O3:=hideP (own_of_rw (B:=w.heap.size+1+1) hr3 (Nat.le_refl _) hs3 (by omega))
 have hs4:=hg3.size
 clear hr3 hs3 hg3 KS
 go_wp2_with fail
 refine (vector_any _ n n w3).mono ?_
 rintro e w4 ⟨g,rfl,ho4,hb4⟩
 have B4:=hideP (B3.out.trans (hb4.mono (by omega)))
 have X4:=hideP (PB.out _ B4.out)
 have OV:=hideP (O3.out.keep hb4)
 have OS:=hideP ho4
 have AP:=hideP (apart_lo2 (da:=Pl.grd kk 0 n) ho4 O3.out.lt)
 have hs5:=hb4.size
 clear ho4 hb4 c00 c01
 have r0:=X4.out.2.1.1
 have r1:=X4.out.2.1.2.1
 have f2:=X4.out.2.1.2.2
 go_wp2_with fail
 refine bodyPost_ret (v:=.agg #[.slice (some ⟨g,0,none⟩) 1 1,.slice (some ⟨w.heap.size+1+1,0,none⟩) n n]) (by simp [results,Tryz.results110,go_sem,r0,r1]) rfl ⟨(X4.out.2.2.setCell (by simp) _).setCell (by simp) _,.inl ⟨rfl,_,_,rfl,?_,?_,AP.out⟩⟩
 ·exact Own.base (Own.store (Own.store OS.out (by omega) _) (by omega) _) (by omega)
 exact Own.base (Own.store (Own.store OV.out (by omega) _) (by omega) _) (by omega)
namespace Pl
def keyG (da:List Int) (x:Int):Int:=da.getD x.toNat 0
theorem grd_step {k:Int->Int} {us:List Int} {j p:Nat} (hu:us=grd k 0 j) (hp:p<=us.length) (h1:∀t,t<p->k (us.getD t 0)<=k (j:Int)) (h2:p<us.length->k (j:Int)<k (us.getD p 0)):us.take p++(j:Int)::us.drop p=grd k 0 (j+1):=by
 have hs:Srt k us:=by rw [hu]; exact srt_grd _ _ _
 show _=ins k ((0+j:Nat):Int) (grd k 0 j)
 rw [<- hu,Nat.zero_add]
 have e:ins k (j:Int) (us.take p++us.drop p)=us.take p++(j:Int)::us.drop p:=ins_split (fun x hx=>by
   obtain ⟨t,ht,rfl⟩:=List.getElem_of_mem hx
   have hl:=List.length_take_le p us
   have h:=h1 t (by rw [List.length_take] at ht; omega)
   rw [List.getD,List.getElem?_eq_getElem (by rw [List.length_take] at ht; omega)] at h
   rw [List.getElem_take]
   exact h) (fun x hx=>by
   obtain ⟨t,ht,rfl⟩:=List.getElem_of_mem hx
   rw [List.length_drop] at ht
   rw [List.getElem_drop]
   have h:=h2 (by omega)
   rw [List.getD,List.getElem?_eq_getElem (by omega)] at h
   by_cases e:t=0
   ·subst e; exact h
   have:=List.pairwise_iff_getElem.1 hs p (p+t) (by omega) (by omega) (by omega)
   have h':k (j:Int)<k us[p]:=h
   omega)
 rw [List.take_append_drop] at e
 exact e.symm
end Pl
theorem rd_pre {B:Nat} {w:World} {b off m cap:Nat} {zs:List Int} (h:Rd B w (.slice (some ⟨b,off,none⟩) m cap) zs) (p:Nat) (hp:p<=m) (c':Nat):Rd B w (.slice (some ⟨b,off,none⟩) p c') (zs.take p):=by
 obtain ⟨ao,cap',e,h⟩:=h
 injection e with e1 e2 e3
 subst e2
 have hl:(zs.take p).length=p:=by rw [List.length_take]; omega
 refine ⟨some ⟨b,off,none⟩,c',by rw [hl],?_⟩
 rw [hl]
 by_cases h0:p=0
 ·exact .inl h0
 rcases h with h | ⟨b',off',hB,e',hc⟩
 ·omega
 rw [e'] at e1
 injection e1 with e1
 injection e1 with e1 e2 _
 subst e1 e2
 refine .inr ⟨b,off,hB,rfl,fun i hi=>?_⟩
 rw [hc i (by omega)]
 congr 2
 rw [List.getD,List.getD,List.getElem?_take_of_lt hi]
theorem rd_post {B:Nat} {w:World} {b off m cap:Nat} {zs:List Int} (h:Rd B w (.slice (some ⟨b,off,none⟩) m cap) zs) (p:Nat) (hp:p<=m) (c':Nat):Rd B w (.slice (some ⟨b,off+p,none⟩) (m-p) c') (zs.drop p):=by
 obtain ⟨ao,cap',e,h⟩:=h
 injection e with e1 e2 e3
 subst e2
 have hl:(zs.drop p).length=zs.length-p:=List.length_drop
 refine ⟨some ⟨b,off+p,none⟩,c',by rw [hl],?_⟩
 rw [hl]
 by_cases h0:zs.length-p=0
 ·exact .inl h0
 rcases h with h | ⟨b',off',hB,e',hc⟩
 ·omega
 rw [e'] at e1
 injection e1 with e1
 injection e1 with e1 e2 _
 subst e1 e2
 refine .inr ⟨b,off+p,hB,rfl,fun i hi=>?_⟩
 rw [show off+p+i=off+(p+i) by omega,hc (p+i) (by omega)]
 congr 2
 rw [List.getD,List.getD,List.getElem?_drop]
theorem l2Grade_any (b0 o0 c0 b1 o1 c1:Nat) (sh da:List Int) (w:World) (h1:Rd w.heap.size w (.slice (some ⟨b1,o1,none⟩) da.length c1) da) (hn:da.length<=1000) :
  Calls Tryz.prog 49 #[.agg #[.slice (some ⟨b0,o0,none⟩) sh.length c0,.slice (some ⟨b1,o1,none⟩) da.length c1]] w fun e w'=>∃u0 u1,e=.returned (.agg #[u0,u1])/\Res w.heap.size w' u0 u1 [(da.length:Int)] (Pl.grd (Pl.keyG da) 0 da.length)/\Below w.heap.size w w':=by
 obtain ⟨wb,hwb⟩:∃wb,wb=(w.alloc (.cells #[.slice (some ⟨b0,o0,none⟩) sh.length c0,.slice (some ⟨b1,o1,none⟩) da.length c1] 25)).alloc (.cells #[.slice none 0 0,.slice none 0 0] 25):=⟨_,rfl⟩
 have WS:wb.heap.size=w.heap.size+1+1:=by rw [hwb]; simp
 have PB:Hid (∀W,Below wb.heap.size wb W->(W.cell? ⟨w.heap.size,0,none⟩=some (.slice (some ⟨b0,o0,none⟩) sh.length c0)/\W.cell? ⟨w.heap.size,1,none⟩=some (.slice (some ⟨b1,o1,none⟩) da.length c1))/\(W.cell? ⟨w.heap.size+1,0,none⟩=some (.slice none 0 0)/\W.cell? ⟨w.heap.size+1,1,none⟩=some (.slice none 0 0)/\∀o,W.frozen? ⟨w.heap.size+1,o,none⟩=false)/\Below w.heap.size w W):=fun W hb=>by
  subst hwb
  exact boxes2 (hb.mono (by simp))
 have HC:Hid (∀i,i<da.length->b1<w.heap.size/\w.cell? ⟨b1,o1+i,none⟩=some (.int .i64 (Pl.keyG da (i:Int)))):=fun i hi=>by
  have:=rd_cell h1 (i:=i) hi
  exact this
 have O0:Hid ((wb.alloc (.cells #[] 3)).ownsRow wb.heap.size 3 1 (.slice (some ⟨wb.heap.size,0,none⟩) 0 0) 0 (([]:List Int).map (Value.int .i64))):=owns_empty wb wb.heap.size (Nat.le_refl _)
 have B0:Hid (Below wb.heap.size wb (wb.alloc (.cells #[] 3))):=(Below.refl _ _).alloc (Nat.le_refl _) _
 generalize Pl.keyG da=k at *
 clear h1
 generalize da.length=n at *
 generalize sh.length=Ls at *
 have c00:=(PB.out _ B0.out).1.1
 have c01:=(PB.out _ B0.out).1.2
 go_enter Tryz.func49,Tryz.ntmps49
 go_wp2_with fail
 rw [<- hwb]
 clear c00 c01 hwb
 go_loopw [3,4,5,6] (fun ov i _ _ wr=>∃(j:Nat) (us:List Int) (g cp:Nat),j<=n/\i=.int .i64 (j:Int)/\ov=.slice (some ⟨g,0,none⟩) us.length cp/\Hid (us=Pl.grd k 0 j)/\Hid (wr.ownsRow wb.heap.size 3 1 (.slice (some ⟨g,0,none⟩) us.length cp) us.length (us.map (Value.int .i64)))/\Hid (Below wb.heap.size wb wr)) (fun _ i _ _ _=>n-(intOf i).toNat)
 case atStart=>exact ⟨0,[],wb.heap.size,0,Nat.zero_le _,rfl,by rw [WS]; rfl,rfl,O0,B0⟩
 clear O0 B0
 obtain ⟨j,us,g,cp,hj,rfl,rfl,HU,HO,BB⟩:=hrel
 have X:=hideP (PB.out _ BB.out)
 have HLN:Hid (us.length=j):=by show _=_; rw [HU.out,Pl.len_grd]
 by_cases hlt:j<n
 rotate_left 1
 ·have hlt':¬(j:Int)<(n:Int):=by omega
  have hjn:j=n:=by omega
  have RV:Hid (Rd wr.heap.size wr (.slice (some ⟨g,0,none⟩) us.length cp) us):=(own_of_any HO.out).rd
  have KV:=hideP (l2Vector_any _ us wr (by have:=HLN.out; omega) RV.out)
  have c01:=X.out.1.2
  have HUN:Hid (us=Pl.grd k 0 n):=by show _=_; rw [<- hjn]; exact HU.out
  have HLE:Hid ((us.length:Int)=(n:Int)):=by show _=_; rw [HLN.out,hjn]
  clear hjn RV
  go_wp2_with fail
  refine KV.out.mono ?_
  rintro e w2 ⟨g0,g1,cp1,rfl,q0,q1,res2,hb2⟩
  have B2:=hideP (BB.out.trans (hb2.mono BB.out.size))
  have X2:=hideP (PB.out _ B2.out)
  have R2:=hideP res2
  have hs2:=hb2.size
  have hsb:=BB.out.size
  clear hb2 res2 c01 KV
  have r0:=X2.out.2.1.1
  have r1:=X2.out.2.1.2.1
  have f2:=X2.out.2.1.2.2
  go_wp2_with fail
  refine bodyPost_ret (v:=.agg #[.slice (some ⟨g0,0,none⟩) 1 1,.slice (some ⟨g1,0,none⟩) us.length cp1]) (by simp [results,Tryz.results49,go_sem,r0,r1]) rfl ⟨_,_,rfl,?_,(X2.out.2.2.setCell (by simp) _).setCell (by simp) _⟩
  have:=R2.out
  rw [HLE.out] at this
  rw [<- HUN.out]
  exact ⟨Own.base (Own.store (Own.store this.1 (by omega) _) (by omega) _) (by omega),Own.base (Own.store (Own.store this.2.1 (by omega) _) (by omega) _) (by omega),this.2.2⟩
 have hlt':(j:Int)<(n:Int):=by omega
 obtain ⟨m,hm⟩:∃m,us.length=m:=⟨_,rfl⟩
 have Hm:=hideP hm
 have hmj:m<=1000:=by have:=HLN.out; omega
 rw [hm] at HO ⊢
 clear hm
 have c01:=X.out.1.2
 go_wp2_with fail
 clear c01
 go_loopw [5] (fun vp w2=>∃p:Nat,p<=m/\vp=.int .i64 (p:Int)/\Hid (∀t,t<p->k (us.getD t 0)<=k (j:Int))/\Hid (w2.ownsRow wb.heap.size 3 1 (.slice (some ⟨g,0,none⟩) m cp) m (us.map (Value.int .i64)))/\Hid (Below wb.heap.size wb w2)) (fun vp _=>m-(intOf vp).toNat)
 case atStart=>exact ⟨0,Nat.zero_le _,rfl,fun t ht=>by omega,HO,BB⟩
 clear HO BB X
 obtain ⟨p,hp,rfl,HL,HO,BB⟩:=hrel
 have X:=hideP (PB.out _ BB.out)
 have cj:wr.cell? ⟨b1,o1+j,none⟩=some (.int .i64 (k (j:Int))):=(X.out.2.2.cell (p:=⟨b1,o1+j,none⟩) (HC.out j hlt).1).trans (HC.out j hlt).2
 have c01:=X.out.1.2
 go_upto_region 6 with fail
 go_cut [34] from 15 to 36 (fun c wx=>c=.bool (decide (p<m/\k (us.getD p 0)<=k (j:Int)))/\Hid (wx.ownsRow wb.heap.size 3 1 (.slice (some ⟨g,0,none⟩) m cp) m (us.map (Value.int .i64)))/\Hid (Below wb.heap.size wb wx))
 case first =>
  have OD:Hid (∀q,(wr.drewN q).ownsRow wb.heap.size 3 1 (.slice (some ⟨g,0,none⟩) m cp) m (us.map (Value.int .i64))/\Below wb.heap.size wb (wr.drewN q)):=fun q=>⟨HO.out,below_drewN BB.out q⟩
  by_cases hpm:p<m
  rotate_left 1
  ·have hpm':decide ((p:Int)<(m:Int))=false:=decide_eq_false (by omega)
   have HR:Hid (decide (p<m/\k (us.getD p 0)<=k (j:Int))=false):=decide_eq_false fun h=>hpm h.1
   go_quiet (fail)
   go_wp2_with fail
   go_meet
   exact ⟨congrArg Value.bool HR.out.symm,(OD.out _).1,(OD.out _).2⟩
  have hpm':decide ((p:Int)<(m:Int))=true:=decide_eq_true (by omega)
  have hpm2:(p:Int)<(m:Int):=by omega
  have cp0:wr.cell? ⟨g,p,none⟩=some (.int .i64 (us.getD p 0)):=by
   rw [HO.out.cellAt p (by omega),List.getElem?_map,List.getD,List.getElem?_eq_getElem (by rw [Hm.out]; exact hpm)]
   rfl
  have hmem:us.getD p 0∈us:=by
   rw [List.getD,List.getElem?_eq_getElem (by rw [Hm.out]; exact hpm)]
   exact List.getElem_mem _
  rw [HU.out] at hmem
  have hx2:=Pl.mem_grd hmem
  rw [<- HU.out] at hx2
  obtain ⟨x,hx⟩:=Int.eq_ofNat_of_zero_le (show 0<=us.getD p 0 by omega)
  rw [hx] at cp0 hx2
  have hxn:(x:Int)<(n:Int):=by omega
  have hjn:(j:Int)<(n:Int):=by omega
  have cx:wr.cell? ⟨b1,o1+x,none⟩=some (.int .i64 (k (x:Int))):=(X.out.2.2.cell (p:=⟨b1,o1+x,none⟩) (HC.out x (by omega)).1).trans (HC.out x (by omega)).2
  have HXE:=hideP hx
  clear hmem hx2 hx
  by_cases hle:k (x:Int)<=k (j:Int)
  ·have HR:Hid (decide (p<m/\k (us.getD p 0)<=k (j:Int))=true):=decide_eq_true ⟨hpm,by rw [HXE.out]; exact hle⟩
   have hle':decide (k (x:Int)<=k (j:Int))=true:=decide_eq_true hle
   go_quiet (fail)
   go_wp2_with fail
   go_meet
   exact ⟨congrArg Value.bool HR.out.symm,(OD.out _).1,(OD.out _).2⟩
  have HR:Hid (decide (p<m/\k (us.getD p 0)<=k (j:Int))=false):=decide_eq_false fun h=>hle (by rw [<- HXE.out]; exact h.2)
  have hle':decide (k (x:Int)<=k (j:Int))=false:=decide_eq_false hle
  go_quiet (fail)
  go_wp2_with fail
  go_meet
  exact ⟨congrArg Value.bool HR.out.symm,(OD.out _).1,(OD.out _).2⟩
 clear HO BB X cj c01
 obtain ⟨rfl,HO,BB⟩:=hcut
 by_cases hc:p<m/\k (us.getD p 0)<=k (j:Int)
 ·have hcd:decide (p<m/\k (us.getD p 0)<=k (j:Int))=true:=decide_eq_true hc
  have HL':Hid (∀t,t<p+1->k (us.getD t 0)<=k (j:Int)):=fun t ht=>by
   by_cases e:t=p
   ·rw [e]; exact hc.2
   exact HL.out t (by omega)
  rw [hcd]
  clear hcd
  go_wp2_with fail
  go_roundw
  case rel=>exact ⟨p+1,by omega,by go_num,HL',HO,BB⟩
  simp [intOf]; omega
 have hcd:decide (p<m/\k (us.getD p 0)<=k (j:Int))=false:=decide_eq_false hc
 have HG:Hid (us.take p++(j:Int)::us.drop p=Pl.grd k 0 (j+1)):=Pl.grd_step HU.out (by rw [Hm.out]; exact hp) HL.out (fun h=>by
  rw [Hm.out] at h
  by_cases e:k (us.getD p 0)<=k (j:Int)
  ·exact absurd ⟨h,e⟩ hc
  omega)
 rw [hcd]
 clear hcd hc
 obtain ⟨hcap1,hcap2⟩:m<=cp/\cp<=9223372036854775807:=by
  rcases HO.out.2 with ⟨e,_⟩ | ⟨g',cp',cur,e,_,_,q1,q2,_⟩
  ·injection e with e1 _ _; cases e1
  injection e with _ _ e3
  subst e3
  unfold maxLen at q2
  exact ⟨q1,by omega⟩
 have RD:Hid (Rd wc.heap.size wc (.slice (some ⟨g,0,none⟩) m cp) us):=by
  have h1:wc.ownsRow wb.heap.size 3 1 (.slice (some ⟨g,0,none⟩) us.length cp) us.length (us.map (Value.int .i64)):=by rw [Hm.out]; exact HO.out
  have:=(own_of_any h1).rd
  rw [Hm.out] at this
  exact this
 have KC:=hideP (l2Copy_at (.slice (some ⟨g,0,none⟩) p cp) (us.take p) wc (by rw [List.length_take,Hm.out]; omega) (rd_pre RD.out p hp cp))
 have hlp:(us.take p).length=p:=by rw [List.length_take,Hm.out]; omega
 rw [hlp] at KC
 obtain ⟨P,hP⟩:∃P,us.take p=P:=⟨_,rfl⟩
 obtain ⟨Q,hQ⟩:∃Q,us.drop p=Q:=⟨_,rfl⟩
 have hld:(us.drop p).length=m-p:=by rw [List.length_drop,Hm.out]
 have RPQ:Hid (∀w5,Below wc.heap.size wc w5->Rd w5.heap.size w5 (.slice (some ⟨g,p,none⟩) (m-p) (cp-p)) Q):=fun w5 hb=>by
  have:=rd_post ((RD.out.keep hb).up hb.size) p hp (cp-p)
  rw [Nat.zero_add,hQ] at this
  exact this
 rw [hP,hQ] at HG
 rw [hP] at KC hlp
 rw [hQ] at hld
 have HLP:=hideP hlp
 have HLQ:=hideP hld
 clear hP hQ hlp hld RD
 go_wp2_with fail
 refine KC.out.mono ?_
 rintro e w3 ⟨g3,cp3,rfl,q0,q1,ho3,hb3⟩
 have B3:=hideP (BB.out.trans (hb3.mono BB.out.size))
 have AL:Hid (Below w3.heap.size w3 (w3.alloc (.cells #[.int .i64 (j:Int)] 3))):=(Below.refl _ _).alloc (Nat.le_refl _) _
 have B4:=hideP (B3.out.trans (AL.out.mono B3.out.size))
 have O4:Hid ((w3.alloc (.cells #[.int .i64 (j:Int)] 3)).ownsRow wc.heap.size 3 1 (.slice (some ⟨g3,0,none⟩) p cp3) p (P.map (Value.int .i64))):=owns_keep ho3 AL.out
 have R4:Hid (Rd (w3.heap.size+1) (w3.alloc (.cells #[.int .i64 (j:Int)] 3)) (.slice (some ⟨w3.heap.size,0,none⟩) 1 1) [(j:Int)]):=by
  have:=(own_lit w3 _ (j:Int) (Below.refl _ _)).rd
  show Rd _ _ _ _
  simpa using this
 have hs3:=hb3.size
 have BC:Hid (Below wc.heap.size wc (w3.alloc (.cells #[.int .i64 (j:Int)] 3))):=hb3.trans (AL.out.mono hb3.size)
 clear ho3 hb3 KC AL
 go_wp2_with (at_builtin; refine wpList_append_rd_at (base:=wc.heap.size) _ rfl (.tmp 40) (.tmp 42) rfl (.slice (some ⟨g3,0,none⟩) p cp3) (.slice (some ⟨w3.heap.size,0,none⟩) 1 1) rfl rfl p P [(j:Int)] O4.out R4.out (by simp; omega) (by simp; omega) ?_)
 intro v5 w5 ho5 hg5 _
 have BG:Hid (Below wc.heap.size wc w5):=BC.out.grown hg5 (by simp; omega) (fun k hk=>(O4.out.lt k hk).1)
 have B5:=hideP (BB.out.trans (BG.out.mono BB.out.size))
 have O5:Hid (w5.ownsRow wc.heap.size 3 1 v5 (p+1) ((P++[(j:Int)]).map (Value.int .i64))):=by
  show World.ownsRow _ _ _ _ _ _ _
  simpa using ho5
 have R5:=hideP (RPQ.out _ BG.out)
 have hs5:=BG.out.size
 obtain ⟨x5,y5,e5⟩:=owns_form ho5
 subst e5
 clear ho5 hg5 O4 R4 BC B3 B4
 have HLEN:Hid ((P++[(j:Int)]++Q).length=j+1):=by
  show _=_
  rw [List.append_assoc,List.singleton_append,HG.out,Pl.len_grd]
 have FIN:Hid (∀v6 w6,w6.ownsRow wc.heap.size 3 1 v6 (p+1+Q.length) ((P++[(j:Int)]++Q).map (Value.int .i64))->w5.grownBy w6 (Value.slice x5 (p+1) y5).ownBlock->∃(j':Nat) (us':List Int) (g' cp':Nat),j'<=n/\Value.int .i64 ((j:Int)+1)=.int .i64 (j':Int)/\v6=.slice (some ⟨g',0,none⟩) us'.length cp'/\Hid (us'=Pl.grd k 0 j')/\Hid (w6.ownsRow wb.heap.size 3 1 (.slice (some ⟨g',0,none⟩) us'.length cp') us'.length (us'.map (Value.int .i64)))/\Hid (Below wb.heap.size wb w6)):=fun v6 w6 ho6 hg6=>by
  have hb6:Below wb.heap.size wb w6:=B5.out.grown hg6 B5.out.size (fun k hk=>by have:=(O5.out.lt k hk).1; have:=BB.out.size; omega)
  have hl6:p+1+Q.length=(P++[(j:Int)]++Q).length:=by
   rw [List.length_append,List.length_append,HLP.out]
   rfl
  rw [hl6] at ho6
  obtain ⟨g',cp',e6⟩:∃g' cp',v6=.slice (some ⟨g',0,none⟩) (P++[(j:Int)]++Q).length cp':=by
   rcases ho6.2 with ⟨_,e⟩ | ⟨g',cp',cur,e,_⟩
   ·rw [HLEN.out] at e; omega
   exact ⟨g',cp',e⟩
  subst e6
  refine ⟨j+1,_,g',cp',by omega,by go_num,rfl,?_,owns_base ho6 BB.out.size,hb6⟩
  show _=_
  rw [List.append_assoc,List.singleton_append]
  exact HG.out
 have hpc:p<=cp:=by omega
 by_cases hce:p=cp
 ·have RZ:Hid (∀a,Rd w5.heap.size w5 (.slice a 0 0) Q):=fun a=>rd_zero _ _ _ _ _ (by rw [HLQ.out]; omega)
  obtain rfl:p=m:=by omega
  subst hce
  clear R5 RPQ
  go_wp2_with (at_builtin; refine wpList_append_rd_at (base:=wc.heap.size) _ rfl (.tmp 44) (.tmp 47) rfl (.slice x5 (p+1) y5) _ rfl rfl (p+1) (P++[(j:Int)]) Q O5.out (RZ.out _) (by rw [HLQ.out]; omega) hs5 ?_)
  intro v6 w6 ho6 hg6 _
  have F6:=hideP (FIN.out v6 w6 (by simpa using ho6) hg6)
  clear ho6 hg6
  go_wp2_with fail
  go_roundw
  case rel=>exact F6.out
  simp [intOf]; omega
 have hmp:(m:Int)-(p:Int)=((m-p:Nat):Int):=by omega
 go_wp2_with (at_builtin; refine wpList_append_rd_at (base:=wc.heap.size) _ rfl (.tmp 44) (.tmp 47) rfl (.slice x5 (p+1) y5) (.slice (some ⟨g,p,none⟩) (m-p) (cp-p)) rfl rfl (p+1) (P++[(j:Int)]) Q O5.out R5.out (by rw [HLQ.out]; omega) hs5 ?_)
 intro v6 w6 ho6 hg6 _
 have F6:=hideP (FIN.out v6 w6 (by simpa using ho6) hg6)
 clear ho6 hg6
 go_wp2_with fail
 go_roundw
 case rel=>exact F6.out
 simp [intOf]; omega
theorem Pl.base_drop {sh:List Int} (h:Pl.baseB sh=true) (k:Nat):Pl.baseB (sh.drop k)=true:=by
 simp only [Pl.baseB,Bool.and_eq_true,decide_eq_true_eq,List.all_eq_true] at h ⊢
 exact ⟨by rw [List.length_drop]; omega,fun x hx=>h.2 x (List.mem_of_mem_drop hx)⟩
def stJ (sh:List Int) (n j:Nat):Nat->Int:=fun t=>if n-j<=t then Pl.prodP (sh.drop (n-t)) else 0
theorem stJ_step {sh:List Int} {n j:Nat} (h:j<n):upd (stJ sh n j) (n-1-j) (Pl.prodP (sh.drop (j+1)))=fun t=>if t<n then stJ sh n (j+1) t else stJ sh n j t:=by
 funext t
 unfold upd stJ
 by_cases h1:t=n-1-j
 ·subst h1
  rw [if_pos rfl,if_pos (by omega),if_pos (by omega),show n-(n-1-j)=j+1 by omega]
 rw [if_neg h1]
 by_cases h2:t<n
 ·rw [if_pos h2]
  by_cases h3:n-j<=t
  ·rw [if_pos h3,if_pos (by omega)]
  rw [if_neg h3,if_neg (by omega)]
 rw [if_neg h2]
theorem strides_any (b off cap:Nat) (sh:List Int) (w:World) (h0:0<sh.length) (h3:sh.length<=3) (hbs:Pl.baseB sh=true) (hcap:sh.length<=cap) (hm:cap<=9223372036854775807) (h:Rd w.heap.size w (.slice (some ⟨b,off,none⟩) sh.length cap) sh) :
  Calls Tryz.prog 137 #[.slice (some ⟨b,off,none⟩) sh.length cap] w fun e w'=>e=.returned (.slice (some ⟨w.heap.size,0,none⟩) sh.length sh.length)/\Rw w.heap.size 0 sh.length (fun t=>Pl.prodP (sh.drop (sh.length-t))) w'/\Below w.heap.size w w':=by
 have KC:Hid (∀(j:Nat) W,j<sh.length->Below w.heap.size w W->∀o,(o=off+(j+1)\/sh.length=j+1)->Calls Tryz.prog 81 #[.slice (some ⟨b,o,none⟩) (sh.length-(j+1)) (cap-(j+1))] W fun e w'=>e=.returned (.int .i64 (Pl.prodP (sh.drop (j+1))))/\w'=W):=fun j W hj hb o ho=>by
  refine cellCount_any W.heap.size _ (sh.drop (j+1)) W (Pl.base_drop hbs _) ?_
  rcases ho with rfl | ho
  ·exact rd_post ((h.keep hb).up hb.size) (j+1) (by omega) (cap-(j+1))
  rw [ho,Nat.sub_self]
  exact rd_zero _ _ _ _ _ (by rw [List.length_drop]; omega)
 obtain ⟨i0,hi,hz0,hz1,hz2⟩:=info_parts Tryz.info3
 have HI:=hideP (And.intro hi (And.intro hz0 (And.intro hz1 hz2)))
 clear hi hz0 hz1 hz2 h
 obtain ⟨n,hn⟩:∃n,sh.length=n:=⟨_,rfl⟩
 rw [hn] at h0 h3 hcap KC ⊢
 clear hn
 go_enter Tryz.func137,Tryz.ntmps137
 go_wp2_with (at_make; refine wpList_make_full _ rfl _ _ 23 rfl w.heap.size 3 i0 (.int .i64 0) 1 Tryz.underlying23 HI.out.1 HI.out.2.1 HI.out.2.2.1 _ _ _ _ n rfl rfl rfl rfl ?b2 ?b3 ?b4 ?_)
 case b2=>rw [HI.out.2.2.2]; omega
 case b3=>unfold maxLen; omega
 case b4=>exact Nat.le_refl _
 intro w1 hown hgrow
 rw [made_zeros] at hown
 have B1:Hid (Below w.heap.size w w1):=(Below.refl _ _).grown hgrow (Nat.le_refl _) (by intro k h; cases h)
 have R1:Hid (Rw w.heap.size 0 n (stJ sh n 0) w1):=by
  have h1:w1.ownsRow w.heap.size 3 1 (.slice (some ⟨w.heap.size,0,none⟩) n n) n ((List.replicate n (0:Int)).map (Value.int .i64)):=by simpa using hown
  refine (rw_of_own h1 (by simp)).congr fun t ht=>?_
  unfold stJ
  rw [if_neg (by omega)]
  simp [List.getD,ht]
 clear hown hgrow
 go_wp2_with fail
 go_loopw [4,10] (fun _ i wr=>∃j:Nat,j<=n/\i=.int .i64 (j:Int)/\Hid (Rw w.heap.size 0 n (stJ sh n j) wr)/\Hid (Below w.heap.size w wr)) (fun _ i _=>n-(intOf i).toNat)
 case atStart=>exact ⟨0,Nat.zero_le _,rfl,R1,B1⟩
 clear R1 B1
 obtain ⟨j,hj,rfl,RR,BB⟩:=hrel
 by_cases hlt:j<n
 rotate_left 1
 ·have hlt':¬(j:Int)<(n:Int):=by omega
  have RE:Hid (Rw w.heap.size 0 n (fun t=>Pl.prodP (sh.drop (n-t))) wr):=RR.out.congr fun t ht=>by
   unfold stJ
   rw [if_pos (by omega)]
  go_wp2_with fail
  go_ret
  exact ⟨rfl,RE.out,BB.out⟩
 have hlt':(j:Int)<(n:Int):=by omega
 have hfw:wr.frozen? ⟨w.heap.size,n-1-j,none⟩=false:=by have:=(RR.out.2 (n-1-j) (by omega)).2; rw [Nat.zero_add] at this; exact this
 have hcw:wr.cell? ⟨w.heap.size,n-1-j,none⟩=some (.int .i64 (stJ sh n j (n-1-j))):=by have:=(RR.out.2 (n-1-j) (by omega)).1; rw [Nat.zero_add] at this; exact this
 generalize stJ sh n j (n-1-j)=x0 at hcw
 have NW:Hid (Rw w.heap.size 0 n (stJ sh n (j+1)) (wr.setCell ⟨w.heap.size,n-1-j,none⟩ (.int .i64 (Pl.prodP (sh.drop (j+1)))))/\Below w.heap.size w (wr.setCell ⟨w.heap.size,n-1-j,none⟩ (.int .i64 (Pl.prodP (sh.drop (j+1)))))):=by
  refine ⟨?_,BB.out.setCell (by simp) _⟩
  have:=RR.out.set (k:=n-1-j) (Pl.prodP (sh.drop (j+1))) (by omega)
  rw [stJ_step hlt,Nat.zero_add] at this
  exact this.congr fun t ht=>by rw [if_pos ht]
 have hidx:(n:Int)-1-(j:Int)=((n-1-j:Nat):Int):=by omega
 have hidn:n-1-j<n:=by omega
 have K1:=hideP (KC.out j wr hlt BB.out)
 clear RR
 by_cases hce:cap=j+1
 ·have hnj:n=j+1:=by omega
  have K2:=hideP (fun o=>K1.out o (.inr hnj))
  subst hce
  have e0:n-(j+1)=0:=by omega
  have e1:j+1-(j+1)=0:=by omega
  rw [e0,e1] at K2
  have e2:n-1-j=0:=by omega
  rw [e2] at NW hfw hcw hidx
  have hidx0:(n:Int)-1-(j:Int)=0:=by omega
  have HNJ:=hideP hnj
  clear hidn e0 e1 e2 K1 hidx hnj
  generalize Pl.prodP (sh.drop (j+1))=px at *
  go_wp2_with (go_at_call 81; refine (K2.out _).mono ?_; rintro e wr ⟨rfl,rfl⟩)
  go_roundw
  case rel=>exact ⟨j+1,by omega,by go_num,NW.out.1,NW.out.2⟩
  simp [intOf]; omega
 have K2:=hideP (K1.out (off+(j+1)) (.inl rfl))
 clear K1
 generalize Pl.prodP (sh.drop (j+1))=px at *
 generalize hnj:n-1-j=q at *
 have HQ:=hideP hnj
 clear hnj
 go_wp2_with (go_at_call 81; refine K2.out.mono ?_; rintro e wr ⟨rfl,rfl⟩)
 go_roundw
 case rel=>exact ⟨j+1,by omega,by go_num,NW.out.1,NW.out.2⟩
 simp [intOf]; omega
namespace Pl
def shN (sh:List Int):List Nat:=sh.map Int.toNat
def flipM (sh da:List Int):Int × List Int × List Int:=(0,sh.reverse,(List.range da.length).map fun i=>da.getD (ev (shN sh) (plR (shN sh) i)) 0)
theorem prdN_eq (sh:List Int) (h:∀x∈sh,0<=x):(prdN (shN sh):Int)=prodP sh:=by
 induction sh with
 |nil=>rfl
 |cons x sh ih =>
  rw [prodP_cons,<- ih (fun y hy=>h y (List.mem_cons_of_mem _ hy))]
  have:=h x (by simp)
  show ((x.toNat * prdN (shN sh):Nat):Int)=_
  rw [Int.natCast_mul,Int.toNat_of_nonneg this]
theorem base_nonneg {sh:List Int} (h:baseB sh=true):∀x∈sh,0<=x/\x<=1000:=by
 simp only [baseB,Bool.and_eq_true,List.all_eq_true] at h
 exact fun x hx=>inR_bd (h.2 x hx)
theorem shN_getD (sh:List Int) (h:∀x∈sh,0<=x) (t:Nat):((shN sh).getD t 0:Int)=sh.getD t 0:=by
 unfold shN
 rw [List.getD,List.getD,List.getElem?_map]
 cases e:sh[t]? with
 |none=>rfl
 |some x =>
  show ((x.toNat:Nat):Int)=x
  exact Int.toNat_of_nonneg (h x (List.mem_of_getElem? e))
theorem shN_drop (sh:List Int) (j:Nat):(shN sh).drop j=shN (sh.drop j):=by unfold shN; rw [List.map_drop]
theorem ev_at {ds qs:List Nat} {j:Nat} (hj:j<ds.length) (hl:qs.length=ds.length):ev (ds.drop j) (qs.drop j)=qs.getD j 0 * prdN (ds.drop (j+1))+ev (ds.drop (j+1)) (qs.drop (j+1)):=by
 rw [List.drop_eq_getElem_cons hj,List.drop_eq_getElem_cons (show j<qs.length by omega),ev,List.getD,List.getElem?_eq_getElem (show j<qs.length by omega)]
 rfl
theorem ev_inc_at (ds:List Nat):∀(j:Nat) (qs:List Nat),qs.length=ds.length->j<ds.length->(∀t,t<j->¬qs.getD t 0+1<ds.getD t 0)->qs.getD j 0+1<ds.getD j 0->ev ds (incR ds qs)=(qs.getD j 0+1) * prdN (ds.drop (j+1))+ev (ds.drop (j+1)) (qs.drop (j+1)):=by
 induction ds with
 |nil=>intro j qs _ hj; simp at hj
 |cons d ds ih =>
  intro j qs hl hj hw hn
  cases qs with
  |nil=>simp at hl
  |cons q qs =>
   cases j with
   |zero =>
    have hn':q+1<d:=hn
    rw [incR,if_pos hn',ev]
    rfl
   |succ j =>
    have h0:¬q+1<d:=hw 0 (by omega)
    rw [incR,if_neg h0,ev,Nat.zero_mul,Nat.zero_add]
    exact ih j qs (by simpa using hl) (by simpa using hj) (fun t ht=>hw (t+1) (by omega)) hn
theorem ev_inc_all (ds:List Nat):∀(qs:List Nat),qs.length=ds.length->(∀t,t<ds.length->¬qs.getD t 0+1<ds.getD t 0)->ev ds (incR ds qs)=0:=by
 induction ds with
 |nil=>intro qs hl _; cases qs <;> rfl
 |cons d ds ih =>
  intro qs hl hw
  cases qs with
  |nil=>simp at hl
  |cons q qs =>
   have h0:¬q+1<d:=hw 0 (by simp)
   rw [incR,if_neg h0,ev,Nat.zero_mul,Nat.zero_add]
   exact ih qs (by simpa using hl) (fun t ht=>hw (t+1) (by simpa using ht))
theorem prdN_le {ds:List Nat} (h:∀d∈ds,0<d) (j:Nat):prdN (ds.drop j)<=prdN ds:=by
 induction ds generalizing j with
 |nil=>simp
 |cons d ds ih =>
  cases j with
  |zero=>exact Nat.le_refl _
  |succ j =>
   have h1:=ih (fun x hx=>h x (List.mem_cons_of_mem _ hx)) j
   have h2:=Nat.mul_le_mul_right (prdN ds) (show 1<=d from h d (by simp))
   show prdN (ds.drop j)<=d * prdN ds
   omega
theorem prd_zero {ds:List Nat} (h:0<prdN ds):∀d∈ds,0<d:=by
 induction ds with
 |nil=>intro d hd; cases hd
 |cons x ds ih =>
  have h1:0<x * prdN ds:=h
  intro d hd
  rcases List.mem_cons.1 hd with rfl | hd
  ·exact Nat.pos_of_mul_pos_right h1
  exact ih (Nat.pos_of_mul_pos_left h1) d hd
def Pz (q:List Nat) (n j:Nat):Nat->Int:=fun t=>if n-j<=t then 0 else (q.getD (n-1-t) 0:Int)
def dt (da:List Int) (F:Nat->Nat) (i:Nat):Nat->Int:=fun t=>if t<i then da.getD (F t) 0 else 0
theorem dt_step (da:List Int) (F:Nat->Nat) (i:Nat):upd (dt da F i) i (da.getD (F i) 0)=dt da F (i+1):=by
 funext t
 unfold upd dt
 by_cases h:t=i
 ·rw [if_pos h,if_pos (by omega),h]
 rw [if_neg h]
 by_cases h2:t<i
 ·rw [if_pos h2,if_pos (by omega)]
 rw [if_neg h2,if_neg (by omega)]
theorem Pz_zero (q:List Nat) (n j:Nat) (h:j<n):upd (Pz q n j) (n-1-j) 0=Pz q n (j+1):=by
 funext t
 unfold upd Pz
 by_cases h1:t=n-1-j
 ·rw [if_pos h1,if_pos (by omega)]
 rw [if_neg h1]
 by_cases h2:n-j<=t
 ·rw [if_pos h2,if_pos (by omega)]
 rw [if_neg h2,if_neg (by omega)]
theorem upd_upd (f:Nat->Int) (k:Nat) (x y:Int):upd (upd f k x) k y=upd f k y:=by
 funext t
 unfold upd
 by_cases h:t=k
 ·rw [if_pos h,if_pos h]
 rw [if_neg h,if_neg h,if_neg h]
end Pl
end Go.Proofs.YtacapaiadggemaaGreat
