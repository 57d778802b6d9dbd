import Derived.Test.YtacapaiadggemaaGreatRows
import Derived.WalkKit
import Derived.WalkSpells
import Derived.WalkLawsBesides
import Derived.Deep.QuietTactic
import Derived.BigQuiet
import Derived.WalkSmall
namespace Go.Proofs.YtacapaiadggemaaGreat.Pl
def inR (x:Int):Bool:=decide (0<=x/\x<=1000)
def stepC (p x:Int):Int:=if 1000<p * x then 1001 else p * x
def prodC (zs:List Int):Int:=zs.foldl stepC 1
def prodP (zs:List Int):Int:=zs.foldl (fun p x=>p * x) 1
def baseB (zs:List Int):Bool:=decide (zs.length<=3) && zs.all inR
def fitsB (zs:List Int):Bool:=baseB zs && decide (prodC zs<=1000)
def valB (x:Int):Bool:=decide (-3000000000<=x/\x<=3000000000)
def okB (sh da:List Int):Bool:=fitsB sh && decide ((da.length:Int)=prodC sh) && da.all valB
theorem take_snoc (l:List Int) (k:Nat) (h:k<l.length):l.take (k+1)=l.take k++[l.getD k 0]:=by
 rw [List.take_succ_eq_append_getElem h]; simp [List.getD,h]
theorem prodC_snoc (l:List Int) (x:Int):prodC (l++[x])=stepC (prodC l) x:=by simp [prodC]
theorem prodP_snoc (l:List Int) (x:Int):prodP (l++[x])=prodP l * x:=by simp [prodP]
theorem mul_bd {a b A B:Int} (ha:0<=a) (ha':a<=A) (hb:0<=b) (hb':b<=B):0<=a * b/\a * b<=A * B :=
 ⟨Int.mul_nonneg ha hb,Int.mul_le_mul ha' hb' hb (Int.le_trans ha ha')⟩
theorem stepC_bd {p x:Int} (hp:0<=p) (hp':p<=1001) (hx:0<=x) (hx':x<=1000):0<=stepC p x/\stepC p x<=1001:=by
 have:=mul_bd hp hp' hx hx'
 unfold stepC; split <;> omega
theorem foldl_bd (l:List Int) (h:l.all inR=true) (p:Int) (hp:0<=p) (hp':p<=1001):0<=l.foldl stepC p/\l.foldl stepC p<=1001:=by
 induction l generalizing p with
 |nil=>exact ⟨hp,hp'⟩
 |cons x xs ih =>
  simp [inR] at h
  have hb:=stepC_bd hp hp' h.1.1 h.1.2
  simp only [List.foldl_cons]
  refine ih ?_ _ hb.1 hb.2
  simp [inR]; exact h.2
theorem prodC_bd (l:List Int) (h:l.all inR=true):0<=prodC l/\prodC l<=1001:=foldl_bd l h 1 (by omega) (by omega)
theorem all_take {l:List Int} {p:Int->Bool} (h:l.all p=true) (k:Nat):(l.take k).all p=true:=by
 simp only [List.all_eq_true] at *
 intro x hx; exact h x (List.mem_of_mem_take hx)
theorem all_getD {l:List Int} {p:Int->Bool} (h:l.all p=true) {k:Nat} (hk:k<l.length):p (l.getD k 0)=true:=by
 simp only [List.all_eq_true] at h
 have:l.getD k 0=l[k]:=by simp [List.getD,hk]
 rw [this]; exact h _ (List.getElem_mem hk)
theorem all_snoc (l:List Int) (p:Int->Bool) (k:Nat) (hk:k<l.length):(l.take (k+1)).all p=((l.take k).all p && p (l.getD k 0)):=by
 rw [take_snoc l k hk]; simp
theorem all_false {l:List Int} {p:Int->Bool} {k:Nat} (hk:k<l.length) (h:p (l.getD k 0)=false):l.all p=false:=by
 cases e:l.all p
 ·rfl
 rw [all_getD e hk] at h; cases h
theorem inR_bd {x:Int} (h:inR x=true):0<=x/\x<=1000:=by simpa [inR] using h
theorem prod_two (zs:List Int) (h:baseB zs=true):(0<=prodP zs/\prodP zs<=1000000000)/\((prodC zs<=1000 ↔ prodP zs<=1000)/\(prodC zs<=1000->prodC zs=prodP zs)):=by
 simp only [baseB,Bool.and_eq_true,decide_eq_true_eq] at h
 obtain ⟨hl,hr⟩:=h
 match zs,hl,hr with
 |[],_,_=>simp [prodC,prodP]
 |[a],_,hr =>
  simp [inR] at hr
  simp [prodC,prodP,stepC]
  split <;> omega
 |[a,b],_,hr =>
  simp [inR] at hr
  obtain ⟨⟨a0,a1⟩,b0,b1⟩:=hr
  have hab:=mul_bd a0 a1 b0 b1
  have e:stepC 1 a=a:=by unfold stepC; split <;> omega
  simp [prodC,prodP,e]
  unfold stepC; split <;> omega
 |[a,b,c],_,hr =>
  simp [inR] at hr
  obtain ⟨⟨a0,a1⟩,⟨b0,b1⟩,c0,c1⟩:=hr
  have hab:=mul_bd a0 a1 b0 b1
  have habc:=mul_bd hab.1 hab.2 c0 c1
  have e:stepC 1 a=a:=by unfold stepC; split <;> omega
  simp only [prodC,prodP,List.foldl_cons,List.foldl_nil,e,Int.one_mul]
  by_cases h1:1000<a * b
  ·have e1:stepC a b=1001:=by unfold stepC; rw [if_pos h1]
   rw [e1]
   by_cases hc:c=0
   ·subst hc; simp [stepC]
   have hc':1<=c:=by omega
   have h2:a * b * 1<=a * b * c:=Int.mul_le_mul_of_nonneg_left hc' hab.1
   have h3:stepC 1001 c=1001:=by unfold stepC; rw [if_pos (by omega)]
   rw [h3]; omega
  have e1:stepC a b=a * b:=by unfold stepC; rw [if_neg h1]
  rw [e1]
  unfold stepC; split <;> omega
theorem prodP_take_bd (zs:List Int) (h:baseB zs=true) (k:Nat):0<=prodP (zs.take k)/\prodP (zs.take k)<=1000000000:=by
 refine (prod_two (zs.take k) ?_).1
 simp only [baseB,Bool.and_eq_true,decide_eq_true_eq] at h ⊢
 exact ⟨by have:=List.length_take_le k zs; have:=List.length_take_le' k zs; omega,all_take h.2 k⟩
theorem fits_eq (zs:List Int):fitsB zs=(baseB zs && decide (prodP zs<=1000)):=by
 unfold fitsB
 cases h:baseB zs
 ·rfl
 have:=(prod_two zs h).2.1
 simp [this]
theorem prod_eq {zs:List Int} (h:fitsB zs=true):prodC zs=prodP zs:=by
 simp only [fitsB,Bool.and_eq_true,decide_eq_true_eq] at h
 exact (prod_two zs h.1).2.2 h.2
end Go.Proofs.YtacapaiadggemaaGreat.Pl
namespace Go.Proofs.YtacapaiadggemaaGreat
open Go.RowKit
set_option linter.unusedVariables false
def Rd (B:Nat) (w:World) (v:Value) (zs:List Int):Prop :=
 ∃ao cap,v=.slice ao zs.length cap/\(zs.length=0\/∃b off,b<B/\ao=some ⟨b,off,none⟩/\∀i,i<zs.length->w.cell? ⟨b,off+i,none⟩=some (.int .i64 (zs.getD i 0)))
theorem Rd.keep {B:Nat} {w w':World} {v:Value} {zs:List Int} (h:Rd B w v zs) (hb:Below B w w'):Rd B w' v zs:=by
 obtain ⟨ao,cap,rfl,h⟩:=h
 refine ⟨ao,cap,rfl,?_⟩
 rcases h with h | ⟨b,off,hB,rfl,hc⟩
 ·exact .inl h
 exact .inr ⟨b,off,hB,rfl,fun i hi=>(hb.cell (p:=⟨b,off+i,none⟩) hB).trans (hc i hi)⟩
theorem Rd.up {B B':Nat} {w:World} {v:Value} {zs:List Int} (h:Rd B w v zs) (hb:B<=B'):Rd B' w v zs:=by
 obtain ⟨ao,cap,rfl,h⟩:=h
 refine ⟨ao,cap,rfl,?_⟩
 rcases h with h | ⟨b,off,hB,rfl,hc⟩
 ·exact .inl h
 exact .inr ⟨b,off,by omega,rfl,hc⟩
theorem ret_int {k:IntKind} {a b:Int} (h:a=b):Ending.returned (.int k a)=.returned (.int k b):=by rw [h]
theorem ret_bool {a b:Bool} (h:a=b):Ending.returned (.bool a)=.returned (.bool b):=by rw [h]
theorem l1Product_core (b off cap:Nat) (zs:List Int) (w:World) (hl:zs.length<=1048576) (hr:zs.all Pl.inR=true)
  (hc:∀i,i<zs.length->w.cell? ⟨b,off+i,none⟩=some (.int .i64 (zs.getD i 0))) :
  Calls Tryz.prog 66 #[.slice (some ⟨b,off,none⟩) zs.length cap] w fun e w'=>e=.returned (.int .i64 (Pl.prodC zs))/\w'=w:=by
 generalize hn:zs.length=n at *
 have Hn:Hid (zs.length=n):=hn
 clear hn
 go_enter Tryz.func66,Tryz.ntmps66
 go_wp2
 go_loop [3,4] (fun p i=>∃k:Nat,k<=n/\i=.int .i64 k/\p=.int .i64 (Pl.prodC (zs.take k))) (fun _ i=>n-(intOf i).toNat)
 case atStart=>exact ⟨0,Nat.zero_le _,rfl,rfl⟩
 obtain ⟨k,hk,rfl,rfl⟩:=hrel
 by_cases hlt:k<n
 rotate_left 1
 ·go_wp2
  go_ret
  exact ⟨ret_int (by rw [List.take_of_length_le (by rw [Hn.out]; omega)]),rfl⟩
 have hck:=hc k hlt
 have hx:=Pl.inR_bd (Pl.all_getD hr (k:=k) (by rw [Hn.out]; exact hlt))
 have hp:=Pl.prodC_bd _ (Pl.all_take hr k)
 have hm:=Pl.mul_bd hp.1 hp.2 hx.1 hx.2
 have HS:Hid (Pl.prodC (zs.take (k+1))=Pl.stepC (Pl.prodC (zs.take k)) (zs.getD k 0)):=by
  show _=_
  rw [Pl.take_snoc zs k (by rw [Hn.out]; exact hlt),Pl.prodC_snoc]
 generalize zs.getD k 0=x at *
 generalize Pl.prodC (zs.take k)=p at *
 clear hc hr
 obtain ⟨hx0,hx1⟩:=hx
 obtain ⟨hp0,hp1⟩:=hp
 obtain ⟨hm0,hm1⟩:=hm
 by_cases hg:1000<p * x
 ·go_wp2
  go_round
  case rel=>exact ⟨k+1,by omega,by go_num,by rw [HS.out]; unfold Pl.stepC; rw [if_pos hg]⟩
  simp [intOf]; omega
 go_wp2
 go_round
 case rel=>exact ⟨k+1,by omega,by go_num,by rw [HS.out]; unfold Pl.stepC; rw [if_neg hg]⟩
 simp [intOf]; omega
theorem l1Fits_core (b off cap:Nat) (zs:List Int) (w:World) (hl:zs.length<=1048576)
  (hc:∀i,i<zs.length->w.cell? ⟨b,off+i,none⟩=some (.int .i64 (zs.getD i 0))) :
  Calls Tryz.prog 52 #[.slice (some ⟨b,off,none⟩) zs.length cap] w fun e w'=>e=.returned (.bool (Pl.fitsB zs))/\w'=w:=by
 have hpr:=l1Product_core b off cap zs w hl
 have HC:=hc
 generalize hn:zs.length=n at *
 have Hn:Hid (zs.length=n):=hn
 have Hp:Hid _:=hpr
 have HC':Hid _:=HC
 clear hn hpr HC
 by_cases h3:n<=3
 rotate_left 1
 ·have h3':3<n:=by omega
  go_enter Tryz.func52,Tryz.ntmps52
  go_wp2
  go_ret
  exact ⟨ret_bool (by simp [Pl.fitsB,Pl.baseB,Hn.out]; omega),rfl⟩
 go_enter Tryz.func52,Tryz.ntmps52
 go_wp2
 go_loop [3] (fun i=>∃k:Nat,k<=n/\i=.int .i64 k/\(zs.take k).all Pl.inR=true) (fun i=>n-(intOf i).toNat)
 case atStart=>exact ⟨0,Nat.zero_le _,rfl,rfl⟩
 obtain ⟨k,hk,rfl,hall⟩:=hrel
 by_cases hlt:k<n
 ·have hck:=hc k hlt
  have HS:Hid ((zs.take (k+1)).all Pl.inR=((zs.take k).all Pl.inR && Pl.inR (zs.getD k 0))):=Pl.all_snoc zs Pl.inR k (by rw [Hn.out]; exact hlt)
  have HF:Hid (Pl.inR (zs.getD k 0)=false->zs.all Pl.inR=false):=Pl.all_false (by rw [Hn.out]; exact hlt)
  have HA:Hid ((zs.take k).all Pl.inR=true):=hall
  generalize zs.getD k 0=x at *
  clear hc hall
  by_cases hx0:x<0
  ·go_wp2
   go_ret
   exact ⟨ret_bool (by have:=HF.out (by simp [Pl.inR]; omega); simp [Pl.fitsB,Pl.baseB,this]),rfl⟩
  by_cases hx1:1000<x
  ·go_wp2
   go_ret
   exact ⟨ret_bool (by have:=HF.out (by simp [Pl.inR]; omega); simp [Pl.fitsB,Pl.baseB,this]),rfl⟩
  go_wp2
  go_round
  case rel=>exact ⟨k+1,by omega,by go_num,by rw [HS.out,HA.out]; simp [Pl.inR]; omega⟩
  simp [intOf]; omega
 have HA:Hid ((zs.take k).all Pl.inR=true):=hall
 clear hall
 have HA':Hid (zs.all Pl.inR=true):=by
  have:=HA.out
  rw [List.take_of_length_le (by rw [Hn.out]; omega)] at this
  exact this
 clear HA
 go_wp2_with (go_at_call 66; refine (Hp.out HA'.out HC'.out).mono ?_; rintro e w' ⟨rfl,rfl⟩)
 go_ret
 exact ⟨ret_bool (by simp [Pl.fitsB,Pl.baseB,HA'.out,Hn.out,h3]),rfl⟩
theorem l1Product_nil (ao:Option Addr) (cap:Nat) (w:World) :
  Calls Tryz.prog 66 #[.slice ao 0 cap] w fun e w'=>e=.returned (.int .i64 1)/\w'=w:=by
 go_enter Tryz.func66,Tryz.ntmps66
 go_wp2
 go_loop [3,4] (fun p i=>i=.int .i64 0/\p=.int .i64 1) (fun _ _=>0)
 case atStart=>exact ⟨rfl,rfl⟩
 obtain ⟨rfl,rfl⟩:=hrel
 go_wp2
 go_ret
 exact ⟨rfl,rfl⟩
theorem l1Product_any (B:Nat) (v:Value) (zs:List Int) (w:World) (hl:zs.length<=1048576) (hr:zs.all Pl.inR=true) (h:Rd B w v zs) :
  Calls Tryz.prog 66 #[v] w fun e w'=>e=.returned (.int .i64 (Pl.prodC zs))/\w'=w:=by
 obtain ⟨ao,cap,rfl,h⟩:=h
 rcases h with h | ⟨b,off,_,rfl,hc⟩
 ·obtain rfl:=List.length_eq_zero_iff.1 h
  exact l1Product_nil ao cap w
 exact l1Product_core b off cap zs w hl hr hc
theorem l1Fits_nil (ao:Option Addr) (cap:Nat) (w:World) :
  Calls Tryz.prog 52 #[.slice ao 0 cap] w fun e w'=>e=.returned (.bool true)/\w'=w:=by
 go_enter Tryz.func52,Tryz.ntmps52
 go_wp2
 go_loop [3] (fun i=>i=.int .i64 0) (fun _=>0)
 case atStart=>exact rfl
 obtain rfl:=hrel
 go_wp2_with (go_at_call 66; refine (l1Product_nil ao cap _).mono ?_; rintro e w' ⟨rfl,rfl⟩)
 go_ret
 exact ⟨rfl,rfl⟩
theorem l1Fits_any (B:Nat) (v:Value) (zs:List Int) (w:World) (hl:zs.length<=1048576) (h:Rd B w v zs) :
  Calls Tryz.prog 52 #[v] w fun e w'=>e=.returned (.bool (Pl.fitsB zs))/\w'=w:=by
 obtain ⟨ao,cap,rfl,h⟩:=h
 rcases h with h | ⟨b,off,_,rfl,hc⟩
 ·obtain rfl:=List.length_eq_zero_iff.1 h
  exact l1Fits_nil ao cap w
 exact l1Fits_core b off cap zs w hl hc
theorem valueFits_any (x:Int) (w:World) :
  Calls Tryz.prog 82 #[.int .i64 x] w fun e w'=>e=.returned (.bool (Pl.valB x))/\w'=w:=by
 by_cases h0:-3000000000<=x
 ·by_cases h1:x<=3000000000
  ·go_enter Tryz.func82,Tryz.ntmps82
   go_wp2
   go_ret
   exact ⟨ret_bool (by simp [Pl.valB]; omega),rfl⟩
  go_enter Tryz.func82,Tryz.ntmps82
  go_wp2
  go_ret
  exact ⟨ret_bool (by simp [Pl.valB]; omega),rfl⟩
 go_enter Tryz.func82,Tryz.ntmps82
 go_wp2
 go_ret
 exact ⟨ret_bool (by simp [Pl.valB]; omega),rfl⟩
theorem cellCount_core (b off cap:Nat) (zs:List Int) (w:World) (hr:Pl.baseB zs=true)
  (hc:∀i,i<zs.length->w.cell? ⟨b,off+i,none⟩=some (.int .i64 (zs.getD i 0))) :
  Calls Tryz.prog 81 #[.slice (some ⟨b,off,none⟩) zs.length cap] w fun e w'=>e=.returned (.int .i64 (Pl.prodP zs))/\w'=w:=by
 have hb:=hr
 simp only [Pl.baseB,Bool.and_eq_true,decide_eq_true_eq] at hb
 obtain ⟨hl,hall⟩:=hb
 generalize hn:zs.length=n at *
 have Hn:Hid (zs.length=n):=hn
 have HR:Hid (Pl.baseB zs=true):=hr
 have HAll:Hid (zs.all Pl.inR=true):=hall
 clear hn hr hall
 go_enter Tryz.func81,Tryz.ntmps81
 go_wp2
 go_loop [3,5,8] (fun p _ i=>∃k:Nat,k<=n/\i=.int .i64 k/\p=.int .i64 (Pl.prodP (zs.take k))) (fun _ _ i=>n-(intOf i).toNat)
 case atStart=>exact ⟨0,Nat.zero_le _,rfl,rfl⟩
 obtain ⟨k,hk,rfl,rfl⟩:=hrel
 by_cases hlt:k<n
 rotate_left 1
 ·go_wp2
  go_ret
  exact ⟨ret_int (by rw [List.take_of_length_le (by rw [Hn.out]; omega)]),rfl⟩
 have hck:=hc k hlt
 have HS:Hid (Pl.prodP (zs.take (k+1))=Pl.prodP (zs.take k) * zs.getD k 0):=by
  show _=_
  rw [Pl.take_snoc zs k (by rw [Hn.out]; exact hlt),Pl.prodP_snoc]
 have hm:=Pl.prodP_take_bd zs HR.out (k+1)
 rw [HS.out] at hm
 generalize zs.getD k 0=x at *
 generalize Pl.prodP (zs.take k)=p at *
 clear hc
 obtain ⟨hm0,hm1⟩:=hm
 go_wp2
 go_round
 case rel=>exact ⟨k+1,by omega,by go_num,by rw [HS.out]⟩
 simp [intOf]; omega
theorem cellCount_nil (ao:Option Addr) (cap:Nat) (w:World) :
  Calls Tryz.prog 81 #[.slice ao 0 cap] w fun e w'=>e=.returned (.int .i64 1)/\w'=w:=by
 go_enter Tryz.func81,Tryz.ntmps81
 go_wp2
 go_loop [3,5,8] (fun p _ i=>i=.int .i64 0/\p=.int .i64 1) (fun _ _ _=>0)
 case atStart=>exact ⟨rfl,rfl⟩
 obtain ⟨rfl,rfl⟩:=hrel
 go_wp2
 go_ret
 exact ⟨rfl,rfl⟩
theorem cellCount_any (B:Nat) (v:Value) (zs:List Int) (w:World) (hr:Pl.baseB zs=true) (h:Rd B w v zs) :
  Calls Tryz.prog 81 #[v] w fun e w'=>e=.returned (.int .i64 (Pl.prodP zs))/\w'=w:=by
 obtain ⟨ao,cap,rfl,h⟩:=h
 rcases h with h | ⟨b,off,_,rfl,hc⟩
 ·obtain rfl:=List.length_eq_zero_iff.1 h
  exact cellCount_nil ao cap w
 exact cellCount_core b off cap zs w hr hc
theorem shapeFits_core (b off cap:Nat) (zs:List Int) (w:World) (hl:zs.length<=1048576)
  (hc:∀i,i<zs.length->w.cell? ⟨b,off+i,none⟩=some (.int .i64 (zs.getD i 0))) :
  Calls Tryz.prog 80 #[.slice (some ⟨b,off,none⟩) zs.length cap] w fun e w'=>e=.returned (.bool (Pl.fitsB zs))/\w'=w:=by
 have hpr:=cellCount_core b off cap zs w
 have HC:=hc
 generalize hn:zs.length=n at *
 have Hn:Hid (zs.length=n):=hn
 have Hp:Hid _:=hpr
 have HC':Hid _:=HC
 clear hn hpr HC
 by_cases h3:n<=3
 rotate_left 1
 ·have h3':3<n:=by omega
  go_enter Tryz.func80,Tryz.ntmps80
  go_wp2
  go_ret
  exact ⟨ret_bool (by simp [Pl.fitsB,Pl.baseB,Hn.out]; omega),rfl⟩
 go_enter Tryz.func80,Tryz.ntmps80
 go_wp2
 go_loop [4,10] (fun _ i=>∃k:Nat,k<=n/\i=.int .i64 k/\(zs.take k).all Pl.inR=true) (fun _ i=>n-(intOf i).toNat)
 case atStart=>exact ⟨0,Nat.zero_le _,rfl,rfl⟩
 obtain ⟨k,hk,rfl,hall⟩:=hrel
 by_cases hlt:k<n
 ·have hck:=hc k hlt
  have HS:Hid ((zs.take (k+1)).all Pl.inR=((zs.take k).all Pl.inR && Pl.inR (zs.getD k 0))):=Pl.all_snoc zs Pl.inR k (by rw [Hn.out]; exact hlt)
  have HF:Hid (Pl.inR (zs.getD k 0)=false->zs.all Pl.inR=false):=Pl.all_false (by rw [Hn.out]; exact hlt)
  have HA:Hid ((zs.take k).all Pl.inR=true):=hall
  generalize zs.getD k 0=x at *
  clear hc hall
  by_cases hx0:x<0
  ·go_wp2
   go_ret
   exact ⟨ret_bool (by have:=HF.out (by simp [Pl.inR]; omega); simp [Pl.fitsB,Pl.baseB,this]),rfl⟩
  by_cases hx1:1000<x
  ·go_wp2
   go_ret
   exact ⟨ret_bool (by have:=HF.out (by simp [Pl.inR]; omega); simp [Pl.fitsB,Pl.baseB,this]),rfl⟩
  go_wp2
  go_round
  case rel=>exact ⟨k+1,by omega,by go_num,by rw [HS.out,HA.out]; simp [Pl.inR]; omega⟩
  simp [intOf]; omega
 have HA:Hid ((zs.take k).all Pl.inR=true):=hall
 clear hall
 have HA':Hid (Pl.baseB zs=true):=by
  have:=HA.out
  rw [List.take_of_length_le (by rw [Hn.out]; omega)] at this
  show _=_
  simp [Pl.baseB,this,Hn.out,h3]
 clear HA
 go_wp2_with (go_at_call 81; refine (Hp.out HA'.out HC'.out).mono ?_; rintro e w' ⟨rfl,rfl⟩)
 go_ret
 exact ⟨ret_bool (by rw [Pl.fits_eq,HA'.out]; rfl),rfl⟩
theorem shapeFits_nil (ao:Option Addr) (cap:Nat) (w:World) :
  Calls Tryz.prog 80 #[.slice ao 0 cap] w fun e w'=>e=.returned (.bool true)/\w'=w:=by
 go_enter Tryz.func80,Tryz.ntmps80
 go_wp2
 go_loop [4,10] (fun _ i=>i=.int .i64 0) (fun _ _=>0)
 case atStart=>exact rfl
 obtain rfl:=hrel
 go_wp2_with (go_at_call 81; refine (cellCount_nil ao cap _).mono ?_; rintro e w' ⟨rfl,rfl⟩)
 go_ret
 exact ⟨rfl,rfl⟩
theorem shapeFits_any (B:Nat) (v:Value) (zs:List Int) (w:World) (hl:zs.length<=1048576) (h:Rd B w v zs) :
  Calls Tryz.prog 80 #[v] w fun e w'=>e=.returned (.bool (Pl.fitsB zs))/\w'=w:=by
 obtain ⟨ao,cap,rfl,h⟩:=h
 rcases h with h | ⟨b,off,_,rfl,hc⟩
 ·obtain rfl:=List.length_eq_zero_iff.1 h
  exact shapeFits_nil ao cap w
 exact shapeFits_core b off cap zs w hl hc
theorem Tryz.info3:(Tryz.prog.info? 3).map (fun i=>(i.zero,i.size,i.bytes))=some (some (.int .i64 0),1,8):=by kernel_rfl
theorem made_zeros (n:Nat):(madeCells #[Value.int .i64 0] n).toList=(List.replicate n (0:Int)).map (Value.int .i64):=by
 rw [toList_madeCells_one]; simp
theorem bcell {W w1:World} (hb:Below W.heap.size W w1):(∀b o,b<W.heap.size->w1.cell? ⟨b,o,none⟩=W.cell? ⟨b,o,none⟩)/\(∀b o,b<W.heap.size->w1.frozen? ⟨b,o,none⟩=W.frozen? ⟨b,o,none⟩) :=
 ⟨fun b o h=>hb.cell (p:=⟨b,o,none⟩) h,fun b o h=>hb.frozen (p:=⟨b,o,none⟩) h⟩
theorem grown_of_below {w w':World} (hb:Below w.heap.size w w'):w.grownBy w' none:=⟨hb.os,hb.tape,hb.output,hb.size,fun k hk _=>hb.block k hk⟩
theorem owns_keep {w w':World} {base:Nat} {e:TypeId} {size:Nat} {v:Value} {n:Nat} {xs:List Value} (h:w.ownsRow base e size v n xs) (hb:Below w.heap.size w w'):w'.ownsRow base e size v n xs :=
 h.kept (grown_of_below hb) (by cases v.ownBlock <;> simp)
theorem owns_base {w:World} {base base':Nat} {e:TypeId} {size:Nat} {v:Value} {n:Nat} {xs:List Value} (h:w.ownsRow base e size v n xs) (hb:base'<=base):w.ownsRow base' e size v n xs:=by
 obtain ⟨h1,h2⟩:=h
 refine ⟨h1,?_⟩
 rcases h2 with h2 | ⟨g,cap,cur,hv,hg,r⟩
 ·exact .inl h2
 exact .inr ⟨g,cap,cur,hv,Nat.le_trans hb hg,r⟩
theorem below3 (w:World) (o1 o2 o3:Obj):Below w.heap.size w (((w.alloc o1).alloc o2).alloc o3) :=
 (((Below.refl _ _).alloc (Nat.le_refl _) _).alloc (by simp) _).alloc (by simp; omega) _
theorem Rd.drewN {B:Nat} {w:World} {v:Value} {zs:List Int} (h:Rd B w v zs) (n:Nat):Rd B (w.drewN n) v zs:=h.keep (below_drewN (Below.refl _ _) _)
theorem Rd.alloc {w:World} {v:Value} {zs:List Int} (h:Rd w.heap.size w v zs) (o:Obj):Rd w.heap.size (w.alloc o) v zs:=h.keep ((Below.refl _ _).alloc (Nat.le_refl _) _)
theorem specOk_no (v0 v1:Value) (sh:List Int) (w:World) (hl0:sh.length<=1048576) (h0:Rd w.heap.size w v0 sh) (hf:Pl.fitsB sh=false) :
  Calls Tryz.prog 26 #[.agg #[v0,v1]] w fun e w'=>e=.returned (.bool false)/\Below w.heap.size w w':=by
 have K:Hid (∀n,Calls Tryz.prog 52 #[v0] ((w.alloc (.cells #[v0,v1] 25)).drewN n) fun e w'=>e=.returned (.bool false)/\w'=(w.alloc (.cells #[v0,v1] 25)).drewN n):=fun n=>by
  have:=l1Fits_any w.heap.size v0 sh _ hl0 ((h0.alloc (.cells #[v0,v1] 25)).drewN n)
  rw [hf] at this; exact this
 clear h0 hf
 go_enter Tryz.func26,Tryz.ntmps26
 go_wp2
 go_quiet ((go_at_call 52; exact Calls.quiet_of_same (K.out _)))
 go_wp2
 go_ret
 exact ⟨rfl,below_drewN ((Below.refl _ _).alloc (Nat.le_refl _) _) _⟩
theorem specOk_len (v0:Value) (a1:Option Addr) (n1 c1:Nat) (sh:List Int) (w:World) (hl0:sh.length<=1048576) (hl1:n1<=1048576) (h0:Rd w.heap.size w v0 sh) (hf:Pl.fitsB sh=true) (hn:¬(n1:Int)=Pl.prodC sh) :
  Calls Tryz.prog 26 #[.agg #[v0,.slice a1 n1 c1]] w fun e w'=>e=.returned (.bool false)/\Below w.heap.size w w':=by
 have K:Hid (∀n,Calls Tryz.prog 52 #[v0] ((w.alloc (.cells #[v0,.slice a1 n1 c1] 25)).drewN n) fun e w'=>e=.returned (.bool true)/\w'=(w.alloc (.cells #[v0,.slice a1 n1 c1] 25)).drewN n):=fun n=>by
  have:=l1Fits_any w.heap.size v0 sh _ hl0 ((h0.alloc (.cells #[v0,.slice a1 n1 c1] 25)).drewN n)
  rw [hf] at this; exact this
 have hr:sh.all Pl.inR=true:=by simp only [Pl.fitsB,Pl.baseB,Bool.and_eq_true] at hf; exact hf.1.2
 have K2:Hid (∀n,Calls Tryz.prog 66 #[v0] ((w.alloc (.cells #[v0,.slice a1 n1 c1] 25)).drewN n) fun e w'=>e=.returned (.int .i64 (Pl.prodC sh))/\w'=(w.alloc (.cells #[v0,.slice a1 n1 c1] 25)).drewN n):=fun n =>
  l1Product_any w.heap.size v0 sh _ hl0 hr ((h0.alloc (.cells #[v0,.slice a1 n1 c1] 25)).drewN n)
 clear h0 hf hr
 generalize Pl.prodC sh=p at *
 have hne:((n1:Int) != p)=true:=by rw [bne_iff_ne]; exact hn
 clear hn
 go_enter Tryz.func26,Tryz.ntmps26
 go_wp2
 go_quiet ((first | (go_at_call 52; exact Calls.quiet_of_same (K.out _)) | (go_at_call 66; exact Calls.quiet_of_same (K2.out _))))
 go_wp2
 go_ret
 exact ⟨rfl,below_drewN ((Below.refl _ _).alloc (Nat.le_refl _) _) _⟩
theorem specOk_core (v0:Value) (b off c1:Nat) (sh da:List Int) (w:World) (hl0:sh.length<=1048576) (hl1:da.length<=1048576) (h0:Rd w.heap.size w v0 sh) (hf:Pl.fitsB sh=true) (hn:(da.length:Int)=Pl.prodC sh)
  (hb:b<w.heap.size) (hc:∀i,i<da.length->w.cell? ⟨b,off+i,none⟩=some (.int .i64 (da.getD i 0))) :
  Calls Tryz.prog 26 #[.agg #[v0,.slice (some ⟨b,off,none⟩) da.length c1]] w fun e w'=>e=.returned (.bool (da.all Pl.valB))/\Below w.heap.size w w':=by
 generalize hm:da.length=n1 at *
 have Hm:Hid (da.length=n1):=hm
 clear hm
 generalize hV:Value.slice (some ⟨b,off,none⟩) n1 c1=V
 have HV:Hid (Value.slice (some ⟨b,off,none⟩) n1 c1=V):=hV
 have K:Hid (∀n,Calls Tryz.prog 52 #[v0] ((w.alloc (.cells #[v0,V] 25)).drewN n) fun e w'=>e=.returned (.bool true)/\w'=(w.alloc (.cells #[v0,V] 25)).drewN n):=fun n=>by
  have:=l1Fits_any w.heap.size v0 sh _ hl0 ((h0.alloc (.cells #[v0,V] 25)).drewN n)
  rw [hf] at this; exact this
 have hr:sh.all Pl.inR=true:=by simp only [Pl.fitsB,Pl.baseB,Bool.and_eq_true] at hf; exact hf.1.2
 have K2:Hid (∀n,Calls Tryz.prog 66 #[v0] ((w.alloc (.cells #[v0,V] 25)).drewN n) fun e w'=>e=.returned (.int .i64 (Pl.prodC sh))/\w'=(w.alloc (.cells #[v0,V] 25)).drewN n):=fun n =>
  l1Product_any w.heap.size v0 sh _ hl0 hr ((h0.alloc (.cells #[v0,V] 25)).drewN n)
 clear h0 hf hr
 subst hV
 clear HV
 generalize Pl.prodC sh=p at *
 have hne:((n1:Int) != p)=false:=by simp [hn]
 clear hn
 have Hc:Hid (∀o m,∀i,i<n1->((w.alloc o).drewN m).cell? ⟨b,off+i,none⟩=some (.int .i64 (da.getD i 0))):=fun o m i hi =>
  ((below_drewN ((Below.refl w.heap.size w).alloc (Nat.le_refl _) o) m).cell (p:=⟨b,off+i,none⟩) hb).trans (hc i hi)
 clear hc
 go_enter Tryz.func26,Tryz.ntmps26
 go_wp2
 go_quiet ((first | (go_at_call 52; exact Calls.quiet_of_same (K.out _)) | (go_at_call 66; exact Calls.quiet_of_same (K2.out _))))
 go_wp2
 go_loopw [3] (fun i wr=>∃k:Nat,k<=n1/\i=.int .i64 k/\Hid ((da.take k).all Pl.valB=true)/\wr.cell? ⟨w.heap.size,1,none⟩=some (.slice (some ⟨b,off,none⟩) n1 c1)/\Hid (∀i,i<n1->wr.cell? ⟨b,off+i,none⟩=some (.int .i64 (da.getD i 0)))/\Hid (Below w.heap.size w wr)) (fun i _=>n1-(intOf i).toNat)
 case atStart=>exact ⟨0,Nat.zero_le _,rfl,rfl,by simp [go_sem],Hc.out _ _,below_drewN ((Below.refl _ _).alloc (Nat.le_refl _) _) _⟩
 obtain ⟨k,hk,rfl,hall,hcl,hcs,hbel⟩:=hrel
 clear Hc K K2 hne
 by_cases hlt:k<n1
 ·have hck:=hcs.out k hlt
  have HS:Hid ((da.take (k+1)).all Pl.valB=((da.take k).all Pl.valB && Pl.valB (da.getD k 0))):=Pl.all_snoc da Pl.valB k (by rw [Hm.out]; exact hlt)
  have HF:Hid (Pl.valB (da.getD k 0)=false->da.all Pl.valB=false):=Pl.all_false (by rw [Hm.out]; exact hlt)
  generalize da.getD k 0=x at *
  by_cases hx0:x < -3000000000
  ·go_wp2
   go_ret
   exact ⟨ret_bool (by rw [HF.out (by simp [Pl.valB]; omega)]),hbel.out⟩
  by_cases hx1:3000000000<x
  ·go_wp2
   go_ret
   exact ⟨ret_bool (by rw [HF.out (by simp [Pl.valB]; omega)]),hbel.out⟩
  go_wp2
  go_roundw
  case rel=>exact ⟨k+1,by omega,by go_num,by show _=_; rw [HS.out,hall.out]; simp [Pl.valB]; omega,hcl,hcs,hbel⟩
  simp [intOf]; omega
 have HA:Hid (da.all Pl.valB=true):=by
  have:=hall.out
  rw [List.take_of_length_le (by rw [Hm.out]; omega)] at this
  exact this
 go_wp2
 go_ret
 exact ⟨ret_bool HA.out.symm,hbel.out⟩
theorem specOk_nil (v0:Value) (a1:Option Addr) (c1:Nat) (sh:List Int) (w:World) (hl0:sh.length<=1048576) (h0:Rd w.heap.size w v0 sh) (hf:Pl.fitsB sh=true) (hn:(0:Int)=Pl.prodC sh) :
  Calls Tryz.prog 26 #[.agg #[v0,.slice a1 0 c1]] w fun e w'=>e=.returned (.bool true)/\Below w.heap.size w w':=by
 have K:Hid (∀n,Calls Tryz.prog 52 #[v0] ((w.alloc (.cells #[v0,.slice a1 0 c1] 25)).drewN n) fun e w'=>e=.returned (.bool true)/\w'=(w.alloc (.cells #[v0,.slice a1 0 c1] 25)).drewN n):=fun n=>by
  have:=l1Fits_any w.heap.size v0 sh _ hl0 ((h0.alloc (.cells #[v0,.slice a1 0 c1] 25)).drewN n)
  rw [hf] at this; exact this
 have hr:sh.all Pl.inR=true:=by simp only [Pl.fitsB,Pl.baseB,Bool.and_eq_true] at hf; exact hf.1.2
 have K2:Hid (∀n,Calls Tryz.prog 66 #[v0] ((w.alloc (.cells #[v0,.slice a1 0 c1] 25)).drewN n) fun e w'=>e=.returned (.int .i64 0)/\w'=(w.alloc (.cells #[v0,.slice a1 0 c1] 25)).drewN n):=fun n=>by
  have:=l1Product_any w.heap.size v0 sh _ hl0 hr ((h0.alloc (.cells #[v0,.slice a1 0 c1] 25)).drewN n)
  rw [<- hn] at this; exact this
 clear h0 hf hr hn
 go_enter Tryz.func26,Tryz.ntmps26
 go_wp2
 go_quiet ((first | (go_at_call 52; exact Calls.quiet_of_same (K.out _)) | (go_at_call 66; exact Calls.quiet_of_same (K2.out _))))
 go_wp2
 go_loopw [3] (fun i wr=>i=.int .i64 0/\wr.cell? ⟨w.heap.size,1,none⟩=some (.slice a1 0 c1)/\Hid (Below w.heap.size w wr)) (fun _ _=>0)
 case atStart=>exact ⟨rfl,by simp [go_sem],below_drewN ((Below.refl _ _).alloc (Nat.le_refl _) _) _⟩
 obtain ⟨rfl,hcl,hbel⟩:=hrel
 clear K K2
 go_wp2
 go_ret
 exact ⟨rfl,hbel.out⟩
theorem specOk_any (v0 v1:Value) (sh da:List Int) (w:World) (hl0:sh.length<=1048576) (hl1:da.length<=1048576) (h0:Rd w.heap.size w v0 sh) (h1:Rd w.heap.size w v1 da) :
  Calls Tryz.prog 26 #[.agg #[v0,v1]] w fun e w'=>e=.returned (.bool (Pl.okB sh da))/\Below w.heap.size w w':=by
 unfold Pl.okB
 by_cases hf:Pl.fitsB sh=true
 ·by_cases hn:(da.length:Int)=Pl.prodC sh
  ·have hd:decide ((da.length:Int)=Pl.prodC sh)=true:=decide_eq_true hn
   rw [hf,hd,Bool.true_and,Bool.true_and]
   obtain ⟨a1,c1,rfl,h1⟩:=h1
   rcases h1 with h1 | ⟨b,off,hb,rfl,hc⟩
   ·obtain rfl:=List.length_eq_zero_iff.1 h1
    exact specOk_nil v0 a1 c1 sh w hl0 h0 hf (by simpa using hn)
   exact specOk_core v0 b off c1 sh da w hl0 hl1 h0 hf hn hb hc
  have hd:decide ((da.length:Int)=Pl.prodC sh)=false:=decide_eq_false hn
  rw [hf,hd,Bool.true_and,Bool.false_and]
  obtain ⟨a1,c1,rfl,h1⟩:=h1
  exact specOk_len v0 a1 da.length c1 sh w hl0 hl1 h0 hf hn
 have hf':Pl.fitsB sh=false:=by simpa using hf
 rw [hf',Bool.false_and,Bool.false_and]
 exact specOk_no v0 v1 sh w hl0 h0 hf'
end Go.Proofs.YtacapaiadggemaaGreat
