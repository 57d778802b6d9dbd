import Derived.Test.YtbiiicbfpcfgdaaGreatDoorFok
import Derived.Test.YtbiiicbfpcfgdaaGreatDoorTog
namespace Go.Proofs.YtbiiicbfpcfgdaaGreatDoor
open Go.RowKit
set_option maxRecDepth 100000
set_option maxHeartbeats 16000000
set_option linter.unusedVariables false
namespace Pl
def inB (x:Int):Bool:=decide (-3000000000<=x) && decide (x<=3000000000)
def pre (l:List Int) (k:Nat):Bool:=(l.take k).all inB
theorem pre_succ {l:List Int}{k:Nat}{x:Int}(h:l[k]? = some x):pre l (k+1)=(pre l k && inB x):=by
 unfold pre
 rw[List.take_add_one,h,List.all_append]
 simp
theorem pre_bad {l:List Int}{k:Nat}{x:Int}(h:l[k]? = some x) (hx:inB x=false):numsB l=false:=by
 have:l.all inB=false:=by
  cases e:l.all inB with
  |false=>rfl
  |true =>
   have:=List.all_eq_true.1 e x (List.mem_of_getElem? h)
   rw[hx] at this;cases this
 show (l.all inB && _ && _)=false
 rw[this];rfl
theorem pre_all {l:List Int}{k:Nat}(hk:k=l.length) (h:pre l k=true):numsB l=(decide (1<=l.length) && decide (l.length<=1000)):=by
 have:l.all inB=true:=by unfold pre at h;rw[hk,List.take_length] at h;exact h
 show (l.all inB && _ && _)=_
 rw[this];rfl
theorem f0_iff (f:Fnv):decide (f=f0)=(decide (f.k=0) && decide (f.a=0) && decide (f.b=0) && decide (ba f.nm=⟨#[]⟩)):=by
 obtain⟨k,a,b,nm⟩:=f
 rw[Bool.eq_iff_iff]
 have:ba nm=⟨#[]⟩ ↔ nm=[]:=by rw[ba_iff];exact Iff.rfl
 simp only[f0,Fnv.mk.injEq,decide_eq_true_eq,Bool.and_eq_true,this]
 exact⟨fun ⟨a,b,c,d⟩=>⟨⟨⟨a,b⟩,c⟩,d⟩,fun ⟨⟨⟨a,b⟩,c⟩,d⟩=>⟨a,b,c,d⟩⟩
end Pl
theorem ba_beq (l:List UInt8):((Pl.ba l).toList == [])=decide (l=[]):=by
 rw[ByteArray.toList_eq]
 show (l == [])=_
 cases l <;> simp
theorem tSok1 {P:Prop}(h:P:=by
 go_wp2
 go_ret
 exact ret_below HR.out (HB.out _)
 ):P:=h
theorem l3StepOk_any (s:Pl.Sv) (ao:Option Addr) (cap:Nat) (w:World) (hr:RdI w.heap.size w ao s.nums) (hl:s.nums.length<=1048576) (hn1:s.nm.length<=1048576) (hn2:s.fn.nm.length<=1048576) :
  Calls Tryz.prog 71 #[.agg #[.int .i64 s.k,.slice ao s.nums.length cap,.string (Pl.ba s.nm),.int .i64 s.fn.k,.int .i64 s.fn.a,.int .i64 s.fn.b,.string (Pl.ba s.fn.nm)]] w fun e w'=>e=.returned (.bool (Pl.sokS s))/\Below w.heap.size w w':=by
 have HF:Hid (Pl.sokS s=if s.k=1 then Pl.numsB s.nums && decide (s.nm=[]) && decide (s.fn=Pl.f0) else if s.nums ≠ [] then false else if s.k=2 then Pl.nameS (Pl.ba s.nm) 119 && decide (s.fn=Pl.f0) else decide (s.nm=[]) && (decide (s.k=3) || decide (s.k=4)) && Pl.fok s.fn (decide (s.k=4))):=by show _=_;rw[Pl.nameS_w];rfl
 have HB:Hid (∀o,Below w.heap.size w (w.alloc o)):=fun o=>(Below.refl _ _).alloc (Nat.le_refl _) _
 have K:Hid (∀w,Calls Tryz.prog 43 #[.string (Pl.ba s.nm),.int .u8 119] w fun e w'=>e=.returned (.bool (Pl.nameS (Pl.ba s.nm) 119))/\Below w.heap.size w w'):=fun w=>l3NameOk_any (Pl.ba s.nm) 119 w (by rw[Pl.ba_size];omega)
 have KF:Hid (∀(b:Bool) w,Calls Tryz.prog 90 #[.agg #[.int .i64 s.fn.k,.int .i64 s.fn.a,.int .i64 s.fn.b,.string (Pl.ba s.fn.nm)],.bool b] w fun e w'=>e=.returned (.bool (Pl.fok s.fn b))/\Below w.heap.size w w'):=fun b w=>l3FnOk_any s.fn.k s.fn.a s.fn.b (Pl.ba s.fn.nm) b w (by rw[Pl.ba_size];omega)
 have heq:=eq78 s.fn.k s.fn.a s.fn.b 0 0 0 (Pl.ba s.fn.nm) ⟨#[]⟩
 rw[<- Pl.f0_iff] at heq
 have hbq:=ba_beq s.nm
 have HP:Hid (∀k x,s.nums[k]? = some x->Pl.pre s.nums (k+1)=(Pl.pre s.nums k && Pl.inB x)):=fun k x=>Pl.pre_succ
 have HQ:Hid (∀k x,s.nums[k]? = some x->Pl.inB x=false->Pl.numsB s.nums=false):=fun k x=>Pl.pre_bad
 have HA:Hid (∀k,k=s.nums.length->Pl.pre s.nums k=true->Pl.numsB s.nums=(decide (1<=s.nums.length) && decide (s.nums.length<=1000))):=fun k=>Pl.pre_all
 have HN:Hid (s.nums ≠ [] ↔ s.nums.length ≠ 0):=by show _ ↔ _;exact⟨fun h e=>h (List.length_eq_zero_iff.1 e),fun h e=>h (by rw[e];rfl)⟩
 have HI:Hid (∀k,k<s.nums.length->∃x,s.nums[k]? = some x):=fun k hk=>⟨s.nums[k],List.getElem?_eq_getElem hk⟩
 have HRd:=zH hr
 clear hr
 generalize Pl.sokS s=r at *
 generalize Pl.nameS (Pl.ba s.nm) 119=q at *
 generalize Pl.ba s.nm=nm at *
 generalize Pl.ba s.fn.nm=fnm at *
 generalize hf0:decide (s.fn=Pl.f0)=f0 at *
 generalize hn0:decide (s.nm=[])=n0 at *
 clear hf0
 have Hn0:=zH hn0
 clear hn0
 generalize s.fn.k=fk at *
 generalize s.fn.a=fa at *
 generalize s.fn.b=fb at *
 generalize s.k=k at *
 generalize hL:s.nums.length=L at *
 have HL:=zH hL
 clear hL
 by_cases k1:k=1
 ·subst k1
  have HF1:=zH (show r=(Pl.numsB s.nums && n0 && f0) by rw[HF.out,if_pos rfl])
  clear HF
  go_enter Tryz.func71,Tryz.ntmps71
  go_wp2
  go_loop [3] (fun v=>∃k:Nat,k<=L/\v=.int .i64 k/\Hid (Pl.pre s.nums k=true)) (fun v=>L-(intOf v).toNat)
  case atStart=>exact⟨0,Nat.zero_le _,rfl,rfl⟩
  obtain⟨j,hj,rfl,hst⟩:=hrel
  by_cases hlt:j<L
  ·obtain⟨x,hx⟩:=HI.out j hlt
   have S:=zH (HP.out j x hx)
   have Q:=zH (HQ.out j x hx)
   obtain⟨b,off,hb,rfl,hc⟩:=HRd.out.resolve_left (fun e=>HN.out.2 oM e)
   have hcell0:=hc j x hx
   have hcell:∀o,(w.alloc o).cell? ⟨b,off+j,none⟩=some (.int .i64 x):=fun o=>((HB.out o).cell (p:=⟨b,off+j,none⟩) hb).trans hcell0
   clear hcell0 hc HRd HI HP HQ HA HN hx
   by_cases g1:x < -3000000000
   ·have HR:=zH (show r=false by rw[HF1.out,Q.out (by simp[Pl.inB];omega)];rfl)
    exact tSok1
   by_cases g2:x > 3000000000
   ·have HR:=zH (show r=false by rw[HF1.out,Q.out (by simp[Pl.inB];omega)];rfl)
    exact tSok1
   have HR:=zH (show Pl.pre s.nums (j+1)=true by rw[S.out,hst.out];simp[Pl.inB];omega)
   go_wp2
   go_round
   case rel=>exact⟨j+1,by omega,by go_num,HR.out⟩
   simp[intOf];omega
  obtain rfl:j=L:=by omega
  have HF:=zH (show r=(decide (1<=j) && decide (j<=1000) && n0 && f0) by rw[HF1.out,HA.out j rfl hst.out])
  clear HRd HI HP HQ HA HN
  by_cases g1:1<=j
  ·by_cases g2:j<=1000
   ·cases n0
    ·have HR:=zH (show r=false by rw[HF.out];simp)
     exact tSok1
    have HR:=zH (show r=f0 by rw[HF.out];simp[g1,g2])
    exact tSok1
   have HR:=zH (show r=false by rw[HF.out];simp[g2])
   exact tSok1
  have HR:=zH (show r=false by rw[HF.out];simp[g1])
  exact tSok1
 have f1:(k == 1)=false:=by simp[k1]
 have HF:=zH (show r=if L ≠ 0 then false else if k=2 then q && f0 else n0 && (decide (k=3) || decide (k=4)) && Pl.fok s.fn (decide (k=4)) by
  rw[HF.out,if_neg k1]
  by_cases h:L=0
  ·rw[if_neg (fun e=>HN.out.1 e h),if_neg (c:=L ≠ 0) (fun e=>e h)]
  rw[if_pos (HN.out.2 h),if_pos h])
 clear HRd HI HP HQ HA HN k1
 by_cases h0:L=0
 rotate_left 1
 ·have hb0:((L:Int) == 0)=false:=by simp[h0]
  have HR:=zH (show r=false by rw[HF.out,if_pos h0])
  go_enter Tryz.func71,Tryz.ntmps71
  exact tSok1
 subst h0
 have HF:=zH (show r=if k=2 then q && f0 else n0 && (decide (k=3) || decide (k=4)) && Pl.fok s.fn (decide (k=4)) by rw[HF.out,if_neg sI])
 by_cases k2:k=2
 ·subst k2
  cases q
  ·have HR:=zH (show r=false by rw[HF.out];simp)
   go_enter Tryz.func71,Tryz.ntmps71
   go_wp2_with (go_at_call 43;refine(K.out _).mono ?_;rintro e w' ⟨rfl,hb⟩)
   go_ret
   exact ret_below HR.out ((HB.out _).trans (hb.mono sI))
  have HR:=zH (show r=f0 by rw[HF.out];simp)
  have C:Hid (∀(o:Obj) (j:Nat) (v:Value) (w':World),Below (w.alloc o).heap.size (w.alloc o) w'->(w.alloc o).cell? ⟨w.heap.size,j,none⟩=some v->w'.cell? ⟨w.heap.size,j,none⟩=some v):=fun o j v w' hb h=>(hb.cell (p:=⟨w.heap.size,j,none⟩) sI).trans h
  go_enter Tryz.func71,Tryz.ntmps71
  go_wp2_with fail
  refine(K.out _).mono ?_
  rintro e w' ⟨rfl,hb⟩
  have c3:=C.out _ 3 _ _ hb (by simp[go_sem];rfl)
  have c4:=C.out _ 4 _ _ hb (by simp[go_sem];rfl)
  have c5:=C.out _ 5 _ _ hb (by simp[go_sem];rfl)
  have c6:=C.out _ 6 _ _ hb (by simp[go_sem];rfl)
  have HBB:=zH ((HB.out _).trans (hb.mono sI))
  clear hb
  go_wp2
  go_ret
  exact ret_below HR.out HBB.out
 have f2:(k == 2)=false:=by simp[k2]
 have HF:=zH (show r=(n0 && (decide (k=3) || decide (k=4)) && Pl.fok s.fn (decide (k=4))) by rw[HF.out,if_neg k2])
 clear k2
 cases n0
 ·have HR:=zH (show r=false by rw[HF.out];simp)
  go_enter Tryz.func71,Tryz.ntmps71
  exact tSok1
 by_cases k3:k=3
 ·subst k3
  have HR:=zH (show r=Pl.fok s.fn false by rw[HF.out];simp)
  have KK:=zH (KF.out false)
  go_enter Tryz.func71,Tryz.ntmps71
  go_wp2_with (go_at_call 90;refine(KK.out _).mono ?_;rintro e w' ⟨rfl,hb⟩)
  go_ret
  exact ret_below HR.out ((HB.out _).trans (hb.mono sI))
 have f3:(k == 3)=false:=by simp[k3]
 by_cases k4:k=4
 ·subst k4
  have HR:=zH (show r=Pl.fok s.fn true by rw[HF.out];simp)
  have KK:=zH (KF.out true)
  clear k3
  go_enter Tryz.func71,Tryz.ntmps71
  go_wp2_with (go_at_call 90;refine(KK.out _).mono ?_;rintro e w' ⟨rfl,hb⟩)
  go_ret
  exact ret_below HR.out ((HB.out _).trans (hb.mono sI))
 have f4:(k == 4)=false:=by simp[k4]
 have HR:=zH (show r=false by rw[HF.out];simp[k3,k4])
 clear k3 k4
 go_enter Tryz.func71,Tryz.ntmps71
 exact tSok1
end Go.Proofs.YtbiiicbfpcfgdaaGreatDoor
