import Derived.Test.YtbiiicbfpcfgdaaGreatDoorDt1
import Derived.Test.YtbiiicbfpcfgdaaGreatDoorSpr
namespace Go.Proofs.YtbiiicbfpcfgdaaGreatDoor
open Go.RowKit
set_option maxRecDepth 100000
set_option maxHeartbeats 16000000
set_option linter.unusedVariables false
namespace Pl
def oS (s:Sv):Prop:=s.nums.length<=3/\s.nm.length<=21/\s.fn.nm.length<=21
def oC (c:List Sv):Prop:=c ≠ []/\c.length<=100/\∀s∈c,oS s
def oT (t:Tv):Prop:=oC t.code/\t.nm.length<=21/\t.gs.length<=2/\∀g∈t.gs,oC g.test/\oC g.thn
theorem nmF_le (j:Nat):(nmF j).length<=21:=by unfold nmF;(repeat' split) <;> simp
theorem nmA_le (j:Nat):(nmA j).length<=21:=by unfold nmA;(repeat' split) <;> simp
theorem nmS_le (j:Nat):(nmS j).length<=21:=by unfold nmS;(repeat' split) <;> simp
theorem nmG_le (j:Nat):(nmG j).length<=21:=by unfold nmG;(repeat' split) <;> simp
theorem gfn_le (bs:List Nat) (p:Nat) (two:Bool):(gfn bs p two).1.nm.length<=21:=by
 unfold gfn gfnK
 repeat' split
 all_goals first | exact nmF_le _ | simp
theorem atm_oS (bs:List Nat) (p:Nat):oS (atm bs p).1:=by
 unfold atm atmK
 split
 ·exact⟨by simp,nmA_le _,by simp[f0]⟩
 exact⟨by rw[cls_len];omega,by simp,by simp[f0]⟩
theorem gen_oS (bs:List Nat):∀d p,(gen bs d p).1 ≠ []/\∀s∈(gen bs d p).1,oS s
 |0,p=>by simp[gen,at1];exact atm_oS bs _
 |d+1,p=>by
  have h:=gen_oS bs d
  have at_:∀p,(at1 bs p).1 ≠ []/\∀s∈(at1 bs p).1,oS s:=fun p=>by simp[at1];exact atm_oS bs _
  unfold gen genK
  split
  ·exact at_ _
  split
  ·exact at_ _
  split
  ·refine⟨by simp,fun s hs=>?_⟩
   rcases List.mem_append.1 hs with r|r
   ·exact(h _).2 s r
   simp at r;subst r;exact⟨by simp,by simp,gfn_le _ _ _⟩
  split
  ·refine⟨by simp,fun s hs=>?_⟩
   rcases List.mem_append.1 hs with r|r
   ·rcases List.mem_append.1 r with r|r
    ·exact(h _).2 s r
    exact(h _).2 s r
   simp at r;subst r;exact⟨by simp,by simp,gfn_le _ _ _⟩
  refine⟨by simp,fun s hs=>?_⟩
  rcases List.mem_append.1 hs with r|r
  ·rcases List.mem_append.1 r with r|r
   ·exact(h _).2 s r
   simp at r;subst r;exact atm_oS bs _
  simp at r;subst r;exact⟨by simp,by simp,gfn_le _ _ _⟩
theorem gen_oC (bs:List Nat) (d p:Nat) (hd:d<=3):oC (gen bs d p).1:=by
 have h:=gen_len bs d p
 have:2 ^ (d+1)<=2 ^ 4:=Nat.pow_le_pow_right oM oM
 exact⟨(gen_oS bs d p).1,by omega,(gen_oS bs d p).2⟩
theorem grds_oC (bs:List Nat) (p:Nat):∀n,∀g∈(grds bs p n).1,oC g.test/\oC g.thn
 |0=>by simp[grds]
 |n+1=>fun g hg=>by
  rcases List.mem_append.1 hg with r|r
  ·exact grds_oC bs p n g r
  simp at r;subst r;exact⟨gen_oC bs 2 _ oM,gen_oC bs 2 _ oM⟩
theorem gst_oT (bs:List Nat) (p:Nat):oT (gst bs p).1:=by
 unfold gst gstK
 split
 ·exact⟨gen_oC bs _ _ oM,nmS_le _,by simp,by simp⟩
 split
 ·exact⟨gen_oC bs _ _ oM,nmG_le _,by rw[grds_len];omega,grds_oC bs _ _⟩
 exact⟨gen_oC bs _ _ oM,by simp,by simp,by simp⟩
theorem gsts_oT (bs:List Nat) (p:Nat):∀n,∀t∈(gsts bs p n).1,oT t
 |0=>by simp[gsts]
 |n+1=>fun t ht=>by
  rcases List.mem_append.1 ht with r|r
  ·exact gsts_oT bs p n t r
  simp at r;subst r;exact gst_oT bs _
theorem gpr_len (bs:List Nat) (p:Nat):1<=(gpr bs p).1.length/\(gpr bs p).1.length<=4:=by
 unfold gpr
 rw[gsts_len]
 omega
theorem gpr_oT (bs:List Nat) (p:Nat):∀t∈(gpr bs p).1,oT t:=gsts_oT bs _ _
def zS (s:Sv):Prop:=s.nums.length<=4/\s.nm.length<=21/\s.fn.nm.length<=21
def zC (c:List Sv):Prop:=c.length<=100/\∀s∈c,zS s
def zT (t:Tv):Prop:=zC t.code/\t.nm.length<=21/\t.gs.length<=3/\∀g∈t.gs,zC g.test/\zC g.thn
theorem oS.w {s:Sv}(h:oS s):zS s:=⟨by have:=h.1;omega,h.2⟩
theorem oC.w {c:List Sv}(h:oC c):zC c:=⟨h.2.1,fun s hs=>oS.w (h.2.2 s hs)⟩
theorem oT.w {t:Tv}(h:oT t):zT t:=⟨oC.w h.1,h.2.1,by have:=h.2.2.1;omega,fun g hg=>⟨oC.w (h.2.2.2 g hg).1,oC.w (h.2.2.2 g hg).2⟩⟩
theorem sum_le {α:Type}(f:α->Nat) (b:Nat):∀(l:List α),(∀x∈l,f x<=b)->(l.map f).sum<=l.length * b
 |[],_=>by simp
 |x::l,h=>by
  have:=sum_le f b l (fun y hy=>h y (by simp[hy]))
  have:=h x sI
  rw[List.map_cons,List.sum_cons,List.length_cons,Nat.succ_mul]
  omega
theorem zC.sz {c:List Sv}(h:zC c):csz c<=500:=by
 have h1:=sum_le (fun s:Sv=>s.nums.length) 4 c (fun s hs=>(h.2 s hs).1)
 have h2:c.length * 4<=100 * 4:=Nat.mul_le_mul_right _ h.1
 have:=h.1
 unfold csz
 omega
theorem zC.small {c:List Sv}(h:zC c):Small c:=⟨by have:=zC.sz h;omega,fun s hs=>⟨by have:=(h.2 s hs).2.1;omega,by have:=(h.2 s hs).2.2;omega⟩⟩
theorem zT.sz {t:Tv}(h:zT t):ssz t<=4000:=by
 have h1:=sum_le gsz 1000 t.gs (fun g hg=>by have:=zC.sz (h.2.2.2 g hg).1;have:=zC.sz (h.2.2.2 g hg).2;unfold gsz;omega)
 have h2:t.gs.length * 1000<=3 * 1000:=Nat.mul_le_mul_right _ h.2.2.1
 have:=zC.sz h.1
 have:=h.2.2.1
 unfold ssz
 omega
theorem zT.small {t:Tv}(h:zT t):SmallT t:=⟨zC.small h.1,by have:=h.2.1;omega,fun g hg=>⟨zC.small (h.2.2.2 g hg).1,zC.small (h.2.2.2 g hg).2⟩⟩
theorem psz_le (l:List Tv) (h:∀t∈l,zT t):psz l<=l.length * 4001:=by
 have:=sum_le ssz 4000 l (fun t ht=>zT.sz (h t ht))
 unfold psz
 omega
theorem gpr_small (bs:List Nat) (p:Nat):SmallP (gpr bs p).1:=by
 have h1:=gpr_oT bs p
 have h2:=gpr_len bs p
 have h3:=psz_le _ (fun t ht=>oT.w (h1 t ht))
 have h4:(gpr bs p).1.length * 4001<=4 * 4001:=Nat.mul_le_mul_right _ h2.2
 exact⟨by omega,fun t ht=>zT.small (oT.w (h1 t ht))⟩
theorem prt_le (nt:Int->List UInt8) (p:List Tv):(prt nt p).1.length<=4000:=by
 unfold prt
 split
 ·split
  ·split
   ·assumption
   exact Nat.zero_le _
  exact Nat.zero_le _
 exact Nat.zero_le _
end Pl
end Go.Proofs.YtbiiicbfpcfgdaaGreatDoor
