/- Nodes, part 13 of the law FnTake. -/
import Derived.Test.YtijcjhcgpmnchaaGreatDoorM08
import Derived.Test.YtijcjhcgpmnchaaGreatDoorM10
namespace Go.Proofs.YtijcjhcgpmnchaaGreatDoor
open Go.RowKit
set_option maxRecDepth 100000
set_option maxHeartbeats 16000000
set_option linter.unusedSimpArgs false
set_option linter.unusedVariables false
variable {most:Int}
def dg (c:UInt8):Bool:=decide (48<=c.toNat∧c.toNat<=57)
def ldG (most:Int):List UInt8->Nat->Int->Int × Nat
 | [],i,n=>(n,i)
 | c :: l,i,n=>if dg c=false then (n,i) else if 0 < i∧n=0 then (0,0) else if most < 10 * n+((c.toNat:Int) - 48) then (0,0) else ldG most l (i+1) (10 * n+((c.toNat:Int) - 48))
def ld (most:Int) (l:List UInt8):Int × Nat:=ldG most l 0 0
def bl (s:ByteArray):List UInt8:=s.data.toList
theorem zF_ (s:ByteArray):(bl s).length=s.size:=by
 unfold bl;rw [Array.length_toList];rfl
theorem yC_ (s:ByteArray) (k:Nat) (h:k < s.size):(bl s).drop k=s[k] :: (bl s).drop (k+1):=by
 rw [List.drop_eq_getElem_cons (by rw [zF_]; exact h)];rfl
theorem ny_ (most:Int) (s:ByteArray) (k:Nat) (n:Int) (h:¬ k < s.size):ldG most ((bl s).drop k) k n=(n,k):=by
 rw [List.drop_of_length_le (by rw [zF_]; omega),ldG]
theorem nx_ (most:Int) (s:ByteArray) (k:Nat) (n:Int) (h:k < s.size) (hd:dg s[k]=false):ldG most ((bl s).drop k) k n=(n,k):=by
 rw [yC_ s k h,ldG,if_pos hd]
theorem oG_ (most:Int) (s:ByteArray) (k:Nat) (n:Int) (h:k < s.size) (hd:dg s[k]=true) (hz:0 < k∧n=0):ldG most ((bl s).drop k) k n=(0,0):=by
 rw [yC_ s k h,ldG,if_neg (by simp [hd]),if_pos hz]
theorem nz_ (most:Int) (s:ByteArray) (k:Nat) (n:Int) (h:k < s.size) (hd:dg s[k]=true) (hz:¬ (0 < k∧n=0)) (hb:most < 10 * n+((s[k].toNat:Int) - 48)):ldG most ((bl s).drop k) k n=(0,0):=by
 rw [yC_ s k h,ldG,if_neg (by simp [hd]),if_neg hz,if_pos hb]
theorem oH_ (most:Int) (s:ByteArray) (k:Nat) (n:Int) (h:k < s.size) (hd:dg s[k]=true) (hz:¬ (0 < k∧n=0)) (hb:¬ most < 10 * n+((s[k].toNat:Int) - 48)):ldG most ((bl s).drop k) k n=ldG most ((bl s).drop (k+1)) (k+1) (10 * n+((s[k].toNat:Int) - 48)):=by
 rw [yC_ s k h,ldG,if_neg (by simp [hd]),if_neg hz,if_neg hb]
def nv (l:List UInt8):Int:=l.foldl (fun n c=>10 * n+((c.toNat:Int) - 48)) 0
def Num (l:List UInt8):Prop:=l≠[]∧(∀ c ∈ l,dg c=true)∧(1 < l.length->l.head? ≠ some 48)
theorem uc_ (l:List UInt8) (c:UInt8):nv (l++[c])=10 * nv l+((c.toNat:Int) - 48):=by simp [nv,List.foldl_append]
theorem yp_ {c:UInt8}:dg c=true↔48<=c.toNat∧c.toNat<=57:=by simp [dg]
theorem w8_ {l:List UInt8} (h:∀ c ∈ l,dg c=true):0<=nv l:=by
 have:∀ (m:List UInt8) (n:Int),0<=n->(∀ c ∈ m,dg c=true)->0<=m.foldl (fun n c=>10 * n+((c.toNat:Int) - 48)) n:=by
  intro m
  induction m with
  | nil=>intro n hn _; exact hn
  | cons c m ih=>
   intro n hn hm;have hc:=yp_.1 (hm c (by simp));exact ih _ (by show 0<=10 * n+((c.toNat:Int) - 48); omega) (fun d hd=>hm d (List.mem_cons_of_mem _ hd))
 exact this l 0 (by omega) h
theorem ut_:∀ (m:List UInt8) (n:Int),0<=n->(∀ c ∈ m,dg c=true)->n<=m.foldl (fun n c=>10 * n+((c.toNat:Int) - 48)) n
 | [],n,_,_=>Int.le_refl _
 | c :: m,n,hn,hm=>by
  have hc:=yp_.1 (hm c (by simp))
  have:=ut_ m (10 * n+((c.toNat:Int) - 48)) (by omega) (fun d hd=>hm d (List.mem_cons_of_mem _ hd))
  simp only [List.foldl_cons];omega
theorem u3_ (most:Int) (h0:0<=most):∀ (l:List UInt8) (i:Nat) (n:Int),0<=n->n<=most->0<=(ldG most l i n).1∧(ldG most l i n).1<=most∧(ldG most l i n).2<=i+l.length
 | [],i,n,h1,h2=>by simp [ldG,h1,h2]
 | c :: l,i,n,h1,h2=>by
  rw [ldG];by_cases hd:dg c=false
  ·rw [if_pos hd]; exact ⟨h1,h2,by simp⟩
  ·rw [if_neg hd];have hc:=yp_.1 (show dg c=true by simpa using hd);by_cases hz:0 < i∧n=0
   ·rw [if_pos hz]; exact ⟨by simp,by simpa using h0,by simp⟩
   ·rw [if_neg hz];by_cases hb:most < 10 * n+((c.toNat:Int) - 48)
    ·rw [if_pos hb]; exact ⟨by simp,by simpa using h0,by simp⟩
    ·rw [if_neg hb]
     have:=u3_ most h0 l (i+1) (10 * n+((c.toNat:Int) - 48)) (by omega) (by omega)
     simp only [List.length_cons];omega
theorem sL_ (h0:0<=most) (l:List UInt8):0<=(ld most l).1∧(ld most l).1<=most∧(ld most l).2<=l.length:=by
 have:=u3_ most h0 l 0 0 (by omega) h0
 rw [Nat.zero_add] at this;exact this
theorem sR_:∀ (m:List UInt8) (n:Int),0<=n->(∀ c ∈ m,dg c=true)->n * 10 ^ m.length<=m.foldl (fun n c=>10 * n+((c.toNat:Int) - 48)) n
 | [],n,_,_=>by simp
 | c :: m,n,hn,hm=>by
  have hc:=yp_.1 (hm c (by simp));have ih:=sR_ m (10 * n+((c.toNat:Int) - 48)) (by omega) (fun d hd=>hm d (List.mem_cons_of_mem _ hd));simp only [List.foldl_cons,List.length_cons];have hp:(0:Int)<=10 ^ m.length:=Int.pow_nonneg (by decide);have h1:n * 10 ^ (m.length+1)=(10 * n) * 10 ^ m.length:=by rw [Int.pow_succ]; rw [Int.mul_comm (10 ^ m.length) 10,<- Int.mul_assoc,Int.mul_comm n 10]
  have h2:(10 * n) * 10 ^ m.length<=(10 * n+((c.toNat:Int) - 48)) * 10 ^ m.length:=Int.mul_le_mul_of_nonneg_right (by omega) hp;omega
theorem sQ_ {l:List UInt8} (h:Num l) (hl:1 < l.length):∃ c m,l=c :: m∧49<=c.toNat:=by
 cases l with
 | nil=>simp at hl
 | cons c m=>
  refine ⟨c,m,rfl,?_⟩;have h1:=h.2.2 hl;have h2:=yp_.1 (h.2.1 c (by simp))
  have:c.toNat≠48:=fun e=>h1 (by rw [List.head?_cons]; congr 1; exact UInt8.toNat_inj.1 (by simpa using e))
  omega
theorem ue_ {l:List UInt8} (h:Num l) (hl:6<=l.length):9999 < nv l:=by
 obtain ⟨c,m,rfl,hc⟩:=sQ_ h (by omega);have hm:∀ d ∈ m,dg d=true:=fun d hd=>h.2.1 d (List.mem_cons_of_mem _ hd)
 have h1:=sR_ m (10 * 0+((c.toNat:Int) - 48)) (by omega) hm;have h2:nv (c :: m)=m.foldl (fun n c=>10 * n+((c.toNat:Int) - 48)) (10 * 0+((c.toNat:Int) - 48)):=rfl;rw [h2];simp only [List.length_cons] at hl;obtain ⟨k,hk⟩:∃ k,m.length=k+5:=⟨m.length - 5,by omega⟩;rw [hk,Int.pow_add] at h1
 have hp:(1:Int)<=10 ^ k:=by
  have:(0:Int) < 10 ^ k:=Int.pow_pos (by decide)
  omega
 have h3:(100000:Int)<=10 ^ k * 10 ^ 5:=by
  have:(10:Int) ^ 5=100000:=by decide
  rw [this];omega
 have h4:(10:Int) ^ k * 10 ^ 5<=(10 * 0+((c.toNat:Int) - 48)) * (10 ^ k * 10 ^ 5):=by
  have h5:1 * ((10:Int) ^ k * 10 ^ 5)<=(10 * 0+((c.toNat:Int) - 48)) * (10 ^ k * 10 ^ 5):=Int.mul_le_mul_of_nonneg_right (by omega) (by omega);rw [Int.one_mul] at h5;exact h5
 omega
theorem pM_ (n d:Nat) (hn:0 < n) (hd:d < 10):dsN (10 * n+d)=dsN n++[UInt8.ofNat (48+d)]:=by
 rw [dsN,dif_neg (by omega)];have e1:(10 * n+d) / 10=n:=by omega
 have e2:(10 * n+d) % 10=d:=by omega
 rw [e1,e2]
theorem oX_:∀ (k:Nat) (l:List UInt8),l.length=k->Num l->dsN (nv l).toNat=l:=by
 intro k
 induction k with
 | zero=>intro l hl h; exact (h.1 (List.length_eq_zero_iff.1 hl)).elim
 | succ k ih=>
  intro l hl h;have hne:=h.1;obtain ⟨m,c,rfl⟩:∃ m c,l=m++[c]:=⟨l.dropLast,l.getLast hne,(List.dropLast_concat_getLast hne).symm⟩;have hc:=yp_.1 (h.2.1 c (by simp))
  have hcs:UInt8.ofNat (48+(c.toNat - 48))=c:=by
   have:48+(c.toNat - 48)=c.toNat:=by omega
   rw [this];exact UInt8.ofNat_toNat
  by_cases hm:m=[]
  ·subst hm;have e:nv ([]++[c])=(c.toNat:Int) - 48:=by simp [nv]
   rw [e];have e2:((c.toNat:Int) - 48).toNat=c.toNat - 48:=by omega
   rw [e2,dsN,dif_pos (by omega),hcs];rfl
  ·have hml:0 < m.length:=List.length_pos_iff.2 hm
   have hnm:Num m:=⟨hm,fun d hd=>h.2.1 d (by simp [hd]),fun h1=>by
    have:=h.2.2 (by simp; omega)
    cases m with
    | nil=>exact (hm rfl).elim
    | cons d r=>simpa using this⟩
   have hpos:0 < nv m:=by
    obtain ⟨d,r,hdr,hd⟩:=sQ_ h (by simp; omega);cases m with
    | nil=>exact (hm rfl).elim
    | cons d' r'=>
     simp only [List.cons_append,List.cons.injEq] at hdr;obtain ⟨rfl,_⟩:=hdr;have h1:=ut_ r' (10 * 0+((d'.toNat:Int) - 48)) (by omega) (fun x hx=>hnm.2.1 x (List.mem_cons_of_mem _ hx));have h2:nv (d' :: r')=r'.foldl (fun n c=>10 * n+((c.toNat:Int) - 48)) (10 * 0+((d'.toNat:Int) - 48)):=rfl;omega
   have ih':=ih m (by simp at hl; omega) hnm;rw [uc_];have e:(10 * nv m+((c.toNat:Int) - 48)).toNat=10 * (nv m).toNat+(c.toNat - 48):=by omega
   rw [e,pM_ _ _ (by omega) (by omega),ih',hcs]
end Go.Proofs.YtijcjhcgpmnchaaGreatDoor
