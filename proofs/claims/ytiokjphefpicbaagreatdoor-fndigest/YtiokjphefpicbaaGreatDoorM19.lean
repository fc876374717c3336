/- Nodes and their buckets, part 19 of the law FnDigest. -/
import Derived.Test.YtiokjphefpicbaaGreatDoorM18
namespace Go.Proofs.YtiokjphefpicbaaGreatDoor
open Go.RowKit
set_option maxRecDepth 100000
set_option maxHeartbeats 16000000
set_option linter.unusedSimpArgs false
set_option linter.unusedVariables false
section
variable {W:World} {b:Nat} {v:Value}
theorem ba_bl (s:ByteArray):(⟨(bl s).toArray⟩:ByteArray)=s:=by
 apply ByteArray.ext
 simp [bl]
theorem zL_ {o:Nat} {ob:Obj} (h:W.cell? ⟨b,o,none⟩=some v) (hb:b < W.heap.size):(W.alloc ob).cell? ⟨b,o,none⟩=some v:=za_ (zb_ _ _) h hb
theorem zZ_ {o:Nat} {ob:Obj} (h:W.frozen? ⟨b,o,none⟩=false) (hb:b < W.heap.size):(W.alloc ob).frozen? ⟨b,o,none⟩=false:=zd_ (zb_ _ _) h hb
def N3P (w:World) (e:Ending) (w':World):Prop:=∃ n:Int,e=.returned (.tuple #[.int .i64 n,.bool false])∧Below w.heap.size w w'
theorem x5_ (n a b:Int) (w:World) (h1:a≤n) (h2:n≤b) :
  Calls Tryz.prog 48 #[.int .i64 n,.int .i64 a,.int .i64 b] w fun e w'=>e=.returned (.bool true)∧w'=w:=by
 go_enter Tryz.func48,Tryz.ntmps48
 go_wp2
 go_ret
 exact ⟨rfl,rfl⟩
theorem pE_ (n a b:Int) (w:World) (h:n < a∨(a≤n∧b < n)) :
  Calls Tryz.prog 48 #[.int .i64 n,.int .i64 a,.int .i64 b] w fun e w'=>e=.returned (.bool false)∧w'=w:=by
 rcases h with h | ⟨h1,h⟩
 ·have h1:¬ a≤n:=by omega
  go_enter Tryz.func48,Tryz.ntmps48
  go_wp2
  go_ret
  exact ⟨rfl,rfl⟩
 ·have h2:¬ n≤b:=by omega
  go_enter Tryz.func48,Tryz.ntmps48
  go_wp2
  go_ret
  exact ⟨rfl,rfl⟩
def tdR:List UInt8→Prop
 | []=>False
 | c :: r=>(97≤c.toNat∧c.toNat≤99)∧(Num r∧r.length≤18)∧dotB ((c.toNat:Int) - 97) (nv r)=true
def tdV:List UInt8→Int × Int
 | []=>(0,0)
 | c :: r=>((c.toNat:Int) - 97,nv r)
end
section
variable {W W' w:World} {b g:Nat} {s:ByteArray}
theorem qQ_ (h:s.size=0):bl s=[]:=List.length_eq_zero_iff.1 (by rw [zF_]; exact h)
theorem u2_ (h:Below w.heap.size w W) (hg:W.grownBy W' (some g)) (hr:w.heap.size≤g):Below w.heap.size w W':=
 ⟨hg.os.trans h.os,hg.tape.trans h.tape,hg.output.trans h.output,Nat.le_trans h.size hg.size,fun b hb=>(hg.block b (Nat.lt_of_lt_of_le hb h.size) (fun e=>by cases e; omega)).trans (h.block b hb)⟩
theorem zC_ {o:Nat} (hg:W.grownBy W' (some g)) (h:W.frozen? ⟨b,o,none⟩=false) (hb:b < W.heap.size) (hne:b≠g):W'.frozen? ⟨b,o,none⟩=false:=by
 rw [World.frozen?_of_block (w:=W) (hg.block b hb (fun e=>by cases e; exact hne rfl))]; exact h
end
section
variable {W w wr':World} {b g i k o1:Nat} {most x y z:Int} {s s':ByteArray} {u v:Value}
def NoD (t:List UInt8):Prop:=∀ c,t.head? = some c→dg c=false
theorem oH_ (most:Int) (t:List UInt8) (i:Nat) (n:Int) (h:NoD t):ldG most t i n=(n,i):=by
 cases t with
 | nil=>rfl
 | cons c t=>rw [ldG,if_pos (h c rfl)]
theorem qi_ (most:Int) (t:List UInt8) (ht:NoD t):∀ (l:List UInt8) (i:Nat) (n:Int),0≤n→n≤most→(0 < i→0 < n∨l=[])→(∀ c ∈ l,dg c=true)→(i=0→n=0∧(1 < l.length→l.head? ≠ some 48))→l.foldl (fun n c=>10 * n+((c.toNat:Int) - 48)) n≤most→ldG most (l++t) i n=(l.foldl (fun n c=>10 * n+((c.toNat:Int) - 48)) n,i+l.length)
 | [],i,n,_,_,_,_,_,_=>by simpa using oH_ most t i n ht
 | c :: l,i,n,hn,hm,hi,hd,h0,hb=>by
  have hc:=hd c (by simp)
  have hc':=yn_.1 hc
  have hge:=v7_ l (10 * n+((c.toNat:Int) - 48)) (by omega) (fun d hd'=>hd d (List.mem_cons_of_mem _ hd'))
  simp only [List.foldl_cons] at hb
  rw [List.cons_append,ldG,if_neg (by simp [hc])]
  have hz:¬ (0 < i∧n=0):=by
   rintro ⟨h1,h2⟩
   rcases hi h1 with h3 | h3
   ·omega
   ·cases h3
  rw [if_neg hz,if_neg (by omega)]
  rw [qi_ most t ht l (i+1) _ (by omega) (by omega) (fun _=>?_) (fun d hd'=>hd d (List.mem_cons_of_mem _ hd')) (fun h=>by omega) hb]
  ·simp only [List.foldl_cons,List.length_cons]
   congr 1
   omega
  ·by_cases hi0:i=0
   ·obtain ⟨hn0,hh⟩:=h0 hi0
    cases l with
    | nil=>exact .inr rfl
    | cons d l=>
     left
     have:c≠48:=fun e=>hh (by simp) (by simp [e])
     have:c.toNat≠48:=fun e=>this (UInt8.toNat_inj.1 (by simpa using e))
     omega
   ·left
    rcases hi (by omega) with h3 | h3
    ·omega
    ·cases h3
theorem qg_ {a t:List UInt8} (h:Num a) (h0:0≤most) (hb:nv a≤most) (ht:NoD t):ld most (a++t)=(nv a,a.length):=by
 have:=qi_ most t ht a 0 0 (by omega) h0 (fun h=>by omega) h.2.1 (fun _=>⟨rfl,h.2.2⟩) hb
 rw [Nat.zero_add] at this
 exact this
theorem qj_ (most:Int):∀ (l:List UInt8) (i:Nat) (n m:Int) (k:Nat),ldG most l i n=(m,i+k)→0 < i+k→k≤l.length∧(∀ c ∈ l.take k,dg c=true)∧m=(l.take k).foldl (fun n c=>10 * n+((c.toNat:Int) - 48)) n∧(0 < k→m≤most)∧(0 < k→0 < i→n≠0)∧(i=0→n=0→1 < k→l.head? ≠ some 48)∧NoD (l.drop k)
 | [],i,n,m,k,h,_=>by
  simp only [ldG,Prod.mk.injEq] at h
  have hk:k=0:=by omega
  subst hk
  refine ⟨by simp,?_,h.1.symm,?_,?_,?_,?_⟩
  ·intro c hc; simp at hc
  ·intro h; omega
  ·intro h; omega
  ·intro _ _ h; omega
  ·intro c hc; simp at hc
 | c :: l,i,n,m,k,h,hp=>by
  rw [ldG] at h
  by_cases hd:dg c=false
  ·rw [if_pos hd] at h
   simp only [Prod.mk.injEq] at h
   have hk:k=0:=by omega
   subst hk
   refine ⟨by simp,?_,by simpa using h.1.symm,?_,?_,?_,?_⟩
   ·intro c hc; simp at hc
   ·intro h; omega
   ·intro h; omega
   ·intro _ _ h; omega
   ·intro d hd'; simp at hd'; subst hd'; exact hd
  ·rw [if_neg hd] at h
   by_cases hz:0 < i∧n=0
   ·rw [if_pos hz] at h
    simp only [Prod.mk.injEq] at h
    omega
   ·rw [if_neg hz] at h
    by_cases hb:most < 10 * n+((c.toNat:Int) - 48)
    ·rw [if_pos hb] at h
     simp only [Prod.mk.injEq] at h
     omega
    ·rw [if_neg hb] at h
     have hk:∃ k',k=k'+1:=by
      cases k with
      | zero=>
       exfalso
       have:=(ldG_mono most l (i+1) (10 * n+((c.toNat:Int) - 48)))
       rw [h] at this
       simp at this
       omega
      | succ k'=>exact ⟨k',rfl⟩
     obtain ⟨k',rfl⟩:=hk
     have e:i+(k'+1)=(i+1)+k':=by omega
     rw [e] at h
     obtain ⟨h0,h1,h2,h3,h4,h5,h6⟩:=qj_ most l (i+1) _ m k' h (by omega)
     refine ⟨by simp; omega,?_,?_,?_,?_,?_,?_⟩
     ·intro d hd'
      rw [List.take_succ_cons] at hd'
      rcases List.mem_cons.1 hd' with e' | e'
      ·subst e'; simpa using hd
      ·exact h1 d e'
     ·rw [List.take_succ_cons,List.foldl_cons]; exact h2
     ·intro _
      rcases Nat.eq_zero_or_pos k' with hk0 | hk0
      ·subst hk0; simp at h2; omega
      ·exact h3 hk0
     ·intro _ hi hn; exact hz ⟨hi,hn⟩
     ·intro hi hn hlen
      have:=h4 (by omega) (by omega)
      subst hn
      intro e'
      simp at e'
      subst e'
      simp at this
     ·rw [List.drop_succ_cons]; exact h6
where
 ldG_mono (most:Int):∀ (l:List UInt8) (i:Nat) (n:Int),(ldG most l i n).2=0∨i≤(ldG most l i n).2
  | [],i,n=>by simp [ldG]
  | c :: l,i,n=>by
   rw [ldG]
   split
   ·right; exact Nat.le_refl _
   ·split
    ·left; rfl
    ·split
     ·left; rfl
     ·rcases ldG_mono most l (i+1) (10 * n+((c.toNat:Int) - 48)) with h | h
      ·left; exact h
      ·right; omega
theorem qh_ {l:List UInt8} {m:Int} (h:ld most l=(m,k)) (hk:0 < k):k≤l.length∧Num (l.take k)∧m=nv (l.take k)∧nv (l.take k)≤most∧NoD (l.drop k):=by
 have h':ldG most l 0 0=(m,0+k):=by rw [Nat.zero_add]; exact h
 obtain ⟨h0,h1,h2,h3,_,h5,h6⟩:=qj_ most l 0 0 m k h' (by omega)
 have hlen:(l.take k).length=k:=by simp; omega
 have h7:=h3 hk
 rw [h2] at h7
 refine ⟨h0,⟨fun e=>by rw [e] at hlen; simp at hlen; omega,h1,fun hl=>?_⟩,h2,h7,h6⟩
 rw [hlen] at hl
 have:=h5 rfl rfl hl
 cases l with
 | nil=>simp at h0; omega
 | cons c l=>
  cases k with
  | zero=>omega
  | succ k=>simpa using this
def cutL (c:UInt8):List UInt8→List (List UInt8)
 | []=>[[]]
 | d :: l=>if d=c then [] :: cutL c l else match cutL c l with
  | []=>[[d]]
  | p :: ps=>(d :: p) :: ps
theorem w8_ (c:UInt8):∀ l,cutL c l≠[]
 | []=>by simp [cutL]
 | d :: l=>by
  unfold cutL
  split
  ·simp
  ·split <;> simp
theorem yO_ (c:UInt8):∀ (a:List UInt8),(∀ d ∈ a,d≠c)→cutL c a=[a]
 | [],_=>rfl
 | d :: a,h=>by
  rw [cutL,if_neg (h d (by simp)),yO_ c a (fun e he=>h e (List.mem_cons_of_mem _ he))]
theorem yD_ (c:UInt8):∀ (a l:List UInt8),(∀ d ∈ a,d≠c)→cutL c (a++c :: l)=a :: cutL c l
 | [],l,_=>by rw [List.nil_append,cutL,if_pos rfl]
 | d :: a,l,h=>by
  rw [List.cons_append,cutL,if_neg (h d (by simp)),yD_ c a l (fun e he=>h e (List.mem_cons_of_mem _ he))]
def glue (c:UInt8):List (List UInt8)→List UInt8
 | []=>[]
 | [p]=>p
 | p :: q :: ps=>p++c :: glue c (q :: ps)
theorem x8_ (c:UInt8):∀ l,glue c (cutL c l)=l
 | []=>rfl
 | d :: l=>by
  have ih:=x8_ c l
  rw [cutL]
  by_cases h:d=c
  ·rw [if_pos h]
   cases hp:cutL c l with
   | nil=>exact (w8_ c l hp).elim
   | cons p ps=>rw [hp] at ih; rw [glue,ih,h]; rfl
  ·rw [if_neg h]
   cases hp:cutL c l with
   | nil=>exact (w8_ c l hp).elim
   | cons p ps=>
    rw [hp] at ih
    cases ps with
    | nil=>simp only [glue] at ih ⊢; rw [ih]
    | cons q ps=>simp only [glue] at ih ⊢; rw [List.cons_append,ih]
def VvT (l a b c:List UInt8):Prop:=l=a++46 :: (b++46 :: c)∧(Num a∧nv a≤9999)∧(Num b∧nv b≤9999)∧(Num c∧nv c≤9999)
theorem wW_ {a:List UInt8} (h:Num a):∀ d ∈ a,d≠46:=fun d hd e=>by
 have:=yn_.1 (h.2.1 d hd)
 rw [e] at this
 simp at this
theorem xa_ {l a b c:List UInt8} (h:VvT l a b c):cutL 46 l=[a,b,c]:=by
 rw [h.1,yD_ 46 a _ (wW_ h.2.1.1),yD_ 46 b _ (wW_ h.2.2.1.1),yO_ 46 c (wW_ h.2.2.2.1)]
theorem o0_ {l a b c:List UInt8} (h:cutL 46 l=[a,b,c]) (ha:Num a∧nv a≤9999) (hb:Num b∧nv b≤9999) (hc:Num c∧nv c≤9999):VvT l a b c:=by
 refine ⟨?_,ha,hb,hc⟩
 have:=x8_ 46 l
 rw [h] at this
 exact this.symm
theorem qa_ (t:List UInt8):NoD (46 :: t):=fun c hc=>by
 simp at hc
 subst hc
 decide
theorem ox_:NoD []:=fun c hc=>by simp at hc
def rv1 (l:List UInt8):Option (Int × List UInt8):=if 0 < (ld 9999 l).2 then some ((ld 9999 l).1,l.drop (ld 9999 l).2) else none
def sgD:List UInt8→Option (List UInt8)
 | []=>none
 | c :: r=>if c.toNat=46 then some r else none
def rvA (l:List UInt8):Option ((Int × Int × Int) × List UInt8):=(rv1 l).map fun q=>((q.1,0,0),q.2)
def rvB (l:List UInt8):Option ((Int × Int × Int) × List UInt8):=(rvA l).bind fun p=>(sgD p.2).bind fun r=>(rv1 r).map fun q=>((p.1.1,q.1,0),q.2)
def rvC (l:List UInt8):Option ((Int × Int × Int) × List UInt8):=(rvB l).bind fun p=>(sgD p.2).bind fun r=>(rv1 r).map fun q=>((p.1.1,p.1.2.1,q.1),q.2)
def rvS (l:List UInt8) (i:Nat):Option ((Int × Int × Int) × List UInt8):=if i=0 then some ((0,0,0),l) else if i=1 then rvA l else if i=2 then rvB l else rvC l
theorem nt_ (l:List UInt8):rvS l 0=some ((0,0,0),l):=rfl
theorem rN_ (l:List UInt8):rvS l 1=(rv1 l).map fun q=>((q.1,0,0),q.2):=rfl
theorem uv_ (l:List UInt8):rvS l 2=(rvS l 1).bind fun p=>(sgD p.2).bind fun r=>(rv1 r).map fun q=>((p.1.1,q.1,0),q.2):=rfl
theorem uu_ (l:List UInt8):rvS l 3=(rvS l 2).bind fun p=>(sgD p.2).bind fun r=>(rv1 r).map fun q=>((p.1.1,p.1.2.1,q.1),q.2):=rfl
theorem vI_ {l:List UInt8} {n:Int} (h:ld 9999 l=(n,k)) (hk:0 < k):rv1 l=some (n,l.drop k):=by rw [rv1,h,if_pos hk]
theorem rO_ {l:List UInt8} {n:Int} (h:ld 9999 l=(n,k)) (hk:¬ 0 < k):rv1 l=none:=by rw [rv1,h,if_neg hk]
theorem xd_ {l:List UInt8} (hi:i≤3) (h:rvS l i=none):rvS l 3=none:=by
 have h4:i=0∨i=1∨i=2∨i=3:=by omega
 rcases h4 with rfl | rfl | rfl | rfl
 ·rw [nt_] at h; cases h
 ·rw [uu_,uv_,h]; rfl
 ·rw [uu_,h]; rfl
 ·exact h
theorem t1_ (h:s.size=0):sgD (bl s)=none:=by
 have:bl s=[]:=List.length_eq_zero_iff.1 (by rw [zF_]; exact h)
 rw [this]; rfl
theorem vn_ (h:0 < s.size):sgD (bl s)=if (s[0]'h).toNat=46 then some ((bl s).drop 1) else none:=by
 have:=yy_ s 0 h
 rw [List.drop_zero] at this
 rw [this]
 rfl
theorem z2_ {o o':Nat} (h:W.cell? ⟨g,o,none⟩=some v) (hne:o≠o'):(W.setCell ⟨g,o',none⟩ u).cell? ⟨g,o,none⟩=some v:=by
 rw [World.cell?_setCell_other _ _ _ _ (fun e=>by cases e; exact hne rfl)]
 exact h
def RVI (w wr:World) (g:Nat) (s:ByteArray) (x y z:Int):Prop:=(wr.cell? ⟨w.heap.size,0,none⟩=some (.func (.func 219) #[] #[.pointer (some ⟨g,0,none⟩)])∧wr.cell? ⟨w.heap.size,1,none⟩=some (.func (.func 220) #[] #[.pointer (some ⟨g,0,none⟩)]))∧(wr.cell? ⟨w.heap.size+1,0,none⟩=some (.int .i64 0)∧wr.cell? ⟨w.heap.size+1,1,none⟩=some (.int .i64 0)∧wr.cell? ⟨w.heap.size+1,2,none⟩=some (.int .i64 0))∧(wr.frozen? ⟨w.heap.size+1,0,none⟩=false∧wr.frozen? ⟨w.heap.size+1,1,none⟩=false∧wr.frozen? ⟨w.heap.size+1,2,none⟩=false)∧(wr.cell? ⟨w.heap.size+1+1,0,none⟩=some (.int .i64 x)∧wr.cell? ⟨w.heap.size+1+1,1,none⟩=some (.int .i64 y)∧wr.cell? ⟨w.heap.size+1+1,2,none⟩=some (.int .i64 z))∧(wr.frozen? ⟨w.heap.size+1+1,0,none⟩=false∧wr.frozen? ⟨w.heap.size+1+1,1,none⟩=false∧wr.frozen? ⟨w.heap.size+1+1,2,none⟩=false)∧Left wr g s∧w.grownBy wr (some g)∧w.heap.size+1+1 < wr.heap.size
theorem RVI.grown {wr:World} (h:RVI w wr g s x y z) (hg:g < w.heap.size) (hG:wr.grownBy wr' (some g)) (hL:Left wr' g s'):RVI w wr' g s' x y z:=by
 obtain ⟨⟨a,b⟩,⟨c0,c1,c2⟩,⟨q0,q1,q2⟩,⟨v0,v1,v2⟩,⟨p0,p1,p2⟩,_,gr,hz⟩:=h
 exact ⟨⟨zl_ hG a (by omega),zl_ hG b (by omega)⟩,⟨zl_ hG c0 (by omega),zl_ hG c1 (by omega),zl_ hG c2 (by omega)⟩,⟨zC_ hG q0 (by omega) (by omega),zC_ hG q1 (by omega) (by omega),zC_ hG q2 (by omega) (by omega)⟩,⟨zl_ hG v0 (by omega),zl_ hG v1 (by omega),zl_ hG v2 (by omega)⟩,⟨zC_ hG p0 (by omega) (by omega),zC_ hG p1 (by omega) (by omega),zC_ hG p2 (by omega) (by omega)⟩,hL,zW_ gr hG,Nat.lt_of_lt_of_le hz hG.size⟩
theorem RVI.set0 {wr:World} {n:Int} (h:RVI w wr g s x y z) (hg:g < w.heap.size):RVI w (wr.setCell ⟨w.heap.size+1+1,0,none⟩ (.int .i64 n)) g s n y z:=
 ⟨⟨zf_ h.1.1 (by omega),zf_ h.1.2 (by omega)⟩,⟨zf_ h.2.1.1 (by omega),zf_ h.2.1.2.1 (by omega),zf_ h.2.1.2.2 (by omega)⟩,⟨by rw [World.frozen?_setCell]; exact h.2.2.1.1,by rw [World.frozen?_setCell]; exact h.2.2.1.2.1,by rw [World.frozen?_setCell]; exact h.2.2.1.2.2⟩,⟨zI_ h.2.2.2.1.1,z2_ h.2.2.2.1.2.1 (by omega),z2_ h.2.2.2.1.2.2 (by omega)⟩,⟨by rw [World.frozen?_setCell]; exact h.2.2.2.2.1.1,by rw [World.frozen?_setCell]; exact h.2.2.2.2.1.2.1,by rw [World.frozen?_setCell]; exact h.2.2.2.2.1.2.2⟩,⟨zf_ h.2.2.2.2.2.1.1 (by omega),by rw [World.frozen?_setCell]; exact h.2.2.2.2.2.1.2⟩,zD_ h.2.2.2.2.2.2.1 (by omega),by simpa [World.setCell] using h.2.2.2.2.2.2.2⟩
theorem RVI.set1 {wr:World} {n:Int} (h:RVI w wr g s x y z) (hg:g < w.heap.size):RVI w (wr.setCell ⟨w.heap.size+1+1,1,none⟩ (.int .i64 n)) g s x n z:=
 ⟨⟨zf_ h.1.1 (by omega),zf_ h.1.2 (by omega)⟩,⟨zf_ h.2.1.1 (by omega),zf_ h.2.1.2.1 (by omega),zf_ h.2.1.2.2 (by omega)⟩,⟨by rw [World.frozen?_setCell]; exact h.2.2.1.1,by rw [World.frozen?_setCell]; exact h.2.2.1.2.1,by rw [World.frozen?_setCell]; exact h.2.2.1.2.2⟩,⟨z2_ h.2.2.2.1.1 (by omega),zI_ h.2.2.2.1.2.1,z2_ h.2.2.2.1.2.2 (by omega)⟩,⟨by rw [World.frozen?_setCell]; exact h.2.2.2.2.1.1,by rw [World.frozen?_setCell]; exact h.2.2.2.2.1.2.1,by rw [World.frozen?_setCell]; exact h.2.2.2.2.1.2.2⟩,⟨zf_ h.2.2.2.2.2.1.1 (by omega),by rw [World.frozen?_setCell]; exact h.2.2.2.2.2.1.2⟩,zD_ h.2.2.2.2.2.2.1 (by omega),by simpa [World.setCell] using h.2.2.2.2.2.2.2⟩
theorem RVI.set2 {wr:World} {n:Int} (h:RVI w wr g s x y z) (hg:g < w.heap.size):RVI w (wr.setCell ⟨w.heap.size+1+1,2,none⟩ (.int .i64 n)) g s x y n:=
 ⟨⟨zf_ h.1.1 (by omega),zf_ h.1.2 (by omega)⟩,⟨zf_ h.2.1.1 (by omega),zf_ h.2.1.2.1 (by omega),zf_ h.2.1.2.2 (by omega)⟩,⟨by rw [World.frozen?_setCell]; exact h.2.2.1.1,by rw [World.frozen?_setCell]; exact h.2.2.1.2.1,by rw [World.frozen?_setCell]; exact h.2.2.1.2.2⟩,⟨z2_ h.2.2.2.1.1 (by omega),z2_ h.2.2.2.1.2.1 (by omega),zI_ h.2.2.2.1.2.2⟩,⟨by rw [World.frozen?_setCell]; exact h.2.2.2.2.1.1,by rw [World.frozen?_setCell]; exact h.2.2.2.2.1.2.1,by rw [World.frozen?_setCell]; exact h.2.2.2.2.1.2.2⟩,⟨zf_ h.2.2.2.2.2.1.1 (by omega),by rw [World.frozen?_setCell]; exact h.2.2.2.2.2.1.2⟩,zD_ h.2.2.2.2.2.2.1 (by omega),by simpa [World.setCell] using h.2.2.2.2.2.2.2⟩
theorem qf_ {o2 o3:Nat} {t:Value} (h:Left w g s) (hne:g≠b):Left (((w.setCell ⟨b,o1,none⟩ u).setCell ⟨b,o2,none⟩ v).setCell ⟨b,o3,none⟩ t) g s:=⟨zf_ (zf_ (zf_ h.1 hne) hne) hne,by rw [World.frozen?_setCell,World.frozen?_setCell,World.frozen?_setCell]; exact h.2⟩
theorem nv_ {l r:List UInt8} (h:rvS l 1=some ((x,y,z),r)):y=0∧z=0:=by
 rw [rN_] at h
 cases hq:rv1 l with
 | none=>rw [hq] at h; cases h
 | some q=>rw [hq] at h; simp at h; exact ⟨h.1.2.1.symm,h.1.2.2.symm⟩
theorem nu_ {l r:List UInt8} (h:rvS l 2=some ((x,y,z),r)):z=0:=by
 rw [uv_] at h
 cases hq:rvS l 1 with
 | none=>rw [hq] at h; cases h
 | some q=>
  rw [hq] at h
  simp only [Option.bind_some] at h
  cases hr:sgD q.2 with
  | none=>rw [hr] at h; cases h
  | some t=>
   rw [hr] at h
   simp only [Option.bind_some] at h
   cases hv:rv1 t with
   | none=>rw [hv] at h; cases h
   | some v=>rw [hv] at h; simp at h; exact h.1.2.2.symm
def RvP (w:World) (g:Nat) (l:List UInt8) (e:Ending) (w':World):Prop:=(∃ x y z rest,rvS l 3=some ((x,y,z),rest)∧e=.returned (.tuple #[.agg #[.int .i64 x,.int .i64 y,.int .i64 z],.bool true])∧∃ s',Left w' g s'∧bl s'=rest∧w.grownBy w' (some g))∨(rvS l 3=none∧e=.returned (.tuple #[.agg #[.int .i64 0,.int .i64 0,.int .i64 0],.bool false])∧w.grownBy w' (some g))
theorem sW_ (g:Nat) (s:ByteArray) (w:World) (hg:g < w.heap.size) (hL0:Left w g s) (hs:s.size≤65536) :
  Calls Tryz.prog 216 #[.agg #[.func (.func 219) #[] #[.pointer (some ⟨g,0,none⟩)],.func (.func 220) #[] #[.pointer (some ⟨g,0,none⟩)],.func (.func 222) #[] #[.pointer (some ⟨g,0,none⟩)]]] w fun e w'=>RvP w g (bl s) e w':=by
 have B2:Below w.heap.size w (((w.alloc (.cells #[.func (.func 219) #[] #[.pointer (some ⟨g,0,none⟩)],.func (.func 220) #[] #[.pointer (some ⟨g,0,none⟩)],.func (.func 222) #[] #[.pointer (some ⟨g,0,none⟩)]] 194)).alloc (.cells #[.int .i64 0,.int .i64 0,.int .i64 0] 35)).alloc (.cells #[.int .i64 0,.int .i64 0,.int .i64 0] 35)):=((zb_ _ _).trans ((zb_ _ _).mono (by simp))).trans ((zb_ _ _).mono (by simp; omega))
 have RV0:Hid (RVI w (((w.alloc (.cells #[.func (.func 219) #[] #[.pointer (some ⟨g,0,none⟩)],.func (.func 220) #[] #[.pointer (some ⟨g,0,none⟩)],.func (.func 222) #[] #[.pointer (some ⟨g,0,none⟩)]] 194)).alloc (.cells #[.int .i64 0,.int .i64 0,.int .i64 0] 35)).alloc (.cells #[.int .i64 0,.int .i64 0,.int .i64 0] 35)) g s 0 0 0):=⟨⟨by go_simp,by go_simp⟩,⟨by go_simp,by go_simp,by go_simp⟩,⟨by go_simp,by go_simp,by go_simp⟩,⟨by go_simp,by go_simp,by go_simp⟩,⟨by go_simp,by go_simp,by go_simp⟩,zt_ hL0 B2 hg,z3_ B2,by simp⟩
 clear B2 hL0
 go_enter Tryz.func216,Tryz.ntmps216
 go_wp2
 generalize (((w.alloc (.cells #[.func (.func 219) #[] #[.pointer (some ⟨g,0,none⟩)],.func (.func 220) #[] #[.pointer (some ⟨g,0,none⟩)],.func (.func 222) #[] #[.pointer (some ⟨g,0,none⟩)]] 194)).alloc (.cells #[.int .i64 0,.int .i64 0,.int .i64 0] 35)).alloc (.cells #[.int .i64 0,.int .i64 0,.int .i64 0] 35))=W2 at *
 go_loopw [8] (fun s8 wr=>∃ (i:Nat) (si:ByteArray) (x y z:Int),i≤3∧s8=.int .i64 i∧RVI w wr g si x y z∧rvS (bl s) i=some ((x,y,z),bl si)∧si.size≤65536) (fun s8 _=>3 - (intOf s8).toNat)
 case atStart=>exact ⟨0,s,0,0,0,by omega,rfl,RV0.out,rfl,hs⟩
 case round=>
  obtain ⟨i,si,x,y,z,hi,rfl,hRV,hS0,hsi⟩:=hrel
  have hp4:i=0∨i=1∨i=2∨i=3:=by omega
  rcases hp4 with rfl | rfl | rfl | rfl
  ·simp only [nt_,Option.some.injEq,Prod.mk.injEq] at hS0
   obtain ⟨⟨rfl,rfl,rfl⟩,hz0'⟩:=hS0
   have hz0:Hid (bl s=bl si):=hz0'
   have RV:=hm_ hRV
   clear hRV hz0' RV0
   obtain ⟨n,k,hnk0⟩:∃ n k,ld 9999 (bl si)=(n,k):=⟨_,_,rfl⟩
   have hnk:=hm_ hnk0
   clear hnk0
   have f1:=RV.out.1.2
   go_wp2_with fail
   refine (yr_ g si 9999 n k hnk _ RV.out.2.2.2.2.2.1 (Nat.lt_of_lt_of_le hg RV.out.2.2.2.2.2.2.1.size) (by omega) (by omega) (by omega)).mono ?_
   rintro e w4 ⟨rfl,hL4,hg4⟩
   have RV4:Hid (RVI w w4 g (si.extract k si.size) 0 0 0):=RV.out.grown hg hg4 hL4
   have hk1:Hid (k≤si.size):=vf_ hnk (by decide)
   clear f1 hL4 hg4
   by_cases hk:0 < k
   ·have hkd:decide (0 < k)=true:=decide_eq_true hk
    rw [hkd]
    have HS1:Hid (rvS (bl s) 1=some ((n,0,0),bl (si.extract k si.size))):=by
     show _=_
     rw [xc_ _ _ hk1.out]
     rw [rN_,hz0.out,vI_ hnk.out hk]; rfl
    obtain ⟨_,_,_,⟨v0,v1,v2⟩,⟨p0,p1,p2⟩,_,_,hz⟩:=RV4.out
    have RV5:Hid (RVI w (w4.setCell ⟨w.heap.size+1+1,0,none⟩ (.int .i64 n)) g (si.extract k si.size) n 0 0):=RV4.out.set0 hg
    have hsz:Hid ((si.extract k si.size).size≤65536):=by show _≤_; rw [yv_ _ _ hk1.out]; omega
    go_wp2
    go_roundw
    case rel=>exact ⟨1,_,n,0,0,by omega,by go_num,RV5.out,HS1.out,hsz.out⟩
    case measure=>simp [intOf]
   ·have hkd:decide (0 < k)=false:=decide_eq_false hk
    rw [hkd]
    have HF:Hid (rvS (bl s) 3=none):=xd_ (i:=1) (by omega) (by rw [rN_,hz0.out,rO_ hnk.out hk]; rfl)
    obtain ⟨⟨f0,f1⟩,⟨r0,r1,r2⟩,⟨q0,q1,q2⟩,_,_,_,hG,hz⟩:=RV4.out
    have hG':Hid (w.grownBy _ (some g)):=hG
    clear f0 f1 hG
    go_wp2
    (try rw [Exit.noGoto_ret])
    refine bodyPost_ret (v:=.tuple #[.agg #[.int .i64 0,.int .i64 0,.int .i64 0],.bool false]) (by simp [results,Tryz.results216,go_sem,r0,r1,r2,q0,q1,q2]) rfl (.inr ⟨HF.out,rfl,zD_ (zD_ (zD_ hG'.out (by omega)) (by omega)) (by omega)⟩)
  ·obtain ⟨rfl,rfl⟩:=nv_ hS0
   have HS:=hm_ hS0
   have RV:=hm_ hRV
   clear hRV hS0 RV0
   have f0:=RV.out.1.1
   by_cases hs0:si.size=0
   ·go_wp2_with fail
    refine (yu_ g si 46 _ RV.out.2.2.2.2.2.1.1 hs0).mono ?_
    rintro e w' ⟨rfl,rfl⟩
    clear f0
    have HF:Hid (rvS (bl s) 3=none):=xd_ (i:=2) (by omega) (by rw [uv_,HS.out]; simp only [Option.bind_some]; rw [t1_ hs0]; rfl)
    obtain ⟨⟨f0,f1⟩,⟨r0,r1,r2⟩,⟨q0,q1,q2⟩,_,_,_,hG,hz⟩:=RV.out
    have hG':Hid (w.grownBy _ (some g)):=hG
    clear f0 f1 hG
    go_wp2
    (try rw [Exit.noGoto_ret])
    refine bodyPost_ret (v:=.tuple #[.agg #[.int .i64 0,.int .i64 0,.int .i64 0],.bool false]) (by simp [results,Tryz.results216,go_sem,r0,r1,r2,q0,q1,q2]) rfl (.inr ⟨HF.out,rfl,zD_ (zD_ (zD_ hG'.out (by omega)) (by omega)) (by omega)⟩)
   have hs1:0 < si.size:=by omega
   by_cases hc:(si[0]'hs1).toNat=46
   ·go_wp2_with fail
    refine (yS_ g si 46 _ RV.out.2.2.2.2.2.1.1 RV.out.2.2.2.2.2.1.2 hs1 hc).mono ?_
    rintro e W3 ⟨rfl,hW3⟩
    have RV3:Hid (RVI w W3 g (si.extract 1 si.size) x 0 0):=by
     rw [hW3]
     exact RV.out.grown hg (wa_ _ _ _ _) (xJ_ RV.out.2.2.2.2.2.1)
    have hss:(si.extract 1 si.size).size≤65536:=by rw [yv_ si 1 hs1]; omega
    clear hW3 f0
    obtain ⟨n,k,hnk0⟩:∃ n k,ld 9999 (bl (si.extract 1 si.size))=(n,k):=⟨_,_,rfl⟩
    have hnk:=hm_ hnk0
    clear hnk0
    have f1:=RV3.out.1.2
    go_wp2_with fail
    refine (yr_ g (si.extract 1 si.size) 9999 n k hnk _ RV3.out.2.2.2.2.2.1 (Nat.lt_of_lt_of_le hg RV3.out.2.2.2.2.2.2.1.size) (by omega) (by omega) (by omega)).mono ?_
    rintro e w4 ⟨rfl,hL4,hg4⟩
    have RV4:Hid (RVI w w4 g ((si.extract 1 si.size).extract k (si.extract 1 si.size).size) x 0 0):=RV3.out.grown hg hg4 hL4
    have hk1:Hid (k≤(si.extract 1 si.size).size):=vf_ hnk (by decide)
    clear f1 hL4 hg4
    by_cases hk:0 < k
    ·have hkd:decide (0 < k)=true:=decide_eq_true hk
     rw [hkd]
     have HS1:Hid (rvS (bl s) 2=some ((x,n,0),bl ((si.extract 1 si.size).extract k (si.extract 1 si.size).size))):=by
      show _=_
      rw [xc_ _ _ hk1.out]
      rw [uv_,HS.out]; simp only [Option.bind_some]; rw [vn_ hs1,if_pos hc,← xc_ si 1 hs1]; simp only [Option.bind_some]; rw [vI_ hnk.out hk]; rfl
     obtain ⟨_,_,_,⟨v0,v1,v2⟩,⟨p0,p1,p2⟩,_,_,hz⟩:=RV4.out
     have RV5:Hid (RVI w (w4.setCell ⟨w.heap.size+1+1,1,none⟩ (.int .i64 n)) g ((si.extract 1 si.size).extract k (si.extract 1 si.size).size) x n 0):=RV4.out.set1 hg
     have hsz:Hid (((si.extract 1 si.size).extract k (si.extract 1 si.size).size).size≤65536):=by show _≤_; rw [yv_ _ _ hk1.out]; omega
     go_wp2
     go_roundw
     case rel=>exact ⟨2,_,x,n,0,by omega,by go_num,RV5.out,HS1.out,hsz.out⟩
     case measure=>simp [intOf]
    ·have hkd:decide (0 < k)=false:=decide_eq_false hk
     rw [hkd]
     have HF:Hid (rvS (bl s) 3=none):=xd_ (i:=2) (by omega) (by rw [uv_,HS.out]; simp only [Option.bind_some]; rw [vn_ hs1,if_pos hc,← xc_ si 1 hs1]; simp only [Option.bind_some]; rw [rO_ hnk.out hk]; rfl)
     obtain ⟨⟨f0,f1⟩,⟨r0,r1,r2⟩,⟨q0,q1,q2⟩,_,_,_,hG,hz⟩:=RV4.out
     have hG':Hid (w.grownBy _ (some g)):=hG
     clear f0 f1 hG
     go_wp2
     (try rw [Exit.noGoto_ret])
     refine bodyPost_ret (v:=.tuple #[.agg #[.int .i64 0,.int .i64 0,.int .i64 0],.bool false]) (by simp [results,Tryz.results216,go_sem,r0,r1,r2,q0,q1,q2]) rfl (.inr ⟨HF.out,rfl,zD_ (zD_ (zD_ hG'.out (by omega)) (by omega)) (by omega)⟩)
   ·go_wp2_with fail
    refine (yb_ g si 46 _ RV.out.2.2.2.2.2.1.1 hs1 hc).mono ?_
    rintro e w' ⟨rfl,rfl⟩
    clear f0
    have HF:Hid (rvS (bl s) 3=none):=xd_ (i:=2) (by omega) (by rw [uv_,HS.out]; simp only [Option.bind_some]; rw [vn_ hs1,if_neg hc]; rfl)
    obtain ⟨⟨f0,f1⟩,⟨r0,r1,r2⟩,⟨q0,q1,q2⟩,_,_,_,hG,hz⟩:=RV.out
    have hG':Hid (w.grownBy _ (some g)):=hG
    clear f0 f1 hG
    go_wp2
    (try rw [Exit.noGoto_ret])
    refine bodyPost_ret (v:=.tuple #[.agg #[.int .i64 0,.int .i64 0,.int .i64 0],.bool false]) (by simp [results,Tryz.results216,go_sem,r0,r1,r2,q0,q1,q2]) rfl (.inr ⟨HF.out,rfl,zD_ (zD_ (zD_ hG'.out (by omega)) (by omega)) (by omega)⟩)
  ·obtain rfl:=nu_ hS0
   have HS:=hm_ hS0
   have RV:=hm_ hRV
   clear hRV hS0 RV0
   have f0:=RV.out.1.1
   by_cases hs0:si.size=0
   ·go_wp2_with fail
    refine (yu_ g si 46 _ RV.out.2.2.2.2.2.1.1 hs0).mono ?_
    rintro e w' ⟨rfl,rfl⟩
    clear f0
    have HF:Hid (rvS (bl s) 3=none):=xd_ (i:=3) (by omega) (by rw [uu_,HS.out]; simp only [Option.bind_some]; rw [t1_ hs0]; rfl)
    obtain ⟨⟨f0,f1⟩,⟨r0,r1,r2⟩,⟨q0,q1,q2⟩,_,_,_,hG,hz⟩:=RV.out
    have hG':Hid (w.grownBy _ (some g)):=hG
    clear f0 f1 hG
    go_wp2
    (try rw [Exit.noGoto_ret])
    refine bodyPost_ret (v:=.tuple #[.agg #[.int .i64 0,.int .i64 0,.int .i64 0],.bool false]) (by simp [results,Tryz.results216,go_sem,r0,r1,r2,q0,q1,q2]) rfl (.inr ⟨HF.out,rfl,zD_ (zD_ (zD_ hG'.out (by omega)) (by omega)) (by omega)⟩)
   have hs1:0 < si.size:=by omega
   by_cases hc:(si[0]'hs1).toNat=46
   ·go_wp2_with fail
    refine (yS_ g si 46 _ RV.out.2.2.2.2.2.1.1 RV.out.2.2.2.2.2.1.2 hs1 hc).mono ?_
    rintro e W3 ⟨rfl,hW3⟩
    have RV3:Hid (RVI w W3 g (si.extract 1 si.size) x y 0):=by
     rw [hW3]
     exact RV.out.grown hg (wa_ _ _ _ _) (xJ_ RV.out.2.2.2.2.2.1)
    have hss:(si.extract 1 si.size).size≤65536:=by rw [yv_ si 1 hs1]; omega
    clear hW3 f0
    obtain ⟨n,k,hnk0⟩:∃ n k,ld 9999 (bl (si.extract 1 si.size))=(n,k):=⟨_,_,rfl⟩
    have hnk:=hm_ hnk0
    clear hnk0
    have f1:=RV3.out.1.2
    go_wp2_with fail
    refine (yr_ g (si.extract 1 si.size) 9999 n k hnk _ RV3.out.2.2.2.2.2.1 (Nat.lt_of_lt_of_le hg RV3.out.2.2.2.2.2.2.1.size) (by omega) (by omega) (by omega)).mono ?_
    rintro e w4 ⟨rfl,hL4,hg4⟩
    have RV4:Hid (RVI w w4 g ((si.extract 1 si.size).extract k (si.extract 1 si.size).size) x y 0):=RV3.out.grown hg hg4 hL4
    have hk1:Hid (k≤(si.extract 1 si.size).size):=vf_ hnk (by decide)
    clear f1 hL4 hg4
    by_cases hk:0 < k
    ·have hkd:decide (0 < k)=true:=decide_eq_true hk
     rw [hkd]
     have HS1:Hid (rvS (bl s) 3=some ((x,y,n),bl ((si.extract 1 si.size).extract k (si.extract 1 si.size).size))):=by
      show _=_
      rw [xc_ _ _ hk1.out]
      rw [uu_,HS.out]; simp only [Option.bind_some]; rw [vn_ hs1,if_pos hc,← xc_ si 1 hs1]; simp only [Option.bind_some]; rw [vI_ hnk.out hk]; rfl
     obtain ⟨_,_,_,⟨v0,v1,v2⟩,⟨p0,p1,p2⟩,_,_,hz⟩:=RV4.out
     have RV5:Hid (RVI w (w4.setCell ⟨w.heap.size+1+1,2,none⟩ (.int .i64 n)) g ((si.extract 1 si.size).extract k (si.extract 1 si.size).size) x y n):=RV4.out.set2 hg
     have hsz:Hid (((si.extract 1 si.size).extract k (si.extract 1 si.size).size).size≤65536):=by show _≤_; rw [yv_ _ _ hk1.out]; omega
     go_wp2
     go_roundw
     case rel=>exact ⟨3,_,x,y,n,by omega,by go_num,RV5.out,HS1.out,hsz.out⟩
     case measure=>simp [intOf]
    ·have hkd:decide (0 < k)=false:=decide_eq_false hk
     rw [hkd]
     have HF:Hid (rvS (bl s) 3=none):=xd_ (i:=3) (by omega) (by rw [uu_,HS.out]; simp only [Option.bind_some]; rw [vn_ hs1,if_pos hc,← xc_ si 1 hs1]; simp only [Option.bind_some]; rw [rO_ hnk.out hk]; rfl)
     obtain ⟨⟨f0,f1⟩,⟨r0,r1,r2⟩,⟨q0,q1,q2⟩,_,_,_,hG,hz⟩:=RV4.out
     have hG':Hid (w.grownBy _ (some g)):=hG
     clear f0 f1 hG
     go_wp2
     (try rw [Exit.noGoto_ret])
     refine bodyPost_ret (v:=.tuple #[.agg #[.int .i64 0,.int .i64 0,.int .i64 0],.bool false]) (by simp [results,Tryz.results216,go_sem,r0,r1,r2,q0,q1,q2]) rfl (.inr ⟨HF.out,rfl,zD_ (zD_ (zD_ hG'.out (by omega)) (by omega)) (by omega)⟩)
   ·go_wp2_with fail
    refine (yb_ g si 46 _ RV.out.2.2.2.2.2.1.1 hs1 hc).mono ?_
    rintro e w' ⟨rfl,rfl⟩
    clear f0
    have HF:Hid (rvS (bl s) 3=none):=xd_ (i:=3) (by omega) (by rw [uu_,HS.out]; simp only [Option.bind_some]; rw [vn_ hs1,if_neg hc]; rfl)
    obtain ⟨⟨f0,f1⟩,⟨r0,r1,r2⟩,⟨q0,q1,q2⟩,_,_,_,hG,hz⟩:=RV.out
    have hG':Hid (w.grownBy _ (some g)):=hG
    clear f0 f1 hG
    go_wp2
    (try rw [Exit.noGoto_ret])
    refine bodyPost_ret (v:=.tuple #[.agg #[.int .i64 0,.int .i64 0,.int .i64 0],.bool false]) (by simp [results,Tryz.results216,go_sem,r0,r1,r2,q0,q1,q2]) rfl (.inr ⟨HF.out,rfl,zD_ (zD_ (zD_ hG'.out (by omega)) (by omega)) (by omega)⟩)
  ·have HS:=hm_ hS0
   obtain ⟨⟨f0,f1⟩,⟨r0,r1,r2⟩,⟨q0,q1,q2⟩,⟨v0,v1,v2⟩,_,hL,hG,hz⟩:=hRV
   have hL':Hid (Left wr g si):=hL
   have hG':Hid (w.grownBy wr (some g)):=hG
   clear f0 f1 hG hL hS0 RV0
   go_wp2
   (try rw [Exit.noGoto_ret])
   refine bodyPost_ret (v:=.tuple #[.agg #[.int .i64 x,.int .i64 y,.int .i64 z],.bool true]) (by simp [results,Tryz.results216,go_sem,r0,r1,r2,q0,q1,q2]) rfl (.inl ⟨x,y,z,_,HS.out,rfl,si,qf_ hL'.out (by omega),rfl,zD_ (zD_ (zD_ hG'.out (by omega)) (by omega)) (by omega)⟩)
end
section
variable {m:List Sib} {rest:List UInt8} {x y z:Int}
theorem wV_ {a:List UInt8} (h:Num a) (hb:nv a≤9999):a.length≤18:=by
 rcases Nat.lt_or_ge a.length 6 with q | q
 ·omega
 ·have:=vR_ h q; omega
def Free (c:UInt8) (l:List UInt8):Prop:=∀ d ∈ l,d≠c
def tl:List (List UInt8)→List UInt8
 | []=>[]
 | p :: ps=>124 :: (p++tl ps)
theorem tJ_:∀ (p:List UInt8) (ps:List (List UInt8)),glue 124 (p :: ps)=p++tl ps
 | p,[]=>by simp [glue,tl]
 | p,q :: ps=>by rw [glue,tJ_ q ps]; rfl
theorem w9_ (c:UInt8):∀ (l:List UInt8),∀ p ∈ cutL c l,Free c p
 | [],p,hp=>by simp [cutL] at hp; subst hp; intro d hd; simp at hd
 | d :: l,p,hp=>by
  rw [cutL] at hp
  by_cases h:d=c
  ·rw [if_pos h] at hp
   rcases List.mem_cons.1 hp with e | e
   ·subst e; intro d hd; simp at hd
   ·exact w9_ c l p e
  ·rw [if_neg h] at hp
   cases hc:cutL c l with
   | nil=>exact (w8_ c l hc).elim
   | cons q qs=>
    rw [hc] at hp
    have ih:=w9_ c l
    rw [hc] at ih
    rcases List.mem_cons.1 hp with e | e
    ·subst e
     intro x hx
     rcases List.mem_cons.1 hx with e' | e'
     ·subst e'; exact h
     ·exact ih q (by simp) x e'
    ·exact ih p (by simp [e])
theorem u8_ (ps:List (List UInt8)):tl ps=[]∨∃ q,tl ps=124 :: q:=by
 cases ps with
 | nil=>exact .inl rfl
 | cons p ps=>exact .inr ⟨_,rfl⟩
theorem oy_ (t:List UInt8):NoD (124 :: t):=fun c hc=>by
 simp at hc
 subst hc
 decide
theorem r9_ (ps:List (List UInt8)):NoD (tl ps):=by
 rcases u8_ ps with h | ⟨q,h⟩
 ·rw [h]; exact ox_
 ·rw [h]; exact oy_ q
theorem vm_ {p C tail:List UInt8} (hC:Free 124 C) (ht:tail=[]∨∃ q,tail=124 :: q) (h:p++tail=C++rest):∃ q,p=C++q∧rest=q++tail:=by
 rcases List.append_eq_append_iff.1 h with ⟨a',h1,h2⟩ | ⟨c',h1,h2⟩
 ·cases a' with
  | nil=>exact ⟨[],by simpa using h1.symm,by simpa using h2.symm⟩
  | cons d a'=>
   exfalso
   rcases ht with e | ⟨q,e⟩
   ·rw [e] at h2; simp at h2
   ·rw [e] at h2
    simp at h2
    exact hC d (by rw [h1]; simp) h2.1.symm
 ·exact ⟨c',h1,h2⟩
theorem yB_ {a:List UInt8} (h:Num a) (c:UInt8) (hc:dg c=false):Free c a:=fun d hd e=>by
 have:=h.2.1 d hd
 rw [e,hc] at this
 cases this
theorem q4_ {l a b c:List UInt8} (h:VvT l a b c):Free 124 l:=by
 rw [h.1]
 intro d hd
 simp only [List.mem_append,List.mem_cons] at hd
 rcases hd with h1 | h1 | h1 | h1 | h1
 ·exact yB_ h.2.1.1 124 (by decide) d h1
 ·subst h1; decide
 ·exact yB_ h.2.2.1.1 124 (by decide) d h1
 ·subst h1; decide
 ·exact yB_ h.2.2.2.1 124 (by decide) d h1
theorem th_ {a t:List UInt8} (h:Num a) (hb:nv a≤9999) (ht:NoD t):rv1 (a++t)=some (nv a,t):=by
 have h1:=qg_ (most:=9999) h (by omega) hb ht
 have h2:0 < a.length:=List.length_pos_iff.2 h.1
 rw [vI_ h1 h2]
 simp
theorem ti_ {l:List UInt8} {n:Int} (h:rv1 l=some (n,rest)):∃ a,l=a++rest∧Num a∧nv a≤9999∧n=nv a∧NoD rest:=by
 unfold rv1 at h
 split at h
 ·next hk=>
  have h1:=qh_ (most:=9999) (l:=l) (m:=(ld 9999 l).1) (k:=(ld 9999 l).2) rfl hk
  cases h
  exact ⟨l.take (ld 9999 l).2,(List.take_append_drop _ _).symm,h1.2.1,h1.2.2.2.1,h1.2.2.1,h1.2.2.2.2⟩
 ·cases h
theorem sgD_pre (t:List UInt8):sgD (46 :: t)=some t:=rfl
theorem rG_ {l:List UInt8} (h:sgD l=some rest):l=46 :: rest:=by
 cases l with
 | nil=>cases h
 | cons c r=>
  rw [sgD] at h
  by_cases hc:c.toNat=46
  ·rw [if_pos hc] at h
   have:c=46:=UInt8.toNat_inj.1 (by simpa using hc)
   rw [this,Option.some.inj h]
  ·rw [if_neg hc] at h
   cases h
theorem rL_ {p a b c t:List UInt8} (h:VvT p a b c) (ht:NoD t):rvS (p++t) 3=some ((nv a,nv b,nv c),t):=by
 have e1:p++t=a++46 :: (b++46 :: (c++t)):=by rw [h.1]; simp
 rw [uu_,uv_,rN_,e1,th_ h.2.1.1 h.2.1.2 (qa_ _)]
 simp only [Option.map_some,Option.bind_some,sgD_pre,th_ h.2.2.1.1 h.2.2.1.2 (qa_ _),th_ h.2.2.2.1 h.2.2.2.2 ht]
theorem rM_ {l:List UInt8} (h:rvS l 3=some ((x,y,z),rest)):∃ C a b c,l=C++rest∧VvT C a b c∧x=nv a∧y=nv b∧z=nv c∧NoD rest:=by
 rw [uu_,uv_,rN_] at h
 simp only [Option.bind_eq_some_iff,Option.map_eq_some_iff] at h
 obtain ⟨q,⟨q1,⟨q2,h1,rfl⟩,r1,h2,q3,h3,rfl⟩,r2,h4,q4,h5,h6⟩:=h
 simp only [Prod.mk.injEq] at h6
 obtain ⟨⟨rfl,rfl,rfl⟩,rfl⟩:=h6
 obtain ⟨a,ea,na,la,va,_⟩:=ti_ h1
 obtain ⟨b,eb,nb,lb,vb,_⟩:=ti_ h3
 obtain ⟨c,ec,nc,lc,vc,nd⟩:=ti_ h5
 have s1:=rG_ h2
 have s2:=rG_ h4
 simp only [] at s1 s2
 refine ⟨a++46 :: (b++46 :: c),a,b,c,?_,⟨rfl,⟨na,la⟩,⟨nb,lb⟩,⟨nc,lc⟩⟩,va,vb,vc,nd⟩
 rw [ea,s1,eb,s2,ec]
 simp
def dotR (l:List UInt8):Option ((Int × Int) × List UInt8):=if (rdR l).2.1=true then some ((rdR l).1,(rdR l).2.2) else none
theorem xV_ {C:List UInt8} (h:tdR C) (c:UInt8) (hc:dg c=false) (hl:¬ (97≤c.toNat∧c.toNat≤99)):Free c C:=by
 cases C with
 | nil=>exact h.elim
 | cons d r=>
  obtain ⟨h1,h2,_⟩:=h
  intro e he
  rcases List.mem_cons.1 he with q | q
  ·subst q; intro q; subst q; exact hl h1
  ·exact yB_ h2.1 c hc e q
theorem pO_ {l:List UInt8} {p n:Int} (h:dotR l=some ((p,n),rest)):∃ C,l=C++rest∧tdR C∧(tdV C).1=p∧(tdV C).2=n∧NoD rest:=by
 cases l with
 | nil=>simp [dotR,rdR] at h
 | cons c r=>
  unfold dotR rdR at h
  by_cases hc:97≤c.toNat∧c.toNat≤99
  ·simp only [if_pos hc] at h
   by_cases hk:0 < (ld 9999 r).2
   ·have h1:=qh_ (most:=9999) (l:=r) (m:=(ld 9999 r).1) (k:=(ld 9999 r).2) rfl hk
    simp only [hk,decide_true,Bool.true_and] at h
    split at h
    ·next hd=>
     simp only [Option.some.injEq,Prod.mk.injEq] at h
     obtain ⟨⟨rfl,rfl⟩,rfl⟩:=h
     refine ⟨c :: r.take (ld 9999 r).2,by simp,⟨hc,⟨h1.2.1,?_⟩,?_⟩,rfl,h1.2.2.1.symm,h1.2.2.2.2⟩
     ·exact wV_ h1.2.1 h1.2.2.2.1
     ·rw [← h1.2.2.1]; exact hd
    ·cases h
   ·simp [hk] at h
  ·simp [if_neg hc] at h
theorem sy_ {C t:List UInt8} (h:tdR C) (ht:NoD t):dotR (C++t)=some (tdV C,t):=by
 cases C with
 | nil=>exact h.elim
 | cons c r=>
  obtain ⟨h1,h2,h3⟩:=h
  have hb:nv r≤9999:=by
   have:=of_decide_eq_true h3
   omega
  have h4:=qg_ (most:=9999) h2.1 (by omega) hb ht
  have h5:0 < r.length:=List.length_pos_iff.2 h2.1.1
  unfold dotR
  simp only [List.cons_append,rdR,if_pos h1,h4,h5,decide_true,Bool.true_and,h3]
  simp [tdV]
def valR:List UInt8→Option ((Int × Bool) × List UInt8)
 | []=>none
 | d :: q=>if d.toNat=33 then some ((0,true),q) else if d.toNat=61 then (if 0 < (ld 999 q).2 then some (((ld 999 q).1,false),q.drop (ld 999 q).2) else none) else none
def sibR:List UInt8→Option (Sib × List UInt8)
 | []=>none
 | c :: r=>if c.toNat=124 then (dotR r).bind fun d=>(valR d.2).map fun v=>(⟨d.1.1,d.1.2,v.1.1,v.1.2⟩,v.2) else none
theorem xY_ (r:List UInt8):sibR (124 :: r)=(dotR r).bind fun d=>(valR d.2).map fun v=>(⟨d.1.1,d.1.2,v.1.1,v.1.2⟩,v.2):=by
 rw [sibR]
 exact if_pos rfl
theorem rF_ {c:UInt8} {r:List UInt8} (h:¬ c.toNat=124):sibR (c :: r)=none:=by
 rw [sibR]
 exact if_neg h
theorem wI_ (q:List UInt8):valR (33 :: q)=some ((0,true),q):=by
 rw [valR]
 exact if_pos rfl
theorem wH_ (q:List UInt8):valR (61 :: q)=if 0 < (ld 999 q).2 then some (((ld 999 q).1,false),q.drop (ld 999 q).2) else none:=by
 rw [valR,if_neg (by decide)]
 exact if_pos rfl
theorem rs_ {d:UInt8} {q:List UInt8} (h1:¬ d.toNat=33) (h2:¬ d.toNat=61):valR (d :: q)=none:=by
 rw [valR,if_neg h1,if_neg h2]
def SibS (p:List UInt8) (s:Sib):Prop:=(∃ C,p=C++[33]∧tdR C∧s=⟨(tdV C).1,(tdV C).2,0,true⟩)∨(∃ a b,p=a++61 :: b∧tdR a∧(Num b∧b.length≤18)∧s=⟨(tdV a).1,(tdV a).2,nv b,false⟩)
theorem p2_ {c:UInt8} (t:List UInt8) (h:dg c=false):NoD (c :: t):=fun d hd=>by
 simp at hd
 subst hd
 exact h
theorem pg_ {p t:List UInt8} {s:Sib} (h:SibS p s) (hv:s.v≤999) (ht:NoD t):sibR (124 :: (p++t))=some (s,t):=by
 rcases h with ⟨C,rfl,hC,rfl⟩ | ⟨a,b,rfl,ha,hb,rfl⟩
 ·have h1:C++[33]++t=C++33 :: t:=by simp
  rw [xY_,h1,sy_ hC (p2_ _ (by decide))]
  simp only [Option.bind_some,wI_,Option.map_some]
 ·have h1:a++61 :: b++t=a++61 :: (b++t):=by simp
  have h4:=qg_ (most:=999) hb.1 (by omega) hv ht
  have h5:0 < b.length:=List.length_pos_iff.2 hb.1.1
  rw [xY_,h1,sy_ ha (p2_ _ (by decide))]
  simp only [Option.bind_some,wH_,h4,if_pos h5,Option.map_some]
  simp
theorem us_ {l:List UInt8} {s:Sib} (h:sibR l=some (s,rest)):∃ p,l=124 :: (p++rest)∧SibS p s∧Free 124 p:=by
 cases l with
 | nil=>cases h
 | cons c r=>
  by_cases hc:c.toNat=124
  ·have hc':c=124:=UInt8.toNat_inj.1 (by simpa using hc)
   subst hc'
   rw [xY_] at h
   simp only [Option.bind_eq_some_iff,Option.map_eq_some_iff] at h
   obtain ⟨⟨⟨p,n⟩,r1⟩,hd,v,hv,e⟩:=h
   obtain ⟨C,e1,hC,e2,e3,_⟩:=pO_ hd
   cases r1 with
   | nil=>cases hv
   | cons d q=>
    by_cases h33:d.toNat=33
    ·have:d=33:=UInt8.toNat_inj.1 (by simpa using h33)
     subst this
     rw [wI_] at hv
     cases hv
     cases e
     refine ⟨C++[33],by rw [e1]; simp,.inl ⟨C,rfl,hC,by rw [e2,e3]⟩,?_⟩
     intro x hx
     rcases List.mem_append.1 hx with q1 | q1
     ·exact xV_ hC 124 (by decide) (by decide) x q1
     ·simp at q1; subst q1; decide
    ·by_cases h61:d.toNat=61
     ·have:d=61:=UInt8.toNat_inj.1 (by simpa using h61)
      subst this
      rw [wH_] at hv
      by_cases hk:0 < (ld 999 q).2
      ·have h1:=qh_ (most:=999) (l:=q) (m:=(ld 999 q).1) (k:=(ld 999 q).2) rfl hk
       rw [if_pos hk] at hv
       cases hv
       cases e
       refine ⟨C++61 :: q.take (ld 999 q).2,?_,.inr ⟨C,q.take (ld 999 q).2,rfl,hC,⟨h1.2.1,wV_ h1.2.1 (by have:=h1.2.2.2.1; omega)⟩,by rw [e2,e3,← h1.2.2.1]⟩,?_⟩
       ·rw [e1]; simp
       ·intro x hx
        simp only [List.mem_append,List.mem_cons] at hx
        rcases hx with q1 | q1 | q1
        ·exact xV_ hC 124 (by decide) (by decide) x q1
        ·subst q1; decide
        ·exact yB_ h1.2.1 124 (by decide) x q1
      ·rw [if_neg hk] at hv
       cases hv
     ·rw [rs_ h33 h61] at hv
      cases hv
  ·rw [rF_ hc] at h
   cases h
inductive SbsR:List UInt8→Option (List Sib)→Prop
 | nil:SbsR [] (some [])
 | no {l:List UInt8}:l≠[]→sibR l=none→SbsR l none
 | yes {l r:List UInt8} {s:Sib} {o:Option (List Sib)}:sibR l=some (s,r)→SbsR r o→SbsR l (o.map (s :: ·))
inductive SibsS:List (List UInt8)→List Sib→Prop
 | nil:SibsS [] []
 | cons {p:List UInt8} {ps:List (List UInt8)} {s:Sib} {m:List Sib}:SibS p s→SibsS ps m→SibsS (p :: ps) (s :: m)
theorem SbsR.det {l:List UInt8} {o:Option (List Sib)} (h:SbsR l o):∀ {o'},SbsR l o'→o=o':=by
 induction h with
 | nil=>intro o' h'; cases h' with
  | nil=>rfl
  | no h1 _=>exact (h1 rfl).elim
  | yes h1 _=>cases h1
 | no h1 h2=>intro o' h'; cases h' with
  | nil=>exact (h1 rfl).elim
  | no _ _=>rfl
  | yes h3 _=>rw [h2] at h3; cases h3
 | yes h1 h2 ih=>intro o' h'; cases h' with
  | nil=>cases h1
  | no _ h3=>rw [h1] at h3; cases h3
  | yes h3 h4=>
   rw [h1] at h3
   cases h3
   rw [ih h4]
theorem rH_:∀ {ps:List (List UInt8)} {m:List Sib},SibsS ps m→(∀ s ∈ m,s.v≤999)→SbsR (tl ps) (some m):=by
 intro ps m h
 induction h with
 | nil=>intro _; exact .nil
 | cons h1 h2 ih=>exact fun hv=>.yes (pg_ h1 (hv _ (by simp)) (r9_ _)) (ih (fun s hs=>hv s (List.mem_cons_of_mem _ hs)))
theorem vo_ {q t:List UInt8} (hq:q≠[]) (hf:Free 124 q) {m:List Sib}:¬ SbsR (q++t) (some m):=by
 intro h
 cases q with
 | nil=>exact hq rfl
 | cons d q=>
  have hd:¬ d.toNat=124:=fun e=>hf d (by simp) (UInt8.toNat_inj.1 (by simpa using e))
  generalize ho:some m=o at h
  cases h with
  | no _ _=>cases ho
  | yes h1 _=>rw [List.cons_append,rF_ hd] at h1; cases h1
theorem tZ_:∀ (ps:List (List UInt8)),(∀ p ∈ ps,Free 124 p)→∀ {m:List Sib},SbsR (tl ps) (some m)→SibsS ps m
 | [],_,m,h=>by
  have:=h.det SbsR.nil
  cases this
  exact .nil
 | p :: ps,hf,m,h=>by
  generalize ho:some m=o at h
  cases h with
  | no _ _=>cases ho
  | @yes l r s o' h1 h2=>
   obtain ⟨p',e,hs,hp'⟩:=us_ h1
   have e':p++tl ps=p'++r:=by
    have:(124:UInt8) :: (p++tl ps)=124 :: (p'++r):=e
    simpa using this
   obtain ⟨q,e1,e2⟩:=vm_ hp' (u8_ ps) e'
   cases o' with
   | none=>cases ho
   | some m'=>
    cases ho
    by_cases hq:q=[]
    ·subst hq
     rw [List.append_nil] at e1
     subst e1
     rw [List.nil_append] at e2
     subst e2
     exact .cons hs (tZ_ ps (fun x hx=>hf x (List.mem_cons_of_mem _ hx)) h2)
    ·exfalso
     rw [e2] at h2
     exact vo_ hq (fun d hd=>hf p (by simp) d (by rw [e1]; simp [hd])) h2
def ObjS (t:List UInt8) (x y z:Int) (m:List Sib):Prop:=∃ p ps a b c,cutL 124 t=p :: ps∧VvT p a b c∧x=nv a∧y=nv b∧z=nv c∧SibsS ps m
theorem vN_ {t:List UInt8} (hv:∀ s ∈ m,s.v≤999):ObjS t x y z m↔∃ rest,rvS t 3=some ((x,y,z),rest)∧SbsR rest (some m):=by
 constructor
 ·rintro ⟨p,ps,a,b,c,hc,hV,rfl,rfl,rfl,hS⟩
  have e:t=p++tl ps:=by rw [← tJ_,← hc,x8_]
  exact ⟨tl ps,by rw [e]; exact rL_ hV (r9_ ps),rH_ hS hv⟩
 ·rintro ⟨rest,h1,h2⟩
  obtain ⟨C,a,b,c,e,hV,rfl,rfl,rfl,_⟩:=rM_ h1
  cases hc:cutL 124 t with
  | nil=>exact (w8_ 124 t hc).elim
  | cons p ps=>
   have e0:t=p++tl ps:=by rw [← tJ_,← hc,x8_]
   have hf:=w9_ 124 t
   rw [hc] at hf
   obtain ⟨q,e1,e2⟩:=vm_ (q4_ hV) (u8_ ps) (e0.symm.trans e)
   by_cases hq:q=[]
   ·subst hq
    rw [List.append_nil] at e1
    subst e1
    rw [List.nil_append] at e2
    subst e2
    exact ⟨p,ps,a,b,c,hc,hV,rfl,rfl,rfl,tZ_ ps (fun x hx=>hf x (List.mem_cons_of_mem _ hx)) h2⟩
   ·exfalso
    rw [e2] at h2
    exact vo_ hq (fun d hd=>hf p (by simp) d (by rw [e1]; simp [hd])) h2
end
end Go.Proofs.YtiokjphefpicbaaGreatDoor
