/- Nodes and their buckets, part 21 of the law FnDigest. -/
import Derived.Test.YtiokjphefpicbaaGreatDoorM19
import Derived.Deep.Cut
namespace Go.Proofs.YtiokjphefpicbaaGreatDoor
open Go.RowKit
set_option maxRecDepth 100000
set_option maxHeartbeats 16000000
set_option linter.unusedSimpArgs false
set_option linter.unusedVariables false
section
variable {i:Nat} {ok:Bool} {s:ByteArray}
def NumR (l:List UInt8) (n:Int) (ok:Bool):Prop:=(Num l∧l.length≤18→ok=true∧n=nv l)∧(¬ (Num l∧l.length≤18)→ok=true→n < 0)
theorem wU_ {l:List UInt8} (h:¬ (Num l∧l.length≤18)):Hid (NumR l 0 false):=⟨fun h'=>(h h').elim,fun _ h'=>by cases h'⟩
theorem vb_ (h:0 < s.size):bl s=s[0] :: (bl s).drop 1:=by have:=yy_ s 0 h; rwa [List.drop_zero] at this
theorem qR_ (h:i < s.size):s[i] ∈ bl s:=by
 have:s[i]=(bl s)[i]'(by rw [zF_]; exact h):=rfl
 rw [this]
 exact List.getElem_mem _
theorem y3_ {n:Int} (hs:0 < s.size) (hc:(s[0]'hs).toNat=45) (h:ok=true→n < 0):Hid (NumR (bl s) n ok):=by
 have hn:¬ (Num (bl s)∧(bl s).length≤18):=fun h'=>by
  have:=yn_.1 (h'.1.2.1 _ (qR_ hs))
  omega
 exact ⟨fun h'=>(hn h').elim,fun _=>h⟩
theorem oE_ (hs:0 < s.size) (hc:(s[0]'hs).toNat=48) (hl:1 < s.size) (h:Num (bl s)):False:=by
 refine h.2.2 (by rw [zF_]; exact hl) ?_
 rw [vb_ hs,List.head?_cons]
 congr 1
 exact UInt8.toNat_inj.1 (by simpa using hc)
theorem sz_ (h:i < s.size) (hd:∀ c ∈ (bl s).take i,dg c=true) (hc:dg s[i]=true):Hid (∀ c ∈ (bl s).take (i+1),dg c=true):=fun c hm=>by
 rw [List.take_succ_eq_append_getElem (by rw [zF_]; exact h),List.mem_append] at hm
 rcases hm with hm | hm
 ·exact hd c hm
 ·rw [List.mem_singleton] at hm
  rw [hm]
  exact hc
theorem r5_ (h:i < s.size):nv ((bl s).take (i+1))=10 * nv ((bl s).take i)+((s[i].toNat:Int) - 48):=by
 rw [List.take_succ_eq_append_getElem (by rw [zF_]; exact h),vP_]
 rfl
theorem nA_:∀ (k:Nat) (l:List UInt8),l.length=k→(∀ c ∈ l,dg c=true)→nv l < ((10 ^ k:Nat):Int):=by
 intro k
 induction k with
 | zero=>intro l hl _; rw [List.length_eq_zero_iff.1 hl]; simp [nv]
 | succ k ih=>
  intro l hl h
  have hne:l≠[]:=fun e=>by rw [e] at hl; simp at hl
  obtain ⟨m,c,rfl⟩:∃ m c,l=m++[c]:=⟨l.dropLast,l.getLast hne,(List.dropLast_concat_getLast hne).symm⟩
  have hc:=yn_.1 (h c (by simp))
  have:=ih m (by simp at hl; omega) (fun d hd=>h d (by simp [hd]))
  rw [vP_,Nat.pow_succ]
  omega
theorem vQ_ {l:List UInt8} (h:∀ c ∈ l,dg c=true) (hl:l.length≤18):nv l≤999999999999999999:=by
 have h1:=nA_ _ l rfl h
 have h2:10 ^ l.length≤10 ^ 18:=Nat.pow_le_pow_right (by decide) hl
 have h3:(10:Nat) ^ 18=1000000000000000000:=by decide
 omega
theorem vr_ {l:List UInt8} (h:∀ c ∈ l,dg c=true) (hl:l.length≤17):nv l≤99999999999999999:=by
 have h1:=nA_ _ l rfl h
 have h2:10 ^ l.length≤10 ^ 17:=Nat.pow_le_pow_right (by decide) hl
 have h3:(10:Nat) ^ 17=100000000000000000:=by decide
 omega
theorem qv_ (hs:0 < s.size) (hc:¬ (s[0]'hs).toNat=48) (h:∀ c ∈ bl s,dg c=true):0 < nv (bl s):=by
 have h0:=yn_.1 (h _ (qR_ hs))
 have e:=vb_ hs
 have h1:=v7_ ((bl s).drop 1) (10 * 0+(((s[0]'hs).toNat:Int) - 48)) (by omega) (fun x hx=>h x (List.mem_of_mem_drop hx))
 have h2:nv (s[0] :: (bl s).drop 1)=((bl s).drop 1).foldl (fun n c=>10 * n+((c.toNat:Int) - 48)) (10 * 0+(((s[0]'hs).toNat:Int) - 48)):=rfl
 rw [← e] at h2
 omega
theorem py_ {v:Int} (hs:0 < s.size) (h18:s.size≤18) (hc:¬ ((s[0]'hs).toNat=48∧1 < s.size)) (h:v=nv (bl s)∧∀ c ∈ bl s,dg c=true):Hid (NumR (bl s) v true):=by
 have hN:Num (bl s):=⟨fun e=>by have:=zF_ s; rw [e] at this; simp at this; omega,h.2,fun hl=>by
  rw [zF_] at hl
  rw [vb_ hs,List.head?_cons]
  intro e
  simp at e
  exact hc ⟨by rw [e]; rfl,hl⟩⟩
 exact ⟨fun _=>⟨rfl,h.1⟩,fun h'=>(h' ⟨hN,by rw [zF_]; exact h18⟩).elim⟩
def NumP (s:ByteArray) (w:World) (e:Ending) (w':World):Prop:=∃ (n:Int) (ok:Bool),e=.returned (.tuple #[.int .i64 n,.bool ok])∧NumR (bl s) n ok∧Below w.heap.size w w'
theorem vt_ (s:ByteArray) (w:World) (hs:s.size≤1048576) :
  Calls Tryz.prog 205 #[.string s] w fun e w'=>NumP s w e w':=by
 by_cases hs00:s.size=0
 ·have HF:Hid (NumR (bl s) 0 false):=wU_ (fun h=>h.1.1 (qQ_ hs00))
  have h0:¬ (0:Int) < (s.size:Int):=by omega
  go_enter Tryz.func205,Tryz.ntmps205
  go_wp2
  go_ret2
  exact ⟨0,false,rfl,HF.out,Below.refl _ _⟩
 have hs0:0 < s.size:=by omega
 have hs0':(0:Int) < (s.size:Int):=by omega
 by_cases hc45:(s[0]'hs0).toNat=45
 ·have hx:(((s[0]'hs0).toNat:Int) == 45)=true:=by rw [beq_iff_eq]; omega
  have hx1:(1:Int)≤(s.size:Int):=by omega
  go_enter Tryz.func205,Tryz.ntmps205
  go_upto_region 5 with fail
  have hSz:(s.extract 1 s.size).size≤1048576:=by rw [yv_ s 1 hs0]; omega
  clear hx hx1 hs0'
  generalize s.extract 1 s.size=S at *
  by_cases hz:S.size=0
  ·have HF:Hid (NumR (bl s) 0 false):=y3_ hs0 hc45 (fun h=>by cases h)
   have e1:((S.size:Int) == 0)=true:=by rw [beq_iff_eq]; omega
   go_wp2
   all_goals go_ret2
   all_goals exact ⟨0,false,rfl,HF.out,Below.refl _ _⟩
  have hz1:0 < S.size:=by omega
  have e1:((S.size:Int) == 0)=false:=beq_eq_false_iff_ne.2 (by omega)
  have e1':(0:Int) < (S.size:Int):=by omega
  by_cases h18:18 < S.size
  ·have HF:Hid (NumR (bl s) 0 false):=y3_ hs0 hc45 (fun h=>by cases h)
   have e2:(18:Int) < (S.size:Int):=by omega
   go_wp2
   all_goals go_ret2
   all_goals exact ⟨0,false,rfl,HF.out,Below.refl _ _⟩
  have e2:¬ (18:Int) < (S.size:Int):=by omega
  by_cases h48:(S[0]'hz1).toNat=48
  ·have HF:Hid (NumR (bl s) 0 false):=y3_ hs0 hc45 (fun h=>by cases h)
   have e3:(((S[0]'hz1).toNat:Int) == 48)=true:=by rw [beq_iff_eq]; omega
   by_cases hl1:1 < S.size
   focus
    have e4:(1:Int) < (S.size:Int):=by omega
   rotate_left
   focus
    have e4:¬ (1:Int) < (S.size:Int):=by omega
   rotate_left
   all_goals
    go_wp2
    all_goals go_ret2
    all_goals exact ⟨0,false,rfl,HF.out,Below.refl _ _⟩
  have e3:(((S[0]'hz1).toNat:Int) == 48)=false:=beq_eq_false_iff_ne.2 (by omega)
  have H48:=hm_ h48
  clear h48
  go_wp2
  go_loopw [5,6] (fun s5 s6 wr=>∃ i:Nat,i≤S.size∧s6=.int .i64 i∧s5=.int .i64 (nv ((bl S).take i))∧(∀ c ∈ (bl S).take i,dg c=true)∧wr=w) (fun _ s6 _=>S.size - (intOf s6).toNat)
  case atStart=>exact ⟨0,by omega,rfl,by simp [nv],fun c hc=>by simp at hc,rfl⟩
  case round=>
   obtain ⟨i,hi,rfl,rfl,hD0,rfl⟩:=hrel
   have hD:=hm_ hD0
   clear hD0
   obtain ⟨v,hv⟩:∃ v,v=nv ((bl S).take i):=⟨_,rfl⟩
   have hv0:0≤v:=by rw [hv]; exact wT_ hD.out
   have hvb:v≤999999999999999999:=by rw [hv]; exact vQ_ hD.out (by simp; omega)
   have HV:=hm_ hv
   rw [← hv]
   clear hv
   have kk:(0:Int)≤(i:Int):=by omega
   by_cases hlt:i < S.size
   ·have hlt':(i:Int) < (S.size:Int):=by omega
    have hv17:v≤99999999999999999:=by have:=HV.out; rw [this]; exact vr_ hD.out (by simp; omega)
    obtain ⟨c,hc⟩:∃ c:Nat,c=(S[i]'hlt).toNat:=⟨_,rfl⟩
    have hgi:∀ h:i < S.size,((S[i]'h).toNat:Int)=(c:Int):=fun h=>by rw [hc]
    have hc256:c < 256:=by rw [hc]; exact (S[i]'hlt).toNat_lt
    have HC:=hm_ hc
    clear hc
    by_cases hd:48≤c∧c≤57
    ·obtain ⟨d1,d2⟩:=hd
     have d1':¬ (c:Int) < 48:=by omega
     have d2':¬ 57 < (c:Int):=by omega
     have HD1:Hid (∀ c ∈ (bl S).take (i+1),dg c=true):=sz_ hlt hD.out (yn_.2 (by rw [← HC.out]; exact ⟨d1,d2⟩))
     have HV1:Hid (v * 10+(c:Int) - 48=nv ((bl S).take (i+1))):=by
      show _=_
      rw [r5_ hlt,← HV.out,← HC.out]
      omega
     go_wp2
     go_roundw
     case rel=>first | exact ⟨i+1,by omega,by go_num,by rw [← HV1.out],HD1.out,rfl⟩ | exact ⟨i+1,by omega,by go_num,by rw [← HV1.out],HD1.out,trivial⟩
     case measure=>simp [intOf]; omega
    ·have HF:Hid (NumR (bl s) 0 false):=y3_ hs0 hc45 (fun h=>by cases h)
     have hdd:(c:Int) < 48∨(¬ (c:Int) < 48∧57 < (c:Int)):=by omega
     rcases hdd with d1 | ⟨d1,d2⟩
     all_goals
      go_wp2
      go_ret2
      exact ⟨0,false,rfl,HF.out,Below.refl _ _⟩
   ·have hlt':¬ (i:Int) < (S.size:Int):=by omega
    have HA:Hid (v=nv (bl S)∧∀ c ∈ bl S,dg c=true):=by
     have e:(bl S).take i=bl S:=List.take_of_length_le (by rw [zF_]; omega)
     have h1:=HV.out
     have h2:=hD.out
     rw [e] at h1 h2
     exact ⟨h1,h2⟩
    have HF:Hid (NumR (bl s) (-v) true):=y3_ hs0 hc45 (fun _=>by have:=qv_ hz1 H48.out HA.out.2; rw [← HA.out.1] at this; omega)
    go_wp2
    go_ret2
    exact ⟨_,_,rfl,by simpa using HF.out,Below.refl _ _⟩
 ·have hx:(((s[0]'hs0).toNat:Int) == 45)=false:=beq_eq_false_iff_ne.2 (by omega)
  go_enter Tryz.func205,Tryz.ntmps205
  go_upto_region 5 with fail
  obtain ⟨S,hS⟩:∃ S,S=s:=⟨_,rfl⟩
  subst hS
  clear hx hc45
  by_cases hz:S.size=0
  ·have HF:Hid (NumR (bl S) 0 false):=wU_ (fun h=>h.1.1 (qQ_ hz))
   have e1:((S.size:Int) == 0)=true:=by rw [beq_iff_eq]; omega
   go_wp2
   all_goals go_ret2
   all_goals exact ⟨0,false,rfl,HF.out,Below.refl _ _⟩
  have hz1:0 < S.size:=by omega
  have e1:((S.size:Int) == 0)=false:=beq_eq_false_iff_ne.2 (by omega)
  have e1':(0:Int) < (S.size:Int):=by omega
  by_cases h18:18 < S.size
  ·have HF:Hid (NumR (bl S) 0 false):=wU_ (fun h=>by have:=h.2; rw [zF_] at this; omega)
   have e2:(18:Int) < (S.size:Int):=by omega
   go_wp2
   all_goals go_ret2
   all_goals exact ⟨0,false,rfl,HF.out,Below.refl _ _⟩
  have e2:¬ (18:Int) < (S.size:Int):=by omega
  by_cases h48:(S[0]'hz1).toNat=48∧1 < S.size
  ·obtain ⟨h48,hl1⟩:=h48
   have HF:Hid (NumR (bl S) 0 false):=wU_ (fun h=>oE_ hz1 h48 hl1 h.1)
   have e3:(((S[0]'hz1).toNat:Int) == 48)=true:=by rw [beq_iff_eq]; omega
   have e4:(1:Int) < (S.size:Int):=by omega
   go_wp2
   all_goals go_ret2
   all_goals exact ⟨0,false,rfl,HF.out,Below.refl _ _⟩
  have H48:=hm_ h48
  have e34:(((S[0]'hz1).toNat:Int) == 48)=false∨((((S[0]'hz1).toNat:Int) == 48)=true∧¬ (1:Int) < (S.size:Int)):=by
   by_cases hh:(S[0]'hz1).toNat=48
   ·right; exact ⟨by rw [beq_iff_eq]; omega,by omega⟩
   ·left; exact beq_eq_false_iff_ne.2 (by omega)
  clear h48
  rcases e34 with e3 | ⟨e3,e4⟩
  rotate_left
  rotate_left
  all_goals
   go_wp2
   go_loopw [5,6] (fun s5 s6 wr=>∃ i:Nat,i≤S.size∧s6=.int .i64 i∧s5=.int .i64 (nv ((bl S).take i))∧(∀ c ∈ (bl S).take i,dg c=true)∧wr=w) (fun _ s6 _=>S.size - (intOf s6).toNat)
   case atStart=>exact ⟨0,by omega,rfl,by simp [nv],fun c hc=>by simp at hc,rfl⟩
   case round=>
    obtain ⟨i,hi,rfl,rfl,hD0,rfl⟩:=hrel
    have hD:=hm_ hD0
    clear hD0
    obtain ⟨v,hv⟩:∃ v,v=nv ((bl S).take i):=⟨_,rfl⟩
    have hv0:0≤v:=by rw [hv]; exact wT_ hD.out
    have hvb:v≤999999999999999999:=by rw [hv]; exact vQ_ hD.out (by simp; omega)
    have HV:=hm_ hv
    rw [← hv]
    clear hv
    have kk:(0:Int)≤(i:Int):=by omega
    by_cases hlt:i < S.size
    ·have hlt':(i:Int) < (S.size:Int):=by omega
     have hv17:v≤99999999999999999:=by have:=HV.out; rw [this]; exact vr_ hD.out (by simp; omega)
     obtain ⟨c,hc⟩:∃ c:Nat,c=(S[i]'hlt).toNat:=⟨_,rfl⟩
     have hgi:∀ h:i < S.size,((S[i]'h).toNat:Int)=(c:Int):=fun h=>by rw [hc]
     have hc256:c < 256:=by rw [hc]; exact (S[i]'hlt).toNat_lt
     have HC:=hm_ hc
     clear hc
     by_cases hd:48≤c∧c≤57
     ·obtain ⟨d1,d2⟩:=hd
      have d1':¬ (c:Int) < 48:=by omega
      have d2':¬ 57 < (c:Int):=by omega
      have HD1:Hid (∀ c ∈ (bl S).take (i+1),dg c=true):=sz_ hlt hD.out (yn_.2 (by rw [← HC.out]; exact ⟨d1,d2⟩))
      have HV1:Hid (v * 10+(c:Int) - 48=nv ((bl S).take (i+1))):=by
       show _=_
       rw [r5_ hlt,← HV.out,← HC.out]
       omega
      go_wp2
      go_roundw
      case rel=>first | exact ⟨i+1,by omega,by go_num,by rw [← HV1.out],HD1.out,rfl⟩ | exact ⟨i+1,by omega,by go_num,by rw [← HV1.out],HD1.out,trivial⟩
      case measure=>simp [intOf]; omega
     ·have HF:Hid (NumR (bl S) 0 false):=wU_ (fun h=>hd (by rw [HC.out]; exact yn_.1 (h.1.2.1 _ (qR_ hlt))))
      have hdd:(c:Int) < 48∨(¬ (c:Int) < 48∧57 < (c:Int)):=by omega
      rcases hdd with d1 | ⟨d1,d2⟩
      all_goals
       go_wp2
       go_ret2
       exact ⟨0,false,rfl,HF.out,Below.refl _ _⟩
    ·have hlt':¬ (i:Int) < (S.size:Int):=by omega
     have HA:Hid (v=nv (bl S)∧∀ c ∈ bl S,dg c=true):=by
      have e:(bl S).take i=bl S:=List.take_of_length_le (by rw [zF_]; omega)
      have h1:=HV.out
      have h2:=hD.out
      rw [e] at h1 h2
      exact ⟨h1,h2⟩
     have HF:Hid (NumR (bl S) (v) true):=py_ hz1 (by omega) H48.out HA.out
     go_wp2
     go_ret2
     exact ⟨_,_,rfl,by simpa using HF.out,Below.refl _ _⟩
end
theorem ys_ (s:ByteArray) (w:World) (hs:s.size≤1048576) (h:Num (bl s)∧(bl s).length≤18) :
  Calls Tryz.prog 185 #[.string s] w fun e w'=>e=.returned (.tuple #[.int .i64 (nv (bl s)),.bool true])∧Below w.heap.size w w':=by
 obtain ⟨m,hm⟩:∃ m:Nat,nv (bl s)=(m:Int):=⟨(nv (bl s)).toNat,by have:=wT_ h.1.2.1; omega⟩
 have hds:(⟨(dsN m).toArray⟩:ByteArray)=s:=by
  have:=oW_ _ (bl s) rfl h.1
  rw [hm] at this
  have e:((m:Int)).toNat=m:=by omega
  rw [e] at this
  rw [this]
  exact ba_bl s
 have hm18:m < 1000000000000000000:=by have:=vQ_ h.1.2.1 h.2; omega
 have H:=hm_ h
 have HM:=hm_ hm
 have HDS:=hm_ hds
 rw [hm]
 clear h hm hds
 have hm0:(0:Int)≤(m:Int):=by omega
 go_enter Tryz.func185,Tryz.ntmps185
 go_wp2_with fail
 refine (vt_ s _ hs).mono ?_
 rintro e w1 ⟨n,ok,rfl,hR,hb⟩
 obtain ⟨rfl,rfl⟩:=hR.1 H.out
 have HB:=hm_ hb
 clear hR hb
 rw [HM.out]
 go_wp2_with fail
 refine (yk_ (m+1) m (by omega) hm18 _).mono ?_
 rintro e w2 ⟨rfl,hb⟩
 replace HB:=ze_ HB hb
 rw [HDS.out]
 clear hb
 go_wp2
 go_ret2
 exact ⟨by simp,HB.out⟩
theorem y5_ (s:ByteArray) (w:World) (hs:s.size≤1048576) (h:¬ (Num (bl s)∧(bl s).length≤18)) :
  Calls Tryz.prog 185 #[.string s] w fun e w'=>N3P w e w':=by
 have H:=hm_ h
 clear h
 go_enter Tryz.func185,Tryz.ntmps185
 go_wp2_with fail
 refine (vt_ s _ hs).mono ?_
 rintro e w1 ⟨n,ok,rfl,hR,hb⟩
 have HB:=hm_ hb
 have HR:Hid (ok=true→n < 0):=hR.2 H.out
 clear hR hb
 cases ok
 ·go_wp2
  go_ret2
  exact ⟨n,rfl,HB.out⟩
 ·have hn:¬ 0≤n:=by have:=HR.out rfl; omega
  go_wp2
  go_ret2
  exact ⟨n,rfl,HB.out⟩
theorem uk_ (s:ByteArray) (w:World) (hs:s.size≤1048576) (h:tdR (bl s)) :
  Calls Tryz.prog 240 #[.string s] w fun e w'=>e=.returned (.tuple #[.agg #[.int .i64 (tdV (bl s)).1,.int .i64 (tdV (bl s)).2],.bool true])∧Below w.heap.size w w':=by
 have hs0:0 < s.size:=by
  rcases Nat.eq_zero_or_pos s.size with e | e
  ·rw [qQ_ e] at h; exact h.elim
  ·exact e
 have e0:=vb_ hs0
 rw [e0] at h
 obtain ⟨⟨c1,c2⟩,hN,hD⟩:=h
 have HV1:Hid ((tdV (bl s)).1=((s[0]'hs0).toNat:Int) - 97):=by show _=_; rw [e0]; rfl
 have HV2:Hid ((tdV (bl s)).2=nv ((bl s).drop 1)):=by show _=_; rw [e0]; rfl
 rw [HV1.out,HV2.out]
 rw [← xc_ s 1 hs0] at hN hD ⊢
 obtain ⟨c,hc⟩:∃ c:Nat,c=(s[0]'hs0).toNat:=⟨_,rfl⟩
 have hgi:∀ h:0 < s.size,((s[0]'h).toNat:Int)=(c:Int):=fun h=>by rw [hc]
 rw [← hc] at c1 c2 hD ⊢
 clear hc HV1 HV2 e0
 have hE:=xl_ s hs0
 have hs0':(0:Int) < (s.size:Int):=by omega
 have hs1':(1:Int)≤(s.size:Int):=by omega
 have c1':(97:Int)≤(c:Int):=by omega
 have c2':(c:Int)≤99:=by omega
 obtain ⟨v,hv⟩:∃ v,v=nv (bl (s.extract 1 s.size)):=⟨_,rfl⟩
 have Q:=ys_ (s.extract 1 s.size)
 rw [← hv] at hD Q ⊢
 have HQ:Hid (∀ W:World,Calls Tryz.prog 185 #[.string (s.extract 1 s.size)] W fun e w'=>e=.returned (.tuple #[.int .i64 v,.bool true])∧Below W.heap.size W w'):=fun W=>Q W (by rw [yv_ s 1 hs0]; omega) hN
 clear Q hv hN
 have HDD:=hm_ hD
 clear hD
 go_enter Tryz.func240,Tryz.ntmps240
 go_wp2_with fail
 refine (x5_ _ _ _ _ c1' c2').mono ?_
 rintro e w1 ⟨rfl,rfl⟩
 go_wp2_with fail
 refine (HQ.out _).mono ?_
 rintro e w1 ⟨rfl,hb⟩
 have HB:Hid (Below w.heap.size w w1):=(zb_ _ _).trans (hb.mono (by simp))
 have r0:=za_ hb (b:=w.heap.size) (o:=0) (v:=.int .i64 0) (by go_simp) (by simp)
 have r1:=za_ hb (b:=w.heap.size) (o:=1) (v:=.int .i64 0) (by go_simp) (by simp)
 have q0:=zd_ hb (b:=w.heap.size) (o:=0) (by go_simp) (by simp)
 have q1:=zd_ hb (b:=w.heap.size) (o:=1) (by go_simp) (by simp)
 have hz:w.heap.size < w1.heap.size:=by have:=hb.size; simp at this; omega
 clear hb
 go_wp2_with fail
 refine (yR_ _ _ _).mono ?_
 rintro e w2 ⟨rfl,hb⟩
 rw [HDD.out]
 have d0:=za_ hb (b:=w1.heap.size) (o:=0) (v:=.int .i64 ((c:Int) - 97)) (by go_simp) (by simp)
 have d1:=za_ hb (b:=w1.heap.size) (o:=1) (v:=.int .i64 v) (by go_simp) (by simp)
 replace HB:=ze_ (ze_ HB (zb_ _ _)) hb
 replace r0:=za_ hb (zL_ r0 hz) (by simp; omega)
 replace r1:=za_ hb (zL_ r1 hz) (by simp; omega)
 replace q0:=zd_ hb (zZ_ q0 hz) (by simp; omega)
 replace q1:=zd_ hb (zZ_ q1 hz) (by simp; omega)
 clear hb
 go_wp2
 refine bodyPost_ret (v:=.tuple #[.agg #[.int .i64 ((c:Int) - 97),.int .i64 v],.bool true]) (by simp [results,Tryz.results240,go_sem,r0,r1,q0,q1]) rfl ⟨rfl,?_⟩
 exact (HB.out.setCell (by simp) _).setCell (by simp) _
theorem tS_ (s:ByteArray) (w:World) (hs:s.size≤1048576) (h:¬ tdR (bl s)) :
  Calls Tryz.prog 240 #[.string s] w fun e w'=>e=.returned (.tuple #[.agg #[.int .i64 0,.int .i64 0],.bool false])∧Below w.heap.size w w':=by
 by_cases hs0:0 < s.size
 ·have e0:=vb_ hs0
  rw [e0] at h
  have H:=hm_ h
  clear h
  rw [← xc_ s 1 hs0] at H
  obtain ⟨c,hc⟩:∃ c:Nat,c=(s[0]'hs0).toNat:=⟨_,rfl⟩
  have hgi:∀ h:0 < s.size,((s[0]'h).toNat:Int)=(c:Int):=fun h=>by rw [hc]
  have H2:Hid (¬ ((97≤c∧c≤99)∧(Num (bl (s.extract 1 s.size))∧(bl (s.extract 1 s.size)).length≤18)∧dotB ((c:Int) - 97) (nv (bl (s.extract 1 s.size)))=true)):=by rw [hc]; exact H.out
  have hc256:c < 256:=by rw [hc]; exact (s[0]'hs0).toNat_lt
  clear hc e0 H
  have hE:=xl_ s hs0
  have hs0':(0:Int) < (s.size:Int):=by omega
  have hs1':(1:Int)≤(s.size:Int):=by omega
  by_cases hcc:97≤c∧c≤99
  ·obtain ⟨c1,c2⟩:=hcc
   have c1':(97:Int)≤(c:Int):=by omega
   have c2':(c:Int)≤99:=by omega
   have hsz:(s.extract 1 s.size).size≤1048576:=by rw [yv_ s 1 hs0]; omega
   by_cases hN:Num (bl (s.extract 1 s.size))∧(bl (s.extract 1 s.size)).length≤18
   ·obtain ⟨v,hv⟩:∃ v,v=nv (bl (s.extract 1 s.size)):=⟨_,rfl⟩
    have Q:=ys_ (s.extract 1 s.size)
    have HDD:Hid (dotB ((c:Int) - 97) v=false):=by
     rw [← Bool.not_eq_true]
     intro h'
     rw [hv] at h'
     exact H2.out ⟨⟨c1,c2⟩,hN,h'⟩
    rw [← hv] at Q
    have HQ:Hid (∀ W:World,Calls Tryz.prog 185 #[.string (s.extract 1 s.size)] W fun e w'=>e=.returned (.tuple #[.int .i64 v,.bool true])∧Below W.heap.size W w'):=fun W=>Q W hsz hN
    clear Q hv hN H2
    go_enter Tryz.func240,Tryz.ntmps240
    go_wp2_with fail
    refine (x5_ _ _ _ _ c1' c2').mono ?_
    rintro e w1 ⟨rfl,rfl⟩
    go_wp2_with fail
    refine (HQ.out _).mono ?_
    rintro e w1 ⟨rfl,hb⟩
    have HB:Hid (Below w.heap.size w w1):=(zb_ _ _).trans (hb.mono (by simp))
    have r0:=za_ hb (b:=w.heap.size) (o:=0) (v:=.int .i64 0) (by go_simp) (by simp)
    have r1:=za_ hb (b:=w.heap.size) (o:=1) (v:=.int .i64 0) (by go_simp) (by simp)
    have q0:=zd_ hb (b:=w.heap.size) (o:=0) (by go_simp) (by simp)
    have q1:=zd_ hb (b:=w.heap.size) (o:=1) (by go_simp) (by simp)
    have hz:w.heap.size < w1.heap.size:=by have:=hb.size; simp at this; omega
    clear hb
    go_wp2_with fail
    refine (yR_ _ _ _).mono ?_
    rintro e w2 ⟨rfl,hb⟩
    rw [HDD.out]
    replace HB:=ze_ (ze_ HB (zb_ _ _)) hb
    replace r0:=za_ hb (zL_ r0 hz) (by simp; omega)
    replace r1:=za_ hb (zL_ r1 hz) (by simp; omega)
    replace q0:=zd_ hb (zZ_ q0 hz) (by simp; omega)
    replace q1:=zd_ hb (zZ_ q1 hz) (by simp; omega)
    clear hb
    go_wp2
    refine bodyPost_ret (v:=.tuple #[.agg #[.int .i64 0,.int .i64 0],.bool false]) (by simp [results,Tryz.results240,go_sem,r0,r1,q0,q1]) rfl ⟨rfl,?_⟩
    exact (HB.out.setCell (by simp) _).setCell (by simp) _
   ·have HQ:Hid (∀ W:World,Calls Tryz.prog 185 #[.string (s.extract 1 s.size)] W fun e w'=>N3P W e w'):=fun W=>y5_ (s.extract 1 s.size) W hsz hN
    clear hN H2
    go_enter Tryz.func240,Tryz.ntmps240
    go_wp2_with fail
    refine (x5_ _ _ _ _ c1' c2').mono ?_
    rintro e w1 ⟨rfl,rfl⟩
    go_wp2_with fail
    refine (HQ.out _).mono ?_
    rintro e w1 ⟨v,rfl,hb⟩
    have HB:Hid (Below w.heap.size w w1):=(zb_ _ _).trans (hb.mono (by simp))
    have r0:=za_ hb (b:=w.heap.size) (o:=0) (v:=.int .i64 0) (by go_simp) (by simp)
    have r1:=za_ hb (b:=w.heap.size) (o:=1) (v:=.int .i64 0) (by go_simp) (by simp)
    have q0:=zd_ hb (b:=w.heap.size) (o:=0) (by go_simp) (by simp)
    have q1:=zd_ hb (b:=w.heap.size) (o:=1) (by go_simp) (by simp)
    have hz:w.heap.size < w1.heap.size:=by have:=hb.size; simp at this; omega
    clear hb
    go_wp2
    refine bodyPost_ret (v:=.tuple #[.agg #[.int .i64 0,.int .i64 0],.bool false]) (by simp [results,Tryz.results240,go_sem,r0,r1,q0,q1,hz]) rfl ⟨rfl,?_⟩
    exact ((HB.out.setCell (by simp) _).setCell (by simp) _).alloc (by simpa [World.setCell] using Nat.le_of_lt hz) _
  ·have hcn:(c:Int) < 97∨((97:Int)≤(c:Int)∧99 < (c:Int)):=by omega
   clear hcc H2
   go_enter Tryz.func240,Tryz.ntmps240
   go_wp2_with fail
   refine (pE_ _ _ _ _ hcn).mono ?_
   rintro e w1 ⟨rfl,rfl⟩
   go_wp2
   refine bodyPost_ret (v:=.tuple #[.agg #[.int .i64 0,.int .i64 0],.bool false]) (by simp [results,Tryz.results240,go_sem]) rfl ⟨rfl,?_⟩
   repeat (first | exact Below.refl _ _ | refine Below.drew ?_ | refine below_drewN ?_ _ | refine Below.alloc ?_ (by first | (simp; done) | (simp; omega)) _ | refine Below.setCell ?_ (by first | (simp; done) | (simp; omega)) _)
 ·have hE:=wc_ s (by omega)
  go_enter Tryz.func240,Tryz.ntmps240
  go_wp2
  refine bodyPost_ret (v:=.tuple #[.agg #[.int .i64 0,.int .i64 0],.bool false]) (by simp [results,Tryz.results240,go_sem]) rfl ⟨rfl,?_⟩
  repeat (first | exact Below.refl _ _ | refine Below.drew ?_ | refine below_drewN ?_ _ | refine Below.alloc ?_ (by first | (simp; done) | (simp; omega)) _ | refine Below.setCell ?_ (by first | (simp; done) | (simp; omega)) _)
end Go.Proofs.YtiokjphefpicbaaGreatDoor
