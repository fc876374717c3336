/- Nodes and their buckets, part 4 of the law FnDigest. -/
import Derived.Test.YtiokjphefpicbaaGreatDoorM03
namespace Go.Proofs.YtiokjphefpicbaaGreatDoor
open Go.RowKit
set_option maxRecDepth 100000
set_option maxHeartbeats 16000000
set_option linter.unusedSimpArgs false
set_option linter.unusedVariables false
theorem qs_ (a b c:Int) (w:World) :
  Calls Tryz.prog 39 #[.agg #[.int .i64 a,.int .i64 b,.int .i64 c]] w fun e w'=>e=.returned (.bool (vvB a b c))∧Below w.heap.size w w':=by
 have cs:a < 0∨(0≤a∧9999 < a)∨(0≤a∧a≤9999∧b < 0)∨(0≤a∧a≤9999∧0≤b∧9999 < b)∨(0≤a∧a≤9999∧0≤b∧b≤9999∧c < 0)∨(0≤a∧a≤9999∧0≤b∧b≤9999∧0≤c∧9999 < c)∨(0≤a∧a≤9999∧0≤b∧b≤9999∧0≤c∧c≤9999):=by omega
 have i0:=idx0 a b c
 have i1:=idx1 a b c
 have i2:=idx2 a b c
 rcases cs with h1 | ⟨h1,h2⟩ | ⟨h1,h2,h3⟩ | ⟨h1,h2,h3,h4⟩ | ⟨h1,h2,h3,h4,h5⟩ | ⟨h1,h2,h3,h4,h5,h6⟩ | ⟨h1,h2,h3,h4,h5,h6⟩
 case inr.inr.inr.inr.inr.inr=>
  have HB:Hid (vvB a b c=true):=decide_eq_true (by omega)
  go_enter Tryz.func39,Tryz.ntmps39
  go_wp2
  refine wp_loop_rounds 4 ?_
  repeat (rw [rounds_succ]; go_wp2)
  go_ret
  exact ⟨zi_ HB.out.symm,(Below.refl _ _).alloc (Nat.le_refl _) _⟩
 all_goals
  have HB:Hid (vvB a b c=false):=decide_eq_false (by omega)
  try (have da:decide (a≤9999)=false:=decide_eq_false (by omega))
  try (have db:decide (b≤9999)=false:=decide_eq_false (by omega))
  try (have dc:decide (c≤9999)=false:=decide_eq_false (by omega))
  go_enter Tryz.func39,Tryz.ntmps39
  go_wp2
  refine wp_loop_rounds 4 ?_
  repeat (rw [rounds_succ]; go_wp2)
  go_ret
  exact ⟨zi_ HB.out.symm,(Below.refl _ _).alloc (Nat.le_refl _) _⟩
theorem vx_ (a:Int) (w:World):Calls Tryz.prog 56 #[.int .i64 a] w fun e w'=>e=.returned (.bool (decide (0≤a∧a < 3)))∧Below w.heap.size w w':=by
 by_cases h0:0≤a
 ·by_cases h1:a < 3
  ·have HD:Hid (decide (0≤a∧a < 3)=true):=decide_eq_true ⟨h0,by omega⟩
   go_enter Tryz.func56,Tryz.ntmps56
   go_wp2
   go_ret
   exact ⟨zi_ HD.out.symm,Below.refl _ _⟩
  ·have HD:Hid (decide (0≤a∧a < 3)=false):=decide_eq_false (by omega)
   go_enter Tryz.func56,Tryz.ntmps56
   go_wp2
   go_ret
   exact ⟨zi_ (by first | exact HD.out.symm | (simp; done) | (simp; omega)),Below.refl _ _⟩
 ·have HD:Hid (decide (0≤a∧a < 3)=false):=decide_eq_false (by omega)
  go_enter Tryz.func56,Tryz.ntmps56
  go_wp2
  go_ret
  exact ⟨zi_ (by first | exact HD.out.symm | (simp; done) | (simp; omega)),Below.refl _ _⟩
theorem x6_ (p q:Int) (w:World) :
  Calls Tryz.prog 155 #[.agg #[.int .i64 p,.int .i64 q]] w fun e w'=>e=.returned (.bool (dotB p q))∧Below w.heap.size w w':=by
 by_cases hp:0≤p∧p < 3
 ·have C:Hid (∀ W,Calls Tryz.prog 56 #[.int .i64 p] W fun e w'=>e=.returned (.bool true)∧Below W.heap.size W w'):=fun W=>by
   have h:=vx_ p W
   rw [decide_eq_true hp] at h
   exact h
  by_cases h3:1≤q <;> by_cases h4:q≤9999
  all_goals first
   | (exfalso; omega)
   | skip
  all_goals
   have HB:Hid (dotB p q=(decide (0≤p∧p < 3∧1≤q∧q≤9999))):=rfl
   go_enter Tryz.func155,Tryz.ntmps155
   go_wp2_with fail
   refine Calls.mono (C.out _) ?_
   rintro e w1 ⟨rfl,hb⟩
   have hB1:Hid (Below w.heap.size w w1):=(Below.alloc (Below.refl _ _) (Nat.le_refl _) _).trans (hb.mono (by simp))
   have x1:w1.cell? ⟨w.heap.size,1,none⟩=some (.int .i64 q):=by rw [hb.cell (p:=⟨w.heap.size,1,none⟩) (by simp)]; go_simp
   clear hb
   go_wp2
   go_ret
   exact ⟨zi_ (by rw [HB.out]; simp [hp,h3,h4]),hB1.out⟩
 ·have C:Hid (∀ W,Calls Tryz.prog 56 #[.int .i64 p] W fun e w'=>e=.returned (.bool false)∧Below W.heap.size W w'):=fun W=>by
   have h:=vx_ p W
   rw [decide_eq_false hp] at h
   exact h
  have HB:Hid (dotB p q=false):=decide_eq_false (by omega)
  clear hp
  go_enter Tryz.func155,Tryz.ntmps155
  go_wp2_with fail
  refine Calls.mono (C.out _) ?_
  rintro e w1 ⟨rfl,hb⟩
  have hB1:Hid (Below w.heap.size w w1):=(Below.alloc (Below.refl _ _) (Nat.le_refl _) _).trans (hb.mono (by simp))
  clear hb
  go_wp2
  go_ret
  exact ⟨zi_ HB.out.symm,hB1.out⟩
theorem s6_ (a b c q:Int) (w:World) (hq:a < q) :
  Calls Tryz.prog 149 #[.agg #[.int .i64 a,.int .i64 b,.int .i64 c],.agg #[.int .i64 0,.int .i64 q]] w fun e w'=>e=.returned (.agg #[.int .i64 q,.int .i64 b,.int .i64 c])∧Below w.heap.size w w':=by
 go_enter Tryz.func149,Tryz.ntmps149
 go_wp2
 go_region
 go_wp2
 refine bodyPost_ret (v:=.agg #[.int .i64 q,.int .i64 b,.int .i64 c]) (by simp [results,Tryz.results149,go_sem]) rfl ⟨rfl,?_⟩
 repeat (first | exact Below.refl _ _ | refine Below.drew ?_ | refine below_drewN ?_ _ | refine Below.alloc ?_ (by first | (simp; done) | (simp; omega)) _ | refine Below.setCell ?_ (by first | (simp; done) | (simp; omega)) _)
theorem s5_ (a b c q:Int) (w:World) (hq:b < q) :
  Calls Tryz.prog 149 #[.agg #[.int .i64 a,.int .i64 b,.int .i64 c],.agg #[.int .i64 1,.int .i64 q]] w fun e w'=>e=.returned (.agg #[.int .i64 a,.int .i64 q,.int .i64 c])∧Below w.heap.size w w':=by
 go_enter Tryz.func149,Tryz.ntmps149
 go_wp2
 go_region
 go_wp2
 refine bodyPost_ret (v:=.agg #[.int .i64 a,.int .i64 q,.int .i64 c]) (by simp [results,Tryz.results149,go_sem]) rfl ⟨rfl,?_⟩
 repeat (first | exact Below.refl _ _ | refine Below.drew ?_ | refine below_drewN ?_ _ | refine Below.alloc ?_ (by first | (simp; done) | (simp; omega)) _ | refine Below.setCell ?_ (by first | (simp; done) | (simp; omega)) _)
theorem s4_ (a b c q:Int) (w:World) (hq:c < q) :
  Calls Tryz.prog 149 #[.agg #[.int .i64 a,.int .i64 b,.int .i64 c],.agg #[.int .i64 2,.int .i64 q]] w fun e w'=>e=.returned (.agg #[.int .i64 a,.int .i64 b,.int .i64 q])∧Below w.heap.size w w':=by
 go_enter Tryz.func149,Tryz.ntmps149
 go_wp2
 go_region
 go_wp2
 refine bodyPost_ret (v:=.agg #[.int .i64 a,.int .i64 b,.int .i64 q]) (by simp [results,Tryz.results149,go_sem]) rfl ⟨rfl,?_⟩
 repeat (first | exact Below.refl _ _ | refine Below.drew ?_ | refine below_drewN ?_ _ | refine Below.alloc ?_ (by first | (simp; done) | (simp; omega)) _ | refine Below.setCell ?_ (by first | (simp; done) | (simp; omega)) _)
theorem s2_ (p n v:Int) (d:Bool) (w:World) (h:dotB p n=false) :
  Calls Tryz.prog 129 #[.agg #[.int .i64 p,.int .i64 n,.int .i64 v,.bool d]] w fun e w'=>e=.returned (.bool false)∧Below w.heap.size w w':=by
 go_enter Tryz.func129,Tryz.ntmps129
 go_wp2_with fail
 refine (yR_ p n _).mono ?_
 rintro e w1 ⟨rfl,hb⟩
 have hz:=hb.size
 simp at hz
 have C2:=za_ hb (b:=w.heap.size) (o:=2) (v:=.int .i64 v) (by go_simp) (by simp)
 have C3:=za_ hb (b:=w.heap.size) (o:=3) (v:=.bool d) (by go_simp) (by simp)
 have hB:Hid (Below w.heap.size w w1):=((Below.refl _ _).alloc (Nat.le_refl _) _).trans (hb.mono (by simp))
 clear hb
 go_wp2
 go_ret
 exact ⟨rfl,hB.out⟩
theorem qk_ (p n v:Int) (d:Bool) (w:World) (h:dotB p n=true) (h1:v < 0) :
  Calls Tryz.prog 129 #[.agg #[.int .i64 p,.int .i64 n,.int .i64 v,.bool d]] w fun e w'=>e=.returned (.bool false)∧Below w.heap.size w w':=by
 have d1:decide (0≤v)=false:=decide_eq_false (by omega)
 go_enter Tryz.func129,Tryz.ntmps129
 go_wp2_with fail
 refine (yR_ p n _).mono ?_
 rintro e w1 ⟨rfl,hb⟩
 have hz:=hb.size
 simp at hz
 have C2:=za_ hb (b:=w.heap.size) (o:=2) (v:=.int .i64 v) (by go_simp) (by simp)
 have C3:=za_ hb (b:=w.heap.size) (o:=3) (v:=.bool d) (by go_simp) (by simp)
 have hB:Hid (Below w.heap.size w w1):=((Below.refl _ _).alloc (Nat.le_refl _) _).trans (hb.mono (by simp))
 clear hb
 go_wp2
 go_ret
 exact ⟨rfl,hB.out⟩
theorem ql_ (p n v:Int) (d:Bool) (w:World) (h:dotB p n=true) (h1:999 < v) :
  Calls Tryz.prog 129 #[.agg #[.int .i64 p,.int .i64 n,.int .i64 v,.bool d]] w fun e w'=>e=.returned (.bool false)∧Below w.heap.size w w':=by
 have d0:0≤v:=by omega
 have d1:decide (v≤999)=false:=decide_eq_false (by omega)
 go_enter Tryz.func129,Tryz.ntmps129
 go_wp2_with fail
 refine (yR_ p n _).mono ?_
 rintro e w1 ⟨rfl,hb⟩
 have hz:=hb.size
 simp at hz
 have C2:=za_ hb (b:=w.heap.size) (o:=2) (v:=.int .i64 v) (by go_simp) (by simp)
 have C3:=za_ hb (b:=w.heap.size) (o:=3) (v:=.bool d) (by go_simp) (by simp)
 have hB:Hid (Below w.heap.size w w1):=((Below.refl _ _).alloc (Nat.le_refl _) _).trans (hb.mono (by simp))
 clear hb
 go_wp2
 go_ret
 exact ⟨rfl,hB.out⟩
theorem tu_ (p n v:Int) (w:World) (h:dotB p n=true) (h1:0≤v) (h2:v≤999) :
  Calls Tryz.prog 129 #[.agg #[.int .i64 p,.int .i64 n,.int .i64 v,.bool false]] w fun e w'=>e=.returned (.bool true)∧Below w.heap.size w w':=by
 go_enter Tryz.func129,Tryz.ntmps129
 go_wp2_with fail
 refine (yR_ p n _).mono ?_
 rintro e w1 ⟨rfl,hb⟩
 have hz:=hb.size
 simp at hz
 have C2:=za_ hb (b:=w.heap.size) (o:=2) (v:=.int .i64 v) (by go_simp) (by simp)
 have C3:=za_ hb (b:=w.heap.size) (o:=3) (v:=.bool false) (by go_simp) (by simp)
 have hB:Hid (Below w.heap.size w w1):=((Below.refl _ _).alloc (Nat.le_refl _) _).trans (hb.mono (by simp))
 clear hb
 go_wp2
 go_ret
 exact ⟨rfl,hB.out⟩
theorem tv_ (p n v:Int) (w:World) (h:dotB p n=true) (h1:0 < v) (h2:v≤999) :
  Calls Tryz.prog 129 #[.agg #[.int .i64 p,.int .i64 n,.int .i64 v,.bool true]] w fun e w'=>e=.returned (.bool false)∧Below w.heap.size w w':=by
 have d0:0≤v:=by omega
 have d1:(v == 0)=false:=beq_eq_false_iff_ne.2 (by omega)
 go_enter Tryz.func129,Tryz.ntmps129
 go_wp2_with fail
 refine (yR_ p n _).mono ?_
 rintro e w1 ⟨rfl,hb⟩
 have hz:=hb.size
 simp at hz
 have C2:=za_ hb (b:=w.heap.size) (o:=2) (v:=.int .i64 v) (by go_simp) (by simp)
 have C3:=za_ hb (b:=w.heap.size) (o:=3) (v:=.bool true) (by go_simp) (by simp)
 have hB:Hid (Below w.heap.size w w1):=((Below.refl _ _).alloc (Nat.le_refl _) _).trans (hb.mono (by simp))
 clear hb
 go_wp2
 go_ret
 exact ⟨rfl,hB.out⟩
theorem tt_ (p n v:Int) (w:World) (h:dotB p n=true) (hv:v=0) :
  Calls Tryz.prog 129 #[.agg #[.int .i64 p,.int .i64 n,.int .i64 v,.bool true]] w fun e w'=>e=.returned (.bool true)∧Below w.heap.size w w':=by
 subst hv
 go_enter Tryz.func129,Tryz.ntmps129
 go_wp2_with fail
 refine (yR_ p n _).mono ?_
 rintro e w1 ⟨rfl,hb⟩
 have hz:=hb.size
 simp at hz
 have C2:=za_ hb (b:=w.heap.size) (o:=2) (v:=.int .i64 0) (by go_simp) (by simp)
 have C3:=za_ hb (b:=w.heap.size) (o:=3) (v:=.bool true) (by go_simp) (by simp)
 have hB:Hid (Below w.heap.size w w1):=((Below.refl _ _).alloc (Nat.le_refl _) _).trans (hb.mono (by simp))
 clear hb
 go_wp2
 go_ret
 exact ⟨rfl,hB.out⟩
theorem y6_ (p n v:Int) (d:Bool) (w:World) :
  Calls Tryz.prog 129 #[.agg #[.int .i64 p,.int .i64 n,.int .i64 v,.bool d]] w fun e w'=>e=.returned (.bool (zV_ p n v d))∧Below w.heap.size w w':=by
 cases h:dotB p n
 ·exact (s2_ p n v d w h).mono fun e w' ⟨he,hb⟩=>⟨he.trans (zi_ (by simp [zV_,h])),hb⟩
 ·by_cases h1:v < 0
  ·have hn:¬ 0≤v:=by omega
   exact (qk_ p n v d w h h1).mono fun e w' ⟨he,hb⟩=>⟨he.trans (zi_ (by simp [zV_,h,hn])),hb⟩
  ·by_cases h2:999 < v
   ·have hn:¬ v≤999:=by omega
    exact (ql_ p n v d w h h2).mono fun e w' ⟨he,hb⟩=>⟨he.trans (zi_ (by simp [zV_,h,hn])),hb⟩
   ·have q1:0≤v:=by omega
    have q2:v≤999:=by omega
    cases d
    ·exact (tu_ p n v w h q1 q2).mono fun e w' ⟨he,hb⟩=>⟨he.trans (zi_ (by simp [zV_,h,q1,q2])),hb⟩
    ·by_cases h3:v=0
     ·exact (tt_ p n v w h h3).mono fun e w' ⟨he,hb⟩=>⟨he.trans (zi_ (by simp [zV_,h,h3])),hb⟩
     ·exact (tv_ p n v w h (by omega) q2).mono fun e w' ⟨he,hb⟩=>⟨he.trans (zi_ (by simp [zV_,h,h3])),hb⟩
end Go.Proofs.YtiokjphefpicbaaGreatDoor
