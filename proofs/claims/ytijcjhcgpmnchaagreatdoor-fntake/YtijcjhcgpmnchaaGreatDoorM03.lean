/- Nodes, part 3 of the law FnTake. -/
import Derived.Test.YtijcjhcgpmnchaaGreatDoorM01
import Derived.RegionTactic
import Derived.BigRegion
namespace Go.Proofs.YtijcjhcgpmnchaaGreatDoor
open Go.RowKit
set_option maxRecDepth 100000
set_option maxHeartbeats 16000000
set_option linter.unusedSimpArgs false
set_option linter.unusedVariables false
def dotB (x y:Int):Bool:=decide (0<=x∧x < 3∧1<=y∧y<=9999)
def vvB (a b c:Int):Bool:=decide ((0<=a∧a<=9999)∧(0<=b∧b<=9999)∧(0<=c∧c<=9999))
theorem idx0 (a b c:Int) (w:World):(Instr.index 35 (.agg #[.int .i64 a,.int .i64 b,.int .i64 c]) (.int .i64 0)).run Tryz.prog w=.ok (.int .i64 a) w:=by kernel_rfl
theorem idx1 (a b c:Int) (w:World):(Instr.index 35 (.agg #[.int .i64 a,.int .i64 b,.int .i64 c]) (.int .i64 1)).run Tryz.prog w=.ok (.int .i64 b) w:=by kernel_rfl
theorem idx2 (a b c:Int) (w:World):(Instr.index 35 (.agg #[.int .i64 a,.int .i64 b,.int .i64 c]) (.int .i64 2)).run Tryz.prog w=.ok (.int .i64 c) w:=by kernel_rfl
theorem rH_ (a b c:Int) (w:World) :
  Calls Tryz.prog 47 #[.agg #[.int .i64 a,.int .i64 b,.int .i64 c]] w fun e w'=>e=.returned (.bool (vvB a b c))∧Below w.heap.size w w':=by
 have cs:a < 0∨(0<=a∧9999 < a)∨(0<=a∧a<=9999∧b < 0)∨(0<=a∧a<=9999∧0<=b∧9999 < b)∨(0<=a∧a<=9999∧0<=b∧b<=9999∧c < 0)∨(0<=a∧a<=9999∧0<=b∧b<=9999∧0<=c∧9999 < c)∨(0<=a∧a<=9999∧0<=b∧b<=9999∧0<=c∧c<=9999):=by omega
 have i0:=idx0 a b c;have i1:=idx1 a b c;have i2:=idx2 a b c;rcases cs with h1 | ⟨h1,h2⟩ | ⟨h1,h2,h3⟩ | ⟨h1,h2,h3,h4⟩ | ⟨h1,h2,h3,h4,h5⟩ | ⟨h1,h2,h3,h4,h5,h6⟩ | ⟨h1,h2,h3,h4,h5,h6⟩
 case inr.inr.inr.inr.inr.inr=>
  have HB:Hid (vvB a b c=true):=decide_eq_true (by omega);go_enter Tryz.func47,Tryz.ntmps47;go_wp2;refine wp_loop_rounds 4 ?_
  repeat (rw [rounds_succ]; go_wp2)
  go_ret;exact ⟨zi_ HB.out.symm,(Below.refl _ _).alloc (Nat.le_refl _) _⟩
 all_goals
  have HB:Hid (vvB a b c=false):=decide_eq_false (by omega)
  try (have da:decide (a<=9999)=false:=decide_eq_false (by omega))
  try (have db:decide (b<=9999)=false:=decide_eq_false (by omega))
  try (have dc:decide (c<=9999)=false:=decide_eq_false (by omega))
  go_enter Tryz.func47,Tryz.ntmps47;go_wp2;refine wp_loop_rounds 4 ?_
  repeat (rw [rounds_succ]; go_wp2)
  go_ret;exact ⟨zi_ HB.out.symm,(Below.refl _ _).alloc (Nat.le_refl _) _⟩
theorem sl_ (a b c x y z m n o:Int) (w:World) (h1:(a < x∧m=x)∨(x<=a∧m=a)) (h2:(b < y∧n=y)∨(y<=b∧n=b)) (h3:(c < z∧o=z)∨(z<=c∧o=c)) :
  Calls Tryz.prog 151 #[.agg #[.int .i64 a,.int .i64 b,.int .i64 c],.agg #[.int .i64 x,.int .i64 y,.int .i64 z]] w fun e w'=>e=.returned (.agg #[.int .i64 m,.int .i64 n,.int .i64 o])∧Below w.heap.size w w':=by
 rcases h1 with ⟨h1,k1⟩ | ⟨h1,k1⟩ <;> rcases h2 with ⟨h2,k2⟩ | ⟨h2,k2⟩ <;> rcases h3 with ⟨h3,k3⟩ | ⟨h3,k3⟩ <;> subst k1 k2 k3
 all_goals
  go_enter Tryz.func151,Tryz.ntmps151;go_wp2;refine wp_loop_rounds 4 ?_
  repeat (rw [rounds_succ]; go_wp2; (try (go_region; go_wp2)))
  refine bodyPost_ret (v:=.agg #[.int .i64 m,.int .i64 n,.int .i64 o]) (by simp [results,Tryz.results151,go_sem]) rfl ⟨rfl,?_⟩
  repeat (first | exact Below.refl _ _ | refine Below.drew ?_ | refine below_drewN ?_ _ | refine Below.alloc ?_ (by first | (simp; done) | (simp; omega)) _ | refine Below.setCell ?_ (by first | (simp; done) | (simp; omega)) _)
def comp (a b c p:Int):Int:=if p=0 then a else if p=1 then b else c
theorem yX_ (p q:Int) (w:World) :
  Calls Tryz.prog 162 #[.agg #[.int .i64 p,.int .i64 q]] w fun e w'=>e=.returned (.bool (dotB p q))∧Below w.heap.size w w':=by
 by_cases h1:0<=p <;> by_cases h2:p < 3 <;> by_cases h3:1<=q <;> by_cases h4:q<=9999
 all_goals first
  | (exfalso; omega)
  | skip
 all_goals
  have HB:Hid (dotB p q=(decide (0<=p∧p < 3∧1<=q∧q<=9999))):=rfl;go_enter Tryz.func162,Tryz.ntmps162;go_wp2;go_ret;refine ⟨zi_ (by rw [HB.out]; simp [h1,h2,h3,h4]),?_⟩
  repeat (first | exact Below.refl _ _ | refine Below.drew ?_ | refine below_drewN ?_ _ | refine Below.alloc ?_ (by first | (simp; done) | (simp; omega)) _ | refine Below.setCell ?_ (by first | (simp; done) | (simp; omega)) _)
theorem u8_ (a b c q:Int) (w:World) (hq:q<=a) :
  Calls Tryz.prog 100 #[.agg #[.int .i64 a,.int .i64 b,.int .i64 c],.agg #[.int .i64 0,.int .i64 q]] w fun e w'=>e=.returned (.bool true)∧Below w.heap.size w w':=by
 have dq:decide (q<=a)=true:=by simp; omega
 go_enter Tryz.func100,Tryz.ntmps100;go_wp2
 go_quiet (fail)
 go_wp2;go_ret;refine ⟨zi_ (by simp [dq]),?_⟩
 repeat (first | exact Below.refl _ _ | refine Below.drew ?_ | refine below_drewN ?_ _ | refine Below.alloc ?_ (by first | (simp; done) | (simp; omega)) _ | refine Below.setCell ?_ (by first | (simp; done) | (simp; omega)) _)
theorem uq_ (a b c q:Int) (w:World) (hq:a < q) :
  Calls Tryz.prog 100 #[.agg #[.int .i64 a,.int .i64 b,.int .i64 c],.agg #[.int .i64 0,.int .i64 q]] w fun e w'=>e=.returned (.bool false)∧Below w.heap.size w w':=by
 have dq:decide (q<=a)=false:=by simp; omega
 go_enter Tryz.func100,Tryz.ntmps100;go_wp2
 go_quiet (fail)
 go_wp2;go_ret;refine ⟨zi_ (by simp [dq]),?_⟩
 repeat (first | exact Below.refl _ _ | refine Below.drew ?_ | refine below_drewN ?_ _ | refine Below.alloc ?_ (by first | (simp; done) | (simp; omega)) _ | refine Below.setCell ?_ (by first | (simp; done) | (simp; omega)) _)
theorem u7_ (a b c q:Int) (w:World) (hq:q<=b) :
  Calls Tryz.prog 100 #[.agg #[.int .i64 a,.int .i64 b,.int .i64 c],.agg #[.int .i64 1,.int .i64 q]] w fun e w'=>e=.returned (.bool true)∧Below w.heap.size w w':=by
 have dq:decide (q<=b)=true:=by simp; omega
 go_enter Tryz.func100,Tryz.ntmps100;go_wp2
 go_quiet (fail)
 go_wp2;go_ret;refine ⟨zi_ (by simp [dq]),?_⟩
 repeat (first | exact Below.refl _ _ | refine Below.drew ?_ | refine below_drewN ?_ _ | refine Below.alloc ?_ (by first | (simp; done) | (simp; omega)) _ | refine Below.setCell ?_ (by first | (simp; done) | (simp; omega)) _)
theorem up_ (a b c q:Int) (w:World) (hq:b < q) :
  Calls Tryz.prog 100 #[.agg #[.int .i64 a,.int .i64 b,.int .i64 c],.agg #[.int .i64 1,.int .i64 q]] w fun e w'=>e=.returned (.bool false)∧Below w.heap.size w w':=by
 have dq:decide (q<=b)=false:=by simp; omega
 go_enter Tryz.func100,Tryz.ntmps100;go_wp2
 go_quiet (fail)
 go_wp2;go_ret;refine ⟨zi_ (by simp [dq]),?_⟩
 repeat (first | exact Below.refl _ _ | refine Below.drew ?_ | refine below_drewN ?_ _ | refine Below.alloc ?_ (by first | (simp; done) | (simp; omega)) _ | refine Below.setCell ?_ (by first | (simp; done) | (simp; omega)) _)
theorem u6_ (a b c q:Int) (w:World) (hq:q<=c) :
  Calls Tryz.prog 100 #[.agg #[.int .i64 a,.int .i64 b,.int .i64 c],.agg #[.int .i64 2,.int .i64 q]] w fun e w'=>e=.returned (.bool true)∧Below w.heap.size w w':=by
 have dq:decide (q<=c)=true:=by simp; omega
 go_enter Tryz.func100,Tryz.ntmps100;go_wp2
 go_quiet (fail)
 go_wp2;go_ret;refine ⟨zi_ (by simp [dq]),?_⟩
 repeat (first | exact Below.refl _ _ | refine Below.drew ?_ | refine below_drewN ?_ _ | refine Below.alloc ?_ (by first | (simp; done) | (simp; omega)) _ | refine Below.setCell ?_ (by first | (simp; done) | (simp; omega)) _)
theorem uo_ (a b c q:Int) (w:World) (hq:c < q) :
  Calls Tryz.prog 100 #[.agg #[.int .i64 a,.int .i64 b,.int .i64 c],.agg #[.int .i64 2,.int .i64 q]] w fun e w'=>e=.returned (.bool false)∧Below w.heap.size w w':=by
 have dq:decide (q<=c)=false:=by simp; omega
 go_enter Tryz.func100,Tryz.ntmps100;go_wp2
 go_quiet (fail)
 go_wp2;go_ret;refine ⟨zi_ (by simp [dq]),?_⟩
 repeat (first | exact Below.refl _ _ | refine Below.drew ?_ | refine below_drewN ?_ _ | refine Below.alloc ?_ (by first | (simp; done) | (simp; omega)) _ | refine Below.setCell ?_ (by first | (simp; done) | (simp; omega)) _)
def z5_ (x y u v:Int):Int:=if x < u then -1 else if u < x then 1 else if y < v then -1 else if v < y then 1 else 0
def zW_ (p n v:Int) (d:Bool):Bool:=dotB p n && (decide (0<=v) && decide (v<=999)) && (!d || v == 0)
theorem yk_ (a b c p q:Int) (w:World) (h0:0<=p) (h3:p < 3) :
  Calls Tryz.prog 100 #[.agg #[.int .i64 a,.int .i64 b,.int .i64 c],.agg #[.int .i64 p,.int .i64 q]] w fun e w'=>e=.returned (.bool (decide (q<=comp a b c p)))∧Below w.heap.size w w':=by
 have hp:p=0∨p=1∨p=2:=by omega
 rcases hp with rfl | rfl | rfl
 ·by_cases h:q<=a
  ·exact (u8_ a b c q w h).mono fun e w' ⟨he,hb⟩=>⟨he.trans (zi_ (by simp [comp,h])),hb⟩
  ·exact (uq_ a b c q w (by omega)).mono fun e w' ⟨he,hb⟩=>⟨he.trans (zi_ (by simp [comp,h])),hb⟩
 ·by_cases h:q<=b
  ·exact (u7_ a b c q w h).mono fun e w' ⟨he,hb⟩=>⟨he.trans (zi_ (by simp [comp,h])),hb⟩
  ·exact (up_ a b c q w (by omega)).mono fun e w' ⟨he,hb⟩=>⟨he.trans (zi_ (by simp [comp,h])),hb⟩
 ·by_cases h:q<=c
  ·exact (u6_ a b c q w h).mono fun e w' ⟨he,hb⟩=>⟨he.trans (zi_ (by simp [comp,h])),hb⟩
  ·exact (uo_ a b c q w (by omega)).mono fun e w' ⟨he,hb⟩=>⟨he.trans (zi_ (by simp [comp,h])),hb⟩
theorem xu_ (x y u v:Int) (w:World) :
  Calls Tryz.prog 129 #[.agg #[.int .i64 x,.int .i64 y],.agg #[.int .i64 u,.int .i64 v]] w fun e w'=>e=.returned (.int .i64 (z5_ x y u v))∧Below w.heap.size w w':=by
 have cs:x < u∨u < x∨(x=u∧y < v)∨(x=u∧v < y)∨(x=u∧y=v):=by omega
 rcases cs with h | h | ⟨rfl,h⟩ | ⟨rfl,h⟩ | ⟨rfl,rfl⟩
 focus
  have HR:Hid (z5_ x y u v = -1):=by unfold Hid z5_; simp [h]
  have hne:(x == u)=false:=beq_eq_false_iff_ne.2 (by omega)
 rotate_left
 focus
  have HR:Hid (z5_ x y u v=1):=by unfold Hid z5_; rw [if_neg (by omega),if_pos h]
  have hne:(x == u)=false:=beq_eq_false_iff_ne.2 (by omega)
 rotate_left
 focus
  have HR:Hid (z5_ x y x v = -1):=by unfold Hid z5_; simp [h]
  have hne:(y == v)=false:=beq_eq_false_iff_ne.2 (by omega)
 rotate_left
 focus
  have HR:Hid (z5_ x y x v=1):=by
   unfold Hid z5_
   have:¬ y < v:=by omega
   simp [h,this]
  have hne:(y == v)=false:=beq_eq_false_iff_ne.2 (by omega)
 rotate_left
 focus
  have HR:Hid (z5_ x y x y=0):=by unfold Hid z5_; simp
 rotate_left
 all_goals
  go_enter Tryz.func129,Tryz.ntmps129;go_wp2;go_ret;exact ⟨xJ_ HR.out.symm,((Below.refl _ _).alloc (Nat.le_refl _) _).alloc (by simp) _⟩
theorem qB_ (a b c:Int) (w:World) :
  Calls Tryz.prog 39 #[.agg #[.int .i64 a,.int .i64 b,.int .i64 c]] w fun e w'=>e=.returned (.bool (vvB a b c))∧Below w.heap.size w w':=by
 have cs:a < 0∨(0<=a∧9999 < a)∨(0<=a∧a<=9999∧b < 0)∨(0<=a∧a<=9999∧0<=b∧9999 < b)∨(0<=a∧a<=9999∧0<=b∧b<=9999∧c < 0)∨(0<=a∧a<=9999∧0<=b∧b<=9999∧0<=c∧9999 < c)∨(0<=a∧a<=9999∧0<=b∧b<=9999∧0<=c∧c<=9999):=by omega
 have i0:=idx0 a b c;have i1:=idx1 a b c;have i2:=idx2 a b c;rcases cs with h1 | ⟨h1,h2⟩ | ⟨h1,h2,h3⟩ | ⟨h1,h2,h3,h4⟩ | ⟨h1,h2,h3,h4,h5⟩ | ⟨h1,h2,h3,h4,h5,h6⟩ | ⟨h1,h2,h3,h4,h5,h6⟩
 case inr.inr.inr.inr.inr.inr=>
  have HB:Hid (vvB a b c=true):=decide_eq_true (by omega);go_enter Tryz.func39,Tryz.ntmps39;go_wp2;refine wp_loop_rounds 4 ?_
  repeat (rw [rounds_succ]; go_wp2)
  go_ret;exact ⟨zi_ HB.out.symm,(Below.refl _ _).alloc (Nat.le_refl _) _⟩
 all_goals
  have HB:Hid (vvB a b c=false):=decide_eq_false (by omega)
  try (have da:decide (a<=9999)=false:=decide_eq_false (by omega))
  try (have db:decide (b<=9999)=false:=decide_eq_false (by omega))
  try (have dc:decide (c<=9999)=false:=decide_eq_false (by omega))
  go_enter Tryz.func39,Tryz.ntmps39;go_wp2;refine wp_loop_rounds 4 ?_
  repeat (rw [rounds_succ]; go_wp2)
  go_ret;exact ⟨zi_ HB.out.symm,(Below.refl _ _).alloc (Nat.le_refl _) _⟩
theorem vQ_ (a:Int) (w:World):Calls Tryz.prog 56 #[.int .i64 a] w fun e w'=>e=.returned (.bool (decide (0<=a∧a < 3)))∧Below w.heap.size w w':=by
 by_cases h0:0<=a
 ·by_cases h1:a < 3
  ·have HD:Hid (decide (0<=a∧a < 3)=true):=decide_eq_true ⟨h0,by omega⟩;go_enter Tryz.func56,Tryz.ntmps56;go_wp2;go_ret;exact ⟨zi_ HD.out.symm,Below.refl _ _⟩
  ·have HD:Hid (decide (0<=a∧a < 3)=false):=decide_eq_false (by omega);go_enter Tryz.func56,Tryz.ntmps56;go_wp2;go_ret;exact ⟨zi_ (by first | exact HD.out.symm | (simp; done) | (simp; omega)),Below.refl _ _⟩
 ·have HD:Hid (decide (0<=a∧a < 3)=false):=decide_eq_false (by omega);go_enter Tryz.func56,Tryz.ntmps56;go_wp2;go_ret;exact ⟨zi_ (by first | exact HD.out.symm | (simp; done) | (simp; omega)),Below.refl _ _⟩
theorem wl_ (p q:Int) (w:World) :
  Calls Tryz.prog 156 #[.agg #[.int .i64 p,.int .i64 q]] w fun e w'=>e=.returned (.bool (dotB p q))∧Below w.heap.size w w':=by
 by_cases hp:0<=p∧p < 3
 ·have C:Hid (∀ W,Calls Tryz.prog 56 #[.int .i64 p] W fun e w'=>e=.returned (.bool true)∧Below W.heap.size W w'):=fun W=>by
   have h:=vQ_ p W;rw [decide_eq_true hp] at h;exact h
  by_cases h3:1<=q <;> by_cases h4:q<=9999
  all_goals first
   | (exfalso; omega)
   | skip
  all_goals
   have HB:Hid (dotB p q=(decide (0<=p∧p < 3∧1<=q∧q<=9999))):=rfl;go_enter Tryz.func156,Tryz.ntmps156;go_wp2_with fail;refine Calls.mono (C.out _) ?_;rintro e w1 ⟨rfl,hb⟩;have hB1:Hid (Below w.heap.size w w1):=(Below.alloc (Below.refl _ _) (Nat.le_refl _) _).trans (hb.mono (by simp));have x1:w1.cell? ⟨w.heap.size,1,none⟩=some (.int .i64 q):=by rw [hb.cell (p:=⟨w.heap.size,1,none⟩) (by simp)]; go_simp
   clear hb;go_wp2;go_ret;exact ⟨zi_ (by rw [HB.out]; simp [hp,h3,h4]),hB1.out⟩
 ·have C:Hid (∀ W,Calls Tryz.prog 56 #[.int .i64 p] W fun e w'=>e=.returned (.bool false)∧Below W.heap.size W w'):=fun W=>by
   have h:=vQ_ p W;rw [decide_eq_false hp] at h;exact h
  have HB:Hid (dotB p q=false):=decide_eq_false (by omega);clear hp;go_enter Tryz.func156,Tryz.ntmps156;go_wp2_with fail;refine Calls.mono (C.out _) ?_;rintro e w1 ⟨rfl,hb⟩;have hB1:Hid (Below w.heap.size w w1):=(Below.alloc (Below.refl _ _) (Nat.le_refl _) _).trans (hb.mono (by simp));clear hb;go_wp2;go_ret;exact ⟨zi_ HB.out.symm,hB1.out⟩
theorem rm_ (a b c q:Int) (w:World) (hq:a < q) :
  Calls Tryz.prog 150 #[.agg #[.int .i64 a,.int .i64 b,.int .i64 c],.agg #[.int .i64 0,.int .i64 q]] w fun e w'=>e=.returned (.agg #[.int .i64 q,.int .i64 b,.int .i64 c])∧Below w.heap.size w w':=by
 go_enter Tryz.func150,Tryz.ntmps150;go_wp2
 go_region
 go_wp2;refine bodyPost_ret (v:=.agg #[.int .i64 q,.int .i64 b,.int .i64 c]) (by simp [results,Tryz.results150,go_sem]) rfl ⟨rfl,?_⟩
 repeat (first | exact Below.refl _ _ | refine Below.drew ?_ | refine below_drewN ?_ _ | refine Below.alloc ?_ (by first | (simp; done) | (simp; omega)) _ | refine Below.setCell ?_ (by first | (simp; done) | (simp; omega)) _)
theorem rl_ (a b c q:Int) (w:World) (hq:b < q) :
  Calls Tryz.prog 150 #[.agg #[.int .i64 a,.int .i64 b,.int .i64 c],.agg #[.int .i64 1,.int .i64 q]] w fun e w'=>e=.returned (.agg #[.int .i64 a,.int .i64 q,.int .i64 c])∧Below w.heap.size w w':=by
 go_enter Tryz.func150,Tryz.ntmps150;go_wp2
 go_region
 go_wp2;refine bodyPost_ret (v:=.agg #[.int .i64 a,.int .i64 q,.int .i64 c]) (by simp [results,Tryz.results150,go_sem]) rfl ⟨rfl,?_⟩
 repeat (first | exact Below.refl _ _ | refine Below.drew ?_ | refine below_drewN ?_ _ | refine Below.alloc ?_ (by first | (simp; done) | (simp; omega)) _ | refine Below.setCell ?_ (by first | (simp; done) | (simp; omega)) _)
theorem rk_ (a b c q:Int) (w:World) (hq:c < q) :
  Calls Tryz.prog 150 #[.agg #[.int .i64 a,.int .i64 b,.int .i64 c],.agg #[.int .i64 2,.int .i64 q]] w fun e w'=>e=.returned (.agg #[.int .i64 a,.int .i64 b,.int .i64 q])∧Below w.heap.size w w':=by
 go_enter Tryz.func150,Tryz.ntmps150;go_wp2
 go_region
 go_wp2;refine bodyPost_ret (v:=.agg #[.int .i64 a,.int .i64 b,.int .i64 q]) (by simp [results,Tryz.results150,go_sem]) rfl ⟨rfl,?_⟩
 repeat (first | exact Below.refl _ _ | refine Below.drew ?_ | refine below_drewN ?_ _ | refine Below.alloc ?_ (by first | (simp; done) | (simp; omega)) _ | refine Below.setCell ?_ (by first | (simp; done) | (simp; omega)) _)
theorem ri_ (p n v:Int) (d:Bool) (w:World) (h:dotB p n=false) :
  Calls Tryz.prog 128 #[.agg #[.int .i64 p,.int .i64 n,.int .i64 v,.bool d]] w fun e w'=>e=.returned (.bool false)∧Below w.heap.size w w':=by
 go_enter Tryz.func128,Tryz.ntmps128;go_wp2_with fail;refine (yX_ p n _).mono ?_;rintro e w1 ⟨rfl,hb⟩;have hz:=hb.size;simp at hz;have C2:=za_ hb (b:=w.heap.size) (o:=2) (v:=.int .i64 v) (by go_simp) (by simp);have C3:=za_ hb (b:=w.heap.size) (o:=3) (v:=.bool d) (by go_simp) (by simp);have hB:Hid (Below w.heap.size w w1):=((Below.refl _ _).alloc (Nat.le_refl _) _).trans (hb.mono (by simp));clear hb;go_wp2;go_ret;exact ⟨rfl,hB.out⟩
theorem qs_ (p n v:Int) (d:Bool) (w:World) (h:dotB p n=true) (h1:v < 0) :
  Calls Tryz.prog 128 #[.agg #[.int .i64 p,.int .i64 n,.int .i64 v,.bool d]] w fun e w'=>e=.returned (.bool false)∧Below w.heap.size w w':=by
 have d1:decide (0<=v)=false:=decide_eq_false (by omega);go_enter Tryz.func128,Tryz.ntmps128;go_wp2_with fail;refine (yX_ p n _).mono ?_;rintro e w1 ⟨rfl,hb⟩;have hz:=hb.size;simp at hz;have C2:=za_ hb (b:=w.heap.size) (o:=2) (v:=.int .i64 v) (by go_simp) (by simp);have C3:=za_ hb (b:=w.heap.size) (o:=3) (v:=.bool d) (by go_simp) (by simp);have hB:Hid (Below w.heap.size w w1):=((Below.refl _ _).alloc (Nat.le_refl _) _).trans (hb.mono (by simp));clear hb;go_wp2;go_ret;exact ⟨rfl,hB.out⟩
theorem qt_ (p n v:Int) (d:Bool) (w:World) (h:dotB p n=true) (h1:999 < v) :
  Calls Tryz.prog 128 #[.agg #[.int .i64 p,.int .i64 n,.int .i64 v,.bool d]] w fun e w'=>e=.returned (.bool false)∧Below w.heap.size w w':=by
 have d0:0<=v:=by omega
 have d1:decide (v<=999)=false:=decide_eq_false (by omega);go_enter Tryz.func128,Tryz.ntmps128;go_wp2_with fail;refine (yX_ p n _).mono ?_;rintro e w1 ⟨rfl,hb⟩;have hz:=hb.size;simp at hz;have C2:=za_ hb (b:=w.heap.size) (o:=2) (v:=.int .i64 v) (by go_simp) (by simp);have C3:=za_ hb (b:=w.heap.size) (o:=3) (v:=.bool d) (by go_simp) (by simp);have hB:Hid (Below w.heap.size w w1):=((Below.refl _ _).alloc (Nat.le_refl _) _).trans (hb.mono (by simp));clear hb;go_wp2;go_ret;exact ⟨rfl,hB.out⟩
theorem tU_ (p n v:Int) (w:World) (h:dotB p n=true) (h1:0<=v) (h2:v<=999) :
  Calls Tryz.prog 128 #[.agg #[.int .i64 p,.int .i64 n,.int .i64 v,.bool false]] w fun e w'=>e=.returned (.bool true)∧Below w.heap.size w w':=by
 go_enter Tryz.func128,Tryz.ntmps128;go_wp2_with fail;refine (yX_ p n _).mono ?_;rintro e w1 ⟨rfl,hb⟩;have hz:=hb.size;simp at hz;have C2:=za_ hb (b:=w.heap.size) (o:=2) (v:=.int .i64 v) (by go_simp) (by simp);have C3:=za_ hb (b:=w.heap.size) (o:=3) (v:=.bool false) (by go_simp) (by simp);have hB:Hid (Below w.heap.size w w1):=((Below.refl _ _).alloc (Nat.le_refl _) _).trans (hb.mono (by simp));clear hb;go_wp2;go_ret;exact ⟨rfl,hB.out⟩
theorem tV_ (p n v:Int) (w:World) (h:dotB p n=true) (h1:0 < v) (h2:v<=999) :
  Calls Tryz.prog 128 #[.agg #[.int .i64 p,.int .i64 n,.int .i64 v,.bool true]] w fun e w'=>e=.returned (.bool false)∧Below w.heap.size w w':=by
 have d0:0<=v:=by omega
 have d1:(v == 0)=false:=beq_eq_false_iff_ne.2 (by omega);go_enter Tryz.func128,Tryz.ntmps128;go_wp2_with fail;refine (yX_ p n _).mono ?_;rintro e w1 ⟨rfl,hb⟩;have hz:=hb.size;simp at hz;have C2:=za_ hb (b:=w.heap.size) (o:=2) (v:=.int .i64 v) (by go_simp) (by simp);have C3:=za_ hb (b:=w.heap.size) (o:=3) (v:=.bool true) (by go_simp) (by simp);have hB:Hid (Below w.heap.size w w1):=((Below.refl _ _).alloc (Nat.le_refl _) _).trans (hb.mono (by simp));clear hb;go_wp2;go_ret;exact ⟨rfl,hB.out⟩
theorem tT_ (p n v:Int) (w:World) (h:dotB p n=true) (hv:v=0) :
  Calls Tryz.prog 128 #[.agg #[.int .i64 p,.int .i64 n,.int .i64 v,.bool true]] w fun e w'=>e=.returned (.bool true)∧Below w.heap.size w w':=by
 subst hv;go_enter Tryz.func128,Tryz.ntmps128;go_wp2_with fail;refine (yX_ p n _).mono ?_;rintro e w1 ⟨rfl,hb⟩;have hz:=hb.size;simp at hz;have C2:=za_ hb (b:=w.heap.size) (o:=2) (v:=.int .i64 0) (by go_simp) (by simp);have C3:=za_ hb (b:=w.heap.size) (o:=3) (v:=.bool true) (by go_simp) (by simp);have hB:Hid (Below w.heap.size w w1):=((Below.refl _ _).alloc (Nat.le_refl _) _).trans (hb.mono (by simp));clear hb;go_wp2;go_ret;exact ⟨rfl,hB.out⟩
theorem xe_ (p n v:Int) (d:Bool) (w:World) :
  Calls Tryz.prog 128 #[.agg #[.int .i64 p,.int .i64 n,.int .i64 v,.bool d]] w fun e w'=>e=.returned (.bool (zW_ p n v d))∧Below w.heap.size w w':=by
 cases h:dotB p n
 ·exact (ri_ p n v d w h).mono fun e w' ⟨he,hb⟩=>⟨he.trans (zi_ (by simp [zW_,h])),hb⟩
 ·by_cases h1:v < 0
  ·have hn:¬ 0<=v:=by omega
   exact (qs_ p n v d w h h1).mono fun e w' ⟨he,hb⟩=>⟨he.trans (zi_ (by simp [zW_,h,hn])),hb⟩
  ·by_cases h2:999 < v
   ·have hn:¬ v<=999:=by omega
    exact (qt_ p n v d w h h2).mono fun e w' ⟨he,hb⟩=>⟨he.trans (zi_ (by simp [zW_,h,hn])),hb⟩
   ·have q1:0<=v:=by omega
    have q2:v<=999:=by omega
    cases d
    ·exact (tU_ p n v w h q1 q2).mono fun e w' ⟨he,hb⟩=>⟨he.trans (zi_ (by simp [zW_,h,q1,q2])),hb⟩
    ·by_cases h3:v=0
     ·exact (tT_ p n v w h h3).mono fun e w' ⟨he,hb⟩=>⟨he.trans (zi_ (by simp [zW_,h,h3])),hb⟩
     ·exact (tV_ p n v w h (by omega) q2).mono fun e w' ⟨he,hb⟩=>⟨he.trans (zi_ (by simp [zW_,h,h3])),hb⟩
end Go.Proofs.YtijcjhcgpmnchaaGreatDoor
