/- Nodes, part 4 of the law FnTake. -/
import Derived.Test.YtijcjhcgpmnchaaGreatDoorM03
import Derived.Deep.RegionWith
namespace Go.Proofs.YtijcjhcgpmnchaaGreatDoor
open Go.RowKit
set_option maxRecDepth 100000
set_option maxHeartbeats 16000000
set_option linter.unusedSimpArgs false
set_option linter.unusedVariables false
section
variable {W W' w:World} {x y:Int}
theorem t0_ (a b c q:Int) (w:World) (hq:q<=a) :
  Calls Tryz.prog 87 #[.agg #[.int .i64 a,.int .i64 b,.int .i64 c],.agg #[.int .i64 0,.int .i64 q]] w fun e w'=>e=.returned (.bool true)∧Below w.heap.size w w':=by
 have dq:decide (q<=a)=true:=by simp; omega
 go_enter Tryz.func87,Tryz.ntmps87;go_wp2
 go_quiet (fail)
 go_wp2;go_ret;refine ⟨zi_ (by simp [dq]),?_⟩
 repeat (first | exact Below.refl _ _ | refine Below.drew ?_ | refine below_drewN ?_ _ | refine Below.alloc ?_ (by first | (simp; done) | (simp; omega)) _ | refine Below.setCell ?_ (by first | (simp; done) | (simp; omega)) _)
theorem tb_ (a b c q:Int) (w:World) (hq:a < q) :
  Calls Tryz.prog 87 #[.agg #[.int .i64 a,.int .i64 b,.int .i64 c],.agg #[.int .i64 0,.int .i64 q]] w fun e w'=>e=.returned (.bool false)∧Below w.heap.size w w':=by
 have dq:decide (q<=a)=false:=by simp; omega
 go_enter Tryz.func87,Tryz.ntmps87;go_wp2
 go_quiet (fail)
 go_wp2;go_ret;refine ⟨zi_ (by simp [dq]),?_⟩
 repeat (first | exact Below.refl _ _ | refine Below.drew ?_ | refine below_drewN ?_ _ | refine Below.alloc ?_ (by first | (simp; done) | (simp; omega)) _ | refine Below.setCell ?_ (by first | (simp; done) | (simp; omega)) _)
theorem tZ_ (a b c q:Int) (w:World) (hq:q<=b) :
  Calls Tryz.prog 87 #[.agg #[.int .i64 a,.int .i64 b,.int .i64 c],.agg #[.int .i64 1,.int .i64 q]] w fun e w'=>e=.returned (.bool true)∧Below w.heap.size w w':=by
 have dq:decide (q<=b)=true:=by simp; omega
 go_enter Tryz.func87,Tryz.ntmps87;go_wp2
 go_quiet (fail)
 go_wp2;go_ret;refine ⟨zi_ (by simp [dq]),?_⟩
 repeat (first | exact Below.refl _ _ | refine Below.drew ?_ | refine below_drewN ?_ _ | refine Below.alloc ?_ (by first | (simp; done) | (simp; omega)) _ | refine Below.setCell ?_ (by first | (simp; done) | (simp; omega)) _)
theorem ta_ (a b c q:Int) (w:World) (hq:b < q) :
  Calls Tryz.prog 87 #[.agg #[.int .i64 a,.int .i64 b,.int .i64 c],.agg #[.int .i64 1,.int .i64 q]] w fun e w'=>e=.returned (.bool false)∧Below w.heap.size w w':=by
 have dq:decide (q<=b)=false:=by simp; omega
 go_enter Tryz.func87,Tryz.ntmps87;go_wp2
 go_quiet (fail)
 go_wp2;go_ret;refine ⟨zi_ (by simp [dq]),?_⟩
 repeat (first | exact Below.refl _ _ | refine Below.drew ?_ | refine below_drewN ?_ _ | refine Below.alloc ?_ (by first | (simp; done) | (simp; omega)) _ | refine Below.setCell ?_ (by first | (simp; done) | (simp; omega)) _)
theorem tY_ (a b c q:Int) (w:World) (hq:q<=c) :
  Calls Tryz.prog 87 #[.agg #[.int .i64 a,.int .i64 b,.int .i64 c],.agg #[.int .i64 2,.int .i64 q]] w fun e w'=>e=.returned (.bool true)∧Below w.heap.size w w':=by
 have dq:decide (q<=c)=true:=by simp; omega
 go_enter Tryz.func87,Tryz.ntmps87;go_wp2
 go_quiet (fail)
 go_wp2;go_ret;refine ⟨zi_ (by simp [dq]),?_⟩
 repeat (first | exact Below.refl _ _ | refine Below.drew ?_ | refine below_drewN ?_ _ | refine Below.alloc ?_ (by first | (simp; done) | (simp; omega)) _ | refine Below.setCell ?_ (by first | (simp; done) | (simp; omega)) _)
theorem u9_ (a b c q:Int) (w:World) (hq:c < q) :
  Calls Tryz.prog 87 #[.agg #[.int .i64 a,.int .i64 b,.int .i64 c],.agg #[.int .i64 2,.int .i64 q]] w fun e w'=>e=.returned (.bool false)∧Below w.heap.size w w':=by
 have dq:decide (q<=c)=false:=by simp; omega
 go_enter Tryz.func87,Tryz.ntmps87;go_wp2
 go_quiet (fail)
 go_wp2;go_ret;refine ⟨zi_ (by simp [dq]),?_⟩
 repeat (first | exact Below.refl _ _ | refine Below.drew ?_ | refine below_drewN ?_ _ | refine Below.alloc ?_ (by first | (simp; done) | (simp; omega)) _ | refine Below.setCell ?_ (by first | (simp; done) | (simp; omega)) _)
theorem wk_ (a b c p q:Int) (w:World) (h0:0<=p) (h3:p < 3) :
  Calls Tryz.prog 87 #[.agg #[.int .i64 a,.int .i64 b,.int .i64 c],.agg #[.int .i64 p,.int .i64 q]] w fun e w'=>e=.returned (.bool (decide (q<=comp a b c p)))∧Below w.heap.size w w':=by
 have hp:p=0∨p=1∨p=2:=by omega
 rcases hp with rfl | rfl | rfl
 ·by_cases h:q<=a
  ·exact (t0_ a b c q w h).mono fun e w' ⟨he,hb⟩=>⟨he.trans (zi_ (by simp [comp,h])),hb⟩
  ·exact (tb_ a b c q w (by omega)).mono fun e w' ⟨he,hb⟩=>⟨he.trans (zi_ (by simp [comp,h])),hb⟩
 ·by_cases h:q<=b
  ·exact (tZ_ a b c q w h).mono fun e w' ⟨he,hb⟩=>⟨he.trans (zi_ (by simp [comp,h])),hb⟩
  ·exact (ta_ a b c q w (by omega)).mono fun e w' ⟨he,hb⟩=>⟨he.trans (zi_ (by simp [comp,h])),hb⟩
 ·by_cases h:q<=c
  ·exact (tY_ a b c q w h).mono fun e w' ⟨he,hb⟩=>⟨he.trans (zi_ (by simp [comp,h])),hb⟩
  ·exact (u9_ a b c q w (by omega)).mono fun e w' ⟨he,hb⟩=>⟨he.trans (zi_ (by simp [comp,h])),hb⟩
def valB (v:Int) (d:Bool):Bool:=(decide (0<=v) && decide (v<=999)) && (!d || v == 0)
theorem tx_ (v:Int) (d:Bool) (w:World) :
  Calls Tryz.prog 40 #[.int .i64 v,.bool d] w fun e w'=>e=.returned (.bool (valB v d))∧w'=w:=by
 have cs:(d=true∧v=0)∨(d=true∧v≠0)∨(d=false∧v < 0)∨(d=false∧999 < v)∨(d=false∧0<=v∧v<=999):=by
  cases d <;> simp <;> omega
 rcases cs with ⟨rfl,rfl⟩ | ⟨rfl,h⟩ | ⟨rfl,h⟩ | ⟨rfl,h⟩ | ⟨rfl,h,h2⟩
 ·go_enter Tryz.func40,Tryz.ntmps40;go_wp2;go_ret;exact ⟨rfl,rfl⟩
 ·have HR:Hid (valB v true=false):=by unfold Hid valB; simp [h]
  have d0:(v == 0)=false:=beq_eq_false_iff_ne.2 h;go_enter Tryz.func40,Tryz.ntmps40;go_wp2;go_ret;exact ⟨zi_ HR.out.symm,rfl⟩
 ·have HR:Hid (valB v false=false):=by
   have q:¬ 0<=v:=by omega
   unfold Hid valB; simp [q]
  have d0:decide (0<=v)=false:=decide_eq_false (by omega);go_enter Tryz.func40,Tryz.ntmps40;go_wp2;go_ret;exact ⟨zi_ HR.out.symm,rfl⟩
 ·have HR:Hid (valB v false=false):=by
   have q:¬ v<=999:=by omega
   unfold Hid valB; simp [q]
  have d0:0<=v:=by omega
  have d1:decide (v<=999)=false:=decide_eq_false (by omega);go_enter Tryz.func40,Tryz.ntmps40;go_wp2;go_ret;exact ⟨zi_ HR.out.symm,rfl⟩
 ·have HR:Hid (valB v false=true):=by unfold Hid valB; simp [h,h2]
  go_enter Tryz.func40,Tryz.ntmps40;go_wp2;go_ret;exact ⟨zi_ HR.out.symm,rfl⟩
theorem og_ (p n v:Int) (d:Bool):zW_ p n v d=(dotB p n && valB v d):=by
 unfold zW_ valB;rw [Bool.and_assoc]
theorem t5_ (p n v:Int) (d:Bool) (w:World) :
  Calls Tryz.prog 108 #[.agg #[.int .i64 p,.int .i64 n,.int .i64 v,.bool d]] w fun e w'=>e=.returned (.bool (zW_ p n v d))∧Below w.heap.size w w':=by
 have HS:Hid (zW_ p n v d=(dotB p n && valB v d)):=og_ p n v d;cases h:dotB p n
 ·go_enter Tryz.func108,Tryz.ntmps108;go_wp2_with fail;refine (wl_ p n _).mono ?_;rintro e w1 ⟨rfl,hb⟩;have hz:=hb.size;simp at hz;have C2:=za_ hb (b:=w.heap.size) (o:=2) (v:=.int .i64 v) (by go_simp) (by simp);have C3:=za_ hb (b:=w.heap.size) (o:=3) (v:=.bool d) (by go_simp) (by simp);have hB:Hid (Below w.heap.size w w1):=((Below.refl _ _).alloc (Nat.le_refl _) _).trans (hb.mono (by simp));clear hb;go_wp2;go_ret;exact ⟨zi_ (by rw [HS.out,h]; rfl),hB.out⟩
 ·go_enter Tryz.func108,Tryz.ntmps108;go_wp2_with fail;refine (wl_ p n _).mono ?_;rintro e w1 ⟨rfl,hb⟩;have hz:=hb.size;simp at hz;have C2:=za_ hb (b:=w.heap.size) (o:=2) (v:=.int .i64 v) (by go_simp) (by simp);have C3:=za_ hb (b:=w.heap.size) (o:=3) (v:=.bool d) (by go_simp) (by simp);have hB:Hid (Below w.heap.size w w1):=((Below.refl _ _).alloc (Nat.le_refl _) _).trans (hb.mono (by simp));clear hb;go_wp2_with fail;refine (tx_ v d _).mono ?_;rintro e w2 ⟨rfl,rfl⟩;go_wp2;go_ret;exact ⟨zi_ (by rw [HS.out,h]; rfl),hB.out⟩
def cmpI (x y:Int):Int:=if x < y then -1 else if y < x then 1 else 0
theorem o3_ (x y:Int) (w:World) :
  Calls Tryz.prog 158 #[.int .i64 x,.int .i64 y] w fun e w'=>e=.returned (.int .i64 (cmpI x y))∧w'=w:=by
 have cs:x < y∨y < x∨x=y:=by omega
 rcases cs with h | h | h
 case inr.inr=>
  subst h;have HB:Hid (cmpI x x=0):=by unfold Hid cmpI; simp
  go_enter Tryz.func158,Tryz.ntmps158;go_wp2;go_ret;exact ⟨xJ_ HB.out.symm,rfl⟩
 case inl=>
  have HB:Hid (cmpI x y = -1):=by unfold Hid cmpI; simp [h]
  go_enter Tryz.func158,Tryz.ntmps158;go_wp2;go_ret;exact ⟨xJ_ HB.out.symm,rfl⟩
 case inr.inl=>
  have HB:Hid (cmpI x y=1):=by unfold Hid cmpI; rw [if_neg (by omega),if_pos h]
  go_enter Tryz.func158,Tryz.ntmps158;go_wp2;go_ret;exact ⟨xJ_ HB.out.symm,rfl⟩
theorem ou_ (g:Nat) (x y r:Int) (hr:Hid (r=if x=0 then y else x)) (w:World) (c0:w.cell? ⟨g,0,none⟩=some (.int .i64 x)) (c1:w.cell? ⟨g,1,none⟩=some (.int .i64 y)) :
  Calls Tryz.prog 157 #[.slice (some ⟨g,0,none⟩) 2 2] w fun e w'=>e=.returned (.int .i64 r)∧w'=w:=by
 by_cases hx:x=0
 ·subst hx;have HR:Hid (r=y):=hr.out.trans (if_pos rfl);by_cases hy:y=0
  focus
   subst hy
  rotate_left
  focus
   have d0:(y == 0)=false:=beq_eq_false_iff_ne.2 hy
  rotate_left
  all_goals
   go_enter Tryz.func157,Tryz.ntmps157;go_wp2;refine wp_loop_rounds 3 ?_
   repeat (rw [rounds_succ]; go_wp2)
   go_ret;exact ⟨xJ_ HR.out.symm,rfl⟩
 ·have d0:(x == 0)=false:=beq_eq_false_iff_ne.2 hx;have HR:Hid (r=x):=hr.out.trans (if_neg hx);go_enter Tryz.func157,Tryz.ntmps157;go_wp2;refine wp_loop_rounds 3 ?_
  repeat (rw [rounds_succ]; go_wp2)
  go_ret;exact ⟨xJ_ HR.out.symm,rfl⟩
theorem o0_ (x y u v:Int):(if cmpI x u=0 then cmpI y v else cmpI x u)=z5_ x y u v:=by
 unfold cmpI z5_;by_cases h1:x < u
 ·simp [h1]
 ·by_cases h2:u < x
  ·simp [h1,h2]
  ·simp [h1,h2]
theorem qT_ {p q:Int} (hb:Below W.heap.size W W') (h:W.cell? ⟨w.heap.size,0,none⟩=some (.int .i64 x)∧W.cell? ⟨w.heap.size,1,none⟩=some (.int .i64 y)∧W.cell? ⟨w.heap.size+1,0,none⟩=some (.int .i64 p)∧W.cell? ⟨w.heap.size+1,1,none⟩=some (.int .i64 q)∧Below w.heap.size w W∧w.heap.size+2<=W.heap.size):W'.cell? ⟨w.heap.size,0,none⟩=some (.int .i64 x)∧W'.cell? ⟨w.heap.size,1,none⟩=some (.int .i64 y)∧W'.cell? ⟨w.heap.size+1,0,none⟩=some (.int .i64 p)∧W'.cell? ⟨w.heap.size+1,1,none⟩=some (.int .i64 q)∧Below w.heap.size w W'∧w.heap.size+2<=W'.heap.size:=by
 obtain ⟨c0,c1,c2,c3,hB,hz⟩:=h;have hq:=hb.size;exact ⟨za_ hb c0 (by omega),za_ hb c1 (by omega),za_ hb c2 (by omega),za_ hb c3 (by omega),hB.trans (hb.mono (by omega)),by omega⟩
theorem uC_ {p q:Int} {ob:Obj} (h:W.cell? ⟨w.heap.size,0,none⟩=some (.int .i64 x)∧W.cell? ⟨w.heap.size,1,none⟩=some (.int .i64 y)∧W.cell? ⟨w.heap.size+1,0,none⟩=some (.int .i64 p)∧W.cell? ⟨w.heap.size+1,1,none⟩=some (.int .i64 q)∧Below w.heap.size w W∧w.heap.size+2<=W.heap.size):(W.alloc ob).cell? ⟨w.heap.size,0,none⟩=some (.int .i64 x)∧(W.alloc ob).cell? ⟨w.heap.size,1,none⟩=some (.int .i64 y)∧(W.alloc ob).cell? ⟨w.heap.size+1,0,none⟩=some (.int .i64 p)∧(W.alloc ob).cell? ⟨w.heap.size+1,1,none⟩=some (.int .i64 q)∧Below w.heap.size w (W.alloc ob)∧w.heap.size+2<=(W.alloc ob).heap.size:=qT_ ((Below.refl _ _).alloc (Nat.le_refl _) _) h
theorem sd_ {p q:Int} (h:W.cell? ⟨w.heap.size,0,none⟩=some (.int .i64 x)∧W.cell? ⟨w.heap.size,1,none⟩=some (.int .i64 y)∧W.cell? ⟨w.heap.size+1,0,none⟩=some (.int .i64 p)∧W.cell? ⟨w.heap.size+1,1,none⟩=some (.int .i64 q)∧Below w.heap.size w W∧w.heap.size+2<=W.heap.size):W.drew.cell? ⟨w.heap.size,0,none⟩=some (.int .i64 x)∧W.drew.cell? ⟨w.heap.size,1,none⟩=some (.int .i64 y)∧W.drew.cell? ⟨w.heap.size+1,0,none⟩=some (.int .i64 p)∧W.drew.cell? ⟨w.heap.size+1,1,none⟩=some (.int .i64 q)∧Below w.heap.size w W.drew∧w.heap.size+2<=W.drew.heap.size:=by
 obtain ⟨c0,c1,c2,c3,hB,hz⟩:=h;exact ⟨c0,c1,c2,c3,hB.drew,hz⟩
theorem s0_ {p q:Int} (h:W.cell? ⟨w.heap.size,0,none⟩=some (.int .i64 x)∧W.cell? ⟨w.heap.size,1,none⟩=some (.int .i64 y)∧W.cell? ⟨w.heap.size+1,0,none⟩=some (.int .i64 p)∧W.cell? ⟨w.heap.size+1,1,none⟩=some (.int .i64 q)∧Below w.heap.size w W∧w.heap.size+2<=W.heap.size):Below w.heap.size w W:=by
 obtain ⟨c0,c1,c2,c3,hB,hz⟩:=h;exact hB
theorem pT_ {p q:Int}:((w.alloc (.cells #[.int .i64 x,.int .i64 y] 41)).alloc (.cells #[.int .i64 p,.int .i64 q] 41)).drew.cell? ⟨w.heap.size,0,none⟩=some (.int .i64 x)∧((w.alloc (.cells #[.int .i64 x,.int .i64 y] 41)).alloc (.cells #[.int .i64 p,.int .i64 q] 41)).drew.cell? ⟨w.heap.size,1,none⟩=some (.int .i64 y)∧((w.alloc (.cells #[.int .i64 x,.int .i64 y] 41)).alloc (.cells #[.int .i64 p,.int .i64 q] 41)).drew.cell? ⟨w.heap.size+1,0,none⟩=some (.int .i64 p)∧((w.alloc (.cells #[.int .i64 x,.int .i64 y] 41)).alloc (.cells #[.int .i64 p,.int .i64 q] 41)).drew.cell? ⟨w.heap.size+1,1,none⟩=some (.int .i64 q)∧Below w.heap.size w ((w.alloc (.cells #[.int .i64 x,.int .i64 y] 41)).alloc (.cells #[.int .i64 p,.int .i64 q] 41)).drew∧w.heap.size+2<=((w.alloc (.cells #[.int .i64 x,.int .i64 y] 41)).alloc (.cells #[.int .i64 p,.int .i64 q] 41)).drew.heap.size:=by
 refine ⟨?_,?_,?_,?_,(((Below.refl _ _).alloc (by simp) _).alloc (by simp) _).drew,?_⟩
 all_goals first | (go_simp; done) | (simp; done) | (simp; omega)
theorem qS_ {p q:Int}:((w.alloc (.cells #[.int .i64 x,.int .i64 y] 41)).alloc (.cells #[.int .i64 p,.int .i64 q] 41)).cell? ⟨w.heap.size,0,none⟩=some (.int .i64 x)∧((w.alloc (.cells #[.int .i64 x,.int .i64 y] 41)).alloc (.cells #[.int .i64 p,.int .i64 q] 41)).cell? ⟨w.heap.size,1,none⟩=some (.int .i64 y)∧((w.alloc (.cells #[.int .i64 x,.int .i64 y] 41)).alloc (.cells #[.int .i64 p,.int .i64 q] 41)).cell? ⟨w.heap.size+1,0,none⟩=some (.int .i64 p)∧((w.alloc (.cells #[.int .i64 x,.int .i64 y] 41)).alloc (.cells #[.int .i64 p,.int .i64 q] 41)).cell? ⟨w.heap.size+1,1,none⟩=some (.int .i64 q)∧Below w.heap.size w ((w.alloc (.cells #[.int .i64 x,.int .i64 y] 41)).alloc (.cells #[.int .i64 p,.int .i64 q] 41))∧w.heap.size+2<=((w.alloc (.cells #[.int .i64 x,.int .i64 y] 41)).alloc (.cells #[.int .i64 p,.int .i64 q] 41)).heap.size:=by
 refine ⟨?_,?_,?_,?_,(((Below.refl _ _).alloc (by simp) _).alloc (by simp) _),?_⟩
 all_goals first | (go_simp; done) | (simp; done) | (simp; omega)
theorem yU_ (x y p q:Int) (w:World) :
  Calls Tryz.prog 109 #[.agg #[.int .i64 x,.int .i64 y],.agg #[.int .i64 p,.int .i64 q]] w fun e w'=>e=.returned (.int .i64 (z5_ x y p q))∧Below w.heap.size w w':=by
 have HD:Hid (z5_ x y p q=if cmpI x p=0 then cmpI y q else cmpI x p):=(o0_ x y p q).symm;go_enter Tryz.func109,Tryz.ntmps109;go_wp2_with fail
 go_region_held3 (fun w'=>w'.cell? ⟨w.heap.size,0,none⟩=some (.int .i64 x)∧w'.cell? ⟨w.heap.size,1,none⟩=some (.int .i64 y)∧w'.cell? ⟨w.heap.size+1,0,none⟩=some (.int .i64 p)∧w'.cell? ⟨w.heap.size+1,1,none⟩=some (.int .i64 q)∧Below w.heap.size w w'∧w.heap.size+2<=w'.heap.size) (with_reducible first | assumption | exact pT_ | exact sd_ (uC_ qS_) | (refine sd_ (uC_ ?_); assumption) | (refine sd_ ?_; assumption) | (refine uC_ ?_; assumption) | (refine qT_ (by assumption) ?_; assumption) | (refine cd_set (cd_set (cd_set ?_ ?_) ?_) ?_; all_goals (first | assumption | omega))) (first | (go_at_call 158; refine (o3_ _ _ _).mono ?_; rintro e w1 ⟨rfl,rfl⟩) | (go_at_call 157; refine (ou_ _ (cmpI x p) (cmpI y q) (z5_ x y p q) HD _ (by go_simp) (by go_simp)).mono ?_; rintro e w1 ⟨rfl,rfl⟩))
 all_goals go_wp2
 all_goals go_ret
 all_goals refine ⟨rfl,?_⟩
 all_goals first | exact s0_ (by with_reducible assumption) | exact (s0_ (by with_reducible assumption)).drew | skip
end
section
variable {W w w1:World} {ao:Option Addr} {cap g j n q:Nat} {v:Value}
def Good (l:List Sib) (a b c:Int) (i:Nat) (h:i < l.length):Prop:=zW_ l[i].p l[i].n l[i].v l[i].d=true∧decide (l[i].n<=comp a b c l[i].p)=true∧∀ h0:0 < i,z5_ l[i - 1].p l[i - 1].n l[i].p l[i].n < 0
def OkP (l:List Sib) (a b c:Int):Prop:=l.length<=100∧vvB a b c=true∧∀ i (h:i < l.length),Good l a b c i h
theorem v2_ {x:Sib} (h:zW_ x.p x.n x.v x.d=true):0<=x.p∧x.p < 3:=by
 unfold zW_ dotB at h;simp at h;omega
theorem zj_ {o:Obj} (h:w.cell? ⟨g,j,none⟩=some v) (hg:g < w.heap.size):(w.alloc o).cell? ⟨g,j,none⟩=some v:=
 za_ ((Below.refl _ _).alloc (Nat.le_refl _) _) h hg
theorem sx_ {h p:Nat} {x y:Sib} (hb:Below W.drew.heap.size W.drew w1) (c0:W.cell? ⟨g,0,none⟩=some (.slice ao n cap)) (c1:W.cell? ⟨h,0,none⟩=some (.int .i64 y.p)) (c2:W.cell? ⟨h,1,none⟩=some (.int .i64 y.n)) (c3:W.cell? ⟨p,q,none⟩=some (.int .i64 x.p)) (c4:W.cell? ⟨p,q+1,none⟩=some (.int .i64 x.n)):w1.cell? ⟨g,0,none⟩=some (.slice ao n cap)∧w1.cell? ⟨h,0,none⟩=some (.int .i64 y.p)∧w1.cell? ⟨h,1,none⟩=some (.int .i64 y.n)∧w1.cell? ⟨p,q,none⟩=some (.int .i64 x.p)∧w1.cell? ⟨p,q+1,none⟩=some (.int .i64 x.n):=
 ⟨za_ hb c0 (zh_ (x:=⟨g,0,none⟩) c0),za_ hb c1 (zh_ (x:=⟨h,0,none⟩) c1),za_ hb c2 (zh_ (x:=⟨h,1,none⟩) c2),za_ hb c3 (zh_ (x:=⟨p,q,none⟩) c3),za_ hb c4 (zh_ (x:=⟨p,q+1,none⟩) c4)⟩
theorem yJ_ (cap:Nat) (ao:Option Addr) (l:List Sib) (a b c:Int) (r:Bool) (hres:Hid (r=true↔OkP l a b c)) (w:World) (hm:(l.length:Int)<=1048576) (hr0:zk_ w ao l) :
  Calls Tryz.prog 51 #[.agg #[.slice ao l.length cap,.int .i64 a,.int .i64 b,.int .i64 c]] w fun e w'=>e=.returned (.bool r)∧Below w.heap.size w w':=by
 have hr:Hid (zk_ w ao l):=hr0;clear hr0;by_cases hlen:l.length<=100
 case neg=>
  have HR:Hid (r=false):=z1_ hres (fun h=>hlen h.1);have d0:decide ((100:Int) < (l.length:Int))=true:=decide_eq_true (by omega);have d1:(100:Int) < (l.length:Int):=by omega
  clear hlen;go_enter Tryz.func51,Tryz.ntmps51;go_wp2;go_ret;refine ⟨zi_ HR.out.symm,?_⟩
  repeat (first | exact Below.refl _ _ | refine Below.drew ?_ | refine below_drewN ?_ _ | refine Below.alloc ?_ (by first | (simp; done) | (simp; omega)) _ | refine Below.setCell ?_ (by first | (simp; done) | (simp; omega)) _)
 have d0:decide ((100:Int) < (l.length:Int))=false:=decide_eq_false (by omega);cases hv:vvB a b c
 ·have HR:Hid (r=false):=z1_ hres (fun h=>by rw [h.2.1] at hv; cases hv);go_enter Tryz.func51,Tryz.ntmps51;go_wp2_with fail;refine (qB_ a b c _).mono ?_;rintro e w1 ⟨rfl,hb⟩;have hB:Hid (Below w.heap.size w w1):=((Below.refl _ _).alloc (Nat.le_refl _) _).trans (hb.mono (by simp));clear hb;go_wp2;go_ret;exact ⟨zi_ HR.out.symm,hB.out⟩
 have HV:=hm_ hv;have HN:Hid (l.length<=100):=hlen;go_enter Tryz.func51,Tryz.ntmps51;go_wp2_with fail;refine (qB_ a b c _).mono ?_;rintro e w1 ⟨rfl,hb⟩;have hB:Hid (Below w.heap.size w w1):=((Below.refl _ _).alloc (Nat.le_refl _) _).trans (hb.mono (by simp));have C0:=za_ hb (b:=w.heap.size) (o:=0) (v:=.slice ao l.length cap) (by go_simp) (by simp);have C1:=za_ hb (b:=w.heap.size) (o:=1) (v:=.int .i64 a) (by go_simp) (by simp);have C2:=za_ hb (b:=w.heap.size) (o:=2) (v:=.int .i64 b) (by go_simp) (by simp);have C3:=za_ hb (b:=w.heap.size) (o:=3) (v:=.int .i64 c) (by go_simp) (by simp);have hz:=hb.size;simp at hz;clear hb hlen;go_wp2;clear hv;go_loopw [18] (fun s18 wr=>∃ k:Nat,k<=l.length∧s18=.int .i64 k∧Below w.heap.size w wr∧(∀ i (h:i < l.length),i < k->Good l a b c i h)∧w.heap.size < wr.heap.size∧wr.cell? ⟨w.heap.size,0,none⟩=some (.slice ao l.length cap)∧wr.cell? ⟨w.heap.size,1,none⟩=some (.int .i64 a)∧wr.cell? ⟨w.heap.size,2,none⟩=some (.int .i64 b)∧wr.cell? ⟨w.heap.size,3,none⟩=some (.int .i64 c)) (fun s18 _=>l.length - (intOf s18).toNat)
 case atStart=>exact ⟨0,by omega,rfl,hB.out,fun i h h'=>by omega,by omega,C0,C1,C2,C3⟩
 case round=>
  clear hB C0 C1 C2 C3 hz;obtain ⟨k,hk,rfl,hB0,hG0,hz,C0,C1,C2,C3⟩:=hrel;have hB:=hm_ hB0;have hG:=hm_ hG0;clear hB0 hG0;by_cases hkl:k < l.length
  ·have hkl':(k:Int) < (l.length:Int):=by omega
   have k0:(0:Int)<=(k:Int):=by omega
   rcases hr.out with h' | ⟨p,off,rfl,h2⟩
   ·rw [h'] at hkl; simp at hkl
   obtain ⟨x0,x1,x2,x3⟩:=(h2 k hkl).next hB.out (zh_ (x:=⟨p,off+k * 4,none⟩) (h2 k hkl).1);have hH2:=hm_ h2;clear h2;go_wp2_with fail;refine (t5_ l[k].p l[k].n l[k].v l[k].d _).mono ?_;rintro e w2 ⟨rfl,hb⟩;have hz2:=hb.size;simp at hz2;have hB2:Hid (Below w.heap.size w w2):=(hB.out.alloc (by omega) _).trans (hb.mono (by simp; omega));have D0:=za_ hb (b:=wr.heap.size) (o:=0) (v:=.int .i64 l[k].p) (by go_simp) (by simp);have D1:=za_ hb (b:=wr.heap.size) (o:=1) (v:=.int .i64 l[k].n) (by go_simp) (by simp);have E0:=za_ hb (zj_ C0 hz) (by simp; omega);have E1:=za_ hb (zj_ C1 hz) (by simp; omega);have E2:=za_ hb (zj_ C2 hz) (by simp; omega);have E3:=za_ hb (zj_ C3 hz) (by simp; omega);clear hb C0 C1 C2 C3 x0 x1 x2 x3 hB;cases hs:zW_ l[k].p l[k].n l[k].v l[k].d
   ·have HR:Hid (r=false):=z1_ hres (fun h=>by rw [(h.2.2 k hkl).1] at hs; cases hs);go_wp2;go_ret;exact ⟨zi_ HR.out.symm,hB2.out⟩
   have HS:=hm_ hs;obtain ⟨n0,n3⟩:=v2_ hs;go_wp2_with fail;refine (wk_ a b c l[k].p l[k].n _ n0 n3).mono ?_;rintro e w3 ⟨rfl,hb⟩;have hz3:=hb.size;have hB3:Hid (Below w.heap.size w w3):=hB2.out.trans (hb.mono (by omega));have D0':=za_ hb D0 (by omega);have D1':=za_ hb D1 (by omega);have F0:=za_ hb E0 (by omega);have F1:=za_ hb E1 (by omega);have F2:=za_ hb E2 (by omega);have F3:=za_ hb E3 (by omega);have hz4:Hid (w.heap.size < w3.heap.size):=by show _ < _; omega
   clear hb D0 D1 E0 E1 E2 E3 hB2;cases hk1:decide (l[k].n<=comp a b c l[k].p)
   ·have HR:Hid (r=false):=z1_ hres (fun h=>by rw [(h.2.2 k hkl).2.1] at hk1; cases hk1);go_wp2;go_ret;exact ⟨zi_ HR.out.symm,hB3.out⟩
   have HK:=hm_ hk1;clear n0 n3;rcases Nat.eq_zero_or_pos k with hk0 | hk0
   ·subst hk0
    have hG1:∀ i (h:i < l.length),i < 0+1->Good l a b c i h:=fun i h h3=>by
     have e:i=0:=by omega
     subst e;exact ⟨HS.out,HK.out,fun h0=>by omega⟩
    clear hs hk1;go_wp2
    go_quiet (fail)
    go_wp2
    go_roundw
    case rel=>first | exact ⟨0+1,by omega,by go_num,below_drewN hB3.out _,hG1,hz4.out,F0,F1,F2,F3⟩ | ((repeat apply Exists.intro); exact ⟨⟨0+1,by omega,by go_num,below_drewN hB3.out _,hG1,hz4.out,F0,F1,F2,F3⟩,rfl⟩)
    case measure=>simp [intOf]; omega
   ·obtain ⟨j,hj⟩:∃ j,k=j+1:=⟨k - 1,by omega⟩;have hjk:(k:Int) - 1=(j:Int):=by omega
    have HJ:Hid (k=j+1):=hj;have hjl:j < l.length:=by omega
    obtain ⟨y0,y1,_,_⟩:=(hH2.out j hjl).next hB3.out (zh_ (x:=⟨p,off+j * 4,none⟩) (hH2.out j hjl).1);have j0:(0:Int)<=(j:Int):=by omega
    have jl:(j:Int) < (l.length:Int):=by omega
    have jk:decide (0 < k)=true:=decide_eq_true (by omega);have jw:IntKind.i64.wrap (j:Int)=(j:Int):=IntWalk.i64_in _ (by omega);clear hj hk0;clear hs hk1;cases hd:decide (0<=z5_ l[j].p l[j].n l[k].p l[k].n)
    ·have HD:Hid (z5_ l[j].p l[j].n l[k].p l[k].n < 0):=by
      have:=of_decide_eq_false hd
      show _ < _
      omega
     have hG1:∀ i (h:i < l.length),i < k+1->Good l a b c i h:=fun i h h3=>by
      by_cases e:i=k
      ·subst e; exact ⟨HS.out,HK.out,fun _=>by have e:=HJ.out; subst e; simpa using HD.out⟩
      ·exact hG.out i h (by omega)
     go_wp2
     go_region_held3 (fun w'=>w'.cell? ⟨w.heap.size,0,none⟩=some (.slice (some ⟨p,off,none⟩) l.length cap)∧w'.cell? ⟨wr.heap.size,0,none⟩=some (.int .i64 l[k].p)∧w'.cell? ⟨wr.heap.size,1,none⟩=some (.int .i64 l[k].n)∧w'.cell? ⟨p,off+j * 4,none⟩=some (.int .i64 l[j].p)∧w'.cell? ⟨p,off+j * 4+1,none⟩=some (.int .i64 l[j].n)) (first | (with_reducible assumption) | exact ⟨F0,D0',D1',y0,y1⟩) (first | (go_at_call 109; refine (yU_ l[j].p l[j].n l[k].p l[k].n _).mono ?_; rintro e w4 ⟨rfl,hb⟩; have hK:=sx_ hb F0 D0' D1' y0 y1))
     have hB4:Hid (Below w.heap.size w w4):=hB3.out.drew.trans (hb.mono hB3.out.size);have G0:=za_ hb F0 hz4.out;have G1:=za_ hb F1 hz4.out;have G2:=za_ hb F2 hz4.out;have G3:=za_ hb F3 hz4.out;have hz5:Hid (w.heap.size < w4.heap.size):=Nat.lt_of_lt_of_le hz4.out hb.size;clear hb hK F0 F1 F2 F3 D0' D1' y0 y1;go_wp2
     go_roundw
     case rel=>first | exact ⟨k+1,by omega,by go_num,hB4.out,hG1,hz5.out,G0,G1,G2,G3⟩ | ((repeat apply Exists.intro); exact ⟨⟨k+1,by omega,by go_num,hB4.out,hG1,hz5.out,G0,G1,G2,G3⟩,rfl⟩)
     case measure=>simp [intOf]; omega
    ·have HR:Hid (r=false):=z1_ hres (fun h=>by
      have h1:=(h.2.2 k hkl).2.2 (by have:=HJ.out; omega);have h2:=of_decide_eq_true hd;have e:=HJ.out;subst e;simp at h1
      omega)
     go_wp2
     go_region_held3 (fun w'=>w'.cell? ⟨w.heap.size,0,none⟩=some (.slice (some ⟨p,off,none⟩) l.length cap)∧w'.cell? ⟨wr.heap.size,0,none⟩=some (.int .i64 l[k].p)∧w'.cell? ⟨wr.heap.size,1,none⟩=some (.int .i64 l[k].n)∧w'.cell? ⟨p,off+j * 4,none⟩=some (.int .i64 l[j].p)∧w'.cell? ⟨p,off+j * 4+1,none⟩=some (.int .i64 l[j].n)) (first | (with_reducible assumption) | exact ⟨F0,D0',D1',y0,y1⟩) (first | (go_at_call 109; refine (yU_ l[j].p l[j].n l[k].p l[k].n _).mono ?_; rintro e w4 ⟨rfl,hb⟩; have hK:=sx_ hb F0 D0' D1' y0 y1))
     have hB4:Hid (Below w.heap.size w w4):=hB3.out.drew.trans (hb.mono hB3.out.size);clear hb hK F0 F1 F2 F3 D0' D1' y0 y1;go_wp2;go_ret;exact ⟨zi_ HR.out.symm,hB4.out⟩
  ·have hkl':¬ (k:Int) < (l.length:Int):=by omega
   have HR:Hid (r=true):=wt_ hres ⟨HN.out,HV.out,fun i h=>hG.out i h (by omega)⟩;go_wp2;go_ret;exact ⟨zi_ HR.out.symm,hB.out⟩
end
section
variable {W W' w:World} {a c:Int} {ao:Option Addr} {cap n q:Nat}
theorem w1_ {p:Nat} {b:Int} {x:Sib} (hb:Below W.heap.size W W') (h:W.cell? ⟨w.heap.size,0,none⟩=some (.slice ao n cap)∧W.cell? ⟨w.heap.size,1,none⟩=some (.int .i64 a)∧W.cell? ⟨w.heap.size,2,none⟩=some (.int .i64 b)∧W.cell? ⟨w.heap.size,3,none⟩=some (.int .i64 c)∧W.cell? ⟨p,q,none⟩=some (.int .i64 x.p)∧W.cell? ⟨p,q+1,none⟩=some (.int .i64 x.n)∧W.cell? ⟨p,q+2,none⟩=some (.int .i64 x.v)∧W.cell? ⟨p,q+3,none⟩=some (.bool x.d)∧Below w.heap.size w W∧w.heap.size+1<=W.heap.size):W'.cell? ⟨w.heap.size,0,none⟩=some (.slice ao n cap)∧W'.cell? ⟨w.heap.size,1,none⟩=some (.int .i64 a)∧W'.cell? ⟨w.heap.size,2,none⟩=some (.int .i64 b)∧W'.cell? ⟨w.heap.size,3,none⟩=some (.int .i64 c)∧W'.cell? ⟨p,q,none⟩=some (.int .i64 x.p)∧W'.cell? ⟨p,q+1,none⟩=some (.int .i64 x.n)∧W'.cell? ⟨p,q+2,none⟩=some (.int .i64 x.v)∧W'.cell? ⟨p,q+3,none⟩=some (.bool x.d)∧Below w.heap.size w W'∧w.heap.size+1<=W'.heap.size:=by
 obtain ⟨c0,c1,c2,c3,c4,c5,c6,c7,hB,hz⟩:=h;have hq:=hb.size;exact ⟨za_ hb c0 (by omega),za_ hb c1 (by omega),za_ hb c2 (by omega),za_ hb c3 (by omega),za_ hb c4 (zh_ (x:=⟨p,q,none⟩) c4),za_ hb c5 (zh_ (x:=⟨p,q+1,none⟩) c5),za_ hb c6 (zh_ (x:=⟨p,q+2,none⟩) c6),za_ hb c7 (zh_ (x:=⟨p,q+3,none⟩) c7),hB.trans (hb.mono (by omega)),by omega⟩
theorem tG_ {p:Nat} {b:Int} {x:Sib} (h:W.cell? ⟨w.heap.size,0,none⟩=some (.slice ao n cap)∧W.cell? ⟨w.heap.size,1,none⟩=some (.int .i64 a)∧W.cell? ⟨w.heap.size,2,none⟩=some (.int .i64 b)∧W.cell? ⟨w.heap.size,3,none⟩=some (.int .i64 c)∧W.cell? ⟨p,q,none⟩=some (.int .i64 x.p)∧W.cell? ⟨p,q+1,none⟩=some (.int .i64 x.n)∧W.cell? ⟨p,q+2,none⟩=some (.int .i64 x.v)∧W.cell? ⟨p,q+3,none⟩=some (.bool x.d)∧Below w.heap.size w W∧w.heap.size+1<=W.heap.size):W.drew.cell? ⟨w.heap.size,0,none⟩=some (.slice ao n cap)∧W.drew.cell? ⟨w.heap.size,1,none⟩=some (.int .i64 a)∧W.drew.cell? ⟨w.heap.size,2,none⟩=some (.int .i64 b)∧W.drew.cell? ⟨w.heap.size,3,none⟩=some (.int .i64 c)∧W.drew.cell? ⟨p,q,none⟩=some (.int .i64 x.p)∧W.drew.cell? ⟨p,q+1,none⟩=some (.int .i64 x.n)∧W.drew.cell? ⟨p,q+2,none⟩=some (.int .i64 x.v)∧W.drew.cell? ⟨p,q+3,none⟩=some (.bool x.d)∧Below w.heap.size w W.drew∧w.heap.size+1<=W.drew.heap.size:=by
 obtain ⟨c0,c1,c2,c3,c4,c5,c6,c7,hB,hz⟩:=h;exact ⟨c0,c1,c2,c3,c4,c5,c6,c7,hB.drew,hz⟩
theorem rP_ {p:Nat} {b:Int} {x:Sib} (h:W.cell? ⟨w.heap.size,0,none⟩=some (.slice ao n cap)∧W.cell? ⟨w.heap.size,1,none⟩=some (.int .i64 a)∧W.cell? ⟨w.heap.size,2,none⟩=some (.int .i64 b)∧W.cell? ⟨w.heap.size,3,none⟩=some (.int .i64 c)∧W.cell? ⟨p,q,none⟩=some (.int .i64 x.p)∧W.cell? ⟨p,q+1,none⟩=some (.int .i64 x.n)∧W.cell? ⟨p,q+2,none⟩=some (.int .i64 x.v)∧W.cell? ⟨p,q+3,none⟩=some (.bool x.d)∧Below w.heap.size w W∧w.heap.size+1<=W.heap.size):W.cell? ⟨w.heap.size,0,none⟩=some (.slice ao n cap)∧W.cell? ⟨w.heap.size,1,none⟩=some (.int .i64 a)∧W.cell? ⟨w.heap.size,2,none⟩=some (.int .i64 b)∧W.cell? ⟨w.heap.size,3,none⟩=some (.int .i64 c)∧Below w.heap.size w W∧w.heap.size+1<=W.heap.size:=by
 obtain ⟨c0,c1,c2,c3,c4,c5,c6,c7,hB,hz⟩:=h;exact ⟨c0,c1,c2,c3,hB,hz⟩
theorem xF_ {p:Nat} {b:Int} {x:Sib} {o:Nat} {y:Sib} (hb:Below W.heap.size W W') (h:W.cell? ⟨w.heap.size,0,none⟩=some (.slice ao n cap)∧W.cell? ⟨w.heap.size,1,none⟩=some (.int .i64 a)∧W.cell? ⟨w.heap.size,2,none⟩=some (.int .i64 b)∧W.cell? ⟨w.heap.size,3,none⟩=some (.int .i64 c)∧W.cell? ⟨p,q,none⟩=some (.int .i64 x.p)∧W.cell? ⟨p,q+1,none⟩=some (.int .i64 x.n)∧W.cell? ⟨p,q+2,none⟩=some (.int .i64 x.v)∧W.cell? ⟨p,q+3,none⟩=some (.bool x.d)∧W.cell? ⟨p,o,none⟩=some (.int .i64 y.p)∧W.cell? ⟨p,o+1,none⟩=some (.int .i64 y.n)∧Below w.heap.size w W∧w.heap.size+1<=W.heap.size):W'.cell? ⟨w.heap.size,0,none⟩=some (.slice ao n cap)∧W'.cell? ⟨w.heap.size,1,none⟩=some (.int .i64 a)∧W'.cell? ⟨w.heap.size,2,none⟩=some (.int .i64 b)∧W'.cell? ⟨w.heap.size,3,none⟩=some (.int .i64 c)∧W'.cell? ⟨p,q,none⟩=some (.int .i64 x.p)∧W'.cell? ⟨p,q+1,none⟩=some (.int .i64 x.n)∧W'.cell? ⟨p,q+2,none⟩=some (.int .i64 x.v)∧W'.cell? ⟨p,q+3,none⟩=some (.bool x.d)∧W'.cell? ⟨p,o,none⟩=some (.int .i64 y.p)∧W'.cell? ⟨p,o+1,none⟩=some (.int .i64 y.n)∧Below w.heap.size w W'∧w.heap.size+1<=W'.heap.size:=by
 obtain ⟨c0,c1,c2,c3,c4,c5,c6,c7,c8,c9,hB,hz⟩:=h;have hq:=hb.size;exact ⟨za_ hb c0 (by omega),za_ hb c1 (by omega),za_ hb c2 (by omega),za_ hb c3 (by omega),za_ hb c4 (zh_ (x:=⟨p,q,none⟩) c4),za_ hb c5 (zh_ (x:=⟨p,q+1,none⟩) c5),za_ hb c6 (zh_ (x:=⟨p,q+2,none⟩) c6),za_ hb c7 (zh_ (x:=⟨p,q+3,none⟩) c7),za_ hb c8 (zh_ (x:=⟨p,o,none⟩) c8),za_ hb c9 (zh_ (x:=⟨p,o+1,none⟩) c9),hB.trans (hb.mono (by omega)),by omega⟩
theorem v3_ {p:Nat} {b:Int} {x:Sib} {o:Nat} {y:Sib} (h:W.cell? ⟨w.heap.size,0,none⟩=some (.slice ao n cap)∧W.cell? ⟨w.heap.size,1,none⟩=some (.int .i64 a)∧W.cell? ⟨w.heap.size,2,none⟩=some (.int .i64 b)∧W.cell? ⟨w.heap.size,3,none⟩=some (.int .i64 c)∧W.cell? ⟨p,q,none⟩=some (.int .i64 x.p)∧W.cell? ⟨p,q+1,none⟩=some (.int .i64 x.n)∧W.cell? ⟨p,q+2,none⟩=some (.int .i64 x.v)∧W.cell? ⟨p,q+3,none⟩=some (.bool x.d)∧W.cell? ⟨p,o,none⟩=some (.int .i64 y.p)∧W.cell? ⟨p,o+1,none⟩=some (.int .i64 y.n)∧Below w.heap.size w W∧w.heap.size+1<=W.heap.size):W.drew.cell? ⟨w.heap.size,0,none⟩=some (.slice ao n cap)∧W.drew.cell? ⟨w.heap.size,1,none⟩=some (.int .i64 a)∧W.drew.cell? ⟨w.heap.size,2,none⟩=some (.int .i64 b)∧W.drew.cell? ⟨w.heap.size,3,none⟩=some (.int .i64 c)∧W.drew.cell? ⟨p,q,none⟩=some (.int .i64 x.p)∧W.drew.cell? ⟨p,q+1,none⟩=some (.int .i64 x.n)∧W.drew.cell? ⟨p,q+2,none⟩=some (.int .i64 x.v)∧W.drew.cell? ⟨p,q+3,none⟩=some (.bool x.d)∧W.drew.cell? ⟨p,o,none⟩=some (.int .i64 y.p)∧W.drew.cell? ⟨p,o+1,none⟩=some (.int .i64 y.n)∧Below w.heap.size w W.drew∧w.heap.size+1<=W.drew.heap.size:=by
 obtain ⟨c0,c1,c2,c3,c4,c5,c6,c7,c8,c9,hB,hz⟩:=h;exact ⟨c0,c1,c2,c3,c4,c5,c6,c7,c8,c9,hB.drew,hz⟩
theorem pZ_ {p:Nat} {b:Int} {x:Sib} {o:Nat} {y:Sib} (h:W.cell? ⟨w.heap.size,0,none⟩=some (.slice ao n cap)∧W.cell? ⟨w.heap.size,1,none⟩=some (.int .i64 a)∧W.cell? ⟨w.heap.size,2,none⟩=some (.int .i64 b)∧W.cell? ⟨w.heap.size,3,none⟩=some (.int .i64 c)∧W.cell? ⟨p,q,none⟩=some (.int .i64 x.p)∧W.cell? ⟨p,q+1,none⟩=some (.int .i64 x.n)∧W.cell? ⟨p,q+2,none⟩=some (.int .i64 x.v)∧W.cell? ⟨p,q+3,none⟩=some (.bool x.d)∧W.cell? ⟨p,o,none⟩=some (.int .i64 y.p)∧W.cell? ⟨p,o+1,none⟩=some (.int .i64 y.n)∧Below w.heap.size w W∧w.heap.size+1<=W.heap.size):W.cell? ⟨w.heap.size,0,none⟩=some (.slice ao n cap)∧W.cell? ⟨w.heap.size,1,none⟩=some (.int .i64 a)∧W.cell? ⟨w.heap.size,2,none⟩=some (.int .i64 b)∧W.cell? ⟨w.heap.size,3,none⟩=some (.int .i64 c)∧Below w.heap.size w W∧w.heap.size+1<=W.heap.size:=by
 obtain ⟨c0,c1,c2,c3,c4,c5,c6,c7,c8,c9,hB,hz⟩:=h;exact ⟨c0,c1,c2,c3,hB,hz⟩
theorem vy_ (cap:Nat) (ao:Option Addr) (l:List Sib) (a b c:Int) (r:Bool) (hres:Hid (r=true↔OkP l a b c)) (w:World) (hm:(l.length:Int)<=1048576) (hr0:zk_ w ao l) :
  Calls Tryz.prog 67 #[.agg #[.slice ao l.length cap,.int .i64 a,.int .i64 b,.int .i64 c]] w fun e w'=>e=.returned (.bool r)∧Below w.heap.size w w':=by
 have hr:Hid (zk_ w ao l):=hr0;clear hr0;by_cases hlen:l.length<=100
 case neg=>
  have HR:Hid (r=false):=z1_ hres (fun h=>hlen h.1);have d0:decide ((100:Int) < (l.length:Int))=true:=decide_eq_true (by omega);have d1:(100:Int) < (l.length:Int):=by omega
  clear hlen;go_enter Tryz.func67,Tryz.ntmps67;go_wp2;go_ret;refine ⟨zi_ HR.out.symm,?_⟩
  repeat (first | exact Below.refl _ _ | refine Below.drew ?_ | refine below_drewN ?_ _ | refine Below.alloc ?_ (by first | (simp; done) | (simp; omega)) _ | refine Below.setCell ?_ (by first | (simp; done) | (simp; omega)) _)
 have d0:decide ((100:Int) < (l.length:Int))=false:=decide_eq_false (by omega);cases hv:vvB a b c
 ·have HR:Hid (r=false):=z1_ hres (fun h=>by rw [h.2.1] at hv; cases hv);go_enter Tryz.func67,Tryz.ntmps67;go_wp2_with fail;refine (rH_ a b c _).mono ?_;rintro e w1 ⟨rfl,hb⟩;have hB:Hid (Below w.heap.size w w1):=((Below.refl _ _).alloc (Nat.le_refl _) _).trans (hb.mono (by simp));clear hb;go_wp2;go_ret;exact ⟨zi_ HR.out.symm,hB.out⟩
 have HV:=hm_ hv;have HN:Hid (l.length<=100):=hlen;go_enter Tryz.func67,Tryz.ntmps67;go_wp2_with fail;refine (rH_ a b c _).mono ?_;rintro e w1 ⟨rfl,hb⟩;have hB:Hid (Below w.heap.size w w1):=((Below.refl _ _).alloc (Nat.le_refl _) _).trans (hb.mono (by simp));have C0:=za_ hb (b:=w.heap.size) (o:=0) (v:=.slice ao l.length cap) (by go_simp) (by simp);have C1:=za_ hb (b:=w.heap.size) (o:=1) (v:=.int .i64 a) (by go_simp) (by simp);have C2:=za_ hb (b:=w.heap.size) (o:=2) (v:=.int .i64 b) (by go_simp) (by simp);have C3:=za_ hb (b:=w.heap.size) (o:=3) (v:=.int .i64 c) (by go_simp) (by simp);have hz:=hb.size;simp at hz;clear hb hlen;go_wp2;clear hv;go_loopw [3] (fun s3 wr=>∃ k:Nat,k<=l.length∧s3=.int .i64 k∧Below w.heap.size w wr∧(∀ i (h:i < l.length),i < k->Good l a b c i h)∧w.heap.size+1<=wr.heap.size∧wr.cell? ⟨w.heap.size,0,none⟩=some (.slice ao l.length cap)∧wr.cell? ⟨w.heap.size,1,none⟩=some (.int .i64 a)∧wr.cell? ⟨w.heap.size,2,none⟩=some (.int .i64 b)∧wr.cell? ⟨w.heap.size,3,none⟩=some (.int .i64 c)) (fun s3 _=>l.length - (intOf s3).toNat)
 case atStart=>exact ⟨0,by omega,rfl,hB.out,fun i h h'=>by omega,by omega,C0,C1,C2,C3⟩
 case round=>
  clear hB C0 C1 C2 C3 hz;obtain ⟨k,hk,rfl,hB0,hG0,hz,C0,C1,C2,C3⟩:=hrel;have hB:=hm_ hB0;have hG:=hm_ hG0;clear hB0 hG0;by_cases hkl:k < l.length
  ·have hkl':(k:Int) < (l.length:Int):=by omega
   have k0:(0:Int)<=(k:Int):=by omega
   rcases hr.out with h' | ⟨p,off,rfl,h2⟩
   ·rw [h'] at hkl; simp at hkl
   obtain ⟨x0,x1,x2,x3⟩:=(h2 k hkl).next hB.out (zh_ (x:=⟨p,off+k * 4,none⟩) (h2 k hkl).1);have hH2:=hm_ h2;have hS0:=And.intro C0 (And.intro C1 (And.intro C2 (And.intro C3 (And.intro x0 (And.intro x1 (And.intro x2 (And.intro x3 (And.intro hB.out hz))))))));clear h2;cases hs:zW_ l[k].p l[k].n l[k].v l[k].d
   ·have HR:Hid (r=false):=z1_ hres (fun h=>by rw [(h.2.2 k hkl).1] at hs; cases hs);go_wp2;refine wp_region_held_drew (S:=(fun w'=>w'.cell? ⟨w.heap.size,0,none⟩=some (.slice (some ⟨p,off,none⟩) l.length cap)∧w'.cell? ⟨w.heap.size,1,none⟩=some (.int .i64 a)∧w'.cell? ⟨w.heap.size,2,none⟩=some (.int .i64 b)∧w'.cell? ⟨w.heap.size,3,none⟩=some (.int .i64 c)∧w'.cell? ⟨p,off+k * 4,none⟩=some (.int .i64 l[k].p)∧w'.cell? ⟨p,off+k * 4+1,none⟩=some (.int .i64 l[k].n)∧w'.cell? ⟨p,off+k * 4+2,none⟩=some (.int .i64 l[k].v)∧w'.cell? ⟨p,off+k * 4+3,none⟩=some (.bool l[k].d)∧Below w.heap.size w w'∧w.heap.size+1<=w'.heap.size)) (by kernel_rfl) ?_ (fun hH=>?_)
    ·(try dsimp only);exact tG_ hS0
    refine wTk 0 ?_;refine wTk 1 ?_;refine wTk 2 ?_;refine wTk 3 ?_;refine wTk 4 ?_;refine wRd 5 (fun K hK=>?_);go_simp
    (go_at_call 128; refine (xe_ l[k].p l[k].n l[k].v l[k].d _).mono ?_; rintro e w4 ⟨rfl,hb⟩; have hK4:=w1_ hb hH; rw [hs])
    (try simp only []);refine wHk hK (hK4) ?_;clear hK K hH;intro hH;refine wTk 6 ?_;refine wTk 7 ?_;refine wTn 8 ?_;refine wTn 9 ?_;refine wTn 10 ?_;refine wTn 11 ?_;refine wTn 12 ?_;refine wTn 13 ?_;refine wTn 14 ?_;refine wTn 15 ?_;refine wTn 16 ?_;refine wTn 17 ?_;refine wTk 18 ?_;refine wTk 19 ?_;refine wTn 20 ?_;refine wTn 21 ?_;refine wTn 22 ?_;refine wTn 23 ?_;refine wTn 24 ?_;refine wTn 25 ?_;refine wTn 26 ?_;refine wTn 27 ?_;refine wTn 28 ?_;refine wTn 29 ?_;refine wTn 30 ?_;refine wTn 31 ?_;refine wTn 32 ?_;refine wTn 33 ?_;refine wTn 34 ?_;refine wTn 35 ?_;refine wTn 36 ?_;refine wTn 37 ?_;refine wTn 38 ?_;refine wTk 39 ?_;refine wDn ?_;obtain ⟨G0,G1,G2,G3,hB4,hz4⟩:=rP_ hH;clear hs hS0 C0 C1 C2 C3 x0 x1 x2 x3;have hB5:=hm_ hB4;clear hB4;go_wp2;go_ret;exact ⟨zi_ HR.out.symm,hB5.out⟩
   have HS:=hm_ hs;obtain ⟨n0,n3⟩:=v2_ hs;cases hk1:decide (l[k].n<=comp a b c l[k].p)
   ·have HR:Hid (r=false):=z1_ hres (fun h=>by rw [(h.2.2 k hkl).2.1] at hk1; cases hk1);go_wp2;refine wp_region_held_drew (S:=(fun w'=>w'.cell? ⟨w.heap.size,0,none⟩=some (.slice (some ⟨p,off,none⟩) l.length cap)∧w'.cell? ⟨w.heap.size,1,none⟩=some (.int .i64 a)∧w'.cell? ⟨w.heap.size,2,none⟩=some (.int .i64 b)∧w'.cell? ⟨w.heap.size,3,none⟩=some (.int .i64 c)∧w'.cell? ⟨p,off+k * 4,none⟩=some (.int .i64 l[k].p)∧w'.cell? ⟨p,off+k * 4+1,none⟩=some (.int .i64 l[k].n)∧w'.cell? ⟨p,off+k * 4+2,none⟩=some (.int .i64 l[k].v)∧w'.cell? ⟨p,off+k * 4+3,none⟩=some (.bool l[k].d)∧Below w.heap.size w w'∧w.heap.size+1<=w'.heap.size)) (by kernel_rfl) ?_ (fun hH=>?_)
    ·(try dsimp only);exact tG_ hS0
    refine wTk 0 ?_;refine wTk 1 ?_;refine wTk 2 ?_;refine wTk 3 ?_;refine wTk 4 ?_;refine wRd 5 (fun K hK=>?_);go_simp
    (go_at_call 128; refine (xe_ l[k].p l[k].n l[k].v l[k].d _).mono ?_; rintro e w4 ⟨rfl,hb⟩; have hK4:=w1_ hb hH; rw [hs])
    (try simp only []);refine hK.out _ _ ?_ (fun hH'=>?_)
    ·(try dsimp only)
     first | exact hK4 | exact hK5
    clear hK K hH;have hH:=hH';clear hH';refine wLy ?_;refine wTk 6 ?_;refine wTk 7 ?_;refine wTk 8 ?_;refine wTk 9 ?_;refine wTk 10 ?_;refine wTk 11 ?_;refine wTk 12 ?_;refine wTk 13 ?_;refine wTk 14 ?_;refine wTk 15 ?_;refine wRd 16 (fun K hK=>?_);go_simp
    (go_at_call 100; refine (yk_ a b c l[k].p l[k].n _ n0 n3).mono ?_; rintro e w5 ⟨rfl,hb⟩; have hK5:=w1_ hb hH; rw [hk1])
    (try simp only []);refine hK.out _ _ ?_ (fun hH'=>?_)
    ·(try dsimp only)
     first | exact hK4 | exact hK5
    clear hK K hH;have hH:=hH';clear hH';refine wLy ?_;refine wTk 17 ?_;refine wTk 18 ?_;refine wTk 19 ?_;refine wTn 20 ?_;refine wTn 21 ?_;refine wTn 22 ?_;refine wTn 23 ?_;refine wTn 24 ?_;refine wTn 25 ?_;refine wTn 26 ?_;refine wTn 27 ?_;refine wTn 28 ?_;refine wTn 29 ?_;refine wTn 30 ?_;refine wTn 31 ?_;refine wTn 32 ?_;refine wTn 33 ?_;refine wTn 34 ?_;refine wTn 35 ?_;refine wTn 36 ?_;refine wTn 37 ?_;refine wTn 38 ?_;refine wTk 39 ?_;refine wDn ?_;obtain ⟨G0,G1,G2,G3,hB4,hz4⟩:=rP_ hH;have hB5:=hm_ hB4;clear hs hS0 C0 C1 C2 C3 x0 x1 x2 x3 hB4;go_wp2;go_ret;exact ⟨zi_ HR.out.symm,hB5.out⟩
   have HK:=hm_ hk1;rcases Nat.eq_zero_or_pos k with hk0 | hk0
   ·have hG1:∀ i (h:i < l.length),i < k+1->Good l a b c i h:=fun i h h3=>by
     have e:i=k:=by omega
     subst e;exact ⟨HS.out,HK.out,fun h0=>by omega⟩
    have jk:decide (0 < k)=false:=decide_eq_false (by omega);clear hk0;go_wp2;refine wp_region_held_drew (S:=(fun w'=>w'.cell? ⟨w.heap.size,0,none⟩=some (.slice (some ⟨p,off,none⟩) l.length cap)∧w'.cell? ⟨w.heap.size,1,none⟩=some (.int .i64 a)∧w'.cell? ⟨w.heap.size,2,none⟩=some (.int .i64 b)∧w'.cell? ⟨w.heap.size,3,none⟩=some (.int .i64 c)∧w'.cell? ⟨p,off+k * 4,none⟩=some (.int .i64 l[k].p)∧w'.cell? ⟨p,off+k * 4+1,none⟩=some (.int .i64 l[k].n)∧w'.cell? ⟨p,off+k * 4+2,none⟩=some (.int .i64 l[k].v)∧w'.cell? ⟨p,off+k * 4+3,none⟩=some (.bool l[k].d)∧Below w.heap.size w w'∧w.heap.size+1<=w'.heap.size)) (by kernel_rfl) ?_ (fun hH=>?_)
    ·(try dsimp only);exact tG_ hS0
    refine wTk 0 ?_;refine wTk 1 ?_;refine wTk 2 ?_;refine wTk 3 ?_;refine wTk 4 ?_;refine wRd 5 (fun K hK=>?_);go_simp
    (go_at_call 128; refine (xe_ l[k].p l[k].n l[k].v l[k].d _).mono ?_; rintro e w4 ⟨rfl,hb⟩; have hK4:=w1_ hb hH; rw [hs])
    (try simp only []);refine hK.out _ _ ?_ (fun hH'=>?_)
    ·(try dsimp only)
     first | exact hK4 | exact hK5
    clear hK K hH;have hH:=hH';clear hH';refine wLy ?_;refine wTk 6 ?_;refine wTk 7 ?_;refine wTk 8 ?_;refine wTk 9 ?_;refine wTk 10 ?_;refine wTk 11 ?_;refine wTk 12 ?_;refine wTk 13 ?_;refine wTk 14 ?_;refine wTk 15 ?_;refine wRd 16 (fun K hK=>?_);go_simp
    (go_at_call 100; refine (yk_ a b c l[k].p l[k].n _ n0 n3).mono ?_; rintro e w5 ⟨rfl,hb⟩; have hK5:=w1_ hb hH; rw [hk1])
    (try simp only []);refine hK.out _ _ ?_ (fun hH'=>?_)
    ·(try dsimp only)
     first | exact hK4 | exact hK5
    clear hK K hH;have hH:=hH';clear hH';refine wLy ?_;refine wTk 17 ?_;refine wTk 18 ?_;refine wTk 19 ?_;refine wTk 20 ?_;refine wTk 21 ?_;refine wTk 22 ?_;refine wTn 23 ?_;refine wTn 24 ?_;refine wTn 25 ?_;refine wTn 26 ?_;refine wTn 27 ?_;refine wTn 28 ?_;refine wTn 29 ?_;refine wTn 30 ?_;refine wTn 31 ?_;refine wTn 32 ?_;refine wTn 33 ?_;refine wTn 34 ?_;refine wTn 35 ?_;refine wTn 36 ?_;refine wTn 37 ?_;refine wTk 38 ?_;refine wTk 39 ?_;refine wDn ?_;obtain ⟨G0,G1,G2,G3,hB4,hz4⟩:=rP_ hH;have hB5:=hm_ hB4;clear hs hk1 hS0 C0 C1 C2 C3 x0 x1 x2 x3 hB4;go_wp2
    go_roundw
    case rel=>first | exact ⟨k+1,by omega,by go_num,hB5.out,hG1,hz4,G0,G1,G2,G3⟩ | ((repeat apply Exists.intro); exact ⟨⟨k+1,by omega,by go_num,hB5.out,hG1,hz4,G0,G1,G2,G3⟩,rfl⟩)
    case measure=>simp [intOf]; omega
   ·obtain ⟨j,hj⟩:∃ j,k=j+1:=⟨k - 1,by omega⟩;have hjk:(k:Int) - 1=(j:Int):=by omega
    have HJ:Hid (k=j+1):=hj;have hjl:j < l.length:=by omega
    obtain ⟨y0,y1,_,_⟩:=(hH2.out j hjl).next hB.out (zh_ (x:=⟨p,off+j * 4,none⟩) (hH2.out j hjl).1);have hS0:=And.intro C0 (And.intro C1 (And.intro C2 (And.intro C3 (And.intro x0 (And.intro x1 (And.intro x2 (And.intro x3 (And.intro y0 (And.intro y1 (And.intro hB.out hz))))))))));have j0:(0:Int)<=(j:Int):=by omega
    have jl:(j:Int) < (l.length:Int):=by omega
    have jk:decide (0 < k)=true:=decide_eq_true (by omega);have jw:IntKind.i64.wrap (j:Int)=(j:Int):=IntWalk.i64_in _ (by omega);clear hj hk0;cases hd:decide (0<=z5_ l[j].p l[j].n l[k].p l[k].n)
    ·have HD:Hid (z5_ l[j].p l[j].n l[k].p l[k].n < 0):=by
      have:=of_decide_eq_false hd
      show _ < _
      omega
     have hG1:∀ i (h:i < l.length),i < k+1->Good l a b c i h:=fun i h h3=>by
      by_cases e:i=k
      ·subst e; exact ⟨HS.out,HK.out,fun _=>by have e:=HJ.out; subst e; simpa using HD.out⟩
      ·exact hG.out i h (by omega)
     go_wp2
     go_region_held3 (fun w'=>w'.cell? ⟨w.heap.size,0,none⟩=some (.slice (some ⟨p,off,none⟩) l.length cap)∧w'.cell? ⟨w.heap.size,1,none⟩=some (.int .i64 a)∧w'.cell? ⟨w.heap.size,2,none⟩=some (.int .i64 b)∧w'.cell? ⟨w.heap.size,3,none⟩=some (.int .i64 c)∧w'.cell? ⟨p,off+k * 4,none⟩=some (.int .i64 l[k].p)∧w'.cell? ⟨p,off+k * 4+1,none⟩=some (.int .i64 l[k].n)∧w'.cell? ⟨p,off+k * 4+2,none⟩=some (.int .i64 l[k].v)∧w'.cell? ⟨p,off+k * 4+3,none⟩=some (.bool l[k].d)∧w'.cell? ⟨p,off+j * 4,none⟩=some (.int .i64 l[j].p)∧w'.cell? ⟨p,off+j * 4+1,none⟩=some (.int .i64 l[j].n)∧Below w.heap.size w w'∧w.heap.size+1<=w'.heap.size) (with_reducible first | assumption | exact hS0 | exact v3_ hS0 | (refine v3_ ?_; assumption) | (refine xF_ (by assumption) ?_; assumption)) (first | (go_at_call 128; refine (xe_ l[k].p l[k].n l[k].v l[k].d _).mono ?_; rintro e w4 ⟨rfl,hb⟩; have hK:=xF_ hb (by with_reducible assumption); rw [hs]) | (go_at_call 100; refine (yk_ a b c l[k].p l[k].n _ n0 n3).mono ?_; rintro e w4 ⟨rfl,hb⟩; have hK:=xF_ hb (by with_reducible assumption); rw [hk1]) | (go_at_call 129; refine (xu_ l[j].p l[j].n l[k].p l[k].n _).mono ?_; rintro e w4 ⟨rfl,hb⟩; have hK:=xF_ hb (by with_reducible assumption)))
     obtain ⟨G0,G1,G2,G3,hB4,hz4⟩:=pZ_ (by with_reducible assumption);have hB5:=hm_ hB4;clear hs hk1 hS0 C0 C1 C2 C3 x0 x1 x2 x3 y0 y1 hB4;go_wp2
     go_roundw
     case rel=>first | exact ⟨k+1,by omega,by go_num,hB5.out,hG1,hz4,G0,G1,G2,G3⟩ | ((repeat apply Exists.intro); exact ⟨⟨k+1,by omega,by go_num,hB5.out,hG1,hz4,G0,G1,G2,G3⟩,rfl⟩)
     case measure=>simp [intOf]; omega
    ·have HR:Hid (r=false):=z1_ hres (fun h=>by
      have h1:=(h.2.2 k hkl).2.2 (by have:=HJ.out; omega);have h2:=of_decide_eq_true hd;have e:=HJ.out;subst e;simp at h1
      omega)
     go_wp2
     go_region_held3 (fun w'=>w'.cell? ⟨w.heap.size,0,none⟩=some (.slice (some ⟨p,off,none⟩) l.length cap)∧w'.cell? ⟨w.heap.size,1,none⟩=some (.int .i64 a)∧w'.cell? ⟨w.heap.size,2,none⟩=some (.int .i64 b)∧w'.cell? ⟨w.heap.size,3,none⟩=some (.int .i64 c)∧w'.cell? ⟨p,off+k * 4,none⟩=some (.int .i64 l[k].p)∧w'.cell? ⟨p,off+k * 4+1,none⟩=some (.int .i64 l[k].n)∧w'.cell? ⟨p,off+k * 4+2,none⟩=some (.int .i64 l[k].v)∧w'.cell? ⟨p,off+k * 4+3,none⟩=some (.bool l[k].d)∧w'.cell? ⟨p,off+j * 4,none⟩=some (.int .i64 l[j].p)∧w'.cell? ⟨p,off+j * 4+1,none⟩=some (.int .i64 l[j].n)∧Below w.heap.size w w'∧w.heap.size+1<=w'.heap.size) (with_reducible first | assumption | exact hS0 | exact v3_ hS0 | (refine v3_ ?_; assumption) | (refine xF_ (by assumption) ?_; assumption)) (first | (go_at_call 128; refine (xe_ l[k].p l[k].n l[k].v l[k].d _).mono ?_; rintro e w4 ⟨rfl,hb⟩; have hK:=xF_ hb (by with_reducible assumption); rw [hs]) | (go_at_call 100; refine (yk_ a b c l[k].p l[k].n _ n0 n3).mono ?_; rintro e w4 ⟨rfl,hb⟩; have hK:=xF_ hb (by with_reducible assumption); rw [hk1]) | (go_at_call 129; refine (xu_ l[j].p l[j].n l[k].p l[k].n _).mono ?_; rintro e w4 ⟨rfl,hb⟩; have hK:=xF_ hb (by with_reducible assumption)))
     obtain ⟨G0,G1,G2,G3,hB4,hz4⟩:=pZ_ (by with_reducible assumption);have hB5:=hm_ hB4;clear hs hk1 hS0 C0 C1 C2 C3 x0 x1 x2 x3 y0 y1 hB4;go_wp2;go_ret;exact ⟨zi_ HR.out.symm,hB5.out⟩
  ·have hkl':¬ (k:Int) < (l.length:Int):=by omega
   have HR:Hid (r=true):=wt_ hres ⟨HN.out,HV.out,fun i h=>hG.out i h (by omega)⟩;go_wp2;go_ret;exact ⟨zi_ HR.out.symm,hB.out⟩
end
end Go.Proofs.YtijcjhcgpmnchaaGreatDoor
