/- Nodes, part 1 of the law FnTake. -/
import Derived.Test.YtijcjhcgpmnchaaGreatDoorM00
import Derived.LoopN
import Derived.OwnWalk
import Derived.Laws.StructEq
namespace Go.Proofs.YtijcjhcgpmnchaaGreatDoor
open Go.RowKit
set_option maxRecDepth 100000
set_option maxHeartbeats 16000000
set_option linter.unusedSimpArgs false
set_option linter.unusedVariables false
section
variable {W w1:World} {a:Int} {ao:Option Addr} {b g i j k n:Nat} {u v:Value}
theorem zi_ {a b:Bool} (h:a=b):Ending.returned (.bool a)=.returned (.bool b):=by rw [h]
theorem xJ_ {k:IntKind} {b:Int} (h:a=b):Ending.returned (.int k a)=.returned (.int k b):=by rw [h]
theorem za_ (hb:Below W.heap.size W w1) {b o:Nat} {v:Value} (h:W.cell? ⟨b,o,none⟩=some v) (hs:b < W.heap.size):w1.cell? ⟨b,o,none⟩=some v:=by
 rw [hb.cell (p:=⟨b,o,none⟩) hs]; exact h
theorem zg_ {o t:Nat} (h:W.cell? ⟨b,o,none⟩=some v) (hne:b≠t):(W.setCell ⟨t,j,none⟩ u).cell? ⟨b,o,none⟩=some v:=by
 rw [World.cell?_of_block (w:=W) (Below.heap_setCell W ⟨t,j,none⟩ u b (by simpa using hne))]; exact h
theorem zf_ (hb:Below W.heap.size W w1) {b o:Nat} (h:W.frozen? ⟨b,o,none⟩=false) (hs:b < W.heap.size):w1.frozen? ⟨b,o,none⟩=false:=by
 rw [hb.frozen (p:=⟨b,o,none⟩) hs]; exact h
structure Sib where
 p:Int
 n:Int
 v:Int
 d:Bool
variable {l:List Sib}
def x9_ (w:World) (b o:Nat) (x:Sib):Prop:=w.cell? ⟨b,o,none⟩=some (.int .i64 x.p)∧w.cell? ⟨b,o+1,none⟩=some (.int .i64 x.n)∧w.cell? ⟨b,o+2,none⟩=some (.int .i64 x.v)∧w.cell? ⟨b,o+3,none⟩=some (.bool x.d)
def zk_ (w:World) (ao:Option Addr) (l:List Sib):Prop:=l=[]∨∃ b off,ao=some ⟨b,off,none⟩∧∀ i (h:i < l.length),x9_ w b (off+i * 4) l[i]
def zQ_ (w:World) (g n:Nat):Prop:=∀ j,j < n->(w.cell? ⟨g,j,none⟩).isSome=true∧w.frozen? ⟨g,j,none⟩=false
theorem zo_ (h:i≠j):(W.setCell ⟨b,i,none⟩ u).cell? ⟨b,j,none⟩=W.cell? ⟨b,j,none⟩:=
 World.cell?_setCell_other W _ _ u (fun e=>h (by cases e; rfl))
theorem zE_ {c:Nat} (h:b≠c):(W.setCell ⟨b,i,none⟩ u).cell? ⟨c,j,none⟩=W.cell? ⟨c,j,none⟩:=
 World.cell?_setCell_other W _ _ u (fun e=>h (by cases e; rfl))
theorem zB_ (h:(W.cell? ⟨b,i,none⟩).isSome=true):(W.setCell ⟨b,i,none⟩ u).cell? ⟨b,i,none⟩=some u:=by
 obtain ⟨v,hv⟩:=isx h;exact World.cell?_setCell_same W _ u hv
theorem zQ_.set (h:zQ_ W g n):zQ_ (W.setCell ⟨b,i,none⟩ u) g n:=fun j hj=>by
 refine ⟨?_,by rw [World.frozen?_setCell]; exact (h j hj).2⟩;obtain ⟨v,hv⟩:=isx (h j hj).1;obtain ⟨v',hv'⟩:=cell?_setCell_some (p:=⟨b,i,none⟩) (x:=u) hv;rw [hv']; rfl
theorem zQ_.next (hb:Below W.heap.size W w1) (hg:g < W.heap.size) (h:zQ_ W g n):zQ_ w1 g n:=fun j hj=>by
 obtain ⟨h1,h2⟩:=h j hj;exact ⟨by rw [hb.cell (p:=⟨g,j,none⟩) hg]; exact h1,by rw [hb.frozen (p:=⟨g,j,none⟩) hg]; exact h2⟩
theorem x9_.next {o:Nat} {x:Sib} (hb:Below W.heap.size W w1) (hg:b < W.heap.size) (h:x9_ W b o x):x9_ w1 b o x:=
 ⟨za_ hb h.1 hg,za_ hb h.2.1 hg,za_ hb h.2.2.1 hg,za_ hb h.2.2.2 hg⟩
theorem zh_ {x:Addr} (h:W.cell? x=some v):x.block < W.heap.size:=by
 rcases Nat.lt_or_ge x.block W.heap.size with h' | h'
 ·exact h'
 ·simp [World.cell?,Array.getElem?_eq_none h'] at h
theorem zk_.next (hb:Below W.heap.size W w1) (h:zk_ W ao l):zk_ w1 ao l:=by
 rcases h with h | ⟨b,off,h1,h2⟩
 ·exact Or.inl h
 ·exact Or.inr ⟨b,off,h1,fun i hi=>(h2 i hi).next hb (zh_ (x:=⟨b,off+i * 4,none⟩) (h2 i hi).1)⟩
theorem x9_.put {x:Sib} (h:zQ_ W g n) (hk:k+3 < n):x9_ ((((W.setCell ⟨g,k,none⟩ (.int .i64 x.p)).setCell ⟨g,k+1,none⟩ (.int .i64 x.n)).setCell ⟨g,k+2,none⟩ (.int .i64 x.v)).setCell ⟨g,k+3,none⟩ (.bool x.d)) g k x:=by
 refine ⟨?_,?_,?_,?_⟩
 ·rw [zo_ (by omega),zo_ (by omega),zo_ (by omega)]; exact zB_ (h k (by omega)).1
 ·rw [zo_ (by omega),zo_ (by omega)]; exact zB_ (h.set (k+1) (by omega)).1
 ·rw [zo_ (by omega)]; exact zB_ (h.set.set (k+2) (by omega)).1
 ·exact zB_ (h.set.set.set (k+3) (by omega)).1
end
theorem eqv (a b c x y z:Int) (w:World):Sem.run Tryz.prog (Op.equalIn 10000 35 (.agg #[.int .i64 a,.int .i64 b,.int .i64 c]) (.agg #[.int .i64 x,.int .i64 y,.int .i64 z])) w=.ok (a == x && (b == y && c == z)) w:=by
 have h29:=Tryz.underlying35;have h3:=Tryz.underlying3;rw [Op.equalIn];simp only [Sem.run_bind,run_underlying h29,Result.andThen_ok,Bool.false_eq_true,if_false];simp [go_sem,h3,List.range',List.forIn_cons];cases h1:(a == x) <;> cases h2:(b == y) <;> cases h3:(c == z) <;> simp_all [go_sem]
def sibB (x y:Sib):Bool:=x.p == y.p && (x.n == y.n && (x.v == y.v && x.d == y.d))
theorem eqs (x y:Sib) (w:World):Sem.run Tryz.prog (Op.equalIn 10000 89 (.agg #[.int .i64 x.p,.int .i64 x.n,.int .i64 x.v,.bool x.d]) (.agg #[.int .i64 y.p,.int .i64 y.n,.int .i64 y.v,.bool y.d])) w=.ok (sibB x y) w:=by
 have h42:=Tryz.underlying89;have h40:=Tryz.underlying41;have h3:=Tryz.underlying3;have h4:=Tryz.underlying4;have hs:Tryz.prog.stoodInHeld 89=false:=by kernel_rfl
 have hs':Tryz.prog.stoodInHeld 41=false:=by kernel_rfl
 have ia:∀ w,Sem.run Tryz.prog (isAgg 41) w=.ok true w:=fun _=>by kernel_rfl
 have sz:∀ w,Sem.run Tryz.prog (sizeOf 41) w=.ok 2 w:=fun _=>by kernel_rfl
 unfold sibB;rw [run_equalIn_struct w 9999 89 _ _ (by kernel_rfl) hs];simp [go_sem,h42,h40,h3,h4,hs',ia,sz];cases h1:(x.p == y.p) <;> cases h2:(x.n == y.n) <;> cases h3:(x.v == y.v) <;> cases h4:(x.d == y.d) <;> simp_all [go_sem]
def Same (l l2:List Sib) (a b c x y z:Int):Prop:=(a == x && (b == y && c == z))=true∧l.length=l2.length∧∀ i (h:i < l.length) (h2:i < l2.length),sibB l[i] l2[i]=true
theorem z1_ {r:Bool} {P:Prop} (h:Hid (r=true↔P)) (hn:¬ P):r=false:=by
 cases r
 ·rfl
 ·exact (hn (h.out.1 rfl)).elim
theorem wt_ {r:Bool} {P:Prop} (h:Hid (r=true↔P)) (hp:P):r=true:=h.out.2 hp
theorem qj_ (cap cp:Nat) (ao bo:Option Addr) (l l2:List Sib) (a b c x y z:Int) (r:Bool) (hres:Hid (r=true↔Same l l2 a b c x y z)) (w:World) (hm:(l.length:Int)<=1048576) (hm2:(l2.length:Int)<=1048576) (hr0:zk_ w ao l) (hs0:zk_ w bo l2) :
  Calls Tryz.prog 54 #[.agg #[.slice ao l.length cap,.int .i64 a,.int .i64 b,.int .i64 c],.agg #[.slice bo l2.length cp,.int .i64 x,.int .i64 y,.int .i64 z]] w fun e w'=>e=.returned (.bool r)∧Below w.heap.size w w':=by
 have hr:Hid (zk_ w ao l):=hr0;have hs:Hid (zk_ w bo l2):=hs0;clear hr0 hs0;have ev:=eqv a b c x y z;cases heb:(a == x && (b == y && c == z))
 ·have HR:Hid (r=false):=z1_ hres (fun h=>by rw [h.1] at heb; cases heb);rw [heb] at ev;clear heb;go_enter Tryz.func54,Tryz.ntmps54;go_wp2;go_ret;refine ⟨zi_ HR.out.symm,?_⟩
  repeat (first | exact Below.refl _ _ | refine Below.drew ?_ | refine below_drewN ?_ _ | refine Below.alloc ?_ (by first | (simp; done) | (simp; omega)) _ | refine Below.setCell ?_ (by first | (simp; done) | (simp; omega)) _)
 rw [heb] at ev;have HE:=hm_ heb;clear heb;by_cases hll:l.length=l2.length
 case neg=>
  have HR:Hid (r=false):=z1_ hres (fun h=>hll h.2.1);have hne:((l.length:Int) == (l2.length:Int))=false:=beq_eq_false_iff_ne.2 (by omega);clear hll;go_enter Tryz.func54,Tryz.ntmps54;go_wp2;go_ret;refine ⟨zi_ HR.out.symm,?_⟩
  repeat (first | exact Below.refl _ _ | refine Below.drew ?_ | refine below_drewN ?_ _ | refine Below.alloc ?_ (by first | (simp; done) | (simp; omega)) _ | refine Below.setCell ?_ (by first | (simp; done) | (simp; omega)) _)
 have heq:((l.length:Int) != (l2.length:Int))=false:=by simp; omega
 have HL:=hm_ hll;clear hll;go_enter Tryz.func54,Tryz.ntmps54;go_wp2;clear ev;go_loopw [5] (fun s5 wr=>∃ k:Nat,k<=l.length∧s5=.int .i64 k∧Below w.heap.size w wr∧(∀ i (h:i < l.length) (h2:i < l2.length),i < k->sibB l[i] l2[i]=true)∧wr.cell? ⟨w.heap.size,0,none⟩=some (.slice ao l.length cap)∧wr.cell? ⟨w.heap.size+1,0,none⟩=some (.slice bo l2.length cp)) (fun s5 _=>l.length - (intOf s5).toNat)
 case atStart=>exact ⟨0,by omega,rfl,(((Below.refl _ _).alloc (Nat.le_refl _) _).alloc (by simp) _),fun i h h2 h3=>by omega,by go_simp,by go_simp⟩
 case round=>
  obtain ⟨k,hk,rfl,hB0,hA0,b0,b1⟩:=hrel;have hB:=hm_ hB0;have hA:=hm_ hA0;clear hB0 hA0;by_cases hkl:k < l.length
  ·have hkl2:k < l2.length:=by have:=HL.out; omega
   have hkl':(k:Int) < (l.length:Int):=by omega
   have hkl3:(k:Int) < (l2.length:Int):=by omega
   rcases hr.out with h' | ⟨p,off,rfl,h2⟩
   ·rw [h'] at hkl; simp at hkl
   rcases hs.out with h' | ⟨q,oft,rfl,h3⟩
   ·rw [h'] at hkl2; simp at hkl2
   obtain ⟨x0,x1,x2,x3⟩:=(h2 k hkl).next hB.out (zh_ (x:=⟨p,off+k * 4,none⟩) (h2 k hkl).1);obtain ⟨y0,y1,y2,y3⟩:=(h3 k hkl2).next hB.out (zh_ (x:=⟨q,oft+k * 4,none⟩) (h3 k hkl2).1);have es:=eqs l[k] l2[k];have k0:(0:Int)<=(k:Int):=by omega
   clear h2 h3;cases hsb:sibB l[k] l2[k]
   ·have HR:Hid (r=false):=z1_ hres (fun h=>by rw [h.2.2 k hkl hkl2] at hsb; cases hsb);rw [hsb] at es;clear hsb;go_wp2
    go_quiet (fail)
    go_wp2;go_ret;exact ⟨zi_ HR.out.symm,below_drewN hB.out _⟩
   ·rw [hsb] at es;have HS:=hm_ hsb;clear hsb;go_wp2
    go_quiet (fail)
    go_wp2
    have hA1:∀ i (h:i < l.length) (h2:i < l2.length),i < k+1->sibB l[i] l2[i]=true:=fun i h h2 h3=>by
     by_cases e:i=k
     ·subst e; exact HS.out
     ·exact hA.out i h h2 (by omega)
    go_roundw
    case rel=>first | exact ⟨k+1,by omega,by go_num,below_drewN hB.out _,hA1,b0,b1⟩ | ((repeat apply Exists.intro); exact ⟨⟨k+1,by omega,by go_num,below_drewN hB.out _,hA1,b0,b1⟩,rfl⟩)
    case measure=>simp [intOf]; omega
  ·have hkl':¬ (k:Int) < (l.length:Int):=by omega
   have HR:Hid (r=true):=wt_ hres ⟨HE.out,HL.out,fun i h h2=>hA.out i h h2 (by omega)⟩;go_wp2;go_ret;exact ⟨zi_ HR.out.symm,hB.out⟩
theorem xt_ (cap cp:Nat) (ao bo:Option Addr) (l l2:List Sib) (a b c x y z:Int) (r:Bool) (hres:Hid (r=true↔Same l l2 a b c x y z)) (w:World) (hm:(l.length:Int)<=1048576) (hm2:(l2.length:Int)<=1048576) (hr0:zk_ w ao l) (hs0:zk_ w bo l2) :
  Calls Tryz.prog 131 #[.agg #[.slice ao l.length cap,.int .i64 a,.int .i64 b,.int .i64 c],.agg #[.slice bo l2.length cp,.int .i64 x,.int .i64 y,.int .i64 z]] w fun e w'=>e=.returned (.bool r)∧Below w.heap.size w w':=by
 have hr:Hid (zk_ w ao l):=hr0;have hs:Hid (zk_ w bo l2):=hs0;clear hr0 hs0;have ev:=eqv a b c x y z;cases heb:(a == x && (b == y && c == z))
 ·have HR:Hid (r=false):=z1_ hres (fun h=>by rw [h.1] at heb; cases heb);rw [heb] at ev;clear heb;go_enter Tryz.func131,Tryz.ntmps131;go_wp2;go_ret;refine ⟨zi_ HR.out.symm,?_⟩
  repeat (first | exact Below.refl _ _ | refine Below.drew ?_ | refine below_drewN ?_ _ | refine Below.alloc ?_ (by first | (simp; done) | (simp; omega)) _ | refine Below.setCell ?_ (by first | (simp; done) | (simp; omega)) _)
 rw [heb] at ev;have HE:=hm_ heb;clear heb;by_cases hll:l.length=l2.length
 case neg=>
  have HR:Hid (r=false):=z1_ hres (fun h=>hll h.2.1);have hne:((l.length:Int) == (l2.length:Int))=false:=beq_eq_false_iff_ne.2 (by omega);clear hll;go_enter Tryz.func131,Tryz.ntmps131;go_wp2;go_ret;refine ⟨zi_ HR.out.symm,?_⟩
  repeat (first | exact Below.refl _ _ | refine Below.drew ?_ | refine below_drewN ?_ _ | refine Below.alloc ?_ (by first | (simp; done) | (simp; omega)) _ | refine Below.setCell ?_ (by first | (simp; done) | (simp; omega)) _)
 have heq:((l.length:Int) != (l2.length:Int))=false:=by simp; omega
 have HL:=hm_ hll;clear hll;go_enter Tryz.func131,Tryz.ntmps131;go_wp2;clear ev;go_loopw [5] (fun s5 wr=>∃ k:Nat,k<=l.length∧s5=.int .i64 k∧Below w.heap.size w wr∧(∀ i (h:i < l.length) (h2:i < l2.length),i < k->sibB l[i] l2[i]=true)∧wr.cell? ⟨w.heap.size,0,none⟩=some (.slice ao l.length cap)∧wr.cell? ⟨w.heap.size+1,0,none⟩=some (.slice bo l2.length cp)) (fun s5 _=>l.length - (intOf s5).toNat)
 case atStart=>exact ⟨0,by omega,rfl,(((Below.refl _ _).alloc (Nat.le_refl _) _).alloc (by simp) _),fun i h h2 h3=>by omega,by go_simp,by go_simp⟩
 case round=>
  obtain ⟨k,hk,rfl,hB0,hA0,b0,b1⟩:=hrel;have hB:=hm_ hB0;have hA:=hm_ hA0;clear hB0 hA0;by_cases hkl:k < l.length
  ·have hkl2:k < l2.length:=by have:=HL.out; omega
   have hkl':(k:Int) < (l.length:Int):=by omega
   have hkl3:(k:Int) < (l2.length:Int):=by omega
   rcases hr.out with h' | ⟨p,off,rfl,h2⟩
   ·rw [h'] at hkl; simp at hkl
   rcases hs.out with h' | ⟨q,oft,rfl,h3⟩
   ·rw [h'] at hkl2; simp at hkl2
   obtain ⟨x0,x1,x2,x3⟩:=(h2 k hkl).next hB.out (zh_ (x:=⟨p,off+k * 4,none⟩) (h2 k hkl).1);obtain ⟨y0,y1,y2,y3⟩:=(h3 k hkl2).next hB.out (zh_ (x:=⟨q,oft+k * 4,none⟩) (h3 k hkl2).1);have es:=eqs l[k] l2[k];have k0:(0:Int)<=(k:Int):=by omega
   clear h2 h3;cases hsb:sibB l[k] l2[k]
   ·have HR:Hid (r=false):=z1_ hres (fun h=>by rw [h.2.2 k hkl hkl2] at hsb; cases hsb);rw [hsb] at es;clear hsb;go_wp2
    go_quiet (fail)
    go_wp2;go_ret;exact ⟨zi_ HR.out.symm,below_drewN hB.out _⟩
   ·rw [hsb] at es;have HS:=hm_ hsb;clear hsb;go_wp2
    go_quiet (fail)
    go_wp2
    have hA1:∀ i (h:i < l.length) (h2:i < l2.length),i < k+1->sibB l[i] l2[i]=true:=fun i h h2 h3=>by
     by_cases e:i=k
     ·subst e; exact HS.out
     ·exact hA.out i h h2 (by omega)
    go_roundw
    case rel=>first | exact ⟨k+1,by omega,by go_num,below_drewN hB.out _,hA1,b0,b1⟩ | ((repeat apply Exists.intro); exact ⟨⟨k+1,by omega,by go_num,below_drewN hB.out _,hA1,b0,b1⟩,rfl⟩)
    case measure=>simp [intOf]; omega
  ·have hkl':¬ (k:Int) < (l.length:Int):=by omega
   have HR:Hid (r=true):=wt_ hres ⟨HE.out,HL.out,fun i h h2=>hA.out i h h2 (by omega)⟩;go_wp2;go_ret;exact ⟨zi_ HR.out.symm,hB.out⟩
end Go.Proofs.YtijcjhcgpmnchaaGreatDoor
