/- Nodes and their buckets, part 6 of the law FnDigest. -/
import Derived.Test.YtiokjphefpicbaaGreatDoorM05
namespace Go.Proofs.YtiokjphefpicbaaGreatDoor
open Go.RowKit
set_option maxRecDepth 100000
set_option maxHeartbeats 16000000
set_option linter.unusedSimpArgs false
set_option linter.unusedVariables false
variable {W W' w:World} {a c:Int} {ao:Option Addr} {cap n q:Nat}
theorem wL_ {p:Nat} {b:Int} {x:Sib} (hb:Below W.heap.size W W') (h:W.cell? ⟨w.heap.size,0,none⟩=some (.slice ao n cap)∧W.cell? ⟨w.heap.size,1,none⟩=some (.int .i64 a)∧W.cell? ⟨w.heap.size,2,none⟩=some (.int .i64 b)∧W.cell? ⟨w.heap.size,3,none⟩=some (.int .i64 c)∧W.cell? ⟨p,q,none⟩=some (.int .i64 x.p)∧W.cell? ⟨p,q+1,none⟩=some (.int .i64 x.n)∧W.cell? ⟨p,q+2,none⟩=some (.int .i64 x.v)∧W.cell? ⟨p,q+3,none⟩=some (.bool x.d)∧Below w.heap.size w W∧w.heap.size+1≤W.heap.size):W'.cell? ⟨w.heap.size,0,none⟩=some (.slice ao n cap)∧W'.cell? ⟨w.heap.size,1,none⟩=some (.int .i64 a)∧W'.cell? ⟨w.heap.size,2,none⟩=some (.int .i64 b)∧W'.cell? ⟨w.heap.size,3,none⟩=some (.int .i64 c)∧W'.cell? ⟨p,q,none⟩=some (.int .i64 x.p)∧W'.cell? ⟨p,q+1,none⟩=some (.int .i64 x.n)∧W'.cell? ⟨p,q+2,none⟩=some (.int .i64 x.v)∧W'.cell? ⟨p,q+3,none⟩=some (.bool x.d)∧Below w.heap.size w W'∧w.heap.size+1≤W'.heap.size:=by
 obtain ⟨c0,c1,c2,c3,c4,c5,c6,c7,hB,hz⟩:=h
 have hq:=hb.size
 exact ⟨za_ hb c0 (by omega),za_ hb c1 (by omega),za_ hb c2 (by omega),za_ hb c3 (by omega),za_ hb c4 (zg_ (x:=⟨p,q,none⟩) c4),za_ hb c5 (zg_ (x:=⟨p,q+1,none⟩) c5),za_ hb c6 (zg_ (x:=⟨p,q+2,none⟩) c6),za_ hb c7 (zg_ (x:=⟨p,q+3,none⟩) c7),hB.trans (hb.mono (by omega)),by omega⟩
theorem tg_ {p:Nat} {b:Int} {x:Sib} (h:W.cell? ⟨w.heap.size,0,none⟩=some (.slice ao n cap)∧W.cell? ⟨w.heap.size,1,none⟩=some (.int .i64 a)∧W.cell? ⟨w.heap.size,2,none⟩=some (.int .i64 b)∧W.cell? ⟨w.heap.size,3,none⟩=some (.int .i64 c)∧W.cell? ⟨p,q,none⟩=some (.int .i64 x.p)∧W.cell? ⟨p,q+1,none⟩=some (.int .i64 x.n)∧W.cell? ⟨p,q+2,none⟩=some (.int .i64 x.v)∧W.cell? ⟨p,q+3,none⟩=some (.bool x.d)∧Below w.heap.size w W∧w.heap.size+1≤W.heap.size):W.drew.cell? ⟨w.heap.size,0,none⟩=some (.slice ao n cap)∧W.drew.cell? ⟨w.heap.size,1,none⟩=some (.int .i64 a)∧W.drew.cell? ⟨w.heap.size,2,none⟩=some (.int .i64 b)∧W.drew.cell? ⟨w.heap.size,3,none⟩=some (.int .i64 c)∧W.drew.cell? ⟨p,q,none⟩=some (.int .i64 x.p)∧W.drew.cell? ⟨p,q+1,none⟩=some (.int .i64 x.n)∧W.drew.cell? ⟨p,q+2,none⟩=some (.int .i64 x.v)∧W.drew.cell? ⟨p,q+3,none⟩=some (.bool x.d)∧Below w.heap.size w W.drew∧w.heap.size+1≤W.drew.heap.size:=by
 obtain ⟨c0,c1,c2,c3,c4,c5,c6,c7,hB,hz⟩:=h
 exact ⟨c0,c1,c2,c3,c4,c5,c6,c7,hB.drew,hz⟩
theorem rK_ {p:Nat} {b:Int} {x:Sib} (h:W.cell? ⟨w.heap.size,0,none⟩=some (.slice ao n cap)∧W.cell? ⟨w.heap.size,1,none⟩=some (.int .i64 a)∧W.cell? ⟨w.heap.size,2,none⟩=some (.int .i64 b)∧W.cell? ⟨w.heap.size,3,none⟩=some (.int .i64 c)∧W.cell? ⟨p,q,none⟩=some (.int .i64 x.p)∧W.cell? ⟨p,q+1,none⟩=some (.int .i64 x.n)∧W.cell? ⟨p,q+2,none⟩=some (.int .i64 x.v)∧W.cell? ⟨p,q+3,none⟩=some (.bool x.d)∧Below w.heap.size w W∧w.heap.size+1≤W.heap.size):W.cell? ⟨w.heap.size,0,none⟩=some (.slice ao n cap)∧W.cell? ⟨w.heap.size,1,none⟩=some (.int .i64 a)∧W.cell? ⟨w.heap.size,2,none⟩=some (.int .i64 b)∧W.cell? ⟨w.heap.size,3,none⟩=some (.int .i64 c)∧Below w.heap.size w W∧w.heap.size+1≤W.heap.size:=by
 obtain ⟨c0,c1,c2,c3,c4,c5,c6,c7,hB,hz⟩:=h
 exact ⟨c0,c1,c2,c3,hB,hz⟩
theorem xt_ {p:Nat} {b:Int} {x:Sib} {o:Nat} {y:Sib} (hb:Below W.heap.size W W') (h:W.cell? ⟨w.heap.size,0,none⟩=some (.slice ao n cap)∧W.cell? ⟨w.heap.size,1,none⟩=some (.int .i64 a)∧W.cell? ⟨w.heap.size,2,none⟩=some (.int .i64 b)∧W.cell? ⟨w.heap.size,3,none⟩=some (.int .i64 c)∧W.cell? ⟨p,q,none⟩=some (.int .i64 x.p)∧W.cell? ⟨p,q+1,none⟩=some (.int .i64 x.n)∧W.cell? ⟨p,q+2,none⟩=some (.int .i64 x.v)∧W.cell? ⟨p,q+3,none⟩=some (.bool x.d)∧W.cell? ⟨p,o,none⟩=some (.int .i64 y.p)∧W.cell? ⟨p,o+1,none⟩=some (.int .i64 y.n)∧Below w.heap.size w W∧w.heap.size+1≤W.heap.size):W'.cell? ⟨w.heap.size,0,none⟩=some (.slice ao n cap)∧W'.cell? ⟨w.heap.size,1,none⟩=some (.int .i64 a)∧W'.cell? ⟨w.heap.size,2,none⟩=some (.int .i64 b)∧W'.cell? ⟨w.heap.size,3,none⟩=some (.int .i64 c)∧W'.cell? ⟨p,q,none⟩=some (.int .i64 x.p)∧W'.cell? ⟨p,q+1,none⟩=some (.int .i64 x.n)∧W'.cell? ⟨p,q+2,none⟩=some (.int .i64 x.v)∧W'.cell? ⟨p,q+3,none⟩=some (.bool x.d)∧W'.cell? ⟨p,o,none⟩=some (.int .i64 y.p)∧W'.cell? ⟨p,o+1,none⟩=some (.int .i64 y.n)∧Below w.heap.size w W'∧w.heap.size+1≤W'.heap.size:=by
 obtain ⟨c0,c1,c2,c3,c4,c5,c6,c7,c8,c9,hB,hz⟩:=h
 have hq:=hb.size
 exact ⟨za_ hb c0 (by omega),za_ hb c1 (by omega),za_ hb c2 (by omega),za_ hb c3 (by omega),za_ hb c4 (zg_ (x:=⟨p,q,none⟩) c4),za_ hb c5 (zg_ (x:=⟨p,q+1,none⟩) c5),za_ hb c6 (zg_ (x:=⟨p,q+2,none⟩) c6),za_ hb c7 (zg_ (x:=⟨p,q+3,none⟩) c7),za_ hb c8 (zg_ (x:=⟨p,o,none⟩) c8),za_ hb c9 (zg_ (x:=⟨p,o+1,none⟩) c9),hB.trans (hb.mono (by omega)),by omega⟩
theorem vH_ {p:Nat} {b:Int} {x:Sib} {o:Nat} {y:Sib} (h:W.cell? ⟨w.heap.size,0,none⟩=some (.slice ao n cap)∧W.cell? ⟨w.heap.size,1,none⟩=some (.int .i64 a)∧W.cell? ⟨w.heap.size,2,none⟩=some (.int .i64 b)∧W.cell? ⟨w.heap.size,3,none⟩=some (.int .i64 c)∧W.cell? ⟨p,q,none⟩=some (.int .i64 x.p)∧W.cell? ⟨p,q+1,none⟩=some (.int .i64 x.n)∧W.cell? ⟨p,q+2,none⟩=some (.int .i64 x.v)∧W.cell? ⟨p,q+3,none⟩=some (.bool x.d)∧W.cell? ⟨p,o,none⟩=some (.int .i64 y.p)∧W.cell? ⟨p,o+1,none⟩=some (.int .i64 y.n)∧Below w.heap.size w W∧w.heap.size+1≤W.heap.size):W.drew.cell? ⟨w.heap.size,0,none⟩=some (.slice ao n cap)∧W.drew.cell? ⟨w.heap.size,1,none⟩=some (.int .i64 a)∧W.drew.cell? ⟨w.heap.size,2,none⟩=some (.int .i64 b)∧W.drew.cell? ⟨w.heap.size,3,none⟩=some (.int .i64 c)∧W.drew.cell? ⟨p,q,none⟩=some (.int .i64 x.p)∧W.drew.cell? ⟨p,q+1,none⟩=some (.int .i64 x.n)∧W.drew.cell? ⟨p,q+2,none⟩=some (.int .i64 x.v)∧W.drew.cell? ⟨p,q+3,none⟩=some (.bool x.d)∧W.drew.cell? ⟨p,o,none⟩=some (.int .i64 y.p)∧W.drew.cell? ⟨p,o+1,none⟩=some (.int .i64 y.n)∧Below w.heap.size w W.drew∧w.heap.size+1≤W.drew.heap.size:=by
 obtain ⟨c0,c1,c2,c3,c4,c5,c6,c7,c8,c9,hB,hz⟩:=h
 exact ⟨c0,c1,c2,c3,c4,c5,c6,c7,c8,c9,hB.drew,hz⟩
theorem pY_ {p:Nat} {b:Int} {x:Sib} {o:Nat} {y:Sib} (h:W.cell? ⟨w.heap.size,0,none⟩=some (.slice ao n cap)∧W.cell? ⟨w.heap.size,1,none⟩=some (.int .i64 a)∧W.cell? ⟨w.heap.size,2,none⟩=some (.int .i64 b)∧W.cell? ⟨w.heap.size,3,none⟩=some (.int .i64 c)∧W.cell? ⟨p,q,none⟩=some (.int .i64 x.p)∧W.cell? ⟨p,q+1,none⟩=some (.int .i64 x.n)∧W.cell? ⟨p,q+2,none⟩=some (.int .i64 x.v)∧W.cell? ⟨p,q+3,none⟩=some (.bool x.d)∧W.cell? ⟨p,o,none⟩=some (.int .i64 y.p)∧W.cell? ⟨p,o+1,none⟩=some (.int .i64 y.n)∧Below w.heap.size w W∧w.heap.size+1≤W.heap.size):W.cell? ⟨w.heap.size,0,none⟩=some (.slice ao n cap)∧W.cell? ⟨w.heap.size,1,none⟩=some (.int .i64 a)∧W.cell? ⟨w.heap.size,2,none⟩=some (.int .i64 b)∧W.cell? ⟨w.heap.size,3,none⟩=some (.int .i64 c)∧Below w.heap.size w W∧w.heap.size+1≤W.heap.size:=by
 obtain ⟨c0,c1,c2,c3,c4,c5,c6,c7,c8,c9,hB,hz⟩:=h
 exact ⟨c0,c1,c2,c3,hB,hz⟩
theorem sL_ (cap:Nat) (ao:Option Addr) (l:List Sib) (a b c:Int) (r:Bool) (hres:Hid (r=true↔OkP l a b c)) (w:World) (hm:(l.length:Int)≤1048576) (hr0:zk_ w ao l) :
  Calls Tryz.prog 70 #[.agg #[.slice ao l.length cap,.int .i64 a,.int .i64 b,.int .i64 c]] w fun e w'=>e=.returned (.bool r)∧Below w.heap.size w w':=by
 have hr:Hid (zk_ w ao l):=hr0
 clear hr0
 by_cases hlen:l.length≤100
 case neg=>
  have HR:Hid (r=false):=ye_ hres (fun h=>hlen h.1)
  have d0:decide ((100:Int) < (l.length:Int))=true:=decide_eq_true (by omega)
  have d1:(100:Int) < (l.length:Int):=by omega
  clear hlen
  go_enter Tryz.func70,Tryz.ntmps70
  go_wp2
  go_ret
  refine ⟨zi_ HR.out.symm,?_⟩
  repeat (first | exact Below.refl _ _ | refine Below.drew ?_ | refine below_drewN ?_ _ | refine Below.alloc ?_ (by first | (simp; done) | (simp; omega)) _ | refine Below.setCell ?_ (by first | (simp; done) | (simp; omega)) _)
 have d0:decide ((100:Int) < (l.length:Int))=false:=decide_eq_false (by omega)
 cases hv:vvB a b c
 ·have HR:Hid (r=false):=ye_ hres (fun h=>by rw [h.2.1] at hv; cases hv)
  go_enter Tryz.func70,Tryz.ntmps70
  go_wp2_with fail
  refine (rA_ a b c _).mono ?_
  rintro e w1 ⟨rfl,hb⟩
  have hB:Hid (Below w.heap.size w w1):=((Below.refl _ _).alloc (Nat.le_refl _) _).trans (hb.mono (by simp))
  clear hb
  go_wp2
  go_ret
  exact ⟨zi_ HR.out.symm,hB.out⟩
 have HV:=hm_ hv
 have HN:Hid (l.length≤100):=hlen
 go_enter Tryz.func70,Tryz.ntmps70
 go_wp2_with fail
 refine (rA_ a b c _).mono ?_
 rintro e w1 ⟨rfl,hb⟩
 have hB:Hid (Below w.heap.size w w1):=((Below.refl _ _).alloc (Nat.le_refl _) _).trans (hb.mono (by simp))
 have C0:=za_ hb (b:=w.heap.size) (o:=0) (v:=.slice ao l.length cap) (by go_simp) (by simp)
 have C1:=za_ hb (b:=w.heap.size) (o:=1) (v:=.int .i64 a) (by go_simp) (by simp)
 have C2:=za_ hb (b:=w.heap.size) (o:=2) (v:=.int .i64 b) (by go_simp) (by simp)
 have C3:=za_ hb (b:=w.heap.size) (o:=3) (v:=.int .i64 c) (by go_simp) (by simp)
 have hz:=hb.size
 simp at hz
 clear hb hlen
 go_wp2
 clear hv
 go_loopw [3] (fun s3 wr=>∃ k:Nat,k≤l.length∧s3=.int .i64 k∧Below w.heap.size w wr∧(∀ i (h:i < l.length),i < k→Good l a b c i h)∧w.heap.size+1≤wr.heap.size∧wr.cell? ⟨w.heap.size,0,none⟩=some (.slice ao l.length cap)∧wr.cell? ⟨w.heap.size,1,none⟩=some (.int .i64 a)∧wr.cell? ⟨w.heap.size,2,none⟩=some (.int .i64 b)∧wr.cell? ⟨w.heap.size,3,none⟩=some (.int .i64 c)) (fun s3 _=>l.length - (intOf s3).toNat)
 case atStart=>exact ⟨0,by omega,rfl,hB.out,fun i h h'=>by omega,by omega,C0,C1,C2,C3⟩
 case round=>
  clear hB C0 C1 C2 C3 hz
  obtain ⟨k,hk,rfl,hB0,hG0,hz,C0,C1,C2,C3⟩:=hrel
  have hB:=hm_ hB0
  have hG:=hm_ hG0
  clear hB0 hG0
  by_cases hkl:k < l.length
  ·have hkl':(k:Int) < (l.length:Int):=by omega
   have k0:(0:Int)≤(k:Int):=by omega
   rcases hr.out with h' | ⟨p,off,rfl,h2⟩
   ·rw [h'] at hkl; simp at hkl
   obtain ⟨x0,x1,x2,x3⟩:=(h2 k hkl).next hB.out (zg_ (x:=⟨p,off+k * 4,none⟩) (h2 k hkl).1)
   have hH2:=hm_ h2
   have hS0:=And.intro C0 (And.intro C1 (And.intro C2 (And.intro C3 (And.intro x0 (And.intro x1 (And.intro x2 (And.intro x3 (And.intro hB.out hz))))))))
   clear h2
   cases hs:zV_ l[k].p l[k].n l[k].v l[k].d
   ·have HR:Hid (r=false):=ye_ hres (fun h=>by rw [(h.2.2 k hkl).1] at hs; cases hs)
    go_wp2
    refine wp_region_held_drew (S:=(fun w'=>w'.cell? ⟨w.heap.size,0,none⟩=some (.slice (some ⟨p,off,none⟩) l.length cap)∧w'.cell? ⟨w.heap.size,1,none⟩=some (.int .i64 a)∧w'.cell? ⟨w.heap.size,2,none⟩=some (.int .i64 b)∧w'.cell? ⟨w.heap.size,3,none⟩=some (.int .i64 c)∧w'.cell? ⟨p,off+k * 4,none⟩=some (.int .i64 l[k].p)∧w'.cell? ⟨p,off+k * 4+1,none⟩=some (.int .i64 l[k].n)∧w'.cell? ⟨p,off+k * 4+2,none⟩=some (.int .i64 l[k].v)∧w'.cell? ⟨p,off+k * 4+3,none⟩=some (.bool l[k].d)∧Below w.heap.size w w'∧w.heap.size+1≤w'.heap.size)) (by kernel_rfl) ?_ (fun hH=>?_)
    ·(try dsimp only)
     exact tg_ hS0
    refine wTk 0 ?_
    refine wTk 1 ?_
    refine wTk 2 ?_
    refine wTk 3 ?_
    refine wTk 4 ?_
    refine wRd 5 (fun K hK=>?_)
    go_simp
    (go_at_call 129; refine (y6_ l[k].p l[k].n l[k].v l[k].d _).mono ?_; rintro e w4 ⟨rfl,hb⟩; have hK4:=wL_ hb hH; rw [hs])
    (try simp only [])
    refine wHk hK (hK4) ?_
    clear hK K hH
    intro hH
    refine wTk 6 ?_
    refine wTk 7 ?_
    refine wTn 8 ?_
    refine wTn 9 ?_
    refine wTn 10 ?_
    refine wTn 11 ?_
    refine wTn 12 ?_
    refine wTn 13 ?_
    refine wTn 14 ?_
    refine wTn 15 ?_
    refine wTn 16 ?_
    refine wTn 17 ?_
    refine wTk 18 ?_
    refine wTk 19 ?_
    refine wTn 20 ?_
    refine wTn 21 ?_
    refine wTn 22 ?_
    refine wTn 23 ?_
    refine wTn 24 ?_
    refine wTn 25 ?_
    refine wTn 26 ?_
    refine wTn 27 ?_
    refine wTn 28 ?_
    refine wTn 29 ?_
    refine wTn 30 ?_
    refine wTn 31 ?_
    refine wTn 32 ?_
    refine wTn 33 ?_
    refine wTn 34 ?_
    refine wTn 35 ?_
    refine wTn 36 ?_
    refine wTn 37 ?_
    refine wTn 38 ?_
    refine wTk 39 ?_
    refine wDn ?_
    obtain ⟨G0,G1,G2,G3,hB4,hz4⟩:=rK_ hH
    clear hs hS0 C0 C1 C2 C3 x0 x1 x2 x3
    have hB5:=hm_ hB4
    clear hB4
    go_wp2
    go_ret
    exact ⟨zi_ HR.out.symm,hB5.out⟩
   have HS:=hm_ hs
   obtain ⟨n0,n3⟩:=vG_ hs
   cases hk1:decide (l[k].n≤comp a b c l[k].p)
   ·have HR:Hid (r=false):=ye_ hres (fun h=>by rw [(h.2.2 k hkl).2.1] at hk1; cases hk1)
    go_wp2
    refine wp_region_held_drew (S:=(fun w'=>w'.cell? ⟨w.heap.size,0,none⟩=some (.slice (some ⟨p,off,none⟩) l.length cap)∧w'.cell? ⟨w.heap.size,1,none⟩=some (.int .i64 a)∧w'.cell? ⟨w.heap.size,2,none⟩=some (.int .i64 b)∧w'.cell? ⟨w.heap.size,3,none⟩=some (.int .i64 c)∧w'.cell? ⟨p,off+k * 4,none⟩=some (.int .i64 l[k].p)∧w'.cell? ⟨p,off+k * 4+1,none⟩=some (.int .i64 l[k].n)∧w'.cell? ⟨p,off+k * 4+2,none⟩=some (.int .i64 l[k].v)∧w'.cell? ⟨p,off+k * 4+3,none⟩=some (.bool l[k].d)∧Below w.heap.size w w'∧w.heap.size+1≤w'.heap.size)) (by kernel_rfl) ?_ (fun hH=>?_)
    ·(try dsimp only)
     exact tg_ hS0
    refine wTk 0 ?_
    refine wTk 1 ?_
    refine wTk 2 ?_
    refine wTk 3 ?_
    refine wTk 4 ?_
    refine wRd 5 (fun K hK=>?_)
    go_simp
    (go_at_call 129; refine (y6_ l[k].p l[k].n l[k].v l[k].d _).mono ?_; rintro e w4 ⟨rfl,hb⟩; have hK4:=wL_ hb hH; rw [hs])
    (try simp only [])
    refine hK.out _ _ ?_ (fun hH'=>?_)
    ·(try dsimp only)
     first | exact hK4 | exact hK5
    clear hK K
    clear hH
    have hH:=hH'
    clear hH'
    refine wLy ?_
    refine wTk 6 ?_
    refine wTk 7 ?_
    refine wTk 8 ?_
    refine wTk 9 ?_
    refine wTk 10 ?_
    refine wTk 11 ?_
    refine wTk 12 ?_
    refine wTk 13 ?_
    refine wTk 14 ?_
    refine wTk 15 ?_
    refine wRd 16 (fun K hK=>?_)
    go_simp
    (go_at_call 99; refine (yj_ a b c l[k].p l[k].n _ n0 n3).mono ?_; rintro e w5 ⟨rfl,hb⟩; have hK5:=wL_ hb hH; rw [hk1])
    (try simp only [])
    refine hK.out _ _ ?_ (fun hH'=>?_)
    ·(try dsimp only)
     first | exact hK4 | exact hK5
    clear hK K
    clear hH
    have hH:=hH'
    clear hH'
    refine wLy ?_
    refine wTk 17 ?_
    refine wTk 18 ?_
    refine wTk 19 ?_
    refine wTn 20 ?_
    refine wTn 21 ?_
    refine wTn 22 ?_
    refine wTn 23 ?_
    refine wTn 24 ?_
    refine wTn 25 ?_
    refine wTn 26 ?_
    refine wTn 27 ?_
    refine wTn 28 ?_
    refine wTn 29 ?_
    refine wTn 30 ?_
    refine wTn 31 ?_
    refine wTn 32 ?_
    refine wTn 33 ?_
    refine wTn 34 ?_
    refine wTn 35 ?_
    refine wTn 36 ?_
    refine wTn 37 ?_
    refine wTn 38 ?_
    refine wTk 39 ?_
    refine wDn ?_
    obtain ⟨G0,G1,G2,G3,hB4,hz4⟩:=rK_ hH
    have hB5:=hm_ hB4
    clear hs hS0 C0 C1 C2 C3 x0 x1 x2 x3 hB4
    go_wp2
    go_ret
    exact ⟨zi_ HR.out.symm,hB5.out⟩
   have HK:=hm_ hk1
   rcases Nat.eq_zero_or_pos k with hk0 | hk0
   ·have hG1:∀ i (h:i < l.length),i < k+1→Good l a b c i h:=fun i h h3=>by
     have e:i=k:=by omega
     subst e
     exact ⟨HS.out,HK.out,fun h0=>by omega⟩
    have jk:decide (0 < k)=false:=decide_eq_false (by omega)
    clear hk0
    go_wp2
    refine wp_region_held_drew (S:=(fun w'=>w'.cell? ⟨w.heap.size,0,none⟩=some (.slice (some ⟨p,off,none⟩) l.length cap)∧w'.cell? ⟨w.heap.size,1,none⟩=some (.int .i64 a)∧w'.cell? ⟨w.heap.size,2,none⟩=some (.int .i64 b)∧w'.cell? ⟨w.heap.size,3,none⟩=some (.int .i64 c)∧w'.cell? ⟨p,off+k * 4,none⟩=some (.int .i64 l[k].p)∧w'.cell? ⟨p,off+k * 4+1,none⟩=some (.int .i64 l[k].n)∧w'.cell? ⟨p,off+k * 4+2,none⟩=some (.int .i64 l[k].v)∧w'.cell? ⟨p,off+k * 4+3,none⟩=some (.bool l[k].d)∧Below w.heap.size w w'∧w.heap.size+1≤w'.heap.size)) (by kernel_rfl) ?_ (fun hH=>?_)
    ·(try dsimp only)
     exact tg_ hS0
    refine wTk 0 ?_
    refine wTk 1 ?_
    refine wTk 2 ?_
    refine wTk 3 ?_
    refine wTk 4 ?_
    refine wRd 5 (fun K hK=>?_)
    go_simp
    (go_at_call 129; refine (y6_ l[k].p l[k].n l[k].v l[k].d _).mono ?_; rintro e w4 ⟨rfl,hb⟩; have hK4:=wL_ hb hH; rw [hs])
    (try simp only [])
    refine hK.out _ _ ?_ (fun hH'=>?_)
    ·(try dsimp only)
     first | exact hK4 | exact hK5
    clear hK K
    clear hH
    have hH:=hH'
    clear hH'
    refine wLy ?_
    refine wTk 6 ?_
    refine wTk 7 ?_
    refine wTk 8 ?_
    refine wTk 9 ?_
    refine wTk 10 ?_
    refine wTk 11 ?_
    refine wTk 12 ?_
    refine wTk 13 ?_
    refine wTk 14 ?_
    refine wTk 15 ?_
    refine wRd 16 (fun K hK=>?_)
    go_simp
    (go_at_call 99; refine (yj_ a b c l[k].p l[k].n _ n0 n3).mono ?_; rintro e w5 ⟨rfl,hb⟩; have hK5:=wL_ hb hH; rw [hk1])
    (try simp only [])
    refine hK.out _ _ ?_ (fun hH'=>?_)
    ·(try dsimp only)
     first | exact hK4 | exact hK5
    clear hK K
    clear hH
    have hH:=hH'
    clear hH'
    refine wLy ?_
    refine wTk 17 ?_
    refine wTk 18 ?_
    refine wTk 19 ?_
    refine wTk 20 ?_
    refine wTk 21 ?_
    refine wTk 22 ?_
    refine wTn 23 ?_
    refine wTn 24 ?_
    refine wTn 25 ?_
    refine wTn 26 ?_
    refine wTn 27 ?_
    refine wTn 28 ?_
    refine wTn 29 ?_
    refine wTn 30 ?_
    refine wTn 31 ?_
    refine wTn 32 ?_
    refine wTn 33 ?_
    refine wTn 34 ?_
    refine wTn 35 ?_
    refine wTn 36 ?_
    refine wTn 37 ?_
    refine wTk 38 ?_
    refine wTk 39 ?_
    refine wDn ?_
    obtain ⟨G0,G1,G2,G3,hB4,hz4⟩:=rK_ hH
    have hB5:=hm_ hB4
    clear hs hk1 hS0 C0 C1 C2 C3 x0 x1 x2 x3 hB4
    go_wp2
    go_roundw
    case rel=>first | exact ⟨k+1,by omega,by go_num,hB5.out,hG1,hz4,G0,G1,G2,G3⟩ | ((repeat apply Exists.intro); exact ⟨⟨k+1,by omega,by go_num,hB5.out,hG1,hz4,G0,G1,G2,G3⟩,rfl⟩)
    case measure=>simp [intOf]; omega
   ·obtain ⟨j,hj⟩:∃ j,k=j+1:=⟨k - 1,by omega⟩
    have hjk:(k:Int) - 1=(j:Int):=by omega
    have HJ:Hid (k=j+1):=hj
    have hjl:j < l.length:=by omega
    obtain ⟨y0,y1,_,_⟩:=(hH2.out j hjl).next hB.out (zg_ (x:=⟨p,off+j * 4,none⟩) (hH2.out j hjl).1)
    have hS0:=And.intro C0 (And.intro C1 (And.intro C2 (And.intro C3 (And.intro x0 (And.intro x1 (And.intro x2 (And.intro x3 (And.intro y0 (And.intro y1 (And.intro hB.out hz))))))))))
    have j0:(0:Int)≤(j:Int):=by omega
    have jl:(j:Int) < (l.length:Int):=by omega
    have jk:decide (0 < k)=true:=decide_eq_true (by omega)
    have jw:IntKind.i64.wrap (j:Int)=(j:Int):=IntWalk.i64_in _ (by omega)
    clear hj hk0
    cases hd:decide (0≤z4_ l[j].p l[j].n l[k].p l[k].n)
    ·have HD:Hid (z4_ l[j].p l[j].n l[k].p l[k].n < 0):=by
      have:=of_decide_eq_false hd
      show _ < _
      omega
     have hG1:∀ i (h:i < l.length),i < k+1→Good l a b c i h:=fun i h h3=>by
      by_cases e:i=k
      ·subst e; exact ⟨HS.out,HK.out,fun _=>by have e:=HJ.out; subst e; simpa using HD.out⟩
      ·exact hG.out i h (by omega)
     go_wp2
     go_region_held3 (fun w'=>w'.cell? ⟨w.heap.size,0,none⟩=some (.slice (some ⟨p,off,none⟩) l.length cap)∧w'.cell? ⟨w.heap.size,1,none⟩=some (.int .i64 a)∧w'.cell? ⟨w.heap.size,2,none⟩=some (.int .i64 b)∧w'.cell? ⟨w.heap.size,3,none⟩=some (.int .i64 c)∧w'.cell? ⟨p,off+k * 4,none⟩=some (.int .i64 l[k].p)∧w'.cell? ⟨p,off+k * 4+1,none⟩=some (.int .i64 l[k].n)∧w'.cell? ⟨p,off+k * 4+2,none⟩=some (.int .i64 l[k].v)∧w'.cell? ⟨p,off+k * 4+3,none⟩=some (.bool l[k].d)∧w'.cell? ⟨p,off+j * 4,none⟩=some (.int .i64 l[j].p)∧w'.cell? ⟨p,off+j * 4+1,none⟩=some (.int .i64 l[j].n)∧Below w.heap.size w w'∧w.heap.size+1≤w'.heap.size) (with_reducible first | assumption | exact hS0 | exact vH_ hS0 | (refine vH_ ?_; assumption) | (refine xt_ (by assumption) ?_; assumption)) (first | (go_at_call 129; refine (y6_ l[k].p l[k].n l[k].v l[k].d _).mono ?_; rintro e w4 ⟨rfl,hb⟩; have hK:=xt_ hb (by with_reducible assumption); rw [hs]) | (go_at_call 99; refine (yj_ a b c l[k].p l[k].n _ n0 n3).mono ?_; rintro e w4 ⟨rfl,hb⟩; have hK:=xt_ hb (by with_reducible assumption); rw [hk1]) | (go_at_call 130; refine (xi_ l[j].p l[j].n l[k].p l[k].n _).mono ?_; rintro e w4 ⟨rfl,hb⟩; have hK:=xt_ hb (by with_reducible assumption)))
     obtain ⟨G0,G1,G2,G3,hB4,hz4⟩:=pY_ (by with_reducible assumption)
     have hB5:=hm_ hB4
     clear hs hk1 hS0 C0 C1 C2 C3 x0 x1 x2 x3 y0 y1 hB4
     go_wp2
     go_roundw
     case rel=>first | exact ⟨k+1,by omega,by go_num,hB5.out,hG1,hz4,G0,G1,G2,G3⟩ | ((repeat apply Exists.intro); exact ⟨⟨k+1,by omega,by go_num,hB5.out,hG1,hz4,G0,G1,G2,G3⟩,rfl⟩)
     case measure=>simp [intOf]; omega
    ·have HR:Hid (r=false):=ye_ hres (fun h=>by
      have h1:=(h.2.2 k hkl).2.2 (by have:=HJ.out; omega)
      have h2:=of_decide_eq_true hd
      have e:=HJ.out
      subst e
      simp at h1
      omega)
     go_wp2
     go_region_held3 (fun w'=>w'.cell? ⟨w.heap.size,0,none⟩=some (.slice (some ⟨p,off,none⟩) l.length cap)∧w'.cell? ⟨w.heap.size,1,none⟩=some (.int .i64 a)∧w'.cell? ⟨w.heap.size,2,none⟩=some (.int .i64 b)∧w'.cell? ⟨w.heap.size,3,none⟩=some (.int .i64 c)∧w'.cell? ⟨p,off+k * 4,none⟩=some (.int .i64 l[k].p)∧w'.cell? ⟨p,off+k * 4+1,none⟩=some (.int .i64 l[k].n)∧w'.cell? ⟨p,off+k * 4+2,none⟩=some (.int .i64 l[k].v)∧w'.cell? ⟨p,off+k * 4+3,none⟩=some (.bool l[k].d)∧w'.cell? ⟨p,off+j * 4,none⟩=some (.int .i64 l[j].p)∧w'.cell? ⟨p,off+j * 4+1,none⟩=some (.int .i64 l[j].n)∧Below w.heap.size w w'∧w.heap.size+1≤w'.heap.size) (with_reducible first | assumption | exact hS0 | exact vH_ hS0 | (refine vH_ ?_; assumption) | (refine xt_ (by assumption) ?_; assumption)) (first | (go_at_call 129; refine (y6_ l[k].p l[k].n l[k].v l[k].d _).mono ?_; rintro e w4 ⟨rfl,hb⟩; have hK:=xt_ hb (by with_reducible assumption); rw [hs]) | (go_at_call 99; refine (yj_ a b c l[k].p l[k].n _ n0 n3).mono ?_; rintro e w4 ⟨rfl,hb⟩; have hK:=xt_ hb (by with_reducible assumption); rw [hk1]) | (go_at_call 130; refine (xi_ l[j].p l[j].n l[k].p l[k].n _).mono ?_; rintro e w4 ⟨rfl,hb⟩; have hK:=xt_ hb (by with_reducible assumption)))
     obtain ⟨G0,G1,G2,G3,hB4,hz4⟩:=pY_ (by with_reducible assumption)
     have hB5:=hm_ hB4
     clear hs hk1 hS0 C0 C1 C2 C3 x0 x1 x2 x3 y0 y1 hB4
     go_wp2
     go_ret
     exact ⟨zi_ HR.out.symm,hB5.out⟩
  ·have hkl':¬ (k:Int) < (l.length:Int):=by omega
   have HR:Hid (r=true):=wG_ hres ⟨HN.out,HV.out,fun i h=>hG.out i h (by omega)⟩
   go_wp2
   go_ret
   exact ⟨zi_ HR.out.symm,hB.out⟩
end Go.Proofs.YtiokjphefpicbaaGreatDoor
