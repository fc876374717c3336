/- Nodes, part 7 of the law FnTake. -/
import Derived.Test.YtijcjhcgpmnchaaGreatDoorM06
import Derived.WalkMore
import Derived.Deep.LoopGhost
namespace Go.Proofs.YtijcjhcgpmnchaaGreatDoor
open Go.RowKit
set_option maxRecDepth 100000
set_option maxHeartbeats 16000000
set_option linter.unusedSimpArgs false
set_option linter.unusedVariables false
variable {W W' W0 w:World} {a c x y z:Int} {ao:Option Addr} {b base cap e g i j k n o1:Nat} {l l2:List Sib} {t:TypeId} {u u1 u2 u3 u4 v v':Value} {xs:List Value}
def JB (g:Nat) (W:World) (a b c x y z:Int):Prop:=(W.cell? ⟨g,1,none⟩=some (.int .i64 a)∧W.cell? ⟨g,2,none⟩=some (.int .i64 b)∧W.cell? ⟨g,3,none⟩=some (.int .i64 c))∧(W.cell? ⟨g+1,1,none⟩=some (.int .i64 x)∧W.cell? ⟨g+1,2,none⟩=some (.int .i64 y)∧W.cell? ⟨g+1,3,none⟩=some (.int .i64 z))∧zQ_ W (g+1+1) 4∧g+1+1 < W.heap.size
theorem t8_ (a b c x y z m n o:Int) (w:World) (h1:(a < x∧m=x)∨(x<=a∧m=a)) (h2:(b < y∧n=y)∨(y<=b∧n=b)) (h3:(c < z∧o=z)∨(z<=c∧o=c)) :
  Calls Tryz.prog 133 #[.agg #[.int .i64 a,.int .i64 b,.int .i64 c],.agg #[.int .i64 x,.int .i64 y,.int .i64 z]] w fun e w'=>e=.returned (.agg #[.int .i64 m,.int .i64 n,.int .i64 o])∧Below w.heap.size w w':=by
 have i0:=idx0 x y z;have i1:=idx1 x y z;have i2:=idx2 x y z;rcases h1 with ⟨h1,k1⟩ | ⟨h1,k1⟩ <;> rcases h2 with ⟨h2,k2⟩ | ⟨h2,k2⟩ <;> rcases h3 with ⟨h3,k3⟩ | ⟨h3,k3⟩ <;> subst k1 k2 k3
 all_goals
  go_enter Tryz.func133,Tryz.ntmps133;go_wp2;refine wp_loop_rounds 4 ?_
  repeat (rw [rounds_succ]; go_wp2)
  refine bodyPost_ret (v:=.agg #[.int .i64 m,.int .i64 n,.int .i64 o]) (by simp [results,Tryz.results133,go_sem]) rfl ⟨rfl,?_⟩
  repeat (first | exact Below.refl _ _ | refine Below.drew ?_ | refine below_drewN ?_ _ | refine Below.alloc ?_ (by first | (simp; done) | (simp; omega)) _ | refine Below.setCell ?_ (by first | (simp; done) | (simp; omega)) _)
theorem xC_ (h:zQ_ W g n) (hG:Gro W W' v v') (hg:g < W.heap.size) (hne:v.ownBlock≠some g):zQ_ W' g n:=fun j hj=>by
 have hq:=hG.grown.block g hg (fun e=>hne e.symm);obtain ⟨h1,h2⟩:=h j hj;exact ⟨by rw [World.cell?_of_block (w:=W) hq]; exact h1,by rw [World.frozen?_of_block (w:=W) hq]; exact h2⟩
theorem JB.gro {b:Int} (h:JB g W a b c x y z) (hG:Gro W W' (.slice none 0 0) v'):JB g W' a b c x y z:=
 ⟨⟨hG.cell h.1.1 Gro.none_ne,hG.cell h.1.2.1 Gro.none_ne,hG.cell h.1.2.2 Gro.none_ne⟩,⟨hG.cell h.2.1.1 Gro.none_ne,hG.cell h.2.1.2.1 Gro.none_ne,hG.cell h.2.1.2.2 Gro.none_ne⟩,xC_ h.2.2.1 hG h.2.2.2 Gro.none_ne,Nat.lt_of_lt_of_le h.2.2.2 hG.size⟩
theorem JB.new {bo:Option Addr} {m cp:Nat} {b:Int}:JB w.heap.size (((w.alloc (.cells #[.slice ao n cap,.int .i64 a,.int .i64 b,.int .i64 c] t)).alloc (.cells #[.slice bo m cp,.int .i64 x,.int .i64 y,.int .i64 z] t)).alloc (.cells #[.slice none 0 0,.int .i64 0,.int .i64 0,.int .i64 0] t)) a b c x y z:=by
 refine ⟨⟨by go_simp,by go_simp,by go_simp⟩,⟨by go_simp,by go_simp,by go_simp⟩,fun j hj=>?_,by simp⟩;have hj':j=0∨j=1∨j=2∨j=3:=by omega
 rcases hj' with rfl | rfl | rfl | rfl <;> exact ⟨by go_simp,by go_simp⟩
theorem nb {wr:World} (hG:Gro W0 wr (.slice none 0 0) v) (h:k < W0.heap.size):v.ownBlock≠some k:=fun e=>by
 rcases hG.fresh k e with h' | h'
 ·simp [Value.ownBlock] at h'
 ·omega
theorem ns_ {wr:World} {ro:Option Addr} (hG:Hid (Gro W0 wr (.slice none 0 0) v)) (hR:Hid (zk_ W0 ro l)):∀ x,ro=some x->l≠[]->v.ownBlock≠some x.block:=fun q hq hl=>by
 rcases hR.out with h | ⟨b,off,h,h2⟩
 ·exact absurd h hl
 ·rw [hq] at h;cases h;have hp:0 < l.length:=List.length_pos_iff.2 hl;exact nb hG.out (zh_ (x:=⟨b,off+0 * 4,none⟩) (h2 0 hp).1)
theorem Gro.set1 {o:Nat} (h:Gro w W (.slice none 0 0) v) (hb:w.heap.size<=b):Gro w (W.setCell ⟨b,o,none⟩ u) (.slice none 0 0) v:=
 ⟨⟨by simpa [World.setCell] using h.grown.os,by simpa [World.setCell] using h.grown.tape,by simpa [World.setCell] using h.grown.output,by simpa [World.setCell] using h.grown.size,fun k hk hne=>(Below.heap_setCell W ⟨b,o,none⟩ u k (fun e=>by simp at e; omega)).trans (h.grown.block k hk hne)⟩,h.fresh⟩
theorem Gro.set4 {o2 o3 o4:Nat} (h:Gro w W (.slice none 0 0) v) (hb:w.heap.size<=b):Gro w ((((W.setCell ⟨b,o1,none⟩ u1).setCell ⟨b,o2,none⟩ u2).setCell ⟨b,o3,none⟩ u3).setCell ⟨b,o4,none⟩ u4) (.slice none 0 0) v:=(((h.set1 hb).set1 hb).set1 hb).set1 hb
theorem wN_ (h:Hid (∀ i (h:i < l.length),0<=l[i].p∧l[i].p < 3)) (hi:i < l.length):∀ k (hk:k < [l[i]].length),0<=([l[i]])[k].p∧([l[i]])[k].p < 3:=fun k hk=>by
 have:k=0:=by simpa using hk
 subst this;exact h.out i hi
theorem un_ {x:Sib}:zk_ (W.alloc (.cells #[.int .i64 x.p,.int .i64 x.n,.int .i64 x.v,.bool x.d] t)) (some ⟨W.heap.size,0,none⟩) [x]:=.inr ⟨W.heap.size,0,rfl,fun i hi=>by
 have:i=0:=by simpa using hi
 subst this
 simpa using (sK_ (W:=W) (x:=x) (t:=t))⟩
theorem p8_ (h:Hid (W.ownsRow 0 e 4 v n xs)):∀ q,some (⟨W.heap.size,0,none⟩:Addr)=some q->l≠[]->v.ownBlock≠some q.block:=fun q hq _ e=>by
 cases hq;exact Nat.lt_irrefl _ (h.out.lt _ e).2
theorem sq_ {rb rof:Nat} (h:zk_ W (some ⟨rb,rof,none⟩) (l2.drop j)):zk_ W (some ⟨rb,rof+4,none⟩) (l2.drop (j+1)):=by
 rcases h with h | ⟨b,off,e,h2⟩
 ·refine .inl ?_;rw [List.drop_eq_nil_iff] at h ⊢;omega
 ·cases e;refine .inr ⟨rb,rof+4,rfl,fun i hi=>?_⟩
  have:=h2 (i+1) (by simp at hi ⊢; omega)
  simp only [List.getElem_drop] at this ⊢;have e1:rof+(i+1) * 4=rof+4+i * 4:=by omega
  have e2:j+(i+1)=j+1+i:=by omega
  simp only [e1,e2] at this;exact this
theorem oa_ {p n q m:Int} (h:¬ (p=q∧n=m)):(p == q && n == m)=false:=by
 rw [Bool.eq_false_iff];intro h';simp at h';exact h h'
theorem ob_ {p n q m:Int} (h:p=q∧n=m):(p == q && n == m)=true:=by simp [h.1,h.2]
theorem sJ_ {o:Obj} {x:Sib}:zk_ ((W.alloc o).alloc (.cells #[.int .i64 x.p,.int .i64 x.n,.int .i64 x.v,.bool x.d] t)) (some ⟨W.heap.size+1,0,none⟩) [x]:=by
 have:=un_ (W:=W.alloc o) (x:=x) (t:=t)
 simpa using this
theorem ql_ {o:Obj} {x:Sib}:x9_ ((W.alloc o).alloc (.cells #[.int .i64 x.p,.int .i64 x.n,.int .i64 x.v,.bool x.d] t)) (W.heap.size+1) 0 x:=by
 have:=sK_ (W:=W.alloc o) (x:=x) (t:=t)
 simpa using this
theorem qk_ (h:Hid (W.ownsRow 0 e 4 v n xs)):∀ q,some (⟨W.heap.size+1,0,none⟩:Addr)=some q->l≠[]->v.ownBlock≠some q.block:=fun q hq _ e=>by
 cases hq
 have:=(h.out.lt _ e).2
 simp at this;omega
theorem sr_ {ro:Option Addr} (h:l2.length<=j):zk_ W ro (l2.drop j):=.inl (List.drop_eq_nil_iff.2 h)
theorem r3_ {size:Nat} (h:w.ownsRow base e size v n xs):∃ o k c,v=.slice o k c:=by
 rcases h.2 with ⟨rfl,_⟩ | ⟨g,cap,cur,rfl,_⟩
 ·exact ⟨_,_,_,rfl⟩
 ·exact ⟨_,_,_,rfl⟩
theorem tt_ (cap n:Nat) (ao:Option Addr) (l m0:List Sib) (a b c:Int) (v:Value) (w:World) (hn0:n=l.length) (hm:m0.length+l.length<=2097152) (hn:∀ i (h:i < l.length),0<=l[i].p∧l[i].p < 3) (hr0:zk_ w ao l) (hne0:∀ x,ao=some x->l≠[]->v.ownBlock≠some x.block) (ho0:w.ownsRow 0 89 4 v m0.length (flat m0)) :
  Calls Tryz.prog 132 #[v,.agg #[.int .i64 a,.int .i64 b,.int .i64 c],.slice ao n cap] w fun e w'=>∃ v',e=.returned v'∧w'.ownsRow 0 89 4 v' (m0++fil a b c l).length (flat (m0++fil a b c l))∧Gro w w' v v':=by
 subst hn0;exact nV_ cap ao l m0 a b c v w hm hn hr0 hne0 ho0
def JI (W0 wr:World) (a b c x y z:Int) (l l2:List Sib) (i j:Nat) (m:List Sib) (ro:Option Addr) (rc n:Nat) (v r:Value):Prop:=
 i<=l.length∧j+n=l2.length∧r=.slice ro n rc∧n<=rc∧zk_ W0 ro (l2.drop j)∧Gro W0 wr (.slice none 0 0) v∧wr.ownsRow 0 89 4 v m.length (flat m)∧m++jn a b c x y z (l.drop i) (l2.drop j)=jn a b c x y z l l2∧m.length<=i+j
theorem vO_ (cap cp:Nat) (ao bo:Option Addr) (l l2:List Sib) (a b c x y z:Int) (w:World) (hm:(l.length:Int)<=1048576) (hm2:(l2.length:Int)<=1048576) (hc2:l2.length<=cp) (hn1:∀ i (h:i < l.length),0<=l[i].p∧l[i].p < 3) (hn2:∀ i (h:i < l2.length),0<=l2[i].p∧l2[i].p < 3) (hr0:zk_ w ao l) (hs0:zk_ w bo l2) :
  Calls Tryz.prog 70 #[.agg #[.slice ao l.length cap,.int .i64 a,.int .i64 b,.int .i64 c],.agg #[.slice bo l2.length cp,.int .i64 x,.int .i64 y,.int .i64 z]] w fun e w'=>∃ v,e=.returned (.agg #[v,.int .i64 (max a x),.int .i64 (max b y),.int .i64 (max c z)])∧Gro w w' (.slice none 0 0) v∧w'.ownsRow 0 89 4 v (jn a b c x y z l l2).length (flat (jn a b c x y z l l2)):=by
 have RA:Hid (zk_ (((w.alloc (.cells #[.slice ao l.length cap,.int .i64 a,.int .i64 b,.int .i64 c] 37)).alloc (.cells #[.slice bo l2.length cp,.int .i64 x,.int .i64 y,.int .i64 z] 37)).alloc (.cells #[.slice none 0 0,.int .i64 0,.int .i64 0,.int .i64 0] 37)) ao l):=zM_ (zM_ (zM_ hr0 (zb_ _ _)) (zb_ _ _)) (zb_ _ _);have RB:Hid (zk_ (((w.alloc (.cells #[.slice ao l.length cap,.int .i64 a,.int .i64 b,.int .i64 c] 37)).alloc (.cells #[.slice bo l2.length cp,.int .i64 x,.int .i64 y,.int .i64 z] 37)).alloc (.cells #[.slice none 0 0,.int .i64 0,.int .i64 0,.int .i64 0] 37)) bo l2):=zM_ (zM_ (zM_ hs0 (zb_ _ _)) (zb_ _ _)) (zb_ _ _);have JB0:Hid (JB w.heap.size (((w.alloc (.cells #[.slice ao l.length cap,.int .i64 a,.int .i64 b,.int .i64 c] 37)).alloc (.cells #[.slice bo l2.length cp,.int .i64 x,.int .i64 y,.int .i64 z] 37)).alloc (.cells #[.slice none 0 0,.int .i64 0,.int .i64 0,.int .i64 0] 37)) a b c x y z):=JB.new;have GW:Hid (Gro w (((w.alloc (.cells #[.slice ao l.length cap,.int .i64 a,.int .i64 b,.int .i64 c] 37)).alloc (.cells #[.slice bo l2.length cp,.int .i64 x,.int .i64 y,.int .i64 z] 37)).alloc (.cells #[.slice none 0 0,.int .i64 0,.int .i64 0,.int .i64 0] 37)) (.slice none 0 0) (.slice none 0 0)):=(Gro.of_below (zb_ _ _)).trans ((Gro.of_below (zb_ _ _)).trans (Gro.of_below (zb_ _ _)));have HN1:=hm_ hn1;have HN2:=hm_ hn2;clear hr0 hs0 hn1 hn2;obtain ⟨i0,hi,hz0,hz1,hz2⟩:=info_parts yG_;have HI:Hid (Tryz.prog.info? 89=some i0∧i0.zero=some (.agg #[.int .i64 0,.int .i64 0,.int .i64 0,.bool false])∧i0.size=4∧i0.bytes=32):=⟨hi,hz0,hz1,hz2⟩;clear hi hz0 hz1 hz2;go_enter Tryz.func70,Tryz.ntmps70;go_wp2;go_step3;go_wp2;go_step3;go_wp2;generalize (((w.alloc (.cells #[.slice ao l.length cap,.int .i64 a,.int .i64 b,.int .i64 c] 37)).alloc (.cells #[.slice bo l2.length cp,.int .i64 x,.int .i64 y,.int .i64 z] 37)).alloc (.cells #[.slice none 0 0,.int .i64 0,.int .i64 0,.int .i64 0] 37))=W0 at *;go_loopg [5,6,15] l.length (fun g s5 s6 s15 wr=>∃ (i j:Nat) (m:List Sib) (ro:Option Addr) (rc n:Nat),i+g=l.length∧s15=.int .i64 i∧JI W0 wr a b c x y z l l2 i j m ro rc n s5 s6)
 case atStart=>exact ⟨0,0,[],bo,cp,l2.length,by omega,rfl,by omega,by omega,rfl,hc2,by simpa using RB.out,Gro.refl _ _,World.ownsRow_nil _ _ _ _,by simp,by simp⟩
 case round=>
  obtain ⟨i,j,m,ro,rc,n,hig,rfl,hil,hjl,rfl,hrc,hR0,hG0,hO0,hE0,hM0⟩:=hrel;have hR:=hm_ hR0;have hG:=hm_ hG0;have hO:=hm_ hO0;have hE:=hm_ hE0;have hM:=hm_ hM0;clear hR0 hG0 hO0 hE0 hM0;by_cases hkl:i < l.length
  ·have hkl':(i:Int) < (l.length:Int):=by omega
   have kk:(0:Int)<=(i:Int):=by omega
   rcases hG.out.row RA.out (fun _ _=>Gro.none_ne) with h' | ⟨p,off,rfl,h2⟩
   ·rw [h'] at hkl; simp at hkl
   obtain ⟨x0,x1,x2,x3⟩:=h2 i hkl;clear h2;go_wp2;have SB:Hid (x9_ (wr.alloc (.cells #[.int .i64 l[i].p,.int .i64 l[i].n,.int .i64 l[i].v,.bool l[i].d] 89)) wr.heap.size 0 l[i]):=sK_;have GS:Hid (Gro W0 (wr.alloc (.cells #[.int .i64 l[i].p,.int .i64 l[i].n,.int .i64 l[i].v,.bool l[i].d] 89)) (.slice none 0 0) u5):=hG.out.trans (Gro.of_below (zb_ _ _));have OS:Hid (World.ownsRow (wr.alloc (.cells #[.int .i64 l[i].p,.int .i64 l[i].n,.int .i64 l[i].v,.bool l[i].d] 89)) 0 89 4 u5 m.length (flat m)):=hO.out.alloc _;have NS:Hid (u5.ownBlock≠some wr.heap.size):=fun e=>by have:=(hO.out.lt _ e).2; omega
   clear hG hO x0 x1 x2 x3;generalize wr.alloc (.cells #[.int .i64 l[i].p,.int .i64 l[i].n,.int .i64 l[i].v,.bool l[i].d] 89)=Ws at *;generalize wr.heap.size=bs at *;clear wr;generalize u5=v0 at *;obtain ⟨go,hgo⟩:∃ go,gk=go+1:=⟨gk - 1,by omega⟩;go_loopg [5,6] n (fun g s5 s6 wi=>∃ (j:Nat) (m:List Sib) (ro:Option Addr) (rc n:Nat),j+g=l2.length∧JI W0 wi a b c x y z l l2 i j m ro rc n s5 s6∧Gro Ws wi v0 s5)
   case atStart=>exact ⟨j,m,ro,rc,n,by omega,⟨hil,hjl,rfl,hrc,hR.out,GS.out,OS.out,hE.out,hM.out⟩,Gro.refl _ _⟩
   case round=>
    clear GS OS hR hE hM hrc hjl;clear m ro rc n j;obtain ⟨j,m,ro,rc,n,hjg,⟨_,hjl,rfl,hrc,hR0,hG0,hO0,hE0,hM0⟩,hS0⟩:=hrel;have hR:=hm_ hR0;have hG:=hm_ hG0;have hO:=hm_ hO0;have hE:=hm_ hE0;have hM:=hm_ hM0;clear hR0 hG0 hO0 hE0 hM0;have hS:=hm_ hS0;obtain ⟨s0,s1,s2,s3⟩:=hS0.at SB.out NS.out;have nbs:Hid (u5.ownBlock≠some bs):=hS0.ne (zh_ (x:=⟨bs,0,none⟩) SB.out.1) NS.out;clear hS0;by_cases hj2:j < l2.length
    ·rcases hG.out.row hR.out (fun _ _=>Gro.none_ne) with h' | ⟨rb,rof,rfl,h2⟩
     ·exact absurd (congrArg List.length h') (by simp; omega)
     have hy:=h2 0 (by simp; omega);simp only [Nat.zero_mul,Nat.add_zero,List.getElem_drop] at hy;obtain ⟨y0,y1,y2,y3⟩:=hy;clear h2;have dn:0 < n:=by omega
     have d0:decide (0 < n)=true:=decide_eq_true dn;have d1:(0:Int) < (n:Int):=by omega
     cases hd:decide (z5_ l2[j].p l2[j].n l[i].p l[i].n<=0)
     ·have HP:Hid (jn a b c x y z (l.drop i) (l2.drop j)=fil x y z [l[i]]++jn a b c x y z (l.drop (i+1)) (l2.drop j)):=oM_ a b c x y z l l2 i j hkl hj2 (by have:=of_decide_eq_false hd; omega);go_wp2;refine wp_region_held_drew (S:=(fun w'=>w'.cell? ⟨rb,rof,none⟩=some (.int .i64 l2[j].p)∧w'.cell? ⟨rb,rof+1,none⟩=some (.int .i64 l2[j].n)∧w'.cell? ⟨bs,0,none⟩=some (.int .i64 l[i].p)∧w'.cell? ⟨bs,1,none⟩=some (.int .i64 l[i].n)∧Below wr.heap.size wr w')) (by kernel_rfl) ?_ (fun hH=>?_)
      ·(try dsimp only);exact ⟨y0,y1,s0,s1,zd_ _⟩
      refine wTk 0 ?_;refine wTk 1 ?_;refine wTk 2 ?_;refine wTk 3 ?_;refine wTk 4 ?_;refine wTk 5 ?_;refine wTk 6 ?_;refine wTk 7 ?_;refine wTk 8 ?_;refine wTk 9 ?_;refine wRd 10 (fun K hK=>?_);go_simp
      (go_at_call 109; refine (yU_ l2[j].p l2[j].n l[i].p l[i].n _).mono ?_; rintro e w3 ⟨rfl,hb⟩)
      (try simp only []);refine hK.out _ _ ?_ (fun hH'=>?_)
      ·(try dsimp only);exact ⟨za_ hb hH.1 (zh_ (x:=⟨rb,rof,none⟩) hH.1),za_ hb hH.2.1 (zh_ (x:=⟨rb,rof+1,none⟩) hH.2.1),za_ hb hH.2.2.1 (zh_ (x:=⟨bs,0,none⟩) hH.2.2.1),za_ hb hH.2.2.2.1 (zh_ (x:=⟨bs,1,none⟩) hH.2.2.2.1),(ze_ hH.2.2.2.2 hb).out⟩
      clear hK K hH;have hH:=hH';clear hH';clear hb;refine wLy ?_;refine wTk 11 ?_;refine wTk 12 ?_;refine wDn ?_;have hbx:=hH.2.2.2.2;clear hH y0 y1 y2 y3 hd;obtain ⟨⟨A1,A2,A3⟩,⟨B1,B2,B3⟩,_,hz⟩:=JB0.out.gro (hG.out.trans (Gro.of_below hbx));replace s0:=za_ hbx s0 (zh_ (x:=⟨bs,0,none⟩) s0);replace s1:=za_ hbx s1 (zh_ (x:=⟨bs,1,none⟩) s1);replace s2:=za_ hbx s2 (zh_ (x:=⟨bs,2,none⟩) s2);replace s3:=za_ hbx s3 (zh_ (x:=⟨bs,3,none⟩) s3);have OX:Hid (World.ownsRow (w3) 0 89 4 u5 m.length (flat m)):=zP_ hO.out hbx;have GX:Hid (Gro W0 w3 (.slice none 0 0) u5):=hG.out.trans (Gro.of_below hbx);clear A1 A2 A3;go_wp2_with fail;refine (tt_ 1 1 (some ⟨w3.heap.size,0,none⟩) [l[i]] m x y z u5 _ rfl (by have:=hM.out; simp; omega) (wN_ HN1 hkl) (un_) (p8_ OX) (OX.out.alloc _)).mono ?_;rintro e w6 ⟨v',rfl,ho6,hg6⟩;have G6:Hid (Gro W0 w6 (.slice none 0 0) v'):=GX.out.trans ((Gro.of_below (zb_ _ _)).trans hg6);have O6:Hid (_:Prop):=ho6
      have E6:Hid ((m++fil x y z [l[i]])++jn a b c x y z (l.drop (i+1)) (l2.drop j)=jn a b c x y z l l2):=by
       show _=_
       rw [List.append_assoc,<- HP.out];exact hE.out
      have M6:Hid ((m++fil x y z [l[i]]).length<=i+1+j):=by
       have h1:=xY_ x y z l[i];have h2:=hM.out;show _<=_
       simp only [List.length_append];omega
      clear ho6 hg6 B1 B2 B3 s0 s1 s2 s3;go_wp2;go_roundg go
      case measure=>omega
      case rel=>exact ⟨i+1,j,m++fil x y z [l[i]],_,rc,n,by omega,by go_num,by omega,by omega,rfl,by omega,hR.out,G6.out,O6.out,E6.out,M6.out⟩
     ·cases he:decide (l2[j].p=l[i].p∧l2[j].n=l[i].n)
      ·have HP:Hid (jn a b c x y z (l.drop i) (l2.drop j)=fil a b c [l2[j]]++jn a b c x y z (l.drop i) (l2.drop (j+1))):=oN_ a b c x y z l l2 i j hkl hj2 (by have:=of_decide_eq_true hd; omega) (of_decide_eq_false he);have hq:(l2[j].p == l[i].p && l2[j].n == l[i].n)=false:=oa_ (of_decide_eq_false he);clear he;have hq1:¬ l2[j].p=l[i].p∨True:=.inr trivial;go_wp2;refine wp_region_held_drew (S:=(fun w'=>w'.cell? ⟨rb,rof,none⟩=some (.int .i64 l2[j].p)∧w'.cell? ⟨rb,rof+1,none⟩=some (.int .i64 l2[j].n)∧w'.cell? ⟨bs,0,none⟩=some (.int .i64 l[i].p)∧w'.cell? ⟨bs,1,none⟩=some (.int .i64 l[i].n)∧Below wr.heap.size wr w')) (by kernel_rfl) ?_ (fun hH=>?_)
       ·(try dsimp only);exact ⟨y0,y1,s0,s1,zd_ _⟩
       refine wTk 0 ?_;refine wTk 1 ?_;refine wTk 2 ?_;refine wTk 3 ?_;refine wTk 4 ?_;refine wTk 5 ?_;refine wTk 6 ?_;refine wTk 7 ?_;refine wTk 8 ?_;refine wTk 9 ?_;refine wRd 10 (fun K hK=>?_);go_simp
       (go_at_call 109; refine (yU_ l2[j].p l2[j].n l[i].p l[i].n _).mono ?_; rintro e w3 ⟨rfl,hb⟩)
       (try simp only []);refine hK.out _ _ ?_ (fun hH'=>?_)
       ·(try dsimp only);exact ⟨za_ hb hH.1 (zh_ (x:=⟨rb,rof,none⟩) hH.1),za_ hb hH.2.1 (zh_ (x:=⟨rb,rof+1,none⟩) hH.2.1),za_ hb hH.2.2.1 (zh_ (x:=⟨bs,0,none⟩) hH.2.2.1),za_ hb hH.2.2.2.1 (zh_ (x:=⟨bs,1,none⟩) hH.2.2.2.1),(ze_ hH.2.2.2.2 hb).out⟩
       clear hK K hH;have hH:=hH';clear hH';clear hb;refine wLy ?_;refine wTk 11 ?_;refine wTk 12 ?_;refine wDn ?_;have hbx:=hH.2.2.2.2;clear hH hd hq1;replace y0:=za_ hbx y0 (zh_ (x:=⟨rb,rof,none⟩) y0);replace y1:=za_ hbx y1 (zh_ (x:=⟨rb,rof+1,none⟩) y1);replace y2:=za_ hbx y2 (zh_ (x:=⟨rb,rof+2,none⟩) y2);replace y3:=za_ hbx y3 (zh_ (x:=⟨rb,rof+3,none⟩) y3);replace s0:=za_ hbx s0 (zh_ (x:=⟨bs,0,none⟩) s0);replace s1:=za_ hbx s1 (zh_ (x:=⟨bs,1,none⟩) s1);replace s2:=za_ hbx s2 (zh_ (x:=⟨bs,2,none⟩) s2);replace s3:=za_ hbx s3 (zh_ (x:=⟨bs,3,none⟩) s3);have hbs:bs < w3.heap.size:=zh_ (x:=⟨bs,0,none⟩) s0;have S0:∀ o,(w3.alloc o).cell? ⟨bs,0,none⟩=some (.int .i64 l[i].p):=fun o=>zj_ s0 hbs
       have S1:∀ o,(w3.alloc o).cell? ⟨bs,1,none⟩=some (.int .i64 l[i].n):=fun o=>zj_ s1 hbs
       have S2:∀ o,(w3.alloc o).cell? ⟨bs,2,none⟩=some (.int .i64 l[i].v):=fun o=>zj_ s2 hbs
       have S3:∀ o,(w3.alloc o).cell? ⟨bs,3,none⟩=some (.bool l[i].d):=fun o=>zj_ s3 hbs
       obtain ⟨⟨A1,A2,A3⟩,_,_,hz⟩:=JB0.out.gro (hG.out.trans (Gro.of_below hbx));have Z1:∀ o,(w3.alloc o).cell? ⟨w.heap.size,1,none⟩=some (.int .i64 a):=fun o=>zj_ A1 (by omega)
       have Z2:∀ o,(w3.alloc o).cell? ⟨w.heap.size,2,none⟩=some (.int .i64 b):=fun o=>zj_ A2 (by omega)
       have Z3:∀ o,(w3.alloc o).cell? ⟨w.heap.size,3,none⟩=some (.int .i64 c):=fun o=>zj_ A3 (by omega)
       have OX:Hid (w3.ownsRow 0 89 4 u5 m.length (flat m)):=zP_ hO.out hbx;have GX:Hid (Gro W0 w3 (.slice none 0 0) u5):=hG.out.trans (Gro.of_below hbx);have SX:Hid (Gro Ws w3 v0 u5):=hS.out.trans (Gro.of_below hbx)
       have hE':Hid (m++fil a b c [l2[j]]++jn a b c x y z (l.drop i) (l2.drop (j+1))=jn a b c x y z l l2):=by
        show _=_
        rw [List.append_assoc,<- HP.out];exact hE.out
       have es:=eqd l2[j].p l2[j].n l[i].p l[i].n;have n1:1<=n:=dn;have rc1:1<=rc:=by omega
       have n1':(1:Int)<=(n:Int):=by omega
       have hR1:Hid (zk_ W0 (some ⟨rb,rof+4,none⟩) (l2.drop (j+1))):=sq_ hR.out;clear hbx hO hG hS hE hR s0 s1 s2 s3 A1 A2 A3;by_cases hr1:rc=1
       ·obtain rfl:n=1:=by omega
        subst hr1;go_wp2_with fail;refine (tt_ 1 1 (some ⟨w3.heap.size+1,0,none⟩) [l2[j]] m a b c u5 _ rfl (by have:=hM.out; simp; omega) (wN_ HN2 hj2) sJ_ (qk_ OX) ((OX.out.alloc _).alloc _)).mono ?_;rintro e w6 ⟨v',rfl,ho6,hg6⟩;have G6:Hid (Gro W0 w6 (.slice none 0 0) v'):=GX.out.trans ((Gro.of_below (zb_ _ _)).trans ((Gro.of_below (zb_ _ _)).trans hg6));have S6:Hid (Gro Ws w6 v0 v'):=SX.out.trans ((Gro.of_below (zb_ _ _)).trans ((Gro.of_below (zb_ _ _)).trans hg6));have O6:=hm_ ho6
        have M6:Hid ((m++fil a b c [l2[j]]).length<=i+(j+1)):=by
         have h1:=xY_ a b c l2[j];have h2:=hM.out;show _<=_
         simp only [List.length_append];omega
        clear ho6 hg6 Z1 Z2 Z3 S0 S1 S2 S3 y0 y1 y2 y3;go_wp2;go_roundg (gk - 1)
        case measure=>omega
        case rel=>exact ⟨j+1,m++fil a b c [l2[j]],(some ⟨rb,rof,none⟩),0,0,by omega,⟨hil,by omega,rfl,by omega,sr_ (by omega),G6.out,O6.out,hE'.out,M6.out⟩,S6.out⟩
       ·have rc2:1 < rc:=by omega
        go_wp2_with fail;refine (tt_ 1 1 (some ⟨w3.heap.size+1,0,none⟩) [l2[j]] m a b c u5 _ rfl (by have:=hM.out; simp; omega) (wN_ HN2 hj2) sJ_ (qk_ OX) ((OX.out.alloc _).alloc _)).mono ?_;rintro e w6 ⟨v',rfl,ho6,hg6⟩;have G6:Hid (Gro W0 w6 (.slice none 0 0) v'):=GX.out.trans ((Gro.of_below (zb_ _ _)).trans ((Gro.of_below (zb_ _ _)).trans hg6));have S6:Hid (Gro Ws w6 v0 v'):=SX.out.trans ((Gro.of_below (zb_ _ _)).trans ((Gro.of_below (zb_ _ _)).trans hg6));have O6:=hm_ ho6
        have M6:Hid ((m++fil a b c [l2[j]]).length<=i+(j+1)):=by
         have h1:=xY_ a b c l2[j];have h2:=hM.out;show _<=_
         simp only [List.length_append];omega
        clear ho6 hg6 Z1 Z2 Z3 S0 S1 S2 S3 y0 y1 y2 y3;go_wp2;go_roundg (gk - 1)
        case measure=>omega
        case rel=>exact ⟨j+1,m++fil a b c [l2[j]],(some ⟨rb,rof+4,none⟩),(rc - 1),(n - 1),by omega,⟨hil,by omega,rfl,by omega,hR1.out,G6.out,O6.out,hE'.out,M6.out⟩,S6.out⟩
      ·have HP:Hid (jn a b c x y z (l.drop i) (l2.drop j)=[l[i]]++jn a b c x y z (l.drop (i+1)) (l2.drop (j+1))):=oL_ a b c x y z l l2 i j hkl hj2 (by have:=of_decide_eq_true hd; omega) (of_decide_eq_true he);have hq:(l2[j].p == l[i].p && l2[j].n == l[i].n)=true:=ob_ (of_decide_eq_true he);clear he;have hq1:¬ l2[j].p=l[i].p∨True:=.inr trivial;go_wp2;refine wp_region_held_drew (S:=(fun w'=>w'.cell? ⟨rb,rof,none⟩=some (.int .i64 l2[j].p)∧w'.cell? ⟨rb,rof+1,none⟩=some (.int .i64 l2[j].n)∧w'.cell? ⟨bs,0,none⟩=some (.int .i64 l[i].p)∧w'.cell? ⟨bs,1,none⟩=some (.int .i64 l[i].n)∧Below wr.heap.size wr w')) (by kernel_rfl) ?_ (fun hH=>?_)
       ·(try dsimp only);exact ⟨y0,y1,s0,s1,zd_ _⟩
       refine wTk 0 ?_;refine wTk 1 ?_;refine wTk 2 ?_;refine wTk 3 ?_;refine wTk 4 ?_;refine wTk 5 ?_;refine wTk 6 ?_;refine wTk 7 ?_;refine wTk 8 ?_;refine wTk 9 ?_;refine wRd 10 (fun K hK=>?_);go_simp
       (go_at_call 109; refine (yU_ l2[j].p l2[j].n l[i].p l[i].n _).mono ?_; rintro e w3 ⟨rfl,hb⟩)
       (try simp only []);refine hK.out _ _ ?_ (fun hH'=>?_)
       ·(try dsimp only);exact ⟨za_ hb hH.1 (zh_ (x:=⟨rb,rof,none⟩) hH.1),za_ hb hH.2.1 (zh_ (x:=⟨rb,rof+1,none⟩) hH.2.1),za_ hb hH.2.2.1 (zh_ (x:=⟨bs,0,none⟩) hH.2.2.1),za_ hb hH.2.2.2.1 (zh_ (x:=⟨bs,1,none⟩) hH.2.2.2.1),(ze_ hH.2.2.2.2 hb).out⟩
       clear hK K hH;have hH:=hH';clear hH';clear hb;refine wLy ?_;refine wTk 11 ?_;refine wTk 12 ?_;refine wDn ?_;have hbx:=hH.2.2.2.2;clear hH hd hq1;replace y0:=za_ hbx y0 (zh_ (x:=⟨rb,rof,none⟩) y0);replace y1:=za_ hbx y1 (zh_ (x:=⟨rb,rof+1,none⟩) y1);replace y2:=za_ hbx y2 (zh_ (x:=⟨rb,rof+2,none⟩) y2);replace y3:=za_ hbx y3 (zh_ (x:=⟨rb,rof+3,none⟩) y3);replace s0:=za_ hbx s0 (zh_ (x:=⟨bs,0,none⟩) s0);replace s1:=za_ hbx s1 (zh_ (x:=⟨bs,1,none⟩) s1);replace s2:=za_ hbx s2 (zh_ (x:=⟨bs,2,none⟩) s2);replace s3:=za_ hbx s3 (zh_ (x:=⟨bs,3,none⟩) s3);have hbs:bs < w3.heap.size:=zh_ (x:=⟨bs,0,none⟩) s0;have S0:∀ o,(w3.alloc o).cell? ⟨bs,0,none⟩=some (.int .i64 l[i].p):=fun o=>zj_ s0 hbs
       have S1:∀ o,(w3.alloc o).cell? ⟨bs,1,none⟩=some (.int .i64 l[i].n):=fun o=>zj_ s1 hbs
       have S2:∀ o,(w3.alloc o).cell? ⟨bs,2,none⟩=some (.int .i64 l[i].v):=fun o=>zj_ s2 hbs
       have S3:∀ o,(w3.alloc o).cell? ⟨bs,3,none⟩=some (.bool l[i].d):=fun o=>zj_ s3 hbs
       obtain ⟨⟨A1,A2,A3⟩,_,_,hz⟩:=JB0.out.gro (hG.out.trans (Gro.of_below hbx));have Z1:∀ o,(w3.alloc o).cell? ⟨w.heap.size,1,none⟩=some (.int .i64 a):=fun o=>zj_ A1 (by omega)
       have Z2:∀ o,(w3.alloc o).cell? ⟨w.heap.size,2,none⟩=some (.int .i64 b):=fun o=>zj_ A2 (by omega)
       have Z3:∀ o,(w3.alloc o).cell? ⟨w.heap.size,3,none⟩=some (.int .i64 c):=fun o=>zj_ A3 (by omega)
       have OX:Hid (w3.ownsRow 0 89 4 u5 m.length (flat m)):=zP_ hO.out hbx;have GX:Hid (Gro W0 w3 (.slice none 0 0) u5):=hG.out.trans (Gro.of_below hbx);have SX:Hid (Gro Ws w3 v0 u5):=hS.out.trans (Gro.of_below hbx)
       have hE':Hid (m++[l[i]]++jn a b c x y z (l.drop (i+1)) (l2.drop (j+1))=jn a b c x y z l l2):=by
        show _=_
        rw [List.append_assoc,<- HP.out];exact hE.out
       have es:=eqd l2[j].p l2[j].n l[i].p l[i].n;have n1:1<=n:=dn;have rc1:1<=rc:=by omega
       have n1':(1:Int)<=(n:Int):=by omega
       have hR1:Hid (zk_ W0 (some ⟨rb,rof+4,none⟩) (l2.drop (j+1))):=sq_ hR.out;clear hbx hO hG hS hE hR s0 s1 s2 s3 A1 A2 A3;by_cases hr1:rc=1
       ·obtain rfl:n=1:=by omega
        subst hr1;go_wp2_with (first | (at_builtin; refine zJ_ rfl _ _ 33 rfl 89 i0 (.agg #[.int .i64 0,.int .i64 0,.int .i64 0,.bool false]) 4 32 Tryz.underlying33 HI.out.1 HI.out.2.1 HI.out.2.2.1 HI.out.2.2.2 rfl (by decide) _ _ _ rfl ((OX.out.alloc _).alloc _) ⟨w3.heap.size+1,0,none⟩ 1 1 (flat [l[i]]) rfl rfl (w7_ ql_) (wq_ _) ?c3 ?c4 ?_) | go_in)
        case c3=>have:=hM.out; unfold maxLen; omega
        case c4=>have:=hM.out; omega
        intro v' w6 ho6 hg6;have G6:Hid (Gro W0 w6 (.slice none 0 0) v'):=GX.out.trans ((Gro.of_below (zb_ _ _)).trans ((Gro.of_below (zb_ _ _)).trans hg6));have O6:Hid (w6.ownsRow 0 89 4 v' (m++[l[i]]).length (flat (m++[l[i]]))):=zA_ ho6 (by simp) (by rw [zz_])
        have M6:Hid ((m++[l[i]]).length<=i+1+(j+1)):=by
         have h2:=hM.out;show _<=_
         simp only [List.length_append,List.length_cons,List.length_nil];omega
        clear ho6 hg6 Z1 Z2 Z3 S0 S1 S2 S3 y0 y1 y2 y3;go_wp2;go_roundg go
        case measure=>omega
        case rel=>exact ⟨i+1,j+1,m++[l[i]],(some ⟨rb,rof,none⟩),0,0,by omega,by go_num,by omega,by omega,rfl,by omega,sr_ (by omega),G6.out,O6.out,hE'.out,M6.out⟩
       ·have rc2:1 < rc:=by omega
        go_wp2_with (first | (at_builtin; refine zJ_ rfl _ _ 33 rfl 89 i0 (.agg #[.int .i64 0,.int .i64 0,.int .i64 0,.bool false]) 4 32 Tryz.underlying33 HI.out.1 HI.out.2.1 HI.out.2.2.1 HI.out.2.2.2 rfl (by decide) _ _ _ rfl ((OX.out.alloc _).alloc _) ⟨w3.heap.size+1,0,none⟩ 1 1 (flat [l[i]]) rfl rfl (w7_ ql_) (wq_ _) ?c3 ?c4 ?_) | go_in)
        case c3=>have:=hM.out; unfold maxLen; omega
        case c4=>have:=hM.out; omega
        intro v' w6 ho6 hg6;have G6:Hid (Gro W0 w6 (.slice none 0 0) v'):=GX.out.trans ((Gro.of_below (zb_ _ _)).trans ((Gro.of_below (zb_ _ _)).trans hg6));have O6:Hid (w6.ownsRow 0 89 4 v' (m++[l[i]]).length (flat (m++[l[i]]))):=zA_ ho6 (by simp) (by rw [zz_])
        have M6:Hid ((m++[l[i]]).length<=i+1+(j+1)):=by
         have h2:=hM.out;show _<=_
         simp only [List.length_append,List.length_cons,List.length_nil];omega
        clear ho6 hg6 Z1 Z2 Z3 S0 S1 S2 S3 y0 y1 y2 y3;go_wp2;go_roundg go
        case measure=>omega
        case rel=>exact ⟨i+1,j+1,m++[l[i]],(some ⟨rb,rof+4,none⟩),(rc - 1),(n - 1),by omega,by go_num,by omega,by omega,rfl,by omega,hR1.out,G6.out,O6.out,hE'.out,M6.out⟩
    ·have HP:Hid (jn a b c x y z (l.drop i) (l2.drop j)=fil x y z [l[i]]++jn a b c x y z (l.drop (i+1)) (l2.drop j)):=nF_ a b c x y z l l2 i j hkl (by omega);obtain rfl:n=0:=by omega
     go_wp2;refine wp_region_held_drew (S:=(fun w'=>Below wr.heap.size wr w')) (by kernel_rfl) ?_ (fun hH=>?_)
     ·(try dsimp only);exact zd_ _
     refine wTk 0 ?_;refine wTk 1 ?_;refine wTk 2 ?_;refine wTk 3 ?_;refine wTn 4 ?_;refine wTn 5 ?_;refine wTn 6 ?_;refine wTn 7 ?_;refine wTn 8 ?_;refine wTn 9 ?_;refine wTn 10 ?_;refine wTn 11 ?_;refine wTk 12 ?_;refine wDn ?_;have hbx:=hH;clear hH;obtain ⟨⟨A1,A2,A3⟩,⟨B1,B2,B3⟩,_,hz⟩:=JB0.out.gro (hG.out.trans (Gro.of_below hbx));replace s0:=za_ hbx s0 (zh_ (x:=⟨bs,0,none⟩) s0);replace s1:=za_ hbx s1 (zh_ (x:=⟨bs,1,none⟩) s1);replace s2:=za_ hbx s2 (zh_ (x:=⟨bs,2,none⟩) s2);replace s3:=za_ hbx s3 (zh_ (x:=⟨bs,3,none⟩) s3);have OX:Hid (World.ownsRow (wr.drew) 0 89 4 u5 m.length (flat m)):=zP_ hO.out hbx;have GX:Hid (Gro W0 wr.drew (.slice none 0 0) u5):=hG.out.trans (Gro.of_below hbx);clear A1 A2 A3;go_wp2_with fail;refine (tt_ 1 1 (some ⟨wr.drew.heap.size,0,none⟩) [l[i]] m x y z u5 _ rfl (by have:=hM.out; simp; omega) (wN_ HN1 hkl) (un_) (p8_ OX) (OX.out.alloc _)).mono ?_;rintro e w6 ⟨v',rfl,ho6,hg6⟩;have G6:Hid (Gro W0 w6 (.slice none 0 0) v'):=GX.out.trans ((Gro.of_below (zb_ _ _)).trans hg6);have O6:Hid (_:Prop):=ho6
     have E6:Hid ((m++fil x y z [l[i]])++jn a b c x y z (l.drop (i+1)) (l2.drop j)=jn a b c x y z l l2):=by
      show _=_
      rw [List.append_assoc,<- HP.out];exact hE.out
     have M6:Hid ((m++fil x y z [l[i]]).length<=i+1+j):=by
      have h1:=xY_ x y z l[i];have h2:=hM.out;show _<=_
      simp only [List.length_append];omega
     clear ho6 hg6 B1 B2 B3 s0 s1 s2 s3;go_wp2;go_roundg go
     case measure=>omega
     case rel=>exact ⟨i+1,j,m++fil x y z [l[i]],_,rc,0,by omega,by go_num,by omega,by omega,rfl,by omega,hR.out,G6.out,O6.out,E6.out,M6.out⟩
  ·have hkl':¬ (i:Int) < (l.length:Int):=by omega
   have HEE:Hid (m++fil a b c (l2.drop j)=jn a b c x y z l l2):=by
    have:=hE.out
    rw [nG_ _ _ _ _ _ _ _ _ _ _ (by omega)] at this;exact this
   have HD2:Hid (∀ i (h:i < (l2.drop j).length),0<=(l2.drop j)[i].p∧(l2.drop j)[i].p < 3):=fun i h=>by
    rw [List.getElem_drop];exact HN2.out _ _
   obtain ⟨⟨A1,A2,A3⟩,⟨B1,B2,B3⟩,_,hz⟩:=JB0.out.gro hG.out;go_wp2;refine wp_region_held_drew (S:=(fun w'=>w'.cell? ⟨w.heap.size,1,none⟩=some (.int .i64 a)∧w'.cell? ⟨w.heap.size,2,none⟩=some (.int .i64 b)∧w'.cell? ⟨w.heap.size,3,none⟩=some (.int .i64 c)∧w'.cell? ⟨w.heap.size+1,1,none⟩=some (.int .i64 x)∧w'.cell? ⟨w.heap.size+1,2,none⟩=some (.int .i64 y)∧w'.cell? ⟨w.heap.size+1,3,none⟩=some (.int .i64 z))) (by kernel_rfl) ?_ (fun hH=>?_)
   ·(try dsimp only);exact ⟨A1,A2,A3,B1,B2,B3⟩
   refine wTk 0 ?_;refine wTk 1 ?_;refine wTk 2 ?_;refine wTk 3 ?_;refine wTk 5 ?_;refine wTk 6 ?_;refine wTk 7 ?_;refine wTk 8 ?_;refine wRd 4 (fun K hK=>?_);go_simp
   (go_at_call 132; refine (tt_ rc n ro (l2.drop j) m a b c u5 _ (by simp; omega) (by have:=hM.out; simp; omega) HD2.out (zM_ (hG.out.row hR.out (fun _ _=>Gro.none_ne)) (zd_ _)).out (ns_ hG hR) (hO.out.drew)).mono ?_; rintro e w4 ⟨v',rfl,ho4,hg4⟩; obtain ⟨vo,vn,vc,hv'⟩:=r3_ ho4; subst hv'; have G4:Gro W0 w4 (.slice none 0 0) (.slice vo vn vc):=hG.out.trans ((Gro.of_below (zd_ _)).trans hg4); have J4:=JB0.out.gro G4)
   (try simp only []);refine wHk hK (⟨J4.1.1,J4.1.2.1,J4.1.2.2,J4.2.1.1,J4.2.1.2.1,J4.2.1.2.2⟩) ?_;clear hK K hH;intro hH;refine wRd 9 (fun K hK=>?_);go_simp
   (go_at_call 133; refine (t8_ a b c x y z (max a x) (max b y) (max c z) _ (by omega) (by omega) (by omega)).mono ?_; rintro e w5 ⟨rfl,hb⟩; have G5:Gro W0 w5 (.slice none 0 0) (.slice vo vn vc):=G4.trans (Gro.of_below hb); have J5:=JB0.out.gro G5; have O5:=zP_ ho4 hb)
   (try simp only []);refine hK.out _ _ ?_ (fun hH'=>?_)
   ·(try dsimp only);exact ⟨J5.1.1,J5.1.2.1,J5.1.2.2,J5.2.1.1,J5.2.1.2.1,J5.2.1.2.2⟩
   clear hK K hH;have hH:=hH';clear hH';obtain ⟨t0,T0⟩:=isx (J5.2.2.1 0 (by omega)).1;have Z0:=(J5.2.2.1 0 (by omega)).2;obtain ⟨t1,T1⟩:=isx (J5.2.2.1 1 (by omega)).1;have Z1:=(J5.2.2.1 1 (by omega)).2;obtain ⟨t2,T2⟩:=isx (J5.2.2.1 2 (by omega)).1;have Z2:=(J5.2.2.1 2 (by omega)).2;obtain ⟨t3,T3⟩:=isx (J5.2.2.1 3 (by omega)).1;have Z3:=(J5.2.2.1 3 (by omega)).2;refine wLy ?_;refine wTk 10 ?_;refine wRd 11 (fun K hK=>?_);go_simp
   (skip)
   (try simp only []);refine wHk hK (⟨by rw [zE_ (by omega),zE_ (by omega),zE_ (by omega),zE_ (by omega)]; exact J5.1.1,by rw [zE_ (by omega),zE_ (by omega),zE_ (by omega),zE_ (by omega)]; exact J5.1.2.1,by rw [zE_ (by omega),zE_ (by omega),zE_ (by omega),zE_ (by omega)]; exact J5.1.2.2,by rw [zE_ (by omega),zE_ (by omega),zE_ (by omega),zE_ (by omega)]; exact J5.2.1.1,by rw [zE_ (by omega),zE_ (by omega),zE_ (by omega),zE_ (by omega)]; exact J5.2.1.2.1,by rw [zE_ (by omega),zE_ (by omega),zE_ (by omega),zE_ (by omega)]; exact J5.2.1.2.2⟩) ?_;clear hK K hH;intro hH;refine wDn ?_;clear hH;have O6:Hid (_:Prop):=O5;clear HD2 A1 A2 A3 B1 B2 B3;go_wp2;(try rw [Exit.noGoto_ret]);refine bodyPost_ret (v:=.agg #[.slice vo vn vc,.int .i64 (max a x),.int .i64 (max b y),.int .i64 (max c z)]) (by simp [results,Tryz.results70,go_sem,T0,T1,T2,T3,Z0,Z1,Z2,Z3]) rfl ⟨_,rfl,?_,?_⟩
   ·exact Gro.set4 (GW.out.trans G5) (by omega)
   ·have hne:(Value.slice vo vn vc).ownBlock≠some (w.heap.size+1+1):=nb G5 JB0.out.2.2.2;exact zA_ (ownsRow_setCell_other (ownsRow_setCell_other (ownsRow_setCell_other (ownsRow_setCell_other O5 hne _) hne _) hne _) hne _) (by rw [HEE.out]) (by rw [HEE.out])
end Go.Proofs.YtijcjhcgpmnchaaGreatDoor
